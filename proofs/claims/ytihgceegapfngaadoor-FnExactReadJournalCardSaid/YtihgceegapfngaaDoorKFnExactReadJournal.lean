/-
  The checked code answers as the plain functions do; written by program. Conditions: none.
-/
import Derived.Test.YtihgceegapfngaaDoorGFnExactReadJournal
import Derived.Test.YtihgceegapfngaaDoorFB
import Derived.Test.YtihgceegapfngaaDoorProg
set_option linter.unusedVariables false
set_option linter.unusedSimpArgs false
set_option linter.defProp false
set_option maxRecDepth 100000
namespace Go.Rv
open Go.Proofs
theorem ty3 : TIOk Tryd.prog 3 ⟨.int .i64, 1, 8, some (.int .i64), [.int .i64 0], false⟩ := ⟨⟨infoOf (Tryd.prog.info? 3), by kernel_rfl, by kernel_rfl, by kernel_rfl, .int .i64 0, by kernel_rfl, by kernel_rfl⟩, (by kernel_rfl : Tryd.prog.underlying 3 = some (.int .i64)), no_eq⟩
theorem ty4 : TIOk Tryd.prog 4 ⟨.bool, 1, 1, some .bool, [.bool false], false⟩ := ⟨⟨infoOf (Tryd.prog.info? 4), by kernel_rfl, by kernel_rfl, by kernel_rfl, .bool false, by kernel_rfl, by kernel_rfl⟩, (by kernel_rfl : Tryd.prog.underlying 4 = some .bool), no_eq⟩
theorem ty5 : TIOk Tryd.prog 5 ⟨.int .u8, 1, 1, some (.int .u8), [.int .u8 0], false⟩ := ⟨⟨infoOf (Tryd.prog.info? 5), by kernel_rfl, by kernel_rfl, by kernel_rfl, .int .u8 0, by kernel_rfl, by kernel_rfl⟩, (by kernel_rfl : Tryd.prog.underlying 5 = some (.int .u8)), no_eq⟩
theorem ty9 : TIOk Tryd.prog 9 ⟨.str, 1, 16, some .str, [.string ByteArray.empty], false⟩ := ⟨⟨infoOf (Tryd.prog.info? 9), by kernel_rfl, by kernel_rfl, by kernel_rfl, .string ByteArray.empty, by kernel_rfl, by kernel_rfl⟩, (by kernel_rfl : Tryd.prog.underlying 9 = some .string), no_eq⟩
theorem ty25 : TIOk Tryd.prog 25 ⟨.strct [(0, 3), (1, 3), (2, 3)], 3, 24, some (.pair (.int .i64) (.pair (.int .i64) (.pair (.int .i64) .unit))), [.int .i64 0, .int .i64 0, .int .i64 0], true⟩ := ⟨⟨infoOf (Tryd.prog.info? 25), by kernel_rfl, by kernel_rfl, by kernel_rfl, .agg #[.int .i64 0, .int .i64 0, .int .i64 0], by kernel_rfl, by kernel_rfl⟩, ⟨fieldsOf (Tryd.prog.underlying 25), by kernel_rfl, by kernel_rfl⟩, fun _ => by kernel_rfl⟩
theorem ty35 : TIOk Tryd.prog 35 ⟨.slice 25, 1, 24, some (.list (.pair (.int .i64) (.pair (.int .i64) (.pair (.int .i64) .unit)))), [.slice none 0 0], false⟩ := ⟨⟨infoOf (Tryd.prog.info? 35), by kernel_rfl, by kernel_rfl, by kernel_rfl, .slice none 0 0, by kernel_rfl, by kernel_rfl⟩, (by kernel_rfl : Tryd.prog.underlying 35 = some (.slice 25)), no_eq⟩
theorem ty45 : TIOk Tryd.prog 45 ⟨.arr 6 9, 6, 96, none, [.string ByteArray.empty, .string ByteArray.empty, .string ByteArray.empty, .string ByteArray.empty, .string ByteArray.empty, .string ByteArray.empty], false⟩ := ⟨⟨infoOf (Tryd.prog.info? 45), by kernel_rfl, by kernel_rfl, by kernel_rfl, .agg #[.string ByteArray.empty, .string ByteArray.empty, .string ByteArray.empty, .string ByteArray.empty, .string ByteArray.empty, .string ByteArray.empty], by kernel_rfl, by kernel_rfl⟩, (by kernel_rfl : Tryd.prog.underlying 45 = some (.array 6 9)), no_eq⟩
theorem ty46 : TIOk Tryd.prog 46 ⟨.slice 3, 1, 24, some (.list (.int .i64)), [.slice none 0 0], false⟩ := ⟨⟨infoOf (Tryd.prog.info? 46), by kernel_rfl, by kernel_rfl, by kernel_rfl, .slice none 0 0, by kernel_rfl, by kernel_rfl⟩, (by kernel_rfl : Tryd.prog.underlying 46 = some (.slice 3)), no_eq⟩
theorem ty48 : TIOk Tryd.prog 48 ⟨.slice 9, 1, 24, some (.list .str), [.slice none 0 0], false⟩ := ⟨⟨infoOf (Tryd.prog.info? 48), by kernel_rfl, by kernel_rfl, by kernel_rfl, .slice none 0 0, by kernel_rfl, by kernel_rfl⟩, (by kernel_rfl : Tryd.prog.underlying 48 = some (.slice 9)), no_eq⟩
theorem ty57 : TIOk Tryd.prog 57 ⟨.slice 5, 1, 24, some (.list (.int .u8)), [.slice none 0 0], false⟩ := ⟨⟨infoOf (Tryd.prog.info? 57), by kernel_rfl, by kernel_rfl, by kernel_rfl, .slice none 0 0, by kernel_rfl, by kernel_rfl⟩, (by kernel_rfl : Tryd.prog.underlying 57 = some (.slice 5)), no_eq⟩
def tys : List (TypeId × TI) := [(3, ⟨.int .i64, 1, 8, some (.int .i64), [.int .i64 0], false⟩), (4, ⟨.bool, 1, 1, some .bool, [.bool false], false⟩), (5, ⟨.int .u8, 1, 1, some (.int .u8), [.int .u8 0], false⟩), (9, ⟨.str, 1, 16, some .str, [.string ByteArray.empty], false⟩), (25, ⟨.strct [(0, 3), (1, 3), (2, 3)], 3, 24, some (.pair (.int .i64) (.pair (.int .i64) (.pair (.int .i64) .unit))), [.int .i64 0, .int .i64 0, .int .i64 0], true⟩), (35, ⟨.slice 25, 1, 24, some (.list (.pair (.int .i64) (.pair (.int .i64) (.pair (.int .i64) .unit)))), [.slice none 0 0], false⟩), (45, ⟨.arr 6 9, 6, 96, none, [.string ByteArray.empty, .string ByteArray.empty, .string ByteArray.empty, .string ByteArray.empty, .string ByteArray.empty, .string ByteArray.empty], false⟩), (46, ⟨.slice 3, 1, 24, some (.list (.int .i64)), [.slice none 0 0], false⟩), (48, ⟨.slice 9, 1, 24, some (.list .str), [.slice none 0 0], false⟩), (57, ⟨.slice 5, 1, 24, some (.list (.int .u8)), [.slice none 0 0], false⟩)]
theorem tys_ok : TOk Tryd.prog (tlook tys) := tok_of (allc ty3 (allc ty4 (allc ty5 (allc ty9 (allc ty25 (allc ty35 (allc ty45 (allc ty46 (allc ty48 (allc ty57 alln))))))))))
def ioF (f : FuncId) (i : Nat) : Bool := [(20, 0), (43, 1000), (44, 1000)].any fun (p : Nat × Nat) => Nat.beq p.1 f && Nat.beq p.2 i


/-! loop.example/headtrees/spec.l1Cut -/

def spec_l1Cut_an : Ann := (.seq (.leaf [0, 1]) (.seq (.leaf [0, 1, 5]) (.seq (.leaf [0, 1, 5, 6]) (.seq (.seq (.leaf [0, 1, 5, 6, 7]) (.block (.loop (.seq (.seq (.leaf [0, 1, 5, 6, 7, 12]) (.cond (.leaf [0, 1, 5, 6, 7]) (.leaf [0, 5, 6]))) (.seq (.block (.seq (.leaf [0, 1, 5, 6, 7, 19]) (.cond (.seq (.leaf [0, 1, 5, 7]) (.leaf [0, 1, 5, 6, 7])) (.leaf [0, 1, 5, 6, 7])))) (.leaf [0, 1, 5, 6, 7])))))) (.seq (.leaf [4]) (.leaf [4]))))))

noncomputable def spec_l1Cut_ctx : Ctx := ⟨tlook tys, olook [], ioF, 0, false, []⟩

theorem spec_l1Cut_n1_l (x13 : ByteArray) (x14 : Int) : Link spec_l1Cut_ctx LL (Code.seq (cq [0] (bodyOf Tryd.f27)) (Code.seq (cq [0,1] (bodyOf Tryd.f27)) (cq [0,1,1] (bodyOf Tryd.f27)))) (Ann.seq (aq [0] spec_l1Cut_an) (Ann.seq (aq [0,1] spec_l1Cut_an) (aq [0,1,1] spec_l1Cut_an))) ⟨mkE 35 0 [(0, dS x13), (1, dU x14)], []⟩ (spec_l1Cut_n1) (fun (t : Unit) => (Exit.normal, ⟨mkE 35 0 [(0, dS x13), (1, dU x14), (5, .slc 0), (6, dI 0)], [some (.seq .str ([] : List ByteArray))]⟩)) := .of fun K h => by
  simp only [spec_l1Cut_n1, wpW] at h
  exact .of (by kernel_rfl) h

theorem spec_l1Cut_n2_l (x13 : ByteArray) (x14 : Int) : Link spec_l1Cut_ctx LL (cq [0,0,1,1,1] (bodyOf Tryd.f27)) (aq [0,0,1,1,1] spec_l1Cut_an) ⟨mkE 35 0 [(0, dS x13), (1, dU x14), (5, .slc 0), (6, dI 0)], [some (.seq .str ([] : List ByteArray))]⟩ (spec_l1Cut_n2) (fun (t : Unit) => (Exit.normal, ⟨mkE 35 0 [(0, dS x13), (1, dU x14), (5, .slc 0), (6, dI 0), (7, dI 0)], [some (.seq .str ([] : List ByteArray))]⟩)) := .of fun K h => by
  simp only [spec_l1Cut_n2, wpW] at h
  exact .of (by kernel_rfl) h

theorem spec_l1Cut_n3_l (x13 : ByteArray) (x14 : Int) (x51 : Int) (x52 : Int) (x53 : List ByteArray) : Link spec_l1Cut_ctx LL (cq [0,0,1,0,1,1,1] (bodyOf Tryd.f27)) (aq [0,0,1,0,1,1,1] spec_l1Cut_an) ⟨mkE 35 0 [(0, dS x13), (1, dU x14), (5, .slc 0), (6, dI x51), (7, dI x52)], [some (.seq .str x53)]⟩ (spec_l1Cut_n3 x13 x14 x51 x52 x53) (Sum.elim (fun (t : Int × Int × (List ByteArray)) => (Exit.normal, ⟨mkE 35 0 [(0, dS x13), (1, dU x14), (5, .slc 0), (6, dI t.1), (7, dI t.2.1)], [some (.seq .str t.2.2)]⟩)) (fun (t : Int × (List ByteArray)) => ((Exit.exit 0), ⟨mkE 35 0 [(0, dS x13), (5, .slc 0), (6, dI t.1)], [some (.seq .str t.2)]⟩))) := .of fun K h => by
  simp only [spec_l1Cut_n3, wpW] at h
  exact .of (by kernel_rfl) h

def spec_l1Cut_n4_l (x13 : ByteArray) (x14 : Int) := (link_loop (mk := fun (s : Int × Int × (List ByteArray)) => ⟨mkE 35 0 [(0, dS x13), (1, dU x14), (5, .slc 0), (6, dI s.1), (7, dI s.2.1)], [some (.seq .str s.2.2)]⟩) (fin := (fun (t : Int × (List ByteArray)) => ((Exit.exit 0), ⟨mkE 35 0 [(0, dS x13), (5, .slc 0), (6, dI t.1)], [some (.seq .str t.2)]⟩))) (by
  rintro t f K h
  · exact h) (fun s => link_map (spec_l1Cut_n3_l x13 x14 s.1 s.2.1 s.2.2) (Sum.elim (fun (t : Int × Int × (List ByteArray)) => Sum.inl (t.1, t.2.1, t.2.2)) (fun (t : Int × (List ByteArray)) => Sum.inr t)) (by
  rintro (t | t)
  · kernel_rfl
  · kernel_rfl)) (0, 0, ([] : List ByteArray)))

def spec_l1Cut_n5_l (x13 : ByteArray) (x14 : Int) := (link_block (fin2 := (fun (t : Int × (List ByteArray)) => (Exit.normal, ⟨mkE 35 0 [(0, dS x13), (5, .slc 0), (6, dI t.1)], [some (.seq .str t.2)]⟩))) (id := 0) (spec_l1Cut_n4_l x13 x14) (fun (t : Int × (List ByteArray)) => (t.1, t.2)) (by
  rintro t K h
  · exact Eq.mp (by kernel_rfl) h))

def spec_l1Cut_n6_l (x13 : ByteArray) (x14 : Int) := (link_seq (spec_l1Cut_n2_l x13 x14) (fun (t : Unit) => (spec_l1Cut_n5_l x13 x14)))

theorem spec_l1Cut_n7_l (x13 : ByteArray) (x51 : Int) (x53 : List ByteArray) : Link spec_l1Cut_ctx LL (cq [1,1,1,1] (bodyOf Tryd.f27)) (aq [1,1,1,1] spec_l1Cut_an) ⟨mkE 35 0 [(0, dS x13), (5, .slc 0), (6, dI x51)], [some (.seq .str x53)]⟩ (spec_l1Cut_n7 x13 x51 x53) (fun (t : (List ByteArray)) => (Exit.ret, ⟨mkE 35 0 [(4, .slc 0)], [some (.seq .str t)]⟩)) := .of fun K h => by
  simp only [spec_l1Cut_n7, wpW] at h
  exact .of (by kernel_rfl) h

def spec_l1Cut_n8_l (x13 : ByteArray) (x14 : Int) := (link_seq (spec_l1Cut_n6_l x13 x14) (fun (t : Int × (List ByteArray)) => (spec_l1Cut_n7_l x13 t.1 t.2)))

def spec_l1Cut_n9_l (x13 : ByteArray) (x14 : Int) := (link_group (c := (cq [0,1,1] (bodyOf Tryd.f27))) (a := (aq [0,1,1] spec_l1Cut_an)) [(cq [0] (bodyOf Tryd.f27)), (cq [0,1] (bodyOf Tryd.f27))] [(aq [0] spec_l1Cut_an), (aq [0,1] spec_l1Cut_an)] rfl (link_seq (spec_l1Cut_n1_l x13 x14) (fun (t : Unit) => (spec_l1Cut_n8_l x13 x14))))

theorem spec_l1Cut_e (x13 : ByteArray) (x14 : Int) {r : AV} {H' : Heap} (h : (Ans.mk _ (spec_l1Cut x13 x14) (fun (t : (List ByteArray)) => (.slc 0, [some (.seq .str t)])) [] none).run = some (r, H')) : Awp spec_l1Cut_ctx LL (bodyOf Tryd.f27) spec_l1Cut_an ⟨mkE 35 0 [(0, dS x13), (1, dU x14)], []⟩ (Ret (tlook tys) Tryd.f27.results.toList r H') :=
  ret_of' (Link.cast (by kernel_rfl) (by kernel_rfl) (spec_l1Cut_n9_l x13 x14)) (by unfold spec_l1Cut; kernel_rfl) (by
  intro t
  exact ret_mk [.slc 0] (by kernel_rfl) (by kernel_rfl) (by kernel_rfl) (by kernel_rfl)) h

def F_spec_l1Cut : Fun := fun avs H =>
  match avs, H with
  | [.dat .str x13, .dat (.int .u8) x14], [] => ⟨_, spec_l1Cut x13 x14, fun (t : (List ByteArray)) => (.slc 0, [some (.seq .str t)]), [], none⟩
  | _, _ => Ans.no

theorem spec_l1Cut_sound : Sound Tryd.prog 27 F_spec_l1Cut := by
  refine fn_sound' (C := spec_l1Cut_ctx) (c := bodyOf Tryd.f27) (cok_of tys_ok (alln) (alln) (by kernel_rfl)) Tryd.func27 (by kernel_rfl) LL spec_l1Cut_an ?_
  intro avs H r H' h
  unfold F_spec_l1Cut at h
  split at h
  · refine Awp.cast ?_ ?_ ?_ (spec_l1Cut_e _ _ h) <;> kernel_rfl
  · simp [Ans.no, Ans.run] at h


/-! loop.example/headtrees/spec.l1In -/

def spec_l1In_an : Ann := (.seq (.leaf [0, 1, 2]) (.seq (.leaf [6]) (.leaf [6])))

noncomputable def spec_l1In_ctx : Ctx := ⟨tlook tys, olook [], ioF, 0, false, []⟩

theorem spec_l1In_n1_l (x144 : Int) (x145 : Int) (x146 : Int) : Link spec_l1In_ctx LL (bodyOf Tryd.f22) spec_l1In_an ⟨mkE 15 0 [(0, dI x144), (1, dI x145), (2, dI x146)], []⟩ (spec_l1In_n1 x144 x145 x146) (fun (t : Bool) => (Exit.ret, ⟨mkE 15 0 [(6, dB t)], []⟩)) := .of fun K h => by
  simp only [spec_l1In_n1, wpW] at h
  exact .of (by kernel_rfl) h

theorem spec_l1In_e (x144 : Int) (x145 : Int) (x146 : Int) {r : AV} {H' : Heap} (h : (Ans.mk _ (spec_l1In x144 x145 x146) (fun (t : Bool) => (dB t, [])) [] none).run = some (r, H')) : Awp spec_l1In_ctx LL (bodyOf Tryd.f22) spec_l1In_an ⟨mkE 15 0 [(0, dI x144), (1, dI x145), (2, dI x146)], []⟩ (Ret (tlook tys) Tryd.f22.results.toList r H') :=
  ret_of' (spec_l1In_n1_l x144 x145 x146) (by unfold spec_l1In; kernel_rfl) (by
  intro t
  exact ret_mk [dB t] (by kernel_rfl) (by kernel_rfl) (by kernel_rfl) (by kernel_rfl)) h

def F_spec_l1In : Fun := fun avs H =>
  match avs, H with
  | [.dat (.int .i64) x144, .dat (.int .i64) x145, .dat (.int .i64) x146], [] => ⟨_, spec_l1In x144 x145 x146, fun (t : Bool) => (dB t, []), [], none⟩
  | _, _ => Ans.no

theorem spec_l1In_sound : Sound Tryd.prog 22 F_spec_l1In := by
  refine fn_sound' (C := spec_l1In_ctx) (c := bodyOf Tryd.f22) (cok_of tys_ok (alln) (alln) (by kernel_rfl)) Tryd.func22 (by kernel_rfl) LL spec_l1In_an ?_
  intro avs H r H' h
  unfold F_spec_l1In at h
  split at h
  · refine Awp.cast ?_ ?_ ?_ (spec_l1In_e _ _ _ h) <;> kernel_rfl
  · simp [Ans.no, Ans.run] at h


/-! loop.example/headtrees/spec.l1Digits -/

def spec_l1Digits_an : Ann := (.seq (.leaf [0]) (.seq (.seq (.leaf [0, 18]) (.cond (.seq (.leaf [2]) (.leaf [2])) (.leaf [0]))) (.seq (.leaf [0, 3]) (.seq (.seq (.leaf [0, 3, 4]) (.block (.loop (.seq (.seq (.leaf [0, 3, 4, 22]) (.cond (.leaf [0, 3, 4]) (.leaf [3]))) (.seq (.block (.seq (.seq (.leaf [0, 3, 4, 34]) (.cond (.seq (.leaf [2]) (.leaf [2])) (.leaf [0, 3, 4]))) (.leaf [0, 3, 4]))) (.leaf [0, 3, 4])))))) (.seq (.leaf [2]) (.leaf [2]))))))

noncomputable def spec_l1Digits_ctx : Ctx := ⟨tlook tys, olook [(22, F_spec_l1In)], ioF, 0, false, []⟩

theorem spec_l1Digits_n1_l (x141 : ByteArray) : Link spec_l1Digits_ctx LL (Code.seq (cq [0] (bodyOf Tryd.f28)) (Code.seq (cq [0,1] (bodyOf Tryd.f28)) (cq [0,1,1] (bodyOf Tryd.f28)))) (Ann.seq (aq [0] spec_l1Digits_an) (Ann.seq (aq [0,1] spec_l1Digits_an) (aq [0,1,1] spec_l1Digits_an))) ⟨mkE 44 0 [(0, dS x141)], []⟩ (spec_l1Digits_n1 x141) (Sum.elim (fun (t : Unit) => (Exit.normal, ⟨mkE 44 0 [(0, dS x141), (3, dI 0)], []⟩)) (fun (t : Int) => (Exit.ret, ⟨mkE 44 0 [(2, dI t)], []⟩))) := .of fun K h => by
  simp only [spec_l1Digits_n1, wpW] at h
  exact .of (by kernel_rfl) h

theorem spec_l1Digits_n2_l (x141 : ByteArray) : Link spec_l1Digits_ctx LL (cq [0,0,1,1,1] (bodyOf Tryd.f28)) (aq [0,0,1,1,1] spec_l1Digits_an) ⟨mkE 44 0 [(0, dS x141), (3, dI 0)], []⟩ (spec_l1Digits_n2) (fun (t : Unit) => (Exit.normal, ⟨mkE 44 0 [(0, dS x141), (3, dI 0), (4, dI 0)], []⟩)) := .of fun K h => by
  simp only [spec_l1Digits_n2, wpW] at h
  exact .of (by kernel_rfl) h

theorem spec_l1Digits_n3_l (x141 : ByteArray) (x194 : Int) (x195 : Int) : Link spec_l1Digits_ctx LL (cq [0,0,1,0,1,1,1] (bodyOf Tryd.f28)) (aq [0,0,1,0,1,1,1] spec_l1Digits_an) ⟨mkE 44 0 [(0, dS x141), (3, dI x194), (4, dI x195)], []⟩ (spec_l1Digits_n3 x141 x194 x195) (Sum.elim (fun (t : Int × Int) => (Exit.normal, ⟨mkE 44 0 [(0, dS x141), (3, dI t.1), (4, dI t.2)], []⟩)) (Sum.elim (fun (t : Int) => (Exit.ret, ⟨mkE 44 0 [(2, dI t)], []⟩)) (fun (t : Int) => ((Exit.exit 0), ⟨mkE 44 0 [(3, dI t)], []⟩)))) := .of fun K h => by
  simp only [spec_l1Digits_n3, wpW] at h
  exact .of (by kernel_rfl) h

def spec_l1Digits_n4_l (x141 : ByteArray) := (link_loop (mk := fun (s : Int × Int) => ⟨mkE 44 0 [(0, dS x141), (3, dI s.1), (4, dI s.2)], []⟩) (fin := (Sum.elim (fun (t : Int) => (Exit.ret, ⟨mkE 44 0 [(2, dI t)], []⟩)) (fun (t : Int) => ((Exit.exit 0), ⟨mkE 44 0 [(3, dI t)], []⟩)))) (by
  rintro (t | t) f K h
  · exact h
  · exact h) (fun s => link_map (spec_l1Digits_n3_l x141 s.1 s.2) (Sum.elim (fun (t : Int × Int) => Sum.inl (t.1, t.2)) (Sum.elim (fun (t : Int) => Sum.inr (Sum.inl t)) (fun (t : Int) => Sum.inr (Sum.inr t)))) (by
  rintro (t | t | t)
  · kernel_rfl
  · kernel_rfl
  · kernel_rfl)) (0, 0))

def spec_l1Digits_n5_l (x141 : ByteArray) := (link_block (fin2 := (Sum.elim (fun (t : Int) => (Exit.normal, ⟨mkE 44 0 [(3, dI t)], []⟩)) (fun (t : Int) => (Exit.ret, ⟨mkE 44 0 [(2, dI t)], []⟩)))) (id := 0) (spec_l1Digits_n4_l x141) (Sum.elim (fun (t : Int) => (Sum.inr t)) (fun (t : Int) => (Sum.inl t))) (by
  rintro (t | t) K h
  · exact Eq.mp (by kernel_rfl) h
  · exact Eq.mp (by kernel_rfl) h))

def spec_l1Digits_n6_l (x141 : ByteArray) := (link_seq (spec_l1Digits_n2_l x141) (fun (t : Unit) => (spec_l1Digits_n5_l x141)))

theorem spec_l1Digits_n7_l (x194 : Int) : Link spec_l1Digits_ctx LL (cq [1,1,1,1] (bodyOf Tryd.f28)) (aq [1,1,1,1] spec_l1Digits_an) ⟨mkE 44 0 [(3, dI x194)], []⟩ (spec_l1Digits_n7 x194) (fun (t : Int) => (Exit.ret, ⟨mkE 44 0 [(2, dI t)], []⟩)) := .of fun K h => by
  simp only [spec_l1Digits_n7, wpW] at h
  exact .of (by kernel_rfl) h

def spec_l1Digits_n8_l (x141 : ByteArray) := (link_seq2 (spec_l1Digits_n6_l x141) (fun (t : Int) => (spec_l1Digits_n7_l t)) (fun (t : Int) => t) (by
  rintro t
  · kernel_rfl) (by
  rintro t f K h
  · exact h))

def spec_l1Digits_n9_l (x141 : ByteArray) := (link_group (c := (cq [0,1,1] (bodyOf Tryd.f28))) (a := (aq [0,1,1] spec_l1Digits_an)) [(cq [0] (bodyOf Tryd.f28)), (cq [0,1] (bodyOf Tryd.f28))] [(aq [0] spec_l1Digits_an), (aq [0,1] spec_l1Digits_an)] rfl (link_seq2 (spec_l1Digits_n1_l x141) (fun (t : Unit) => (spec_l1Digits_n8_l x141)) (fun (t : Int) => t) (by
  rintro t
  · kernel_rfl) (by
  rintro t f K h
  · exact h)))

theorem spec_l1Digits_e (x141 : ByteArray) {r : AV} {H' : Heap} (h : (Ans.mk _ (spec_l1Digits x141) (fun (t : Int) => (dI t, [])) [] none).run = some (r, H')) : Awp spec_l1Digits_ctx LL (bodyOf Tryd.f28) spec_l1Digits_an ⟨mkE 44 0 [(0, dS x141)], []⟩ (Ret (tlook tys) Tryd.f28.results.toList r H') :=
  ret_of' (Link.cast (by kernel_rfl) (by kernel_rfl) (spec_l1Digits_n9_l x141)) (by unfold spec_l1Digits; kernel_rfl) (by
  intro t
  exact ret_mk [dI t] (by kernel_rfl) (by kernel_rfl) (by kernel_rfl) (by kernel_rfl)) h

def F_spec_l1Digits : Fun := fun avs H =>
  match avs, H with
  | [.dat .str x141], [] => ⟨_, spec_l1Digits x141, fun (t : Int) => (dI t, []), [], none⟩
  | _, _ => Ans.no

theorem spec_l1Digits_sound : Sound Tryd.prog 28 F_spec_l1Digits := by
  refine fn_sound' (C := spec_l1Digits_ctx) (c := bodyOf Tryd.f28) (cok_of tys_ok (allc spec_l1In_sound alln) (allc Tryd.call22 alln) (by kernel_rfl)) Tryd.func28 (by kernel_rfl) LL spec_l1Digits_an ?_
  intro avs H r H' h
  unfold F_spec_l1Digits at h
  split at h
  · refine Awp.cast ?_ ?_ ?_ (spec_l1Digits_e _ h) <;> kernel_rfl
  · simp [Ans.no, Ans.run] at h


/-! loop.example/headtrees/spec.l1Number -/

def spec_l1Number_an : Ann := (.seq (.leaf [0]) (.seq (.seq (.leaf [0, 4]) (.cond (.seq (.leafF [⟨5, 9, false, none, none⟩] [2]) (.leaf [2])) (.leaf [0]))) (.seq (.draw [2, 7] [0, 1, 3, 4, 5, 6, 7, 8, 2, 9, 10] [] [2]) (.leaf [2]))))

def F_spec_l1Number_fuel (n : Nat) : Fun := fun avs H =>
  match avs, H with
  | [.dat (.int .i64) x324], [] => ⟨_, spec_l1Number_fuel n x324, fun (t : ByteArray) => (dS t, []), [], none⟩
  | _, _ => Ans.no

noncomputable def spec_l1Number_ctx (n : Nat) : Ctx := ⟨tlook tys, olook [(23, F_spec_l1Number_fuel n)], ioF, 0, false, []⟩

theorem spec_l1Number_n1_l (n : Nat) (x324 : Int) : Link (spec_l1Number_ctx n) LL (bodyOf Tryd.f23) spec_l1Number_an ⟨mkE 21 0 [(0, dI x324)], []⟩ (spec_l1Number_n1 (spec_l1Number_fuel n) x324) (fun (t : ByteArray) => (Exit.ret, ⟨mkE 21 0 [(2, dS t)], []⟩)) := .of fun K h => by
  simp only [spec_l1Number_n1, wpW] at h
  exact .of (by kernel_rfl) h

theorem spec_l1Number_e (n : Nat) (x324 : Int) {r : AV} {H' : Heap} (h : (Ans.mk _ (spec_l1Number_fuel (n + 1) x324) (fun (t : ByteArray) => (dS t, [])) [] none).run = some (r, H')) : Awp (spec_l1Number_ctx n) LL (bodyOf Tryd.f23) spec_l1Number_an ⟨mkE 21 0 [(0, dI x324)], []⟩ (Ret (tlook tys) Tryd.f23.results.toList r H') :=
  ret_of' (spec_l1Number_n1_l n x324) (by (show _ = _); kernel_rfl) (by
  intro t
  exact ret_mk [dS t] (by kernel_rfl) (by kernel_rfl) (by kernel_rfl) (by kernel_rfl)) h

theorem spec_l1Number_step (n : Nat) (h23 : Sound Tryd.prog 23 (F_spec_l1Number_fuel n)) : Sound Tryd.prog 23 (F_spec_l1Number_fuel (n + 1)) := by
  refine fn_sound' (C := spec_l1Number_ctx n) (c := bodyOf Tryd.f23) (cok_of tys_ok (allc h23 alln) (allc Tryd.call23 alln) (by kernel_rfl)) Tryd.func23 (by kernel_rfl) LL spec_l1Number_an ?_
  intro avs H r H' h
  unfold F_spec_l1Number_fuel at h
  split at h
  · refine Awp.cast ?_ ?_ ?_ (spec_l1Number_e n _ h) <;> kernel_rfl
  · simp [Ans.no, Ans.run] at h

theorem spec_l1Number_null : Sound Tryd.prog 23 (F_spec_l1Number_fuel 0) := by
  intro avs H r H' h
  unfold F_spec_l1Number_fuel at h
  split at h
  · simp [spec_l1Number_fuel, spec_l1Number_knot, Ans.run] at h
  · simp [Ans.no, Ans.run] at h

theorem spec_l1Number_knot_all : ∀ n, Sound Tryd.prog 23 (F_spec_l1Number_fuel n)
  | 0 => spec_l1Number_null
  | n + 1 => by
    have h23 := spec_l1Number_knot_all n
    exact spec_l1Number_step n h23

def F_spec_l1Number : Fun := fun avs H =>
  match avs, H with
  | [.dat (.int .i64) x324], [] => ⟨_, spec_l1Number x324, fun (t : ByteArray) => (dS t, []), [], none⟩
  | _, _ => Ans.no

theorem spec_l1Number_sound : Sound Tryd.prog 23 F_spec_l1Number := by
  have e : F_spec_l1Number = F_spec_l1Number_fuel RR := by
    funext avs H
    unfold F_spec_l1Number F_spec_l1Number_fuel
    split <;> first | rfl | (simp only [spec_l1Number])
  rw [e]
  exact (spec_l1Number_knot_all RR)


/-! loop.example/headtrees/spec.DeedText -/

def spec_DeedText_an : Ann := (.seq (.leaf [1]) (.seq (.block (.seq (.leaf [1, 3]) (.cond (.seq (.draw [2, 7] [0, 1, 5, 6, 2, 3, 4, 7, 8, 9] [] [2]) (.leaf [2])) (.seq (.leaf [1, 26]) (.cond (.seq (.leaf [2]) (.leaf [2])) (.seq (.leaf [1, 44]) (.cond (.seq (.leaf [2]) (.leaf [2])) (.seq (.leaf [1, 48]) (.cond (.seq (.leaf [2]) (.leaf [2])) (.seq (.leaf [1, 52]) (.cond (.seq (.leaf [2]) (.leaf [2])) (.seq (.leaf [56]) (.cond (.seq (.leaf [2]) (.leaf [2])) (.leaf [])))))))))))))) (.seq (.leaf [2]) (.leaf [2]))))

noncomputable def spec_DeedText_ctx : Ctx := ⟨tlook tys, olook [(22, F_spec_l1In), (23, F_spec_l1Number)], ioF, 0, false, []⟩

theorem spec_DeedText_n1_l (x317 : Int) (x318 : Int) (x319 : Int) : Link spec_DeedText_ctx LL (cq [0] (bodyOf Tryd.f7)) (aq [0] spec_DeedText_an) ⟨mkE 60 0 [(0, .agg [dI x317, dI x318, dI x319])], []⟩ (spec_DeedText_n1) (fun (t : Unit) => (Exit.normal, ⟨mkE 60 0 [(1, .ptr 0 0)], [some (.box [dI x317, dI x318, dI x319])]⟩)) := .of fun K h => by
  simp only [spec_DeedText_n1, wpW] at h
  exact .of (by kernel_rfl) h

theorem spec_DeedText_n2_l (x317 : Int) (x318 : Int) (x319 : Int) : Link spec_DeedText_ctx LL (cq [0,0,0,1] (bodyOf Tryd.f7)) (aq [0,0,0,1] spec_DeedText_an) ⟨mkE 60 0 [(1, .ptr 0 0)], [some (.box [dI x317, dI x318, dI x319])]⟩ (spec_DeedText_n2 x317 x318 x319) (fun (t : Bool) => (Exit.normal, ⟨mkE 60 0 [(1, .ptr 0 0), (3, dB t)], [some (.box [dI x317, dI x318, dI x319])]⟩)) := .of fun K h => by
  simp only [spec_DeedText_n2, wpW] at h
  exact .of (by kernel_rfl) h

theorem spec_DeedText_n3_l (x540 : Bool) (x317 : Int) (x318 : Int) (x319 : Int) : Link spec_DeedText_ctx LL (cq [0,1,0,0,1] (bodyOf Tryd.f7)) (aq [0,1,0,0,1] spec_DeedText_an) ⟨mkE 60 0 [(1, .ptr 0 0), (3, dB x540)], [some (.box [dI x317, dI x318, dI x319])]⟩ (spec_DeedText_n3 x318 x319) (fun (t : ByteArray) => (Exit.ret, ⟨mkE 60 0 [(2, dS t)], []⟩)) := .of fun K h => by
  simp only [spec_DeedText_n3, wpW] at h
  exact .of (by kernel_rfl) h

theorem spec_DeedText_n4_l (x540 : Bool) (x317 : Int) (x318 : Int) (x319 : Int) : Link spec_DeedText_ctx LL (cq [0,1,1,0,0,1] (bodyOf Tryd.f7)) (aq [0,1,1,0,0,1] spec_DeedText_an) ⟨mkE 60 0 [(1, .ptr 0 0), (3, dB x540)], [some (.box [dI x317, dI x318, dI x319])]⟩ (spec_DeedText_n4 x317 x318 x319) (fun (t : Bool) => (Exit.normal, ⟨mkE 60 0 [(1, .ptr 0 0), (26, dB t)], [some (.box [dI x317, dI x318, dI x319])]⟩)) := .of fun K h => by
  simp only [spec_DeedText_n4, wpW] at h
  exact .of (by kernel_rfl) h

theorem spec_DeedText_n5_l (x638 : Bool) (x317 : Int) (x318 : Int) (x319 : Int) : Link spec_DeedText_ctx LL (cq [1,1,1,0,0,1] (bodyOf Tryd.f7)) (aq [1,1,1,0,0,1] spec_DeedText_an) ⟨mkE 60 0 [(1, .ptr 0 0), (26, dB x638)], [some (.box [dI x317, dI x318, dI x319])]⟩ (spec_DeedText_n5 x638 x317 x318 x319) (Sum.elim (fun (t : Unit) => (Exit.normal, ⟨mkE 60 0 [], []⟩)) (fun (t : ByteArray) => (Exit.ret, ⟨mkE 60 0 [(2, dS t)], []⟩))) := .of fun K h => by
  simp only [spec_DeedText_n5, wpW] at h
  exact .of (by kernel_rfl) h

def spec_DeedText_n6_l (x540 : Bool) (x317 : Int) (x318 : Int) (x319 : Int) := (link_seq (spec_DeedText_n4_l x540 x317 x318 x319) (fun (t : Bool) => (spec_DeedText_n5_l t x317 x318 x319)))

def spec_DeedText_n7_l (x540 : Bool) (x317 : Int) (x318 : Int) (x319 : Int) := (link_cond (c := .tmp 3) (g := x540) (by kernel_rfl) ((link_map (fin2 := (Sum.elim (fun (t : Unit) => (Exit.normal, ⟨mkE 60 0 [], []⟩)) (fun (t : ByteArray) => (Exit.ret, ⟨mkE 60 0 [(2, dS t)], []⟩)))) (spec_DeedText_n3_l x540 x317 x318 x319) (fun (t : ByteArray) => (Sum.inr t)) (by
  rintro t
  · kernel_rfl))) ((spec_DeedText_n6_l x540 x317 x318 x319)))

def spec_DeedText_n8_l (x317 : Int) (x318 : Int) (x319 : Int) := (link_seq (spec_DeedText_n2_l x317 x318 x319) (fun (t : Bool) => (spec_DeedText_n7_l t x317 x318 x319)))

def spec_DeedText_n9_l (x317 : Int) (x318 : Int) (x319 : Int) := (link_block (fin2 := (Sum.elim (fun (t : Unit) => (Exit.normal, ⟨mkE 60 0 [], []⟩)) (fun (t : ByteArray) => (Exit.ret, ⟨mkE 60 0 [(2, dS t)], []⟩)))) (id := 0) (spec_DeedText_n8_l x317 x318 x319) (Sum.elim (fun (t : Unit) => (Sum.inl ())) (fun (t : ByteArray) => (Sum.inr t))) (by
  rintro (t | t) K h
  · exact Eq.mp (by kernel_rfl) h
  · exact Eq.mp (by kernel_rfl) h))

theorem spec_DeedText_n10_l : Link spec_DeedText_ctx LL (cq [1,1] (bodyOf Tryd.f7)) (aq [1,1] spec_DeedText_an) ⟨mkE 60 0 [], []⟩ (spec_DeedText_n10) (fun (t : ByteArray) => (Exit.ret, ⟨mkE 60 0 [(2, dS t)], []⟩)) := .of fun K h => by
  simp only [spec_DeedText_n10, wpW] at h
  exact .of (by kernel_rfl) h

def spec_DeedText_n11_l (x317 : Int) (x318 : Int) (x319 : Int) := (link_seq2 (spec_DeedText_n9_l x317 x318 x319) (fun (t : Unit) => (spec_DeedText_n10_l)) (fun (t : ByteArray) => t) (by
  rintro t
  · kernel_rfl) (by
  rintro t f K h
  · exact h))

def spec_DeedText_n12_l (x317 : Int) (x318 : Int) (x319 : Int) := (link_seq (spec_DeedText_n1_l x317 x318 x319) (fun (t : Unit) => (spec_DeedText_n11_l x317 x318 x319)))

theorem spec_DeedText_e (x317 : Int) (x318 : Int) (x319 : Int) {r : AV} {H' : Heap} (h : (Ans.mk _ (spec_DeedText x317 x318 x319) (fun (t : ByteArray) => (dS t, [])) [] none).run = some (r, H')) : Awp spec_DeedText_ctx LL (bodyOf Tryd.f7) spec_DeedText_an ⟨mkE 60 0 [(0, .agg [dI x317, dI x318, dI x319])], []⟩ (Ret (tlook tys) Tryd.f7.results.toList r H') :=
  ret_of' (Link.cast (by kernel_rfl) (by kernel_rfl) (spec_DeedText_n12_l x317 x318 x319)) (by unfold spec_DeedText; kernel_rfl) (by
  intro t
  exact ret_mk [dS t] (by kernel_rfl) (by kernel_rfl) (by kernel_rfl) (by kernel_rfl)) h

def F_spec_DeedText : Fun := fun avs H =>
  match avs, H with
  | [.agg [.dat (.int .i64) x317, .dat (.int .i64) x318, .dat (.int .i64) x319]], [] => ⟨_, spec_DeedText x317 x318 x319, fun (t : ByteArray) => (dS t, []), [], none⟩
  | _, _ => Ans.no

theorem spec_DeedText_sound : Sound Tryd.prog 7 F_spec_DeedText := by
  refine fn_sound' (C := spec_DeedText_ctx) (c := bodyOf Tryd.f7) (cok_of tys_ok (allc spec_l1In_sound (allc spec_l1Number_sound alln)) (allc Tryd.call22 (allc Tryd.call23 alln)) (by kernel_rfl)) Tryd.func7 (by kernel_rfl) LL spec_DeedText_an ?_
  intro avs H r H' h
  unfold F_spec_DeedText at h
  split at h
  · refine Awp.cast ?_ ?_ ?_ (spec_DeedText_e _ _ _ h) <;> kernel_rfl
  · simp [Ans.no, Ans.run] at h


/-! loop.example/headtrees/spec.ReadDeed -/

def spec_ReadDeed_an : Ann := (.seq (.leaf [0, 2]) (.seq (.leaf [0, 2, 4]) (.seq (.leaf [0, 2, 4, 5]) (.seq (.seq (.leaf [0, 2, 4, 5, 16]) (.cond (.draw [4, 8] [0, 1, 2, 3, 5, 6, 7, 4, 8, 9, 10, 11, 12] [] [0, 2, 4, 5]) (.leaf [0, 2, 4, 5]))) (.seq (.seq (.leaf [0, 2, 4, 5, 31]) (.cond (.leaf [0, 2, 5]) (.leaf [0, 2, 5]))) (.seq (.seq (.leaf [0, 2, 5, 6]) (.block (.loop (.seq (.seq (.leaf [0, 2, 5, 6, 43]) (.cond (.leaf [0, 2, 5, 6]) (.leaf [2]))) (.seq (.block (.seq (.leaf [0, 2, 5, 6, 56]) (.cond (.seq (.leaf [2, 3]) (.leaf [2, 3])) (.leaf [0, 2, 5, 6])))) (.leaf [0, 2, 5, 6])))))) (.seq (.leaf [2, 3]) (.leaf [2, 3]))))))))

noncomputable def spec_ReadDeed_ctx : Ctx := ⟨tlook tys, olook [(27, F_spec_l1Cut), (28, F_spec_l1Digits), (7, F_spec_DeedText)], ioF, 0, false, []⟩

theorem spec_ReadDeed_n1_l (x10 : ByteArray) : Link spec_ReadDeed_ctx LL (Code.seq (cq [0] (bodyOf Tryd.f10)) (Code.seq (cq [0,1] (bodyOf Tryd.f10)) (cq [0,1,1] (bodyOf Tryd.f10)))) (Ann.seq (aq [0] spec_ReadDeed_an) (Ann.seq (aq [0,1] spec_ReadDeed_an) (aq [0,1,1] spec_ReadDeed_an))) ⟨mkE 62 0 [(0, dS x10)], []⟩ (spec_ReadDeed_n1 x10) (fun (t : (List ByteArray) × (List (Int × Int × Int × Unit))) => (Exit.normal, ⟨mkE 62 0 [(0, dS x10), (2, .ptr 0 0), (4, .slc 1), (5, .slc 2)], [some (.box [dI 0, dI 0, dI 0]), some (.seq .str t.1), some (.seq (.pair (.int .i64) (.pair (.int .i64) (.pair (.int .i64) .unit))) t.2)]⟩)) := .of fun K h => by
  simp only [spec_ReadDeed_n1, wpW] at h
  exact .of (by kernel_rfl) h

theorem spec_ReadDeed_n2_l (x10 : ByteArray) (x102 : List ByteArray) (x120 : List (Int × Int × Int × Unit)) : Link spec_ReadDeed_ctx LL (cq [0,0,1,1,1] (bodyOf Tryd.f10)) (aq [0,0,1,1,1] spec_ReadDeed_an) ⟨mkE 62 0 [(0, dS x10), (2, .ptr 0 0), (4, .slc 1), (5, .slc 2)], [some (.box [dI 0, dI 0, dI 0]), some (.seq .str x102), some (.seq (.pair (.int .i64) (.pair (.int .i64) (.pair (.int .i64) .unit))) x120)]⟩ (spec_ReadDeed_n2 x102) (fun (t : Bool) => (Exit.normal, ⟨mkE 62 0 [(0, dS x10), (2, .ptr 0 0), (4, .slc 1), (5, .slc 2), (16, dB t)], [some (.box [dI 0, dI 0, dI 0]), some (.seq .str x102), some (.seq (.pair (.int .i64) (.pair (.int .i64) (.pair (.int .i64) .unit))) x120)]⟩)) := .of fun K h => by
  simp only [spec_ReadDeed_n2, wpW] at h
  exact .of (by kernel_rfl) h

theorem spec_ReadDeed_n3_l (x10 : ByteArray) (x247 : Bool) (x102 : List ByteArray) (x120 : List (Int × Int × Int × Unit)) : Link spec_ReadDeed_ctx LL (cq [0,1,0,1,1,1] (bodyOf Tryd.f10)) (aq [0,1,0,1,1,1] spec_ReadDeed_an) ⟨mkE 62 0 [(0, dS x10), (2, .ptr 0 0), (4, .slc 1), (5, .slc 2), (16, dB x247)], [some (.box [dI 0, dI 0, dI 0]), some (.seq .str x102), some (.seq (.pair (.int .i64) (.pair (.int .i64) (.pair (.int .i64) .unit))) x120)]⟩ (spec_ReadDeed_n3 x102 x120) (fun (t : (List (Int × Int × Int × Unit))) => (Exit.normal, ⟨mkE 62 0 [(0, dS x10), (2, .ptr 0 0), (4, .slc 1), (5, .slc 2)], [some (.box [dI 0, dI 0, dI 0]), some (.seq .str x102), some (.seq (.pair (.int .i64) (.pair (.int .i64) (.pair (.int .i64) .unit))) t)]⟩)) := .of fun K h => by
  simp only [spec_ReadDeed_n3, wpW] at h
  exact .of (by kernel_rfl) h

theorem spec_ReadDeed_n4_l (x10 : ByteArray) (x247 : Bool) (x102 : List ByteArray) (x120 : List (Int × Int × Int × Unit)) : Link spec_ReadDeed_ctx LL (cq [1,1,0,1,1,1] (bodyOf Tryd.f10)) (aq [1,1,0,1,1,1] spec_ReadDeed_an) ⟨mkE 62 0 [(0, dS x10), (2, .ptr 0 0), (4, .slc 1), (5, .slc 2), (16, dB x247)], [some (.box [dI 0, dI 0, dI 0]), some (.seq .str x102), some (.seq (.pair (.int .i64) (.pair (.int .i64) (.pair (.int .i64) .unit))) x120)]⟩ (spec_ReadDeed_n4) (fun (t : Unit) => (Exit.normal, ⟨mkE 62 0 [(0, dS x10), (2, .ptr 0 0), (4, .slc 1), (5, .slc 2)], [some (.box [dI 0, dI 0, dI 0]), some (.seq .str x102), some (.seq (.pair (.int .i64) (.pair (.int .i64) (.pair (.int .i64) .unit))) x120)]⟩)) := .of fun K h => by
  simp only [spec_ReadDeed_n4, wpW] at h
  exact .of (by kernel_rfl) h

def spec_ReadDeed_n5_l (x10 : ByteArray) (x247 : Bool) (x102 : List ByteArray) (x120 : List (Int × Int × Int × Unit)) := (link_cond (c := .tmp 16) (g := x247) (by kernel_rfl) ((link_map (fin2 := (fun (t : (List (Int × Int × Int × Unit))) => (Exit.normal, ⟨mkE 62 0 [(0, dS x10), (2, .ptr 0 0), (4, .slc 1), (5, .slc 2)], [some (.box [dI 0, dI 0, dI 0]), some (.seq .str x102), some (.seq (.pair (.int .i64) (.pair (.int .i64) (.pair (.int .i64) .unit))) t)]⟩))) (spec_ReadDeed_n3_l x10 x247 x102 x120) (fun (t : (List (Int × Int × Int × Unit))) => t) (by
  rintro t
  · kernel_rfl))) ((link_map (fin2 := (fun (t : (List (Int × Int × Int × Unit))) => (Exit.normal, ⟨mkE 62 0 [(0, dS x10), (2, .ptr 0 0), (4, .slc 1), (5, .slc 2)], [some (.box [dI 0, dI 0, dI 0]), some (.seq .str x102), some (.seq (.pair (.int .i64) (.pair (.int .i64) (.pair (.int .i64) .unit))) t)]⟩))) (spec_ReadDeed_n4_l x10 x247 x102 x120) (fun (t : Unit) => x120) (by
  rintro t
  · kernel_rfl))))

def spec_ReadDeed_n6_l (x10 : ByteArray) (x102 : List ByteArray) (x120 : List (Int × Int × Int × Unit)) := (link_seq (spec_ReadDeed_n2_l x10 x102 x120) (fun (t : Bool) => (spec_ReadDeed_n5_l x10 t x102 x120)))

theorem spec_ReadDeed_n7_l (x10 : ByteArray) (x102 : List ByteArray) (x289 : List (Int × Int × Int × Unit)) : Link spec_ReadDeed_ctx LL (cq [0,1,1,1,1] (bodyOf Tryd.f10)) (aq [0,1,1,1,1] spec_ReadDeed_an) ⟨mkE 62 0 [(0, dS x10), (2, .ptr 0 0), (4, .slc 1), (5, .slc 2)], [some (.box [dI 0, dI 0, dI 0]), some (.seq .str x102), some (.seq (.pair (.int .i64) (.pair (.int .i64) (.pair (.int .i64) .unit))) x289)]⟩ (spec_ReadDeed_n7 x102 x289) (fun (t : (List (Int × Int × Int × Unit))) => (Exit.normal, ⟨mkE 62 0 [(0, dS x10), (2, .ptr 0 0), (5, .slc 1)], [some (.box [dI 0, dI 0, dI 0]), some (.seq (.pair (.int .i64) (.pair (.int .i64) (.pair (.int .i64) .unit))) t)]⟩)) := .of fun K h => by
  simp only [spec_ReadDeed_n7, wpW] at h
  exact .of (by kernel_rfl) h

theorem spec_ReadDeed_n8_l (x10 : ByteArray) (x302 : List (Int × Int × Int × Unit)) : Link spec_ReadDeed_ctx LL (cq [0,0,1,1,1,1,1] (bodyOf Tryd.f10)) (aq [0,0,1,1,1,1,1] spec_ReadDeed_an) ⟨mkE 62 0 [(0, dS x10), (2, .ptr 0 0), (5, .slc 1)], [some (.box [dI 0, dI 0, dI 0]), some (.seq (.pair (.int .i64) (.pair (.int .i64) (.pair (.int .i64) .unit))) x302)]⟩ (spec_ReadDeed_n8) (fun (t : Unit) => (Exit.normal, ⟨mkE 62 0 [(0, dS x10), (2, .ptr 0 0), (5, .slc 1), (6, dI 0)], [some (.box [dI 0, dI 0, dI 0]), some (.seq (.pair (.int .i64) (.pair (.int .i64) (.pair (.int .i64) .unit))) x302)]⟩)) := .of fun K h => by
  simp only [spec_ReadDeed_n8, wpW] at h
  exact .of (by kernel_rfl) h

theorem spec_ReadDeed_n9_l (x10 : ByteArray) (x688 : Int) (x302 : List (Int × Int × Int × Unit)) : Link spec_ReadDeed_ctx LL (cq [0,0,1,0,1,1,1,1,1] (bodyOf Tryd.f10)) (aq [0,0,1,0,1,1,1,1,1] spec_ReadDeed_an) ⟨mkE 62 0 [(0, dS x10), (2, .ptr 0 0), (5, .slc 1), (6, dI x688)], [some (.box [dI 0, dI 0, dI 0]), some (.seq (.pair (.int .i64) (.pair (.int .i64) (.pair (.int .i64) .unit))) x302)]⟩ (spec_ReadDeed_n9 x10 x688 x302) (Sum.elim (fun (t : Int) => (Exit.normal, ⟨mkE 62 0 [(0, dS x10), (2, .ptr 0 0), (5, .slc 1), (6, dI t)], [some (.box [dI 0, dI 0, dI 0]), some (.seq (.pair (.int .i64) (.pair (.int .i64) (.pair (.int .i64) .unit))) x302)]⟩)) (Sum.elim (fun (t : Bool × Int × Int × Int) => (Exit.ret, ⟨mkE 62 0 [(2, .ptr 0 0), (3, dB t.1)], [some (.box [dI t.2.1, dI t.2.2.1, dI t.2.2.2])]⟩)) (fun (t : Unit) => ((Exit.exit 0), ⟨mkE 62 0 [(2, .ptr 0 0)], [some (.box [dI 0, dI 0, dI 0])]⟩)))) := .of fun K h => by
  simp only [spec_ReadDeed_n9, wpW] at h
  exact .of (by kernel_rfl) h

def spec_ReadDeed_n10_l (x10 : ByteArray) (x302 : List (Int × Int × Int × Unit)) := (link_loop (mk := fun (s : Int) => ⟨mkE 62 0 [(0, dS x10), (2, .ptr 0 0), (5, .slc 1), (6, dI s)], [some (.box [dI 0, dI 0, dI 0]), some (.seq (.pair (.int .i64) (.pair (.int .i64) (.pair (.int .i64) .unit))) x302)]⟩) (fin := (Sum.elim (fun (t : Bool × Int × Int × Int) => (Exit.ret, ⟨mkE 62 0 [(2, .ptr 0 0), (3, dB t.1)], [some (.box [dI t.2.1, dI t.2.2.1, dI t.2.2.2])]⟩)) (fun (t : Unit) => ((Exit.exit 0), ⟨mkE 62 0 [(2, .ptr 0 0)], [some (.box [dI 0, dI 0, dI 0])]⟩)))) (by
  rintro (t | t) f K h
  · exact h
  · exact h) (fun s => link_map (spec_ReadDeed_n9_l x10 s x302) (Sum.elim (fun (t : Int) => Sum.inl t) (Sum.elim (fun (t : Bool × Int × Int × Int) => Sum.inr (Sum.inl t)) (fun (t : Unit) => Sum.inr (Sum.inr t)))) (by
  rintro (t | t | t)
  · kernel_rfl
  · kernel_rfl
  · kernel_rfl)) 0)

def spec_ReadDeed_n11_l (x10 : ByteArray) (x302 : List (Int × Int × Int × Unit)) := (link_block (fin2 := (Sum.elim (fun (t : Unit) => (Exit.normal, ⟨mkE 62 0 [(2, .ptr 0 0)], [some (.box [dI 0, dI 0, dI 0])]⟩)) (fun (t : Bool × Int × Int × Int) => (Exit.ret, ⟨mkE 62 0 [(2, .ptr 0 0), (3, dB t.1)], [some (.box [dI t.2.1, dI t.2.2.1, dI t.2.2.2])]⟩)))) (id := 0) (spec_ReadDeed_n10_l x10 x302) (Sum.elim (fun (t : Bool × Int × Int × Int) => (Sum.inr t)) (fun (t : Unit) => (Sum.inl ()))) (by
  rintro (t | t) K h
  · exact Eq.mp (by kernel_rfl) h
  · exact Eq.mp (by kernel_rfl) h))

def spec_ReadDeed_n12_l (x10 : ByteArray) (x302 : List (Int × Int × Int × Unit)) := (link_seq (spec_ReadDeed_n8_l x10 x302) (fun (t : Unit) => (spec_ReadDeed_n11_l x10 x302)))

theorem spec_ReadDeed_n13_l : Link spec_ReadDeed_ctx LL (cq [1,1,1,1,1,1] (bodyOf Tryd.f10)) (aq [1,1,1,1,1,1] spec_ReadDeed_an) ⟨mkE 62 0 [(2, .ptr 0 0)], [some (.box [dI 0, dI 0, dI 0])]⟩ (spec_ReadDeed_n13) (fun (t : Bool × Int × Int × Int) => (Exit.ret, ⟨mkE 62 0 [(2, .ptr 0 0), (3, dB t.1)], [some (.box [dI t.2.1, dI t.2.2.1, dI t.2.2.2])]⟩)) := .of fun K h => by
  simp only [spec_ReadDeed_n13, wpW] at h
  exact .of (by kernel_rfl) h

def spec_ReadDeed_n14_l (x10 : ByteArray) (x302 : List (Int × Int × Int × Unit)) := (link_seq2 (spec_ReadDeed_n12_l x10 x302) (fun (t : Unit) => (spec_ReadDeed_n13_l)) (fun (t : Bool × Int × Int × Int) => t) (by
  rintro t
  · kernel_rfl) (by
  rintro t f K h
  · exact h))

def spec_ReadDeed_n15_l (x10 : ByteArray) (x102 : List ByteArray) (x289 : List (Int × Int × Int × Unit)) := (link_seq (spec_ReadDeed_n7_l x10 x102 x289) (fun (t : (List (Int × Int × Int × Unit))) => (spec_ReadDeed_n14_l x10 t)))

def spec_ReadDeed_n16_l (x10 : ByteArray) (x102 : List ByteArray) (x120 : List (Int × Int × Int × Unit)) := (link_seq (spec_ReadDeed_n6_l x10 x102 x120) (fun (t : (List (Int × Int × Int × Unit))) => (spec_ReadDeed_n15_l x10 x102 t)))

def spec_ReadDeed_n17_l (x10 : ByteArray) := (link_group (c := (cq [0,1,1] (bodyOf Tryd.f10))) (a := (aq [0,1,1] spec_ReadDeed_an)) [(cq [0] (bodyOf Tryd.f10)), (cq [0,1] (bodyOf Tryd.f10))] [(aq [0] spec_ReadDeed_an), (aq [0,1] spec_ReadDeed_an)] rfl (link_seq (spec_ReadDeed_n1_l x10) (fun (t : (List ByteArray) × (List (Int × Int × Int × Unit))) => (spec_ReadDeed_n16_l x10 t.1 t.2))))

theorem spec_ReadDeed_e (x10 : ByteArray) {r : AV} {H' : Heap} (h : (Ans.mk _ (spec_ReadDeed x10) (fun (t : Bool × Int × Int × Int) => (.tup [.agg [dI t.2.1, dI t.2.2.1, dI t.2.2.2], dB t.1], [some (.box [dI t.2.1, dI t.2.2.1, dI t.2.2.2])])) [] none).run = some (r, H')) : Awp spec_ReadDeed_ctx LL (bodyOf Tryd.f10) spec_ReadDeed_an ⟨mkE 62 0 [(0, dS x10)], []⟩ (Ret (tlook tys) Tryd.f10.results.toList r H') :=
  ret_of' (Link.cast (by kernel_rfl) (by kernel_rfl) (spec_ReadDeed_n17_l x10)) (by unfold spec_ReadDeed; kernel_rfl) (by
  intro t
  exact ret_mk [.agg [dI t.2.1, dI t.2.2.1, dI t.2.2.2], dB t.1] (by kernel_rfl) (by kernel_rfl) (by kernel_rfl) (by kernel_rfl)) h

def F_spec_ReadDeed : Fun := fun avs H =>
  match avs, H with
  | [.dat .str x10], [] => ⟨_, spec_ReadDeed x10, fun (t : Bool × Int × Int × Int) => (.tup [.agg [dI t.2.1, dI t.2.2.1, dI t.2.2.2], dB t.1], [some (.box [dI t.2.1, dI t.2.2.1, dI t.2.2.2])]), [], none⟩
  | _, _ => Ans.no

theorem spec_ReadDeed_sound : Sound Tryd.prog 10 F_spec_ReadDeed := by
  refine fn_sound' (C := spec_ReadDeed_ctx) (c := bodyOf Tryd.f10) (cok_of tys_ok (allc spec_l1Cut_sound (allc spec_l1Digits_sound (allc spec_DeedText_sound alln))) (allc Tryd.call27 (allc Tryd.call28 (allc Tryd.call7 alln))) (by kernel_rfl)) Tryd.func10 (by kernel_rfl) LL spec_ReadDeed_an ?_
  intro avs H r H' h
  unfold F_spec_ReadDeed at h
  split at h
  · refine Awp.cast ?_ ?_ ?_ (spec_ReadDeed_e _ h) <;> kernel_rfl
  · simp [Ans.no, Ans.run] at h


/-! internal/stringslite.Index -/

def ren_sidx : Go.Shelf.Ren := ⟨fun | 217 => 63 | 219 => 52 | 224 => 65 | 225 => 64 | 266 => 75 | 267 => 66 | 314 => 76 | n => n, fun | 3 => 3 | 4 => 4 | 5 => 5 | 9 => 9 | 46 => 88 | 51 => 95 | 146 => 103 | n => n, fun | 1 => 3 | n => n⟩
theorem lay_sidx : Lays.n219 Tryd.prog ren_sidx := {
  mixed := by kernel_rfl
  f217 := Tryd.func63.trans (congrArg some (by kernel_rfl))
  f219 := Tryd.func52.trans (congrArg some (by kernel_rfl))
  f224 := Tryd.func65.trans (congrArg some (by kernel_rfl))
  f225 := Tryd.func64.trans (congrArg some (by kernel_rfl))
  f266 := Tryd.func75.trans (congrArg some (by kernel_rfl))
  f267 := Tryd.func66.trans (congrArg some (by kernel_rfl))
  f314 := Tryd.func76.trans (congrArg some (by kernel_rfl))
  t3 := Tryd.underlying3
  a3 := Tryd.isAgg3
  z3 := Tryd.sizeOf3
  v3 := Tryd.zeroValue3
  t4 := Tryd.underlying4
  a4 := Tryd.isAgg4
  z4 := Tryd.sizeOf4
  v4 := Tryd.zeroValue4
  t5 := Tryd.underlying5
  a5 := Tryd.isAgg5
  z5 := Tryd.sizeOf5
  v5 := Tryd.zeroValue5
  t9 := Tryd.underlying9
  a9 := Tryd.isAgg9
  z9 := Tryd.sizeOf9
  v9 := Tryd.zeroValue9
  t46 := Tryd.underlying88
  a46 := Tryd.isAgg88
  z46 := Tryd.sizeOf88
  v46 := Tryd.zeroValue88
  t51 := Tryd.underlying95
  a51 := Tryd.isAgg95
  z51 := Tryd.sizeOf95
  v51 := Tryd.zeroValue95
  t146 := Tryd.underlying103
  a146 := Tryd.isAgg103
  z146 := Tryd.sizeOf103
  v146 := Tryd.zeroValue103
  g1 := by kernel_rfl }

def F_internal_stringslite_Index : Fun := F_sidx
theorem internal_stringslite_Index_sound : Sound Tryd.prog 52 F_internal_stringslite_Index := sidx_sound lay_sidx


/-! strings.Index -/

def strings_Index_an : Ann := (.seq (.leaf [0, 1]) (.seq (.leaf [4]) (.leaf [4])))

noncomputable def strings_Index_ctx : Ctx := ⟨tlook tys, olook [(52, F_internal_stringslite_Index)], ioF, 0, false, []⟩

theorem strings_Index_n1_l (x800 : ByteArray) (x801 : ByteArray) : Link strings_Index_ctx LL (bodyOf Tryd.f45) strings_Index_an ⟨mkE 8 0 [(0, dS x800), (1, dS x801)], []⟩ (strings_Index_n1 x800 x801) (fun (t : Int) => (Exit.ret, ⟨mkE 8 0 [(4, dI t)], []⟩)) := .of fun K h => by
  simp only [strings_Index_n1, wpW] at h
  exact .of (by kernel_rfl) h

theorem strings_Index_e (x800 : ByteArray) (x801 : ByteArray) {r : AV} {H' : Heap} (h : (Ans.mk _ (strings_Index x800 x801) (fun (t : Int) => (dI t, [])) [] none).run = some (r, H')) : Awp strings_Index_ctx LL (bodyOf Tryd.f45) strings_Index_an ⟨mkE 8 0 [(0, dS x800), (1, dS x801)], []⟩ (Ret (tlook tys) Tryd.f45.results.toList r H') :=
  ret_of' (strings_Index_n1_l x800 x801) (by unfold strings_Index; kernel_rfl) (by
  intro t
  exact ret_mk [dI t] (by kernel_rfl) (by kernel_rfl) (by kernel_rfl) (by kernel_rfl)) h

def F_strings_Index : Fun := fun avs H =>
  match avs, H with
  | [.dat .str x800, .dat .str x801], [] => ⟨_, strings_Index x800 x801, fun (t : Int) => (dI t, []), [], none⟩
  | _, _ => Ans.no

theorem strings_Index_sound : Sound Tryd.prog 45 F_strings_Index := by
  refine fn_sound' (C := strings_Index_ctx) (c := bodyOf Tryd.f45) (cok_of tys_ok (allc internal_stringslite_Index_sound alln) (allc Tryd.call52 alln) (by kernel_rfl)) Tryd.func45 (by kernel_rfl) LL strings_Index_an ?_
  intro avs H r H' h
  unfold F_strings_Index at h
  split at h
  · refine Awp.cast ?_ ?_ ?_ (strings_Index_e _ _ h) <;> kernel_rfl
  · simp [Ans.no, Ans.run] at h


/-! strings.genSplit -/

def strings_genSplit_an : Ann := (.seq (.leaf [0, 1, 2, 3]) (.seq (.seq (.leaf [0, 1, 2, 3, 13]) (.cond (.seq (.leaf [8]) (.leafF [⟨0, 8, true, none, none⟩] [8])) (.leaf [0, 1, 2, 3]))) (.seq (.seq (.leaf [0, 1, 2, 3, 15]) (.cond (.seq (.leaf [8]) (.leaf [8])) (.leaf [0, 1, 2, 3]))) (.seq (.seq (.leaf [0, 1, 2, 3, 20]) (.cond (.leaf [0, 1, 2, 3]) (.leaf [0, 1, 2, 3]))) (.seq (.leaf [0, 1, 2, 3]) (.seq (.leaf [0, 1, 2, 3, 9]) (.seq (.leaf [0, 1, 2, 3, 9]) (.seq (.leaf [0, 1, 2, 3, 9, 10]) (.seq (.block (.loop (.seq (.seq (.leaf [0, 1, 2, 3, 9, 10, 36]) (.cond (.leaf [0, 1, 2, 3, 9, 10]) (.leaf [0, 9, 10]))) (.block (.seq (.leaf [0, 1, 2, 3, 9, 10, 11]) (.seq (.seq (.leaf [0, 1, 2, 3, 9, 10, 11, 41]) (.cond (.leaf [0, 9, 10]) (.leaf [0, 1, 2, 3, 9, 10, 11]))) (.seq (.leaf [0, 1, 2, 3, 9, 10, 11]) (.seq (.leaf [0, 1, 2, 3, 9, 10]) (.leaf [0, 1, 2, 3, 9, 10]))))))))) (.seq (.leaf [9, 10]) (.seq (.leaf [8]) (.leaf [8]))))))))))))

noncomputable def strings_genSplit_ctx : Ctx := ⟨tlook tys, olook [(45, F_strings_Index)], ioF, 0, false, []⟩

theorem strings_genSplit_n1_l (x756 : ByteArray) (x757 : ByteArray) (x758 : Int) (x759 : Int) : Link strings_genSplit_ctx LL (Code.seq (cq [0] (bodyOf Tryd.f37)) (Code.seq (cq [0,1] (bodyOf Tryd.f37)) (Code.seq (cq [0,1,1] (bodyOf Tryd.f37)) (Code.seq (cq [0,1,1,1] (bodyOf Tryd.f37)) (Code.seq (cq [0,1,1,1,1] (bodyOf Tryd.f37)) (Code.seq (cq [0,1,1,1,1,1] (bodyOf Tryd.f37)) (Code.seq (cq [0,1,1,1,1,1,1] (bodyOf Tryd.f37)) (cq [0,1,1,1,1,1,1,1] (bodyOf Tryd.f37))))))))) (Ann.seq (aq [0] strings_genSplit_an) (Ann.seq (aq [0,1] strings_genSplit_an) (Ann.seq (aq [0,1,1] strings_genSplit_an) (Ann.seq (aq [0,1,1,1] strings_genSplit_an) (Ann.seq (aq [0,1,1,1,1] strings_genSplit_an) (Ann.seq (aq [0,1,1,1,1,1] strings_genSplit_an) (Ann.seq (aq [0,1,1,1,1,1,1] strings_genSplit_an) (aq [0,1,1,1,1,1,1,1] strings_genSplit_an)))))))) ⟨mkE 66 0 [(0, dS x756), (1, dS x757), (2, dI x758), (3, dI x759)], []⟩ (strings_genSplit_n1 x756 x757 x759) (Sum.elim (fun (t : Int × (List ByteArray)) => (Exit.normal, ⟨mkE 66 0 [(0, dS x756), (1, dS x757), (2, dI x758), (3, dI t.1), (9, .slc 0), (10, dI 0)], [some (.seq .str t.2)]⟩)) (fun (t : Nat × (List ByteArray)) => (Exit.ret, ⟨mkE 66 0 [(8, .win 0 0 t.1)], [some (.seq .str t.2)]⟩))) := .of fun K h => by
  simp only [strings_genSplit_n1, wpW, wpO_none] at h
  exact .of (by kernel_rfl) h

theorem strings_genSplit_n2_l (x915 : ByteArray) (x757 : ByteArray) (x758 : Int) (x898 : Int) (x916 : Int) (x917 : List ByteArray) : Link strings_genSplit_ctx LL (cq [0,0,0,1,1,1,1,1,1,1,1] (bodyOf Tryd.f37)) (aq [0,0,0,1,1,1,1,1,1,1,1] strings_genSplit_an) ⟨mkE 66 0 [(0, dS x915), (1, dS x757), (2, dI x758), (3, dI x898), (9, .slc 0), (10, dI x916)], [some (.seq .str x917)]⟩ (strings_genSplit_n2 x915 x757 x758 x898 x916 x917) (Sum.elim (fun (t : ByteArray × Int × (List ByteArray)) => (Exit.normal, ⟨mkE 66 0 [(0, dS t.1), (1, dS x757), (2, dI x758), (3, dI x898), (9, .slc 0), (10, dI t.2.1)], [some (.seq .str t.2.2)]⟩)) (fun (t : ByteArray × Int × (List ByteArray)) => ((Exit.exit 0), ⟨mkE 66 0 [(0, dS t.1), (9, .slc 0), (10, dI t.2.1)], [some (.seq .str t.2.2)]⟩))) := .of fun K h => by
  simp only [strings_genSplit_n2, wpW] at h
  exact .of (by kernel_rfl) h

def strings_genSplit_n3_l (x756 : ByteArray) (x757 : ByteArray) (x758 : Int) (x898 : Int) (x897 : List ByteArray) := (link_loop (mk := fun (s : ByteArray × Int × (List ByteArray)) => ⟨mkE 66 0 [(0, dS s.1), (1, dS x757), (2, dI x758), (3, dI x898), (9, .slc 0), (10, dI s.2.1)], [some (.seq .str s.2.2)]⟩) (fin := (fun (t : ByteArray × Int × (List ByteArray)) => ((Exit.exit 0), ⟨mkE 66 0 [(0, dS t.1), (9, .slc 0), (10, dI t.2.1)], [some (.seq .str t.2.2)]⟩))) (by
  rintro t f K h
  · exact h) (fun s => link_map (strings_genSplit_n2_l s.1 x757 x758 x898 s.2.1 s.2.2) (Sum.elim (fun (t : ByteArray × Int × (List ByteArray)) => Sum.inl (t.1, t.2.1, t.2.2)) (fun (t : ByteArray × Int × (List ByteArray)) => Sum.inr t)) (by
  rintro (t | t)
  · kernel_rfl
  · kernel_rfl)) (x756, 0, x897))

def strings_genSplit_n4_l (x756 : ByteArray) (x757 : ByteArray) (x758 : Int) (x898 : Int) (x897 : List ByteArray) := (link_block (fin2 := (fun (t : ByteArray × Int × (List ByteArray)) => (Exit.normal, ⟨mkE 66 0 [(0, dS t.1), (9, .slc 0), (10, dI t.2.1)], [some (.seq .str t.2.2)]⟩))) (id := 0) (strings_genSplit_n3_l x756 x757 x758 x898 x897) (fun (t : ByteArray × Int × (List ByteArray)) => (t.1, t.2.1, t.2.2)) (by
  rintro t K h
  · exact Eq.mp (by kernel_rfl) h))

theorem strings_genSplit_n5_l (x915 : ByteArray) (x916 : Int) (x917 : List ByteArray) : Link strings_genSplit_ctx LL (cq [1,1,1,1,1,1,1,1,1] (bodyOf Tryd.f37)) (aq [1,1,1,1,1,1,1,1,1] strings_genSplit_an) ⟨mkE 66 0 [(0, dS x915), (9, .slc 0), (10, dI x916)], [some (.seq .str x917)]⟩ (strings_genSplit_n5 x915 x916 x917) (fun (t : Nat × (List ByteArray)) => (Exit.ret, ⟨mkE 66 0 [(8, .win 0 0 t.1)], [some (.seq .str t.2)]⟩)) := .of fun K h => by
  simp only [strings_genSplit_n5, wpW] at h
  exact .of (by kernel_rfl) h

def strings_genSplit_n6_l (x756 : ByteArray) (x757 : ByteArray) (x758 : Int) (x898 : Int) (x897 : List ByteArray) := (link_seq (strings_genSplit_n4_l x756 x757 x758 x898 x897) (fun (t : ByteArray × Int × (List ByteArray)) => (strings_genSplit_n5_l t.1 t.2.1 t.2.2)))

def strings_genSplit_n7_l (x756 : ByteArray) (x757 : ByteArray) (x758 : Int) (x759 : Int) := (link_group (c := (cq [0,1,1,1,1,1,1,1] (bodyOf Tryd.f37))) (a := (aq [0,1,1,1,1,1,1,1] strings_genSplit_an)) [(cq [0] (bodyOf Tryd.f37)), (cq [0,1] (bodyOf Tryd.f37)), (cq [0,1,1] (bodyOf Tryd.f37)), (cq [0,1,1,1] (bodyOf Tryd.f37)), (cq [0,1,1,1,1] (bodyOf Tryd.f37)), (cq [0,1,1,1,1,1] (bodyOf Tryd.f37)), (cq [0,1,1,1,1,1,1] (bodyOf Tryd.f37))] [(aq [0] strings_genSplit_an), (aq [0,1] strings_genSplit_an), (aq [0,1,1] strings_genSplit_an), (aq [0,1,1,1] strings_genSplit_an), (aq [0,1,1,1,1] strings_genSplit_an), (aq [0,1,1,1,1,1] strings_genSplit_an), (aq [0,1,1,1,1,1,1] strings_genSplit_an)] rfl (link_seq2 (strings_genSplit_n1_l x756 x757 x758 x759) (fun (t : Int × (List ByteArray)) => (strings_genSplit_n6_l x756 x757 x758 t.1 t.2)) (fun (t : Nat × (List ByteArray)) => t) (by
  rintro t
  · kernel_rfl) (by
  rintro t f K h
  · exact h)))

theorem strings_genSplit_e (x756 : ByteArray) (x757 : ByteArray) (x758 : Int) (x759 : Int) {r : AV} {H' : Heap} (h : (Ans.mk _ (strings_genSplit x756 x757 x758 x759) (fun (t : Nat × (List ByteArray)) => (.win 0 0 t.1, [some (.seq .str t.2)])) [] none).run = some (r, H')) : Awp strings_genSplit_ctx LL (bodyOf Tryd.f37) strings_genSplit_an ⟨mkE 66 0 [(0, dS x756), (1, dS x757), (2, dI x758), (3, dI x759)], []⟩ (Ret (tlook tys) Tryd.f37.results.toList r H') :=
  ret_of' (Link.cast (by kernel_rfl) (by kernel_rfl) (strings_genSplit_n7_l x756 x757 x758 x759)) (by unfold strings_genSplit; kernel_rfl) (by
  intro t
  exact ret_mk [.win 0 0 t.1] (by kernel_rfl) (by kernel_rfl) (by kernel_rfl) (by kernel_rfl)) h

def F_strings_genSplit : Fun := fun avs H =>
  match avs, H with
  | [.dat .str x756, .dat .str x757, .dat (.int .i64) x758, .dat (.int .i64) x759], [] => ⟨_, strings_genSplit x756 x757 x758 x759, fun (t : Nat × (List ByteArray)) => (.win 0 0 t.1, [some (.seq .str t.2)]), [], none⟩
  | _, _ => Ans.no

theorem strings_genSplit_sound : Sound Tryd.prog 37 F_strings_genSplit := by
  refine fn_sound' (C := strings_genSplit_ctx) (c := bodyOf Tryd.f37) (cok_of tys_ok (allc strings_Index_sound alln) (allc Tryd.call45 alln) (by kernel_rfl)) Tryd.func37 (by kernel_rfl) LL strings_genSplit_an ?_
  intro avs H r H' h
  unfold F_strings_genSplit at h
  split at h
  · refine Awp.cast ?_ ?_ ?_ (strings_genSplit_e _ _ _ _ h) <;> kernel_rfl
  · simp [Ans.no, Ans.run] at h


/-! strings.SplitN -/

def strings_SplitN_an : Ann := (.seq (.leaf [0, 1, 2]) (.seq (.leaf [6]) (.leaf [6])))

noncomputable def strings_SplitN_ctx : Ctx := ⟨tlook tys, olook [(37, F_strings_genSplit)], ioF, 0, false, []⟩

theorem strings_SplitN_n1_l (x753 : ByteArray) (x754 : ByteArray) (x755 : Int) : Link strings_SplitN_ctx LL (bodyOf Tryd.f29) strings_SplitN_an ⟨mkE 11 0 [(0, dS x753), (1, dS x754), (2, dI x755)], []⟩ (strings_SplitN_n1 x753 x754 x755) (fun (t : Nat × (List ByteArray)) => (Exit.ret, ⟨mkE 11 0 [(6, .win 0 0 t.1)], [some (.seq .str t.2)]⟩)) := .of fun K h => by
  simp only [strings_SplitN_n1, wpW] at h
  exact .of (by kernel_rfl) h

theorem strings_SplitN_e (x753 : ByteArray) (x754 : ByteArray) (x755 : Int) {r : AV} {H' : Heap} (h : (Ans.mk _ (strings_SplitN x753 x754 x755) (fun (t : Nat × (List ByteArray)) => (.win 0 0 t.1, [some (.seq .str t.2)])) [] none).run = some (r, H')) : Awp strings_SplitN_ctx LL (bodyOf Tryd.f29) strings_SplitN_an ⟨mkE 11 0 [(0, dS x753), (1, dS x754), (2, dI x755)], []⟩ (Ret (tlook tys) Tryd.f29.results.toList r H') :=
  ret_of' (strings_SplitN_n1_l x753 x754 x755) (by unfold strings_SplitN; kernel_rfl) (by
  intro t
  exact ret_mk [.win 0 0 t.1] (by kernel_rfl) (by kernel_rfl) (by kernel_rfl) (by kernel_rfl)) h

def F_strings_SplitN : Fun := fun avs H =>
  match avs, H with
  | [.dat .str x753, .dat .str x754, .dat (.int .i64) x755], [] => ⟨_, strings_SplitN x753 x754 x755, fun (t : Nat × (List ByteArray)) => (.win 0 0 t.1, [some (.seq .str t.2)]), [], none⟩
  | _, _ => Ans.no

theorem strings_SplitN_sound : Sound Tryd.prog 29 F_strings_SplitN := by
  refine fn_sound' (C := strings_SplitN_ctx) (c := bodyOf Tryd.f29) (cok_of tys_ok (allc strings_genSplit_sound alln) (allc Tryd.call37 alln) (by kernel_rfl)) Tryd.func29 (by kernel_rfl) LL strings_SplitN_an ?_
  intro avs H r H' h
  unfold F_strings_SplitN at h
  split at h
  · refine Awp.cast ?_ ?_ ?_ (strings_SplitN_e _ _ _ h) <;> kernel_rfl
  · simp [Ans.no, Ans.run] at h


/-! loop.example/headtrees/impl.kindFor -/

def impl_kindFor_an : Ann := (.seq (.leaf [0]) (.seq (.seq (.leaf [0, 5, 6]) (.block (.loop (.seq (.leaf [0, 5, 6, 7]) (.seq (.cond (.leaf [0, 5, 6]) (.leaf [])) (.seq (.block (.seq (.leaf [0, 3, 4, 5, 6]) (.seq (.leaf [0, 3, 5, 6, 12]) (.cond (.seq (.leaf [2]) (.leaf [2])) (.leaf [0, 5, 6]))))) (.leaf [0, 5, 6]))))))) (.seq (.leaf [2]) (.leaf [2]))))

noncomputable def impl_kindFor_ctx : Ctx := ⟨tlook tys, olook [], ioF, 0, false, []⟩

theorem impl_kindFor_n1_l (x965 : ByteArray) : Link impl_kindFor_ctx LL (cq [0] (bodyOf Tryd.f30)) (aq [0] impl_kindFor_an) ⟨mkE 15 0 [(0, dS x965)], []⟩ (impl_kindFor_n1) (fun (t : Unit) => (Exit.normal, ⟨mkE 15 0 [(0, dS x965)], []⟩)) := .of fun K h => by
  simp only [impl_kindFor_n1, wpW] at h
  exact .of (by kernel_rfl) h

theorem impl_kindFor_n2_l (x965 : ByteArray) : Link impl_kindFor_ctx LL (cq [0,0,1] (bodyOf Tryd.f30)) (aq [0,0,1] impl_kindFor_an) ⟨mkE 15 0 [(0, dS x965)], []⟩ (impl_kindFor_n2) (fun (t : ByteArray × ByteArray × ByteArray × ByteArray × ByteArray × ByteArray) => (Exit.normal, ⟨mkE 15 0 [(0, dS x965), (5, .agg [dS t.1, dS t.2.1, dS t.2.2.1, dS t.2.2.2.1, dS t.2.2.2.2.1, dS t.2.2.2.2.2]), (6, dI 0)], []⟩)) := .of fun K h => by
  simp only [impl_kindFor_n2, wpW] at h
  exact .of (by kernel_rfl) h

theorem impl_kindFor_n3_l (x965 : ByteArray) (x968 : ByteArray) (x969 : ByteArray) (x970 : ByteArray) (x971 : ByteArray) (x972 : ByteArray) (x973 : ByteArray) (x983 : Int) : Link impl_kindFor_ctx LL (cq [0,0,1,0,1] (bodyOf Tryd.f30)) (aq [0,0,1,0,1] impl_kindFor_an) ⟨mkE 15 0 [(0, dS x965), (5, .agg [dS x968, dS x969, dS x970, dS x971, dS x972, dS x973]), (6, dI x983)], []⟩ (impl_kindFor_n3 x965 x968 x969 x970 x971 x972 x973 x983) (Sum.elim (fun (t : Int) => (Exit.normal, ⟨mkE 15 0 [(0, dS x965), (5, .agg [dS x968, dS x969, dS x970, dS x971, dS x972, dS x973]), (6, dI t)], []⟩)) (Sum.elim (fun (t : Int) => (Exit.ret, ⟨mkE 15 0 [(2, dI t)], []⟩)) (fun (t : Unit) => ((Exit.exit 0), ⟨mkE 15 0 [], []⟩)))) := .of fun K h => by
  simp only [impl_kindFor_n3, wpW] at h
  exact .of (by kernel_rfl) h

def impl_kindFor_n4_l (x965 : ByteArray) (x968 : ByteArray) (x969 : ByteArray) (x970 : ByteArray) (x971 : ByteArray) (x972 : ByteArray) (x973 : ByteArray) := (link_loop (mk := fun (s : Int) => ⟨mkE 15 0 [(0, dS x965), (5, .agg [dS x968, dS x969, dS x970, dS x971, dS x972, dS x973]), (6, dI s)], []⟩) (fin := (Sum.elim (fun (t : Int) => (Exit.ret, ⟨mkE 15 0 [(2, dI t)], []⟩)) (fun (t : Unit) => ((Exit.exit 0), ⟨mkE 15 0 [], []⟩)))) (by
  rintro (t | t) f K h
  · exact h
  · exact h) (fun s => link_map (impl_kindFor_n3_l x965 x968 x969 x970 x971 x972 x973 s) (Sum.elim (fun (t : Int) => Sum.inl t) (Sum.elim (fun (t : Int) => Sum.inr (Sum.inl t)) (fun (t : Unit) => Sum.inr (Sum.inr t)))) (by
  rintro (t | t | t)
  · kernel_rfl
  · kernel_rfl
  · kernel_rfl)) 0)

def impl_kindFor_n5_l (x965 : ByteArray) (x968 : ByteArray) (x969 : ByteArray) (x970 : ByteArray) (x971 : ByteArray) (x972 : ByteArray) (x973 : ByteArray) := (link_block (fin2 := (Sum.elim (fun (t : Unit) => (Exit.normal, ⟨mkE 15 0 [], []⟩)) (fun (t : Int) => (Exit.ret, ⟨mkE 15 0 [(2, dI t)], []⟩)))) (id := 0) (impl_kindFor_n4_l x965 x968 x969 x970 x971 x972 x973) (Sum.elim (fun (t : Int) => (Sum.inr t)) (fun (t : Unit) => (Sum.inl ()))) (by
  rintro (t | t) K h
  · exact Eq.mp (by kernel_rfl) h
  · exact Eq.mp (by kernel_rfl) h))

def impl_kindFor_n6_l (x965 : ByteArray) := (link_seq (impl_kindFor_n2_l x965) (fun (t : ByteArray × ByteArray × ByteArray × ByteArray × ByteArray × ByteArray) => (impl_kindFor_n5_l x965 t.1 t.2.1 t.2.2.1 t.2.2.2.1 t.2.2.2.2.1 t.2.2.2.2.2)))

theorem impl_kindFor_n7_l : Link impl_kindFor_ctx LL (cq [1,1] (bodyOf Tryd.f30)) (aq [1,1] impl_kindFor_an) ⟨mkE 15 0 [], []⟩ (impl_kindFor_n7) (fun (t : Int) => (Exit.ret, ⟨mkE 15 0 [(2, dI t)], []⟩)) := .of fun K h => by
  simp only [impl_kindFor_n7, wpW] at h
  exact .of (by kernel_rfl) h

def impl_kindFor_n8_l (x965 : ByteArray) := (link_seq2 (impl_kindFor_n6_l x965) (fun (t : Unit) => (impl_kindFor_n7_l)) (fun (t : Int) => t) (by
  rintro t
  · kernel_rfl) (by
  rintro t f K h
  · exact h))

def impl_kindFor_n9_l (x965 : ByteArray) := (link_seq (impl_kindFor_n1_l x965) (fun (t : Unit) => (impl_kindFor_n8_l x965)))

theorem impl_kindFor_e (x965 : ByteArray) {r : AV} {H' : Heap} (h : (Ans.mk _ (impl_kindFor x965) (fun (t : Int) => (dI t, [])) [] none).run = some (r, H')) : Awp impl_kindFor_ctx LL (bodyOf Tryd.f30) impl_kindFor_an ⟨mkE 15 0 [(0, dS x965)], []⟩ (Ret (tlook tys) Tryd.f30.results.toList r H') :=
  ret_of' (Link.cast (by kernel_rfl) (by kernel_rfl) (impl_kindFor_n9_l x965)) (by unfold impl_kindFor; kernel_rfl) (by
  intro t
  exact ret_mk [dI t] (by kernel_rfl) (by kernel_rfl) (by kernel_rfl) (by kernel_rfl)) h

def F_impl_kindFor : Fun := fun avs H =>
  match avs, H with
  | [.dat .str x965], [] => ⟨_, impl_kindFor x965, fun (t : Int) => (dI t, []), [], none⟩
  | _, _ => Ans.no

theorem impl_kindFor_sound : Sound Tryd.prog 30 F_impl_kindFor := by
  refine fn_sound' (C := impl_kindFor_ctx) (c := bodyOf Tryd.f30) (cok_of tys_ok (alln) (alln) (by kernel_rfl)) Tryd.func30 (by kernel_rfl) LL impl_kindFor_an ?_
  intro avs H r H' h
  unfold F_impl_kindFor at h
  split at h
  · refine Awp.cast ?_ ?_ ?_ (impl_kindFor_e _ h) <;> kernel_rfl
  · simp [Ans.no, Ans.run] at h


/-! strconv.Atoi -/

def ren_atoiS : Go.Shelf.Ren := ⟨fun | 129 => 68 | 171 => 26 | 172 => 31 | 205 => 62 | 243 => 36 | 244 => 38 | 245 => 39 | 246 => 42 | 247 => 46 | 279 => 47 | 280 => 48 | 281 => 49 | 282 => 50 | 283 => 53 | 284 => 54 | 285 => 55 | 286 => 56 | 287 => 60 | 316 => 61 | 317 => 67 | 318 => 69 | 319 => 70 | 320 => 71 | 321 => 73 | 322 => 74 | 337 => 77 | 338 => 78 | n => n, fun | 0 => 0 | 2 => 2 | 3 => 3 | 4 => 4 | 5 => 5 | 9 => 9 | 20 => 20 | 21 => 21 | 37 => 57 | 46 => 88 | 51 => 95 | 53 => 78 | 75 => 53 | 76 => 54 | 80 => 60 | 85 => 70 | 127 => 65 | 143 => 100 | 145 => 102 | 167 => 69 | 168 => 72 | 171 => 77 | 173 => 81 | 175 => 86 | 210 => 91 | 212 => 94 | 213 => 96 | 232 => 110 | 233 => 111 | n => n, fun | 15 => 1 | 16 => 2 | 17 => 4 | 18 => 7 | 19 => 8 | n => n⟩
theorem lay_atoiS : LaysC.n172 Tryd.prog ren_atoiS := {
  mixed := by kernel_rfl
  f129 := Tryd.func68.trans (congrArg some (by kernel_rfl))
  f171 := Tryd.func26.trans (congrArg some (by kernel_rfl))
  f172 := Tryd.func31.trans (congrArg some (by kernel_rfl))
  f205 := Tryd.func62.trans (congrArg some (by kernel_rfl))
  f243 := Tryd.func36.trans (congrArg some (by kernel_rfl))
  f244 := Tryd.func38.trans (congrArg some (by kernel_rfl))
  f245 := Tryd.func39.trans (congrArg some (by kernel_rfl))
  f246 := Tryd.func42.trans (congrArg some (by kernel_rfl))
  f247 := Tryd.func46.trans (congrArg some (by kernel_rfl))
  f279 := Tryd.func47.trans (congrArg some (by kernel_rfl))
  f280 := Tryd.func48.trans (congrArg some (by kernel_rfl))
  f281 := Tryd.func49.trans (congrArg some (by kernel_rfl))
  f282 := Tryd.func50.trans (congrArg some (by kernel_rfl))
  f283 := Tryd.func53.trans (congrArg some (by kernel_rfl))
  f284 := Tryd.func54.trans (congrArg some (by kernel_rfl))
  f285 := Tryd.func55.trans (congrArg some (by kernel_rfl))
  f286 := Tryd.func56.trans (congrArg some (by kernel_rfl))
  f287 := Tryd.func60.trans (congrArg some (by kernel_rfl))
  f316 := Tryd.func61.trans (congrArg some (by kernel_rfl))
  f317 := Tryd.func67.trans (congrArg some (by kernel_rfl))
  f318 := Tryd.func69.trans (congrArg some (by kernel_rfl))
  f319 := Tryd.func70.trans (congrArg some (by kernel_rfl))
  f320 := Tryd.func71.trans (congrArg some (by kernel_rfl))
  f321 := Tryd.func73.trans (congrArg some (by kernel_rfl))
  f322 := Tryd.func74.trans (congrArg some (by kernel_rfl))
  f337 := Tryd.func77.trans (congrArg some (by kernel_rfl))
  f338 := Tryd.func78.trans (congrArg some (by kernel_rfl))
  t0 := Tryd.underlying0
  a0 := Tryd.isAgg0
  z0 := Tryd.sizeOf0
  v0 := Tryd.zeroValue0
  t2 := Tryd.underlying2
  a2 := Tryd.isAgg2
  z2 := Tryd.sizeOf2
  v2 := Tryd.zeroValue2
  t3 := Tryd.underlying3
  a3 := Tryd.isAgg3
  z3 := Tryd.sizeOf3
  v3 := Tryd.zeroValue3
  t4 := Tryd.underlying4
  a4 := Tryd.isAgg4
  z4 := Tryd.sizeOf4
  v4 := Tryd.zeroValue4
  t5 := Tryd.underlying5
  a5 := Tryd.isAgg5
  z5 := Tryd.sizeOf5
  v5 := Tryd.zeroValue5
  t9 := Tryd.underlying9
  a9 := Tryd.isAgg9
  z9 := Tryd.sizeOf9
  v9 := Tryd.zeroValue9
  t20 := Tryd.underlying20
  a20 := Tryd.isAgg20
  z20 := Tryd.sizeOf20
  v20 := Tryd.zeroValue20
  t21 := Tryd.underlying21
  a21 := Tryd.isAgg21
  z21 := Tryd.sizeOf21
  v21 := Tryd.zeroValue21
  t37 := Tryd.underlying57
  a37 := Tryd.isAgg57
  z37 := Tryd.sizeOf57
  v37 := Tryd.zeroValue57
  t46 := Tryd.underlying88
  a46 := Tryd.isAgg88
  z46 := Tryd.sizeOf88
  v46 := Tryd.zeroValue88
  t51 := Tryd.underlying95
  a51 := Tryd.isAgg95
  z51 := Tryd.sizeOf95
  v51 := Tryd.zeroValue95
  t53 := Tryd.underlying78
  a53 := Tryd.isAgg78
  z53 := Tryd.sizeOf78
  v53 := Tryd.zeroValue78
  t75 := Tryd.underlying53
  a75 := Tryd.isAgg53
  z75 := Tryd.sizeOf53
  v75 := Tryd.zeroValue53
  t76 := Tryd.underlying54
  a76 := Tryd.isAgg54
  z76 := Tryd.sizeOf54
  v76 := Tryd.zeroValue54
  t85 := Tryd.underlying70
  a85 := Tryd.isAgg70
  z85 := Tryd.sizeOf70
  v85 := Tryd.zeroValue70
  t127 := Tryd.underlying65
  a127 := Tryd.isAgg65
  z127 := Tryd.sizeOf65
  v127 := Tryd.zeroValue65
  t143 := Tryd.underlying100
  a143 := Tryd.isAgg100
  z143 := Tryd.sizeOf100
  v143 := Tryd.zeroValue100
  t145 := Tryd.underlying102
  a145 := Tryd.isAgg102
  z145 := Tryd.sizeOf102
  v145 := Tryd.zeroValue102
  t167 := Tryd.underlying69
  a167 := Tryd.isAgg69
  z167 := Tryd.sizeOf69
  v167 := Tryd.zeroValue69
  t168 := Tryd.underlying72
  a168 := Tryd.isAgg72
  z168 := Tryd.sizeOf72
  v168 := Tryd.zeroValue72
  t171 := Tryd.underlying77
  a171 := Tryd.isAgg77
  z171 := Tryd.sizeOf77
  v171 := Tryd.zeroValue77
  t173 := Tryd.underlying81
  a173 := Tryd.isAgg81
  z173 := Tryd.sizeOf81
  v173 := Tryd.zeroValue81
  t175 := Tryd.underlying86
  a175 := Tryd.isAgg86
  z175 := Tryd.sizeOf86
  v175 := Tryd.zeroValue86
  t210 := Tryd.underlying91
  a210 := Tryd.isAgg91
  z210 := Tryd.sizeOf91
  v210 := Tryd.zeroValue91
  t212 := Tryd.underlying94
  a212 := Tryd.isAgg94
  z212 := Tryd.sizeOf94
  v212 := Tryd.zeroValue94
  t213 := Tryd.underlying96
  a213 := Tryd.isAgg96
  z213 := Tryd.sizeOf96
  t232 := Tryd.underlying110
  a232 := Tryd.isAgg110
  z232 := Tryd.sizeOf110
  v232 := Tryd.zeroValue110
  t233 := Tryd.underlying111
  a233 := Tryd.isAgg111
  z233 := Tryd.sizeOf111
  v233 := Tryd.zeroValue111
  g15 := by kernel_rfl
  g16 := by kernel_rfl
  g17 := by kernel_rfl
  g18 := by kernel_rfl
  g19 := by kernel_rfl
  t80 := Tryd.underlying60
  a80 := Tryd.isAgg60
  z80 := Tryd.sizeOf60
  v80 := Tryd.zeroValue60
  i0 := by kernel_rfl
  i2 := by kernel_rfl
  i3 := by kernel_rfl
  i4 := by kernel_rfl
  i5 := by kernel_rfl
  i9 := by kernel_rfl
  i20 := by kernel_rfl
  i21 := by kernel_rfl
  i37 := by kernel_rfl
  i46 := by kernel_rfl
  i51 := by kernel_rfl
  i53 := by kernel_rfl
  i75 := by kernel_rfl
  i76 := by kernel_rfl
  i80 := by kernel_rfl
  i85 := by kernel_rfl
  i127 := by kernel_rfl
  i143 := by kernel_rfl
  i145 := by kernel_rfl
  i167 := by kernel_rfl
  i168 := by kernel_rfl
  i171 := by kernel_rfl
  i173 := by kernel_rfl
  i175 := by kernel_rfl
  i210 := by kernel_rfl
  i212 := by kernel_rfl
  i232 := by kernel_rfl
  i233 := by kernel_rfl
  m15 := by kernel_rfl
  m16 := by kernel_rfl
  m17 := by kernel_rfl
  m18 := by kernel_rfl
  m19 := by kernel_rfl
  c0 := by kernel_rfl
  c2 := by kernel_rfl
  c3 := by kernel_rfl
  c4 := by kernel_rfl
  c5 := by kernel_rfl
  c9 := by kernel_rfl
  c20 := by kernel_rfl
  c21 := by kernel_rfl
  c37 := by kernel_rfl
  c46 := by kernel_rfl
  c51 := by kernel_rfl
  c53 := by kernel_rfl
  c75 := by kernel_rfl
  c76 := by kernel_rfl
  c80 := by kernel_rfl
  c85 := by kernel_rfl
  c127 := by kernel_rfl
  c143 := by kernel_rfl
  c145 := by kernel_rfl
  c167 := by kernel_rfl
  c168 := by kernel_rfl
  c171 := by kernel_rfl
  c173 := by kernel_rfl
  c175 := by kernel_rfl
  c210 := by kernel_rfl
  c212 := by kernel_rfl
  c213 := by kernel_rfl
  c232 := by kernel_rfl
  c233 := by kernel_rfl }

def F_strconv_Atoi : Fun := F_atoiS
theorem strconv_Atoi_sound : Sound Tryd.prog 31 F_strconv_Atoi := atoiS_sound lay_atoiS rfl rfl


/-! loop.example/headtrees/impl.numbersIn -/

def impl_numbersIn_an : Ann := (.seq (.leaf [0]) (.seq (.seq (.leaf [3]) (.block (.seq (.leaf [3, 4]) (.cond (.seq (.leaf [2]) (.leaf [2])) (.seq (.leaf [6]) (.cond (.seq (.leaf [2]) (.leaf [2])) (.leaf []))))))) (.seq (.leaf [2]) (.leaf [2]))))

noncomputable def impl_numbersIn_ctx : Ctx := ⟨tlook tys, olook [], ioF, 0, false, []⟩

theorem impl_numbersIn_n1_l (x1079 : Int) : Link impl_numbersIn_ctx LL (bodyOf Tryd.f25) impl_numbersIn_an ⟨mkE 8 0 [(0, dI x1079)], []⟩ (impl_numbersIn_n1 x1079) (fun (t : Int) => (Exit.ret, ⟨mkE 8 0 [(2, dI t)], []⟩)) := .of fun K h => by
  simp only [impl_numbersIn_n1, wpW] at h
  exact .of (by kernel_rfl) h

theorem impl_numbersIn_e (x1079 : Int) {r : AV} {H' : Heap} (h : (Ans.mk _ (impl_numbersIn x1079) (fun (t : Int) => (dI t, [])) [] none).run = some (r, H')) : Awp impl_numbersIn_ctx LL (bodyOf Tryd.f25) impl_numbersIn_an ⟨mkE 8 0 [(0, dI x1079)], []⟩ (Ret (tlook tys) Tryd.f25.results.toList r H') :=
  ret_of' (impl_numbersIn_n1_l x1079) (by unfold impl_numbersIn; kernel_rfl) (by
  intro t
  exact ret_mk [dI t] (by kernel_rfl) (by kernel_rfl) (by kernel_rfl) (by kernel_rfl)) h

def F_impl_numbersIn : Fun := fun avs H =>
  match avs, H with
  | [.dat (.int .i64) x1079], [] => ⟨_, impl_numbersIn x1079, fun (t : Int) => (dI t, []), [], none⟩
  | _, _ => Ans.no

theorem impl_numbersIn_sound : Sound Tryd.prog 25 F_impl_numbersIn := by
  refine fn_sound' (C := impl_numbersIn_ctx) (c := bodyOf Tryd.f25) (cok_of tys_ok (alln) (alln) (by kernel_rfl)) Tryd.func25 (by kernel_rfl) LL impl_numbersIn_an ?_
  intro avs H r H' h
  unfold F_impl_numbersIn at h
  split at h
  · refine Awp.cast ?_ ?_ ?_ (impl_numbersIn_e _ h) <;> kernel_rfl
  · simp [Ans.no, Ans.run] at h


/-! (loop.example/headtrees/impl.Deed).restOk -/

def impl_Deed_restOk_an : Ann := (.seq (.leaf [1]) (.seq (.leaf [1, 3]) (.seq (.leaf [2]) (.leaf [2]))))

noncomputable def impl_Deed_restOk_ctx : Ctx := ⟨tlook tys, olook [(25, F_impl_numbersIn)], ioF, 0, false, []⟩

theorem impl_Deed_restOk_n1_l (x1076 : Int) (x1077 : Int) (x1078 : Int) : Link impl_Deed_restOk_ctx LL (bodyOf Tryd.f35) impl_Deed_restOk_an ⟨mkE 23 0 [(0, .agg [dI x1076, dI x1077, dI x1078])], []⟩ (impl_Deed_restOk_n1 x1076 x1077 x1078) (fun (t : Bool) => (Exit.ret, ⟨mkE 23 0 [(2, dB t)], []⟩)) := .of fun K h => by
  simp only [impl_Deed_restOk_n1, wpW] at h
  exact .of (by kernel_rfl) h

theorem impl_Deed_restOk_e (x1076 : Int) (x1077 : Int) (x1078 : Int) {r : AV} {H' : Heap} (h : (Ans.mk _ (impl_Deed_restOk x1076 x1077 x1078) (fun (t : Bool) => (dB t, [])) [] none).run = some (r, H')) : Awp impl_Deed_restOk_ctx LL (bodyOf Tryd.f35) impl_Deed_restOk_an ⟨mkE 23 0 [(0, .agg [dI x1076, dI x1077, dI x1078])], []⟩ (Ret (tlook tys) Tryd.f35.results.toList r H') :=
  ret_of' (impl_Deed_restOk_n1_l x1076 x1077 x1078) (by unfold impl_Deed_restOk; kernel_rfl) (by
  intro t
  exact ret_mk [dB t] (by kernel_rfl) (by kernel_rfl) (by kernel_rfl) (by kernel_rfl)) h

def F_impl_Deed_restOk : Fun := fun avs H =>
  match avs, H with
  | [.agg [.dat (.int .i64) x1076, .dat (.int .i64) x1077, .dat (.int .i64) x1078]], [] => ⟨_, impl_Deed_restOk x1076 x1077 x1078, fun (t : Bool) => (dB t, []), [], none⟩
  | _, _ => Ans.no

theorem impl_Deed_restOk_sound : Sound Tryd.prog 35 F_impl_Deed_restOk := by
  refine fn_sound' (C := impl_Deed_restOk_ctx) (c := bodyOf Tryd.f35) (cok_of tys_ok (allc impl_numbersIn_sound alln) (allc Tryd.call25 alln) (by kernel_rfl)) Tryd.func35 (by kernel_rfl) LL impl_Deed_restOk_an ?_
  intro avs H r H' h
  unfold F_impl_Deed_restOk at h
  split at h
  · refine Awp.cast ?_ ?_ ?_ (impl_Deed_restOk_e _ _ _ h) <;> kernel_rfl
  · simp [Ans.no, Ans.run] at h


/-! (loop.example/headtrees/impl.Deed).inText -/

def impl_Deed_inText_an : Ann := (.seq (.leaf [1]) (.seq (.leaf [2]) (.leaf [2])))

noncomputable def impl_Deed_inText_ctx : Ctx := ⟨tlook tys, olook [(35, F_impl_Deed_restOk)], ioF, 0, false, []⟩

theorem impl_Deed_inText_n1_l (x1071 : Int) (x1072 : Int) (x1073 : Int) : Link impl_Deed_inText_ctx LL (bodyOf Tryd.f24) impl_Deed_inText_an ⟨mkE 35 0 [(0, .agg [dI x1071, dI x1072, dI x1073])], []⟩ (impl_Deed_inText_n1 x1071 x1072 x1073) (fun (t : Bool) => (Exit.ret, ⟨mkE 35 0 [(2, dB t)], []⟩)) := .of fun K h => by
  simp only [impl_Deed_inText_n1, wpW] at h
  exact .of (by kernel_rfl) h

theorem impl_Deed_inText_e (x1071 : Int) (x1072 : Int) (x1073 : Int) {r : AV} {H' : Heap} (h : (Ans.mk _ (impl_Deed_inText x1071 x1072 x1073) (fun (t : Bool) => (dB t, [])) [] none).run = some (r, H')) : Awp impl_Deed_inText_ctx LL (bodyOf Tryd.f24) impl_Deed_inText_an ⟨mkE 35 0 [(0, .agg [dI x1071, dI x1072, dI x1073])], []⟩ (Ret (tlook tys) Tryd.f24.results.toList r H') :=
  ret_of' (impl_Deed_inText_n1_l x1071 x1072 x1073) (by unfold impl_Deed_inText; kernel_rfl) (by
  intro t
  exact ret_mk [dB t] (by kernel_rfl) (by kernel_rfl) (by kernel_rfl) (by kernel_rfl)) h

def F_impl_Deed_inText : Fun := fun avs H =>
  match avs, H with
  | [.agg [.dat (.int .i64) x1071, .dat (.int .i64) x1072, .dat (.int .i64) x1073]], [] => ⟨_, impl_Deed_inText x1071 x1072 x1073, fun (t : Bool) => (dB t, []), [], none⟩
  | _, _ => Ans.no

theorem impl_Deed_inText_sound : Sound Tryd.prog 24 F_impl_Deed_inText := by
  refine fn_sound' (C := impl_Deed_inText_ctx) (c := bodyOf Tryd.f24) (cok_of tys_ok (allc impl_Deed_restOk_sound alln) (allc Tryd.call35 alln) (by kernel_rfl)) Tryd.func24 (by kernel_rfl) LL impl_Deed_inText_an ?_
  intro avs H r H' h
  unfold F_impl_Deed_inText at h
  split at h
  · refine Awp.cast ?_ ?_ ?_ (impl_Deed_inText_e _ _ _ h) <;> kernel_rfl
  · simp [Ans.no, Ans.run] at h


/-! strconv.Itoa -/

def ren_itoaS : Go.Shelf.Ren := ⟨fun | 129 => 68 | 171 => 26 | 243 => 36 | 246 => 42 | 283 => 53 | 284 => 54 | 285 => 55 | 286 => 56 | 317 => 67 | 318 => 69 | 319 => 70 | 320 => 71 | 337 => 77 | 338 => 78 | n => n, fun | 0 => 0 | 2 => 2 | 3 => 3 | 4 => 4 | 5 => 5 | 9 => 9 | 20 => 20 | 37 => 57 | 46 => 88 | 51 => 95 | 53 => 78 | 171 => 77 | 173 => 81 | 212 => 94 | 213 => 96 | 232 => 110 | 233 => 111 | n => n, fun | 17 => 4 | 18 => 7 | 19 => 8 | n => n⟩
theorem lay_itoaS : Lays.n171 Tryd.prog ren_itoaS := {
  mixed := by kernel_rfl
  f129 := Tryd.func68.trans (congrArg some (by kernel_rfl))
  f171 := Tryd.func26.trans (congrArg some (by kernel_rfl))
  f243 := Tryd.func36.trans (congrArg some (by kernel_rfl))
  f246 := Tryd.func42.trans (congrArg some (by kernel_rfl))
  f283 := Tryd.func53.trans (congrArg some (by kernel_rfl))
  f284 := Tryd.func54.trans (congrArg some (by kernel_rfl))
  f285 := Tryd.func55.trans (congrArg some (by kernel_rfl))
  f286 := Tryd.func56.trans (congrArg some (by kernel_rfl))
  f317 := Tryd.func67.trans (congrArg some (by kernel_rfl))
  f318 := Tryd.func69.trans (congrArg some (by kernel_rfl))
  f319 := Tryd.func70.trans (congrArg some (by kernel_rfl))
  f320 := Tryd.func71.trans (congrArg some (by kernel_rfl))
  f337 := Tryd.func77.trans (congrArg some (by kernel_rfl))
  f338 := Tryd.func78.trans (congrArg some (by kernel_rfl))
  t0 := Tryd.underlying0
  a0 := Tryd.isAgg0
  z0 := Tryd.sizeOf0
  v0 := Tryd.zeroValue0
  t2 := Tryd.underlying2
  a2 := Tryd.isAgg2
  z2 := Tryd.sizeOf2
  v2 := Tryd.zeroValue2
  t3 := Tryd.underlying3
  a3 := Tryd.isAgg3
  z3 := Tryd.sizeOf3
  v3 := Tryd.zeroValue3
  t4 := Tryd.underlying4
  a4 := Tryd.isAgg4
  z4 := Tryd.sizeOf4
  v4 := Tryd.zeroValue4
  t5 := Tryd.underlying5
  a5 := Tryd.isAgg5
  z5 := Tryd.sizeOf5
  v5 := Tryd.zeroValue5
  t9 := Tryd.underlying9
  a9 := Tryd.isAgg9
  z9 := Tryd.sizeOf9
  v9 := Tryd.zeroValue9
  t20 := Tryd.underlying20
  a20 := Tryd.isAgg20
  z20 := Tryd.sizeOf20
  v20 := Tryd.zeroValue20
  t37 := Tryd.underlying57
  a37 := Tryd.isAgg57
  z37 := Tryd.sizeOf57
  v37 := Tryd.zeroValue57
  t46 := Tryd.underlying88
  a46 := Tryd.isAgg88
  z46 := Tryd.sizeOf88
  v46 := Tryd.zeroValue88
  t51 := Tryd.underlying95
  a51 := Tryd.isAgg95
  z51 := Tryd.sizeOf95
  v51 := Tryd.zeroValue95
  t53 := Tryd.underlying78
  a53 := Tryd.isAgg78
  z53 := Tryd.sizeOf78
  v53 := Tryd.zeroValue78
  t171 := Tryd.underlying77
  a171 := Tryd.isAgg77
  z171 := Tryd.sizeOf77
  v171 := Tryd.zeroValue77
  t173 := Tryd.underlying81
  a173 := Tryd.isAgg81
  z173 := Tryd.sizeOf81
  v173 := Tryd.zeroValue81
  t212 := Tryd.underlying94
  a212 := Tryd.isAgg94
  z212 := Tryd.sizeOf94
  v212 := Tryd.zeroValue94
  t213 := Tryd.underlying96
  a213 := Tryd.isAgg96
  z213 := Tryd.sizeOf96
  t232 := Tryd.underlying110
  a232 := Tryd.isAgg110
  z232 := Tryd.sizeOf110
  v232 := Tryd.zeroValue110
  t233 := Tryd.underlying111
  a233 := Tryd.isAgg111
  z233 := Tryd.sizeOf111
  v233 := Tryd.zeroValue111
  g17 := by kernel_rfl
  g18 := by kernel_rfl
  g19 := by kernel_rfl }

def F_strconv_Itoa : Fun := F_itoaS
theorem strconv_Itoa_sound : Sound Tryd.prog 26 F_strconv_Itoa := itoaS_sound lay_itoaS


/-! loop.example/headtrees/impl.DeedText -/

def impl_DeedText_an : Ann := (.seq (.leaf [1]) (.seq (.seq (.leaf [1, 8]) (.cond (.seq (.leaf [2]) (.leaf [2])) (.leaf [1]))) (.seq (.leaf [1, 3]) (.seq (.seq (.draw [7, 4] [0, 1, 2, 3, 4, 5, 6, 10, 7, 8, 9] [] [3, 21, 22, 23]) (.block (.loop (.seq (.leaf [3, 21, 22, 23, 24]) (.seq (.cond (.leaf [3, 21, 22, 23]) (.leaf [3])) (.seq (.block (.seq (.leaf [3, 5, 21, 22, 23]) (.leaf [3, 21, 22, 23]))) (.leaf [3, 21, 22, 23]))))))) (.seq (.leaf [2]) (.leaf [2]))))))

noncomputable def impl_DeedText_ctx : Ctx := ⟨tlook tys, olook [(24, F_impl_Deed_inText), (25, F_impl_numbersIn), (26, F_strconv_Itoa)], ioF, 0, false, []⟩

theorem impl_DeedText_n1_l (x1068 : Int) (x1069 : Int) (x1070 : Int) : Link impl_DeedText_ctx LL (Code.seq (cq [0] (bodyOf Tryd.f9)) (Code.seq (cq [0,1] (bodyOf Tryd.f9)) (cq [0,1,1] (bodyOf Tryd.f9)))) (Ann.seq (aq [0] impl_DeedText_an) (Ann.seq (aq [0,1] impl_DeedText_an) (aq [0,1,1] impl_DeedText_an))) ⟨mkE 34 0 [(0, .agg [dI x1068, dI x1069, dI x1070])], []⟩ (impl_DeedText_n1 x1068 x1069 x1070) (Sum.elim (fun (t : ByteArray) => (Exit.normal, ⟨mkE 34 0 [(1, .ptr 0 0), (3, dS t)], [some (.box [dI x1068, dI x1069, dI x1070])]⟩)) (fun (t : ByteArray) => (Exit.ret, ⟨mkE 34 0 [(2, dS t)], []⟩))) := .of fun K h => by
  simp only [impl_DeedText_n1, wpW] at h
  exact .of (by kernel_rfl) h

theorem impl_DeedText_n2_l (x1127 : ByteArray) (x1068 : Int) (x1069 : Int) (x1070 : Int) : Link impl_DeedText_ctx LL (cq [0,0,1,1,1] (bodyOf Tryd.f9)) (aq [0,0,1,1,1] impl_DeedText_an) ⟨mkE 34 0 [(1, .ptr 0 0), (3, dS x1127)], [some (.box [dI x1068, dI x1069, dI x1070])]⟩ (impl_DeedText_n2 x1068 x1069 x1070) (fun (t : (List Int) × Int) => (Exit.normal, ⟨mkE 34 0 [(3, dS x1127), (21, dL t.1), (22, dI t.2), (23, dI 0)], []⟩)) := .of fun K h => by
  simp only [impl_DeedText_n2, wpW] at h
  exact .of (by kernel_rfl) h

theorem impl_DeedText_n3_l (x1149 : ByteArray) (x1132 : List Int) (x1133 : Int) (x1150 : Int) : Link impl_DeedText_ctx LL (cq [0,0,1,0,1,1,1] (bodyOf Tryd.f9)) (aq [0,0,1,0,1,1,1] impl_DeedText_an) ⟨mkE 34 0 [(3, dS x1149), (21, dL x1132), (22, dI x1133), (23, dI x1150)], []⟩ (impl_DeedText_n3 x1149 x1132 x1133 x1150) (Sum.elim (fun (t : ByteArray × Int) => (Exit.normal, ⟨mkE 34 0 [(3, dS t.1), (21, dL x1132), (22, dI x1133), (23, dI t.2)], []⟩)) (fun (t : ByteArray) => ((Exit.exit 0), ⟨mkE 34 0 [(3, dS t)], []⟩))) := .of fun K h => by
  simp only [impl_DeedText_n3, wpW] at h
  exact .of (by kernel_rfl) h

def impl_DeedText_n4_l (x1127 : ByteArray) (x1132 : List Int) (x1133 : Int) := (link_loop (mk := fun (s : ByteArray × Int) => ⟨mkE 34 0 [(3, dS s.1), (21, dL x1132), (22, dI x1133), (23, dI s.2)], []⟩) (fin := (fun (t : ByteArray) => ((Exit.exit 0), ⟨mkE 34 0 [(3, dS t)], []⟩))) (by
  rintro t f K h
  · exact h) (fun s => link_map (impl_DeedText_n3_l s.1 x1132 x1133 s.2) (Sum.elim (fun (t : ByteArray × Int) => Sum.inl (t.1, t.2)) (fun (t : ByteArray) => Sum.inr t)) (by
  rintro (t | t)
  · kernel_rfl
  · kernel_rfl)) (x1127, 0))

def impl_DeedText_n5_l (x1127 : ByteArray) (x1132 : List Int) (x1133 : Int) := (link_block (fin2 := (fun (t : ByteArray) => (Exit.normal, ⟨mkE 34 0 [(3, dS t)], []⟩))) (id := 0) (impl_DeedText_n4_l x1127 x1132 x1133) (fun (t : ByteArray) => t) (by
  rintro t K h
  · exact Eq.mp (by kernel_rfl) h))

def impl_DeedText_n6_l (x1127 : ByteArray) (x1068 : Int) (x1069 : Int) (x1070 : Int) := (link_seq (impl_DeedText_n2_l x1127 x1068 x1069 x1070) (fun (t : (List Int) × Int) => (impl_DeedText_n5_l x1127 t.1 t.2)))

theorem impl_DeedText_n7_l (x1149 : ByteArray) : Link impl_DeedText_ctx LL (cq [1,1,1,1] (bodyOf Tryd.f9)) (aq [1,1,1,1] impl_DeedText_an) ⟨mkE 34 0 [(3, dS x1149)], []⟩ (impl_DeedText_n7 x1149) (fun (t : ByteArray) => (Exit.ret, ⟨mkE 34 0 [(2, dS t)], []⟩)) := .of fun K h => by
  simp only [impl_DeedText_n7, wpW] at h
  exact .of (by kernel_rfl) h

def impl_DeedText_n8_l (x1127 : ByteArray) (x1068 : Int) (x1069 : Int) (x1070 : Int) := (link_seq (impl_DeedText_n6_l x1127 x1068 x1069 x1070) (fun (t : ByteArray) => (impl_DeedText_n7_l t)))

def impl_DeedText_n9_l (x1068 : Int) (x1069 : Int) (x1070 : Int) := (link_group (c := (cq [0,1,1] (bodyOf Tryd.f9))) (a := (aq [0,1,1] impl_DeedText_an)) [(cq [0] (bodyOf Tryd.f9)), (cq [0,1] (bodyOf Tryd.f9))] [(aq [0] impl_DeedText_an), (aq [0,1] impl_DeedText_an)] rfl (link_seq2 (impl_DeedText_n1_l x1068 x1069 x1070) (fun (t : ByteArray) => (impl_DeedText_n8_l t x1068 x1069 x1070)) (fun (t : ByteArray) => t) (by
  rintro t
  · kernel_rfl) (by
  rintro t f K h
  · exact h)))

theorem impl_DeedText_e (x1068 : Int) (x1069 : Int) (x1070 : Int) {r : AV} {H' : Heap} (h : (Ans.mk _ (impl_DeedText x1068 x1069 x1070) (fun (t : ByteArray) => (dS t, [])) [] none).run = some (r, H')) : Awp impl_DeedText_ctx LL (bodyOf Tryd.f9) impl_DeedText_an ⟨mkE 34 0 [(0, .agg [dI x1068, dI x1069, dI x1070])], []⟩ (Ret (tlook tys) Tryd.f9.results.toList r H') :=
  ret_of' (Link.cast (by kernel_rfl) (by kernel_rfl) (impl_DeedText_n9_l x1068 x1069 x1070)) (by unfold impl_DeedText; kernel_rfl) (by
  intro t
  exact ret_mk [dS t] (by kernel_rfl) (by kernel_rfl) (by kernel_rfl) (by kernel_rfl)) h

def F_impl_DeedText : Fun := fun avs H =>
  match avs, H with
  | [.agg [.dat (.int .i64) x1068, .dat (.int .i64) x1069, .dat (.int .i64) x1070]], [] => ⟨_, impl_DeedText x1068 x1069 x1070, fun (t : ByteArray) => (dS t, []), [], none⟩
  | _, _ => Ans.no

theorem impl_DeedText_sound : Sound Tryd.prog 9 F_impl_DeedText := by
  refine fn_sound' (C := impl_DeedText_ctx) (c := bodyOf Tryd.f9) (cok_of tys_ok (allc impl_Deed_inText_sound (allc impl_numbersIn_sound (allc strconv_Itoa_sound alln))) (allc Tryd.call24 (allc Tryd.call25 (allc Tryd.call26 alln))) (by kernel_rfl)) Tryd.func9 (by kernel_rfl) LL impl_DeedText_an ?_
  intro avs H r H' h
  unfold F_impl_DeedText at h
  split at h
  · refine Awp.cast ?_ ?_ ?_ (impl_DeedText_e _ _ _ h) <;> kernel_rfl
  · simp [Ans.no, Ans.run] at h


/-! loop.example/headtrees/impl.ReadDeed -/

def impl_ReadDeed_an : Ann := (.seq (.leaf [0, 2]) (.seq (.leaf [0, 2, 4]) (.seq (.leaf [0, 2, 4, 5]) (.seq (.seq (.leaf [0, 2, 4, 5, 15]) (.cond (.leaf [0, 2, 4, 5]) (.leaf [0, 2, 4, 5]))) (.seq (.seq (.leaf [0, 2, 4, 5, 26]) (.cond (.leaf [0, 2, 5]) (.leaf [0, 2, 5]))) (.seq (.seq (.leaf [2, 5, 42]) (.cond (.seq (.leaf [2, 3]) (.leaf [2, 3])) (.leaf [2, 5]))) (.seq (.leaf [2, 3]) (.leaf [2, 3]))))))))

noncomputable def impl_ReadDeed_ctx : Ctx := ⟨tlook tys, olook [(29, F_strings_SplitN), (30, F_impl_kindFor), (31, F_strconv_Atoi), (9, F_impl_DeedText)], ioF, 0, false, []⟩

theorem impl_ReadDeed_n1_l (x752 : ByteArray) : Link impl_ReadDeed_ctx LL (bodyOf Tryd.f11) impl_ReadDeed_an ⟨mkE 45 0 [(0, dS x752)], []⟩ (impl_ReadDeed_n1 x752) (fun (t : Bool × Int × Int × Int) => (Exit.ret, ⟨mkE 45 0 [(2, .ptr 0 0), (3, dB t.1)], [some (.box [dI t.2.1, dI t.2.2.1, dI t.2.2.2])]⟩)) := .of fun K h => by
  simp only [impl_ReadDeed_n1, wpW] at h
  exact .of (by kernel_rfl) h

theorem impl_ReadDeed_e (x752 : ByteArray) {r : AV} {H' : Heap} (h : (Ans.mk _ (impl_ReadDeed x752) (fun (t : Bool × Int × Int × Int) => (.tup [.agg [dI t.2.1, dI t.2.2.1, dI t.2.2.2], dB t.1], [some (.box [dI t.2.1, dI t.2.2.1, dI t.2.2.2])])) [] none).run = some (r, H')) : Awp impl_ReadDeed_ctx LL (bodyOf Tryd.f11) impl_ReadDeed_an ⟨mkE 45 0 [(0, dS x752)], []⟩ (Ret (tlook tys) Tryd.f11.results.toList r H') :=
  ret_of' (impl_ReadDeed_n1_l x752) (by unfold impl_ReadDeed; kernel_rfl) (by
  intro t
  exact ret_mk [.agg [dI t.2.1, dI t.2.2.1, dI t.2.2.2], dB t.1] (by kernel_rfl) (by kernel_rfl) (by kernel_rfl) (by kernel_rfl)) h

def F_impl_ReadDeed : Fun := fun avs H =>
  match avs, H with
  | [.dat .str x752], [] => ⟨_, impl_ReadDeed x752, fun (t : Bool × Int × Int × Int) => (.tup [.agg [dI t.2.1, dI t.2.2.1, dI t.2.2.2], dB t.1], [some (.box [dI t.2.1, dI t.2.2.1, dI t.2.2.2])]), [], none⟩
  | _, _ => Ans.no

theorem impl_ReadDeed_sound : Sound Tryd.prog 11 F_impl_ReadDeed := by
  refine fn_sound' (C := impl_ReadDeed_ctx) (c := bodyOf Tryd.f11) (cok_of tys_ok (allc strings_SplitN_sound (allc impl_kindFor_sound (allc strconv_Atoi_sound (allc impl_DeedText_sound alln)))) (allc Tryd.call29 (allc Tryd.call30 (allc Tryd.call31 (allc Tryd.call9 alln)))) (by kernel_rfl)) Tryd.func11 (by kernel_rfl) LL impl_ReadDeed_an ?_
  intro avs H r H' h
  unfold F_impl_ReadDeed at h
  split at h
  · refine Awp.cast ?_ ?_ ?_ (impl_ReadDeed_e _ h) <;> kernel_rfl
  · simp [Ans.no, Ans.run] at h


/-! loop.example/headtrees/laws.eqDeed -/

def laws_eqDeed_an : Ann := (.seq (.leaf [2, 3]) (.seq (.seq (.leaf [2, 3, 9]) (.cond (.seq (.leaf [4]) (.leaf [4])) (.leaf [2, 3]))) (.seq (.seq (.leaf [2, 3, 14]) (.cond (.seq (.leaf [4]) (.leaf [4])) (.leaf [2, 3]))) (.seq (.seq (.leaf [19]) (.cond (.seq (.leaf [4]) (.leaf [4])) (.leaf []))) (.seq (.leaf [4]) (.leaf [4]))))))

noncomputable def laws_eqDeed_ctx : Ctx := ⟨tlook tys, olook [], ioF, 0, false, []⟩

theorem laws_eqDeed_n1_l (x1291 : Int) (x1292 : Int) (x1293 : Int) (x1294 : Int) (x1295 : Int) (x1296 : Int) : Link laws_eqDeed_ctx LL (bodyOf Tryd.f12) laws_eqDeed_an ⟨mkE 20 0 [(0, .agg [dI x1291, dI x1292, dI x1293]), (1, .agg [dI x1294, dI x1295, dI x1296])], []⟩ (laws_eqDeed_n1 x1291 x1292 x1293 x1294 x1295 x1296) (fun (t : Bool) => (Exit.ret, ⟨mkE 20 0 [(4, dB t)], []⟩)) := .of fun K h => by
  simp only [laws_eqDeed_n1, wpW] at h
  exact .of (by kernel_rfl) h

theorem laws_eqDeed_e (x1291 : Int) (x1292 : Int) (x1293 : Int) (x1294 : Int) (x1295 : Int) (x1296 : Int) {r : AV} {H' : Heap} (h : (Ans.mk _ (laws_eqDeed x1291 x1292 x1293 x1294 x1295 x1296) (fun (t : Bool) => (dB t, [])) [] none).run = some (r, H')) : Awp laws_eqDeed_ctx LL (bodyOf Tryd.f12) laws_eqDeed_an ⟨mkE 20 0 [(0, .agg [dI x1291, dI x1292, dI x1293]), (1, .agg [dI x1294, dI x1295, dI x1296])], []⟩ (Ret (tlook tys) Tryd.f12.results.toList r H') :=
  ret_of' (laws_eqDeed_n1_l x1291 x1292 x1293 x1294 x1295 x1296) (by unfold laws_eqDeed; kernel_rfl) (by
  intro t
  exact ret_mk [dB t] (by kernel_rfl) (by kernel_rfl) (by kernel_rfl) (by kernel_rfl)) h

def F_laws_eqDeed : Fun := fun avs H =>
  match avs, H with
  | [.agg [.dat (.int .i64) x1291, .dat (.int .i64) x1292, .dat (.int .i64) x1293], .agg [.dat (.int .i64) x1294, .dat (.int .i64) x1295, .dat (.int .i64) x1296]], [] => ⟨_, laws_eqDeed x1291 x1292 x1293 x1294 x1295 x1296, fun (t : Bool) => (dB t, []), [], none⟩
  | _, _ => Ans.no

theorem laws_eqDeed_sound : Sound Tryd.prog 12 F_laws_eqDeed := by
  refine fn_sound' (C := laws_eqDeed_ctx) (c := bodyOf Tryd.f12) (cok_of tys_ok (alln) (alln) (by kernel_rfl)) Tryd.func12 (by kernel_rfl) LL laws_eqDeed_an ?_
  intro avs H r H' h
  unfold F_laws_eqDeed at h
  split at h
  · refine Awp.cast ?_ ?_ ?_ (laws_eqDeed_e _ _ _ _ _ _ h) <;> kernel_rfl
  · simp [Ans.no, Ans.run] at h


/-! loop.example/headtrees/spec.ReadJournal -/

def spec_ReadJournal_an : Ann := (.seq (.leaf [0]) (.seq (.leaf [0, 4]) (.seq (.leaf [0, 4, 5]) (.seq (.seq (.leaf [0, 4, 5, 6]) (.block (.loop (.seq (.seq (.leaf [0, 4, 5, 6, 13]) (.cond (.leaf [0, 4, 5, 6]) (.leaf [4, 5]))) (.seq (.block (.seq (.leaf [0, 4, 5, 6, 19]) (.cond (.seq (.leaf [0, 4, 5, 6, 7, 8]) (.seq (.seq (.leaf [0, 4, 5, 6, 7, 29]) (.cond (.seq (.leaf [2, 3]) (.leaf [2, 3])) (.leaf [0, 4, 6, 7]))) (.seq (.leaf [0, 4, 6]) (.leaf [0, 4, 5, 6])))) (.leaf [0, 4, 5, 6])))) (.leaf [0, 4, 5, 6])))))) (.seq (.leaf [2, 3]) (.leaf [2, 3]))))))

noncomputable def spec_ReadJournal_ctx : Ctx := ⟨tlook tys, olook [(10, F_spec_ReadDeed)], ioF, 0, false, []⟩

theorem spec_ReadJournal_n1_l (x1350 : ByteArray) : Link spec_ReadJournal_ctx LL (Code.seq (cq [0] (bodyOf Tryd.f18)) (Code.seq (cq [0,1] (bodyOf Tryd.f18)) (cq [0,1,1] (bodyOf Tryd.f18)))) (Ann.seq (aq [0] spec_ReadJournal_an) (Ann.seq (aq [0,1] spec_ReadJournal_an) (aq [0,1,1] spec_ReadJournal_an))) ⟨mkE 40 0 [(0, dS x1350)], []⟩ (spec_ReadJournal_n1) (fun (t : Unit) => (Exit.normal, ⟨mkE 40 0 [(0, dS x1350), (4, .slc 0), (5, dI 0)], [some (.seq (.pair (.int .i64) (.pair (.int .i64) (.pair (.int .i64) .unit))) ([] : List (Int × Int × Int × Unit)))]⟩)) := .of fun K h => by
  simp only [spec_ReadJournal_n1, wpW] at h
  exact .of (by kernel_rfl) h

theorem spec_ReadJournal_n2_l (x1350 : ByteArray) : Link spec_ReadJournal_ctx LL (cq [0,0,1,1,1] (bodyOf Tryd.f18)) (aq [0,0,1,1,1] spec_ReadJournal_an) ⟨mkE 40 0 [(0, dS x1350), (4, .slc 0), (5, dI 0)], [some (.seq (.pair (.int .i64) (.pair (.int .i64) (.pair (.int .i64) .unit))) ([] : List (Int × Int × Int × Unit)))]⟩ (spec_ReadJournal_n2) (fun (t : Unit) => (Exit.normal, ⟨mkE 40 0 [(0, dS x1350), (4, .slc 0), (5, dI 0), (6, dI 0)], [some (.seq (.pair (.int .i64) (.pair (.int .i64) (.pair (.int .i64) .unit))) ([] : List (Int × Int × Int × Unit)))]⟩)) := .of fun K h => by
  simp only [spec_ReadJournal_n2, wpW] at h
  exact .of (by kernel_rfl) h

theorem spec_ReadJournal_n3_l (x1350 : ByteArray) (x1403 : Int) (x1404 : Int) (x1405 : List (Int × Int × Int × Unit)) : Link spec_ReadJournal_ctx LL (cq [0,0,1,0,1,1,1] (bodyOf Tryd.f18)) (aq [0,0,1,0,1,1,1] spec_ReadJournal_an) ⟨mkE 40 0 [(0, dS x1350), (4, .slc 0), (5, dI x1403), (6, dI x1404)], [some (.seq (.pair (.int .i64) (.pair (.int .i64) (.pair (.int .i64) .unit))) x1405)]⟩ (spec_ReadJournal_n3 x1350 x1403 x1404 x1405) (Sum.elim (fun (t : Int × Int × (List (Int × Int × Int × Unit))) => (Exit.normal, ⟨mkE 40 0 [(0, dS x1350), (4, .slc 0), (5, dI t.1), (6, dI t.2.1)], [some (.seq (.pair (.int .i64) (.pair (.int .i64) (.pair (.int .i64) .unit))) t.2.2)]⟩)) (Sum.elim (fun (t : Int × (List (Int × Int × Int × Unit))) => (Exit.ret, ⟨mkE 40 0 [(2, .slc 0), (3, dI t.1)], [some (.seq (.pair (.int .i64) (.pair (.int .i64) (.pair (.int .i64) .unit))) t.2)]⟩)) (fun (t : Int × (List (Int × Int × Int × Unit))) => ((Exit.exit 0), ⟨mkE 40 0 [(4, .slc 0), (5, dI t.1)], [some (.seq (.pair (.int .i64) (.pair (.int .i64) (.pair (.int .i64) .unit))) t.2)]⟩)))) := .of fun K h => by
  simp only [spec_ReadJournal_n3, wpW] at h
  exact .of (by kernel_rfl) h

def spec_ReadJournal_n4_l (x1350 : ByteArray) := (link_loop (mk := fun (s : Int × Int × (List (Int × Int × Int × Unit))) => ⟨mkE 40 0 [(0, dS x1350), (4, .slc 0), (5, dI s.1), (6, dI s.2.1)], [some (.seq (.pair (.int .i64) (.pair (.int .i64) (.pair (.int .i64) .unit))) s.2.2)]⟩) (fin := (Sum.elim (fun (t : Int × (List (Int × Int × Int × Unit))) => (Exit.ret, ⟨mkE 40 0 [(2, .slc 0), (3, dI t.1)], [some (.seq (.pair (.int .i64) (.pair (.int .i64) (.pair (.int .i64) .unit))) t.2)]⟩)) (fun (t : Int × (List (Int × Int × Int × Unit))) => ((Exit.exit 0), ⟨mkE 40 0 [(4, .slc 0), (5, dI t.1)], [some (.seq (.pair (.int .i64) (.pair (.int .i64) (.pair (.int .i64) .unit))) t.2)]⟩)))) (by
  rintro (t | t) f K h
  · exact h
  · exact h) (fun s => link_map (spec_ReadJournal_n3_l x1350 s.1 s.2.1 s.2.2) (Sum.elim (fun (t : Int × Int × (List (Int × Int × Int × Unit))) => Sum.inl (t.1, t.2.1, t.2.2)) (Sum.elim (fun (t : Int × (List (Int × Int × Int × Unit))) => Sum.inr (Sum.inl t)) (fun (t : Int × (List (Int × Int × Int × Unit))) => Sum.inr (Sum.inr t)))) (by
  rintro (t | t | t)
  · kernel_rfl
  · kernel_rfl
  · kernel_rfl)) (0, 0, ([] : List (Int × Int × Int × Unit))))

def spec_ReadJournal_n5_l (x1350 : ByteArray) := (link_block (fin2 := (Sum.elim (fun (t : Int × (List (Int × Int × Int × Unit))) => (Exit.normal, ⟨mkE 40 0 [(4, .slc 0), (5, dI t.1)], [some (.seq (.pair (.int .i64) (.pair (.int .i64) (.pair (.int .i64) .unit))) t.2)]⟩)) (fun (t : Int × (List (Int × Int × Int × Unit))) => (Exit.ret, ⟨mkE 40 0 [(2, .slc 0), (3, dI t.1)], [some (.seq (.pair (.int .i64) (.pair (.int .i64) (.pair (.int .i64) .unit))) t.2)]⟩)))) (id := 0) (spec_ReadJournal_n4_l x1350) (Sum.elim (fun (t : Int × (List (Int × Int × Int × Unit))) => (Sum.inr t)) (fun (t : Int × (List (Int × Int × Int × Unit))) => (Sum.inl (t.1, t.2)))) (by
  rintro (t | t) K h
  · exact Eq.mp (by kernel_rfl) h
  · exact Eq.mp (by kernel_rfl) h))

def spec_ReadJournal_n6_l (x1350 : ByteArray) := (link_seq (spec_ReadJournal_n2_l x1350) (fun (t : Unit) => (spec_ReadJournal_n5_l x1350)))

theorem spec_ReadJournal_n7_l (x1403 : Int) (x1405 : List (Int × Int × Int × Unit)) : Link spec_ReadJournal_ctx LL (cq [1,1,1,1] (bodyOf Tryd.f18)) (aq [1,1,1,1] spec_ReadJournal_an) ⟨mkE 40 0 [(4, .slc 0), (5, dI x1403)], [some (.seq (.pair (.int .i64) (.pair (.int .i64) (.pair (.int .i64) .unit))) x1405)]⟩ (spec_ReadJournal_n7 x1403 x1405) (fun (t : Int × (List (Int × Int × Int × Unit))) => (Exit.ret, ⟨mkE 40 0 [(2, .slc 0), (3, dI t.1)], [some (.seq (.pair (.int .i64) (.pair (.int .i64) (.pair (.int .i64) .unit))) t.2)]⟩)) := .of fun K h => by
  simp only [spec_ReadJournal_n7, wpW] at h
  exact .of (by kernel_rfl) h

def spec_ReadJournal_n8_l (x1350 : ByteArray) := (link_seq2 (spec_ReadJournal_n6_l x1350) (fun (t : Int × (List (Int × Int × Int × Unit))) => (spec_ReadJournal_n7_l t.1 t.2)) (fun (t : Int × (List (Int × Int × Int × Unit))) => t) (by
  rintro t
  · kernel_rfl) (by
  rintro t f K h
  · exact h))

def spec_ReadJournal_n9_l (x1350 : ByteArray) := (link_group (c := (cq [0,1,1] (bodyOf Tryd.f18))) (a := (aq [0,1,1] spec_ReadJournal_an)) [(cq [0] (bodyOf Tryd.f18)), (cq [0,1] (bodyOf Tryd.f18))] [(aq [0] spec_ReadJournal_an), (aq [0,1] spec_ReadJournal_an)] rfl (link_seq (spec_ReadJournal_n1_l x1350) (fun (t : Unit) => (spec_ReadJournal_n8_l x1350))))

theorem spec_ReadJournal_e (x1350 : ByteArray) {r : AV} {H' : Heap} (h : (Ans.mk _ (spec_ReadJournal x1350) (fun (t : Int × (List (Int × Int × Int × Unit))) => (.tup [.slc 0, dI t.1], [some (.seq (.pair (.int .i64) (.pair (.int .i64) (.pair (.int .i64) .unit))) t.2)])) [] none).run = some (r, H')) : Awp spec_ReadJournal_ctx LL (bodyOf Tryd.f18) spec_ReadJournal_an ⟨mkE 40 0 [(0, dS x1350)], []⟩ (Ret (tlook tys) Tryd.f18.results.toList r H') :=
  ret_of' (Link.cast (by kernel_rfl) (by kernel_rfl) (spec_ReadJournal_n9_l x1350)) (by unfold spec_ReadJournal; kernel_rfl) (by
  intro t
  exact ret_mk [.slc 0, dI t.1] (by kernel_rfl) (by kernel_rfl) (by kernel_rfl) (by kernel_rfl)) h

def F_spec_ReadJournal : Fun := fun avs H =>
  match avs, H with
  | [.dat .str x1350], [] => ⟨_, spec_ReadJournal x1350, fun (t : Int × (List (Int × Int × Int × Unit))) => (.tup [.slc 0, dI t.1], [some (.seq (.pair (.int .i64) (.pair (.int .i64) (.pair (.int .i64) .unit))) t.2)]), [], none⟩
  | _, _ => Ans.no

theorem spec_ReadJournal_sound : Sound Tryd.prog 18 F_spec_ReadJournal := by
  refine fn_sound' (C := spec_ReadJournal_ctx) (c := bodyOf Tryd.f18) (cok_of tys_ok (allc spec_ReadDeed_sound alln) (allc Tryd.call10 alln) (by kernel_rfl)) Tryd.func18 (by kernel_rfl) LL spec_ReadJournal_an ?_
  intro avs H r H' h
  unfold F_spec_ReadJournal at h
  split at h
  · refine Awp.cast ?_ ?_ ?_ (spec_ReadJournal_e _ h) <;> kernel_rfl
  · simp [Ans.no, Ans.run] at h


/-! internal/stringslite.Cut -/

def internal_stringslite_Cut_an : Ann := (.seq (.leaf [0, 1]) (.seq (.seq (.leaf [0, 1, 7]) (.seq (.leaf [0, 1, 7, 12]) (.cond (.seq (.draw [] [0, 1, 2, 3, 4, 5, 6, 7, 8, 9, 10, 11] [] [4, 5, 6]) (.leaf [4, 5, 6])) (.leaf [0])))) (.seq (.leaf [4, 5, 6]) (.leaf [4, 5, 6]))))

noncomputable def internal_stringslite_Cut_ctx : Ctx := ⟨tlook tys, olook [(52, F_internal_stringslite_Index)], ioF, 0, false, []⟩

theorem internal_stringslite_Cut_n1_l (x1472 : ByteArray) (x1473 : ByteArray) : Link internal_stringslite_Cut_ctx LL (bodyOf Tryd.f41) internal_stringslite_Cut_an ⟨mkE 23 0 [(0, dS x1472), (1, dS x1473)], []⟩ (internal_stringslite_Cut_n1 x1472 x1473) (fun (t : ByteArray × ByteArray × Bool) => (Exit.ret, ⟨mkE 23 0 [(4, dS t.1), (5, dS t.2.1), (6, dB t.2.2)], []⟩)) := .of fun K h => by
  simp only [internal_stringslite_Cut_n1, wpW] at h
  exact .of (by kernel_rfl) h

theorem internal_stringslite_Cut_e (x1472 : ByteArray) (x1473 : ByteArray) {r : AV} {H' : Heap} (h : (Ans.mk _ (internal_stringslite_Cut x1472 x1473) (fun (t : ByteArray × ByteArray × Bool) => (.tup [dS t.1, dS t.2.1, dB t.2.2], [])) [] none).run = some (r, H')) : Awp internal_stringslite_Cut_ctx LL (bodyOf Tryd.f41) internal_stringslite_Cut_an ⟨mkE 23 0 [(0, dS x1472), (1, dS x1473)], []⟩ (Ret (tlook tys) Tryd.f41.results.toList r H') :=
  ret_of' (internal_stringslite_Cut_n1_l x1472 x1473) (by unfold internal_stringslite_Cut; kernel_rfl) (by
  intro t
  exact ret_mk [dS t.1, dS t.2.1, dB t.2.2] (by kernel_rfl) (by kernel_rfl) (by kernel_rfl) (by kernel_rfl)) h

def F_internal_stringslite_Cut : Fun := fun avs H =>
  match avs, H with
  | [.dat .str x1472, .dat .str x1473], [] => ⟨_, internal_stringslite_Cut x1472 x1473, fun (t : ByteArray × ByteArray × Bool) => (.tup [dS t.1, dS t.2.1, dB t.2.2], []), [], none⟩
  | _, _ => Ans.no

theorem internal_stringslite_Cut_sound : Sound Tryd.prog 41 F_internal_stringslite_Cut := by
  refine fn_sound' (C := internal_stringslite_Cut_ctx) (c := bodyOf Tryd.f41) (cok_of tys_ok (allc internal_stringslite_Index_sound alln) (allc Tryd.call52 alln) (by kernel_rfl)) Tryd.func41 (by kernel_rfl) LL internal_stringslite_Cut_an ?_
  intro avs H r H' h
  unfold F_internal_stringslite_Cut at h
  split at h
  · refine Awp.cast ?_ ?_ ?_ (internal_stringslite_Cut_e _ _ h) <;> kernel_rfl
  · simp [Ans.no, Ans.run] at h


/-! strings.Cut -/

def strings_Cut_an : Ann := (.seq (.leaf [0, 1]) (.seq (.leaf [4, 5, 6]) (.leaf [4, 5, 6])))

noncomputable def strings_Cut_ctx : Ctx := ⟨tlook tys, olook [(41, F_internal_stringslite_Cut)], ioF, 0, false, []⟩

theorem strings_Cut_n1_l (x1470 : ByteArray) (x1471 : ByteArray) : Link strings_Cut_ctx LL (bodyOf Tryd.f34) strings_Cut_an ⟨mkE 13 0 [(0, dS x1470), (1, dS x1471)], []⟩ (strings_Cut_n1 x1470 x1471) (fun (t : ByteArray × ByteArray × Bool) => (Exit.ret, ⟨mkE 13 0 [(4, dS t.1), (5, dS t.2.1), (6, dB t.2.2)], []⟩)) := .of fun K h => by
  simp only [strings_Cut_n1, wpW] at h
  exact .of (by kernel_rfl) h

theorem strings_Cut_e (x1470 : ByteArray) (x1471 : ByteArray) {r : AV} {H' : Heap} (h : (Ans.mk _ (strings_Cut x1470 x1471) (fun (t : ByteArray × ByteArray × Bool) => (.tup [dS t.1, dS t.2.1, dB t.2.2], [])) [] none).run = some (r, H')) : Awp strings_Cut_ctx LL (bodyOf Tryd.f34) strings_Cut_an ⟨mkE 13 0 [(0, dS x1470), (1, dS x1471)], []⟩ (Ret (tlook tys) Tryd.f34.results.toList r H') :=
  ret_of' (strings_Cut_n1_l x1470 x1471) (by unfold strings_Cut; kernel_rfl) (by
  intro t
  exact ret_mk [dS t.1, dS t.2.1, dB t.2.2] (by kernel_rfl) (by kernel_rfl) (by kernel_rfl) (by kernel_rfl)) h

def F_strings_Cut : Fun := fun avs H =>
  match avs, H with
  | [.dat .str x1470, .dat .str x1471], [] => ⟨_, strings_Cut x1470 x1471, fun (t : ByteArray × ByteArray × Bool) => (.tup [dS t.1, dS t.2.1, dB t.2.2], []), [], none⟩
  | _, _ => Ans.no

theorem strings_Cut_sound : Sound Tryd.prog 34 F_strings_Cut := by
  refine fn_sound' (C := strings_Cut_ctx) (c := bodyOf Tryd.f34) (cok_of tys_ok (allc internal_stringslite_Cut_sound alln) (allc Tryd.call41 alln) (by kernel_rfl)) Tryd.func34 (by kernel_rfl) LL strings_Cut_an ?_
  intro avs H r H' h
  unfold F_strings_Cut at h
  split at h
  · refine Awp.cast ?_ ?_ ?_ (strings_Cut_e _ _ h) <;> kernel_rfl
  · simp [Ans.no, Ans.run] at h


/-! loop.example/headtrees/impl.ReadJournal -/

def impl_ReadJournal_an : Ann := (.seq (.leaf [0]) (.seq (.leaf [0, 4]) (.seq (.leaf [0, 4, 5]) (.block (.loop (.block (.seq (.leaf [0, 4, 5, 6, 8]) (.seq (.leaf [0, 4, 5, 6, 8, 9, 10]) (.seq (.seq (.leaf [0, 4, 5, 6, 9, 29]) (.cond (.seq (.leaf [2, 3]) (.leaf [2, 3])) (.leaf [0, 4, 5, 6, 9]))) (.seq (.leaf [0, 4, 5, 6]) (.leaf [0, 4, 5])))))))))))

noncomputable def impl_ReadJournal_ctx : Ctx := ⟨tlook tys, olook [(34, F_strings_Cut), (11, F_impl_ReadDeed)], ioF, 0, false, []⟩

theorem impl_ReadJournal_n1_l (x1465 : ByteArray) : Link impl_ReadJournal_ctx LL (Code.seq (cq [0] (bodyOf Tryd.f19)) (Code.seq (cq [0,1] (bodyOf Tryd.f19)) (cq [0,1,1] (bodyOf Tryd.f19)))) (Ann.seq (aq [0] impl_ReadJournal_an) (Ann.seq (aq [0,1] impl_ReadJournal_an) (aq [0,1,1] impl_ReadJournal_an))) ⟨mkE 41 0 [(0, dS x1465)], []⟩ (impl_ReadJournal_n1) (fun (t : Unit) => (Exit.normal, ⟨mkE 41 0 [(0, dS x1465), (4, .slc 0), (5, dI 0)], [some (.seq (.pair (.int .i64) (.pair (.int .i64) (.pair (.int .i64) .unit))) ([] : List (Int × Int × Int × Unit)))]⟩)) := .of fun K h => by
  simp only [impl_ReadJournal_n1, wpW] at h
  exact .of (by kernel_rfl) h

theorem impl_ReadJournal_n2_l (x1465 : ByteArray) (x1536 : Int) (x1537 : List (Int × Int × Int × Unit)) : Link impl_ReadJournal_ctx LL (cq [0,0,1,1,1] (bodyOf Tryd.f19)) (aq [0,0,1,1,1] impl_ReadJournal_an) ⟨mkE 41 0 [(0, dS x1465), (4, .slc 0), (5, dI x1536)], [some (.seq (.pair (.int .i64) (.pair (.int .i64) (.pair (.int .i64) .unit))) x1537)]⟩ (impl_ReadJournal_n2 x1465 x1536 x1537) (Sum.elim (fun (t : Int × (List (Int × Int × Int × Unit))) => (Exit.normal, ⟨mkE 41 0 [(0, dS x1465), (4, .slc 0), (5, dI t.1)], [some (.seq (.pair (.int .i64) (.pair (.int .i64) (.pair (.int .i64) .unit))) t.2)]⟩)) (fun (t : Int × (List (Int × Int × Int × Unit))) => (Exit.ret, ⟨mkE 41 0 [(2, .slc 0), (3, dI t.1)], [some (.seq (.pair (.int .i64) (.pair (.int .i64) (.pair (.int .i64) .unit))) t.2)]⟩))) := .of fun K h => by
  simp only [impl_ReadJournal_n2, wpW] at h
  exact .of (by kernel_rfl) h

def impl_ReadJournal_n3_l (x1465 : ByteArray) := (link_loop (mk := fun (s : Int × (List (Int × Int × Int × Unit))) => ⟨mkE 41 0 [(0, dS x1465), (4, .slc 0), (5, dI s.1)], [some (.seq (.pair (.int .i64) (.pair (.int .i64) (.pair (.int .i64) .unit))) s.2)]⟩) (fin := (fun (t : Int × (List (Int × Int × Int × Unit))) => (Exit.ret, ⟨mkE 41 0 [(2, .slc 0), (3, dI t.1)], [some (.seq (.pair (.int .i64) (.pair (.int .i64) (.pair (.int .i64) .unit))) t.2)]⟩))) (by
  rintro t f K h
  · exact h) (fun s => link_map (impl_ReadJournal_n2_l x1465 s.1 s.2) (Sum.elim (fun (t : Int × (List (Int × Int × Int × Unit))) => Sum.inl (t.1, t.2)) (fun (t : Int × (List (Int × Int × Int × Unit))) => Sum.inr t)) (by
  rintro (t | t)
  · kernel_rfl
  · kernel_rfl)) (0, ([] : List (Int × Int × Int × Unit))))

def impl_ReadJournal_n4_l (x1465 : ByteArray) := (link_block (fin2 := (fun (t : Int × (List (Int × Int × Int × Unit))) => (Exit.ret, ⟨mkE 41 0 [(2, .slc 0), (3, dI t.1)], [some (.seq (.pair (.int .i64) (.pair (.int .i64) (.pair (.int .i64) .unit))) t.2)]⟩))) (id := 0) (impl_ReadJournal_n3_l x1465) (fun (t : Int × (List (Int × Int × Int × Unit))) => t) (by
  rintro t K h
  · exact Eq.mp (by kernel_rfl) h))

def impl_ReadJournal_n5_l (x1465 : ByteArray) := (link_group (c := (cq [0,1,1] (bodyOf Tryd.f19))) (a := (aq [0,1,1] impl_ReadJournal_an)) [(cq [0] (bodyOf Tryd.f19)), (cq [0,1] (bodyOf Tryd.f19))] [(aq [0] impl_ReadJournal_an), (aq [0,1] impl_ReadJournal_an)] rfl (link_seq (impl_ReadJournal_n1_l x1465) (fun (t : Unit) => (impl_ReadJournal_n4_l x1465))))

theorem impl_ReadJournal_e (x1465 : ByteArray) {r : AV} {H' : Heap} (h : (Ans.mk _ (impl_ReadJournal x1465) (fun (t : Int × (List (Int × Int × Int × Unit))) => (.tup [.slc 0, dI t.1], [some (.seq (.pair (.int .i64) (.pair (.int .i64) (.pair (.int .i64) .unit))) t.2)])) [] none).run = some (r, H')) : Awp impl_ReadJournal_ctx LL (bodyOf Tryd.f19) impl_ReadJournal_an ⟨mkE 41 0 [(0, dS x1465)], []⟩ (Ret (tlook tys) Tryd.f19.results.toList r H') :=
  ret_of' (Link.cast (by kernel_rfl) (by kernel_rfl) (impl_ReadJournal_n5_l x1465)) (by unfold impl_ReadJournal; kernel_rfl) (by
  intro t
  exact ret_mk [.slc 0, dI t.1] (by kernel_rfl) (by kernel_rfl) (by kernel_rfl) (by kernel_rfl)) h

def F_impl_ReadJournal : Fun := fun avs H =>
  match avs, H with
  | [.dat .str x1465], [] => ⟨_, impl_ReadJournal x1465, fun (t : Int × (List (Int × Int × Int × Unit))) => (.tup [.slc 0, dI t.1], [some (.seq (.pair (.int .i64) (.pair (.int .i64) (.pair (.int .i64) .unit))) t.2)]), [], none⟩
  | _, _ => Ans.no

theorem impl_ReadJournal_sound : Sound Tryd.prog 19 F_impl_ReadJournal := by
  refine fn_sound' (C := impl_ReadJournal_ctx) (c := bodyOf Tryd.f19) (cok_of tys_ok (allc strings_Cut_sound (allc impl_ReadDeed_sound alln)) (allc Tryd.call34 (allc Tryd.call11 alln)) (by kernel_rfl)) Tryd.func19 (by kernel_rfl) LL impl_ReadJournal_an ?_
  intro avs H r H' h
  unfold F_impl_ReadJournal at h
  split at h
  · refine Awp.cast ?_ ?_ ?_ (impl_ReadJournal_e _ h) <;> kernel_rfl
  · simp [Ans.no, Ans.run] at h


/-! loop.example/headtrees/laws.eqDeedS -/

def laws_eqDeedS_an : Ann := (.seq (.leaf [0, 1]) (.seq (.seq (.leaf [0, 1, 10]) (.cond (.seq (.leaf [4]) (.leaf [4])) (.leaf [0, 1]))) (.seq (.seq (.leaf [0, 1, 5]) (.block (.loop (.seq (.seq (.leaf [0, 1, 5, 14]) (.cond (.leaf [0, 1, 5]) (.leaf []))) (.seq (.block (.seq (.draw [8] [0, 1, 2, 3, 4, 5, 6, 7, 8, 9] [] [0, 1, 5, 26]) (.cond (.seq (.leaf [4]) (.leaf [4])) (.leaf [0, 1, 5])))) (.leaf [0, 1, 5])))))) (.seq (.leaf [4]) (.leaf [4])))))

noncomputable def laws_eqDeedS_ctx : Ctx := ⟨tlook tys, olook [(12, F_laws_eqDeed)], ioF, 0, false, []⟩

theorem laws_eqDeedS_n1_l (x1573 : List (Int × Int × Int × Unit)) (x1574 : List (Int × Int × Int × Unit)) : Link laws_eqDeedS_ctx LL (Code.seq (cq [0] (bodyOf Tryd.f17)) (cq [0,1] (bodyOf Tryd.f17))) (Ann.seq (aq [0] laws_eqDeedS_an) (aq [0,1] laws_eqDeedS_an)) ⟨mkE 27 0 [(0, .dat (.list (.pair (.int .i64) (.pair (.int .i64) (.pair (.int .i64) .unit)))) x1573), (1, .dat (.list (.pair (.int .i64) (.pair (.int .i64) (.pair (.int .i64) .unit)))) x1574)], []⟩ (laws_eqDeedS_n1 x1573 x1574) (Sum.elim (fun (t : Unit) => (Exit.normal, ⟨mkE 27 0 [(0, .dat (.list (.pair (.int .i64) (.pair (.int .i64) (.pair (.int .i64) .unit)))) x1573), (1, .dat (.list (.pair (.int .i64) (.pair (.int .i64) (.pair (.int .i64) .unit)))) x1574)], []⟩)) (fun (t : Bool) => (Exit.ret, ⟨mkE 27 0 [(4, dB t)], []⟩))) := .of fun K h => by
  simp only [laws_eqDeedS_n1, wpW] at h
  exact .of (by kernel_rfl) h

theorem laws_eqDeedS_n2_l (x1573 : List (Int × Int × Int × Unit)) (x1574 : List (Int × Int × Int × Unit)) : Link laws_eqDeedS_ctx LL (cq [0,0,1,1] (bodyOf Tryd.f17)) (aq [0,0,1,1] laws_eqDeedS_an) ⟨mkE 27 0 [(0, .dat (.list (.pair (.int .i64) (.pair (.int .i64) (.pair (.int .i64) .unit)))) x1573), (1, .dat (.list (.pair (.int .i64) (.pair (.int .i64) (.pair (.int .i64) .unit)))) x1574)], []⟩ (laws_eqDeedS_n2) (fun (t : Unit) => (Exit.normal, ⟨mkE 27 0 [(0, .dat (.list (.pair (.int .i64) (.pair (.int .i64) (.pair (.int .i64) .unit)))) x1573), (1, .dat (.list (.pair (.int .i64) (.pair (.int .i64) (.pair (.int .i64) .unit)))) x1574), (5, dI 0)], []⟩)) := .of fun K h => by
  simp only [laws_eqDeedS_n2, wpW] at h
  exact .of (by kernel_rfl) h

theorem laws_eqDeedS_n3_l (x1573 : List (Int × Int × Int × Unit)) (x1574 : List (Int × Int × Int × Unit)) (x1617 : Int) : Link laws_eqDeedS_ctx LL (cq [0,0,1,0,1,1] (bodyOf Tryd.f17)) (aq [0,0,1,0,1,1] laws_eqDeedS_an) ⟨mkE 27 0 [(0, .dat (.list (.pair (.int .i64) (.pair (.int .i64) (.pair (.int .i64) .unit)))) x1573), (1, .dat (.list (.pair (.int .i64) (.pair (.int .i64) (.pair (.int .i64) .unit)))) x1574), (5, dI x1617)], []⟩ (laws_eqDeedS_n3 x1573 x1574 x1617) (Sum.elim (fun (t : Int) => (Exit.normal, ⟨mkE 27 0 [(0, .dat (.list (.pair (.int .i64) (.pair (.int .i64) (.pair (.int .i64) .unit)))) x1573), (1, .dat (.list (.pair (.int .i64) (.pair (.int .i64) (.pair (.int .i64) .unit)))) x1574), (5, dI t)], []⟩)) (Sum.elim (fun (t : Bool) => (Exit.ret, ⟨mkE 27 0 [(4, dB t)], []⟩)) (fun (t : Unit) => ((Exit.exit 0), ⟨mkE 27 0 [], []⟩)))) := .of fun K h => by
  simp only [laws_eqDeedS_n3, wpW] at h
  exact .of (by kernel_rfl) h

def laws_eqDeedS_n4_l (x1573 : List (Int × Int × Int × Unit)) (x1574 : List (Int × Int × Int × Unit)) := (link_loop (mk := fun (s : Int) => ⟨mkE 27 0 [(0, .dat (.list (.pair (.int .i64) (.pair (.int .i64) (.pair (.int .i64) .unit)))) x1573), (1, .dat (.list (.pair (.int .i64) (.pair (.int .i64) (.pair (.int .i64) .unit)))) x1574), (5, dI s)], []⟩) (fin := (Sum.elim (fun (t : Bool) => (Exit.ret, ⟨mkE 27 0 [(4, dB t)], []⟩)) (fun (t : Unit) => ((Exit.exit 0), ⟨mkE 27 0 [], []⟩)))) (by
  rintro (t | t) f K h
  · exact h
  · exact h) (fun s => link_map (laws_eqDeedS_n3_l x1573 x1574 s) (Sum.elim (fun (t : Int) => Sum.inl t) (Sum.elim (fun (t : Bool) => Sum.inr (Sum.inl t)) (fun (t : Unit) => Sum.inr (Sum.inr t)))) (by
  rintro (t | t | t)
  · kernel_rfl
  · kernel_rfl
  · kernel_rfl)) 0)

def laws_eqDeedS_n5_l (x1573 : List (Int × Int × Int × Unit)) (x1574 : List (Int × Int × Int × Unit)) := (link_block (fin2 := (Sum.elim (fun (t : Unit) => (Exit.normal, ⟨mkE 27 0 [], []⟩)) (fun (t : Bool) => (Exit.ret, ⟨mkE 27 0 [(4, dB t)], []⟩)))) (id := 0) (laws_eqDeedS_n4_l x1573 x1574) (Sum.elim (fun (t : Bool) => (Sum.inr t)) (fun (t : Unit) => (Sum.inl ()))) (by
  rintro (t | t) K h
  · exact Eq.mp (by kernel_rfl) h
  · exact Eq.mp (by kernel_rfl) h))

def laws_eqDeedS_n6_l (x1573 : List (Int × Int × Int × Unit)) (x1574 : List (Int × Int × Int × Unit)) := (link_seq (laws_eqDeedS_n2_l x1573 x1574) (fun (t : Unit) => (laws_eqDeedS_n5_l x1573 x1574)))

theorem laws_eqDeedS_n7_l : Link laws_eqDeedS_ctx LL (cq [1,1,1] (bodyOf Tryd.f17)) (aq [1,1,1] laws_eqDeedS_an) ⟨mkE 27 0 [], []⟩ (laws_eqDeedS_n7) (fun (t : Bool) => (Exit.ret, ⟨mkE 27 0 [(4, dB t)], []⟩)) := .of fun K h => by
  simp only [laws_eqDeedS_n7, wpW] at h
  exact .of (by kernel_rfl) h

def laws_eqDeedS_n8_l (x1573 : List (Int × Int × Int × Unit)) (x1574 : List (Int × Int × Int × Unit)) := (link_seq2 (laws_eqDeedS_n6_l x1573 x1574) (fun (t : Unit) => (laws_eqDeedS_n7_l)) (fun (t : Bool) => t) (by
  rintro t
  · kernel_rfl) (by
  rintro t f K h
  · exact h))

def laws_eqDeedS_n9_l (x1573 : List (Int × Int × Int × Unit)) (x1574 : List (Int × Int × Int × Unit)) := (link_group (c := (cq [0,1] (bodyOf Tryd.f17))) (a := (aq [0,1] laws_eqDeedS_an)) [(cq [0] (bodyOf Tryd.f17))] [(aq [0] laws_eqDeedS_an)] rfl (link_seq2 (laws_eqDeedS_n1_l x1573 x1574) (fun (t : Unit) => (laws_eqDeedS_n8_l x1573 x1574)) (fun (t : Bool) => t) (by
  rintro t
  · kernel_rfl) (by
  rintro t f K h
  · exact h)))

theorem laws_eqDeedS_e (x1573 : List (Int × Int × Int × Unit)) (x1574 : List (Int × Int × Int × Unit)) {r : AV} {H' : Heap} (h : (Ans.mk _ (laws_eqDeedS x1573 x1574) (fun (t : Bool) => (dB t, [])) [] none).run = some (r, H')) : Awp laws_eqDeedS_ctx LL (bodyOf Tryd.f17) laws_eqDeedS_an ⟨mkE 27 0 [(0, .dat (.list (.pair (.int .i64) (.pair (.int .i64) (.pair (.int .i64) .unit)))) x1573), (1, .dat (.list (.pair (.int .i64) (.pair (.int .i64) (.pair (.int .i64) .unit)))) x1574)], []⟩ (Ret (tlook tys) Tryd.f17.results.toList r H') :=
  ret_of' (Link.cast (by kernel_rfl) (by kernel_rfl) (laws_eqDeedS_n9_l x1573 x1574)) (by unfold laws_eqDeedS; kernel_rfl) (by
  intro t
  exact ret_mk [dB t] (by kernel_rfl) (by kernel_rfl) (by kernel_rfl) (by kernel_rfl)) h

def F_laws_eqDeedS : Fun := fun avs H =>
  match avs, H with
  | [.dat (.list (.pair (.int .i64) (.pair (.int .i64) (.pair (.int .i64) .unit)))) x1573, .dat (.list (.pair (.int .i64) (.pair (.int .i64) (.pair (.int .i64) .unit)))) x1574], [] => ⟨_, laws_eqDeedS x1573 x1574, fun (t : Bool) => (dB t, []), [], none⟩
  | _, _ => Ans.no

theorem laws_eqDeedS_sound : Sound Tryd.prog 17 F_laws_eqDeedS := by
  refine fn_sound' (C := laws_eqDeedS_ctx) (c := bodyOf Tryd.f17) (cok_of tys_ok (allc laws_eqDeed_sound alln) (allc Tryd.call12 alln) (by kernel_rfl)) Tryd.func17 (by kernel_rfl) LL laws_eqDeedS_an ?_
  intro avs H r H' h
  unfold F_laws_eqDeedS at h
  split at h
  · refine Awp.cast ?_ ?_ ?_ (laws_eqDeedS_e _ _ h) <;> kernel_rfl
  · simp [Ans.no, Ans.run] at h


/-! loop.example/headtrees/laws.markDeedS -/

def laws_markDeedS_an : Ann := (.seq (.leaf [0, 1]) (.seq (.seq (.leaf [0, 1, 5]) (.block (.loop (.seq (.seq (.leaf [0, 1, 5, 9]) (.cond (.leaf [0, 1, 5]) (.leaf [1]))) (.seq (.block (.seq (.leaf [0, 1, 5]) (.seq (.leaf [0, 1, 5]) (.seq (.leaf [0, 1, 5]) (.seq (.leaf [0, 1, 5]) (.seq (.leaf [0, 1, 5]) (.leaf [0, 1, 5]))))))) (.leaf [0, 1, 5])))))) (.seq (.leaf [4]) (.leaf [4]))))

noncomputable def laws_markDeedS_ctx : Ctx := ⟨tlook tys, olook [], ioF, 1, false, []⟩

theorem laws_markDeedS_n1_l (x1683 : Int) (x1684 : List (Int × Int × Int × Unit)) : Link laws_markDeedS_ctx LL (cq [0] (bodyOf Tryd.f20)) (aq [0] laws_markDeedS_an) ⟨mkE 34 0 [(0, .slc 0), (1, dI x1683)], [some (.seq (.pair (.int .i64) (.pair (.int .i64) (.pair (.int .i64) .unit))) x1684)]⟩ (laws_markDeedS_n1) (fun (t : Unit) => (Exit.normal, ⟨mkE 34 0 [(0, .slc 0), (1, dI x1683)], [some (.seq (.pair (.int .i64) (.pair (.int .i64) (.pair (.int .i64) .unit))) x1684)]⟩)) := .of fun K h => by
  simp only [laws_markDeedS_n1, wpW] at h
  exact .of (by kernel_rfl) h

theorem laws_markDeedS_n2_l (x1683 : Int) (x1684 : List (Int × Int × Int × Unit)) : Link laws_markDeedS_ctx LL (cq [0,0,1] (bodyOf Tryd.f20)) (aq [0,0,1] laws_markDeedS_an) ⟨mkE 34 0 [(0, .slc 0), (1, dI x1683)], [some (.seq (.pair (.int .i64) (.pair (.int .i64) (.pair (.int .i64) .unit))) x1684)]⟩ (laws_markDeedS_n2) (fun (t : Unit) => (Exit.normal, ⟨mkE 34 0 [(0, .slc 0), (1, dI x1683), (5, dI 0)], [some (.seq (.pair (.int .i64) (.pair (.int .i64) (.pair (.int .i64) .unit))) x1684)]⟩)) := .of fun K h => by
  simp only [laws_markDeedS_n2, wpW] at h
  exact .of (by kernel_rfl) h

theorem laws_markDeedS_n3_l (x1907 : Int) (x1908 : Int) (x1909 : List (Int × Int × Int × Unit)) : Link laws_markDeedS_ctx LL (cq [0,0,0,1,0,1] (bodyOf Tryd.f20)) (aq [0,0,0,1,0,1] laws_markDeedS_an) ⟨mkE 34 0 [(0, .slc 0), (1, dI x1907), (5, dI x1908)], [some (.seq (.pair (.int .i64) (.pair (.int .i64) (.pair (.int .i64) .unit))) x1909)]⟩ (laws_markDeedS_n3 x1907 x1908 x1909) (Sum.elim (fun (t : Unit) => (Exit.normal, ⟨mkE 34 0 [(0, .slc 0), (1, dI x1907), (5, dI x1908)], [some (.seq (.pair (.int .i64) (.pair (.int .i64) (.pair (.int .i64) .unit))) x1909)]⟩)) (fun (t : Int × (List (Int × Int × Int × Unit))) => ((Exit.exit 0), ⟨mkE 34 0 [(1, dI t.1)], [some (.seq (.pair (.int .i64) (.pair (.int .i64) (.pair (.int .i64) .unit))) t.2)]⟩))) := .of fun K h => by
  simp only [laws_markDeedS_n3, wpW] at h
  exact .of (by kernel_rfl) h

theorem laws_markDeedS_n4_l (x1907 : Int) (x1908 : Int) (x1909 : List (Int × Int × Int × Unit)) : Link laws_markDeedS_ctx LL (Code.seq (cq [0,0,0,1,0,0,1,0,1] (bodyOf Tryd.f20)) (Code.seq (cq [0,1,0,0,1,0,0,1,0,1] (bodyOf Tryd.f20)) (Code.seq (cq [0,1,1,0,0,1,0,0,1,0,1] (bodyOf Tryd.f20)) (cq [0,1,1,1,0,0,1,0,0,1,0,1] (bodyOf Tryd.f20))))) (Ann.seq (aq [0,0,0,1,0,0,1,0,1] laws_markDeedS_an) (Ann.seq (aq [0,1,0,0,1,0,0,1,0,1] laws_markDeedS_an) (Ann.seq (aq [0,1,1,0,0,1,0,0,1,0,1] laws_markDeedS_an) (aq [0,1,1,1,0,0,1,0,0,1,0,1] laws_markDeedS_an)))) ⟨mkE 34 0 [(0, .slc 0), (1, dI x1907), (5, dI x1908)], [some (.seq (.pair (.int .i64) (.pair (.int .i64) (.pair (.int .i64) .unit))) x1909)]⟩ (laws_markDeedS_n4 x1907 x1908 x1909) (fun (t : Int × (List (Int × Int × Int × Unit))) => (Exit.normal, ⟨mkE 34 0 [(0, .slc 0), (1, dI t.1), (5, dI x1908)], [some (.seq (.pair (.int .i64) (.pair (.int .i64) (.pair (.int .i64) .unit))) t.2)]⟩)) := .of fun K h => by
  simp only [laws_markDeedS_n4, wpW] at h
  exact .of (by kernel_rfl) h

theorem laws_markDeedS_n5_l (x2067 : Int) (x1908 : Int) (x2066 : List (Int × Int × Int × Unit)) : Link laws_markDeedS_ctx LL (cq [0,1,1,1,1,0,0,1,0,0,1,0,1] (bodyOf Tryd.f20)) (aq [0,1,1,1,1,0,0,1,0,0,1,0,1] laws_markDeedS_an) ⟨mkE 34 0 [(0, .slc 0), (1, dI x2067), (5, dI x1908)], [some (.seq (.pair (.int .i64) (.pair (.int .i64) (.pair (.int .i64) .unit))) x2066)]⟩ (laws_markDeedS_n5 x2067 x1908 x2066) (fun (t : (List (Int × Int × Int × Unit))) => (Exit.normal, ⟨mkE 34 0 [(0, .slc 0), (1, dI x2067), (5, dI x1908)], [some (.seq (.pair (.int .i64) (.pair (.int .i64) (.pair (.int .i64) .unit))) t)]⟩)) := .of fun K h => by
  simp only [laws_markDeedS_n5, wpW] at h
  exact .of (by kernel_rfl) h

theorem laws_markDeedS_n6_l (x2067 : Int) (x1908 : Int) (x2129 : List (Int × Int × Int × Unit)) : Link laws_markDeedS_ctx LL (cq [1,1,1,1,1,0,0,1,0,0,1,0,1] (bodyOf Tryd.f20)) (aq [1,1,1,1,1,0,0,1,0,0,1,0,1] laws_markDeedS_an) ⟨mkE 34 0 [(0, .slc 0), (1, dI x2067), (5, dI x1908)], [some (.seq (.pair (.int .i64) (.pair (.int .i64) (.pair (.int .i64) .unit))) x2129)]⟩ (laws_markDeedS_n6 x2067) (fun (t : Int) => (Exit.normal, ⟨mkE 34 0 [(0, .slc 0), (1, dI t), (5, dI x1908)], [some (.seq (.pair (.int .i64) (.pair (.int .i64) (.pair (.int .i64) .unit))) x2129)]⟩)) := .of fun K h => by
  simp only [laws_markDeedS_n6, wpW] at h
  exact .of (by kernel_rfl) h

def laws_markDeedS_n7_l (x2067 : Int) (x1908 : Int) (x2066 : List (Int × Int × Int × Unit)) := (link_seq (laws_markDeedS_n5_l x2067 x1908 x2066) (fun (t : (List (Int × Int × Int × Unit))) => (link_map (fin2 := (fun (t : Int × (List (Int × Int × Int × Unit))) => (Exit.normal, ⟨mkE 34 0 [(0, .slc 0), (1, dI t.1), (5, dI x1908)], [some (.seq (.pair (.int .i64) (.pair (.int .i64) (.pair (.int .i64) .unit))) t.2)]⟩))) (laws_markDeedS_n6_l x2067 x1908 t) (fun (u : Int) => (u, t)) (by
  rintro t
  · kernel_rfl))))

def laws_markDeedS_n8_l (x1907 : Int) (x1908 : Int) (x1909 : List (Int × Int × Int × Unit)) := (link_group (c := (cq [0,1,1,1,0,0,1,0,0,1,0,1] (bodyOf Tryd.f20))) (a := (aq [0,1,1,1,0,0,1,0,0,1,0,1] laws_markDeedS_an)) [(cq [0,0,0,1,0,0,1,0,1] (bodyOf Tryd.f20)), (cq [0,1,0,0,1,0,0,1,0,1] (bodyOf Tryd.f20)), (cq [0,1,1,0,0,1,0,0,1,0,1] (bodyOf Tryd.f20))] [(aq [0,0,0,1,0,0,1,0,1] laws_markDeedS_an), (aq [0,1,0,0,1,0,0,1,0,1] laws_markDeedS_an), (aq [0,1,1,0,0,1,0,0,1,0,1] laws_markDeedS_an)] rfl (link_seq (laws_markDeedS_n4_l x1907 x1908 x1909) (fun (t : Int × (List (Int × Int × Int × Unit))) => (laws_markDeedS_n7_l t.1 x1908 t.2))))

def laws_markDeedS_n9_l (x1907 : Int) (x1908 : Int) (x1909 : List (Int × Int × Int × Unit)) := (link_block (fin2 := (fun (t : Int × (List (Int × Int × Int × Unit))) => (Exit.normal, ⟨mkE 34 0 [(0, .slc 0), (1, dI t.1), (5, dI x1908)], [some (.seq (.pair (.int .i64) (.pair (.int .i64) (.pair (.int .i64) .unit))) t.2)]⟩))) (id := 1) (laws_markDeedS_n8_l x1907 x1908 x1909) (fun (t : Int × (List (Int × Int × Int × Unit))) => (t.1, t.2)) (by
  rintro t K h
  · exact Eq.mp (by kernel_rfl) h))

theorem laws_markDeedS_n10_l (x2130 : Int) (x1908 : Int) (x2129 : List (Int × Int × Int × Unit)) : Link laws_markDeedS_ctx LL (cq [1,1,0,0,1,0,1] (bodyOf Tryd.f20)) (aq [1,1,0,0,1,0,1] laws_markDeedS_an) ⟨mkE 34 0 [(0, .slc 0), (1, dI x2130), (5, dI x1908)], [some (.seq (.pair (.int .i64) (.pair (.int .i64) (.pair (.int .i64) .unit))) x2129)]⟩ (laws_markDeedS_n10 x1908) (fun (t : Int) => (Exit.normal, ⟨mkE 34 0 [(0, .slc 0), (1, dI x2130), (5, dI t)], [some (.seq (.pair (.int .i64) (.pair (.int .i64) (.pair (.int .i64) .unit))) x2129)]⟩)) := .of fun K h => by
  simp only [laws_markDeedS_n10, wpW] at h
  exact .of (by kernel_rfl) h

def laws_markDeedS_n11_l (x1907 : Int) (x1908 : Int) (x1909 : List (Int × Int × Int × Unit)) := (link_seq (laws_markDeedS_n9_l x1907 x1908 x1909) (fun (t : Int × (List (Int × Int × Int × Unit))) => (link_map (fin2 := (fun (t : Int × Int × (List (Int × Int × Int × Unit))) => (Exit.normal, ⟨mkE 34 0 [(0, .slc 0), (1, dI t.1), (5, dI t.2.1)], [some (.seq (.pair (.int .i64) (.pair (.int .i64) (.pair (.int .i64) .unit))) t.2.2)]⟩))) (laws_markDeedS_n10_l t.1 x1908 t.2) (fun (u : Int) => (t.1, u, t.2)) (by
  rintro t
  · kernel_rfl))))

def laws_markDeedS_n12_l (x1907 : Int) (x1908 : Int) (x1909 : List (Int × Int × Int × Unit)) := (link_seq2 (laws_markDeedS_n3_l x1907 x1908 x1909) (fun (t : Unit) => (link_map (fin2 := (Sum.elim (fun (t : Int × Int × (List (Int × Int × Int × Unit))) => (Exit.normal, ⟨mkE 34 0 [(0, .slc 0), (1, dI t.1), (5, dI t.2.1)], [some (.seq (.pair (.int .i64) (.pair (.int .i64) (.pair (.int .i64) .unit))) t.2.2)]⟩)) (fun (t : Int × (List (Int × Int × Int × Unit))) => ((Exit.exit 0), ⟨mkE 34 0 [(1, dI t.1)], [some (.seq (.pair (.int .i64) (.pair (.int .i64) (.pair (.int .i64) .unit))) t.2)]⟩)))) (laws_markDeedS_n11_l x1907 x1908 x1909) (fun (t : Int × Int × (List (Int × Int × Int × Unit))) => (Sum.inl (t.1, t.2.1, t.2.2))) (by
  rintro t
  · kernel_rfl))) (fun (t : Int × (List (Int × Int × Int × Unit))) => (Sum.inr t)) (by
  rintro t
  · kernel_rfl) (by
  rintro t f K h
  · exact h))

def laws_markDeedS_n13_l (x1683 : Int) (x1684 : List (Int × Int × Int × Unit)) := (link_loop (mk := fun (s : Int × Int × (List (Int × Int × Int × Unit))) => ⟨mkE 34 0 [(0, .slc 0), (1, dI s.1), (5, dI s.2.1)], [some (.seq (.pair (.int .i64) (.pair (.int .i64) (.pair (.int .i64) .unit))) s.2.2)]⟩) (fin := (fun (t : Int × (List (Int × Int × Int × Unit))) => ((Exit.exit 0), ⟨mkE 34 0 [(1, dI t.1)], [some (.seq (.pair (.int .i64) (.pair (.int .i64) (.pair (.int .i64) .unit))) t.2)]⟩))) (by
  rintro t f K h
  · exact h) (fun s => link_map (laws_markDeedS_n12_l s.1 s.2.1 s.2.2) (Sum.elim (fun (t : Int × Int × (List (Int × Int × Int × Unit))) => Sum.inl (t.1, t.2.1, t.2.2)) (fun (t : Int × (List (Int × Int × Int × Unit))) => Sum.inr t)) (by
  rintro (t | t)
  · kernel_rfl
  · kernel_rfl)) (x1683, 0, x1684))

def laws_markDeedS_n14_l (x1683 : Int) (x1684 : List (Int × Int × Int × Unit)) := (link_block (fin2 := (fun (t : Int × (List (Int × Int × Int × Unit))) => (Exit.normal, ⟨mkE 34 0 [(1, dI t.1)], [some (.seq (.pair (.int .i64) (.pair (.int .i64) (.pair (.int .i64) .unit))) t.2)]⟩))) (id := 0) (laws_markDeedS_n13_l x1683 x1684) (fun (t : Int × (List (Int × Int × Int × Unit))) => (t.1, t.2)) (by
  rintro t K h
  · exact Eq.mp (by kernel_rfl) h))

def laws_markDeedS_n15_l (x1683 : Int) (x1684 : List (Int × Int × Int × Unit)) := (link_seq (laws_markDeedS_n2_l x1683 x1684) (fun (t : Unit) => (laws_markDeedS_n14_l x1683 x1684)))

theorem laws_markDeedS_n16_l (x1907 : Int) (x1909 : List (Int × Int × Int × Unit)) : Link laws_markDeedS_ctx LL (cq [1,1] (bodyOf Tryd.f20)) (aq [1,1] laws_markDeedS_an) ⟨mkE 34 0 [(1, dI x1907)], [some (.seq (.pair (.int .i64) (.pair (.int .i64) (.pair (.int .i64) .unit))) x1909)]⟩ (laws_markDeedS_n16 x1907 x1909) (fun (t : Int × (List (Int × Int × Int × Unit))) => (Exit.ret, ⟨mkE 34 0 [(4, dI t.1)], [some (.seq (.pair (.int .i64) (.pair (.int .i64) (.pair (.int .i64) .unit))) t.2)]⟩)) := .of fun K h => by
  simp only [laws_markDeedS_n16, wpW] at h
  exact .of (by kernel_rfl) h

def laws_markDeedS_n17_l (x1683 : Int) (x1684 : List (Int × Int × Int × Unit)) := (link_seq (laws_markDeedS_n15_l x1683 x1684) (fun (t : Int × (List (Int × Int × Int × Unit))) => (laws_markDeedS_n16_l t.1 t.2)))

def laws_markDeedS_n18_l (x1683 : Int) (x1684 : List (Int × Int × Int × Unit)) := (link_seq (laws_markDeedS_n1_l x1683 x1684) (fun (t : Unit) => (laws_markDeedS_n17_l x1683 x1684)))

theorem laws_markDeedS_e (x1683 : Int) (x1684 : List (Int × Int × Int × Unit)) {r : AV} {H' : Heap} (h : (Ans.mk _ (laws_markDeedS x1683 x1684) (fun (t : Int × (List (Int × Int × Int × Unit))) => (dI t.1, [some (.seq (.pair (.int .i64) (.pair (.int .i64) (.pair (.int .i64) .unit))) t.2)])) [] none).run = some (r, H')) : Awp laws_markDeedS_ctx LL (bodyOf Tryd.f20) laws_markDeedS_an ⟨mkE 34 0 [(0, .slc 0), (1, dI x1683)], [some (.seq (.pair (.int .i64) (.pair (.int .i64) (.pair (.int .i64) .unit))) x1684)]⟩ (Ret (tlook tys) Tryd.f20.results.toList r H') :=
  ret_of' (Link.cast (by kernel_rfl) (by kernel_rfl) (laws_markDeedS_n18_l x1683 x1684)) (by unfold laws_markDeedS; kernel_rfl) (by
  intro t
  exact ret_mk [dI t.1] (by kernel_rfl) (by kernel_rfl) (by kernel_rfl) (by kernel_rfl)) h

def F_laws_markDeedS : Fun := fun avs H =>
  match avs, H with
  | [.slc 0, .dat (.int .i64) x1683], [some (.seq (.pair (.int .i64) (.pair (.int .i64) (.pair (.int .i64) .unit))) x1684)] => ⟨_, laws_markDeedS x1683 x1684, fun (t : Int × (List (Int × Int × Int × Unit))) => (dI t.1, [some (.seq (.pair (.int .i64) (.pair (.int .i64) (.pair (.int .i64) .unit))) t.2)]), [], none⟩
  | _, _ => Ans.no

theorem laws_markDeedS_sound : Sound Tryd.prog 20 F_laws_markDeedS := by
  refine fn_sound' (C := laws_markDeedS_ctx) (c := bodyOf Tryd.f20) (cok_of tys_ok (alln) (alln) (by kernel_rfl)) Tryd.func20 (by kernel_rfl) LL laws_markDeedS_an ?_
  intro avs H r H' h
  unfold F_laws_markDeedS at h
  split at h
  · refine Awp.cast ?_ ?_ ?_ (laws_markDeedS_e _ _ h) <;> kernel_rfl
  · simp [Ans.no, Ans.run] at h


/-! loop.example/headtrees/laws.heldDeedS -/

def laws_heldDeedS_an : Ann := (.seq (.leaf [0, 1]) (.seq (.seq (.leaf [0, 1, 5]) (.block (.loop (.seq (.seq (.leaf [0, 1, 5, 9]) (.cond (.leaf [0, 1, 5]) (.leaf [1]))) (.seq (.block (.seq (.seq (.leaf [0, 1, 5, 18]) (.cond (.seq (.leaf [4]) (.leaf [4])) (.leaf [0, 1, 5]))) (.seq (.leaf [0, 1, 5]) (.seq (.seq (.leaf [0, 1, 5, 27]) (.cond (.seq (.leaf [4]) (.leaf [4])) (.leaf [0, 1, 5]))) (.seq (.leaf [0, 1, 5]) (.seq (.seq (.leaf [0, 1, 5, 36]) (.cond (.seq (.leaf [4]) (.leaf [4])) (.leaf [0, 1, 5]))) (.leaf [0, 1, 5]))))))) (.leaf [0, 1, 5])))))) (.seq (.leaf [4]) (.leaf [4]))))

noncomputable def laws_heldDeedS_ctx : Ctx := ⟨tlook tys, olook [], ioF, 0, false, []⟩

theorem laws_heldDeedS_n1_l (x2163 : List (Int × Int × Int × Unit)) (x2164 : Int) : Link laws_heldDeedS_ctx LL (cq [0] (bodyOf Tryd.f21)) (aq [0] laws_heldDeedS_an) ⟨mkE 40 0 [(0, .dat (.list (.pair (.int .i64) (.pair (.int .i64) (.pair (.int .i64) .unit)))) x2163), (1, dI x2164)], []⟩ (laws_heldDeedS_n1) (fun (t : Unit) => (Exit.normal, ⟨mkE 40 0 [(0, .dat (.list (.pair (.int .i64) (.pair (.int .i64) (.pair (.int .i64) .unit)))) x2163), (1, dI x2164)], []⟩)) := .of fun K h => by
  simp only [laws_heldDeedS_n1, wpW] at h
  exact .of (by kernel_rfl) h

theorem laws_heldDeedS_n2_l (x2163 : List (Int × Int × Int × Unit)) (x2164 : Int) : Link laws_heldDeedS_ctx LL (cq [0,0,1] (bodyOf Tryd.f21)) (aq [0,0,1] laws_heldDeedS_an) ⟨mkE 40 0 [(0, .dat (.list (.pair (.int .i64) (.pair (.int .i64) (.pair (.int .i64) .unit)))) x2163), (1, dI x2164)], []⟩ (laws_heldDeedS_n2) (fun (t : Unit) => (Exit.normal, ⟨mkE 40 0 [(0, .dat (.list (.pair (.int .i64) (.pair (.int .i64) (.pair (.int .i64) .unit)))) x2163), (1, dI x2164), (5, dI 0)], []⟩)) := .of fun K h => by
  simp only [laws_heldDeedS_n2, wpW] at h
  exact .of (by kernel_rfl) h

theorem laws_heldDeedS_n3_l (x2163 : List (Int × Int × Int × Unit)) (x2226 : Int) (x2227 : Int) : Link laws_heldDeedS_ctx LL (cq [0,0,1,0,1] (bodyOf Tryd.f21)) (aq [0,0,1,0,1] laws_heldDeedS_an) ⟨mkE 40 0 [(0, .dat (.list (.pair (.int .i64) (.pair (.int .i64) (.pair (.int .i64) .unit)))) x2163), (1, dI x2226), (5, dI x2227)], []⟩ (laws_heldDeedS_n3 x2163 x2226 x2227) (Sum.elim (fun (t : Int × Int) => (Exit.normal, ⟨mkE 40 0 [(0, .dat (.list (.pair (.int .i64) (.pair (.int .i64) (.pair (.int .i64) .unit)))) x2163), (1, dI t.1), (5, dI t.2)], []⟩)) (Sum.elim (fun (t : Int) => (Exit.ret, ⟨mkE 40 0 [(4, dI t)], []⟩)) (fun (t : Int) => ((Exit.exit 0), ⟨mkE 40 0 [(1, dI t)], []⟩)))) := .of fun K h => by
  simp only [laws_heldDeedS_n3, wpW] at h
  exact .of (by kernel_rfl) h

def laws_heldDeedS_n4_l (x2163 : List (Int × Int × Int × Unit)) (x2164 : Int) := (link_loop (mk := fun (s : Int × Int) => ⟨mkE 40 0 [(0, .dat (.list (.pair (.int .i64) (.pair (.int .i64) (.pair (.int .i64) .unit)))) x2163), (1, dI s.1), (5, dI s.2)], []⟩) (fin := (Sum.elim (fun (t : Int) => (Exit.ret, ⟨mkE 40 0 [(4, dI t)], []⟩)) (fun (t : Int) => ((Exit.exit 0), ⟨mkE 40 0 [(1, dI t)], []⟩)))) (by
  rintro (t | t) f K h
  · exact h
  · exact h) (fun s => link_map (laws_heldDeedS_n3_l x2163 s.1 s.2) (Sum.elim (fun (t : Int × Int) => Sum.inl (t.1, t.2)) (Sum.elim (fun (t : Int) => Sum.inr (Sum.inl t)) (fun (t : Int) => Sum.inr (Sum.inr t)))) (by
  rintro (t | t | t)
  · kernel_rfl
  · kernel_rfl
  · kernel_rfl)) (x2164, 0))

def laws_heldDeedS_n5_l (x2163 : List (Int × Int × Int × Unit)) (x2164 : Int) := (link_block (fin2 := (Sum.elim (fun (t : Int) => (Exit.normal, ⟨mkE 40 0 [(1, dI t)], []⟩)) (fun (t : Int) => (Exit.ret, ⟨mkE 40 0 [(4, dI t)], []⟩)))) (id := 0) (laws_heldDeedS_n4_l x2163 x2164) (Sum.elim (fun (t : Int) => (Sum.inr t)) (fun (t : Int) => (Sum.inl t))) (by
  rintro (t | t) K h
  · exact Eq.mp (by kernel_rfl) h
  · exact Eq.mp (by kernel_rfl) h))

def laws_heldDeedS_n6_l (x2163 : List (Int × Int × Int × Unit)) (x2164 : Int) := (link_seq (laws_heldDeedS_n2_l x2163 x2164) (fun (t : Unit) => (laws_heldDeedS_n5_l x2163 x2164)))

theorem laws_heldDeedS_n7_l (x2226 : Int) : Link laws_heldDeedS_ctx LL (cq [1,1] (bodyOf Tryd.f21)) (aq [1,1] laws_heldDeedS_an) ⟨mkE 40 0 [(1, dI x2226)], []⟩ (laws_heldDeedS_n7 x2226) (fun (t : Int) => (Exit.ret, ⟨mkE 40 0 [(4, dI t)], []⟩)) := .of fun K h => by
  simp only [laws_heldDeedS_n7, wpW] at h
  exact .of (by kernel_rfl) h

def laws_heldDeedS_n8_l (x2163 : List (Int × Int × Int × Unit)) (x2164 : Int) := (link_seq2 (laws_heldDeedS_n6_l x2163 x2164) (fun (t : Int) => (laws_heldDeedS_n7_l t)) (fun (t : Int) => t) (by
  rintro t
  · kernel_rfl) (by
  rintro t f K h
  · exact h))

def laws_heldDeedS_n9_l (x2163 : List (Int × Int × Int × Unit)) (x2164 : Int) := (link_seq (laws_heldDeedS_n1_l x2163 x2164) (fun (t : Unit) => (laws_heldDeedS_n8_l x2163 x2164)))

theorem laws_heldDeedS_e (x2163 : List (Int × Int × Int × Unit)) (x2164 : Int) {r : AV} {H' : Heap} (h : (Ans.mk _ (laws_heldDeedS x2163 x2164) (fun (t : Int) => (dI t, [])) [] none).run = some (r, H')) : Awp laws_heldDeedS_ctx LL (bodyOf Tryd.f21) laws_heldDeedS_an ⟨mkE 40 0 [(0, .dat (.list (.pair (.int .i64) (.pair (.int .i64) (.pair (.int .i64) .unit)))) x2163), (1, dI x2164)], []⟩ (Ret (tlook tys) Tryd.f21.results.toList r H') :=
  ret_of' (Link.cast (by kernel_rfl) (by kernel_rfl) (laws_heldDeedS_n9_l x2163 x2164)) (by unfold laws_heldDeedS; kernel_rfl) (by
  intro t
  exact ret_mk [dI t] (by kernel_rfl) (by kernel_rfl) (by kernel_rfl) (by kernel_rfl)) h

def F_laws_heldDeedS : Fun := fun avs H =>
  match avs, H with
  | [.dat (.list (.pair (.int .i64) (.pair (.int .i64) (.pair (.int .i64) .unit)))) x2163, .dat (.int .i64) x2164], [] => ⟨_, laws_heldDeedS x2163 x2164, fun (t : Int) => (dI t, []), [], none⟩
  | _, _ => Ans.no

theorem laws_heldDeedS_sound : Sound Tryd.prog 21 F_laws_heldDeedS := by
  refine fn_sound' (C := laws_heldDeedS_ctx) (c := bodyOf Tryd.f21) (cok_of tys_ok (alln) (alln) (by kernel_rfl)) Tryd.func21 (by kernel_rfl) LL laws_heldDeedS_an ?_
  intro avs H r H' h
  unfold F_laws_heldDeedS at h
  split at h
  · refine Awp.cast ?_ ?_ ?_ (laws_heldDeedS_e _ _ h) <;> kernel_rfl
  · simp [Ans.no, Ans.run] at h


/-! loop.example/headtrees/laws.FnExactReadJournal -/

def laws_FnExactReadJournal_an : Ann := (.seq (.leaf [0]) (.seq (.seq (.leaf [0, 13]) (.cond (.seq (.leaf [2]) (.leaf [2])) (.leaf [0]))) (.seq (.leaf [0, 3, 4]) (.seq (.leaf [0, 3, 4, 5, 6]) (.seq (.seq (.leaf [0, 3, 4, 5, 32]) (.cond (.seq (.leaf [2]) (.leaf [2])) (.leaf [0, 3, 4, 5]))) (.seq (.leaf [0, 3, 4, 5, 7]) (.seq (.leaf [0, 3, 4, 5, 7]) (.seq (.leaf [0, 3, 4, 5, 7, 8]) (.seq (.leaf [0, 3, 4, 5, 7, 8]) (.seq (.seq (.leaf [0, 3, 4, 5, 7, 8, 40]) (.cond (.seq (.leaf [2]) (.leaf [2])) (.leaf [0, 3, 4, 5, 7, 8]))) (.seq (.seq (.leaf [0, 3, 4, 5, 7, 43]) (.cond (.seq (.leaf [2]) (.leaf [2])) (.leaf [0, 3, 4, 5, 7]))) (.seq (.leaf [3, 4, 5, 7, 9, 10]) (.seq (.seq (.leaf [5, 7, 57]) (.cond (.seq (.leaf [2]) (.leaf [2])) (.leaf [5, 7]))) (.seq (.leaf [5, 7, 8]) (.seq (.leaf [7, 8]) (.seq (.seq (.leaf [7, 8, 62]) (.cond (.seq (.leaf [2]) (.leaf [2])) (.leaf [7, 8]))) (.seq (.seq (.leaf [65]) (.cond (.seq (.leaf [2]) (.leaf [2])) (.leaf []))) (.seq (.leaf [2]) (.leaf [2])))))))))))))))))))

noncomputable def laws_FnExactReadJournal_ctx : Ctx := ⟨tlook tys, olook [(18, F_spec_ReadJournal), (19, F_impl_ReadJournal), (17, F_laws_eqDeedS), (20, F_laws_markDeedS), (21, F_laws_heldDeedS)], ioF, 0, false, []⟩

theorem laws_FnExactReadJournal_n1_l (x1345 : ByteArray) : Link laws_FnExactReadJournal_ctx LL (bodyOf Tryd.f6) laws_FnExactReadJournal_an ⟨mkE 66 0 [(0, dS x1345)], []⟩ (laws_FnExactReadJournal_n1 x1345) (fun (t : Bool) => (Exit.ret, ⟨mkE 66 0 [(2, dB t)], []⟩)) := .of fun K h => by
  simp only [laws_FnExactReadJournal_n1, wpW] at h
  exact .of (by kernel_rfl) h

theorem laws_FnExactReadJournal_e (x1345 : ByteArray) {r : AV} {H' : Heap} (h : (Ans.mk _ (laws_FnExactReadJournal x1345) (fun (t : Bool) => (dB t, [])) [] none).run = some (r, H')) : Awp laws_FnExactReadJournal_ctx LL (bodyOf Tryd.f6) laws_FnExactReadJournal_an ⟨mkE 66 0 [(0, dS x1345)], []⟩ (Ret (tlook tys) Tryd.f6.results.toList r H') :=
  ret_of' (laws_FnExactReadJournal_n1_l x1345) (by unfold laws_FnExactReadJournal; kernel_rfl) (by
  intro t
  exact ret_mk [dB t] (by kernel_rfl) (by kernel_rfl) (by kernel_rfl) (by kernel_rfl)) h

def F_laws_FnExactReadJournal : Fun := fun avs H =>
  match avs, H with
  | [.dat .str x1345], [] => ⟨_, laws_FnExactReadJournal x1345, fun (t : Bool) => (dB t, []), [], none⟩
  | _, _ => Ans.no

theorem laws_FnExactReadJournal_sound : Sound Tryd.prog 6 F_laws_FnExactReadJournal := by
  refine fn_sound' (C := laws_FnExactReadJournal_ctx) (c := bodyOf Tryd.f6) (cok_of tys_ok (allc spec_ReadJournal_sound (allc impl_ReadJournal_sound (allc laws_eqDeedS_sound (allc laws_markDeedS_sound (allc laws_heldDeedS_sound alln))))) (allc Tryd.call18 (allc Tryd.call19 (allc Tryd.call17 (allc Tryd.call20 (allc Tryd.call21 alln))))) (by kernel_rfl)) Tryd.func6 (by kernel_rfl) LL laws_FnExactReadJournal_an ?_
  intro avs H r H' h
  unfold F_laws_FnExactReadJournal at h
  split at h
  · refine Awp.cast ?_ ?_ ?_ (laws_FnExactReadJournal_e _ h) <;> kernel_rfl
  · simp [Ans.no, Ans.run] at h

end Go.Rv
