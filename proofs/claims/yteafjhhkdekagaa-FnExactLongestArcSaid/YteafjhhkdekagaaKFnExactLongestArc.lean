/-
  The checked code answers as the plain functions do; written by program. Conditions: none.
-/
import Derived.Test.YteafjhhkdekagaaGFnExactLongestArc
import Derived.Test.YteafjhhkdekagaaProg
set_option linter.unusedVariables false
set_option linter.unusedSimpArgs false
set_option linter.defProp false
set_option maxRecDepth 100000
namespace Go.Rv
open Go.Proofs
theorem ty3 : TIOk Try.prog 3 ⟨.int .i64, 1, 8, some (.int .i64), [.int .i64 0], false⟩ := ⟨⟨infoOf (Try.prog.info? 3), by kernel_rfl, by kernel_rfl, by kernel_rfl, .int .i64 0, by kernel_rfl, by kernel_rfl⟩, (by kernel_rfl : Try.prog.underlying 3 = some (.int .i64)), no_eq⟩
theorem ty4 : TIOk Try.prog 4 ⟨.bool, 1, 1, some .bool, [.bool false], false⟩ := ⟨⟨infoOf (Try.prog.info? 4), by kernel_rfl, by kernel_rfl, by kernel_rfl, .bool false, by kernel_rfl, by kernel_rfl⟩, (by kernel_rfl : Try.prog.underlying 4 = some .bool), no_eq⟩
theorem ty5 : TIOk Try.prog 5 ⟨.int .u8, 1, 1, some (.int .u8), [.int .u8 0], false⟩ := ⟨⟨infoOf (Try.prog.info? 5), by kernel_rfl, by kernel_rfl, by kernel_rfl, .int .u8 0, by kernel_rfl, by kernel_rfl⟩, (by kernel_rfl : Try.prog.underlying 5 = some (.int .u8)), no_eq⟩
theorem ty22 : TIOk Try.prog 22 ⟨.slice 5, 1, 24, some (.list (.int .u8)), [.slice none 0 0], false⟩ := ⟨⟨infoOf (Try.prog.info? 22), by kernel_rfl, by kernel_rfl, by kernel_rfl, .slice none 0 0, by kernel_rfl, by kernel_rfl⟩, (by kernel_rfl : Try.prog.underlying 22 = some (.slice 5)), no_eq⟩
theorem ty23 : TIOk Try.prog 23 ⟨.slice 3, 1, 24, some (.list (.int .i64)), [.slice none 0 0], false⟩ := ⟨⟨infoOf (Try.prog.info? 23), by kernel_rfl, by kernel_rfl, by kernel_rfl, .slice none 0 0, by kernel_rfl, by kernel_rfl⟩, (by kernel_rfl : Try.prog.underlying 23 = some (.slice 3)), no_eq⟩
theorem ty39 : TIOk Try.prog 39 ⟨.slice 42, 1, 24, some (.list (.pair (.int .i64) (.pair (.int .i64) .unit))), [.slice none 0 0], false⟩ := ⟨⟨infoOf (Try.prog.info? 39), by kernel_rfl, by kernel_rfl, by kernel_rfl, .slice none 0 0, by kernel_rfl, by kernel_rfl⟩, (by kernel_rfl : Try.prog.underlying 39 = some (.slice 42)), no_eq⟩
theorem ty42 : TIOk Try.prog 42 ⟨.strct [(0, 3), (1, 3)], 2, 16, some (.pair (.int .i64) (.pair (.int .i64) .unit)), [.int .i64 0, .int .i64 0], false⟩ := ⟨⟨infoOf (Try.prog.info? 42), by kernel_rfl, by kernel_rfl, by kernel_rfl, .agg #[.int .i64 0, .int .i64 0], by kernel_rfl, by kernel_rfl⟩, ⟨fieldsOf (Try.prog.underlying 42), by kernel_rfl, by kernel_rfl⟩, no_eq⟩
theorem ty51 : TIOk Try.prog 51 ⟨.strct [(0, 22), (1, 3)], 2, 32, some (.pair (.list (.int .u8)) (.pair (.int .i64) .unit)), [.slice none 0 0, .int .i64 0], false⟩ := ⟨⟨infoOf (Try.prog.info? 51), by kernel_rfl, by kernel_rfl, by kernel_rfl, .agg #[.slice none 0 0, .int .i64 0], by kernel_rfl, by kernel_rfl⟩, ⟨fieldsOf (Try.prog.underlying 51), by kernel_rfl, by kernel_rfl⟩, no_eq⟩
theorem ty55 : TIOk Try.prog 55 ⟨.strct [(0, 23), (1, 3), (2, 3)], 3, 40, some (.pair (.list (.int .i64)) (.pair (.int .i64) (.pair (.int .i64) .unit))), [.slice none 0 0, .int .i64 0, .int .i64 0], false⟩ := ⟨⟨infoOf (Try.prog.info? 55), by kernel_rfl, by kernel_rfl, by kernel_rfl, .agg #[.slice none 0 0, .int .i64 0, .int .i64 0], by kernel_rfl, by kernel_rfl⟩, ⟨fieldsOf (Try.prog.underlying 55), by kernel_rfl, by kernel_rfl⟩, no_eq⟩
theorem ty56 : TIOk Try.prog 56 ⟨.arr 9 4, 9, 9, none, [.bool false, .bool false, .bool false, .bool false, .bool false, .bool false, .bool false, .bool false, .bool false], false⟩ := ⟨⟨infoOf (Try.prog.info? 56), by kernel_rfl, by kernel_rfl, by kernel_rfl, .agg #[.bool false, .bool false, .bool false, .bool false, .bool false, .bool false, .bool false, .bool false, .bool false], by kernel_rfl, by kernel_rfl⟩, (by kernel_rfl : Try.prog.underlying 56 = some (.array 9 4)), no_eq⟩
def tys : List (TypeId × TI) := [(3, ⟨.int .i64, 1, 8, some (.int .i64), [.int .i64 0], false⟩), (4, ⟨.bool, 1, 1, some .bool, [.bool false], false⟩), (5, ⟨.int .u8, 1, 1, some (.int .u8), [.int .u8 0], false⟩), (22, ⟨.slice 5, 1, 24, some (.list (.int .u8)), [.slice none 0 0], false⟩), (23, ⟨.slice 3, 1, 24, some (.list (.int .i64)), [.slice none 0 0], false⟩), (39, ⟨.slice 42, 1, 24, some (.list (.pair (.int .i64) (.pair (.int .i64) .unit))), [.slice none 0 0], false⟩), (42, ⟨.strct [(0, 3), (1, 3)], 2, 16, some (.pair (.int .i64) (.pair (.int .i64) .unit)), [.int .i64 0, .int .i64 0], false⟩), (51, ⟨.strct [(0, 22), (1, 3)], 2, 32, some (.pair (.list (.int .u8)) (.pair (.int .i64) .unit)), [.slice none 0 0, .int .i64 0], false⟩), (55, ⟨.strct [(0, 23), (1, 3), (2, 3)], 3, 40, some (.pair (.list (.int .i64)) (.pair (.int .i64) (.pair (.int .i64) .unit))), [.slice none 0 0, .int .i64 0, .int .i64 0], false⟩), (56, ⟨.arr 9 4, 9, 9, none, [.bool false, .bool false, .bool false, .bool false, .bool false, .bool false, .bool false, .bool false, .bool false], false⟩)]
theorem tys_ok : TOk Try.prog (tlook tys) := tok_of (allc ty3 (allc ty4 (allc ty5 (allc ty22 (allc ty23 (allc ty39 (allc ty42 (allc ty51 (allc ty55 (allc ty56 alln))))))))))
def ioF (f : FuncId) (i : Nat) : Bool := [(47, 1)].any fun (p : Nat × Nat) => Nat.beq p.1 f && Nat.beq p.2 i


/-! loop.example/headtrees/spec.l1In -/

def spec_l1In_an : Ann := (.seq (.leaf [0, 1, 2]) (.seq (.leaf [6]) (.leaf [6])))

noncomputable def spec_l1In_ctx : Ctx := ⟨tlook tys, olook [], ioF, 0, false, []⟩

theorem spec_l1In_n1_l (x780 : Int) (x781 : Int) (x782 : Int) : Link spec_l1In_ctx LL (bodyOf Try.f34) spec_l1In_an ⟨mkE 15 0 [(0, dI x780), (1, dI x781), (2, dI x782)], []⟩ (spec_l1In_n1 x780 x781 x782) (fun (t : Bool) => (Exit.ret, ⟨mkE 15 0 [(6, dB t)], []⟩)) := .of fun K h => by
  simp only [spec_l1In_n1, wpW] at h
  exact .of (by kernel_rfl) h

theorem spec_l1In_e (x780 : Int) (x781 : Int) (x782 : Int) {r : AV} {H' : Heap} (h : (Ans.mk _ (spec_l1In x780 x781 x782) (fun (t : Bool) => (dB t, [])) [] none).run = some (r, H')) : Awp spec_l1In_ctx LL (bodyOf Try.f34) spec_l1In_an ⟨mkE 15 0 [(0, dI x780), (1, dI x781), (2, dI x782)], []⟩ (Ret (tlook tys) Try.f34.results.toList r H') :=
  ret_of' (spec_l1In_n1_l x780 x781 x782) (by unfold spec_l1In; kernel_rfl) (by
  intro t
  exact ret_mk [dB t] (by kernel_rfl) (by kernel_rfl) (by kernel_rfl) (by kernel_rfl)) h

def F_spec_l1In : Fun := fun avs H =>
  match avs, H with
  | [.dat (.int .i64) x780, .dat (.int .i64) x781, .dat (.int .i64) x782], [] => ⟨_, spec_l1In x780 x781 x782, fun (t : Bool) => (dB t, []), [], none⟩
  | _, _ => Ans.no

theorem spec_l1In_sound : Sound Try.prog 34 F_spec_l1In := by
  refine fn_sound' (C := spec_l1In_ctx) (c := bodyOf Try.f34) (cok_of tys_ok (alln) (alln) (by kernel_rfl)) Try.func34 (by kernel_rfl) LL spec_l1In_an ?_
  intro avs H r H' h
  unfold F_spec_l1In at h
  split at h
  · refine Awp.cast ?_ ?_ ?_ (spec_l1In_e _ _ _ h) <;> kernel_rfl
  · simp [Ans.no, Ans.run] at h


/-! loop.example/headtrees/spec.TreeOk -/

def spec_TreeOk_an : Ann := (.seq (.leaf [0]) (.seq (.leaf [0, 3]) (.seq (.seq (.leaf [0, 3, 12]) (.cond (.seq (.leaf [2]) (.leaf [2])) (.leaf [0, 3]))) (.seq (.leaf [0, 3, 4]) (.seq (.seq (.leaf [0, 3, 4, 5]) (.block (.loop (.seq (.seq (.leaf [0, 3, 4, 5, 15]) (.cond (.leaf [0, 3, 4, 5]) (.leaf [4]))) (.seq (.block (.seq (.seq (.leaf [0, 3, 4, 5, 33]) (.cond (.seq (.leaf [2]) (.leaf [2])) (.leaf [0, 3, 4, 5]))) (.seq (.seq (.leaf [0, 3, 4, 5, 38]) (.cond (.leaf [0, 3, 4, 5]) (.leaf [0, 3, 4, 5]))) (.seq (.leaf [0, 3, 4, 5, 6]) (.seq (.seq (.leaf [0, 3, 4, 5, 6, 7]) (.block (.loop (.seq (.seq (.leaf [0, 3, 4, 5, 6, 7, 49]) (.cond (.leaf [0, 3, 4, 5, 6, 7]) (.leaf [0, 3, 4, 5, 6]))) (.seq (.block (.seq (.leaf [0, 3, 4, 5, 6, 7]) (.seq (.leaf [0, 3, 4, 5, 6, 7, 60]) (.cond (.seq (.leaf [2]) (.leaf [2])) (.leaf [0, 3, 4, 5, 6, 7]))))) (.leaf [0, 3, 4, 5, 6, 7])))))) (.seq (.leaf [0, 3, 4, 5, 62]) (.cond (.seq (.leaf [2]) (.leaf [2])) (.leaf [0, 3, 4, 5])))))))) (.leaf [0, 3, 4, 5])))))) (.seq (.leaf [2]) (.leaf [2])))))))

noncomputable def spec_TreeOk_ctx : Ctx := ⟨tlook tys, olook [(34, F_spec_l1In)], ioF, 0, false, []⟩

theorem spec_TreeOk_n1_l (x776 : List Int) : Link spec_TreeOk_ctx LL (Code.seq (cq [0] (bodyOf Try.f28)) (Code.seq (cq [0,1] (bodyOf Try.f28)) (Code.seq (cq [0,1,1] (bodyOf Try.f28)) (cq [0,1,1,1] (bodyOf Try.f28))))) (Ann.seq (aq [0] spec_TreeOk_an) (Ann.seq (aq [0,1] spec_TreeOk_an) (Ann.seq (aq [0,1,1] spec_TreeOk_an) (aq [0,1,1,1] spec_TreeOk_an)))) ⟨mkE 65 0 [(0, dL x776)], []⟩ (spec_TreeOk_n1 x776) (Sum.elim (fun (t : Int) => (Exit.normal, ⟨mkE 65 0 [(0, dL x776), (3, dI t), (4, dI 0)], []⟩)) (fun (t : Bool) => (Exit.ret, ⟨mkE 65 0 [(2, dB t)], []⟩))) := .of fun K h => by
  simp only [spec_TreeOk_n1, wpW] at h
  exact .of (by kernel_rfl) h

theorem spec_TreeOk_n2_l (x776 : List Int) (x790 : Int) : Link spec_TreeOk_ctx LL (cq [0,0,1,1,1,1] (bodyOf Try.f28)) (aq [0,0,1,1,1,1] spec_TreeOk_an) ⟨mkE 65 0 [(0, dL x776), (3, dI x790), (4, dI 0)], []⟩ (spec_TreeOk_n2) (fun (t : Unit) => (Exit.normal, ⟨mkE 65 0 [(0, dL x776), (3, dI x790), (4, dI 0), (5, dI 0)], []⟩)) := .of fun K h => by
  simp only [spec_TreeOk_n2, wpW] at h
  exact .of (by kernel_rfl) h

theorem spec_TreeOk_n3_l (x776 : List Int) (x790 : Int) (x857 : Int) (x858 : Int) : Link spec_TreeOk_ctx LL (cq [0,0,0,1,0,1,1,1,1] (bodyOf Try.f28)) (aq [0,0,0,1,0,1,1,1,1] spec_TreeOk_an) ⟨mkE 65 0 [(0, dL x776), (3, dI x790), (4, dI x857), (5, dI x858)], []⟩ (spec_TreeOk_n3 x790 x857 x858) (Sum.elim (fun (t : Unit) => (Exit.normal, ⟨mkE 65 0 [(0, dL x776), (3, dI x790), (4, dI x857), (5, dI x858)], []⟩)) (fun (t : Int) => ((Exit.exit 0), ⟨mkE 65 0 [(4, dI t)], []⟩))) := .of fun K h => by
  simp only [spec_TreeOk_n3, wpW] at h
  exact .of (by kernel_rfl) h

theorem spec_TreeOk_n4_l (x776 : List Int) (x790 : Int) (x857 : Int) (x858 : Int) : Link spec_TreeOk_ctx LL (Code.seq (cq [0,0,0,1,0,0,1,0,1,1,1,1] (bodyOf Try.f28)) (Code.seq (cq [0,1,0,0,1,0,0,1,0,1,1,1,1] (bodyOf Try.f28)) (cq [0,1,1,0,0,1,0,0,1,0,1,1,1,1] (bodyOf Try.f28)))) (Ann.seq (aq [0,0,0,1,0,0,1,0,1,1,1,1] spec_TreeOk_an) (Ann.seq (aq [0,1,0,0,1,0,0,1,0,1,1,1,1] spec_TreeOk_an) (aq [0,1,1,0,0,1,0,0,1,0,1,1,1,1] spec_TreeOk_an))) ⟨mkE 65 0 [(0, dL x776), (3, dI x790), (4, dI x857), (5, dI x858)], []⟩ (spec_TreeOk_n4 x776 x790 x857 x858) (Sum.elim (fun (t : Int × Int) => (Exit.normal, ⟨mkE 65 0 [(0, dL x776), (3, dI x790), (4, dI t.1), (5, dI x858), (6, dI t.2)], []⟩)) (fun (t : Bool) => (Exit.ret, ⟨mkE 65 0 [(2, dB t)], []⟩))) := .of fun K h => by
  simp only [spec_TreeOk_n4, wpW] at h
  exact .of (by kernel_rfl) h

theorem spec_TreeOk_n5_l (x776 : List Int) (x790 : Int) (x886 : Int) (x858 : Int) (x887 : Int) : Link spec_TreeOk_ctx LL (cq [0,0,1,1,1,0,0,1,0,0,1,0,1,1,1,1] (bodyOf Try.f28)) (aq [0,0,1,1,1,0,0,1,0,0,1,0,1,1,1,1] spec_TreeOk_an) ⟨mkE 65 0 [(0, dL x776), (3, dI x790), (4, dI x886), (5, dI x858), (6, dI x887)], []⟩ (spec_TreeOk_n5) (fun (t : Unit) => (Exit.normal, ⟨mkE 65 0 [(0, dL x776), (3, dI x790), (4, dI x886), (5, dI x858), (6, dI x887), (7, dI 0)], []⟩)) := .of fun K h => by
  simp only [spec_TreeOk_n5, wpW] at h
  exact .of (by kernel_rfl) h

theorem spec_TreeOk_n6_l (x776 : List Int) (x790 : Int) (x886 : Int) (x858 : Int) (x903 : Int) (x904 : Int) : Link spec_TreeOk_ctx LL (cq [0,0,1,0,1,1,1,0,0,1,0,0,1,0,1,1,1,1] (bodyOf Try.f28)) (aq [0,0,1,0,1,1,1,0,0,1,0,0,1,0,1,1,1,1] spec_TreeOk_an) ⟨mkE 65 0 [(0, dL x776), (3, dI x790), (4, dI x886), (5, dI x858), (6, dI x903), (7, dI x904)], []⟩ (spec_TreeOk_n6 x776 x790 x903 x904) (Sum.elim (fun (t : Int × Int) => (Exit.normal, ⟨mkE 65 0 [(0, dL x776), (3, dI x790), (4, dI x886), (5, dI x858), (6, dI t.1), (7, dI t.2)], []⟩)) (Sum.elim (fun (t : Bool) => (Exit.ret, ⟨mkE 65 0 [(2, dB t)], []⟩)) (fun (t : Int) => ((Exit.exit 2), ⟨mkE 65 0 [(0, dL x776), (3, dI x790), (4, dI x886), (5, dI x858), (6, dI t)], []⟩)))) := .of fun K h => by
  simp only [spec_TreeOk_n6, wpW] at h
  exact .of (by kernel_rfl) h

def spec_TreeOk_n7_l (x776 : List Int) (x790 : Int) (x886 : Int) (x858 : Int) (x887 : Int) := (link_loop (mk := fun (s : Int × Int) => ⟨mkE 65 0 [(0, dL x776), (3, dI x790), (4, dI x886), (5, dI x858), (6, dI s.1), (7, dI s.2)], []⟩) (fin := (Sum.elim (fun (t : Bool) => (Exit.ret, ⟨mkE 65 0 [(2, dB t)], []⟩)) (fun (t : Int) => ((Exit.exit 2), ⟨mkE 65 0 [(0, dL x776), (3, dI x790), (4, dI x886), (5, dI x858), (6, dI t)], []⟩)))) (by
  rintro (t | t) f K h
  · exact h
  · exact h) (fun s => link_map (spec_TreeOk_n6_l x776 x790 x886 x858 s.1 s.2) (Sum.elim (fun (t : Int × Int) => Sum.inl (t.1, t.2)) (Sum.elim (fun (t : Bool) => Sum.inr (Sum.inl t)) (fun (t : Int) => Sum.inr (Sum.inr t)))) (by
  rintro (t | t | t)
  · kernel_rfl
  · kernel_rfl
  · kernel_rfl)) (x887, 0))

def spec_TreeOk_n8_l (x776 : List Int) (x790 : Int) (x886 : Int) (x858 : Int) (x887 : Int) := (link_block (fin2 := (Sum.elim (fun (t : Int) => (Exit.normal, ⟨mkE 65 0 [(0, dL x776), (3, dI x790), (4, dI x886), (5, dI x858), (6, dI t)], []⟩)) (fun (t : Bool) => (Exit.ret, ⟨mkE 65 0 [(2, dB t)], []⟩)))) (id := 2) (spec_TreeOk_n7_l x776 x790 x886 x858 x887) (Sum.elim (fun (t : Bool) => (Sum.inr t)) (fun (t : Int) => (Sum.inl t))) (by
  rintro (t | t) K h
  · exact Eq.mp (by kernel_rfl) h
  · exact Eq.mp (by kernel_rfl) h))

def spec_TreeOk_n9_l (x776 : List Int) (x790 : Int) (x886 : Int) (x858 : Int) (x887 : Int) := (link_seq (spec_TreeOk_n5_l x776 x790 x886 x858 x887) (fun (t : Unit) => (spec_TreeOk_n8_l x776 x790 x886 x858 x887)))

theorem spec_TreeOk_n10_l (x776 : List Int) (x790 : Int) (x886 : Int) (x858 : Int) (x903 : Int) : Link spec_TreeOk_ctx LL (cq [1,1,1,1,0,0,1,0,0,1,0,1,1,1,1] (bodyOf Try.f28)) (aq [1,1,1,1,0,0,1,0,0,1,0,1,1,1,1] spec_TreeOk_an) ⟨mkE 65 0 [(0, dL x776), (3, dI x790), (4, dI x886), (5, dI x858), (6, dI x903)], []⟩ (spec_TreeOk_n10 x903) (Sum.elim (fun (t : Unit) => (Exit.normal, ⟨mkE 65 0 [(0, dL x776), (3, dI x790), (4, dI x886), (5, dI x858)], []⟩)) (fun (t : Bool) => (Exit.ret, ⟨mkE 65 0 [(2, dB t)], []⟩))) := .of fun K h => by
  simp only [spec_TreeOk_n10, wpW] at h
  exact .of (by kernel_rfl) h

def spec_TreeOk_n11_l (x776 : List Int) (x790 : Int) (x886 : Int) (x858 : Int) (x887 : Int) := (link_seq2 (spec_TreeOk_n9_l x776 x790 x886 x858 x887) (fun (t : Int) => (spec_TreeOk_n10_l x776 x790 x886 x858 t)) (fun (t : Bool) => (Sum.inr t)) (by
  rintro t
  · kernel_rfl) (by
  rintro t f K h
  · exact h))

def spec_TreeOk_n12_l (x776 : List Int) (x790 : Int) (x857 : Int) (x858 : Int) := (link_group (c := (cq [0,1,1,0,0,1,0,0,1,0,1,1,1,1] (bodyOf Try.f28))) (a := (aq [0,1,1,0,0,1,0,0,1,0,1,1,1,1] spec_TreeOk_an)) [(cq [0,0,0,1,0,0,1,0,1,1,1,1] (bodyOf Try.f28)), (cq [0,1,0,0,1,0,0,1,0,1,1,1,1] (bodyOf Try.f28))] [(aq [0,0,0,1,0,0,1,0,1,1,1,1] spec_TreeOk_an), (aq [0,1,0,0,1,0,0,1,0,1,1,1,1] spec_TreeOk_an)] rfl (link_seq2 (spec_TreeOk_n4_l x776 x790 x857 x858) (fun (t : Int × Int) => (link_map (fin2 := (Sum.elim (fun (t : Int) => (Exit.normal, ⟨mkE 65 0 [(0, dL x776), (3, dI x790), (4, dI t), (5, dI x858)], []⟩)) (fun (t : Bool) => (Exit.ret, ⟨mkE 65 0 [(2, dB t)], []⟩)))) (spec_TreeOk_n11_l x776 x790 t.1 x858 t.2) (Sum.elim (fun (u : Unit) => (Sum.inl t.1)) (fun (u : Bool) => (Sum.inr u))) (by
  rintro (t | t)
  · kernel_rfl
  · kernel_rfl))) (fun (t : Bool) => (Sum.inr t)) (by
  rintro t
  · kernel_rfl) (by
  rintro t f K h
  · exact h)))

def spec_TreeOk_n13_l (x776 : List Int) (x790 : Int) (x857 : Int) (x858 : Int) := (link_block (fin2 := (Sum.elim (fun (t : Int) => (Exit.normal, ⟨mkE 65 0 [(0, dL x776), (3, dI x790), (4, dI t), (5, dI x858)], []⟩)) (fun (t : Bool) => (Exit.ret, ⟨mkE 65 0 [(2, dB t)], []⟩)))) (id := 1) (spec_TreeOk_n12_l x776 x790 x857 x858) (Sum.elim (fun (t : Int) => (Sum.inl t)) (fun (t : Bool) => (Sum.inr t))) (by
  rintro (t | t) K h
  · exact Eq.mp (by kernel_rfl) h
  · exact Eq.mp (by kernel_rfl) h))

theorem spec_TreeOk_n14_l (x776 : List Int) (x790 : Int) (x886 : Int) (x858 : Int) : Link spec_TreeOk_ctx LL (cq [1,1,0,0,1,0,1,1,1,1] (bodyOf Try.f28)) (aq [1,1,0,0,1,0,1,1,1,1] spec_TreeOk_an) ⟨mkE 65 0 [(0, dL x776), (3, dI x790), (4, dI x886), (5, dI x858)], []⟩ (spec_TreeOk_n14 x858) (fun (t : Int) => (Exit.normal, ⟨mkE 65 0 [(0, dL x776), (3, dI x790), (4, dI x886), (5, dI t)], []⟩)) := .of fun K h => by
  simp only [spec_TreeOk_n14, wpW] at h
  exact .of (by kernel_rfl) h

def spec_TreeOk_n15_l (x776 : List Int) (x790 : Int) (x857 : Int) (x858 : Int) := (link_seq2 (spec_TreeOk_n13_l x776 x790 x857 x858) (fun (t : Int) => (link_map (fin2 := (Sum.elim (fun (t : Int × Int) => (Exit.normal, ⟨mkE 65 0 [(0, dL x776), (3, dI x790), (4, dI t.1), (5, dI t.2)], []⟩)) (fun (t : Bool) => (Exit.ret, ⟨mkE 65 0 [(2, dB t)], []⟩)))) (spec_TreeOk_n14_l x776 x790 t x858) (fun (u : Int) => (Sum.inl (t, u))) (by
  rintro t
  · kernel_rfl))) (fun (t : Bool) => (Sum.inr t)) (by
  rintro t
  · kernel_rfl) (by
  rintro t f K h
  · exact h))

def spec_TreeOk_n16_l (x776 : List Int) (x790 : Int) (x857 : Int) (x858 : Int) := (link_seq2 (spec_TreeOk_n3_l x776 x790 x857 x858) (fun (t : Unit) => (link_map (fin2 := (Sum.elim (fun (t : Int × Int) => (Exit.normal, ⟨mkE 65 0 [(0, dL x776), (3, dI x790), (4, dI t.1), (5, dI t.2)], []⟩)) (Sum.elim (fun (t : Bool) => (Exit.ret, ⟨mkE 65 0 [(2, dB t)], []⟩)) (fun (t : Int) => ((Exit.exit 0), ⟨mkE 65 0 [(4, dI t)], []⟩))))) (spec_TreeOk_n15_l x776 x790 x857 x858) (Sum.elim (fun (t : Int × Int) => (Sum.inl (t.1, t.2))) (fun (t : Bool) => (Sum.inr (Sum.inl t)))) (by
  rintro (t | t)
  · kernel_rfl
  · kernel_rfl))) (fun (t : Int) => (Sum.inr (Sum.inr t))) (by
  rintro t
  · kernel_rfl) (by
  rintro t f K h
  · exact h))

def spec_TreeOk_n17_l (x776 : List Int) (x790 : Int) := (link_loop (mk := fun (s : Int × Int) => ⟨mkE 65 0 [(0, dL x776), (3, dI x790), (4, dI s.1), (5, dI s.2)], []⟩) (fin := (Sum.elim (fun (t : Bool) => (Exit.ret, ⟨mkE 65 0 [(2, dB t)], []⟩)) (fun (t : Int) => ((Exit.exit 0), ⟨mkE 65 0 [(4, dI t)], []⟩)))) (by
  rintro (t | t) f K h
  · exact h
  · exact h) (fun s => link_map (spec_TreeOk_n16_l x776 x790 s.1 s.2) (Sum.elim (fun (t : Int × Int) => Sum.inl (t.1, t.2)) (Sum.elim (fun (t : Bool) => Sum.inr (Sum.inl t)) (fun (t : Int) => Sum.inr (Sum.inr t)))) (by
  rintro (t | t | t)
  · kernel_rfl
  · kernel_rfl
  · kernel_rfl)) (0, 0))

def spec_TreeOk_n18_l (x776 : List Int) (x790 : Int) := (link_block (fin2 := (Sum.elim (fun (t : Int) => (Exit.normal, ⟨mkE 65 0 [(4, dI t)], []⟩)) (fun (t : Bool) => (Exit.ret, ⟨mkE 65 0 [(2, dB t)], []⟩)))) (id := 0) (spec_TreeOk_n17_l x776 x790) (Sum.elim (fun (t : Bool) => (Sum.inr t)) (fun (t : Int) => (Sum.inl t))) (by
  rintro (t | t) K h
  · exact Eq.mp (by kernel_rfl) h
  · exact Eq.mp (by kernel_rfl) h))

def spec_TreeOk_n19_l (x776 : List Int) (x790 : Int) := (link_seq (spec_TreeOk_n2_l x776 x790) (fun (t : Unit) => (spec_TreeOk_n18_l x776 x790)))

theorem spec_TreeOk_n20_l (x857 : Int) : Link spec_TreeOk_ctx LL (cq [1,1,1,1,1] (bodyOf Try.f28)) (aq [1,1,1,1,1] spec_TreeOk_an) ⟨mkE 65 0 [(4, dI x857)], []⟩ (spec_TreeOk_n20 x857) (fun (t : Bool) => (Exit.ret, ⟨mkE 65 0 [(2, dB t)], []⟩)) := .of fun K h => by
  simp only [spec_TreeOk_n20, wpW] at h
  exact .of (by kernel_rfl) h

def spec_TreeOk_n21_l (x776 : List Int) (x790 : Int) := (link_seq2 (spec_TreeOk_n19_l x776 x790) (fun (t : Int) => (spec_TreeOk_n20_l t)) (fun (t : Bool) => t) (by
  rintro t
  · kernel_rfl) (by
  rintro t f K h
  · exact h))

def spec_TreeOk_n22_l (x776 : List Int) := (link_group (c := (cq [0,1,1,1] (bodyOf Try.f28))) (a := (aq [0,1,1,1] spec_TreeOk_an)) [(cq [0] (bodyOf Try.f28)), (cq [0,1] (bodyOf Try.f28)), (cq [0,1,1] (bodyOf Try.f28))] [(aq [0] spec_TreeOk_an), (aq [0,1] spec_TreeOk_an), (aq [0,1,1] spec_TreeOk_an)] rfl (link_seq2 (spec_TreeOk_n1_l x776) (fun (t : Int) => (spec_TreeOk_n21_l x776 t)) (fun (t : Bool) => t) (by
  rintro t
  · kernel_rfl) (by
  rintro t f K h
  · exact h)))

theorem spec_TreeOk_e (x776 : List Int) {r : AV} {H' : Heap} (h : (Ans.mk _ (spec_TreeOk x776) (fun (t : Bool) => (dB t, [])) [] none).run = some (r, H')) : Awp spec_TreeOk_ctx LL (bodyOf Try.f28) spec_TreeOk_an ⟨mkE 65 0 [(0, dL x776)], []⟩ (Ret (tlook tys) Try.f28.results.toList r H') :=
  ret_of' (Link.cast (by kernel_rfl) (by kernel_rfl) (spec_TreeOk_n22_l x776)) (by unfold spec_TreeOk; kernel_rfl) (by
  intro t
  exact ret_mk [dB t] (by kernel_rfl) (by kernel_rfl) (by kernel_rfl) (by kernel_rfl)) h

def F_spec_TreeOk : Fun := fun avs H =>
  match avs, H with
  | [.dat (.list (.int .i64)) x776], [] => ⟨_, spec_TreeOk x776, fun (t : Bool) => (dB t, []), [], none⟩
  | _, _ => Ans.no

theorem spec_TreeOk_sound : Sound Try.prog 28 F_spec_TreeOk := by
  refine fn_sound' (C := spec_TreeOk_ctx) (c := bodyOf Try.f28) (cok_of tys_ok (allc spec_l1In_sound alln) (allc Try.call34 alln) (by kernel_rfl)) Try.func28 (by kernel_rfl) LL spec_TreeOk_an ?_
  intro avs H r H' h
  unfold F_spec_TreeOk at h
  split at h
  · refine Awp.cast ?_ ?_ ?_ (spec_TreeOk_e _ h) <;> kernel_rfl
  · simp [Ans.no, Ans.run] at h


/-! loop.example/headtrees/impl.oneRoot -/

def impl_oneRoot_an : Ann := (.seq (.leaf [0]) (.seq (.leaf [0, 3]) (.seq (.seq (.leaf [0, 3, 6, 7, 8]) (.block (.loop (.seq (.leaf [0, 3, 6, 7, 8, 9]) (.seq (.cond (.leaf [0, 3, 6, 7, 8]) (.leaf [3])) (.seq (.block (.seq (.leaf [0, 3, 5, 6, 7, 8]) (.seq (.seq (.leaf [0, 3, 5, 6, 7, 8, 19]) (.cond (.seq (.leaf [2]) (.leaf [2])) (.leaf [0, 3, 5, 6, 7, 8]))) (.seq (.leaf [0, 3, 6, 7, 8, 21]) (.cond (.leaf [0, 3, 6, 7, 8]) (.leaf [0, 3, 6, 7, 8])))))) (.leaf [0, 3, 6, 7, 8]))))))) (.seq (.leaf [2]) (.leaf [2])))))

noncomputable def impl_oneRoot_ctx : Ctx := ⟨tlook tys, olook [], ioF, 0, false, []⟩

theorem impl_oneRoot_n1_l (x1431 : List Int) : Link impl_oneRoot_ctx LL (Code.seq (cq [0] (bodyOf Try.f29)) (cq [0,1] (bodyOf Try.f29))) (Ann.seq (aq [0] impl_oneRoot_an) (aq [0,1] impl_oneRoot_an)) ⟨mkE 27 0 [(0, dL x1431)], []⟩ (impl_oneRoot_n1) (fun (t : Unit) => (Exit.normal, ⟨mkE 27 0 [(0, dL x1431), (3, dI 0)], []⟩)) := .of fun K h => by
  simp only [impl_oneRoot_n1, wpW] at h
  exact .of (by kernel_rfl) h

theorem impl_oneRoot_n2_l (x1431 : List Int) : Link impl_oneRoot_ctx LL (cq [0,0,1,1] (bodyOf Try.f29)) (aq [0,0,1,1] impl_oneRoot_an) ⟨mkE 27 0 [(0, dL x1431), (3, dI 0)], []⟩ (impl_oneRoot_n2 x1431) (fun (t : Int) => (Exit.normal, ⟨mkE 27 0 [(0, dL x1431), (3, dI 0), (6, dL x1431), (7, dI t), (8, dI 0)], []⟩)) := .of fun K h => by
  simp only [impl_oneRoot_n2, wpW] at h
  exact .of (by kernel_rfl) h

theorem impl_oneRoot_n3_l (x1431 : List Int) (x1453 : Int) (x1432 : Int) (x1454 : Int) : Link impl_oneRoot_ctx LL (cq [0,0,1,0,1,1] (bodyOf Try.f29)) (aq [0,0,1,0,1,1] impl_oneRoot_an) ⟨mkE 27 0 [(0, dL x1431), (3, dI x1453), (6, dL x1431), (7, dI x1432), (8, dI x1454)], []⟩ (impl_oneRoot_n3 x1431 x1453 x1432 x1454) (Sum.elim (fun (t : Int × Int) => (Exit.normal, ⟨mkE 27 0 [(0, dL x1431), (3, dI t.1), (6, dL x1431), (7, dI x1432), (8, dI t.2)], []⟩)) (Sum.elim (fun (t : Bool) => (Exit.ret, ⟨mkE 27 0 [(2, dB t)], []⟩)) (fun (t : Int) => ((Exit.exit 0), ⟨mkE 27 0 [(3, dI t)], []⟩)))) := .of fun K h => by
  simp only [impl_oneRoot_n3, wpW] at h
  exact .of (by kernel_rfl) h

def impl_oneRoot_n4_l (x1431 : List Int) (x1432 : Int) := (link_loop (mk := fun (s : Int × Int) => ⟨mkE 27 0 [(0, dL x1431), (3, dI s.1), (6, dL x1431), (7, dI x1432), (8, dI s.2)], []⟩) (fin := (Sum.elim (fun (t : Bool) => (Exit.ret, ⟨mkE 27 0 [(2, dB t)], []⟩)) (fun (t : Int) => ((Exit.exit 0), ⟨mkE 27 0 [(3, dI t)], []⟩)))) (by
  rintro (t | t) f K h
  · exact h
  · exact h) (fun s => link_map (impl_oneRoot_n3_l x1431 s.1 x1432 s.2) (Sum.elim (fun (t : Int × Int) => Sum.inl (t.1, t.2)) (Sum.elim (fun (t : Bool) => Sum.inr (Sum.inl t)) (fun (t : Int) => Sum.inr (Sum.inr t)))) (by
  rintro (t | t | t)
  · kernel_rfl
  · kernel_rfl
  · kernel_rfl)) (0, 0))

def impl_oneRoot_n5_l (x1431 : List Int) (x1432 : Int) := (link_block (fin2 := (Sum.elim (fun (t : Int) => (Exit.normal, ⟨mkE 27 0 [(3, dI t)], []⟩)) (fun (t : Bool) => (Exit.ret, ⟨mkE 27 0 [(2, dB t)], []⟩)))) (id := 0) (impl_oneRoot_n4_l x1431 x1432) (Sum.elim (fun (t : Bool) => (Sum.inr t)) (fun (t : Int) => (Sum.inl t))) (by
  rintro (t | t) K h
  · exact Eq.mp (by kernel_rfl) h
  · exact Eq.mp (by kernel_rfl) h))

def impl_oneRoot_n6_l (x1431 : List Int) := (link_seq (impl_oneRoot_n2_l x1431) (fun (t : Int) => (impl_oneRoot_n5_l x1431 t)))

theorem impl_oneRoot_n7_l (x1453 : Int) : Link impl_oneRoot_ctx LL (cq [1,1,1] (bodyOf Try.f29)) (aq [1,1,1] impl_oneRoot_an) ⟨mkE 27 0 [(3, dI x1453)], []⟩ (impl_oneRoot_n7 x1453) (fun (t : Bool) => (Exit.ret, ⟨mkE 27 0 [(2, dB t)], []⟩)) := .of fun K h => by
  simp only [impl_oneRoot_n7, wpW] at h
  exact .of (by kernel_rfl) h

def impl_oneRoot_n8_l (x1431 : List Int) := (link_seq2 (impl_oneRoot_n6_l x1431) (fun (t : Int) => (impl_oneRoot_n7_l t)) (fun (t : Bool) => t) (by
  rintro t
  · kernel_rfl) (by
  rintro t f K h
  · exact h))

def impl_oneRoot_n9_l (x1431 : List Int) := (link_group (c := (cq [0,1] (bodyOf Try.f29))) (a := (aq [0,1] impl_oneRoot_an)) [(cq [0] (bodyOf Try.f29))] [(aq [0] impl_oneRoot_an)] rfl (link_seq (impl_oneRoot_n1_l x1431) (fun (t : Unit) => (impl_oneRoot_n8_l x1431))))

theorem impl_oneRoot_e (x1431 : List Int) {r : AV} {H' : Heap} (h : (Ans.mk _ (impl_oneRoot x1431) (fun (t : Bool) => (dB t, [])) [] none).run = some (r, H')) : Awp impl_oneRoot_ctx LL (bodyOf Try.f29) impl_oneRoot_an ⟨mkE 27 0 [(0, dL x1431)], []⟩ (Ret (tlook tys) Try.f29.results.toList r H') :=
  ret_of' (Link.cast (by kernel_rfl) (by kernel_rfl) (impl_oneRoot_n9_l x1431)) (by unfold impl_oneRoot; kernel_rfl) (by
  intro t
  exact ret_mk [dB t] (by kernel_rfl) (by kernel_rfl) (by kernel_rfl) (by kernel_rfl)) h

def F_impl_oneRoot : Fun := fun avs H =>
  match avs, H with
  | [.dat (.list (.int .i64)) x1431], [] => ⟨_, impl_oneRoot x1431, fun (t : Bool) => (dB t, []), [], none⟩
  | _, _ => Ans.no

theorem impl_oneRoot_sound : Sound Try.prog 29 F_impl_oneRoot := by
  refine fn_sound' (C := impl_oneRoot_ctx) (c := bodyOf Try.f29) (cok_of tys_ok (alln) (alln) (by kernel_rfl)) Try.func29 (by kernel_rfl) LL impl_oneRoot_an ?_
  intro avs H r H' h
  unfold F_impl_oneRoot at h
  split at h
  · refine Awp.cast ?_ ?_ ?_ (impl_oneRoot_e _ h) <;> kernel_rfl
  · simp [Ans.no, Ans.run] at h


/-! (*loop.example/headtrees/impl.walker).up -/

def impl_walker_up_an : Ann := (.seq (.leaf [0]) (.seq (.draw [] [0, 1, 2, 3, 4, 5, 6, 7, 8, 9, 10, 11] [] [0, 3]) (.seq (.seq (.leaf [0, 3, 16]) (.cond (.seq (.leaf [2]) (.leaf [2])) (.leaf [0, 3]))) (.seq (.leaf [0]) (.seq (.leaf []) (.seq (.leaf [2]) (.leaf [2])))))))

noncomputable def impl_walker_up_ctx : Ctx := ⟨tlook tys, olook [], ioF, 1, false, []⟩

theorem impl_walker_up_n1_l (x1487 : List Int) (x1488 : Int) (x1489 : Int) : Link impl_walker_up_ctx LL (bodyOf Try.f44) impl_walker_up_an ⟨mkE 28 0 [(0, .ptr 0 0)], [some (.box [dL x1487, dI x1488, dI x1489])]⟩ (impl_walker_up_n1 x1487 x1488 x1489) (fun (t : Bool × Int × Int) => (Exit.ret, ⟨mkE 28 0 [(2, dB t.1)], [some (.box [dL x1487, dI t.2.1, dI t.2.2])]⟩)) := .of fun K h => by
  simp only [impl_walker_up_n1, wpW] at h
  exact .of (by kernel_rfl) h

theorem impl_walker_up_e (x1487 : List Int) (x1488 : Int) (x1489 : Int) {r : AV} {H' : Heap} (h : (Ans.mk _ (impl_walker_up x1487 x1488 x1489) (fun (t : Bool × Int × Int) => (dB t.1, [some (.box [dL x1487, dI t.2.1, dI t.2.2])])) [] none).run = some (r, H')) : Awp impl_walker_up_ctx LL (bodyOf Try.f44) impl_walker_up_an ⟨mkE 28 0 [(0, .ptr 0 0)], [some (.box [dL x1487, dI x1488, dI x1489])]⟩ (Ret (tlook tys) Try.f44.results.toList r H') :=
  ret_of' (impl_walker_up_n1_l x1487 x1488 x1489) (by unfold impl_walker_up; kernel_rfl) (by
  intro t
  exact ret_mk [dB t.1] (by kernel_rfl) (by kernel_rfl) (by kernel_rfl) (by kernel_rfl)) h

def F_impl_walker_up : Fun := fun avs H =>
  match avs, H with
  | [.ptr 0 0], [some (.box [.dat (.list (.int .i64)) x1487, .dat (.int .i64) x1488, .dat (.int .i64) x1489])] => ⟨_, impl_walker_up x1487 x1488 x1489, fun (t : Bool × Int × Int) => (dB t.1, [some (.box [dL x1487, dI t.2.1, dI t.2.2])]), [], none⟩
  | _, _ => Ans.no

theorem impl_walker_up_sound : Sound Try.prog 44 F_impl_walker_up := by
  refine fn_sound' (C := impl_walker_up_ctx) (c := bodyOf Try.f44) (cok_of tys_ok (alln) (alln) (by kernel_rfl)) Try.func44 (by kernel_rfl) LL impl_walker_up_an ?_
  intro avs H r H' h
  unfold F_impl_walker_up at h
  split at h
  · refine Awp.cast ?_ ?_ ?_ (impl_walker_up_e _ _ _ h) <;> kernel_rfl
  · simp [Ans.no, Ans.run] at h


/-! loop.example/headtrees/impl.stepsToRoot -/

def impl_stepsToRoot_an : Ann := (.seq (.leaf [0, 1]) (.seq (.leaf [0, 6]) (.seq (.block (.loop (.seq (.seq (.leaf [0, 6, 10]) (.cond (.leaf [0, 6]) (.leaf [6]))) (.block (.seq (.leaf [0, 6, 15]) (.cond (.seq (.leaf [4, 5]) (.leaf [4, 5])) (.leaf [0, 6]))))))) (.seq (.leaf [4, 5]) (.leaf [4, 5])))))

noncomputable def impl_stepsToRoot_ctx : Ctx := ⟨tlook tys, olook [(44, F_impl_walker_up)], ioF, 0, false, []⟩

theorem impl_stepsToRoot_n1_l (x1485 : List Int) (x1486 : Int) : Link impl_stepsToRoot_ctx LL (Code.seq (cq [0] (bodyOf Try.f30)) (cq [0,1] (bodyOf Try.f30))) (Ann.seq (aq [0] impl_stepsToRoot_an) (aq [0,1] impl_stepsToRoot_an)) ⟨mkE 18 0 [(0, dL x1485), (1, dI x1486)], []⟩ (impl_stepsToRoot_n1) (fun (t : Unit) => (Exit.normal, ⟨mkE 18 0 [(0, dL x1485), (6, .ptr 0 0)], [some (.box [dL x1485, dI x1486, dI 0])]⟩)) := .of fun K h => by
  simp only [impl_stepsToRoot_n1, wpW] at h
  exact .of (by kernel_rfl) h

theorem impl_stepsToRoot_n2_l (x1485 : List Int) (x1523 : Int) (x1524 : Int) : Link impl_stepsToRoot_ctx LL (cq [0,0,0,1,1] (bodyOf Try.f30)) (aq [0,0,0,1,1] impl_stepsToRoot_an) ⟨mkE 18 0 [(0, dL x1485), (6, .ptr 0 0)], [some (.box [dL x1485, dI x1523, dI x1524])]⟩ (impl_stepsToRoot_n2 x1485 x1523 x1524) (Sum.elim (fun (t : Int × Int) => (Exit.normal, ⟨mkE 18 0 [(0, dL x1485), (6, .ptr 0 0)], [some (.box [dL x1485, dI t.1, dI t.2])]⟩)) (Sum.elim (fun (t : Int × Bool) => (Exit.ret, ⟨mkE 18 0 [(4, dI t.1), (5, dB t.2)], []⟩)) (fun (t : Int × Int) => ((Exit.exit 0), ⟨mkE 18 0 [(6, .ptr 0 0)], [some (.box [dL x1485, dI t.1, dI t.2])]⟩)))) := .of fun K h => by
  simp only [impl_stepsToRoot_n2, wpW] at h
  exact .of (by kernel_rfl) h

def impl_stepsToRoot_n3_l (x1485 : List Int) (x1486 : Int) := (link_loop (mk := fun (s : Int × Int) => ⟨mkE 18 0 [(0, dL x1485), (6, .ptr 0 0)], [some (.box [dL x1485, dI s.1, dI s.2])]⟩) (fin := (Sum.elim (fun (t : Int × Bool) => (Exit.ret, ⟨mkE 18 0 [(4, dI t.1), (5, dB t.2)], []⟩)) (fun (t : Int × Int) => ((Exit.exit 0), ⟨mkE 18 0 [(6, .ptr 0 0)], [some (.box [dL x1485, dI t.1, dI t.2])]⟩)))) (by
  rintro (t | t) f K h
  · exact h
  · exact h) (fun s => link_map (impl_stepsToRoot_n2_l x1485 s.1 s.2) (Sum.elim (fun (t : Int × Int) => Sum.inl (t.1, t.2)) (Sum.elim (fun (t : Int × Bool) => Sum.inr (Sum.inl t)) (fun (t : Int × Int) => Sum.inr (Sum.inr t)))) (by
  rintro (t | t | t)
  · kernel_rfl
  · kernel_rfl
  · kernel_rfl)) (x1486, 0))

def impl_stepsToRoot_n4_l (x1485 : List Int) (x1486 : Int) := (link_block (fin2 := (Sum.elim (fun (t : Int × Int) => (Exit.normal, ⟨mkE 18 0 [(6, .ptr 0 0)], [some (.box [dL x1485, dI t.1, dI t.2])]⟩)) (fun (t : Int × Bool) => (Exit.ret, ⟨mkE 18 0 [(4, dI t.1), (5, dB t.2)], []⟩)))) (id := 0) (impl_stepsToRoot_n3_l x1485 x1486) (Sum.elim (fun (t : Int × Bool) => (Sum.inr t)) (fun (t : Int × Int) => (Sum.inl (t.1, t.2)))) (by
  rintro (t | t) K h
  · exact Eq.mp (by kernel_rfl) h
  · exact Eq.mp (by kernel_rfl) h))

theorem impl_stepsToRoot_n5_l (x1485 : List Int) (x1531 : Int) (x1532 : Int) : Link impl_stepsToRoot_ctx LL (cq [1,1,1] (bodyOf Try.f30)) (aq [1,1,1] impl_stepsToRoot_an) ⟨mkE 18 0 [(6, .ptr 0 0)], [some (.box [dL x1485, dI x1531, dI x1532])]⟩ (impl_stepsToRoot_n5 x1532) (fun (t : Int × Bool) => (Exit.ret, ⟨mkE 18 0 [(4, dI t.1), (5, dB t.2)], []⟩)) := .of fun K h => by
  simp only [impl_stepsToRoot_n5, wpW] at h
  exact .of (by kernel_rfl) h

def impl_stepsToRoot_n6_l (x1485 : List Int) (x1486 : Int) := (link_seq2 (impl_stepsToRoot_n4_l x1485 x1486) (fun (t : Int × Int) => (impl_stepsToRoot_n5_l x1485 t.1 t.2)) (fun (t : Int × Bool) => t) (by
  rintro t
  · kernel_rfl) (by
  rintro t f K h
  · exact h))

def impl_stepsToRoot_n7_l (x1485 : List Int) (x1486 : Int) := (link_group (c := (cq [0,1] (bodyOf Try.f30))) (a := (aq [0,1] impl_stepsToRoot_an)) [(cq [0] (bodyOf Try.f30))] [(aq [0] impl_stepsToRoot_an)] rfl (link_seq (impl_stepsToRoot_n1_l x1485 x1486) (fun (t : Unit) => (impl_stepsToRoot_n6_l x1485 x1486))))

theorem impl_stepsToRoot_e (x1485 : List Int) (x1486 : Int) {r : AV} {H' : Heap} (h : (Ans.mk _ (impl_stepsToRoot x1485 x1486) (fun (t : Int × Bool) => (.tup [dI t.1, dB t.2], [])) [] none).run = some (r, H')) : Awp impl_stepsToRoot_ctx LL (bodyOf Try.f30) impl_stepsToRoot_an ⟨mkE 18 0 [(0, dL x1485), (1, dI x1486)], []⟩ (Ret (tlook tys) Try.f30.results.toList r H') :=
  ret_of' (Link.cast (by kernel_rfl) (by kernel_rfl) (impl_stepsToRoot_n7_l x1485 x1486)) (by unfold impl_stepsToRoot; kernel_rfl) (by
  intro t
  exact ret_mk [dI t.1, dB t.2] (by kernel_rfl) (by kernel_rfl) (by kernel_rfl) (by kernel_rfl)) h

def F_impl_stepsToRoot : Fun := fun avs H =>
  match avs, H with
  | [.dat (.list (.int .i64)) x1485, .dat (.int .i64) x1486], [] => ⟨_, impl_stepsToRoot x1485 x1486, fun (t : Int × Bool) => (.tup [dI t.1, dB t.2], []), [], none⟩
  | _, _ => Ans.no

theorem impl_stepsToRoot_sound : Sound Try.prog 30 F_impl_stepsToRoot := by
  refine fn_sound' (C := impl_stepsToRoot_ctx) (c := bodyOf Try.f30) (cok_of tys_ok (allc impl_walker_up_sound alln) (allc Try.call44 alln) (by kernel_rfl)) Try.func30 (by kernel_rfl) LL impl_stepsToRoot_an ?_
  intro avs H r H' h
  unfold F_impl_stepsToRoot at h
  split at h
  · refine Awp.cast ?_ ?_ ?_ (impl_stepsToRoot_e _ _ h) <;> kernel_rfl
  · simp [Ans.no, Ans.run] at h


/-! loop.example/headtrees/impl.TreeOk -/

def impl_TreeOk_an : Ann := (.seq (.leaf [0]) (.seq (.seq (.leaf [0, 18]) (.cond (.seq (.leaf [2]) (.leaf [2])) (.leaf [0]))) (.seq (.seq (.leaf [0, 20, 21]) (.block (.loop (.seq (.leaf [0, 20, 21, 22]) (.seq (.cond (.leaf [0, 20, 21]) (.leaf [])) (.seq (.block (.seq (.leaf [0, 3, 20, 21]) (.seq (.leaf [0, 5, 20, 21]) (.seq (.leaf [0, 20, 21, 32]) (.cond (.seq (.leaf [2]) (.leaf [2])) (.leaf [0, 20, 21])))))) (.leaf [0, 20, 21]))))))) (.seq (.leaf [2]) (.leaf [2])))))

noncomputable def impl_TreeOk_ctx : Ctx := ⟨tlook tys, olook [(29, F_impl_oneRoot), (30, F_impl_stepsToRoot)], ioF, 0, false, []⟩

theorem impl_TreeOk_n1_l (x1426 : List Int) : Link impl_TreeOk_ctx LL (Code.seq (cq [0] (bodyOf Try.f12)) (cq [0,1] (bodyOf Try.f12))) (Ann.seq (aq [0] impl_TreeOk_an) (aq [0,1] impl_TreeOk_an)) ⟨mkE 34 0 [(0, dL x1426)], []⟩ (impl_TreeOk_n1 x1426) (Sum.elim (fun (t : Unit) => (Exit.normal, ⟨mkE 34 0 [(0, dL x1426)], []⟩)) (fun (t : Bool) => (Exit.ret, ⟨mkE 34 0 [(2, dB t)], []⟩))) := .of fun K h => by
  simp only [impl_TreeOk_n1, wpW] at h
  exact .of (by kernel_rfl) h

theorem impl_TreeOk_n2_l (x1426 : List Int) : Link impl_TreeOk_ctx LL (cq [0,0,1,1] (bodyOf Try.f12)) (aq [0,0,1,1] impl_TreeOk_an) ⟨mkE 34 0 [(0, dL x1426)], []⟩ (impl_TreeOk_n2 x1426) (fun (t : Int) => (Exit.normal, ⟨mkE 34 0 [(0, dL x1426), (20, dI t), (21, dI 0)], []⟩)) := .of fun K h => by
  simp only [impl_TreeOk_n2, wpW] at h
  exact .of (by kernel_rfl) h

theorem impl_TreeOk_n3_l (x1426 : List Int) (x1480 : Int) (x1548 : Int) : Link impl_TreeOk_ctx LL (cq [0,0,1,0,1,1] (bodyOf Try.f12)) (aq [0,0,1,0,1,1] impl_TreeOk_an) ⟨mkE 34 0 [(0, dL x1426), (20, dI x1480), (21, dI x1548)], []⟩ (impl_TreeOk_n3 x1426 x1480 x1548) (Sum.elim (fun (t : Int) => (Exit.normal, ⟨mkE 34 0 [(0, dL x1426), (20, dI x1480), (21, dI t)], []⟩)) (Sum.elim (fun (t : Bool) => (Exit.ret, ⟨mkE 34 0 [(2, dB t)], []⟩)) (fun (t : Unit) => ((Exit.exit 0), ⟨mkE 34 0 [], []⟩)))) := .of fun K h => by
  simp only [impl_TreeOk_n3, wpW] at h
  exact .of (by kernel_rfl) h

def impl_TreeOk_n4_l (x1426 : List Int) (x1480 : Int) := (link_loop (mk := fun (s : Int) => ⟨mkE 34 0 [(0, dL x1426), (20, dI x1480), (21, dI s)], []⟩) (fin := (Sum.elim (fun (t : Bool) => (Exit.ret, ⟨mkE 34 0 [(2, dB t)], []⟩)) (fun (t : Unit) => ((Exit.exit 0), ⟨mkE 34 0 [], []⟩)))) (by
  rintro (t | t) f K h
  · exact h
  · exact h) (fun s => link_map (impl_TreeOk_n3_l x1426 x1480 s) (Sum.elim (fun (t : Int) => Sum.inl t) (Sum.elim (fun (t : Bool) => Sum.inr (Sum.inl t)) (fun (t : Unit) => Sum.inr (Sum.inr t)))) (by
  rintro (t | t | t)
  · kernel_rfl
  · kernel_rfl
  · kernel_rfl)) 0)

def impl_TreeOk_n5_l (x1426 : List Int) (x1480 : Int) := (link_block (fin2 := (Sum.elim (fun (t : Unit) => (Exit.normal, ⟨mkE 34 0 [], []⟩)) (fun (t : Bool) => (Exit.ret, ⟨mkE 34 0 [(2, dB t)], []⟩)))) (id := 0) (impl_TreeOk_n4_l x1426 x1480) (Sum.elim (fun (t : Bool) => (Sum.inr t)) (fun (t : Unit) => (Sum.inl ()))) (by
  rintro (t | t) K h
  · exact Eq.mp (by kernel_rfl) h
  · exact Eq.mp (by kernel_rfl) h))

def impl_TreeOk_n6_l (x1426 : List Int) := (link_seq (impl_TreeOk_n2_l x1426) (fun (t : Int) => (impl_TreeOk_n5_l x1426 t)))

theorem impl_TreeOk_n7_l : Link impl_TreeOk_ctx LL (cq [1,1,1] (bodyOf Try.f12)) (aq [1,1,1] impl_TreeOk_an) ⟨mkE 34 0 [], []⟩ (impl_TreeOk_n7) (fun (t : Bool) => (Exit.ret, ⟨mkE 34 0 [(2, dB t)], []⟩)) := .of fun K h => by
  simp only [impl_TreeOk_n7, wpW] at h
  exact .of (by kernel_rfl) h

def impl_TreeOk_n8_l (x1426 : List Int) := (link_seq2 (impl_TreeOk_n6_l x1426) (fun (t : Unit) => (impl_TreeOk_n7_l)) (fun (t : Bool) => t) (by
  rintro t
  · kernel_rfl) (by
  rintro t f K h
  · exact h))

def impl_TreeOk_n9_l (x1426 : List Int) := (link_group (c := (cq [0,1] (bodyOf Try.f12))) (a := (aq [0,1] impl_TreeOk_an)) [(cq [0] (bodyOf Try.f12))] [(aq [0] impl_TreeOk_an)] rfl (link_seq2 (impl_TreeOk_n1_l x1426) (fun (t : Unit) => (impl_TreeOk_n8_l x1426)) (fun (t : Bool) => t) (by
  rintro t
  · kernel_rfl) (by
  rintro t f K h
  · exact h)))

theorem impl_TreeOk_e (x1426 : List Int) {r : AV} {H' : Heap} (h : (Ans.mk _ (impl_TreeOk x1426) (fun (t : Bool) => (dB t, [])) [] none).run = some (r, H')) : Awp impl_TreeOk_ctx LL (bodyOf Try.f12) impl_TreeOk_an ⟨mkE 34 0 [(0, dL x1426)], []⟩ (Ret (tlook tys) Try.f12.results.toList r H') :=
  ret_of' (Link.cast (by kernel_rfl) (by kernel_rfl) (impl_TreeOk_n9_l x1426)) (by unfold impl_TreeOk; kernel_rfl) (by
  intro t
  exact ret_mk [dB t] (by kernel_rfl) (by kernel_rfl) (by kernel_rfl) (by kernel_rfl)) h

def F_impl_TreeOk : Fun := fun avs H =>
  match avs, H with
  | [.dat (.list (.int .i64)) x1426], [] => ⟨_, impl_TreeOk x1426, fun (t : Bool) => (dB t, []), [], none⟩
  | _, _ => Ans.no

theorem impl_TreeOk_sound : Sound Try.prog 12 F_impl_TreeOk := by
  refine fn_sound' (C := impl_TreeOk_ctx) (c := bodyOf Try.f12) (cok_of tys_ok (allc impl_oneRoot_sound (allc impl_stepsToRoot_sound alln)) (allc Try.call29 (allc Try.call30 alln)) (by kernel_rfl)) Try.func12 (by kernel_rfl) LL impl_TreeOk_an ?_
  intro avs H r H' h
  unfold F_impl_TreeOk at h
  split at h
  · refine Awp.cast ?_ ?_ ?_ (impl_TreeOk_e _ h) <;> kernel_rfl
  · simp [Ans.no, Ans.run] at h


/-! loop.example/headtrees/impl.arcBetween -/

def impl_arcBetween_an : Ann := (.seq (.leaf [0, 1, 4]) (.seq (.seq (.leaf [0, 1, 4, 16]) (.cond (.seq (.leaf [4, 5]) (.leaf [4, 5])) (.leaf [0, 1, 4]))) (.seq (.leaf [4, 5]) (.leaf [4, 5]))))

noncomputable def impl_arcBetween_ctx : Ctx := ⟨tlook tys, olook [], ioF, 0, false, []⟩

theorem impl_arcBetween_n1_l (x1580 : Int) (x1581 : Int) : Link impl_arcBetween_ctx LL (bodyOf Try.f43) impl_arcBetween_an ⟨mkE 25 0 [(0, dI x1580), (1, dI x1581)], []⟩ (impl_arcBetween_n1 x1580 x1581) (fun (t : Bool × Int × Int) => (Exit.ret, ⟨mkE 25 0 [(4, .ptr 0 0), (5, dB t.1)], [some (.box [dI t.2.1, dI t.2.2])]⟩)) := .of fun K h => by
  simp only [impl_arcBetween_n1, wpW] at h
  exact .of (by kernel_rfl) h

theorem impl_arcBetween_e (x1580 : Int) (x1581 : Int) {r : AV} {H' : Heap} (h : (Ans.mk _ (impl_arcBetween x1580 x1581) (fun (t : Bool × Int × Int) => (.tup [.agg [dI t.2.1, dI t.2.2], dB t.1], [some (.box [dI t.2.1, dI t.2.2])])) [] none).run = some (r, H')) : Awp impl_arcBetween_ctx LL (bodyOf Try.f43) impl_arcBetween_an ⟨mkE 25 0 [(0, dI x1580), (1, dI x1581)], []⟩ (Ret (tlook tys) Try.f43.results.toList r H') :=
  ret_of' (impl_arcBetween_n1_l x1580 x1581) (by unfold impl_arcBetween; kernel_rfl) (by
  intro t
  exact ret_mk [.agg [dI t.2.1, dI t.2.2], dB t.1] (by kernel_rfl) (by kernel_rfl) (by kernel_rfl) (by kernel_rfl)) h

def F_impl_arcBetween : Fun := fun avs H =>
  match avs, H with
  | [.dat (.int .i64) x1580, .dat (.int .i64) x1581], [] => ⟨_, impl_arcBetween x1580 x1581, fun (t : Bool × Int × Int) => (.tup [.agg [dI t.2.1, dI t.2.2], dB t.1], [some (.box [dI t.2.1, dI t.2.2])]), [], none⟩
  | _, _ => Ans.no

theorem impl_arcBetween_sound : Sound Try.prog 43 F_impl_arcBetween := by
  refine fn_sound' (C := impl_arcBetween_ctx) (c := bodyOf Try.f43) (cok_of tys_ok (alln) (alln) (by kernel_rfl)) Try.func43 (by kernel_rfl) LL impl_arcBetween_an ?_
  intro avs H r H' h
  unfold F_impl_arcBetween at h
  split at h
  · refine Awp.cast ?_ ?_ ?_ (impl_arcBetween_e _ _ h) <;> kernel_rfl
  · simp [Ans.no, Ans.run] at h


/-! loop.example/headtrees/impl.arcsOf -/

def impl_arcsOf_an : Ann := (.seq (.leaf [0]) (.seq (.leaf [0, 3]) (.seq (.seq (.leaf [3, 11, 12, 13]) (.block (.loop (.seq (.leaf [3, 11, 12, 13, 14]) (.seq (.cond (.leaf [3, 11, 12, 13]) (.leaf [3])) (.seq (.block (.seq (.leaf [3, 4, 5, 11, 12, 13]) (.seq (.leaf [3, 6, 7, 11, 12, 13]) (.seq (.leaf [3, 6, 11, 12, 13, 25]) (.cond (.leaf [3, 11, 12, 13]) (.leaf [3, 11, 12, 13])))))) (.leaf [3, 11, 12, 13]))))))) (.seq (.leaf [2]) (.leaf [2])))))

noncomputable def impl_arcsOf_ctx : Ctx := ⟨tlook tys, olook [(43, F_impl_arcBetween)], ioF, 0, false, []⟩

theorem impl_arcsOf_n1_l (x1569 : List Int) : Link impl_arcsOf_ctx LL (Code.seq (cq [0] (bodyOf Try.f26)) (cq [0,1] (bodyOf Try.f26))) (Ann.seq (aq [0] impl_arcsOf_an) (aq [0,1] impl_arcsOf_an)) ⟨mkE 32 0 [(0, dL x1569)], []⟩ (impl_arcsOf_n1 x1569) (fun (t : (List (Int × Int × Unit))) => (Exit.normal, ⟨mkE 32 0 [(0, dL x1569), (3, .slc 0)], [some (.seq (.pair (.int .i64) (.pair (.int .i64) .unit)) t)]⟩)) := .of fun K h => by
  simp only [impl_arcsOf_n1, wpW] at h
  exact .of (by kernel_rfl) h

theorem impl_arcsOf_n2_l (x1569 : List Int) (x1573 : List (Int × Int × Unit)) : Link impl_arcsOf_ctx LL (cq [0,0,1,1] (bodyOf Try.f26)) (aq [0,0,1,1] impl_arcsOf_an) ⟨mkE 32 0 [(0, dL x1569), (3, .slc 0)], [some (.seq (.pair (.int .i64) (.pair (.int .i64) .unit)) x1573)]⟩ (impl_arcsOf_n2 x1569) (fun (t : Int) => (Exit.normal, ⟨mkE 32 0 [(3, .slc 0), (11, dL x1569), (12, dI t), (13, dI 0)], [some (.seq (.pair (.int .i64) (.pair (.int .i64) .unit)) x1573)]⟩)) := .of fun K h => by
  simp only [impl_arcsOf_n2, wpW] at h
  exact .of (by kernel_rfl) h

theorem impl_arcsOf_n3_l (x1569 : List Int) (x1574 : Int) (x1626 : Int) (x1627 : List (Int × Int × Unit)) : Link impl_arcsOf_ctx LL (cq [0,0,1,0,1,1] (bodyOf Try.f26)) (aq [0,0,1,0,1,1] impl_arcsOf_an) ⟨mkE 32 0 [(3, .slc 0), (11, dL x1569), (12, dI x1574), (13, dI x1626)], [some (.seq (.pair (.int .i64) (.pair (.int .i64) .unit)) x1627)]⟩ (impl_arcsOf_n3 x1569 x1574 x1626 x1627) (Sum.elim (fun (t : Int × (List (Int × Int × Unit))) => (Exit.normal, ⟨mkE 32 0 [(3, .slc 0), (11, dL x1569), (12, dI x1574), (13, dI t.1)], [some (.seq (.pair (.int .i64) (.pair (.int .i64) .unit)) t.2)]⟩)) (fun (t : (List (Int × Int × Unit))) => ((Exit.exit 0), ⟨mkE 32 0 [(3, .slc 0)], [some (.seq (.pair (.int .i64) (.pair (.int .i64) .unit)) t)]⟩))) := .of fun K h => by
  simp only [impl_arcsOf_n3, wpW] at h
  exact .of (by kernel_rfl) h

def impl_arcsOf_n4_l (x1569 : List Int) (x1574 : Int) (x1573 : List (Int × Int × Unit)) := (link_loop (mk := fun (s : Int × (List (Int × Int × Unit))) => ⟨mkE 32 0 [(3, .slc 0), (11, dL x1569), (12, dI x1574), (13, dI s.1)], [some (.seq (.pair (.int .i64) (.pair (.int .i64) .unit)) s.2)]⟩) (fin := (fun (t : (List (Int × Int × Unit))) => ((Exit.exit 0), ⟨mkE 32 0 [(3, .slc 0)], [some (.seq (.pair (.int .i64) (.pair (.int .i64) .unit)) t)]⟩))) (by
  rintro t f K h
  · exact h) (fun s => link_map (impl_arcsOf_n3_l x1569 x1574 s.1 s.2) (Sum.elim (fun (t : Int × (List (Int × Int × Unit))) => Sum.inl (t.1, t.2)) (fun (t : (List (Int × Int × Unit))) => Sum.inr t)) (by
  rintro (t | t)
  · kernel_rfl
  · kernel_rfl)) (0, x1573))

def impl_arcsOf_n5_l (x1569 : List Int) (x1574 : Int) (x1573 : List (Int × Int × Unit)) := (link_block (fin2 := (fun (t : (List (Int × Int × Unit))) => (Exit.normal, ⟨mkE 32 0 [(3, .slc 0)], [some (.seq (.pair (.int .i64) (.pair (.int .i64) .unit)) t)]⟩))) (id := 0) (impl_arcsOf_n4_l x1569 x1574 x1573) (fun (t : (List (Int × Int × Unit))) => t) (by
  rintro t K h
  · exact Eq.mp (by kernel_rfl) h))

def impl_arcsOf_n6_l (x1569 : List Int) (x1573 : List (Int × Int × Unit)) := (link_seq (impl_arcsOf_n2_l x1569 x1573) (fun (t : Int) => (impl_arcsOf_n5_l x1569 t x1573)))

theorem impl_arcsOf_n7_l (x1627 : List (Int × Int × Unit)) : Link impl_arcsOf_ctx LL (cq [1,1,1] (bodyOf Try.f26)) (aq [1,1,1] impl_arcsOf_an) ⟨mkE 32 0 [(3, .slc 0)], [some (.seq (.pair (.int .i64) (.pair (.int .i64) .unit)) x1627)]⟩ (impl_arcsOf_n7 x1627) (fun (t : (List (Int × Int × Unit))) => (Exit.ret, ⟨mkE 32 0 [(2, .slc 0)], [some (.seq (.pair (.int .i64) (.pair (.int .i64) .unit)) t)]⟩)) := .of fun K h => by
  simp only [impl_arcsOf_n7, wpW] at h
  exact .of (by kernel_rfl) h

def impl_arcsOf_n8_l (x1569 : List Int) (x1573 : List (Int × Int × Unit)) := (link_seq (impl_arcsOf_n6_l x1569 x1573) (fun (t : (List (Int × Int × Unit))) => (impl_arcsOf_n7_l t)))

def impl_arcsOf_n9_l (x1569 : List Int) := (link_group (c := (cq [0,1] (bodyOf Try.f26))) (a := (aq [0,1] impl_arcsOf_an)) [(cq [0] (bodyOf Try.f26))] [(aq [0] impl_arcsOf_an)] rfl (link_seq (impl_arcsOf_n1_l x1569) (fun (t : (List (Int × Int × Unit))) => (impl_arcsOf_n8_l x1569 t))))

theorem impl_arcsOf_e (x1569 : List Int) {r : AV} {H' : Heap} (h : (Ans.mk _ (impl_arcsOf x1569) (fun (t : (List (Int × Int × Unit))) => (.slc 0, [some (.seq (.pair (.int .i64) (.pair (.int .i64) .unit)) t)])) [] none).run = some (r, H')) : Awp impl_arcsOf_ctx LL (bodyOf Try.f26) impl_arcsOf_an ⟨mkE 32 0 [(0, dL x1569)], []⟩ (Ret (tlook tys) Try.f26.results.toList r H') :=
  ret_of' (Link.cast (by kernel_rfl) (by kernel_rfl) (impl_arcsOf_n9_l x1569)) (by unfold impl_arcsOf; kernel_rfl) (by
  intro t
  exact ret_mk [.slc 0] (by kernel_rfl) (by kernel_rfl) (by kernel_rfl) (by kernel_rfl)) h

def F_impl_arcsOf : Fun := fun avs H =>
  match avs, H with
  | [.dat (.list (.int .i64)) x1569], [] => ⟨_, impl_arcsOf x1569, fun (t : (List (Int × Int × Unit))) => (.slc 0, [some (.seq (.pair (.int .i64) (.pair (.int .i64) .unit)) t)]), [], none⟩
  | _, _ => Ans.no

theorem impl_arcsOf_sound : Sound Try.prog 26 F_impl_arcsOf := by
  refine fn_sound' (C := impl_arcsOf_ctx) (c := bodyOf Try.f26) (cok_of tys_ok (allc impl_arcBetween_sound alln) (allc Try.call43 alln) (by kernel_rfl)) Try.func26 (by kernel_rfl) LL impl_arcsOf_an ?_
  intro avs H r H' h
  unfold F_impl_arcsOf at h
  split at h
  · refine Awp.cast ?_ ?_ ?_ (impl_arcsOf_e _ h) <;> kernel_rfl
  · simp [Ans.no, Ans.run] at h


/-! (loop.example/headtrees/impl.arc).length -/

def impl_arc_length_an : Ann := (.seq (.leaf [1]) (.seq (.leaf [2]) (.leaf [2])))

noncomputable def impl_arc_length_ctx : Ctx := ⟨tlook tys, olook [], ioF, 0, false, []⟩

theorem impl_arc_length_n1_l (x1671 : Int) (x1672 : Int) : Link impl_arc_length_ctx LL (bodyOf Try.f27) impl_arc_length_an ⟨mkE 8 0 [(0, .agg [dI x1671, dI x1672])], []⟩ (impl_arc_length_n1 x1671 x1672) (fun (t : Int) => (Exit.ret, ⟨mkE 8 0 [(2, dI t)], []⟩)) := .of fun K h => by
  simp only [impl_arc_length_n1, wpW] at h
  exact .of (by kernel_rfl) h

theorem impl_arc_length_e (x1671 : Int) (x1672 : Int) {r : AV} {H' : Heap} (h : (Ans.mk _ (impl_arc_length x1671 x1672) (fun (t : Int) => (dI t, [])) [] none).run = some (r, H')) : Awp impl_arc_length_ctx LL (bodyOf Try.f27) impl_arc_length_an ⟨mkE 8 0 [(0, .agg [dI x1671, dI x1672])], []⟩ (Ret (tlook tys) Try.f27.results.toList r H') :=
  ret_of' (impl_arc_length_n1_l x1671 x1672) (by unfold impl_arc_length; kernel_rfl) (by
  intro t
  exact ret_mk [dI t] (by kernel_rfl) (by kernel_rfl) (by kernel_rfl) (by kernel_rfl)) h

def F_impl_arc_length : Fun := fun avs H =>
  match avs, H with
  | [.agg [.dat (.int .i64) x1671, .dat (.int .i64) x1672]], [] => ⟨_, impl_arc_length x1671 x1672, fun (t : Int) => (dI t, []), [], none⟩
  | _, _ => Ans.no

theorem impl_arc_length_sound : Sound Try.prog 27 F_impl_arc_length := by
  refine fn_sound' (C := impl_arc_length_ctx) (c := bodyOf Try.f27) (cok_of tys_ok (alln) (alln) (by kernel_rfl)) Try.func27 (by kernel_rfl) LL impl_arc_length_an ?_
  intro avs H r H' h
  unfold F_impl_arc_length at h
  split at h
  · refine Awp.cast ?_ ?_ ?_ (impl_arc_length_e _ _ h) <;> kernel_rfl
  · simp [Ans.no, Ans.run] at h


/-! loop.example/headtrees/laws.toIntS -/

def laws_toIntS_an : Ann := (.seq (.leaf [0]) (.seq (.leaf [0, 3]) (.seq (.seq (.leaf [0, 3, 4]) (.block (.loop (.seq (.seq (.leaf [0, 3, 4, 11]) (.cond (.leaf [0, 3, 4]) (.leaf [3]))) (.seq (.block (.leaf [0, 3, 4])) (.leaf [0, 3, 4])))))) (.seq (.leaf [2]) (.leaf [2])))))

noncomputable def laws_toIntS_ctx : Ctx := ⟨tlook tys, olook [], ioF, 0, false, []⟩

theorem laws_toIntS_n1_l (x2198 : List Int) : Link laws_toIntS_ctx LL (Code.seq (cq [0] (bodyOf Try.f15)) (cq [0,1] (bodyOf Try.f15))) (Ann.seq (aq [0] laws_toIntS_an) (aq [0,1] laws_toIntS_an)) ⟨mkE 22 0 [(0, dL x2198)], []⟩ (laws_toIntS_n1 x2198) (fun (t : (List Int)) => (Exit.normal, ⟨mkE 22 0 [(0, dL x2198), (3, .slc 0)], [some (sI t)]⟩)) := .of fun K h => by
  simp only [laws_toIntS_n1, wpW] at h
  exact .of (by kernel_rfl) h

theorem laws_toIntS_n2_l (x2198 : List Int) (x2201 : List Int) : Link laws_toIntS_ctx LL (cq [0,0,1,1] (bodyOf Try.f15)) (aq [0,0,1,1] laws_toIntS_an) ⟨mkE 22 0 [(0, dL x2198), (3, .slc 0)], [some (sI x2201)]⟩ (laws_toIntS_n2) (fun (t : Unit) => (Exit.normal, ⟨mkE 22 0 [(0, dL x2198), (3, .slc 0), (4, dI 0)], [some (sI x2201)]⟩)) := .of fun K h => by
  simp only [laws_toIntS_n2, wpW] at h
  exact .of (by kernel_rfl) h

theorem laws_toIntS_n3_l (x2198 : List Int) (x2215 : Int) (x2216 : List Int) : Link laws_toIntS_ctx LL (cq [0,0,1,0,1,1] (bodyOf Try.f15)) (aq [0,0,1,0,1,1] laws_toIntS_an) ⟨mkE 22 0 [(0, dL x2198), (3, .slc 0), (4, dI x2215)], [some (sI x2216)]⟩ (laws_toIntS_n3 x2198 x2215 x2216) (Sum.elim (fun (t : Int × (List Int)) => (Exit.normal, ⟨mkE 22 0 [(0, dL x2198), (3, .slc 0), (4, dI t.1)], [some (sI t.2)]⟩)) (fun (t : (List Int)) => ((Exit.exit 0), ⟨mkE 22 0 [(3, .slc 0)], [some (sI t)]⟩))) := .of fun K h => by
  simp only [laws_toIntS_n3, wpW] at h
  exact .of (by kernel_rfl) h

def laws_toIntS_n4_l (x2198 : List Int) (x2201 : List Int) := (link_loop (mk := fun (s : Int × (List Int)) => ⟨mkE 22 0 [(0, dL x2198), (3, .slc 0), (4, dI s.1)], [some (sI s.2)]⟩) (fin := (fun (t : (List Int)) => ((Exit.exit 0), ⟨mkE 22 0 [(3, .slc 0)], [some (sI t)]⟩))) (by
  rintro t f K h
  · exact h) (fun s => link_map (laws_toIntS_n3_l x2198 s.1 s.2) (Sum.elim (fun (t : Int × (List Int)) => Sum.inl (t.1, t.2)) (fun (t : (List Int)) => Sum.inr t)) (by
  rintro (t | t)
  · kernel_rfl
  · kernel_rfl)) (0, x2201))

def laws_toIntS_n5_l (x2198 : List Int) (x2201 : List Int) := (link_block (fin2 := (fun (t : (List Int)) => (Exit.normal, ⟨mkE 22 0 [(3, .slc 0)], [some (sI t)]⟩))) (id := 0) (laws_toIntS_n4_l x2198 x2201) (fun (t : (List Int)) => t) (by
  rintro t K h
  · exact Eq.mp (by kernel_rfl) h))

def laws_toIntS_n6_l (x2198 : List Int) (x2201 : List Int) := (link_seq (laws_toIntS_n2_l x2198 x2201) (fun (t : Unit) => (laws_toIntS_n5_l x2198 x2201)))

theorem laws_toIntS_n7_l (x2216 : List Int) : Link laws_toIntS_ctx LL (cq [1,1,1] (bodyOf Try.f15)) (aq [1,1,1] laws_toIntS_an) ⟨mkE 22 0 [(3, .slc 0)], [some (sI x2216)]⟩ (laws_toIntS_n7 x2216) (fun (t : (List Int)) => (Exit.ret, ⟨mkE 22 0 [(2, .slc 0)], [some (sI t)]⟩)) := .of fun K h => by
  simp only [laws_toIntS_n7, wpW] at h
  exact .of (by kernel_rfl) h

def laws_toIntS_n8_l (x2198 : List Int) (x2201 : List Int) := (link_seq (laws_toIntS_n6_l x2198 x2201) (fun (t : (List Int)) => (laws_toIntS_n7_l t)))

def laws_toIntS_n9_l (x2198 : List Int) := (link_group (c := (cq [0,1] (bodyOf Try.f15))) (a := (aq [0,1] laws_toIntS_an)) [(cq [0] (bodyOf Try.f15))] [(aq [0] laws_toIntS_an)] rfl (link_seq (laws_toIntS_n1_l x2198) (fun (t : (List Int)) => (laws_toIntS_n8_l x2198 t))))

theorem laws_toIntS_e (x2198 : List Int) {r : AV} {H' : Heap} (h : (Ans.mk _ (laws_toIntS x2198) (fun (t : (List Int)) => (.slc 0, [some (sI t)])) [] none).run = some (r, H')) : Awp laws_toIntS_ctx LL (bodyOf Try.f15) laws_toIntS_an ⟨mkE 22 0 [(0, dL x2198)], []⟩ (Ret (tlook tys) Try.f15.results.toList r H') :=
  ret_of' (Link.cast (by kernel_rfl) (by kernel_rfl) (laws_toIntS_n9_l x2198)) (by unfold laws_toIntS; kernel_rfl) (by
  intro t
  exact ret_mk [.slc 0] (by kernel_rfl) (by kernel_rfl) (by kernel_rfl) (by kernel_rfl)) h

def F_laws_toIntS : Fun := fun avs H =>
  match avs, H with
  | [.dat (.list (.int .i64)) x2198], [] => ⟨_, laws_toIntS x2198, fun (t : (List Int)) => (.slc 0, [some (sI t)]), [], none⟩
  | _, _ => Ans.no

theorem laws_toIntS_sound : Sound Try.prog 15 F_laws_toIntS := by
  refine fn_sound' (C := laws_toIntS_ctx) (c := bodyOf Try.f15) (cok_of tys_ok (alln) (alln) (by kernel_rfl)) Try.func15 (by kernel_rfl) LL laws_toIntS_an ?_
  intro avs H r H' h
  unfold F_laws_toIntS at h
  split at h
  · refine Awp.cast ?_ ?_ ?_ (laws_toIntS_e _ h) <;> kernel_rfl
  · simp [Ans.no, Ans.run] at h


/-! loop.example/headtrees/laws.eqIntS -/

def laws_eqIntS_an : Ann := (.seq (.leaf [0, 1]) (.seq (.seq (.leaf [0, 1, 10]) (.cond (.seq (.leaf [4]) (.leaf [4])) (.leaf [0, 1]))) (.seq (.seq (.leaf [0, 1, 5]) (.block (.loop (.seq (.seq (.leaf [0, 1, 5, 14]) (.cond (.leaf [0, 1, 5]) (.leaf []))) (.seq (.block (.seq (.draw [] [0, 1, 2, 3, 4, 5, 6, 7, 8] [] [0, 1, 5, 25]) (.cond (.seq (.leaf [4]) (.leaf [4])) (.leaf [0, 1, 5])))) (.leaf [0, 1, 5])))))) (.seq (.leaf [4]) (.leaf [4])))))

noncomputable def laws_eqIntS_ctx : Ctx := ⟨tlook tys, olook [], ioF, 0, false, []⟩

theorem laws_eqIntS_n1_l (x2258 : List Int) (x2259 : List Int) : Link laws_eqIntS_ctx LL (Code.seq (cq [0] (bodyOf Try.f16)) (cq [0,1] (bodyOf Try.f16))) (Ann.seq (aq [0] laws_eqIntS_an) (aq [0,1] laws_eqIntS_an)) ⟨mkE 26 0 [(0, dL x2258), (1, dL x2259)], []⟩ (laws_eqIntS_n1 x2258 x2259) (Sum.elim (fun (t : Unit) => (Exit.normal, ⟨mkE 26 0 [(0, dL x2258), (1, dL x2259)], []⟩)) (fun (t : Bool) => (Exit.ret, ⟨mkE 26 0 [(4, dB t)], []⟩))) := .of fun K h => by
  simp only [laws_eqIntS_n1, wpW] at h
  exact .of (by kernel_rfl) h

theorem laws_eqIntS_n2_l (x2258 : List Int) (x2259 : List Int) : Link laws_eqIntS_ctx LL (cq [0,0,1,1] (bodyOf Try.f16)) (aq [0,0,1,1] laws_eqIntS_an) ⟨mkE 26 0 [(0, dL x2258), (1, dL x2259)], []⟩ (laws_eqIntS_n2) (fun (t : Unit) => (Exit.normal, ⟨mkE 26 0 [(0, dL x2258), (1, dL x2259), (5, dI 0)], []⟩)) := .of fun K h => by
  simp only [laws_eqIntS_n2, wpW] at h
  exact .of (by kernel_rfl) h

theorem laws_eqIntS_n3_l (x2258 : List Int) (x2259 : List Int) (x2276 : Int) : Link laws_eqIntS_ctx LL (cq [0,0,1,0,1,1] (bodyOf Try.f16)) (aq [0,0,1,0,1,1] laws_eqIntS_an) ⟨mkE 26 0 [(0, dL x2258), (1, dL x2259), (5, dI x2276)], []⟩ (laws_eqIntS_n3 x2258 x2259 x2276) (Sum.elim (fun (t : Int) => (Exit.normal, ⟨mkE 26 0 [(0, dL x2258), (1, dL x2259), (5, dI t)], []⟩)) (Sum.elim (fun (t : Bool) => (Exit.ret, ⟨mkE 26 0 [(4, dB t)], []⟩)) (fun (t : Unit) => ((Exit.exit 0), ⟨mkE 26 0 [], []⟩)))) := .of fun K h => by
  simp only [laws_eqIntS_n3, wpW] at h
  exact .of (by kernel_rfl) h

def laws_eqIntS_n4_l (x2258 : List Int) (x2259 : List Int) := (link_loop (mk := fun (s : Int) => ⟨mkE 26 0 [(0, dL x2258), (1, dL x2259), (5, dI s)], []⟩) (fin := (Sum.elim (fun (t : Bool) => (Exit.ret, ⟨mkE 26 0 [(4, dB t)], []⟩)) (fun (t : Unit) => ((Exit.exit 0), ⟨mkE 26 0 [], []⟩)))) (by
  rintro (t | t) f K h
  · exact h
  · exact h) (fun s => link_map (laws_eqIntS_n3_l x2258 x2259 s) (Sum.elim (fun (t : Int) => Sum.inl t) (Sum.elim (fun (t : Bool) => Sum.inr (Sum.inl t)) (fun (t : Unit) => Sum.inr (Sum.inr t)))) (by
  rintro (t | t | t)
  · kernel_rfl
  · kernel_rfl
  · kernel_rfl)) 0)

def laws_eqIntS_n5_l (x2258 : List Int) (x2259 : List Int) := (link_block (fin2 := (Sum.elim (fun (t : Unit) => (Exit.normal, ⟨mkE 26 0 [], []⟩)) (fun (t : Bool) => (Exit.ret, ⟨mkE 26 0 [(4, dB t)], []⟩)))) (id := 0) (laws_eqIntS_n4_l x2258 x2259) (Sum.elim (fun (t : Bool) => (Sum.inr t)) (fun (t : Unit) => (Sum.inl ()))) (by
  rintro (t | t) K h
  · exact Eq.mp (by kernel_rfl) h
  · exact Eq.mp (by kernel_rfl) h))

def laws_eqIntS_n6_l (x2258 : List Int) (x2259 : List Int) := (link_seq (laws_eqIntS_n2_l x2258 x2259) (fun (t : Unit) => (laws_eqIntS_n5_l x2258 x2259)))

theorem laws_eqIntS_n7_l : Link laws_eqIntS_ctx LL (cq [1,1,1] (bodyOf Try.f16)) (aq [1,1,1] laws_eqIntS_an) ⟨mkE 26 0 [], []⟩ (laws_eqIntS_n7) (fun (t : Bool) => (Exit.ret, ⟨mkE 26 0 [(4, dB t)], []⟩)) := .of fun K h => by
  simp only [laws_eqIntS_n7, wpW] at h
  exact .of (by kernel_rfl) h

def laws_eqIntS_n8_l (x2258 : List Int) (x2259 : List Int) := (link_seq2 (laws_eqIntS_n6_l x2258 x2259) (fun (t : Unit) => (laws_eqIntS_n7_l)) (fun (t : Bool) => t) (by
  rintro t
  · kernel_rfl) (by
  rintro t f K h
  · exact h))

def laws_eqIntS_n9_l (x2258 : List Int) (x2259 : List Int) := (link_group (c := (cq [0,1] (bodyOf Try.f16))) (a := (aq [0,1] laws_eqIntS_an)) [(cq [0] (bodyOf Try.f16))] [(aq [0] laws_eqIntS_an)] rfl (link_seq2 (laws_eqIntS_n1_l x2258 x2259) (fun (t : Unit) => (laws_eqIntS_n8_l x2258 x2259)) (fun (t : Bool) => t) (by
  rintro t
  · kernel_rfl) (by
  rintro t f K h
  · exact h)))

theorem laws_eqIntS_e (x2258 : List Int) (x2259 : List Int) {r : AV} {H' : Heap} (h : (Ans.mk _ (laws_eqIntS x2258 x2259) (fun (t : Bool) => (dB t, [])) [] none).run = some (r, H')) : Awp laws_eqIntS_ctx LL (bodyOf Try.f16) laws_eqIntS_an ⟨mkE 26 0 [(0, dL x2258), (1, dL x2259)], []⟩ (Ret (tlook tys) Try.f16.results.toList r H') :=
  ret_of' (Link.cast (by kernel_rfl) (by kernel_rfl) (laws_eqIntS_n9_l x2258 x2259)) (by unfold laws_eqIntS; kernel_rfl) (by
  intro t
  exact ret_mk [dB t] (by kernel_rfl) (by kernel_rfl) (by kernel_rfl) (by kernel_rfl)) h

def F_laws_eqIntS : Fun := fun avs H =>
  match avs, H with
  | [.dat (.list (.int .i64)) x2258, .dat (.list (.int .i64)) x2259], [] => ⟨_, laws_eqIntS x2258 x2259, fun (t : Bool) => (dB t, []), [], none⟩
  | _, _ => Ans.no

theorem laws_eqIntS_sound : Sound Try.prog 16 F_laws_eqIntS := by
  refine fn_sound' (C := laws_eqIntS_ctx) (c := bodyOf Try.f16) (cok_of tys_ok (alln) (alln) (by kernel_rfl)) Try.func16 (by kernel_rfl) LL laws_eqIntS_an ?_
  intro avs H r H' h
  unfold F_laws_eqIntS at h
  split at h
  · refine Awp.cast ?_ ?_ ?_ (laws_eqIntS_e _ _ h) <;> kernel_rfl
  · simp [Ans.no, Ans.run] at h


/-! loop.example/headtrees/impl.LongestArc -/

def impl_LongestArc_an : Ann := (.seq (.leaf [0]) (.seq (.seq (.leaf [0, 8]) (.cond (.seq (.leaf [2]) (.leaf [2])) (.leaf [0]))) (.seq (.leaf [0, 3]) (.seq (.seq (.leaf [3, 10, 11, 12]) (.block (.loop (.seq (.leaf [3, 10, 11, 12, 13]) (.seq (.cond (.leaf [3, 10, 11, 12]) (.leaf [3])) (.seq (.block (.seq (.leaf [3, 5, 10, 11, 12]) (.leaf [3, 10, 11, 12]))) (.leaf [3, 10, 11, 12]))))))) (.seq (.leaf [2]) (.leaf [2]))))))

noncomputable def impl_LongestArc_ctx : Ctx := ⟨tlook tys, olook [(12, F_impl_TreeOk), (26, F_impl_arcsOf), (27, F_impl_arc_length)], ioF, 0, false, []⟩

theorem impl_LongestArc_n1_l (x2819 : List Int) : Link impl_LongestArc_ctx LL (Code.seq (cq [0] (bodyOf Try.f22)) (Code.seq (cq [0,1] (bodyOf Try.f22)) (cq [0,1,1] (bodyOf Try.f22)))) (Ann.seq (aq [0] impl_LongestArc_an) (Ann.seq (aq [0,1] impl_LongestArc_an) (aq [0,1,1] impl_LongestArc_an))) ⟨mkE 22 0 [(0, dL x2819)], []⟩ (impl_LongestArc_n1 x2819) (Sum.elim (fun (t : Unit) => (Exit.normal, ⟨mkE 22 0 [(0, dL x2819), (3, dI 0)], []⟩)) (fun (t : Int) => (Exit.ret, ⟨mkE 22 0 [(2, dI t)], []⟩))) := .of fun K h => by
  simp only [impl_LongestArc_n1, wpW] at h
  exact .of (by kernel_rfl) h

theorem impl_LongestArc_n2_l (x2819 : List Int) : Link impl_LongestArc_ctx LL (cq [0,0,1,1,1] (bodyOf Try.f22)) (aq [0,0,1,1,1] impl_LongestArc_an) ⟨mkE 22 0 [(0, dL x2819), (3, dI 0)], []⟩ (impl_LongestArc_n2 x2819) (fun (t : Int × (List (Int × Int × Unit))) => (Exit.normal, ⟨mkE 22 0 [(3, dI 0), (10, .slc 0), (11, dI t.1), (12, dI 0)], [some (.seq (.pair (.int .i64) (.pair (.int .i64) .unit)) t.2)]⟩)) := .of fun K h => by
  simp only [impl_LongestArc_n2, wpW] at h
  exact .of (by kernel_rfl) h

theorem impl_LongestArc_n3_l (x2847 : Int) (x2825 : Int) (x2848 : Int) (x2824 : List (Int × Int × Unit)) : Link impl_LongestArc_ctx LL (cq [0,0,1,0,1,1,1] (bodyOf Try.f22)) (aq [0,0,1,0,1,1,1] impl_LongestArc_an) ⟨mkE 22 0 [(3, dI x2847), (10, .slc 0), (11, dI x2825), (12, dI x2848)], [some (.seq (.pair (.int .i64) (.pair (.int .i64) .unit)) x2824)]⟩ (impl_LongestArc_n3 x2847 x2825 x2848 x2824) (Sum.elim (fun (t : Int × Int) => (Exit.normal, ⟨mkE 22 0 [(3, dI t.1), (10, .slc 0), (11, dI x2825), (12, dI t.2)], [some (.seq (.pair (.int .i64) (.pair (.int .i64) .unit)) x2824)]⟩)) (fun (t : Int) => ((Exit.exit 0), ⟨mkE 22 0 [(3, dI t)], []⟩))) := .of fun K h => by
  simp only [impl_LongestArc_n3, wpW] at h
  exact .of (by kernel_rfl) h

def impl_LongestArc_n4_l (x2825 : Int) (x2824 : List (Int × Int × Unit)) := (link_loop (mk := fun (s : Int × Int) => ⟨mkE 22 0 [(3, dI s.1), (10, .slc 0), (11, dI x2825), (12, dI s.2)], [some (.seq (.pair (.int .i64) (.pair (.int .i64) .unit)) x2824)]⟩) (fin := (fun (t : Int) => ((Exit.exit 0), ⟨mkE 22 0 [(3, dI t)], []⟩))) (by
  rintro t f K h
  · exact h) (fun s => link_map (impl_LongestArc_n3_l s.1 x2825 s.2 x2824) (Sum.elim (fun (t : Int × Int) => Sum.inl (t.1, t.2)) (fun (t : Int) => Sum.inr t)) (by
  rintro (t | t)
  · kernel_rfl
  · kernel_rfl)) (0, 0))

def impl_LongestArc_n5_l (x2825 : Int) (x2824 : List (Int × Int × Unit)) := (link_block (fin2 := (fun (t : Int) => (Exit.normal, ⟨mkE 22 0 [(3, dI t)], []⟩))) (id := 0) (impl_LongestArc_n4_l x2825 x2824) (fun (t : Int) => t) (by
  rintro t K h
  · exact Eq.mp (by kernel_rfl) h))

def impl_LongestArc_n6_l (x2819 : List Int) := (link_seq (impl_LongestArc_n2_l x2819) (fun (t : Int × (List (Int × Int × Unit))) => (impl_LongestArc_n5_l t.1 t.2)))

theorem impl_LongestArc_n7_l (x2847 : Int) : Link impl_LongestArc_ctx LL (cq [1,1,1,1] (bodyOf Try.f22)) (aq [1,1,1,1] impl_LongestArc_an) ⟨mkE 22 0 [(3, dI x2847)], []⟩ (impl_LongestArc_n7 x2847) (fun (t : Int) => (Exit.ret, ⟨mkE 22 0 [(2, dI t)], []⟩)) := .of fun K h => by
  simp only [impl_LongestArc_n7, wpW] at h
  exact .of (by kernel_rfl) h

def impl_LongestArc_n8_l (x2819 : List Int) := (link_seq (impl_LongestArc_n6_l x2819) (fun (t : Int) => (impl_LongestArc_n7_l t)))

def impl_LongestArc_n9_l (x2819 : List Int) := (link_group (c := (cq [0,1,1] (bodyOf Try.f22))) (a := (aq [0,1,1] impl_LongestArc_an)) [(cq [0] (bodyOf Try.f22)), (cq [0,1] (bodyOf Try.f22))] [(aq [0] impl_LongestArc_an), (aq [0,1] impl_LongestArc_an)] rfl (link_seq2 (impl_LongestArc_n1_l x2819) (fun (t : Unit) => (impl_LongestArc_n8_l x2819)) (fun (t : Int) => t) (by
  rintro t
  · kernel_rfl) (by
  rintro t f K h
  · exact h)))

theorem impl_LongestArc_e (x2819 : List Int) {r : AV} {H' : Heap} (h : (Ans.mk _ (impl_LongestArc x2819) (fun (t : Int) => (dI t, [])) [] none).run = some (r, H')) : Awp impl_LongestArc_ctx LL (bodyOf Try.f22) impl_LongestArc_an ⟨mkE 22 0 [(0, dL x2819)], []⟩ (Ret (tlook tys) Try.f22.results.toList r H') :=
  ret_of' (Link.cast (by kernel_rfl) (by kernel_rfl) (impl_LongestArc_n9_l x2819)) (by unfold impl_LongestArc; kernel_rfl) (by
  intro t
  exact ret_mk [dI t] (by kernel_rfl) (by kernel_rfl) (by kernel_rfl) (by kernel_rfl)) h

def F_impl_LongestArc : Fun := fun avs H =>
  match avs, H with
  | [.dat (.list (.int .i64)) x2819], [] => ⟨_, impl_LongestArc x2819, fun (t : Int) => (dI t, []), [], none⟩
  | _, _ => Ans.no

theorem impl_LongestArc_sound : Sound Try.prog 22 F_impl_LongestArc := by
  refine fn_sound' (C := impl_LongestArc_ctx) (c := bodyOf Try.f22) (cok_of tys_ok (allc impl_TreeOk_sound (allc impl_arcsOf_sound (allc impl_arc_length_sound alln))) (allc Try.call12 (allc Try.call26 (allc Try.call27 alln))) (by kernel_rfl)) Try.func22 (by kernel_rfl) LL impl_LongestArc_an ?_
  intro avs H r H' h
  unfold F_impl_LongestArc at h
  split at h
  · refine Awp.cast ?_ ?_ ?_ (impl_LongestArc_e _ h) <;> kernel_rfl
  · simp [Ans.no, Ans.run] at h


/-! loop.example/headtrees/spec.LongestArc -/

def spec_LongestArc_an : Ann := (.seq (.leaf [0]) (.seq (.seq (.leaf [0, 7]) (.cond (.seq (.leaf [2]) (.leaf [2])) (.leaf [0]))) (.seq (.leaf [0, 3]) (.seq (.seq (.leaf [0, 3, 4]) (.block (.loop (.seq (.seq (.leaf [0, 3, 4, 11]) (.cond (.leaf [0, 3, 4]) (.leaf [3]))) (.seq (.block (.seq (.leaf [0, 3, 4, 18]) (.cond (.draw [] [0, 1, 2, 3, 4, 5, 6, 7, 8, 9, 10, 11, 12, 13, 14, 15, 16] [] [0, 3, 4]) (.leaf [0, 3, 4])))) (.leaf [0, 3, 4])))))) (.seq (.leaf [2]) (.leaf [2]))))))

noncomputable def spec_LongestArc_ctx : Ctx := ⟨tlook tys, olook [(28, F_spec_TreeOk)], ioF, 0, false, []⟩

theorem spec_LongestArc_n1_l (x2876 : List Int) : Link spec_LongestArc_ctx LL (Code.seq (cq [0] (bodyOf Try.f23)) (Code.seq (cq [0,1] (bodyOf Try.f23)) (cq [0,1,1] (bodyOf Try.f23)))) (Ann.seq (aq [0] spec_LongestArc_an) (Ann.seq (aq [0,1] spec_LongestArc_an) (aq [0,1,1] spec_LongestArc_an))) ⟨mkE 36 0 [(0, dL x2876)], []⟩ (spec_LongestArc_n1 x2876) (Sum.elim (fun (t : Unit) => (Exit.normal, ⟨mkE 36 0 [(0, dL x2876), (3, dI 0)], []⟩)) (fun (t : Int) => (Exit.ret, ⟨mkE 36 0 [(2, dI t)], []⟩))) := .of fun K h => by
  simp only [spec_LongestArc_n1, wpW] at h
  exact .of (by kernel_rfl) h

theorem spec_LongestArc_n2_l (x2876 : List Int) : Link spec_LongestArc_ctx LL (cq [0,0,1,1,1] (bodyOf Try.f23)) (aq [0,0,1,1,1] spec_LongestArc_an) ⟨mkE 36 0 [(0, dL x2876), (3, dI 0)], []⟩ (spec_LongestArc_n2) (fun (t : Unit) => (Exit.normal, ⟨mkE 36 0 [(0, dL x2876), (3, dI 0), (4, dI 0)], []⟩)) := .of fun K h => by
  simp only [spec_LongestArc_n2, wpW] at h
  exact .of (by kernel_rfl) h

theorem spec_LongestArc_n3_l (x2876 : List Int) (x2911 : Int) (x2912 : Int) : Link spec_LongestArc_ctx LL (cq [0,0,1,0,1,1,1] (bodyOf Try.f23)) (aq [0,0,1,0,1,1,1] spec_LongestArc_an) ⟨mkE 36 0 [(0, dL x2876), (3, dI x2911), (4, dI x2912)], []⟩ (spec_LongestArc_n3 x2876 x2911 x2912) (Sum.elim (fun (t : Int × Int) => (Exit.normal, ⟨mkE 36 0 [(0, dL x2876), (3, dI t.1), (4, dI t.2)], []⟩)) (fun (t : Int) => ((Exit.exit 0), ⟨mkE 36 0 [(3, dI t)], []⟩))) := .of fun K h => by
  simp only [spec_LongestArc_n3, wpW] at h
  exact .of (by kernel_rfl) h

def spec_LongestArc_n4_l (x2876 : List Int) := (link_loop (mk := fun (s : Int × Int) => ⟨mkE 36 0 [(0, dL x2876), (3, dI s.1), (4, dI s.2)], []⟩) (fin := (fun (t : Int) => ((Exit.exit 0), ⟨mkE 36 0 [(3, dI t)], []⟩))) (by
  rintro t f K h
  · exact h) (fun s => link_map (spec_LongestArc_n3_l x2876 s.1 s.2) (Sum.elim (fun (t : Int × Int) => Sum.inl (t.1, t.2)) (fun (t : Int) => Sum.inr t)) (by
  rintro (t | t)
  · kernel_rfl
  · kernel_rfl)) (0, 0))

def spec_LongestArc_n5_l (x2876 : List Int) := (link_block (fin2 := (fun (t : Int) => (Exit.normal, ⟨mkE 36 0 [(3, dI t)], []⟩))) (id := 0) (spec_LongestArc_n4_l x2876) (fun (t : Int) => t) (by
  rintro t K h
  · exact Eq.mp (by kernel_rfl) h))

def spec_LongestArc_n6_l (x2876 : List Int) := (link_seq (spec_LongestArc_n2_l x2876) (fun (t : Unit) => (spec_LongestArc_n5_l x2876)))

theorem spec_LongestArc_n7_l (x2911 : Int) : Link spec_LongestArc_ctx LL (cq [1,1,1,1] (bodyOf Try.f23)) (aq [1,1,1,1] spec_LongestArc_an) ⟨mkE 36 0 [(3, dI x2911)], []⟩ (spec_LongestArc_n7 x2911) (fun (t : Int) => (Exit.ret, ⟨mkE 36 0 [(2, dI t)], []⟩)) := .of fun K h => by
  simp only [spec_LongestArc_n7, wpW] at h
  exact .of (by kernel_rfl) h

def spec_LongestArc_n8_l (x2876 : List Int) := (link_seq (spec_LongestArc_n6_l x2876) (fun (t : Int) => (spec_LongestArc_n7_l t)))

def spec_LongestArc_n9_l (x2876 : List Int) := (link_group (c := (cq [0,1,1] (bodyOf Try.f23))) (a := (aq [0,1,1] spec_LongestArc_an)) [(cq [0] (bodyOf Try.f23)), (cq [0,1] (bodyOf Try.f23))] [(aq [0] spec_LongestArc_an), (aq [0,1] spec_LongestArc_an)] rfl (link_seq2 (spec_LongestArc_n1_l x2876) (fun (t : Unit) => (spec_LongestArc_n8_l x2876)) (fun (t : Int) => t) (by
  rintro t
  · kernel_rfl) (by
  rintro t f K h
  · exact h)))

theorem spec_LongestArc_e (x2876 : List Int) {r : AV} {H' : Heap} (h : (Ans.mk _ (spec_LongestArc x2876) (fun (t : Int) => (dI t, [])) [] none).run = some (r, H')) : Awp spec_LongestArc_ctx LL (bodyOf Try.f23) spec_LongestArc_an ⟨mkE 36 0 [(0, dL x2876)], []⟩ (Ret (tlook tys) Try.f23.results.toList r H') :=
  ret_of' (Link.cast (by kernel_rfl) (by kernel_rfl) (spec_LongestArc_n9_l x2876)) (by unfold spec_LongestArc; kernel_rfl) (by
  intro t
  exact ret_mk [dI t] (by kernel_rfl) (by kernel_rfl) (by kernel_rfl) (by kernel_rfl)) h

def F_spec_LongestArc : Fun := fun avs H =>
  match avs, H with
  | [.dat (.list (.int .i64)) x2876], [] => ⟨_, spec_LongestArc x2876, fun (t : Int) => (dI t, []), [], none⟩
  | _, _ => Ans.no

theorem spec_LongestArc_sound : Sound Try.prog 23 F_spec_LongestArc := by
  refine fn_sound' (C := spec_LongestArc_ctx) (c := bodyOf Try.f23) (cok_of tys_ok (allc spec_TreeOk_sound alln) (allc Try.call28 alln) (by kernel_rfl)) Try.func23 (by kernel_rfl) LL spec_LongestArc_an ?_
  intro avs H r H' h
  unfold F_spec_LongestArc at h
  split at h
  · refine Awp.cast ?_ ?_ ?_ (spec_LongestArc_e _ h) <;> kernel_rfl
  · simp [Ans.no, Ans.run] at h


/-! loop.example/headtrees/laws.FnExactLongestArc -/

def laws_FnExactLongestArc_an : Ann := (.seq (.leaf [0]) (.seq (.seq (.leaf [0, 8]) (.cond (.seq (.leaf [2]) (.leaf [2])) (.leaf [0]))) (.seq (.leaf [0, 3]) (.seq (.leaf [0, 3, 4]) (.seq (.leaf [0, 3, 4, 5]) (.seq (.seq (.leaf [0, 4, 18]) (.cond (.seq (.leaf [2]) (.leaf [2])) (.leaf [0, 4]))) (.seq (.seq (.leaf [23]) (.cond (.seq (.leaf [2]) (.leaf [2])) (.leaf []))) (.seq (.leaf [2]) (.leaf [2])))))))))

noncomputable def laws_FnExactLongestArc_ctx : Ctx := ⟨tlook tys, olook [(15, F_laws_toIntS), (23, F_spec_LongestArc), (22, F_impl_LongestArc), (16, F_laws_eqIntS)], ioF, 0, false, []⟩

theorem laws_FnExactLongestArc_n1_l (x3001 : List Int) : Link laws_FnExactLongestArc_ctx LL (bodyOf Try.f8) laws_FnExactLongestArc_an ⟨mkE 24 0 [(0, dL x3001)], []⟩ (laws_FnExactLongestArc_n1 x3001) (fun (t : Bool) => (Exit.ret, ⟨mkE 24 0 [(2, dB t)], []⟩)) := .of fun K h => by
  simp only [laws_FnExactLongestArc_n1, wpW] at h
  exact .of (by kernel_rfl) h

theorem laws_FnExactLongestArc_e (x3001 : List Int) {r : AV} {H' : Heap} (h : (Ans.mk _ (laws_FnExactLongestArc x3001) (fun (t : Bool) => (dB t, [])) [] none).run = some (r, H')) : Awp laws_FnExactLongestArc_ctx LL (bodyOf Try.f8) laws_FnExactLongestArc_an ⟨mkE 24 0 [(0, dL x3001)], []⟩ (Ret (tlook tys) Try.f8.results.toList r H') :=
  ret_of' (laws_FnExactLongestArc_n1_l x3001) (by unfold laws_FnExactLongestArc; kernel_rfl) (by
  intro t
  exact ret_mk [dB t] (by kernel_rfl) (by kernel_rfl) (by kernel_rfl) (by kernel_rfl)) h

def F_laws_FnExactLongestArc : Fun := fun avs H =>
  match avs, H with
  | [.dat (.list (.int .i64)) x3001], [] => ⟨_, laws_FnExactLongestArc x3001, fun (t : Bool) => (dB t, []), [], none⟩
  | _, _ => Ans.no

theorem laws_FnExactLongestArc_sound : Sound Try.prog 8 F_laws_FnExactLongestArc := by
  refine fn_sound' (C := laws_FnExactLongestArc_ctx) (c := bodyOf Try.f8) (cok_of tys_ok (allc laws_toIntS_sound (allc spec_LongestArc_sound (allc impl_LongestArc_sound (allc laws_eqIntS_sound alln)))) (allc Try.call15 (allc Try.call23 (allc Try.call22 (allc Try.call16 alln)))) (by kernel_rfl)) Try.func8 (by kernel_rfl) LL laws_FnExactLongestArc_an ?_
  intro avs H r H' h
  unfold F_laws_FnExactLongestArc at h
  split at h
  · refine Awp.cast ?_ ?_ ?_ (laws_FnExactLongestArc_e _ h) <;> kernel_rfl
  · simp [Ans.no, Ans.run] at h

end Go.Rv
