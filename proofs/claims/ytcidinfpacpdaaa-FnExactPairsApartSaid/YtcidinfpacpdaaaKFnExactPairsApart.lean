/-
  The checked code answers as the plain functions do; written by program. Conditions: none.
-/
import Derived.Test.YtcidinfpacpdaaaGFnExactPairsApart
import Derived.Test.YtcidinfpacpdaaaProg
set_option linter.unusedVariables false
set_option linter.unusedSimpArgs false
set_option linter.defProp false
set_option maxRecDepth 100000
namespace Go.Rv
open Go.Proofs
theorem ty3 : TIOk Try.prog 3 ⟨.int .i64, 1, 8, some (.int .i64), [.int .i64 0], false⟩ := ⟨⟨infoOf (Try.prog.info? 3), by kernel_rfl, by kernel_rfl, by kernel_rfl, .int .i64 0, by kernel_rfl, by kernel_rfl⟩, (by kernel_rfl : Try.prog.underlying 3 = some (.int .i64)), no_eq⟩
theorem ty4 : TIOk Try.prog 4 ⟨.bool, 1, 1, some .bool, [.bool false], false⟩ := ⟨⟨infoOf (Try.prog.info? 4), by kernel_rfl, by kernel_rfl, by kernel_rfl, .bool false, by kernel_rfl, by kernel_rfl⟩, (by kernel_rfl : Try.prog.underlying 4 = some .bool), no_eq⟩
theorem ty5 : TIOk Try.prog 5 ⟨.int .u8, 1, 1, some (.int .u8), [.int .u8 0], false⟩ := ⟨⟨infoOf (Try.prog.info? 5), by kernel_rfl, by kernel_rfl, by kernel_rfl, .int .u8 0, by kernel_rfl, by kernel_rfl⟩, (by kernel_rfl : Try.prog.underlying 5 = some (.int .u8)), no_eq⟩
theorem ty22 : TIOk Try.prog 22 ⟨.slice 5, 1, 24, some (.list (.int .u8)), [.slice none 0 0], false⟩ := ⟨⟨infoOf (Try.prog.info? 22), by kernel_rfl, by kernel_rfl, by kernel_rfl, .slice none 0 0, by kernel_rfl, by kernel_rfl⟩, (by kernel_rfl : Try.prog.underlying 22 = some (.slice 5)), no_eq⟩
theorem ty23 : TIOk Try.prog 23 ⟨.slice 3, 1, 24, some (.list (.int .i64)), [.slice none 0 0], false⟩ := ⟨⟨infoOf (Try.prog.info? 23), by kernel_rfl, by kernel_rfl, by kernel_rfl, .slice none 0 0, by kernel_rfl, by kernel_rfl⟩, (by kernel_rfl : Try.prog.underlying 23 = some (.slice 3)), no_eq⟩
theorem ty40 : TIOk Try.prog 40 ⟨.arr 9 3, 9, 72, none, [.int .i64 0, .int .i64 0, .int .i64 0, .int .i64 0, .int .i64 0, .int .i64 0, .int .i64 0, .int .i64 0, .int .i64 0], false⟩ := ⟨⟨infoOf (Try.prog.info? 40), by kernel_rfl, by kernel_rfl, by kernel_rfl, .agg #[.int .i64 0, .int .i64 0, .int .i64 0, .int .i64 0, .int .i64 0, .int .i64 0, .int .i64 0, .int .i64 0, .int .i64 0], by kernel_rfl, by kernel_rfl⟩, (by kernel_rfl : Try.prog.underlying 40 = some (.array 9 3)), no_eq⟩
theorem ty42 : TIOk Try.prog 42 ⟨.slice 50, 1, 24, some (.list (.pair (.int .i64) (.pair (.int .i64) .unit))), [.slice none 0 0], false⟩ := ⟨⟨infoOf (Try.prog.info? 42), by kernel_rfl, by kernel_rfl, by kernel_rfl, .slice none 0 0, by kernel_rfl, by kernel_rfl⟩, (by kernel_rfl : Try.prog.underlying 42 = some (.slice 50)), no_eq⟩
theorem ty50 : TIOk Try.prog 50 ⟨.strct [(0, 3), (1, 3)], 2, 16, some (.pair (.int .i64) (.pair (.int .i64) .unit)), [.int .i64 0, .int .i64 0], false⟩ := ⟨⟨infoOf (Try.prog.info? 50), by kernel_rfl, by kernel_rfl, by kernel_rfl, .agg #[.int .i64 0, .int .i64 0], by kernel_rfl, by kernel_rfl⟩, ⟨fieldsOf (Try.prog.underlying 50), by kernel_rfl, by kernel_rfl⟩, no_eq⟩
theorem ty58 : TIOk Try.prog 58 ⟨.strct [(0, 42), (1, 23)], 2, 48, some (.pair (.list (.pair (.int .i64) (.pair (.int .i64) .unit))) (.pair (.list (.int .i64)) .unit)), [.slice none 0 0, .slice none 0 0], false⟩ := ⟨⟨infoOf (Try.prog.info? 58), by kernel_rfl, by kernel_rfl, by kernel_rfl, .agg #[.slice none 0 0, .slice none 0 0], by kernel_rfl, by kernel_rfl⟩, ⟨fieldsOf (Try.prog.underlying 58), by kernel_rfl, by kernel_rfl⟩, no_eq⟩
theorem ty60 : TIOk Try.prog 60 ⟨.slice 23, 1, 24, some (.list (.list (.int .i64))), [.slice none 0 0], false⟩ := ⟨⟨infoOf (Try.prog.info? 60), by kernel_rfl, by kernel_rfl, by kernel_rfl, .slice none 0 0, by kernel_rfl, by kernel_rfl⟩, (by kernel_rfl : Try.prog.underlying 60 = some (.slice 23)), no_eq⟩
theorem ty65 : TIOk Try.prog 65 ⟨.strct [(0, 22), (1, 3)], 2, 32, some (.pair (.list (.int .u8)) (.pair (.int .i64) .unit)), [.slice none 0 0, .int .i64 0], false⟩ := ⟨⟨infoOf (Try.prog.info? 65), by kernel_rfl, by kernel_rfl, by kernel_rfl, .agg #[.slice none 0 0, .int .i64 0], by kernel_rfl, by kernel_rfl⟩, ⟨fieldsOf (Try.prog.underlying 65), by kernel_rfl, by kernel_rfl⟩, no_eq⟩
theorem ty68 : TIOk Try.prog 68 ⟨.strct [(0, 23), (1, 3), (2, 3)], 3, 40, some (.pair (.list (.int .i64)) (.pair (.int .i64) (.pair (.int .i64) .unit))), [.slice none 0 0, .int .i64 0, .int .i64 0], false⟩ := ⟨⟨infoOf (Try.prog.info? 68), by kernel_rfl, by kernel_rfl, by kernel_rfl, .agg #[.slice none 0 0, .int .i64 0, .int .i64 0], by kernel_rfl, by kernel_rfl⟩, ⟨fieldsOf (Try.prog.underlying 68), by kernel_rfl, by kernel_rfl⟩, no_eq⟩
theorem ty70 : TIOk Try.prog 70 ⟨.arr 9 4, 9, 9, none, [.bool false, .bool false, .bool false, .bool false, .bool false, .bool false, .bool false, .bool false, .bool false], false⟩ := ⟨⟨infoOf (Try.prog.info? 70), by kernel_rfl, by kernel_rfl, by kernel_rfl, .agg #[.bool false, .bool false, .bool false, .bool false, .bool false, .bool false, .bool false, .bool false, .bool false], by kernel_rfl, by kernel_rfl⟩, (by kernel_rfl : Try.prog.underlying 70 = some (.array 9 4)), no_eq⟩
theorem ty75 : TIOk Try.prog 75 ⟨.int .u64, 1, 8, some (.int .u64), [.int .u64 0], false⟩ := ⟨⟨infoOf (Try.prog.info? 75), by kernel_rfl, by kernel_rfl, by kernel_rfl, .int .u64 0, by kernel_rfl, by kernel_rfl⟩, (by kernel_rfl : Try.prog.underlying 75 = some (.int .u64)), no_eq⟩
def tys : List (TypeId × TI) := [(3, ⟨.int .i64, 1, 8, some (.int .i64), [.int .i64 0], false⟩), (4, ⟨.bool, 1, 1, some .bool, [.bool false], false⟩), (5, ⟨.int .u8, 1, 1, some (.int .u8), [.int .u8 0], false⟩), (22, ⟨.slice 5, 1, 24, some (.list (.int .u8)), [.slice none 0 0], false⟩), (23, ⟨.slice 3, 1, 24, some (.list (.int .i64)), [.slice none 0 0], false⟩), (40, ⟨.arr 9 3, 9, 72, none, [.int .i64 0, .int .i64 0, .int .i64 0, .int .i64 0, .int .i64 0, .int .i64 0, .int .i64 0, .int .i64 0, .int .i64 0], false⟩), (42, ⟨.slice 50, 1, 24, some (.list (.pair (.int .i64) (.pair (.int .i64) .unit))), [.slice none 0 0], false⟩), (50, ⟨.strct [(0, 3), (1, 3)], 2, 16, some (.pair (.int .i64) (.pair (.int .i64) .unit)), [.int .i64 0, .int .i64 0], false⟩), (58, ⟨.strct [(0, 42), (1, 23)], 2, 48, some (.pair (.list (.pair (.int .i64) (.pair (.int .i64) .unit))) (.pair (.list (.int .i64)) .unit)), [.slice none 0 0, .slice none 0 0], false⟩), (60, ⟨.slice 23, 1, 24, some (.list (.list (.int .i64))), [.slice none 0 0], false⟩), (65, ⟨.strct [(0, 22), (1, 3)], 2, 32, some (.pair (.list (.int .u8)) (.pair (.int .i64) .unit)), [.slice none 0 0, .int .i64 0], false⟩), (68, ⟨.strct [(0, 23), (1, 3), (2, 3)], 3, 40, some (.pair (.list (.int .i64)) (.pair (.int .i64) (.pair (.int .i64) .unit))), [.slice none 0 0, .int .i64 0, .int .i64 0], false⟩), (70, ⟨.arr 9 4, 9, 9, none, [.bool false, .bool false, .bool false, .bool false, .bool false, .bool false, .bool false, .bool false, .bool false], false⟩), (75, ⟨.int .u64, 1, 8, some (.int .u64), [.int .u64 0], false⟩)]
theorem tys_ok : TOk Try.prog (tlook tys) := tok_of (allc ty3 (allc ty4 (allc ty5 (allc ty22 (allc ty23 (allc ty40 (allc ty42 (allc ty50 (allc ty58 (allc ty60 (allc ty65 (allc ty68 (allc ty70 (allc ty75 alln))))))))))))))
def ioF (f : FuncId) (i : Nat) : Bool := [(34, 0), (75, 1)].any fun (p : Nat × Nat) => Nat.beq p.1 f && Nat.beq p.2 i


/-! loop.example/headtrees/spec.l1In -/

def spec_l1In_an : Ann := (.seq (.leaf [0, 1, 2]) (.seq (.leaf [6]) (.leaf [6])))

noncomputable def spec_l1In_ctx : Ctx := ⟨tlook tys, olook [], ioF, 0, false, []⟩

theorem spec_l1In_n1_l (x780 : Int) (x781 : Int) (x782 : Int) : Link spec_l1In_ctx LL (bodyOf Try.f65) spec_l1In_an ⟨mkE 15 0 [(0, dI x780), (1, dI x781), (2, dI x782)], []⟩ (spec_l1In_n1 x780 x781 x782) (fun (t : Bool) => (Exit.ret, ⟨mkE 15 0 [(6, dB t)], []⟩)) := .of fun K h => by
  simp only [spec_l1In_n1, wpW] at h
  exact .of (by kernel_rfl) h

theorem spec_l1In_e (x780 : Int) (x781 : Int) (x782 : Int) {r : AV} {H' : Heap} (h : (Ans.mk _ (spec_l1In x780 x781 x782) (fun (t : Bool) => (dB t, [])) [] none).run = some (r, H')) : Awp spec_l1In_ctx LL (bodyOf Try.f65) spec_l1In_an ⟨mkE 15 0 [(0, dI x780), (1, dI x781), (2, dI x782)], []⟩ (Ret (tlook tys) Try.f65.results.toList r H') :=
  ret_of' (spec_l1In_n1_l x780 x781 x782) (by unfold spec_l1In; kernel_rfl) (by
  intro t
  exact ret_mk [dB t] (by kernel_rfl) (by kernel_rfl) (by kernel_rfl) (by kernel_rfl)) h

def F_spec_l1In : Fun := fun avs H =>
  match avs, H with
  | [.dat (.int .i64) x780, .dat (.int .i64) x781, .dat (.int .i64) x782], [] => ⟨_, spec_l1In x780 x781 x782, fun (t : Bool) => (dB t, []), [], none⟩
  | _, _ => Ans.no

theorem spec_l1In_sound : Sound Try.prog 65 F_spec_l1In := by
  refine fn_sound' (C := spec_l1In_ctx) (c := bodyOf Try.f65) (cok_of tys_ok (alln) (alln) (by kernel_rfl)) Try.func65 (by kernel_rfl) LL spec_l1In_an ?_
  intro avs H r H' h
  unfold F_spec_l1In at h
  split at h
  · refine Awp.cast ?_ ?_ ?_ (spec_l1In_e _ _ _ h) <;> kernel_rfl
  · simp [Ans.no, Ans.run] at h


/-! loop.example/headtrees/spec.TreeOk -/

def spec_TreeOk_an : Ann := (.seq (.leaf [0]) (.seq (.leaf [0, 3]) (.seq (.seq (.leaf [0, 3, 12]) (.cond (.seq (.leaf [2]) (.leaf [2])) (.leaf [0, 3]))) (.seq (.leaf [0, 3, 4]) (.seq (.seq (.leaf [0, 3, 4, 5]) (.block (.loop (.seq (.seq (.leaf [0, 3, 4, 5, 15]) (.cond (.leaf [0, 3, 4, 5]) (.leaf [4]))) (.seq (.block (.seq (.seq (.leaf [0, 3, 4, 5, 33]) (.cond (.seq (.leaf [2]) (.leaf [2])) (.leaf [0, 3, 4, 5]))) (.seq (.seq (.leaf [0, 3, 4, 5, 38]) (.cond (.leaf [0, 3, 4, 5]) (.leaf [0, 3, 4, 5]))) (.seq (.leaf [0, 3, 4, 5, 6]) (.seq (.seq (.leaf [0, 3, 4, 5, 6, 7]) (.block (.loop (.seq (.seq (.leaf [0, 3, 4, 5, 6, 7, 49]) (.cond (.leaf [0, 3, 4, 5, 6, 7]) (.leaf [0, 3, 4, 5, 6]))) (.seq (.block (.seq (.leaf [0, 3, 4, 5, 6, 7]) (.seq (.leaf [0, 3, 4, 5, 6, 7, 60]) (.cond (.seq (.leaf [2]) (.leaf [2])) (.leaf [0, 3, 4, 5, 6, 7]))))) (.leaf [0, 3, 4, 5, 6, 7])))))) (.seq (.leaf [0, 3, 4, 5, 62]) (.cond (.seq (.leaf [2]) (.leaf [2])) (.leaf [0, 3, 4, 5])))))))) (.leaf [0, 3, 4, 5])))))) (.seq (.leaf [2]) (.leaf [2])))))))

noncomputable def spec_TreeOk_ctx : Ctx := ⟨tlook tys, olook [(65, F_spec_l1In)], ioF, 0, false, []⟩

theorem spec_TreeOk_n1_l (x776 : List Int) : Link spec_TreeOk_ctx LL (Code.seq (cq [0] (bodyOf Try.f42)) (Code.seq (cq [0,1] (bodyOf Try.f42)) (Code.seq (cq [0,1,1] (bodyOf Try.f42)) (cq [0,1,1,1] (bodyOf Try.f42))))) (Ann.seq (aq [0] spec_TreeOk_an) (Ann.seq (aq [0,1] spec_TreeOk_an) (Ann.seq (aq [0,1,1] spec_TreeOk_an) (aq [0,1,1,1] spec_TreeOk_an)))) ⟨mkE 65 0 [(0, dL x776)], []⟩ (spec_TreeOk_n1 x776) (Sum.elim (fun (t : Int) => (Exit.normal, ⟨mkE 65 0 [(0, dL x776), (3, dI t), (4, dI 0)], []⟩)) (fun (t : Bool) => (Exit.ret, ⟨mkE 65 0 [(2, dB t)], []⟩))) := .of fun K h => by
  simp only [spec_TreeOk_n1, wpW] at h
  exact .of (by kernel_rfl) h

theorem spec_TreeOk_n2_l (x776 : List Int) (x790 : Int) : Link spec_TreeOk_ctx LL (cq [0,0,1,1,1,1] (bodyOf Try.f42)) (aq [0,0,1,1,1,1] spec_TreeOk_an) ⟨mkE 65 0 [(0, dL x776), (3, dI x790), (4, dI 0)], []⟩ (spec_TreeOk_n2) (fun (t : Unit) => (Exit.normal, ⟨mkE 65 0 [(0, dL x776), (3, dI x790), (4, dI 0), (5, dI 0)], []⟩)) := .of fun K h => by
  simp only [spec_TreeOk_n2, wpW] at h
  exact .of (by kernel_rfl) h

theorem spec_TreeOk_n3_l (x776 : List Int) (x790 : Int) (x857 : Int) (x858 : Int) : Link spec_TreeOk_ctx LL (cq [0,0,0,1,0,1,1,1,1] (bodyOf Try.f42)) (aq [0,0,0,1,0,1,1,1,1] spec_TreeOk_an) ⟨mkE 65 0 [(0, dL x776), (3, dI x790), (4, dI x857), (5, dI x858)], []⟩ (spec_TreeOk_n3 x790 x857 x858) (Sum.elim (fun (t : Unit) => (Exit.normal, ⟨mkE 65 0 [(0, dL x776), (3, dI x790), (4, dI x857), (5, dI x858)], []⟩)) (fun (t : Int) => ((Exit.exit 0), ⟨mkE 65 0 [(4, dI t)], []⟩))) := .of fun K h => by
  simp only [spec_TreeOk_n3, wpW] at h
  exact .of (by kernel_rfl) h

theorem spec_TreeOk_n4_l (x776 : List Int) (x790 : Int) (x857 : Int) (x858 : Int) : Link spec_TreeOk_ctx LL (Code.seq (cq [0,0,0,1,0,0,1,0,1,1,1,1] (bodyOf Try.f42)) (Code.seq (cq [0,1,0,0,1,0,0,1,0,1,1,1,1] (bodyOf Try.f42)) (cq [0,1,1,0,0,1,0,0,1,0,1,1,1,1] (bodyOf Try.f42)))) (Ann.seq (aq [0,0,0,1,0,0,1,0,1,1,1,1] spec_TreeOk_an) (Ann.seq (aq [0,1,0,0,1,0,0,1,0,1,1,1,1] spec_TreeOk_an) (aq [0,1,1,0,0,1,0,0,1,0,1,1,1,1] spec_TreeOk_an))) ⟨mkE 65 0 [(0, dL x776), (3, dI x790), (4, dI x857), (5, dI x858)], []⟩ (spec_TreeOk_n4 x776 x790 x857 x858) (Sum.elim (fun (t : Int × Int) => (Exit.normal, ⟨mkE 65 0 [(0, dL x776), (3, dI x790), (4, dI t.1), (5, dI x858), (6, dI t.2)], []⟩)) (fun (t : Bool) => (Exit.ret, ⟨mkE 65 0 [(2, dB t)], []⟩))) := .of fun K h => by
  simp only [spec_TreeOk_n4, wpW] at h
  exact .of (by kernel_rfl) h

theorem spec_TreeOk_n5_l (x776 : List Int) (x790 : Int) (x886 : Int) (x858 : Int) (x887 : Int) : Link spec_TreeOk_ctx LL (cq [0,0,1,1,1,0,0,1,0,0,1,0,1,1,1,1] (bodyOf Try.f42)) (aq [0,0,1,1,1,0,0,1,0,0,1,0,1,1,1,1] spec_TreeOk_an) ⟨mkE 65 0 [(0, dL x776), (3, dI x790), (4, dI x886), (5, dI x858), (6, dI x887)], []⟩ (spec_TreeOk_n5) (fun (t : Unit) => (Exit.normal, ⟨mkE 65 0 [(0, dL x776), (3, dI x790), (4, dI x886), (5, dI x858), (6, dI x887), (7, dI 0)], []⟩)) := .of fun K h => by
  simp only [spec_TreeOk_n5, wpW] at h
  exact .of (by kernel_rfl) h

theorem spec_TreeOk_n6_l (x776 : List Int) (x790 : Int) (x886 : Int) (x858 : Int) (x903 : Int) (x904 : Int) : Link spec_TreeOk_ctx LL (cq [0,0,1,0,1,1,1,0,0,1,0,0,1,0,1,1,1,1] (bodyOf Try.f42)) (aq [0,0,1,0,1,1,1,0,0,1,0,0,1,0,1,1,1,1] spec_TreeOk_an) ⟨mkE 65 0 [(0, dL x776), (3, dI x790), (4, dI x886), (5, dI x858), (6, dI x903), (7, dI x904)], []⟩ (spec_TreeOk_n6 x776 x790 x903 x904) (Sum.elim (fun (t : Int × Int) => (Exit.normal, ⟨mkE 65 0 [(0, dL x776), (3, dI x790), (4, dI x886), (5, dI x858), (6, dI t.1), (7, dI t.2)], []⟩)) (Sum.elim (fun (t : Bool) => (Exit.ret, ⟨mkE 65 0 [(2, dB t)], []⟩)) (fun (t : Int) => ((Exit.exit 2), ⟨mkE 65 0 [(0, dL x776), (3, dI x790), (4, dI x886), (5, dI x858), (6, dI t)], []⟩)))) := .of fun K h => by
  simp only [spec_TreeOk_n6, wpW] at h
  exact .of (by kernel_rfl) h

def spec_TreeOk_n7_l (x776 : List Int) (x790 : Int) (x886 : Int) (x858 : Int) (x887 : Int) := (link_loop (mk := fun (s : Int × Int) => ⟨mkE 65 0 [(0, dL x776), (3, dI x790), (4, dI x886), (5, dI x858), (6, dI s.1), (7, dI s.2)], []⟩) (fin := (Sum.elim (fun (t : Bool) => (Exit.ret, ⟨mkE 65 0 [(2, dB t)], []⟩)) (fun (t : Int) => ((Exit.exit 2), ⟨mkE 65 0 [(0, dL x776), (3, dI x790), (4, dI x886), (5, dI x858), (6, dI t)], []⟩)))) (by
  rintro (t | t) f K h
  · exact h
  · exact h) (fun s => link_map (spec_TreeOk_n6_l x776 x790 x886 x858 s.1 s.2) (Sum.elim (fun (t : Int × Int) => Sum.inl (t.1, t.2)) (Sum.elim (fun (t : Bool) => Sum.inr (Sum.inl t)) (fun (t : Int) => Sum.inr (Sum.inr t)))) (by
  rintro (t | t | t)
  · kernel_rfl
  · kernel_rfl
  · kernel_rfl)) (x887, 0))

def spec_TreeOk_n8_l (x776 : List Int) (x790 : Int) (x886 : Int) (x858 : Int) (x887 : Int) := (link_block (fin2 := (Sum.elim (fun (t : Int) => (Exit.normal, ⟨mkE 65 0 [(0, dL x776), (3, dI x790), (4, dI x886), (5, dI x858), (6, dI t)], []⟩)) (fun (t : Bool) => (Exit.ret, ⟨mkE 65 0 [(2, dB t)], []⟩)))) (id := 2) (spec_TreeOk_n7_l x776 x790 x886 x858 x887) (Sum.elim (fun (t : Bool) => (Sum.inr t)) (fun (t : Int) => (Sum.inl t))) (by
  rintro (t | t) K h
  · exact Eq.mp (by kernel_rfl) h
  · exact Eq.mp (by kernel_rfl) h))

def spec_TreeOk_n9_l (x776 : List Int) (x790 : Int) (x886 : Int) (x858 : Int) (x887 : Int) := (link_seq (spec_TreeOk_n5_l x776 x790 x886 x858 x887) (fun (t : Unit) => (spec_TreeOk_n8_l x776 x790 x886 x858 x887)))

theorem spec_TreeOk_n10_l (x776 : List Int) (x790 : Int) (x886 : Int) (x858 : Int) (x903 : Int) : Link spec_TreeOk_ctx LL (cq [1,1,1,1,0,0,1,0,0,1,0,1,1,1,1] (bodyOf Try.f42)) (aq [1,1,1,1,0,0,1,0,0,1,0,1,1,1,1] spec_TreeOk_an) ⟨mkE 65 0 [(0, dL x776), (3, dI x790), (4, dI x886), (5, dI x858), (6, dI x903)], []⟩ (spec_TreeOk_n10 x903) (Sum.elim (fun (t : Unit) => (Exit.normal, ⟨mkE 65 0 [(0, dL x776), (3, dI x790), (4, dI x886), (5, dI x858)], []⟩)) (fun (t : Bool) => (Exit.ret, ⟨mkE 65 0 [(2, dB t)], []⟩))) := .of fun K h => by
  simp only [spec_TreeOk_n10, wpW] at h
  exact .of (by kernel_rfl) h

def spec_TreeOk_n11_l (x776 : List Int) (x790 : Int) (x886 : Int) (x858 : Int) (x887 : Int) := (link_seq2 (spec_TreeOk_n9_l x776 x790 x886 x858 x887) (fun (t : Int) => (spec_TreeOk_n10_l x776 x790 x886 x858 t)) (fun (t : Bool) => (Sum.inr t)) (by
  rintro t
  · kernel_rfl) (by
  rintro t f K h
  · exact h))

def spec_TreeOk_n12_l (x776 : List Int) (x790 : Int) (x857 : Int) (x858 : Int) := (link_group (c := (cq [0,1,1,0,0,1,0,0,1,0,1,1,1,1] (bodyOf Try.f42))) (a := (aq [0,1,1,0,0,1,0,0,1,0,1,1,1,1] spec_TreeOk_an)) [(cq [0,0,0,1,0,0,1,0,1,1,1,1] (bodyOf Try.f42)), (cq [0,1,0,0,1,0,0,1,0,1,1,1,1] (bodyOf Try.f42))] [(aq [0,0,0,1,0,0,1,0,1,1,1,1] spec_TreeOk_an), (aq [0,1,0,0,1,0,0,1,0,1,1,1,1] spec_TreeOk_an)] rfl (link_seq2 (spec_TreeOk_n4_l x776 x790 x857 x858) (fun (t : Int × Int) => (link_map (fin2 := (Sum.elim (fun (t : Int) => (Exit.normal, ⟨mkE 65 0 [(0, dL x776), (3, dI x790), (4, dI t), (5, dI x858)], []⟩)) (fun (t : Bool) => (Exit.ret, ⟨mkE 65 0 [(2, dB t)], []⟩)))) (spec_TreeOk_n11_l x776 x790 t.1 x858 t.2) (Sum.elim (fun (u : Unit) => (Sum.inl t.1)) (fun (u : Bool) => (Sum.inr u))) (by
  rintro (t | t)
  · kernel_rfl
  · kernel_rfl))) (fun (t : Bool) => (Sum.inr t)) (by
  rintro t
  · kernel_rfl) (by
  rintro t f K h
  · exact h)))

def spec_TreeOk_n13_l (x776 : List Int) (x790 : Int) (x857 : Int) (x858 : Int) := (link_block (fin2 := (Sum.elim (fun (t : Int) => (Exit.normal, ⟨mkE 65 0 [(0, dL x776), (3, dI x790), (4, dI t), (5, dI x858)], []⟩)) (fun (t : Bool) => (Exit.ret, ⟨mkE 65 0 [(2, dB t)], []⟩)))) (id := 1) (spec_TreeOk_n12_l x776 x790 x857 x858) (Sum.elim (fun (t : Int) => (Sum.inl t)) (fun (t : Bool) => (Sum.inr t))) (by
  rintro (t | t) K h
  · exact Eq.mp (by kernel_rfl) h
  · exact Eq.mp (by kernel_rfl) h))

theorem spec_TreeOk_n14_l (x776 : List Int) (x790 : Int) (x886 : Int) (x858 : Int) : Link spec_TreeOk_ctx LL (cq [1,1,0,0,1,0,1,1,1,1] (bodyOf Try.f42)) (aq [1,1,0,0,1,0,1,1,1,1] spec_TreeOk_an) ⟨mkE 65 0 [(0, dL x776), (3, dI x790), (4, dI x886), (5, dI x858)], []⟩ (spec_TreeOk_n14 x858) (fun (t : Int) => (Exit.normal, ⟨mkE 65 0 [(0, dL x776), (3, dI x790), (4, dI x886), (5, dI t)], []⟩)) := .of fun K h => by
  simp only [spec_TreeOk_n14, wpW] at h
  exact .of (by kernel_rfl) h

def spec_TreeOk_n15_l (x776 : List Int) (x790 : Int) (x857 : Int) (x858 : Int) := (link_seq2 (spec_TreeOk_n13_l x776 x790 x857 x858) (fun (t : Int) => (link_map (fin2 := (Sum.elim (fun (t : Int × Int) => (Exit.normal, ⟨mkE 65 0 [(0, dL x776), (3, dI x790), (4, dI t.1), (5, dI t.2)], []⟩)) (fun (t : Bool) => (Exit.ret, ⟨mkE 65 0 [(2, dB t)], []⟩)))) (spec_TreeOk_n14_l x776 x790 t x858) (fun (u : Int) => (Sum.inl (t, u))) (by
  rintro t
  · kernel_rfl))) (fun (t : Bool) => (Sum.inr t)) (by
  rintro t
  · kernel_rfl) (by
  rintro t f K h
  · exact h))

def spec_TreeOk_n16_l (x776 : List Int) (x790 : Int) (x857 : Int) (x858 : Int) := (link_seq2 (spec_TreeOk_n3_l x776 x790 x857 x858) (fun (t : Unit) => (link_map (fin2 := (Sum.elim (fun (t : Int × Int) => (Exit.normal, ⟨mkE 65 0 [(0, dL x776), (3, dI x790), (4, dI t.1), (5, dI t.2)], []⟩)) (Sum.elim (fun (t : Bool) => (Exit.ret, ⟨mkE 65 0 [(2, dB t)], []⟩)) (fun (t : Int) => ((Exit.exit 0), ⟨mkE 65 0 [(4, dI t)], []⟩))))) (spec_TreeOk_n15_l x776 x790 x857 x858) (Sum.elim (fun (t : Int × Int) => (Sum.inl (t.1, t.2))) (fun (t : Bool) => (Sum.inr (Sum.inl t)))) (by
  rintro (t | t)
  · kernel_rfl
  · kernel_rfl))) (fun (t : Int) => (Sum.inr (Sum.inr t))) (by
  rintro t
  · kernel_rfl) (by
  rintro t f K h
  · exact h))

def spec_TreeOk_n17_l (x776 : List Int) (x790 : Int) := (link_loop (mk := fun (s : Int × Int) => ⟨mkE 65 0 [(0, dL x776), (3, dI x790), (4, dI s.1), (5, dI s.2)], []⟩) (fin := (Sum.elim (fun (t : Bool) => (Exit.ret, ⟨mkE 65 0 [(2, dB t)], []⟩)) (fun (t : Int) => ((Exit.exit 0), ⟨mkE 65 0 [(4, dI t)], []⟩)))) (by
  rintro (t | t) f K h
  · exact h
  · exact h) (fun s => link_map (spec_TreeOk_n16_l x776 x790 s.1 s.2) (Sum.elim (fun (t : Int × Int) => Sum.inl (t.1, t.2)) (Sum.elim (fun (t : Bool) => Sum.inr (Sum.inl t)) (fun (t : Int) => Sum.inr (Sum.inr t)))) (by
  rintro (t | t | t)
  · kernel_rfl
  · kernel_rfl
  · kernel_rfl)) (0, 0))

def spec_TreeOk_n18_l (x776 : List Int) (x790 : Int) := (link_block (fin2 := (Sum.elim (fun (t : Int) => (Exit.normal, ⟨mkE 65 0 [(4, dI t)], []⟩)) (fun (t : Bool) => (Exit.ret, ⟨mkE 65 0 [(2, dB t)], []⟩)))) (id := 0) (spec_TreeOk_n17_l x776 x790) (Sum.elim (fun (t : Bool) => (Sum.inr t)) (fun (t : Int) => (Sum.inl t))) (by
  rintro (t | t) K h
  · exact Eq.mp (by kernel_rfl) h
  · exact Eq.mp (by kernel_rfl) h))

def spec_TreeOk_n19_l (x776 : List Int) (x790 : Int) := (link_seq (spec_TreeOk_n2_l x776 x790) (fun (t : Unit) => (spec_TreeOk_n18_l x776 x790)))

theorem spec_TreeOk_n20_l (x857 : Int) : Link spec_TreeOk_ctx LL (cq [1,1,1,1,1] (bodyOf Try.f42)) (aq [1,1,1,1,1] spec_TreeOk_an) ⟨mkE 65 0 [(4, dI x857)], []⟩ (spec_TreeOk_n20 x857) (fun (t : Bool) => (Exit.ret, ⟨mkE 65 0 [(2, dB t)], []⟩)) := .of fun K h => by
  simp only [spec_TreeOk_n20, wpW] at h
  exact .of (by kernel_rfl) h

def spec_TreeOk_n21_l (x776 : List Int) (x790 : Int) := (link_seq2 (spec_TreeOk_n19_l x776 x790) (fun (t : Int) => (spec_TreeOk_n20_l t)) (fun (t : Bool) => t) (by
  rintro t
  · kernel_rfl) (by
  rintro t f K h
  · exact h))

def spec_TreeOk_n22_l (x776 : List Int) := (link_group (c := (cq [0,1,1,1] (bodyOf Try.f42))) (a := (aq [0,1,1,1] spec_TreeOk_an)) [(cq [0] (bodyOf Try.f42)), (cq [0,1] (bodyOf Try.f42)), (cq [0,1,1] (bodyOf Try.f42))] [(aq [0] spec_TreeOk_an), (aq [0,1] spec_TreeOk_an), (aq [0,1,1] spec_TreeOk_an)] rfl (link_seq2 (spec_TreeOk_n1_l x776) (fun (t : Int) => (spec_TreeOk_n21_l x776 t)) (fun (t : Bool) => t) (by
  rintro t
  · kernel_rfl) (by
  rintro t f K h
  · exact h)))

theorem spec_TreeOk_e (x776 : List Int) {r : AV} {H' : Heap} (h : (Ans.mk _ (spec_TreeOk x776) (fun (t : Bool) => (dB t, [])) [] none).run = some (r, H')) : Awp spec_TreeOk_ctx LL (bodyOf Try.f42) spec_TreeOk_an ⟨mkE 65 0 [(0, dL x776)], []⟩ (Ret (tlook tys) Try.f42.results.toList r H') :=
  ret_of' (Link.cast (by kernel_rfl) (by kernel_rfl) (spec_TreeOk_n22_l x776)) (by unfold spec_TreeOk; kernel_rfl) (by
  intro t
  exact ret_mk [dB t] (by kernel_rfl) (by kernel_rfl) (by kernel_rfl) (by kernel_rfl)) h

def F_spec_TreeOk : Fun := fun avs H =>
  match avs, H with
  | [.dat (.list (.int .i64)) x776], [] => ⟨_, spec_TreeOk x776, fun (t : Bool) => (dB t, []), [], none⟩
  | _, _ => Ans.no

theorem spec_TreeOk_sound : Sound Try.prog 42 F_spec_TreeOk := by
  refine fn_sound' (C := spec_TreeOk_ctx) (c := bodyOf Try.f42) (cok_of tys_ok (allc spec_l1In_sound alln) (allc Try.call65 alln) (by kernel_rfl)) Try.func42 (by kernel_rfl) LL spec_TreeOk_an ?_
  intro avs H r H' h
  unfold F_spec_TreeOk at h
  split at h
  · refine Awp.cast ?_ ?_ ?_ (spec_TreeOk_e _ h) <;> kernel_rfl
  · simp [Ans.no, Ans.run] at h


/-! loop.example/headtrees/impl.oneRoot -/

def impl_oneRoot_an : Ann := (.seq (.leaf [0]) (.seq (.leaf [0, 3]) (.seq (.seq (.leaf [0, 3, 6, 7, 8]) (.block (.loop (.seq (.leaf [0, 3, 6, 7, 8, 9]) (.seq (.cond (.leaf [0, 3, 6, 7, 8]) (.leaf [3])) (.seq (.block (.seq (.leaf [0, 3, 5, 6, 7, 8]) (.seq (.seq (.leaf [0, 3, 5, 6, 7, 8, 19]) (.cond (.seq (.leaf [2]) (.leaf [2])) (.leaf [0, 3, 5, 6, 7, 8]))) (.seq (.leaf [0, 3, 6, 7, 8, 21]) (.cond (.leaf [0, 3, 6, 7, 8]) (.leaf [0, 3, 6, 7, 8])))))) (.leaf [0, 3, 6, 7, 8]))))))) (.seq (.leaf [2]) (.leaf [2])))))

noncomputable def impl_oneRoot_ctx : Ctx := ⟨tlook tys, olook [], ioF, 0, false, []⟩

theorem impl_oneRoot_n1_l (x1431 : List Int) : Link impl_oneRoot_ctx LL (Code.seq (cq [0] (bodyOf Try.f43)) (cq [0,1] (bodyOf Try.f43))) (Ann.seq (aq [0] impl_oneRoot_an) (aq [0,1] impl_oneRoot_an)) ⟨mkE 27 0 [(0, dL x1431)], []⟩ (impl_oneRoot_n1) (fun (t : Unit) => (Exit.normal, ⟨mkE 27 0 [(0, dL x1431), (3, dI 0)], []⟩)) := .of fun K h => by
  simp only [impl_oneRoot_n1, wpW] at h
  exact .of (by kernel_rfl) h

theorem impl_oneRoot_n2_l (x1431 : List Int) : Link impl_oneRoot_ctx LL (cq [0,0,1,1] (bodyOf Try.f43)) (aq [0,0,1,1] impl_oneRoot_an) ⟨mkE 27 0 [(0, dL x1431), (3, dI 0)], []⟩ (impl_oneRoot_n2 x1431) (fun (t : Int) => (Exit.normal, ⟨mkE 27 0 [(0, dL x1431), (3, dI 0), (6, dL x1431), (7, dI t), (8, dI 0)], []⟩)) := .of fun K h => by
  simp only [impl_oneRoot_n2, wpW] at h
  exact .of (by kernel_rfl) h

theorem impl_oneRoot_n3_l (x1431 : List Int) (x1453 : Int) (x1432 : Int) (x1454 : Int) : Link impl_oneRoot_ctx LL (cq [0,0,1,0,1,1] (bodyOf Try.f43)) (aq [0,0,1,0,1,1] impl_oneRoot_an) ⟨mkE 27 0 [(0, dL x1431), (3, dI x1453), (6, dL x1431), (7, dI x1432), (8, dI x1454)], []⟩ (impl_oneRoot_n3 x1431 x1453 x1432 x1454) (Sum.elim (fun (t : Int × Int) => (Exit.normal, ⟨mkE 27 0 [(0, dL x1431), (3, dI t.1), (6, dL x1431), (7, dI x1432), (8, dI t.2)], []⟩)) (Sum.elim (fun (t : Bool) => (Exit.ret, ⟨mkE 27 0 [(2, dB t)], []⟩)) (fun (t : Int) => ((Exit.exit 0), ⟨mkE 27 0 [(3, dI t)], []⟩)))) := .of fun K h => by
  simp only [impl_oneRoot_n3, wpW] at h
  exact .of (by kernel_rfl) h

def impl_oneRoot_n4_l (x1431 : List Int) (x1432 : Int) := (link_loop (mk := fun (s : Int × Int) => ⟨mkE 27 0 [(0, dL x1431), (3, dI s.1), (6, dL x1431), (7, dI x1432), (8, dI s.2)], []⟩) (fin := (Sum.elim (fun (t : Bool) => (Exit.ret, ⟨mkE 27 0 [(2, dB t)], []⟩)) (fun (t : Int) => ((Exit.exit 0), ⟨mkE 27 0 [(3, dI t)], []⟩)))) (by
  rintro (t | t) f K h
  · exact h
  · exact h) (fun s => link_map (impl_oneRoot_n3_l x1431 s.1 x1432 s.2) (Sum.elim (fun (t : Int × Int) => Sum.inl (t.1, t.2)) (Sum.elim (fun (t : Bool) => Sum.inr (Sum.inl t)) (fun (t : Int) => Sum.inr (Sum.inr t)))) (by
  rintro (t | t | t)
  · kernel_rfl
  · kernel_rfl
  · kernel_rfl)) (0, 0))

def impl_oneRoot_n5_l (x1431 : List Int) (x1432 : Int) := (link_block (fin2 := (Sum.elim (fun (t : Int) => (Exit.normal, ⟨mkE 27 0 [(3, dI t)], []⟩)) (fun (t : Bool) => (Exit.ret, ⟨mkE 27 0 [(2, dB t)], []⟩)))) (id := 0) (impl_oneRoot_n4_l x1431 x1432) (Sum.elim (fun (t : Bool) => (Sum.inr t)) (fun (t : Int) => (Sum.inl t))) (by
  rintro (t | t) K h
  · exact Eq.mp (by kernel_rfl) h
  · exact Eq.mp (by kernel_rfl) h))

def impl_oneRoot_n6_l (x1431 : List Int) := (link_seq (impl_oneRoot_n2_l x1431) (fun (t : Int) => (impl_oneRoot_n5_l x1431 t)))

theorem impl_oneRoot_n7_l (x1453 : Int) : Link impl_oneRoot_ctx LL (cq [1,1,1] (bodyOf Try.f43)) (aq [1,1,1] impl_oneRoot_an) ⟨mkE 27 0 [(3, dI x1453)], []⟩ (impl_oneRoot_n7 x1453) (fun (t : Bool) => (Exit.ret, ⟨mkE 27 0 [(2, dB t)], []⟩)) := .of fun K h => by
  simp only [impl_oneRoot_n7, wpW] at h
  exact .of (by kernel_rfl) h

def impl_oneRoot_n8_l (x1431 : List Int) := (link_seq2 (impl_oneRoot_n6_l x1431) (fun (t : Int) => (impl_oneRoot_n7_l t)) (fun (t : Bool) => t) (by
  rintro t
  · kernel_rfl) (by
  rintro t f K h
  · exact h))

def impl_oneRoot_n9_l (x1431 : List Int) := (link_group (c := (cq [0,1] (bodyOf Try.f43))) (a := (aq [0,1] impl_oneRoot_an)) [(cq [0] (bodyOf Try.f43))] [(aq [0] impl_oneRoot_an)] rfl (link_seq (impl_oneRoot_n1_l x1431) (fun (t : Unit) => (impl_oneRoot_n8_l x1431))))

theorem impl_oneRoot_e (x1431 : List Int) {r : AV} {H' : Heap} (h : (Ans.mk _ (impl_oneRoot x1431) (fun (t : Bool) => (dB t, [])) [] none).run = some (r, H')) : Awp impl_oneRoot_ctx LL (bodyOf Try.f43) impl_oneRoot_an ⟨mkE 27 0 [(0, dL x1431)], []⟩ (Ret (tlook tys) Try.f43.results.toList r H') :=
  ret_of' (Link.cast (by kernel_rfl) (by kernel_rfl) (impl_oneRoot_n9_l x1431)) (by unfold impl_oneRoot; kernel_rfl) (by
  intro t
  exact ret_mk [dB t] (by kernel_rfl) (by kernel_rfl) (by kernel_rfl) (by kernel_rfl)) h

def F_impl_oneRoot : Fun := fun avs H =>
  match avs, H with
  | [.dat (.list (.int .i64)) x1431], [] => ⟨_, impl_oneRoot x1431, fun (t : Bool) => (dB t, []), [], none⟩
  | _, _ => Ans.no

theorem impl_oneRoot_sound : Sound Try.prog 43 F_impl_oneRoot := by
  refine fn_sound' (C := impl_oneRoot_ctx) (c := bodyOf Try.f43) (cok_of tys_ok (alln) (alln) (by kernel_rfl)) Try.func43 (by kernel_rfl) LL impl_oneRoot_an ?_
  intro avs H r H' h
  unfold F_impl_oneRoot at h
  split at h
  · refine Awp.cast ?_ ?_ ?_ (impl_oneRoot_e _ h) <;> kernel_rfl
  · simp [Ans.no, Ans.run] at h


/-! (*loop.example/headtrees/impl.walker).up -/

def impl_walker_up_an : Ann := (.seq (.leaf [0]) (.seq (.draw [] [0, 1, 2, 3, 4, 5, 6, 7, 8, 9, 10, 11] [] [0, 3]) (.seq (.seq (.leaf [0, 3, 16]) (.cond (.seq (.leaf [2]) (.leaf [2])) (.leaf [0, 3]))) (.seq (.leaf [0]) (.seq (.leaf []) (.seq (.leaf [2]) (.leaf [2])))))))

noncomputable def impl_walker_up_ctx : Ctx := ⟨tlook tys, olook [], ioF, 1, false, []⟩

theorem impl_walker_up_n1_l (x1487 : List Int) (x1488 : Int) (x1489 : Int) : Link impl_walker_up_ctx LL (bodyOf Try.f66) impl_walker_up_an ⟨mkE 28 0 [(0, .ptr 0 0)], [some (.box [dL x1487, dI x1488, dI x1489])]⟩ (impl_walker_up_n1 x1487 x1488 x1489) (fun (t : Bool × Int × Int) => (Exit.ret, ⟨mkE 28 0 [(2, dB t.1)], [some (.box [dL x1487, dI t.2.1, dI t.2.2])]⟩)) := .of fun K h => by
  simp only [impl_walker_up_n1, wpW] at h
  exact .of (by kernel_rfl) h

theorem impl_walker_up_e (x1487 : List Int) (x1488 : Int) (x1489 : Int) {r : AV} {H' : Heap} (h : (Ans.mk _ (impl_walker_up x1487 x1488 x1489) (fun (t : Bool × Int × Int) => (dB t.1, [some (.box [dL x1487, dI t.2.1, dI t.2.2])])) [] none).run = some (r, H')) : Awp impl_walker_up_ctx LL (bodyOf Try.f66) impl_walker_up_an ⟨mkE 28 0 [(0, .ptr 0 0)], [some (.box [dL x1487, dI x1488, dI x1489])]⟩ (Ret (tlook tys) Try.f66.results.toList r H') :=
  ret_of' (impl_walker_up_n1_l x1487 x1488 x1489) (by unfold impl_walker_up; kernel_rfl) (by
  intro t
  exact ret_mk [dB t.1] (by kernel_rfl) (by kernel_rfl) (by kernel_rfl) (by kernel_rfl)) h

def F_impl_walker_up : Fun := fun avs H =>
  match avs, H with
  | [.ptr 0 0], [some (.box [.dat (.list (.int .i64)) x1487, .dat (.int .i64) x1488, .dat (.int .i64) x1489])] => ⟨_, impl_walker_up x1487 x1488 x1489, fun (t : Bool × Int × Int) => (dB t.1, [some (.box [dL x1487, dI t.2.1, dI t.2.2])]), [], none⟩
  | _, _ => Ans.no

theorem impl_walker_up_sound : Sound Try.prog 66 F_impl_walker_up := by
  refine fn_sound' (C := impl_walker_up_ctx) (c := bodyOf Try.f66) (cok_of tys_ok (alln) (alln) (by kernel_rfl)) Try.func66 (by kernel_rfl) LL impl_walker_up_an ?_
  intro avs H r H' h
  unfold F_impl_walker_up at h
  split at h
  · refine Awp.cast ?_ ?_ ?_ (impl_walker_up_e _ _ _ h) <;> kernel_rfl
  · simp [Ans.no, Ans.run] at h


/-! loop.example/headtrees/impl.stepsToRoot -/

def impl_stepsToRoot_an : Ann := (.seq (.leaf [0, 1]) (.seq (.leaf [0, 6]) (.seq (.block (.loop (.seq (.seq (.leaf [0, 6, 10]) (.cond (.leaf [0, 6]) (.leaf [6]))) (.block (.seq (.leaf [0, 6, 15]) (.cond (.seq (.leaf [4, 5]) (.leaf [4, 5])) (.leaf [0, 6]))))))) (.seq (.leaf [4, 5]) (.leaf [4, 5])))))

noncomputable def impl_stepsToRoot_ctx : Ctx := ⟨tlook tys, olook [(66, F_impl_walker_up)], ioF, 0, false, []⟩

theorem impl_stepsToRoot_n1_l (x1485 : List Int) (x1486 : Int) : Link impl_stepsToRoot_ctx LL (Code.seq (cq [0] (bodyOf Try.f44)) (cq [0,1] (bodyOf Try.f44))) (Ann.seq (aq [0] impl_stepsToRoot_an) (aq [0,1] impl_stepsToRoot_an)) ⟨mkE 18 0 [(0, dL x1485), (1, dI x1486)], []⟩ (impl_stepsToRoot_n1) (fun (t : Unit) => (Exit.normal, ⟨mkE 18 0 [(0, dL x1485), (6, .ptr 0 0)], [some (.box [dL x1485, dI x1486, dI 0])]⟩)) := .of fun K h => by
  simp only [impl_stepsToRoot_n1, wpW] at h
  exact .of (by kernel_rfl) h

theorem impl_stepsToRoot_n2_l (x1485 : List Int) (x1523 : Int) (x1524 : Int) : Link impl_stepsToRoot_ctx LL (cq [0,0,0,1,1] (bodyOf Try.f44)) (aq [0,0,0,1,1] impl_stepsToRoot_an) ⟨mkE 18 0 [(0, dL x1485), (6, .ptr 0 0)], [some (.box [dL x1485, dI x1523, dI x1524])]⟩ (impl_stepsToRoot_n2 x1485 x1523 x1524) (Sum.elim (fun (t : Int × Int) => (Exit.normal, ⟨mkE 18 0 [(0, dL x1485), (6, .ptr 0 0)], [some (.box [dL x1485, dI t.1, dI t.2])]⟩)) (Sum.elim (fun (t : Int × Bool) => (Exit.ret, ⟨mkE 18 0 [(4, dI t.1), (5, dB t.2)], []⟩)) (fun (t : Int × Int) => ((Exit.exit 0), ⟨mkE 18 0 [(6, .ptr 0 0)], [some (.box [dL x1485, dI t.1, dI t.2])]⟩)))) := .of fun K h => by
  simp only [impl_stepsToRoot_n2, wpW] at h
  exact .of (by kernel_rfl) h

def impl_stepsToRoot_n3_l (x1485 : List Int) (x1486 : Int) := (link_loop (mk := fun (s : Int × Int) => ⟨mkE 18 0 [(0, dL x1485), (6, .ptr 0 0)], [some (.box [dL x1485, dI s.1, dI s.2])]⟩) (fin := (Sum.elim (fun (t : Int × Bool) => (Exit.ret, ⟨mkE 18 0 [(4, dI t.1), (5, dB t.2)], []⟩)) (fun (t : Int × Int) => ((Exit.exit 0), ⟨mkE 18 0 [(6, .ptr 0 0)], [some (.box [dL x1485, dI t.1, dI t.2])]⟩)))) (by
  rintro (t | t) f K h
  · exact h
  · exact h) (fun s => link_map (impl_stepsToRoot_n2_l x1485 s.1 s.2) (Sum.elim (fun (t : Int × Int) => Sum.inl (t.1, t.2)) (Sum.elim (fun (t : Int × Bool) => Sum.inr (Sum.inl t)) (fun (t : Int × Int) => Sum.inr (Sum.inr t)))) (by
  rintro (t | t | t)
  · kernel_rfl
  · kernel_rfl
  · kernel_rfl)) (x1486, 0))

def impl_stepsToRoot_n4_l (x1485 : List Int) (x1486 : Int) := (link_block (fin2 := (Sum.elim (fun (t : Int × Int) => (Exit.normal, ⟨mkE 18 0 [(6, .ptr 0 0)], [some (.box [dL x1485, dI t.1, dI t.2])]⟩)) (fun (t : Int × Bool) => (Exit.ret, ⟨mkE 18 0 [(4, dI t.1), (5, dB t.2)], []⟩)))) (id := 0) (impl_stepsToRoot_n3_l x1485 x1486) (Sum.elim (fun (t : Int × Bool) => (Sum.inr t)) (fun (t : Int × Int) => (Sum.inl (t.1, t.2)))) (by
  rintro (t | t) K h
  · exact Eq.mp (by kernel_rfl) h
  · exact Eq.mp (by kernel_rfl) h))

theorem impl_stepsToRoot_n5_l (x1485 : List Int) (x1531 : Int) (x1532 : Int) : Link impl_stepsToRoot_ctx LL (cq [1,1,1] (bodyOf Try.f44)) (aq [1,1,1] impl_stepsToRoot_an) ⟨mkE 18 0 [(6, .ptr 0 0)], [some (.box [dL x1485, dI x1531, dI x1532])]⟩ (impl_stepsToRoot_n5 x1532) (fun (t : Int × Bool) => (Exit.ret, ⟨mkE 18 0 [(4, dI t.1), (5, dB t.2)], []⟩)) := .of fun K h => by
  simp only [impl_stepsToRoot_n5, wpW] at h
  exact .of (by kernel_rfl) h

def impl_stepsToRoot_n6_l (x1485 : List Int) (x1486 : Int) := (link_seq2 (impl_stepsToRoot_n4_l x1485 x1486) (fun (t : Int × Int) => (impl_stepsToRoot_n5_l x1485 t.1 t.2)) (fun (t : Int × Bool) => t) (by
  rintro t
  · kernel_rfl) (by
  rintro t f K h
  · exact h))

def impl_stepsToRoot_n7_l (x1485 : List Int) (x1486 : Int) := (link_group (c := (cq [0,1] (bodyOf Try.f44))) (a := (aq [0,1] impl_stepsToRoot_an)) [(cq [0] (bodyOf Try.f44))] [(aq [0] impl_stepsToRoot_an)] rfl (link_seq (impl_stepsToRoot_n1_l x1485 x1486) (fun (t : Unit) => (impl_stepsToRoot_n6_l x1485 x1486))))

theorem impl_stepsToRoot_e (x1485 : List Int) (x1486 : Int) {r : AV} {H' : Heap} (h : (Ans.mk _ (impl_stepsToRoot x1485 x1486) (fun (t : Int × Bool) => (.tup [dI t.1, dB t.2], [])) [] none).run = some (r, H')) : Awp impl_stepsToRoot_ctx LL (bodyOf Try.f44) impl_stepsToRoot_an ⟨mkE 18 0 [(0, dL x1485), (1, dI x1486)], []⟩ (Ret (tlook tys) Try.f44.results.toList r H') :=
  ret_of' (Link.cast (by kernel_rfl) (by kernel_rfl) (impl_stepsToRoot_n7_l x1485 x1486)) (by unfold impl_stepsToRoot; kernel_rfl) (by
  intro t
  exact ret_mk [dI t.1, dB t.2] (by kernel_rfl) (by kernel_rfl) (by kernel_rfl) (by kernel_rfl)) h

def F_impl_stepsToRoot : Fun := fun avs H =>
  match avs, H with
  | [.dat (.list (.int .i64)) x1485, .dat (.int .i64) x1486], [] => ⟨_, impl_stepsToRoot x1485 x1486, fun (t : Int × Bool) => (.tup [dI t.1, dB t.2], []), [], none⟩
  | _, _ => Ans.no

theorem impl_stepsToRoot_sound : Sound Try.prog 44 F_impl_stepsToRoot := by
  refine fn_sound' (C := impl_stepsToRoot_ctx) (c := bodyOf Try.f44) (cok_of tys_ok (allc impl_walker_up_sound alln) (allc Try.call66 alln) (by kernel_rfl)) Try.func44 (by kernel_rfl) LL impl_stepsToRoot_an ?_
  intro avs H r H' h
  unfold F_impl_stepsToRoot at h
  split at h
  · refine Awp.cast ?_ ?_ ?_ (impl_stepsToRoot_e _ _ h) <;> kernel_rfl
  · simp [Ans.no, Ans.run] at h


/-! loop.example/headtrees/impl.TreeOk -/

def impl_TreeOk_an : Ann := (.seq (.leaf [0]) (.seq (.seq (.leaf [0, 18]) (.cond (.seq (.leaf [2]) (.leaf [2])) (.leaf [0]))) (.seq (.seq (.leaf [0, 20, 21]) (.block (.loop (.seq (.leaf [0, 20, 21, 22]) (.seq (.cond (.leaf [0, 20, 21]) (.leaf [])) (.seq (.block (.seq (.leaf [0, 3, 20, 21]) (.seq (.leaf [0, 5, 20, 21]) (.seq (.leaf [0, 20, 21, 32]) (.cond (.seq (.leaf [2]) (.leaf [2])) (.leaf [0, 20, 21])))))) (.leaf [0, 20, 21]))))))) (.seq (.leaf [2]) (.leaf [2])))))

noncomputable def impl_TreeOk_ctx : Ctx := ⟨tlook tys, olook [(43, F_impl_oneRoot), (44, F_impl_stepsToRoot)], ioF, 0, false, []⟩

theorem impl_TreeOk_n1_l (x1426 : List Int) : Link impl_TreeOk_ctx LL (Code.seq (cq [0] (bodyOf Try.f16)) (cq [0,1] (bodyOf Try.f16))) (Ann.seq (aq [0] impl_TreeOk_an) (aq [0,1] impl_TreeOk_an)) ⟨mkE 34 0 [(0, dL x1426)], []⟩ (impl_TreeOk_n1 x1426) (Sum.elim (fun (t : Unit) => (Exit.normal, ⟨mkE 34 0 [(0, dL x1426)], []⟩)) (fun (t : Bool) => (Exit.ret, ⟨mkE 34 0 [(2, dB t)], []⟩))) := .of fun K h => by
  simp only [impl_TreeOk_n1, wpW] at h
  exact .of (by kernel_rfl) h

theorem impl_TreeOk_n2_l (x1426 : List Int) : Link impl_TreeOk_ctx LL (cq [0,0,1,1] (bodyOf Try.f16)) (aq [0,0,1,1] impl_TreeOk_an) ⟨mkE 34 0 [(0, dL x1426)], []⟩ (impl_TreeOk_n2 x1426) (fun (t : Int) => (Exit.normal, ⟨mkE 34 0 [(0, dL x1426), (20, dI t), (21, dI 0)], []⟩)) := .of fun K h => by
  simp only [impl_TreeOk_n2, wpW] at h
  exact .of (by kernel_rfl) h

theorem impl_TreeOk_n3_l (x1426 : List Int) (x1480 : Int) (x1548 : Int) : Link impl_TreeOk_ctx LL (cq [0,0,1,0,1,1] (bodyOf Try.f16)) (aq [0,0,1,0,1,1] impl_TreeOk_an) ⟨mkE 34 0 [(0, dL x1426), (20, dI x1480), (21, dI x1548)], []⟩ (impl_TreeOk_n3 x1426 x1480 x1548) (Sum.elim (fun (t : Int) => (Exit.normal, ⟨mkE 34 0 [(0, dL x1426), (20, dI x1480), (21, dI t)], []⟩)) (Sum.elim (fun (t : Bool) => (Exit.ret, ⟨mkE 34 0 [(2, dB t)], []⟩)) (fun (t : Unit) => ((Exit.exit 0), ⟨mkE 34 0 [], []⟩)))) := .of fun K h => by
  simp only [impl_TreeOk_n3, wpW] at h
  exact .of (by kernel_rfl) h

def impl_TreeOk_n4_l (x1426 : List Int) (x1480 : Int) := (link_loop (mk := fun (s : Int) => ⟨mkE 34 0 [(0, dL x1426), (20, dI x1480), (21, dI s)], []⟩) (fin := (Sum.elim (fun (t : Bool) => (Exit.ret, ⟨mkE 34 0 [(2, dB t)], []⟩)) (fun (t : Unit) => ((Exit.exit 0), ⟨mkE 34 0 [], []⟩)))) (by
  rintro (t | t) f K h
  · exact h
  · exact h) (fun s => link_map (impl_TreeOk_n3_l x1426 x1480 s) (Sum.elim (fun (t : Int) => Sum.inl t) (Sum.elim (fun (t : Bool) => Sum.inr (Sum.inl t)) (fun (t : Unit) => Sum.inr (Sum.inr t)))) (by
  rintro (t | t | t)
  · kernel_rfl
  · kernel_rfl
  · kernel_rfl)) 0)

def impl_TreeOk_n5_l (x1426 : List Int) (x1480 : Int) := (link_block (fin2 := (Sum.elim (fun (t : Unit) => (Exit.normal, ⟨mkE 34 0 [], []⟩)) (fun (t : Bool) => (Exit.ret, ⟨mkE 34 0 [(2, dB t)], []⟩)))) (id := 0) (impl_TreeOk_n4_l x1426 x1480) (Sum.elim (fun (t : Bool) => (Sum.inr t)) (fun (t : Unit) => (Sum.inl ()))) (by
  rintro (t | t) K h
  · exact Eq.mp (by kernel_rfl) h
  · exact Eq.mp (by kernel_rfl) h))

def impl_TreeOk_n6_l (x1426 : List Int) := (link_seq (impl_TreeOk_n2_l x1426) (fun (t : Int) => (impl_TreeOk_n5_l x1426 t)))

theorem impl_TreeOk_n7_l : Link impl_TreeOk_ctx LL (cq [1,1,1] (bodyOf Try.f16)) (aq [1,1,1] impl_TreeOk_an) ⟨mkE 34 0 [], []⟩ (impl_TreeOk_n7) (fun (t : Bool) => (Exit.ret, ⟨mkE 34 0 [(2, dB t)], []⟩)) := .of fun K h => by
  simp only [impl_TreeOk_n7, wpW] at h
  exact .of (by kernel_rfl) h

def impl_TreeOk_n8_l (x1426 : List Int) := (link_seq2 (impl_TreeOk_n6_l x1426) (fun (t : Unit) => (impl_TreeOk_n7_l)) (fun (t : Bool) => t) (by
  rintro t
  · kernel_rfl) (by
  rintro t f K h
  · exact h))

def impl_TreeOk_n9_l (x1426 : List Int) := (link_group (c := (cq [0,1] (bodyOf Try.f16))) (a := (aq [0,1] impl_TreeOk_an)) [(cq [0] (bodyOf Try.f16))] [(aq [0] impl_TreeOk_an)] rfl (link_seq2 (impl_TreeOk_n1_l x1426) (fun (t : Unit) => (impl_TreeOk_n8_l x1426)) (fun (t : Bool) => t) (by
  rintro t
  · kernel_rfl) (by
  rintro t f K h
  · exact h)))

theorem impl_TreeOk_e (x1426 : List Int) {r : AV} {H' : Heap} (h : (Ans.mk _ (impl_TreeOk x1426) (fun (t : Bool) => (dB t, [])) [] none).run = some (r, H')) : Awp impl_TreeOk_ctx LL (bodyOf Try.f16) impl_TreeOk_an ⟨mkE 34 0 [(0, dL x1426)], []⟩ (Ret (tlook tys) Try.f16.results.toList r H') :=
  ret_of' (Link.cast (by kernel_rfl) (by kernel_rfl) (impl_TreeOk_n9_l x1426)) (by unfold impl_TreeOk; kernel_rfl) (by
  intro t
  exact ret_mk [dB t] (by kernel_rfl) (by kernel_rfl) (by kernel_rfl) (by kernel_rfl)) h

def F_impl_TreeOk : Fun := fun avs H =>
  match avs, H with
  | [.dat (.list (.int .i64)) x1426], [] => ⟨_, impl_TreeOk x1426, fun (t : Bool) => (dB t, []), [], none⟩
  | _, _ => Ans.no

theorem impl_TreeOk_sound : Sound Try.prog 16 F_impl_TreeOk := by
  refine fn_sound' (C := impl_TreeOk_ctx) (c := bodyOf Try.f16) (cok_of tys_ok (allc impl_oneRoot_sound (allc impl_stepsToRoot_sound alln)) (allc Try.call43 (allc Try.call44 alln)) (by kernel_rfl)) Try.func16 (by kernel_rfl) LL impl_TreeOk_an ?_
  intro avs H r H' h
  unfold F_impl_TreeOk at h
  split at h
  · refine Awp.cast ?_ ?_ ?_ (impl_TreeOk_e _ h) <;> kernel_rfl
  · simp [Ans.no, Ans.run] at h


/-! loop.example/headtrees/impl.arcBetween -/

def impl_arcBetween_an : Ann := (.seq (.leaf [0, 1, 4]) (.seq (.seq (.leaf [0, 1, 4, 16]) (.cond (.seq (.leaf [4, 5]) (.leaf [4, 5])) (.leaf [0, 1, 4]))) (.seq (.leaf [4, 5]) (.leaf [4, 5]))))

noncomputable def impl_arcBetween_ctx : Ctx := ⟨tlook tys, olook [], ioF, 0, false, []⟩

theorem impl_arcBetween_n1_l (x1580 : Int) (x1581 : Int) : Link impl_arcBetween_ctx LL (bodyOf Try.f59) impl_arcBetween_an ⟨mkE 25 0 [(0, dI x1580), (1, dI x1581)], []⟩ (impl_arcBetween_n1 x1580 x1581) (fun (t : Bool × Int × Int) => (Exit.ret, ⟨mkE 25 0 [(4, .ptr 0 0), (5, dB t.1)], [some (.box [dI t.2.1, dI t.2.2])]⟩)) := .of fun K h => by
  simp only [impl_arcBetween_n1, wpW] at h
  exact .of (by kernel_rfl) h

theorem impl_arcBetween_e (x1580 : Int) (x1581 : Int) {r : AV} {H' : Heap} (h : (Ans.mk _ (impl_arcBetween x1580 x1581) (fun (t : Bool × Int × Int) => (.tup [.agg [dI t.2.1, dI t.2.2], dB t.1], [some (.box [dI t.2.1, dI t.2.2])])) [] none).run = some (r, H')) : Awp impl_arcBetween_ctx LL (bodyOf Try.f59) impl_arcBetween_an ⟨mkE 25 0 [(0, dI x1580), (1, dI x1581)], []⟩ (Ret (tlook tys) Try.f59.results.toList r H') :=
  ret_of' (impl_arcBetween_n1_l x1580 x1581) (by unfold impl_arcBetween; kernel_rfl) (by
  intro t
  exact ret_mk [.agg [dI t.2.1, dI t.2.2], dB t.1] (by kernel_rfl) (by kernel_rfl) (by kernel_rfl) (by kernel_rfl)) h

def F_impl_arcBetween : Fun := fun avs H =>
  match avs, H with
  | [.dat (.int .i64) x1580, .dat (.int .i64) x1581], [] => ⟨_, impl_arcBetween x1580 x1581, fun (t : Bool × Int × Int) => (.tup [.agg [dI t.2.1, dI t.2.2], dB t.1], [some (.box [dI t.2.1, dI t.2.2])]), [], none⟩
  | _, _ => Ans.no

theorem impl_arcBetween_sound : Sound Try.prog 59 F_impl_arcBetween := by
  refine fn_sound' (C := impl_arcBetween_ctx) (c := bodyOf Try.f59) (cok_of tys_ok (alln) (alln) (by kernel_rfl)) Try.func59 (by kernel_rfl) LL impl_arcBetween_an ?_
  intro avs H r H' h
  unfold F_impl_arcBetween at h
  split at h
  · refine Awp.cast ?_ ?_ ?_ (impl_arcBetween_e _ _ h) <;> kernel_rfl
  · simp [Ans.no, Ans.run] at h


/-! loop.example/headtrees/impl.arcsOf -/

def impl_arcsOf_an : Ann := (.seq (.leaf [0]) (.seq (.leaf [0, 3]) (.seq (.seq (.leaf [3, 11, 12, 13]) (.block (.loop (.seq (.leaf [3, 11, 12, 13, 14]) (.seq (.cond (.leaf [3, 11, 12, 13]) (.leaf [3])) (.seq (.block (.seq (.leaf [3, 4, 5, 11, 12, 13]) (.seq (.leaf [3, 6, 7, 11, 12, 13]) (.seq (.leaf [3, 6, 11, 12, 13, 25]) (.cond (.leaf [3, 11, 12, 13]) (.leaf [3, 11, 12, 13])))))) (.leaf [3, 11, 12, 13]))))))) (.seq (.leaf [2]) (.leaf [2])))))

noncomputable def impl_arcsOf_ctx : Ctx := ⟨tlook tys, olook [(59, F_impl_arcBetween)], ioF, 0, false, []⟩

theorem impl_arcsOf_n1_l (x1569 : List Int) : Link impl_arcsOf_ctx LL (Code.seq (cq [0] (bodyOf Try.f40)) (cq [0,1] (bodyOf Try.f40))) (Ann.seq (aq [0] impl_arcsOf_an) (aq [0,1] impl_arcsOf_an)) ⟨mkE 32 0 [(0, dL x1569)], []⟩ (impl_arcsOf_n1 x1569) (fun (t : (List (Int × Int × Unit))) => (Exit.normal, ⟨mkE 32 0 [(0, dL x1569), (3, .slc 0)], [some (.seq (.pair (.int .i64) (.pair (.int .i64) .unit)) t)]⟩)) := .of fun K h => by
  simp only [impl_arcsOf_n1, wpW] at h
  exact .of (by kernel_rfl) h

theorem impl_arcsOf_n2_l (x1569 : List Int) (x1573 : List (Int × Int × Unit)) : Link impl_arcsOf_ctx LL (cq [0,0,1,1] (bodyOf Try.f40)) (aq [0,0,1,1] impl_arcsOf_an) ⟨mkE 32 0 [(0, dL x1569), (3, .slc 0)], [some (.seq (.pair (.int .i64) (.pair (.int .i64) .unit)) x1573)]⟩ (impl_arcsOf_n2 x1569) (fun (t : Int) => (Exit.normal, ⟨mkE 32 0 [(3, .slc 0), (11, dL x1569), (12, dI t), (13, dI 0)], [some (.seq (.pair (.int .i64) (.pair (.int .i64) .unit)) x1573)]⟩)) := .of fun K h => by
  simp only [impl_arcsOf_n2, wpW] at h
  exact .of (by kernel_rfl) h

theorem impl_arcsOf_n3_l (x1569 : List Int) (x1574 : Int) (x1626 : Int) (x1627 : List (Int × Int × Unit)) : Link impl_arcsOf_ctx LL (cq [0,0,1,0,1,1] (bodyOf Try.f40)) (aq [0,0,1,0,1,1] impl_arcsOf_an) ⟨mkE 32 0 [(3, .slc 0), (11, dL x1569), (12, dI x1574), (13, dI x1626)], [some (.seq (.pair (.int .i64) (.pair (.int .i64) .unit)) x1627)]⟩ (impl_arcsOf_n3 x1569 x1574 x1626 x1627) (Sum.elim (fun (t : Int × (List (Int × Int × Unit))) => (Exit.normal, ⟨mkE 32 0 [(3, .slc 0), (11, dL x1569), (12, dI x1574), (13, dI t.1)], [some (.seq (.pair (.int .i64) (.pair (.int .i64) .unit)) t.2)]⟩)) (fun (t : (List (Int × Int × Unit))) => ((Exit.exit 0), ⟨mkE 32 0 [(3, .slc 0)], [some (.seq (.pair (.int .i64) (.pair (.int .i64) .unit)) t)]⟩))) := .of fun K h => by
  simp only [impl_arcsOf_n3, wpW] at h
  exact .of (by kernel_rfl) h

def impl_arcsOf_n4_l (x1569 : List Int) (x1574 : Int) (x1573 : List (Int × Int × Unit)) := (link_loop (mk := fun (s : Int × (List (Int × Int × Unit))) => ⟨mkE 32 0 [(3, .slc 0), (11, dL x1569), (12, dI x1574), (13, dI s.1)], [some (.seq (.pair (.int .i64) (.pair (.int .i64) .unit)) s.2)]⟩) (fin := (fun (t : (List (Int × Int × Unit))) => ((Exit.exit 0), ⟨mkE 32 0 [(3, .slc 0)], [some (.seq (.pair (.int .i64) (.pair (.int .i64) .unit)) t)]⟩))) (by
  rintro t f K h
  · exact h) (fun s => link_map (impl_arcsOf_n3_l x1569 x1574 s.1 s.2) (Sum.elim (fun (t : Int × (List (Int × Int × Unit))) => Sum.inl (t.1, t.2)) (fun (t : (List (Int × Int × Unit))) => Sum.inr t)) (by
  rintro (t | t)
  · kernel_rfl
  · kernel_rfl)) (0, x1573))

def impl_arcsOf_n5_l (x1569 : List Int) (x1574 : Int) (x1573 : List (Int × Int × Unit)) := (link_block (fin2 := (fun (t : (List (Int × Int × Unit))) => (Exit.normal, ⟨mkE 32 0 [(3, .slc 0)], [some (.seq (.pair (.int .i64) (.pair (.int .i64) .unit)) t)]⟩))) (id := 0) (impl_arcsOf_n4_l x1569 x1574 x1573) (fun (t : (List (Int × Int × Unit))) => t) (by
  rintro t K h
  · exact Eq.mp (by kernel_rfl) h))

def impl_arcsOf_n6_l (x1569 : List Int) (x1573 : List (Int × Int × Unit)) := (link_seq (impl_arcsOf_n2_l x1569 x1573) (fun (t : Int) => (impl_arcsOf_n5_l x1569 t x1573)))

theorem impl_arcsOf_n7_l (x1627 : List (Int × Int × Unit)) : Link impl_arcsOf_ctx LL (cq [1,1,1] (bodyOf Try.f40)) (aq [1,1,1] impl_arcsOf_an) ⟨mkE 32 0 [(3, .slc 0)], [some (.seq (.pair (.int .i64) (.pair (.int .i64) .unit)) x1627)]⟩ (impl_arcsOf_n7 x1627) (fun (t : (List (Int × Int × Unit))) => (Exit.ret, ⟨mkE 32 0 [(2, .slc 0)], [some (.seq (.pair (.int .i64) (.pair (.int .i64) .unit)) t)]⟩)) := .of fun K h => by
  simp only [impl_arcsOf_n7, wpW] at h
  exact .of (by kernel_rfl) h

def impl_arcsOf_n8_l (x1569 : List Int) (x1573 : List (Int × Int × Unit)) := (link_seq (impl_arcsOf_n6_l x1569 x1573) (fun (t : (List (Int × Int × Unit))) => (impl_arcsOf_n7_l t)))

def impl_arcsOf_n9_l (x1569 : List Int) := (link_group (c := (cq [0,1] (bodyOf Try.f40))) (a := (aq [0,1] impl_arcsOf_an)) [(cq [0] (bodyOf Try.f40))] [(aq [0] impl_arcsOf_an)] rfl (link_seq (impl_arcsOf_n1_l x1569) (fun (t : (List (Int × Int × Unit))) => (impl_arcsOf_n8_l x1569 t))))

theorem impl_arcsOf_e (x1569 : List Int) {r : AV} {H' : Heap} (h : (Ans.mk _ (impl_arcsOf x1569) (fun (t : (List (Int × Int × Unit))) => (.slc 0, [some (.seq (.pair (.int .i64) (.pair (.int .i64) .unit)) t)])) [] none).run = some (r, H')) : Awp impl_arcsOf_ctx LL (bodyOf Try.f40) impl_arcsOf_an ⟨mkE 32 0 [(0, dL x1569)], []⟩ (Ret (tlook tys) Try.f40.results.toList r H') :=
  ret_of' (Link.cast (by kernel_rfl) (by kernel_rfl) (impl_arcsOf_n9_l x1569)) (by unfold impl_arcsOf; kernel_rfl) (by
  intro t
  exact ret_mk [.slc 0] (by kernel_rfl) (by kernel_rfl) (by kernel_rfl) (by kernel_rfl)) h

def F_impl_arcsOf : Fun := fun avs H =>
  match avs, H with
  | [.dat (.list (.int .i64)) x1569], [] => ⟨_, impl_arcsOf x1569, fun (t : (List (Int × Int × Unit))) => (.slc 0, [some (.seq (.pair (.int .i64) (.pair (.int .i64) .unit)) t)]), [], none⟩
  | _, _ => Ans.no

theorem impl_arcsOf_sound : Sound Try.prog 40 F_impl_arcsOf := by
  refine fn_sound' (C := impl_arcsOf_ctx) (c := bodyOf Try.f40) (cok_of tys_ok (allc impl_arcBetween_sound alln) (allc Try.call59 alln) (by kernel_rfl)) Try.func40 (by kernel_rfl) LL impl_arcsOf_an ?_
  intro avs H r H' h
  unfold F_impl_arcsOf at h
  split at h
  · refine Awp.cast ?_ ?_ ?_ (impl_arcsOf_e _ h) <;> kernel_rfl
  · simp [Ans.no, Ans.run] at h


/-! loop.example/headtrees/impl.countEnds -/

def impl_countEnds_an : Ann := (.seq (.leaf [0, 2]) (.seq (.leaf [0, 2, 3]) (.seq (.seq (.leaf [2, 3, 6, 7, 8]) (.block (.loop (.seq (.leaf [2, 3, 6, 7, 8, 9]) (.seq (.cond (.leaf [2, 3, 6, 7, 8]) (.leaf [2, 3])) (.seq (.block (.seq (.leaf [2, 3, 5, 6, 7, 8]) (.seq (.leaf [2, 3, 5, 6, 7, 8]) (.leaf [2, 3, 6, 7, 8])))) (.leaf [2, 3, 6, 7, 8]))))))) (.seq (.leaf [2]) (.leaf [2])))))

noncomputable def impl_countEnds_ctx : Ctx := ⟨tlook tys, olook [], ioF, 0, false, []⟩

theorem impl_countEnds_n1_l (x1661 : List (Int × Int × Unit)) : Link impl_countEnds_ctx LL (Code.seq (cq [0] (bodyOf Try.f39)) (cq [0,1] (bodyOf Try.f39))) (Ann.seq (aq [0] impl_countEnds_an) (aq [0,1] impl_countEnds_an)) ⟨mkE 26 0 [(0, .dat (.list (.pair (.int .i64) (.pair (.int .i64) .unit))) x1661)], []⟩ (impl_countEnds_n1) (fun (t : Unit) => (Exit.normal, ⟨mkE 26 0 [(0, .dat (.list (.pair (.int .i64) (.pair (.int .i64) .unit))) x1661), (2, .ptr 0 0), (3, .ptr 1 0)], [some (sI (List.replicate 9 (0 : Int))), some (sI (List.replicate 9 (0 : Int)))]⟩)) := .of fun K h => by
  simp only [impl_countEnds_n1, wpW] at h
  exact .of (by kernel_rfl) h

theorem impl_countEnds_n2_l (x1661 : List (Int × Int × Unit)) : Link impl_countEnds_ctx LL (cq [0,0,1,1] (bodyOf Try.f39)) (aq [0,0,1,1] impl_countEnds_an) ⟨mkE 26 0 [(0, .dat (.list (.pair (.int .i64) (.pair (.int .i64) .unit))) x1661), (2, .ptr 0 0), (3, .ptr 1 0)], [some (sI (List.replicate 9 (0 : Int))), some (sI (List.replicate 9 (0 : Int)))]⟩ (impl_countEnds_n2 x1661) (fun (t : Int) => (Exit.normal, ⟨mkE 26 0 [(2, .ptr 0 0), (3, .ptr 1 0), (6, .dat (.list (.pair (.int .i64) (.pair (.int .i64) .unit))) x1661), (7, dI t), (8, dI 0)], [some (sI (List.replicate 9 (0 : Int))), some (sI (List.replicate 9 (0 : Int)))]⟩)) := .of fun K h => by
  simp only [impl_countEnds_n2, wpW] at h
  exact .of (by kernel_rfl) h

theorem impl_countEnds_n3_l (x1661 : List (Int × Int × Unit)) (x1663 : Int) (x1707 : Int) (x1708 : List Int) : Link impl_countEnds_ctx LL (cq [0,0,1,0,1,1] (bodyOf Try.f39)) (aq [0,0,1,0,1,1] impl_countEnds_an) ⟨mkE 26 0 [(2, .ptr 0 0), (3, .ptr 1 0), (6, .dat (.list (.pair (.int .i64) (.pair (.int .i64) .unit))) x1661), (7, dI x1663), (8, dI x1707)], [some (sI (List.replicate 9 (0 : Int))), some (sI x1708)]⟩ (impl_countEnds_n3 x1661 x1663 x1707 x1708) (Sum.elim (fun (t : Int × (List Int)) => (Exit.normal, ⟨mkE 26 0 [(2, .ptr 0 0), (3, .ptr 1 0), (6, .dat (.list (.pair (.int .i64) (.pair (.int .i64) .unit))) x1661), (7, dI x1663), (8, dI t.1)], [some (sI (List.replicate 9 (0 : Int))), some (sI t.2)]⟩)) (fun (t : (List Int)) => ((Exit.exit 0), ⟨mkE 26 0 [(2, .ptr 0 0), (3, .ptr 1 0)], [some (sI (List.replicate 9 (0 : Int))), some (sI t)]⟩))) := .of fun K h => by
  simp only [impl_countEnds_n3, wpW] at h
  exact .of (by kernel_rfl) h

def impl_countEnds_n4_l (x1661 : List (Int × Int × Unit)) (x1663 : Int) := (link_loop (mk := fun (s : Int × (List Int)) => ⟨mkE 26 0 [(2, .ptr 0 0), (3, .ptr 1 0), (6, .dat (.list (.pair (.int .i64) (.pair (.int .i64) .unit))) x1661), (7, dI x1663), (8, dI s.1)], [some (sI (List.replicate 9 (0 : Int))), some (sI s.2)]⟩) (fin := (fun (t : (List Int)) => ((Exit.exit 0), ⟨mkE 26 0 [(2, .ptr 0 0), (3, .ptr 1 0)], [some (sI (List.replicate 9 (0 : Int))), some (sI t)]⟩))) (by
  rintro t f K h
  · exact h) (fun s => link_map (impl_countEnds_n3_l x1661 x1663 s.1 s.2) (Sum.elim (fun (t : Int × (List Int)) => Sum.inl (t.1, t.2)) (fun (t : (List Int)) => Sum.inr t)) (by
  rintro (t | t)
  · kernel_rfl
  · kernel_rfl)) (0, (List.replicate 9 (0 : Int))))

def impl_countEnds_n5_l (x1661 : List (Int × Int × Unit)) (x1663 : Int) := (link_block (fin2 := (fun (t : (List Int)) => (Exit.normal, ⟨mkE 26 0 [(2, .ptr 0 0), (3, .ptr 1 0)], [some (sI (List.replicate 9 (0 : Int))), some (sI t)]⟩))) (id := 0) (impl_countEnds_n4_l x1661 x1663) (fun (t : (List Int)) => t) (by
  rintro t K h
  · exact Eq.mp (by kernel_rfl) h))

def impl_countEnds_n6_l (x1661 : List (Int × Int × Unit)) := (link_seq (impl_countEnds_n2_l x1661) (fun (t : Int) => (impl_countEnds_n5_l x1661 t)))

theorem impl_countEnds_n7_l (x1708 : List Int) : Link impl_countEnds_ctx LL (cq [1,1,1] (bodyOf Try.f39)) (aq [1,1,1] impl_countEnds_an) ⟨mkE 26 0 [(2, .ptr 0 0), (3, .ptr 1 0)], [some (sI (List.replicate 9 (0 : Int))), some (sI x1708)]⟩ (impl_countEnds_n7 x1708) (fun (t : Int × Int × Int × Int × Int × Int × Int × Int × Int) => (Exit.ret, ⟨mkE 26 0 [(2, .ptr 0 0)], [some (sI ([t.1, t.2.1, t.2.2.1, t.2.2.2.1, t.2.2.2.2.1, t.2.2.2.2.2.1, t.2.2.2.2.2.2.1, t.2.2.2.2.2.2.2.1, t.2.2.2.2.2.2.2.2]))]⟩)) := .of fun K h => by
  simp only [impl_countEnds_n7, wpW] at h
  exact .of (by kernel_rfl) h

def impl_countEnds_n8_l (x1661 : List (Int × Int × Unit)) := (link_seq (impl_countEnds_n6_l x1661) (fun (t : (List Int)) => (impl_countEnds_n7_l t)))

def impl_countEnds_n9_l (x1661 : List (Int × Int × Unit)) := (link_group (c := (cq [0,1] (bodyOf Try.f39))) (a := (aq [0,1] impl_countEnds_an)) [(cq [0] (bodyOf Try.f39))] [(aq [0] impl_countEnds_an)] rfl (link_seq (impl_countEnds_n1_l x1661) (fun (t : Unit) => (impl_countEnds_n8_l x1661))))

theorem impl_countEnds_e (x1661 : List (Int × Int × Unit)) {r : AV} {H' : Heap} (h : (Ans.mk _ (impl_countEnds x1661) (fun (t : Int × Int × Int × Int × Int × Int × Int × Int × Int) => (.agg [dI t.1, dI t.2.1, dI t.2.2.1, dI t.2.2.2.1, dI t.2.2.2.2.1, dI t.2.2.2.2.2.1, dI t.2.2.2.2.2.2.1, dI t.2.2.2.2.2.2.2.1, dI t.2.2.2.2.2.2.2.2], [some (sI ([t.1, t.2.1, t.2.2.1, t.2.2.2.1, t.2.2.2.2.1, t.2.2.2.2.2.1, t.2.2.2.2.2.2.1, t.2.2.2.2.2.2.2.1, t.2.2.2.2.2.2.2.2]))])) [] none).run = some (r, H')) : Awp impl_countEnds_ctx LL (bodyOf Try.f39) impl_countEnds_an ⟨mkE 26 0 [(0, .dat (.list (.pair (.int .i64) (.pair (.int .i64) .unit))) x1661)], []⟩ (Ret (tlook tys) Try.f39.results.toList r H') :=
  ret_of' (Link.cast (by kernel_rfl) (by kernel_rfl) (impl_countEnds_n9_l x1661)) (by unfold impl_countEnds; kernel_rfl) (by
  intro t
  exact ret_mk [.agg [dI t.1, dI t.2.1, dI t.2.2.1, dI t.2.2.2.1, dI t.2.2.2.2.1, dI t.2.2.2.2.2.1, dI t.2.2.2.2.2.2.1, dI t.2.2.2.2.2.2.2.1, dI t.2.2.2.2.2.2.2.2]] (by kernel_rfl) (by kernel_rfl) (by kernel_rfl) (by kernel_rfl)) h

def F_impl_countEnds : Fun := fun avs H =>
  match avs, H with
  | [.dat (.list (.pair (.int .i64) (.pair (.int .i64) .unit))) x1661], [] => ⟨_, impl_countEnds x1661, fun (t : Int × Int × Int × Int × Int × Int × Int × Int × Int) => (.agg [dI t.1, dI t.2.1, dI t.2.2.1, dI t.2.2.2.1, dI t.2.2.2.2.1, dI t.2.2.2.2.2.1, dI t.2.2.2.2.2.2.1, dI t.2.2.2.2.2.2.2.1, dI t.2.2.2.2.2.2.2.2], [some (sI ([t.1, t.2.1, t.2.2.1, t.2.2.2.1, t.2.2.2.2.1, t.2.2.2.2.2.1, t.2.2.2.2.2.2.1, t.2.2.2.2.2.2.2.1, t.2.2.2.2.2.2.2.2]))]), [], none⟩
  | _, _ => Ans.no

theorem impl_countEnds_sound : Sound Try.prog 39 F_impl_countEnds := by
  refine fn_sound' (C := impl_countEnds_ctx) (c := bodyOf Try.f39) (cok_of tys_ok (alln) (alln) (by kernel_rfl)) Try.func39 (by kernel_rfl) LL impl_countEnds_an ?_
  intro avs H r H' h
  unfold F_impl_countEnds at h
  split at h
  · refine Awp.cast ?_ ?_ ?_ (impl_countEnds_e _ h) <;> kernel_rfl
  · simp [Ans.no, Ans.run] at h


/-! loop.example/headtrees/spec.EndsOf -/

def spec_EndsOf_an : Ann := (.seq (.leaf [0]) (.seq (.leaf [0, 3]) (.seq (.seq (.leaf [0, 3, 4]) (.block (.loop (.seq (.seq (.leaf [0, 3, 4, 15]) (.cond (.leaf [0, 3, 4]) (.leaf [3]))) (.seq (.block (.seq (.leaf [0, 3, 4, 5]) (.seq (.seq (.leaf [0, 3, 4, 5, 22]) (.cond (.leaf [0, 3, 4, 5]) (.leaf [0, 3, 4, 5]))) (.seq (.seq (.leaf [0, 3, 4, 5, 6]) (.block (.loop (.seq (.seq (.leaf [0, 3, 4, 5, 6, 26]) (.cond (.leaf [0, 3, 4, 5, 6]) (.leaf [0, 3, 4, 5]))) (.seq (.block (.seq (.leaf [0, 3, 4, 5, 6, 35]) (.cond (.leaf [0, 3, 4, 5, 6]) (.leaf [0, 3, 4, 5, 6])))) (.leaf [0, 3, 4, 5, 6])))))) (.leaf [0, 3, 4]))))) (.leaf [0, 3, 4])))))) (.seq (.leaf [2]) (.leaf [2])))))

noncomputable def spec_EndsOf_ctx : Ctx := ⟨tlook tys, olook [(42, F_spec_TreeOk)], ioF, 0, false, []⟩

theorem spec_EndsOf_n1_l (x1883 : List Int) : Link spec_EndsOf_ctx LL (Code.seq (cq [0] (bodyOf Try.f15)) (cq [0,1] (bodyOf Try.f15))) (Ann.seq (aq [0] spec_EndsOf_an) (aq [0,1] spec_EndsOf_an)) ⟨mkE 43 0 [(0, dL x1883)], []⟩ (spec_EndsOf_n1) (fun (t : Unit) => (Exit.normal, ⟨mkE 43 0 [(0, dL x1883), (3, .slc 0)], [some (sI ([] : List Int))]⟩)) := .of fun K h => by
  simp only [spec_EndsOf_n1, wpW] at h
  exact .of (by kernel_rfl) h

theorem spec_EndsOf_n2_l (x1883 : List Int) : Link spec_EndsOf_ctx LL (cq [0,0,1,1] (bodyOf Try.f15)) (aq [0,0,1,1] spec_EndsOf_an) ⟨mkE 43 0 [(0, dL x1883), (3, .slc 0)], [some (sI ([] : List Int))]⟩ (spec_EndsOf_n2) (fun (t : Unit) => (Exit.normal, ⟨mkE 43 0 [(0, dL x1883), (3, .slc 0), (4, dI 0)], [some (sI ([] : List Int))]⟩)) := .of fun K h => by
  simp only [spec_EndsOf_n2, wpW] at h
  exact .of (by kernel_rfl) h

theorem spec_EndsOf_n3_l (x1883 : List Int) (x1933 : Int) (x1934 : List Int) : Link spec_EndsOf_ctx LL (cq [0,0,0,1,0,1,1] (bodyOf Try.f15)) (aq [0,0,0,1,0,1,1] spec_EndsOf_an) ⟨mkE 43 0 [(0, dL x1883), (3, .slc 0), (4, dI x1933)], [some (sI x1934)]⟩ (spec_EndsOf_n3 x1883 x1933 x1934) (Sum.elim (fun (t : Unit) => (Exit.normal, ⟨mkE 43 0 [(0, dL x1883), (3, .slc 0), (4, dI x1933)], [some (sI x1934)]⟩)) (fun (t : (List Int)) => ((Exit.exit 0), ⟨mkE 43 0 [(3, .slc 0)], [some (sI t)]⟩))) := .of fun K h => by
  simp only [spec_EndsOf_n3, wpW] at h
  exact .of (by kernel_rfl) h

theorem spec_EndsOf_n4_l (x1883 : List Int) (x1933 : Int) (x1934 : List Int) : Link spec_EndsOf_ctx LL (Code.seq (cq [0,0,0,1,0,0,1,0,1,1] (bodyOf Try.f15)) (cq [0,1,0,0,1,0,0,1,0,1,1] (bodyOf Try.f15))) (Ann.seq (aq [0,0,0,1,0,0,1,0,1,1] spec_EndsOf_an) (aq [0,1,0,0,1,0,0,1,0,1,1] spec_EndsOf_an)) ⟨mkE 43 0 [(0, dL x1883), (3, .slc 0), (4, dI x1933)], [some (sI x1934)]⟩ (spec_EndsOf_n4 x1883 x1933) (fun (t : Int) => (Exit.normal, ⟨mkE 43 0 [(0, dL x1883), (3, .slc 0), (4, dI x1933), (5, dI t)], [some (sI x1934)]⟩)) := .of fun K h => by
  simp only [spec_EndsOf_n4, wpW] at h
  exact .of (by kernel_rfl) h

theorem spec_EndsOf_n5_l (x1883 : List Int) (x1933 : Int) (x1940 : Int) (x1934 : List Int) : Link spec_EndsOf_ctx LL (cq [0,0,1,1,0,0,1,0,0,1,0,1,1] (bodyOf Try.f15)) (aq [0,0,1,1,0,0,1,0,0,1,0,1,1] spec_EndsOf_an) ⟨mkE 43 0 [(0, dL x1883), (3, .slc 0), (4, dI x1933), (5, dI x1940)], [some (sI x1934)]⟩ (spec_EndsOf_n5) (fun (t : Unit) => (Exit.normal, ⟨mkE 43 0 [(0, dL x1883), (3, .slc 0), (4, dI x1933), (5, dI x1940), (6, dI 0)], [some (sI x1934)]⟩)) := .of fun K h => by
  simp only [spec_EndsOf_n5, wpW] at h
  exact .of (by kernel_rfl) h

theorem spec_EndsOf_n6_l (x1883 : List Int) (x1933 : Int) (x1959 : Int) (x1960 : Int) (x1934 : List Int) : Link spec_EndsOf_ctx LL (cq [0,0,1,0,1,1,0,0,1,0,0,1,0,1,1] (bodyOf Try.f15)) (aq [0,0,1,0,1,1,0,0,1,0,0,1,0,1,1] spec_EndsOf_an) ⟨mkE 43 0 [(0, dL x1883), (3, .slc 0), (4, dI x1933), (5, dI x1959), (6, dI x1960)], [some (sI x1934)]⟩ (spec_EndsOf_n6 x1883 x1933 x1959 x1960) (Sum.elim (fun (t : Int × Int) => (Exit.normal, ⟨mkE 43 0 [(0, dL x1883), (3, .slc 0), (4, dI x1933), (5, dI t.1), (6, dI t.2)], [some (sI x1934)]⟩)) (fun (t : Int) => ((Exit.exit 2), ⟨mkE 43 0 [(0, dL x1883), (3, .slc 0), (4, dI x1933), (5, dI t)], [some (sI x1934)]⟩))) := .of fun K h => by
  simp only [spec_EndsOf_n6, wpW] at h
  exact .of (by kernel_rfl) h

def spec_EndsOf_n7_l (x1883 : List Int) (x1933 : Int) (x1940 : Int) (x1934 : List Int) := (link_loop (mk := fun (s : Int × Int) => ⟨mkE 43 0 [(0, dL x1883), (3, .slc 0), (4, dI x1933), (5, dI s.1), (6, dI s.2)], [some (sI x1934)]⟩) (fin := (fun (t : Int) => ((Exit.exit 2), ⟨mkE 43 0 [(0, dL x1883), (3, .slc 0), (4, dI x1933), (5, dI t)], [some (sI x1934)]⟩))) (by
  rintro t f K h
  · exact h) (fun s => link_map (spec_EndsOf_n6_l x1883 x1933 s.1 s.2 x1934) (Sum.elim (fun (t : Int × Int) => Sum.inl (t.1, t.2)) (fun (t : Int) => Sum.inr t)) (by
  rintro (t | t)
  · kernel_rfl
  · kernel_rfl)) (x1940, 0))

def spec_EndsOf_n8_l (x1883 : List Int) (x1933 : Int) (x1940 : Int) (x1934 : List Int) := (link_block (fin2 := (fun (t : Int) => (Exit.normal, ⟨mkE 43 0 [(0, dL x1883), (3, .slc 0), (4, dI x1933), (5, dI t)], [some (sI x1934)]⟩))) (id := 2) (spec_EndsOf_n7_l x1883 x1933 x1940 x1934) (fun (t : Int) => t) (by
  rintro t K h
  · exact Eq.mp (by kernel_rfl) h))

def spec_EndsOf_n9_l (x1883 : List Int) (x1933 : Int) (x1940 : Int) (x1934 : List Int) := (link_seq (spec_EndsOf_n5_l x1883 x1933 x1940 x1934) (fun (t : Unit) => (spec_EndsOf_n8_l x1883 x1933 x1940 x1934)))

theorem spec_EndsOf_n10_l (x1883 : List Int) (x1933 : Int) (x1959 : Int) (x1934 : List Int) : Link spec_EndsOf_ctx LL (cq [1,1,1,0,0,1,0,0,1,0,1,1] (bodyOf Try.f15)) (aq [1,1,1,0,0,1,0,0,1,0,1,1] spec_EndsOf_an) ⟨mkE 43 0 [(0, dL x1883), (3, .slc 0), (4, dI x1933), (5, dI x1959)], [some (sI x1934)]⟩ (spec_EndsOf_n10 x1959 x1934) (fun (t : (List Int)) => (Exit.normal, ⟨mkE 43 0 [(0, dL x1883), (3, .slc 0), (4, dI x1933)], [some (sI t)]⟩)) := .of fun K h => by
  simp only [spec_EndsOf_n10, wpW] at h
  exact .of (by kernel_rfl) h

def spec_EndsOf_n11_l (x1883 : List Int) (x1933 : Int) (x1940 : Int) (x1934 : List Int) := (link_seq (spec_EndsOf_n9_l x1883 x1933 x1940 x1934) (fun (t : Int) => (spec_EndsOf_n10_l x1883 x1933 t x1934)))

def spec_EndsOf_n12_l (x1883 : List Int) (x1933 : Int) (x1934 : List Int) := (link_group (c := (cq [0,1,0,0,1,0,0,1,0,1,1] (bodyOf Try.f15))) (a := (aq [0,1,0,0,1,0,0,1,0,1,1] spec_EndsOf_an)) [(cq [0,0,0,1,0,0,1,0,1,1] (bodyOf Try.f15))] [(aq [0,0,0,1,0,0,1,0,1,1] spec_EndsOf_an)] rfl (link_seq (spec_EndsOf_n4_l x1883 x1933 x1934) (fun (t : Int) => (spec_EndsOf_n11_l x1883 x1933 t x1934))))

def spec_EndsOf_n13_l (x1883 : List Int) (x1933 : Int) (x1934 : List Int) := (link_block (fin2 := (fun (t : (List Int)) => (Exit.normal, ⟨mkE 43 0 [(0, dL x1883), (3, .slc 0), (4, dI x1933)], [some (sI t)]⟩))) (id := 1) (spec_EndsOf_n12_l x1883 x1933 x1934) (fun (t : (List Int)) => t) (by
  rintro t K h
  · exact Eq.mp (by kernel_rfl) h))

theorem spec_EndsOf_n14_l (x1883 : List Int) (x1933 : Int) (x1982 : List Int) : Link spec_EndsOf_ctx LL (cq [1,1,0,0,1,0,1,1] (bodyOf Try.f15)) (aq [1,1,0,0,1,0,1,1] spec_EndsOf_an) ⟨mkE 43 0 [(0, dL x1883), (3, .slc 0), (4, dI x1933)], [some (sI x1982)]⟩ (spec_EndsOf_n14 x1933) (fun (t : Int) => (Exit.normal, ⟨mkE 43 0 [(0, dL x1883), (3, .slc 0), (4, dI t)], [some (sI x1982)]⟩)) := .of fun K h => by
  simp only [spec_EndsOf_n14, wpW] at h
  exact .of (by kernel_rfl) h

def spec_EndsOf_n15_l (x1883 : List Int) (x1933 : Int) (x1934 : List Int) := (link_seq (spec_EndsOf_n13_l x1883 x1933 x1934) (fun (t : (List Int)) => (link_map (fin2 := (fun (t : Int × (List Int)) => (Exit.normal, ⟨mkE 43 0 [(0, dL x1883), (3, .slc 0), (4, dI t.1)], [some (sI t.2)]⟩))) (spec_EndsOf_n14_l x1883 x1933 t) (fun (u : Int) => (u, t)) (by
  rintro t
  · kernel_rfl))))

def spec_EndsOf_n16_l (x1883 : List Int) (x1933 : Int) (x1934 : List Int) := (link_seq2 (spec_EndsOf_n3_l x1883 x1933 x1934) (fun (t : Unit) => (link_map (fin2 := (Sum.elim (fun (t : Int × (List Int)) => (Exit.normal, ⟨mkE 43 0 [(0, dL x1883), (3, .slc 0), (4, dI t.1)], [some (sI t.2)]⟩)) (fun (t : (List Int)) => ((Exit.exit 0), ⟨mkE 43 0 [(3, .slc 0)], [some (sI t)]⟩)))) (spec_EndsOf_n15_l x1883 x1933 x1934) (fun (t : Int × (List Int)) => (Sum.inl (t.1, t.2))) (by
  rintro t
  · kernel_rfl))) (fun (t : (List Int)) => (Sum.inr t)) (by
  rintro t
  · kernel_rfl) (by
  rintro t f K h
  · exact h))

def spec_EndsOf_n17_l (x1883 : List Int) := (link_loop (mk := fun (s : Int × (List Int)) => ⟨mkE 43 0 [(0, dL x1883), (3, .slc 0), (4, dI s.1)], [some (sI s.2)]⟩) (fin := (fun (t : (List Int)) => ((Exit.exit 0), ⟨mkE 43 0 [(3, .slc 0)], [some (sI t)]⟩))) (by
  rintro t f K h
  · exact h) (fun s => link_map (spec_EndsOf_n16_l x1883 s.1 s.2) (Sum.elim (fun (t : Int × (List Int)) => Sum.inl (t.1, t.2)) (fun (t : (List Int)) => Sum.inr t)) (by
  rintro (t | t)
  · kernel_rfl
  · kernel_rfl)) (0, ([] : List Int)))

def spec_EndsOf_n18_l (x1883 : List Int) := (link_block (fin2 := (fun (t : (List Int)) => (Exit.normal, ⟨mkE 43 0 [(3, .slc 0)], [some (sI t)]⟩))) (id := 0) (spec_EndsOf_n17_l x1883) (fun (t : (List Int)) => t) (by
  rintro t K h
  · exact Eq.mp (by kernel_rfl) h))

def spec_EndsOf_n19_l (x1883 : List Int) := (link_seq (spec_EndsOf_n2_l x1883) (fun (t : Unit) => (spec_EndsOf_n18_l x1883)))

theorem spec_EndsOf_n20_l (x1934 : List Int) : Link spec_EndsOf_ctx LL (cq [1,1,1] (bodyOf Try.f15)) (aq [1,1,1] spec_EndsOf_an) ⟨mkE 43 0 [(3, .slc 0)], [some (sI x1934)]⟩ (spec_EndsOf_n20 x1934) (fun (t : (List Int)) => (Exit.ret, ⟨mkE 43 0 [(2, .slc 0)], [some (sI t)]⟩)) := .of fun K h => by
  simp only [spec_EndsOf_n20, wpW] at h
  exact .of (by kernel_rfl) h

def spec_EndsOf_n21_l (x1883 : List Int) := (link_seq (spec_EndsOf_n19_l x1883) (fun (t : (List Int)) => (spec_EndsOf_n20_l t)))

def spec_EndsOf_n22_l (x1883 : List Int) := (link_group (c := (cq [0,1] (bodyOf Try.f15))) (a := (aq [0,1] spec_EndsOf_an)) [(cq [0] (bodyOf Try.f15))] [(aq [0] spec_EndsOf_an)] rfl (link_seq (spec_EndsOf_n1_l x1883) (fun (t : Unit) => (spec_EndsOf_n21_l x1883))))

theorem spec_EndsOf_e (x1883 : List Int) {r : AV} {H' : Heap} (h : (Ans.mk _ (spec_EndsOf x1883) (fun (t : (List Int)) => (.slc 0, [some (sI t)])) [] none).run = some (r, H')) : Awp spec_EndsOf_ctx LL (bodyOf Try.f15) spec_EndsOf_an ⟨mkE 43 0 [(0, dL x1883)], []⟩ (Ret (tlook tys) Try.f15.results.toList r H') :=
  ret_of' (Link.cast (by kernel_rfl) (by kernel_rfl) (spec_EndsOf_n22_l x1883)) (by unfold spec_EndsOf; kernel_rfl) (by
  intro t
  exact ret_mk [.slc 0] (by kernel_rfl) (by kernel_rfl) (by kernel_rfl) (by kernel_rfl)) h

def F_spec_EndsOf : Fun := fun avs H =>
  match avs, H with
  | [.dat (.list (.int .i64)) x1883], [] => ⟨_, spec_EndsOf x1883, fun (t : (List Int)) => (.slc 0, [some (sI t)]), [], none⟩
  | _, _ => Ans.no

theorem spec_EndsOf_sound : Sound Try.prog 15 F_spec_EndsOf := by
  refine fn_sound' (C := spec_EndsOf_ctx) (c := bodyOf Try.f15) (cok_of tys_ok (allc spec_TreeOk_sound alln) (allc Try.call42 alln) (by kernel_rfl)) Try.func15 (by kernel_rfl) LL spec_EndsOf_an ?_
  intro avs H r H' h
  unfold F_spec_EndsOf at h
  split at h
  · refine Awp.cast ?_ ?_ ?_ (spec_EndsOf_e _ h) <;> kernel_rfl
  · simp [Ans.no, Ans.run] at h


/-! loop.example/headtrees/impl.pairsAmong -/

def impl_pairsAmong_an : Ann := (.seq (.leaf [0]) (.seq (.leaf [2]) (.leaf [2])))

noncomputable def impl_pairsAmong_ctx : Ctx := ⟨tlook tys, olook [], ioF, 0, false, []⟩

theorem impl_pairsAmong_n1_l (x2485 : Int) : Link impl_pairsAmong_ctx LL (bodyOf Try.f46) impl_pairsAmong_an ⟨mkE 8 0 [(0, dI x2485)], []⟩ (impl_pairsAmong_n1 x2485) (fun (t : Int) => (Exit.ret, ⟨mkE 8 0 [(2, dI t)], []⟩)) := .of fun K h => by
  simp only [impl_pairsAmong_n1, wpW] at h
  exact .of (by kernel_rfl) h

theorem impl_pairsAmong_e (x2485 : Int) {r : AV} {H' : Heap} (h : (Ans.mk _ (impl_pairsAmong x2485) (fun (t : Int) => (dI t, [])) [] none).run = some (r, H')) : Awp impl_pairsAmong_ctx LL (bodyOf Try.f46) impl_pairsAmong_an ⟨mkE 8 0 [(0, dI x2485)], []⟩ (Ret (tlook tys) Try.f46.results.toList r H') :=
  ret_of' (impl_pairsAmong_n1_l x2485) (by unfold impl_pairsAmong; kernel_rfl) (by
  intro t
  exact ret_mk [dI t] (by kernel_rfl) (by kernel_rfl) (by kernel_rfl) (by kernel_rfl)) h

def F_impl_pairsAmong : Fun := fun avs H =>
  match avs, H with
  | [.dat (.int .i64) x2485], [] => ⟨_, impl_pairsAmong x2485, fun (t : Int) => (dI t, []), [], none⟩
  | _, _ => Ans.no

theorem impl_pairsAmong_sound : Sound Try.prog 46 F_impl_pairsAmong := by
  refine fn_sound' (C := impl_pairsAmong_ctx) (c := bodyOf Try.f46) (cok_of tys_ok (alln) (alln) (by kernel_rfl)) Try.func46 (by kernel_rfl) LL impl_pairsAmong_an ?_
  intro avs H r H' h
  unfold F_impl_pairsAmong at h
  split at h
  · refine Awp.cast ?_ ?_ ?_ (impl_pairsAmong_e _ h) <;> kernel_rfl
  · simp [Ans.no, Ans.run] at h


/-! loop.example/headtrees/impl.PairsApart -/

def impl_PairsApart_an : Ann := (.seq (.leaf [0]) (.seq (.seq (.leaf [0, 9]) (.cond (.seq (.leaf [2]) (.leaf [2])) (.leaf [0]))) (.seq (.leaf [3]) (.seq (.leaf [3, 4]) (.seq (.seq (.leaf [4, 16, 17]) (.block (.loop (.seq (.leaf [4, 16, 17, 18]) (.seq (.cond (.leaf [4, 16, 17]) (.leaf [4])) (.seq (.block (.seq (.leaf [4, 6, 16, 17]) (.leaf [4, 16, 17]))) (.leaf [4, 16, 17]))))))) (.seq (.leaf [2]) (.leaf [2])))))))

noncomputable def impl_PairsApart_ctx : Ctx := ⟨tlook tys, olook [(16, F_impl_TreeOk), (40, F_impl_arcsOf), (46, F_impl_pairsAmong), (39, F_impl_countEnds)], ioF, 0, false, []⟩

theorem impl_PairsApart_n1_l (x2475 : List Int) : Link impl_PairsApart_ctx LL (Code.seq (cq [0] (bodyOf Try.f20)) (Code.seq (cq [0,1] (bodyOf Try.f20)) (Code.seq (cq [0,1,1] (bodyOf Try.f20)) (cq [0,1,1,1] (bodyOf Try.f20))))) (Ann.seq (aq [0] impl_PairsApart_an) (Ann.seq (aq [0,1] impl_PairsApart_an) (Ann.seq (aq [0,1,1] impl_PairsApart_an) (aq [0,1,1,1] impl_PairsApart_an)))) ⟨mkE 26 0 [(0, dL x2475)], []⟩ (impl_PairsApart_n1 x2475) (Sum.elim (fun (t : Int × (List (Int × Int × Unit))) => (Exit.normal, ⟨mkE 26 0 [(3, .slc 0), (4, dI t.1)], [some (.seq (.pair (.int .i64) (.pair (.int .i64) .unit)) t.2)]⟩)) (fun (t : Int) => (Exit.ret, ⟨mkE 26 0 [(2, dI t)], []⟩))) := .of fun K h => by
  simp only [impl_PairsApart_n1, wpW] at h
  exact .of (by kernel_rfl) h

theorem impl_PairsApart_n2_l (x2492 : Int) (x2483 : List (Int × Int × Unit)) : Link impl_PairsApart_ctx LL (cq [0,0,1,1,1,1] (bodyOf Try.f20)) (aq [0,0,1,1,1,1] impl_PairsApart_an) ⟨mkE 26 0 [(3, .slc 0), (4, dI x2492)], [some (.seq (.pair (.int .i64) (.pair (.int .i64) .unit)) x2483)]⟩ (impl_PairsApart_n2 x2483) (fun (t : Int × Int × Int × Int × Int × Int × Int × Int × Int) => (Exit.normal, ⟨mkE 26 0 [(4, dI x2492), (16, .agg [dI t.1, dI t.2.1, dI t.2.2.1, dI t.2.2.2.1, dI t.2.2.2.2.1, dI t.2.2.2.2.2.1, dI t.2.2.2.2.2.2.1, dI t.2.2.2.2.2.2.2.1, dI t.2.2.2.2.2.2.2.2]), (17, dI 0)], []⟩)) := .of fun K h => by
  simp only [impl_PairsApart_n2, wpW] at h
  exact .of (by kernel_rfl) h

theorem impl_PairsApart_n3_l (x2514 : Int) (x2494 : Int) (x2495 : Int) (x2496 : Int) (x2497 : Int) (x2498 : Int) (x2499 : Int) (x2500 : Int) (x2501 : Int) (x2502 : Int) (x2515 : Int) : Link impl_PairsApart_ctx LL (cq [0,0,1,0,1,1,1,1] (bodyOf Try.f20)) (aq [0,0,1,0,1,1,1,1] impl_PairsApart_an) ⟨mkE 26 0 [(4, dI x2514), (16, .agg [dI x2494, dI x2495, dI x2496, dI x2497, dI x2498, dI x2499, dI x2500, dI x2501, dI x2502]), (17, dI x2515)], []⟩ (impl_PairsApart_n3 x2514 x2494 x2495 x2496 x2497 x2498 x2499 x2500 x2501 x2502 x2515) (Sum.elim (fun (t : Int × Int) => (Exit.normal, ⟨mkE 26 0 [(4, dI t.1), (16, .agg [dI x2494, dI x2495, dI x2496, dI x2497, dI x2498, dI x2499, dI x2500, dI x2501, dI x2502]), (17, dI t.2)], []⟩)) (fun (t : Int) => ((Exit.exit 0), ⟨mkE 26 0 [(4, dI t)], []⟩))) := .of fun K h => by
  simp only [impl_PairsApart_n3, wpW] at h
  exact .of (by kernel_rfl) h

def impl_PairsApart_n4_l (x2492 : Int) (x2494 : Int) (x2495 : Int) (x2496 : Int) (x2497 : Int) (x2498 : Int) (x2499 : Int) (x2500 : Int) (x2501 : Int) (x2502 : Int) := (link_loop (mk := fun (s : Int × Int) => ⟨mkE 26 0 [(4, dI s.1), (16, .agg [dI x2494, dI x2495, dI x2496, dI x2497, dI x2498, dI x2499, dI x2500, dI x2501, dI x2502]), (17, dI s.2)], []⟩) (fin := (fun (t : Int) => ((Exit.exit 0), ⟨mkE 26 0 [(4, dI t)], []⟩))) (by
  rintro t f K h
  · exact h) (fun s => link_map (impl_PairsApart_n3_l s.1 x2494 x2495 x2496 x2497 x2498 x2499 x2500 x2501 x2502 s.2) (Sum.elim (fun (t : Int × Int) => Sum.inl (t.1, t.2)) (fun (t : Int) => Sum.inr t)) (by
  rintro (t | t)
  · kernel_rfl
  · kernel_rfl)) (x2492, 0))

def impl_PairsApart_n5_l (x2492 : Int) (x2494 : Int) (x2495 : Int) (x2496 : Int) (x2497 : Int) (x2498 : Int) (x2499 : Int) (x2500 : Int) (x2501 : Int) (x2502 : Int) := (link_block (fin2 := (fun (t : Int) => (Exit.normal, ⟨mkE 26 0 [(4, dI t)], []⟩))) (id := 0) (impl_PairsApart_n4_l x2492 x2494 x2495 x2496 x2497 x2498 x2499 x2500 x2501 x2502) (fun (t : Int) => t) (by
  rintro t K h
  · exact Eq.mp (by kernel_rfl) h))

def impl_PairsApart_n6_l (x2492 : Int) (x2483 : List (Int × Int × Unit)) := (link_seq (impl_PairsApart_n2_l x2492 x2483) (fun (t : Int × Int × Int × Int × Int × Int × Int × Int × Int) => (impl_PairsApart_n5_l x2492 t.1 t.2.1 t.2.2.1 t.2.2.2.1 t.2.2.2.2.1 t.2.2.2.2.2.1 t.2.2.2.2.2.2.1 t.2.2.2.2.2.2.2.1 t.2.2.2.2.2.2.2.2)))

theorem impl_PairsApart_n7_l (x2514 : Int) : Link impl_PairsApart_ctx LL (cq [1,1,1,1,1] (bodyOf Try.f20)) (aq [1,1,1,1,1] impl_PairsApart_an) ⟨mkE 26 0 [(4, dI x2514)], []⟩ (impl_PairsApart_n7 x2514) (fun (t : Int) => (Exit.ret, ⟨mkE 26 0 [(2, dI t)], []⟩)) := .of fun K h => by
  simp only [impl_PairsApart_n7, wpW] at h
  exact .of (by kernel_rfl) h

def impl_PairsApart_n8_l (x2492 : Int) (x2483 : List (Int × Int × Unit)) := (link_seq (impl_PairsApart_n6_l x2492 x2483) (fun (t : Int) => (impl_PairsApart_n7_l t)))

def impl_PairsApart_n9_l (x2475 : List Int) := (link_group (c := (cq [0,1,1,1] (bodyOf Try.f20))) (a := (aq [0,1,1,1] impl_PairsApart_an)) [(cq [0] (bodyOf Try.f20)), (cq [0,1] (bodyOf Try.f20)), (cq [0,1,1] (bodyOf Try.f20))] [(aq [0] impl_PairsApart_an), (aq [0,1] impl_PairsApart_an), (aq [0,1,1] impl_PairsApart_an)] rfl (link_seq2 (impl_PairsApart_n1_l x2475) (fun (t : Int × (List (Int × Int × Unit))) => (impl_PairsApart_n8_l t.1 t.2)) (fun (t : Int) => t) (by
  rintro t
  · kernel_rfl) (by
  rintro t f K h
  · exact h)))

theorem impl_PairsApart_e (x2475 : List Int) {r : AV} {H' : Heap} (h : (Ans.mk _ (impl_PairsApart x2475) (fun (t : Int) => (dI t, [])) [] none).run = some (r, H')) : Awp impl_PairsApart_ctx LL (bodyOf Try.f20) impl_PairsApart_an ⟨mkE 26 0 [(0, dL x2475)], []⟩ (Ret (tlook tys) Try.f20.results.toList r H') :=
  ret_of' (Link.cast (by kernel_rfl) (by kernel_rfl) (impl_PairsApart_n9_l x2475)) (by unfold impl_PairsApart; kernel_rfl) (by
  intro t
  exact ret_mk [dI t] (by kernel_rfl) (by kernel_rfl) (by kernel_rfl) (by kernel_rfl)) h

def F_impl_PairsApart : Fun := fun avs H =>
  match avs, H with
  | [.dat (.list (.int .i64)) x2475], [] => ⟨_, impl_PairsApart x2475, fun (t : Int) => (dI t, []), [], none⟩
  | _, _ => Ans.no

theorem impl_PairsApart_sound : Sound Try.prog 20 F_impl_PairsApart := by
  refine fn_sound' (C := impl_PairsApart_ctx) (c := bodyOf Try.f20) (cok_of tys_ok (allc impl_TreeOk_sound (allc impl_arcsOf_sound (allc impl_pairsAmong_sound (allc impl_countEnds_sound alln)))) (allc Try.call16 (allc Try.call40 (allc Try.call46 (allc Try.call39 alln)))) (by kernel_rfl)) Try.func20 (by kernel_rfl) LL impl_PairsApart_an ?_
  intro avs H r H' h
  unfold F_impl_PairsApart at h
  split at h
  · refine Awp.cast ?_ ?_ ?_ (impl_PairsApart_e _ h) <;> kernel_rfl
  · simp [Ans.no, Ans.run] at h


/-! loop.example/headtrees/spec.PairsApart -/

def spec_PairsApart_an : Ann := (.seq (.leaf [0]) (.seq (.seq (.leaf [0, 8]) (.cond (.seq (.leaf [2]) (.leaf [2])) (.leaf [0]))) (.seq (.leaf [0, 3]) (.seq (.leaf [3, 4]) (.seq (.seq (.leaf [3, 4, 5]) (.block (.loop (.seq (.seq (.leaf [3, 4, 5, 22]) (.cond (.leaf [3, 4, 5]) (.leaf [3]))) (.seq (.block (.draw [] [0, 1, 2, 3, 4, 5, 6, 7, 8, 9, 10, 11, 12, 13] [] [3, 4, 5])) (.leaf [3, 4, 5])))))) (.seq (.leaf [2]) (.leaf [2])))))))

noncomputable def spec_PairsApart_ctx : Ctx := ⟨tlook tys, olook [(42, F_spec_TreeOk), (15, F_spec_EndsOf)], ioF, 0, false, []⟩

theorem spec_PairsApart_n1_l (x2533 : List Int) : Link spec_PairsApart_ctx LL (Code.seq (cq [0] (bodyOf Try.f21)) (Code.seq (cq [0,1] (bodyOf Try.f21)) (Code.seq (cq [0,1,1] (bodyOf Try.f21)) (cq [0,1,1,1] (bodyOf Try.f21))))) (Ann.seq (aq [0] spec_PairsApart_an) (Ann.seq (aq [0,1] spec_PairsApart_an) (Ann.seq (aq [0,1,1] spec_PairsApart_an) (aq [0,1,1,1] spec_PairsApart_an)))) ⟨mkE 39 0 [(0, dL x2533)], []⟩ (spec_PairsApart_n1 x2533) (Sum.elim (fun (t : Int × (List Int)) => (Exit.normal, ⟨mkE 39 0 [(3, dI t.1), (4, .slc 0)], [some (sI t.2)]⟩)) (fun (t : Int) => (Exit.ret, ⟨mkE 39 0 [(2, dI t)], []⟩))) := .of fun K h => by
  simp only [spec_PairsApart_n1, wpW] at h
  exact .of (by kernel_rfl) h

theorem spec_PairsApart_n2_l (x2551 : Int) (x2552 : List Int) : Link spec_PairsApart_ctx LL (cq [0,0,1,1,1,1] (bodyOf Try.f21)) (aq [0,0,1,1,1,1] spec_PairsApart_an) ⟨mkE 39 0 [(3, dI x2551), (4, .slc 0)], [some (sI x2552)]⟩ (spec_PairsApart_n2) (fun (t : Unit) => (Exit.normal, ⟨mkE 39 0 [(3, dI x2551), (4, .slc 0), (5, dI 0)], [some (sI x2552)]⟩)) := .of fun K h => by
  simp only [spec_PairsApart_n2, wpW] at h
  exact .of (by kernel_rfl) h

theorem spec_PairsApart_n3_l (x2576 : Int) (x2577 : Int) (x2552 : List Int) : Link spec_PairsApart_ctx LL (cq [0,0,1,0,1,1,1,1] (bodyOf Try.f21)) (aq [0,0,1,0,1,1,1,1] spec_PairsApart_an) ⟨mkE 39 0 [(3, dI x2576), (4, .slc 0), (5, dI x2577)], [some (sI x2552)]⟩ (spec_PairsApart_n3 x2576 x2577 x2552) (Sum.elim (fun (t : Int × Int) => (Exit.normal, ⟨mkE 39 0 [(3, dI t.1), (4, .slc 0), (5, dI t.2)], [some (sI x2552)]⟩)) (fun (t : Int) => ((Exit.exit 0), ⟨mkE 39 0 [(3, dI t)], []⟩))) := .of fun K h => by
  simp only [spec_PairsApart_n3, wpW] at h
  exact .of (by kernel_rfl) h

def spec_PairsApart_n4_l (x2551 : Int) (x2552 : List Int) := (link_loop (mk := fun (s : Int × Int) => ⟨mkE 39 0 [(3, dI s.1), (4, .slc 0), (5, dI s.2)], [some (sI x2552)]⟩) (fin := (fun (t : Int) => ((Exit.exit 0), ⟨mkE 39 0 [(3, dI t)], []⟩))) (by
  rintro t f K h
  · exact h) (fun s => link_map (spec_PairsApart_n3_l s.1 s.2 x2552) (Sum.elim (fun (t : Int × Int) => Sum.inl (t.1, t.2)) (fun (t : Int) => Sum.inr t)) (by
  rintro (t | t)
  · kernel_rfl
  · kernel_rfl)) (x2551, 0))

def spec_PairsApart_n5_l (x2551 : Int) (x2552 : List Int) := (link_block (fin2 := (fun (t : Int) => (Exit.normal, ⟨mkE 39 0 [(3, dI t)], []⟩))) (id := 0) (spec_PairsApart_n4_l x2551 x2552) (fun (t : Int) => t) (by
  rintro t K h
  · exact Eq.mp (by kernel_rfl) h))

def spec_PairsApart_n6_l (x2551 : Int) (x2552 : List Int) := (link_seq (spec_PairsApart_n2_l x2551 x2552) (fun (t : Unit) => (spec_PairsApart_n5_l x2551 x2552)))

theorem spec_PairsApart_n7_l (x2576 : Int) : Link spec_PairsApart_ctx LL (cq [1,1,1,1,1] (bodyOf Try.f21)) (aq [1,1,1,1,1] spec_PairsApart_an) ⟨mkE 39 0 [(3, dI x2576)], []⟩ (spec_PairsApart_n7 x2576) (fun (t : Int) => (Exit.ret, ⟨mkE 39 0 [(2, dI t)], []⟩)) := .of fun K h => by
  simp only [spec_PairsApart_n7, wpW] at h
  exact .of (by kernel_rfl) h

def spec_PairsApart_n8_l (x2551 : Int) (x2552 : List Int) := (link_seq (spec_PairsApart_n6_l x2551 x2552) (fun (t : Int) => (spec_PairsApart_n7_l t)))

def spec_PairsApart_n9_l (x2533 : List Int) := (link_group (c := (cq [0,1,1,1] (bodyOf Try.f21))) (a := (aq [0,1,1,1] spec_PairsApart_an)) [(cq [0] (bodyOf Try.f21)), (cq [0,1] (bodyOf Try.f21)), (cq [0,1,1] (bodyOf Try.f21))] [(aq [0] spec_PairsApart_an), (aq [0,1] spec_PairsApart_an), (aq [0,1,1] spec_PairsApart_an)] rfl (link_seq2 (spec_PairsApart_n1_l x2533) (fun (t : Int × (List Int)) => (spec_PairsApart_n8_l t.1 t.2)) (fun (t : Int) => t) (by
  rintro t
  · kernel_rfl) (by
  rintro t f K h
  · exact h)))

theorem spec_PairsApart_e (x2533 : List Int) {r : AV} {H' : Heap} (h : (Ans.mk _ (spec_PairsApart x2533) (fun (t : Int) => (dI t, [])) [] none).run = some (r, H')) : Awp spec_PairsApart_ctx LL (bodyOf Try.f21) spec_PairsApart_an ⟨mkE 39 0 [(0, dL x2533)], []⟩ (Ret (tlook tys) Try.f21.results.toList r H') :=
  ret_of' (Link.cast (by kernel_rfl) (by kernel_rfl) (spec_PairsApart_n9_l x2533)) (by unfold spec_PairsApart; kernel_rfl) (by
  intro t
  exact ret_mk [dI t] (by kernel_rfl) (by kernel_rfl) (by kernel_rfl) (by kernel_rfl)) h

def F_spec_PairsApart : Fun := fun avs H =>
  match avs, H with
  | [.dat (.list (.int .i64)) x2533], [] => ⟨_, spec_PairsApart x2533, fun (t : Int) => (dI t, []), [], none⟩
  | _, _ => Ans.no

theorem spec_PairsApart_sound : Sound Try.prog 21 F_spec_PairsApart := by
  refine fn_sound' (C := spec_PairsApart_ctx) (c := bodyOf Try.f21) (cok_of tys_ok (allc spec_TreeOk_sound (allc spec_EndsOf_sound alln)) (allc Try.call42 (allc Try.call15 alln)) (by kernel_rfl)) Try.func21 (by kernel_rfl) LL spec_PairsApart_an ?_
  intro avs H r H' h
  unfold F_spec_PairsApart at h
  split at h
  · refine Awp.cast ?_ ?_ ?_ (spec_PairsApart_e _ h) <;> kernel_rfl
  · simp [Ans.no, Ans.run] at h


/-! loop.example/headtrees/laws.toIntS -/

def laws_toIntS_an : Ann := (.seq (.leaf [0]) (.seq (.leaf [0, 3]) (.seq (.seq (.leaf [0, 3, 4]) (.block (.loop (.seq (.seq (.leaf [0, 3, 4, 11]) (.cond (.leaf [0, 3, 4]) (.leaf [3]))) (.seq (.block (.leaf [0, 3, 4])) (.leaf [0, 3, 4])))))) (.seq (.leaf [2]) (.leaf [2])))))

noncomputable def laws_toIntS_ctx : Ctx := ⟨tlook tys, olook [], ioF, 0, false, []⟩

theorem laws_toIntS_n1_l (x5381 : List Int) : Link laws_toIntS_ctx LL (Code.seq (cq [0] (bodyOf Try.f32)) (cq [0,1] (bodyOf Try.f32))) (Ann.seq (aq [0] laws_toIntS_an) (aq [0,1] laws_toIntS_an)) ⟨mkE 22 0 [(0, dL x5381)], []⟩ (laws_toIntS_n1 x5381) (fun (t : (List Int)) => (Exit.normal, ⟨mkE 22 0 [(0, dL x5381), (3, .slc 0)], [some (sI t)]⟩)) := .of fun K h => by
  simp only [laws_toIntS_n1, wpW] at h
  exact .of (by kernel_rfl) h

theorem laws_toIntS_n2_l (x5381 : List Int) (x5384 : List Int) : Link laws_toIntS_ctx LL (cq [0,0,1,1] (bodyOf Try.f32)) (aq [0,0,1,1] laws_toIntS_an) ⟨mkE 22 0 [(0, dL x5381), (3, .slc 0)], [some (sI x5384)]⟩ (laws_toIntS_n2) (fun (t : Unit) => (Exit.normal, ⟨mkE 22 0 [(0, dL x5381), (3, .slc 0), (4, dI 0)], [some (sI x5384)]⟩)) := .of fun K h => by
  simp only [laws_toIntS_n2, wpW] at h
  exact .of (by kernel_rfl) h

theorem laws_toIntS_n3_l (x5381 : List Int) (x5398 : Int) (x5399 : List Int) : Link laws_toIntS_ctx LL (cq [0,0,1,0,1,1] (bodyOf Try.f32)) (aq [0,0,1,0,1,1] laws_toIntS_an) ⟨mkE 22 0 [(0, dL x5381), (3, .slc 0), (4, dI x5398)], [some (sI x5399)]⟩ (laws_toIntS_n3 x5381 x5398 x5399) (Sum.elim (fun (t : Int × (List Int)) => (Exit.normal, ⟨mkE 22 0 [(0, dL x5381), (3, .slc 0), (4, dI t.1)], [some (sI t.2)]⟩)) (fun (t : (List Int)) => ((Exit.exit 0), ⟨mkE 22 0 [(3, .slc 0)], [some (sI t)]⟩))) := .of fun K h => by
  simp only [laws_toIntS_n3, wpW] at h
  exact .of (by kernel_rfl) h

def laws_toIntS_n4_l (x5381 : List Int) (x5384 : List Int) := (link_loop (mk := fun (s : Int × (List Int)) => ⟨mkE 22 0 [(0, dL x5381), (3, .slc 0), (4, dI s.1)], [some (sI s.2)]⟩) (fin := (fun (t : (List Int)) => ((Exit.exit 0), ⟨mkE 22 0 [(3, .slc 0)], [some (sI t)]⟩))) (by
  rintro t f K h
  · exact h) (fun s => link_map (laws_toIntS_n3_l x5381 s.1 s.2) (Sum.elim (fun (t : Int × (List Int)) => Sum.inl (t.1, t.2)) (fun (t : (List Int)) => Sum.inr t)) (by
  rintro (t | t)
  · kernel_rfl
  · kernel_rfl)) (0, x5384))

def laws_toIntS_n5_l (x5381 : List Int) (x5384 : List Int) := (link_block (fin2 := (fun (t : (List Int)) => (Exit.normal, ⟨mkE 22 0 [(3, .slc 0)], [some (sI t)]⟩))) (id := 0) (laws_toIntS_n4_l x5381 x5384) (fun (t : (List Int)) => t) (by
  rintro t K h
  · exact Eq.mp (by kernel_rfl) h))

def laws_toIntS_n6_l (x5381 : List Int) (x5384 : List Int) := (link_seq (laws_toIntS_n2_l x5381 x5384) (fun (t : Unit) => (laws_toIntS_n5_l x5381 x5384)))

theorem laws_toIntS_n7_l (x5399 : List Int) : Link laws_toIntS_ctx LL (cq [1,1,1] (bodyOf Try.f32)) (aq [1,1,1] laws_toIntS_an) ⟨mkE 22 0 [(3, .slc 0)], [some (sI x5399)]⟩ (laws_toIntS_n7 x5399) (fun (t : (List Int)) => (Exit.ret, ⟨mkE 22 0 [(2, .slc 0)], [some (sI t)]⟩)) := .of fun K h => by
  simp only [laws_toIntS_n7, wpW] at h
  exact .of (by kernel_rfl) h

def laws_toIntS_n8_l (x5381 : List Int) (x5384 : List Int) := (link_seq (laws_toIntS_n6_l x5381 x5384) (fun (t : (List Int)) => (laws_toIntS_n7_l t)))

def laws_toIntS_n9_l (x5381 : List Int) := (link_group (c := (cq [0,1] (bodyOf Try.f32))) (a := (aq [0,1] laws_toIntS_an)) [(cq [0] (bodyOf Try.f32))] [(aq [0] laws_toIntS_an)] rfl (link_seq (laws_toIntS_n1_l x5381) (fun (t : (List Int)) => (laws_toIntS_n8_l x5381 t))))

theorem laws_toIntS_e (x5381 : List Int) {r : AV} {H' : Heap} (h : (Ans.mk _ (laws_toIntS x5381) (fun (t : (List Int)) => (.slc 0, [some (sI t)])) [] none).run = some (r, H')) : Awp laws_toIntS_ctx LL (bodyOf Try.f32) laws_toIntS_an ⟨mkE 22 0 [(0, dL x5381)], []⟩ (Ret (tlook tys) Try.f32.results.toList r H') :=
  ret_of' (Link.cast (by kernel_rfl) (by kernel_rfl) (laws_toIntS_n9_l x5381)) (by unfold laws_toIntS; kernel_rfl) (by
  intro t
  exact ret_mk [.slc 0] (by kernel_rfl) (by kernel_rfl) (by kernel_rfl) (by kernel_rfl)) h

def F_laws_toIntS : Fun := fun avs H =>
  match avs, H with
  | [.dat (.list (.int .i64)) x5381], [] => ⟨_, laws_toIntS x5381, fun (t : (List Int)) => (.slc 0, [some (sI t)]), [], none⟩
  | _, _ => Ans.no

theorem laws_toIntS_sound : Sound Try.prog 32 F_laws_toIntS := by
  refine fn_sound' (C := laws_toIntS_ctx) (c := bodyOf Try.f32) (cok_of tys_ok (alln) (alln) (by kernel_rfl)) Try.func32 (by kernel_rfl) LL laws_toIntS_an ?_
  intro avs H r H' h
  unfold F_laws_toIntS at h
  split at h
  · refine Awp.cast ?_ ?_ ?_ (laws_toIntS_e _ h) <;> kernel_rfl
  · simp [Ans.no, Ans.run] at h


/-! loop.example/headtrees/laws.eqIntS -/

def laws_eqIntS_an : Ann := (.seq (.leaf [0, 1]) (.seq (.seq (.leaf [0, 1, 10]) (.cond (.seq (.leaf [4]) (.leaf [4])) (.leaf [0, 1]))) (.seq (.seq (.leaf [0, 1, 5]) (.block (.loop (.seq (.seq (.leaf [0, 1, 5, 14]) (.cond (.leaf [0, 1, 5]) (.leaf []))) (.seq (.block (.seq (.draw [] [0, 1, 2, 3, 4, 5, 6, 7, 8] [] [0, 1, 5, 25]) (.cond (.seq (.leaf [4]) (.leaf [4])) (.leaf [0, 1, 5])))) (.leaf [0, 1, 5])))))) (.seq (.leaf [4]) (.leaf [4])))))

noncomputable def laws_eqIntS_ctx : Ctx := ⟨tlook tys, olook [], ioF, 0, false, []⟩

theorem laws_eqIntS_n1_l (x5432 : List Int) (x5433 : List Int) : Link laws_eqIntS_ctx LL (Code.seq (cq [0] (bodyOf Try.f33)) (cq [0,1] (bodyOf Try.f33))) (Ann.seq (aq [0] laws_eqIntS_an) (aq [0,1] laws_eqIntS_an)) ⟨mkE 26 0 [(0, dL x5432), (1, dL x5433)], []⟩ (laws_eqIntS_n1 x5432 x5433) (Sum.elim (fun (t : Unit) => (Exit.normal, ⟨mkE 26 0 [(0, dL x5432), (1, dL x5433)], []⟩)) (fun (t : Bool) => (Exit.ret, ⟨mkE 26 0 [(4, dB t)], []⟩))) := .of fun K h => by
  simp only [laws_eqIntS_n1, wpW] at h
  exact .of (by kernel_rfl) h

theorem laws_eqIntS_n2_l (x5432 : List Int) (x5433 : List Int) : Link laws_eqIntS_ctx LL (cq [0,0,1,1] (bodyOf Try.f33)) (aq [0,0,1,1] laws_eqIntS_an) ⟨mkE 26 0 [(0, dL x5432), (1, dL x5433)], []⟩ (laws_eqIntS_n2) (fun (t : Unit) => (Exit.normal, ⟨mkE 26 0 [(0, dL x5432), (1, dL x5433), (5, dI 0)], []⟩)) := .of fun K h => by
  simp only [laws_eqIntS_n2, wpW] at h
  exact .of (by kernel_rfl) h

theorem laws_eqIntS_n3_l (x5432 : List Int) (x5433 : List Int) (x5450 : Int) : Link laws_eqIntS_ctx LL (cq [0,0,1,0,1,1] (bodyOf Try.f33)) (aq [0,0,1,0,1,1] laws_eqIntS_an) ⟨mkE 26 0 [(0, dL x5432), (1, dL x5433), (5, dI x5450)], []⟩ (laws_eqIntS_n3 x5432 x5433 x5450) (Sum.elim (fun (t : Int) => (Exit.normal, ⟨mkE 26 0 [(0, dL x5432), (1, dL x5433), (5, dI t)], []⟩)) (Sum.elim (fun (t : Bool) => (Exit.ret, ⟨mkE 26 0 [(4, dB t)], []⟩)) (fun (t : Unit) => ((Exit.exit 0), ⟨mkE 26 0 [], []⟩)))) := .of fun K h => by
  simp only [laws_eqIntS_n3, wpW] at h
  exact .of (by kernel_rfl) h

def laws_eqIntS_n4_l (x5432 : List Int) (x5433 : List Int) := (link_loop (mk := fun (s : Int) => ⟨mkE 26 0 [(0, dL x5432), (1, dL x5433), (5, dI s)], []⟩) (fin := (Sum.elim (fun (t : Bool) => (Exit.ret, ⟨mkE 26 0 [(4, dB t)], []⟩)) (fun (t : Unit) => ((Exit.exit 0), ⟨mkE 26 0 [], []⟩)))) (by
  rintro (t | t) f K h
  · exact h
  · exact h) (fun s => link_map (laws_eqIntS_n3_l x5432 x5433 s) (Sum.elim (fun (t : Int) => Sum.inl t) (Sum.elim (fun (t : Bool) => Sum.inr (Sum.inl t)) (fun (t : Unit) => Sum.inr (Sum.inr t)))) (by
  rintro (t | t | t)
  · kernel_rfl
  · kernel_rfl
  · kernel_rfl)) 0)

def laws_eqIntS_n5_l (x5432 : List Int) (x5433 : List Int) := (link_block (fin2 := (Sum.elim (fun (t : Unit) => (Exit.normal, ⟨mkE 26 0 [], []⟩)) (fun (t : Bool) => (Exit.ret, ⟨mkE 26 0 [(4, dB t)], []⟩)))) (id := 0) (laws_eqIntS_n4_l x5432 x5433) (Sum.elim (fun (t : Bool) => (Sum.inr t)) (fun (t : Unit) => (Sum.inl ()))) (by
  rintro (t | t) K h
  · exact Eq.mp (by kernel_rfl) h
  · exact Eq.mp (by kernel_rfl) h))

def laws_eqIntS_n6_l (x5432 : List Int) (x5433 : List Int) := (link_seq (laws_eqIntS_n2_l x5432 x5433) (fun (t : Unit) => (laws_eqIntS_n5_l x5432 x5433)))

theorem laws_eqIntS_n7_l : Link laws_eqIntS_ctx LL (cq [1,1,1] (bodyOf Try.f33)) (aq [1,1,1] laws_eqIntS_an) ⟨mkE 26 0 [], []⟩ (laws_eqIntS_n7) (fun (t : Bool) => (Exit.ret, ⟨mkE 26 0 [(4, dB t)], []⟩)) := .of fun K h => by
  simp only [laws_eqIntS_n7, wpW] at h
  exact .of (by kernel_rfl) h

def laws_eqIntS_n8_l (x5432 : List Int) (x5433 : List Int) := (link_seq2 (laws_eqIntS_n6_l x5432 x5433) (fun (t : Unit) => (laws_eqIntS_n7_l)) (fun (t : Bool) => t) (by
  rintro t
  · kernel_rfl) (by
  rintro t f K h
  · exact h))

def laws_eqIntS_n9_l (x5432 : List Int) (x5433 : List Int) := (link_group (c := (cq [0,1] (bodyOf Try.f33))) (a := (aq [0,1] laws_eqIntS_an)) [(cq [0] (bodyOf Try.f33))] [(aq [0] laws_eqIntS_an)] rfl (link_seq2 (laws_eqIntS_n1_l x5432 x5433) (fun (t : Unit) => (laws_eqIntS_n8_l x5432 x5433)) (fun (t : Bool) => t) (by
  rintro t
  · kernel_rfl) (by
  rintro t f K h
  · exact h)))

theorem laws_eqIntS_e (x5432 : List Int) (x5433 : List Int) {r : AV} {H' : Heap} (h : (Ans.mk _ (laws_eqIntS x5432 x5433) (fun (t : Bool) => (dB t, [])) [] none).run = some (r, H')) : Awp laws_eqIntS_ctx LL (bodyOf Try.f33) laws_eqIntS_an ⟨mkE 26 0 [(0, dL x5432), (1, dL x5433)], []⟩ (Ret (tlook tys) Try.f33.results.toList r H') :=
  ret_of' (Link.cast (by kernel_rfl) (by kernel_rfl) (laws_eqIntS_n9_l x5432 x5433)) (by unfold laws_eqIntS; kernel_rfl) (by
  intro t
  exact ret_mk [dB t] (by kernel_rfl) (by kernel_rfl) (by kernel_rfl) (by kernel_rfl)) h

def F_laws_eqIntS : Fun := fun avs H =>
  match avs, H with
  | [.dat (.list (.int .i64)) x5432, .dat (.list (.int .i64)) x5433], [] => ⟨_, laws_eqIntS x5432 x5433, fun (t : Bool) => (dB t, []), [], none⟩
  | _, _ => Ans.no

theorem laws_eqIntS_sound : Sound Try.prog 33 F_laws_eqIntS := by
  refine fn_sound' (C := laws_eqIntS_ctx) (c := bodyOf Try.f33) (cok_of tys_ok (alln) (alln) (by kernel_rfl)) Try.func33 (by kernel_rfl) LL laws_eqIntS_an ?_
  intro avs H r H' h
  unfold F_laws_eqIntS at h
  split at h
  · refine Awp.cast ?_ ?_ ?_ (laws_eqIntS_e _ _ h) <;> kernel_rfl
  · simp [Ans.no, Ans.run] at h


/-! loop.example/headtrees/laws.FnExactPairsApart -/

def laws_FnExactPairsApart_an : Ann := (.seq (.leaf [0]) (.seq (.seq (.leaf [0, 8]) (.cond (.seq (.leaf [2]) (.leaf [2])) (.leaf [0]))) (.seq (.leaf [0, 3]) (.seq (.leaf [0, 3, 4]) (.seq (.leaf [0, 3, 4, 5]) (.seq (.seq (.leaf [0, 4, 18]) (.cond (.seq (.leaf [2]) (.leaf [2])) (.leaf [0, 4]))) (.seq (.seq (.leaf [23]) (.cond (.seq (.leaf [2]) (.leaf [2])) (.leaf []))) (.seq (.leaf [2]) (.leaf [2])))))))))

noncomputable def laws_FnExactPairsApart_ctx : Ctx := ⟨tlook tys, olook [(32, F_laws_toIntS), (21, F_spec_PairsApart), (20, F_impl_PairsApart), (33, F_laws_eqIntS)], ioF, 0, false, []⟩

theorem laws_FnExactPairsApart_n1_l (x5933 : List Int) : Link laws_FnExactPairsApart_ctx LL (bodyOf Try.f8) laws_FnExactPairsApart_an ⟨mkE 24 0 [(0, dL x5933)], []⟩ (laws_FnExactPairsApart_n1 x5933) (fun (t : Bool) => (Exit.ret, ⟨mkE 24 0 [(2, dB t)], []⟩)) := .of fun K h => by
  simp only [laws_FnExactPairsApart_n1, wpW] at h
  exact .of (by kernel_rfl) h

theorem laws_FnExactPairsApart_e (x5933 : List Int) {r : AV} {H' : Heap} (h : (Ans.mk _ (laws_FnExactPairsApart x5933) (fun (t : Bool) => (dB t, [])) [] none).run = some (r, H')) : Awp laws_FnExactPairsApart_ctx LL (bodyOf Try.f8) laws_FnExactPairsApart_an ⟨mkE 24 0 [(0, dL x5933)], []⟩ (Ret (tlook tys) Try.f8.results.toList r H') :=
  ret_of' (laws_FnExactPairsApart_n1_l x5933) (by unfold laws_FnExactPairsApart; kernel_rfl) (by
  intro t
  exact ret_mk [dB t] (by kernel_rfl) (by kernel_rfl) (by kernel_rfl) (by kernel_rfl)) h

def F_laws_FnExactPairsApart : Fun := fun avs H =>
  match avs, H with
  | [.dat (.list (.int .i64)) x5933], [] => ⟨_, laws_FnExactPairsApart x5933, fun (t : Bool) => (dB t, []), [], none⟩
  | _, _ => Ans.no

theorem laws_FnExactPairsApart_sound : Sound Try.prog 8 F_laws_FnExactPairsApart := by
  refine fn_sound' (C := laws_FnExactPairsApart_ctx) (c := bodyOf Try.f8) (cok_of tys_ok (allc laws_toIntS_sound (allc spec_PairsApart_sound (allc impl_PairsApart_sound (allc laws_eqIntS_sound alln)))) (allc Try.call32 (allc Try.call21 (allc Try.call20 (allc Try.call33 alln)))) (by kernel_rfl)) Try.func8 (by kernel_rfl) LL laws_FnExactPairsApart_an ?_
  intro avs H r H' h
  unfold F_laws_FnExactPairsApart at h
  split at h
  · refine Awp.cast ?_ ?_ ?_ (laws_FnExactPairsApart_e _ h) <;> kernel_rfl
  · simp [Ans.no, Ans.run] at h


end Go.Rv
