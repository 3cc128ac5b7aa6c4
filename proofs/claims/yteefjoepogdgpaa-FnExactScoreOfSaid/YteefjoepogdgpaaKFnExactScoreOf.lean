/-
  The checked code answers as the plain functions do; written by program. Conditions: none.
-/
import Derived.Test.YteefjoepogdgpaaGFnExactScoreOf
import Derived.Test.YteefjoepogdgpaaProg
set_option linter.unusedVariables false
set_option linter.unusedSimpArgs false
set_option linter.defProp false
set_option maxRecDepth 100000
namespace Go.Rv
open Go.Proofs
theorem ty3 : TIOk Try.prog 3 ⟨.int .i64, 1, 8, some (.int .i64), [.int .i64 0], false⟩ := ⟨⟨infoOf (Try.prog.info? 3), by kernel_rfl, by kernel_rfl, by kernel_rfl, .int .i64 0, by kernel_rfl, by kernel_rfl⟩, (by kernel_rfl : Try.prog.underlying 3 = some (.int .i64)), no_eq⟩
theorem ty4 : TIOk Try.prog 4 ⟨.bool, 1, 1, some .bool, [.bool false], false⟩ := ⟨⟨infoOf (Try.prog.info? 4), by kernel_rfl, by kernel_rfl, by kernel_rfl, .bool false, by kernel_rfl, by kernel_rfl⟩, (by kernel_rfl : Try.prog.underlying 4 = some .bool), no_eq⟩
theorem ty5 : TIOk Try.prog 5 ⟨.int .u8, 1, 1, some (.int .u8), [.int .u8 0], false⟩ := ⟨⟨infoOf (Try.prog.info? 5), by kernel_rfl, by kernel_rfl, by kernel_rfl, .int .u8 0, by kernel_rfl, by kernel_rfl⟩, (by kernel_rfl : Try.prog.underlying 5 = some (.int .u8)), no_eq⟩
theorem ty22 : TIOk Try.prog 22 ⟨.slice 5, 1, 24, some (.list (.int .u8)), [.slice none 0 0], false⟩ := ⟨⟨infoOf (Try.prog.info? 22), by kernel_rfl, by kernel_rfl, by kernel_rfl, .slice none 0 0, by kernel_rfl, by kernel_rfl⟩, (by kernel_rfl : Try.prog.underlying 22 = some (.slice 5)), no_eq⟩
theorem ty23 : TIOk Try.prog 23 ⟨.slice 26, 1, 24, some (.list (.list (.int .i64))), [.slice none 0 0], false⟩ := ⟨⟨infoOf (Try.prog.info? 23), by kernel_rfl, by kernel_rfl, by kernel_rfl, .slice none 0 0, by kernel_rfl, by kernel_rfl⟩, (by kernel_rfl : Try.prog.underlying 23 = some (.slice 26)), no_eq⟩
theorem ty26 : TIOk Try.prog 26 ⟨.slice 3, 1, 24, some (.list (.int .i64)), [.slice none 0 0], false⟩ := ⟨⟨infoOf (Try.prog.info? 26), by kernel_rfl, by kernel_rfl, by kernel_rfl, .slice none 0 0, by kernel_rfl, by kernel_rfl⟩, (by kernel_rfl : Try.prog.underlying 26 = some (.slice 3)), no_eq⟩
theorem ty55 : TIOk Try.prog 55 ⟨.strct [(0, 23), (1, 26), (2, 26), (3, 3)], 4, 80, some (.pair (.list (.list (.int .i64))) (.pair (.list (.int .i64)) (.pair (.list (.int .i64)) (.pair (.int .i64) .unit)))), [.slice none 0 0, .slice none 0 0, .slice none 0 0, .int .i64 0], false⟩ := ⟨⟨infoOf (Try.prog.info? 55), by kernel_rfl, by kernel_rfl, by kernel_rfl, .agg #[.slice none 0 0, .slice none 0 0, .slice none 0 0, .int .i64 0], by kernel_rfl, by kernel_rfl⟩, ⟨fieldsOf (Try.prog.underlying 55), by kernel_rfl, by kernel_rfl⟩, no_eq⟩
theorem ty56 : TIOk Try.prog 56 ⟨.scalar, 1, 8, none, [.pointer none], false⟩ := ⟨⟨infoOf (Try.prog.info? 56), by kernel_rfl, by kernel_rfl, by kernel_rfl, .pointer none, by kernel_rfl, by kernel_rfl⟩, ⟨descOf (Try.prog.underlying 56), by kernel_rfl, by kernel_rfl⟩, no_eq⟩
theorem ty60 : TIOk Try.prog 60 ⟨.strct [(0, 3), (1, 3)], 2, 16, some (.pair (.int .i64) (.pair (.int .i64) .unit)), [.int .i64 0, .int .i64 0], false⟩ := ⟨⟨infoOf (Try.prog.info? 60), by kernel_rfl, by kernel_rfl, by kernel_rfl, .agg #[.int .i64 0, .int .i64 0], by kernel_rfl, by kernel_rfl⟩, ⟨fieldsOf (Try.prog.underlying 60), by kernel_rfl, by kernel_rfl⟩, no_eq⟩
theorem ty61 : TIOk Try.prog 61 ⟨.arr 6 60, 12, 96, none, [.int .i64 0, .int .i64 0, .int .i64 0, .int .i64 0, .int .i64 0, .int .i64 0, .int .i64 0, .int .i64 0, .int .i64 0, .int .i64 0, .int .i64 0, .int .i64 0], false⟩ := ⟨⟨infoOf (Try.prog.info? 61), by kernel_rfl, by kernel_rfl, by kernel_rfl, .agg #[.int .i64 0, .int .i64 0, .int .i64 0, .int .i64 0, .int .i64 0, .int .i64 0, .int .i64 0, .int .i64 0, .int .i64 0, .int .i64 0, .int .i64 0, .int .i64 0], by kernel_rfl, by kernel_rfl⟩, (by kernel_rfl : Try.prog.underlying 61 = some (.array 6 60)), no_eq⟩
theorem ty64 : TIOk Try.prog 64 ⟨.arr 7 3, 7, 56, none, [.int .i64 0, .int .i64 0, .int .i64 0, .int .i64 0, .int .i64 0, .int .i64 0, .int .i64 0], false⟩ := ⟨⟨infoOf (Try.prog.info? 64), by kernel_rfl, by kernel_rfl, by kernel_rfl, .agg #[.int .i64 0, .int .i64 0, .int .i64 0, .int .i64 0, .int .i64 0, .int .i64 0, .int .i64 0], by kernel_rfl, by kernel_rfl⟩, (by kernel_rfl : Try.prog.underlying 64 = some (.array 7 3)), no_eq⟩
theorem ty66 : TIOk Try.prog 66 ⟨.strct [(0, 64), (7, 64)], 14, 112, none, [.int .i64 0, .int .i64 0, .int .i64 0, .int .i64 0, .int .i64 0, .int .i64 0, .int .i64 0, .int .i64 0, .int .i64 0, .int .i64 0, .int .i64 0, .int .i64 0, .int .i64 0, .int .i64 0], false⟩ := ⟨⟨infoOf (Try.prog.info? 66), by kernel_rfl, by kernel_rfl, by kernel_rfl, .agg #[.int .i64 0, .int .i64 0, .int .i64 0, .int .i64 0, .int .i64 0, .int .i64 0, .int .i64 0, .int .i64 0, .int .i64 0, .int .i64 0, .int .i64 0, .int .i64 0, .int .i64 0, .int .i64 0], by kernel_rfl, by kernel_rfl⟩, ⟨fieldsOf (Try.prog.underlying 66), by kernel_rfl, by kernel_rfl⟩, no_eq⟩
theorem ty70 : TIOk Try.prog 70 ⟨.strct [(0, 3), (1, 3)], 2, 16, some (.pair (.int .i64) (.pair (.int .i64) .unit)), [.int .i64 0, .int .i64 0], false⟩ := ⟨⟨infoOf (Try.prog.info? 70), by kernel_rfl, by kernel_rfl, by kernel_rfl, .agg #[.int .i64 0, .int .i64 0], by kernel_rfl, by kernel_rfl⟩, ⟨fieldsOf (Try.prog.underlying 70), by kernel_rfl, by kernel_rfl⟩, no_eq⟩
theorem ty74 : TIOk Try.prog 74 ⟨.strct [(0, 22), (1, 3)], 2, 32, some (.pair (.list (.int .u8)) (.pair (.int .i64) .unit)), [.slice none 0 0, .int .i64 0], false⟩ := ⟨⟨infoOf (Try.prog.info? 74), by kernel_rfl, by kernel_rfl, by kernel_rfl, .agg #[.slice none 0 0, .int .i64 0], by kernel_rfl, by kernel_rfl⟩, ⟨fieldsOf (Try.prog.underlying 74), by kernel_rfl, by kernel_rfl⟩, no_eq⟩
theorem ty80 : TIOk Try.prog 80 ⟨.arr 6 61, 72, 576, none, [.int .i64 0, .int .i64 0, .int .i64 0, .int .i64 0, .int .i64 0, .int .i64 0, .int .i64 0, .int .i64 0, .int .i64 0, .int .i64 0, .int .i64 0, .int .i64 0, .int .i64 0, .int .i64 0, .int .i64 0, .int .i64 0, .int .i64 0, .int .i64 0, .int .i64 0, .int .i64 0, .int .i64 0, .int .i64 0, .int .i64 0, .int .i64 0, .int .i64 0, .int .i64 0, .int .i64 0, .int .i64 0, .int .i64 0, .int .i64 0, .int .i64 0, .int .i64 0, .int .i64 0, .int .i64 0, .int .i64 0, .int .i64 0, .int .i64 0, .int .i64 0, .int .i64 0, .int .i64 0, .int .i64 0, .int .i64 0, .int .i64 0, .int .i64 0, .int .i64 0, .int .i64 0, .int .i64 0, .int .i64 0, .int .i64 0, .int .i64 0, .int .i64 0, .int .i64 0, .int .i64 0, .int .i64 0, .int .i64 0, .int .i64 0, .int .i64 0, .int .i64 0, .int .i64 0, .int .i64 0, .int .i64 0, .int .i64 0, .int .i64 0, .int .i64 0, .int .i64 0, .int .i64 0, .int .i64 0, .int .i64 0, .int .i64 0, .int .i64 0, .int .i64 0, .int .i64 0], false⟩ := ⟨⟨infoOf (Try.prog.info? 80), by kernel_rfl, by kernel_rfl, by kernel_rfl, .agg #[.int .i64 0, .int .i64 0, .int .i64 0, .int .i64 0, .int .i64 0, .int .i64 0, .int .i64 0, .int .i64 0, .int .i64 0, .int .i64 0, .int .i64 0, .int .i64 0, .int .i64 0, .int .i64 0, .int .i64 0, .int .i64 0, .int .i64 0, .int .i64 0, .int .i64 0, .int .i64 0, .int .i64 0, .int .i64 0, .int .i64 0, .int .i64 0, .int .i64 0, .int .i64 0, .int .i64 0, .int .i64 0, .int .i64 0, .int .i64 0, .int .i64 0, .int .i64 0, .int .i64 0, .int .i64 0, .int .i64 0, .int .i64 0, .int .i64 0, .int .i64 0, .int .i64 0, .int .i64 0, .int .i64 0, .int .i64 0, .int .i64 0, .int .i64 0, .int .i64 0, .int .i64 0, .int .i64 0, .int .i64 0, .int .i64 0, .int .i64 0, .int .i64 0, .int .i64 0, .int .i64 0, .int .i64 0, .int .i64 0, .int .i64 0, .int .i64 0, .int .i64 0, .int .i64 0, .int .i64 0, .int .i64 0, .int .i64 0, .int .i64 0, .int .i64 0, .int .i64 0, .int .i64 0, .int .i64 0, .int .i64 0, .int .i64 0, .int .i64 0, .int .i64 0, .int .i64 0], by kernel_rfl, by kernel_rfl⟩, (by kernel_rfl : Try.prog.underlying 80 = some (.array 6 61)), no_eq⟩
theorem ty83 : TIOk Try.prog 83 ⟨.strct [(0, 64), (7, 64)], 14, 112, none, [.int .i64 0, .int .i64 0, .int .i64 0, .int .i64 0, .int .i64 0, .int .i64 0, .int .i64 0, .int .i64 0, .int .i64 0, .int .i64 0, .int .i64 0, .int .i64 0, .int .i64 0, .int .i64 0], false⟩ := ⟨⟨infoOf (Try.prog.info? 83), by kernel_rfl, by kernel_rfl, by kernel_rfl, .agg #[.int .i64 0, .int .i64 0, .int .i64 0, .int .i64 0, .int .i64 0, .int .i64 0, .int .i64 0, .int .i64 0, .int .i64 0, .int .i64 0, .int .i64 0, .int .i64 0, .int .i64 0, .int .i64 0], by kernel_rfl, by kernel_rfl⟩, ⟨fieldsOf (Try.prog.underlying 83), by kernel_rfl, by kernel_rfl⟩, no_eq⟩
theorem ty88 : TIOk Try.prog 88 ⟨.strct [(0, 26), (1, 3), (2, 3)], 3, 40, some (.pair (.list (.int .i64)) (.pair (.int .i64) (.pair (.int .i64) .unit))), [.slice none 0 0, .int .i64 0, .int .i64 0], false⟩ := ⟨⟨infoOf (Try.prog.info? 88), by kernel_rfl, by kernel_rfl, by kernel_rfl, .agg #[.slice none 0 0, .int .i64 0, .int .i64 0], by kernel_rfl, by kernel_rfl⟩, ⟨fieldsOf (Try.prog.underlying 88), by kernel_rfl, by kernel_rfl⟩, no_eq⟩
def tys : List (TypeId × TI) := [(3, ⟨.int .i64, 1, 8, some (.int .i64), [.int .i64 0], false⟩), (4, ⟨.bool, 1, 1, some .bool, [.bool false], false⟩), (5, ⟨.int .u8, 1, 1, some (.int .u8), [.int .u8 0], false⟩), (22, ⟨.slice 5, 1, 24, some (.list (.int .u8)), [.slice none 0 0], false⟩), (23, ⟨.slice 26, 1, 24, some (.list (.list (.int .i64))), [.slice none 0 0], false⟩), (26, ⟨.slice 3, 1, 24, some (.list (.int .i64)), [.slice none 0 0], false⟩), (55, ⟨.strct [(0, 23), (1, 26), (2, 26), (3, 3)], 4, 80, some (.pair (.list (.list (.int .i64))) (.pair (.list (.int .i64)) (.pair (.list (.int .i64)) (.pair (.int .i64) .unit)))), [.slice none 0 0, .slice none 0 0, .slice none 0 0, .int .i64 0], false⟩), (56, ⟨.scalar, 1, 8, none, [.pointer none], false⟩), (60, ⟨.strct [(0, 3), (1, 3)], 2, 16, some (.pair (.int .i64) (.pair (.int .i64) .unit)), [.int .i64 0, .int .i64 0], false⟩), (61, ⟨.arr 6 60, 12, 96, none, [.int .i64 0, .int .i64 0, .int .i64 0, .int .i64 0, .int .i64 0, .int .i64 0, .int .i64 0, .int .i64 0, .int .i64 0, .int .i64 0, .int .i64 0, .int .i64 0], false⟩), (64, ⟨.arr 7 3, 7, 56, none, [.int .i64 0, .int .i64 0, .int .i64 0, .int .i64 0, .int .i64 0, .int .i64 0, .int .i64 0], false⟩), (66, ⟨.strct [(0, 64), (7, 64)], 14, 112, none, [.int .i64 0, .int .i64 0, .int .i64 0, .int .i64 0, .int .i64 0, .int .i64 0, .int .i64 0, .int .i64 0, .int .i64 0, .int .i64 0, .int .i64 0, .int .i64 0, .int .i64 0, .int .i64 0], false⟩), (70, ⟨.strct [(0, 3), (1, 3)], 2, 16, some (.pair (.int .i64) (.pair (.int .i64) .unit)), [.int .i64 0, .int .i64 0], false⟩), (74, ⟨.strct [(0, 22), (1, 3)], 2, 32, some (.pair (.list (.int .u8)) (.pair (.int .i64) .unit)), [.slice none 0 0, .int .i64 0], false⟩), (80, ⟨.arr 6 61, 72, 576, none, [.int .i64 0, .int .i64 0, .int .i64 0, .int .i64 0, .int .i64 0, .int .i64 0, .int .i64 0, .int .i64 0, .int .i64 0, .int .i64 0, .int .i64 0, .int .i64 0, .int .i64 0, .int .i64 0, .int .i64 0, .int .i64 0, .int .i64 0, .int .i64 0, .int .i64 0, .int .i64 0, .int .i64 0, .int .i64 0, .int .i64 0, .int .i64 0, .int .i64 0, .int .i64 0, .int .i64 0, .int .i64 0, .int .i64 0, .int .i64 0, .int .i64 0, .int .i64 0, .int .i64 0, .int .i64 0, .int .i64 0, .int .i64 0, .int .i64 0, .int .i64 0, .int .i64 0, .int .i64 0, .int .i64 0, .int .i64 0, .int .i64 0, .int .i64 0, .int .i64 0, .int .i64 0, .int .i64 0, .int .i64 0, .int .i64 0, .int .i64 0, .int .i64 0, .int .i64 0, .int .i64 0, .int .i64 0, .int .i64 0, .int .i64 0, .int .i64 0, .int .i64 0, .int .i64 0, .int .i64 0, .int .i64 0, .int .i64 0, .int .i64 0, .int .i64 0, .int .i64 0, .int .i64 0, .int .i64 0, .int .i64 0, .int .i64 0, .int .i64 0, .int .i64 0, .int .i64 0], false⟩), (83, ⟨.strct [(0, 64), (7, 64)], 14, 112, none, [.int .i64 0, .int .i64 0, .int .i64 0, .int .i64 0, .int .i64 0, .int .i64 0, .int .i64 0, .int .i64 0, .int .i64 0, .int .i64 0, .int .i64 0, .int .i64 0, .int .i64 0, .int .i64 0], false⟩), (88, ⟨.strct [(0, 26), (1, 3), (2, 3)], 3, 40, some (.pair (.list (.int .i64)) (.pair (.int .i64) (.pair (.int .i64) .unit))), [.slice none 0 0, .int .i64 0, .int .i64 0], false⟩)]
theorem tys_ok : TOk Try.prog (tlook tys) := tok_of (allc ty3 (allc ty4 (allc ty5 (allc ty22 (allc ty23 (allc ty26 (allc ty55 (allc ty56 (allc ty60 (allc ty61 (allc ty64 (allc ty66 (allc ty70 (allc ty74 (allc ty80 (allc ty83 (allc ty88 alln)))))))))))))))))
def ioF (f : FuncId) (i : Nat) : Bool := [(35, 0), (50, 1), (56, 0), (70, 1), (46, 1002), (64, 1000)].any fun (p : Nat × Nat) => Nat.beq p.1 f && Nat.beq p.2 i


/-! slices.Min[[]int,int] -/

def slices_Min_int_int_an : Ann := (.seq (.leaf [0]) (.seq (.seq (.leaf [0, 7]) (.cond (.leaf [0]) (.leaf [0]))) (.seq (.leaf [0, 3]) (.seq (.seq (.leaf [0, 3, 4]) (.block (.loop (.seq (.seq (.leaf [0, 3, 4, 15]) (.cond (.leaf [0, 3, 4]) (.leaf [3]))) (.seq (.block (.leaf [0, 3, 4])) (.leaf [0, 3, 4])))))) (.seq (.leaf [2]) (.leaf [2]))))))

noncomputable def slices_Min_int_int_ctx : Ctx := ⟨tlook tys, olook [], ioF, 0, false, []⟩

theorem slices_Min_int_int_n1_l (x17091 : List Int) : Link slices_Min_int_int_ctx LL (Code.seq (cq [0] (bodyOf Try.f59)) (Code.seq (cq [0,1] (bodyOf Try.f59)) (cq [0,1,1] (bodyOf Try.f59)))) (Ann.seq (aq [0] slices_Min_int_int_an) (Ann.seq (aq [0,1] slices_Min_int_int_an) (aq [0,1,1] slices_Min_int_int_an))) ⟨mkE 25 0 [(0, dL x17091)], []⟩ (slices_Min_int_int_n1 x17091) (fun (t : Int) => (Exit.normal, ⟨mkE 25 0 [(0, dL x17091), (3, dI t)], []⟩)) := by
  refine Link.of fun K h => ?_
  simp only [slices_Min_int_int_n1, wpO_bind, wpO_cond, wpO_map, wpO_some, wpO_none] at h
  exact Awp.of (by kernel_rfl) h

theorem slices_Min_int_int_n2_l (x17091 : List Int) (x17096 : Int) : Link slices_Min_int_int_ctx LL (cq [0,0,1,1,1] (bodyOf Try.f59)) (aq [0,0,1,1,1] slices_Min_int_int_an) ⟨mkE 25 0 [(0, dL x17091), (3, dI x17096)], []⟩ (slices_Min_int_int_n2) (fun (t : Unit) => (Exit.normal, ⟨mkE 25 0 [(0, dL x17091), (3, dI x17096), (4, dI 1)], []⟩)) := by
  refine Link.of fun K h => ?_
  simp only [slices_Min_int_int_n2, wpO_bind, wpO_cond, wpO_map, wpO_some] at h
  exact Awp.of (by kernel_rfl) h

theorem slices_Min_int_int_n3_l (x17091 : List Int) (x17108 : Int) (x17109 : Int) : Link slices_Min_int_int_ctx LL (cq [0,0,1,0,1,1,1] (bodyOf Try.f59)) (aq [0,0,1,0,1,1,1] slices_Min_int_int_an) ⟨mkE 25 0 [(0, dL x17091), (3, dI x17108), (4, dI x17109)], []⟩ (slices_Min_int_int_n3 x17091 x17108 x17109) (Sum.elim (fun (t : Int × Int) => (Exit.normal, ⟨mkE 25 0 [(0, dL x17091), (3, dI t.1), (4, dI t.2)], []⟩)) (fun (t : Int) => ((Exit.exit 0), ⟨mkE 25 0 [(3, dI t)], []⟩))) := by
  refine Link.of fun K h => ?_
  simp only [slices_Min_int_int_n3, wpO_bind, wpO_cond, wpO_map, wpO_some] at h
  exact Awp.of (by kernel_rfl) h

def slices_Min_int_int_n4_l (x17091 : List Int) (x17096 : Int) := (link_loop (mk := fun (s : Int × Int) => ⟨mkE 25 0 [(0, dL x17091), (3, dI s.1), (4, dI s.2)], []⟩) (fin := (fun (t : Int) => ((Exit.exit 0), ⟨mkE 25 0 [(3, dI t)], []⟩))) (by
  rintro t f K h
  · exact h) (fun s => link_map (slices_Min_int_int_n3_l x17091 s.1 s.2) (Sum.elim (fun (t : Int × Int) => Sum.inl (t.1, t.2)) (fun (t : Int) => Sum.inr t)) (by
  rintro (t | t)
  · kernel_rfl
  · kernel_rfl)) (x17096, 1))

def slices_Min_int_int_n5_l (x17091 : List Int) (x17096 : Int) := (link_block (fin2 := (fun (t : Int) => (Exit.normal, ⟨mkE 25 0 [(3, dI t)], []⟩))) (id := 0) (slices_Min_int_int_n4_l x17091 x17096) (fun (t : Int) => t) (by
  rintro t K h
  · exact Eq.mp (by kernel_rfl) h))

def slices_Min_int_int_n6_l (x17091 : List Int) (x17096 : Int) := (link_seq (slices_Min_int_int_n2_l x17091 x17096) (fun (t : Unit) => (slices_Min_int_int_n5_l x17091 x17096)))

theorem slices_Min_int_int_n7_l (x17108 : Int) : Link slices_Min_int_int_ctx LL (cq [1,1,1,1] (bodyOf Try.f59)) (aq [1,1,1,1] slices_Min_int_int_an) ⟨mkE 25 0 [(3, dI x17108)], []⟩ (slices_Min_int_int_n7 x17108) (fun (t : Int) => (Exit.ret, ⟨mkE 25 0 [(2, dI t)], []⟩)) := by
  refine Link.of fun K h => ?_
  simp only [slices_Min_int_int_n7, wpO_bind, wpO_cond, wpO_map, wpO_some] at h
  exact Awp.of (by kernel_rfl) h

def slices_Min_int_int_n8_l (x17091 : List Int) (x17096 : Int) := (link_seq (slices_Min_int_int_n6_l x17091 x17096) (fun (t : Int) => (slices_Min_int_int_n7_l t)))

def slices_Min_int_int_n9_l (x17091 : List Int) := (link_group (c := (cq [0,1,1] (bodyOf Try.f59))) (a := (aq [0,1,1] slices_Min_int_int_an)) [(cq [0] (bodyOf Try.f59)), (cq [0,1] (bodyOf Try.f59))] [(aq [0] slices_Min_int_int_an), (aq [0,1] slices_Min_int_int_an)] rfl (link_seq (slices_Min_int_int_n1_l x17091) (fun (t : Int) => (slices_Min_int_int_n8_l x17091 t))))

theorem slices_Min_int_int_e (x17091 : List Int) {r : AV} {H' : Heap} (h : (Ans.mk _ (slices_Min_int_int x17091) (fun (t : Int) => (dI t, [])) [] none).run = some (r, H')) : Awp slices_Min_int_int_ctx LL (bodyOf Try.f59) slices_Min_int_int_an ⟨mkE 25 0 [(0, dL x17091)], []⟩ (Ret (tlook tys) Try.f59.results.toList r H') :=
  ret_of' (Link.cast (by kernel_rfl) (by kernel_rfl) (slices_Min_int_int_n9_l x17091)) (by unfold slices_Min_int_int; kernel_rfl) (by
  intro t
  exact ret_mk [dI t] (by kernel_rfl) (by kernel_rfl) (by kernel_rfl) (by kernel_rfl)) h

def F_slices_Min_int_int : Fun := fun avs H =>
  match avs, H with
  | [.dat (.list (.int .i64)) x17091], [] => ⟨_, slices_Min_int_int x17091, fun (t : Int) => (dI t, []), [], none⟩
  | _, _ => Ans.no

theorem slices_Min_int_int_sound : Sound Try.prog 59 F_slices_Min_int_int := by
  refine fn_sound' (C := slices_Min_int_int_ctx) (c := bodyOf Try.f59) (cok_of tys_ok (alln) (alln) (by kernel_rfl)) Try.func59 (by kernel_rfl) LL slices_Min_int_int_an ?_
  intro avs H r H' h
  unfold F_slices_Min_int_int at h
  split at h
  · refine Awp.cast ?_ ?_ ?_ (slices_Min_int_int_e _ h) <;> kernel_rfl
  · simp [Ans.no, Ans.run] at h


/-! slices.Max[[]int,int] -/

def slices_Max_int_int_an : Ann := (.seq (.leaf [0]) (.seq (.seq (.leaf [0, 7]) (.cond (.leaf [0]) (.leaf [0]))) (.seq (.leaf [0, 3]) (.seq (.seq (.leaf [0, 3, 4]) (.block (.loop (.seq (.seq (.leaf [0, 3, 4, 15]) (.cond (.leaf [0, 3, 4]) (.leaf [3]))) (.seq (.block (.leaf [0, 3, 4])) (.leaf [0, 3, 4])))))) (.seq (.leaf [2]) (.leaf [2]))))))

noncomputable def slices_Max_int_int_ctx : Ctx := ⟨tlook tys, olook [], ioF, 0, false, []⟩

theorem slices_Max_int_int_n1_l (x17123 : List Int) : Link slices_Max_int_int_ctx LL (Code.seq (cq [0] (bodyOf Try.f60)) (Code.seq (cq [0,1] (bodyOf Try.f60)) (cq [0,1,1] (bodyOf Try.f60)))) (Ann.seq (aq [0] slices_Max_int_int_an) (Ann.seq (aq [0,1] slices_Max_int_int_an) (aq [0,1,1] slices_Max_int_int_an))) ⟨mkE 25 0 [(0, dL x17123)], []⟩ (slices_Max_int_int_n1 x17123) (fun (t : Int) => (Exit.normal, ⟨mkE 25 0 [(0, dL x17123), (3, dI t)], []⟩)) := by
  refine Link.of fun K h => ?_
  simp only [slices_Max_int_int_n1, wpO_bind, wpO_cond, wpO_map, wpO_some, wpO_none] at h
  exact Awp.of (by kernel_rfl) h

theorem slices_Max_int_int_n2_l (x17123 : List Int) (x17128 : Int) : Link slices_Max_int_int_ctx LL (cq [0,0,1,1,1] (bodyOf Try.f60)) (aq [0,0,1,1,1] slices_Max_int_int_an) ⟨mkE 25 0 [(0, dL x17123), (3, dI x17128)], []⟩ (slices_Max_int_int_n2) (fun (t : Unit) => (Exit.normal, ⟨mkE 25 0 [(0, dL x17123), (3, dI x17128), (4, dI 1)], []⟩)) := by
  refine Link.of fun K h => ?_
  simp only [slices_Max_int_int_n2, wpO_bind, wpO_cond, wpO_map, wpO_some] at h
  exact Awp.of (by kernel_rfl) h

theorem slices_Max_int_int_n3_l (x17123 : List Int) (x17140 : Int) (x17141 : Int) : Link slices_Max_int_int_ctx LL (cq [0,0,1,0,1,1,1] (bodyOf Try.f60)) (aq [0,0,1,0,1,1,1] slices_Max_int_int_an) ⟨mkE 25 0 [(0, dL x17123), (3, dI x17140), (4, dI x17141)], []⟩ (slices_Max_int_int_n3 x17123 x17140 x17141) (Sum.elim (fun (t : Int × Int) => (Exit.normal, ⟨mkE 25 0 [(0, dL x17123), (3, dI t.1), (4, dI t.2)], []⟩)) (fun (t : Int) => ((Exit.exit 0), ⟨mkE 25 0 [(3, dI t)], []⟩))) := by
  refine Link.of fun K h => ?_
  simp only [slices_Max_int_int_n3, wpO_bind, wpO_cond, wpO_map, wpO_some] at h
  exact Awp.of (by kernel_rfl) h

def slices_Max_int_int_n4_l (x17123 : List Int) (x17128 : Int) := (link_loop (mk := fun (s : Int × Int) => ⟨mkE 25 0 [(0, dL x17123), (3, dI s.1), (4, dI s.2)], []⟩) (fin := (fun (t : Int) => ((Exit.exit 0), ⟨mkE 25 0 [(3, dI t)], []⟩))) (by
  rintro t f K h
  · exact h) (fun s => link_map (slices_Max_int_int_n3_l x17123 s.1 s.2) (Sum.elim (fun (t : Int × Int) => Sum.inl (t.1, t.2)) (fun (t : Int) => Sum.inr t)) (by
  rintro (t | t)
  · kernel_rfl
  · kernel_rfl)) (x17128, 1))

def slices_Max_int_int_n5_l (x17123 : List Int) (x17128 : Int) := (link_block (fin2 := (fun (t : Int) => (Exit.normal, ⟨mkE 25 0 [(3, dI t)], []⟩))) (id := 0) (slices_Max_int_int_n4_l x17123 x17128) (fun (t : Int) => t) (by
  rintro t K h
  · exact Eq.mp (by kernel_rfl) h))

def slices_Max_int_int_n6_l (x17123 : List Int) (x17128 : Int) := (link_seq (slices_Max_int_int_n2_l x17123 x17128) (fun (t : Unit) => (slices_Max_int_int_n5_l x17123 x17128)))

theorem slices_Max_int_int_n7_l (x17140 : Int) : Link slices_Max_int_int_ctx LL (cq [1,1,1,1] (bodyOf Try.f60)) (aq [1,1,1,1] slices_Max_int_int_an) ⟨mkE 25 0 [(3, dI x17140)], []⟩ (slices_Max_int_int_n7 x17140) (fun (t : Int) => (Exit.ret, ⟨mkE 25 0 [(2, dI t)], []⟩)) := by
  refine Link.of fun K h => ?_
  simp only [slices_Max_int_int_n7, wpO_bind, wpO_cond, wpO_map, wpO_some] at h
  exact Awp.of (by kernel_rfl) h

def slices_Max_int_int_n8_l (x17123 : List Int) (x17128 : Int) := (link_seq (slices_Max_int_int_n6_l x17123 x17128) (fun (t : Int) => (slices_Max_int_int_n7_l t)))

def slices_Max_int_int_n9_l (x17123 : List Int) := (link_group (c := (cq [0,1,1] (bodyOf Try.f60))) (a := (aq [0,1,1] slices_Max_int_int_an)) [(cq [0] (bodyOf Try.f60)), (cq [0,1] (bodyOf Try.f60))] [(aq [0] slices_Max_int_int_an), (aq [0,1] slices_Max_int_int_an)] rfl (link_seq (slices_Max_int_int_n1_l x17123) (fun (t : Int) => (slices_Max_int_int_n8_l x17123 t))))

theorem slices_Max_int_int_e (x17123 : List Int) {r : AV} {H' : Heap} (h : (Ans.mk _ (slices_Max_int_int x17123) (fun (t : Int) => (dI t, [])) [] none).run = some (r, H')) : Awp slices_Max_int_int_ctx LL (bodyOf Try.f60) slices_Max_int_int_an ⟨mkE 25 0 [(0, dL x17123)], []⟩ (Ret (tlook tys) Try.f60.results.toList r H') :=
  ret_of' (Link.cast (by kernel_rfl) (by kernel_rfl) (slices_Max_int_int_n9_l x17123)) (by unfold slices_Max_int_int; kernel_rfl) (by
  intro t
  exact ret_mk [dI t] (by kernel_rfl) (by kernel_rfl) (by kernel_rfl) (by kernel_rfl)) h

def F_slices_Max_int_int : Fun := fun avs H =>
  match avs, H with
  | [.dat (.list (.int .i64)) x17123], [] => ⟨_, slices_Max_int_int x17123, fun (t : Int) => (dI t, []), [], none⟩
  | _, _ => Ans.no

theorem slices_Max_int_int_sound : Sound Try.prog 60 F_slices_Max_int_int := by
  refine fn_sound' (C := slices_Max_int_int_ctx) (c := bodyOf Try.f60) (cok_of tys_ok (alln) (alln) (by kernel_rfl)) Try.func60 (by kernel_rfl) LL slices_Max_int_int_an ?_
  intro avs H r H' h
  unfold F_slices_Max_int_int at h
  split at h
  · refine Awp.cast ?_ ?_ ?_ (slices_Max_int_int_e _ h) <;> kernel_rfl
  · simp [Ans.no, Ans.run] at h


/-! loop.example/headtrees/impl.scoreRowOk -/

def impl_scoreRowOk_an : Ann := (.seq (.leaf [0, 1]) (.seq (.leaf [4]) (.leaf [4])))

noncomputable def impl_scoreRowOk_ctx : Ctx := ⟨tlook tys, olook [(59, F_slices_Min_int_int), (60, F_slices_Max_int_int)], ioF, 0, false, []⟩

theorem impl_scoreRowOk_n1_l (x17086 : List Int) (x17087 : Int) : Link impl_scoreRowOk_ctx LL (bodyOf Try.f39) impl_scoreRowOk_an ⟨mkE 20 0 [(0, dL x17086), (1, dI x17087)], []⟩ (impl_scoreRowOk_n1 x17086 x17087) (fun (t : Bool) => (Exit.ret, ⟨mkE 20 0 [(4, dB t)], []⟩)) := by
  refine Link.of fun K h => ?_
  simp only [impl_scoreRowOk_n1, wpO_bind, wpO_cond, wpO_map, wpO_some] at h
  exact Awp.of (by kernel_rfl) h

theorem impl_scoreRowOk_e (x17086 : List Int) (x17087 : Int) {r : AV} {H' : Heap} (h : (Ans.mk _ (impl_scoreRowOk x17086 x17087) (fun (t : Bool) => (dB t, [])) [] none).run = some (r, H')) : Awp impl_scoreRowOk_ctx LL (bodyOf Try.f39) impl_scoreRowOk_an ⟨mkE 20 0 [(0, dL x17086), (1, dI x17087)], []⟩ (Ret (tlook tys) Try.f39.results.toList r H') :=
  ret_of' (impl_scoreRowOk_n1_l x17086 x17087) (by unfold impl_scoreRowOk; kernel_rfl) (by
  intro t
  exact ret_mk [dB t] (by kernel_rfl) (by kernel_rfl) (by kernel_rfl) (by kernel_rfl)) h

def F_impl_scoreRowOk : Fun := fun avs H =>
  match avs, H with
  | [.dat (.list (.int .i64)) x17086, .dat (.int .i64) x17087], [] => ⟨_, impl_scoreRowOk x17086 x17087, fun (t : Bool) => (dB t, []), [], none⟩
  | _, _ => Ans.no

theorem impl_scoreRowOk_sound : Sound Try.prog 39 F_impl_scoreRowOk := by
  refine fn_sound' (C := impl_scoreRowOk_ctx) (c := bodyOf Try.f39) (cok_of tys_ok (allc slices_Min_int_int_sound (allc slices_Max_int_int_sound alln)) (allc Try.call59 (allc Try.call60 alln)) (by kernel_rfl)) Try.func39 (by kernel_rfl) LL impl_scoreRowOk_an ?_
  intro avs H r H' h
  unfold F_impl_scoreRowOk at h
  split at h
  · refine Awp.cast ?_ ?_ ?_ (impl_scoreRowOk_e _ _ h) <;> kernel_rfl
  · simp [Ans.no, Ans.run] at h


/-! loop.example/headtrees/impl.ScoresOk -/

def impl_ScoresOk_an : Ann := (.seq (.leaf [0]) (.seq (.seq (.leaf [0, 12]) (.cond (.seq (.leaf [2]) (.leaf [2])) (.leaf [0]))) (.seq (.seq (.leaf [0, 13, 14, 15]) (.block (.loop (.seq (.leaf [0, 13, 14, 15, 16]) (.seq (.cond (.leaf [0, 13, 14, 15]) (.leaf [])) (.seq (.block (.seq (.leaf [0, 4, 13, 14, 15]) (.seq (.leaf [0, 13, 14, 15, 23]) (.cond (.seq (.leaf [2]) (.leaf [2])) (.leaf [0, 13, 14, 15]))))) (.leaf [0, 13, 14, 15]))))))) (.seq (.leaf [2]) (.leaf [2])))))

noncomputable def impl_ScoresOk_ctx : Ctx := ⟨tlook tys, olook [(39, F_impl_scoreRowOk)], ioF, 0, false, []⟩

theorem impl_ScoresOk_n1_l (x17075 : List (List Int)) : Link impl_ScoresOk_ctx LL (Code.seq (cq [0] (bodyOf Try.f13)) (cq [0,1] (bodyOf Try.f13))) (Ann.seq (aq [0] impl_ScoresOk_an) (aq [0,1] impl_ScoresOk_an)) ⟨mkE 25 0 [(0, .dat (.list (.list (.int .i64))) x17075)], []⟩ (impl_ScoresOk_n1 x17075) (Sum.elim (fun (t : Unit) => (Exit.normal, ⟨mkE 25 0 [(0, .dat (.list (.list (.int .i64))) x17075)], []⟩)) (fun (t : Bool) => (Exit.ret, ⟨mkE 25 0 [(2, dB t)], []⟩))) := by
  refine Link.of fun K h => ?_
  simp only [impl_ScoresOk_n1, wpO_bind, wpO_cond, wpO_map, wpO_some] at h
  exact Awp.of (by kernel_rfl) h

theorem impl_ScoresOk_n2_l (x17075 : List (List Int)) : Link impl_ScoresOk_ctx LL (cq [0,0,1,1] (bodyOf Try.f13)) (aq [0,0,1,1] impl_ScoresOk_an) ⟨mkE 25 0 [(0, .dat (.list (.list (.int .i64))) x17075)], []⟩ (impl_ScoresOk_n2 x17075) (fun (t : Int) => (Exit.normal, ⟨mkE 25 0 [(0, .dat (.list (.list (.int .i64))) x17075), (13, .dat (.list (.list (.int .i64))) x17075), (14, dI t), (15, dI 0)], []⟩)) := by
  refine Link.of fun K h => ?_
  simp only [impl_ScoresOk_n2, wpO_bind, wpO_cond, wpO_map, wpO_some] at h
  exact Awp.of (by kernel_rfl) h

theorem impl_ScoresOk_n3_l (x17075 : List (List Int)) (x17080 : Int) (x17171 : Int) : Link impl_ScoresOk_ctx LL (cq [0,0,1,0,1,1] (bodyOf Try.f13)) (aq [0,0,1,0,1,1] impl_ScoresOk_an) ⟨mkE 25 0 [(0, .dat (.list (.list (.int .i64))) x17075), (13, .dat (.list (.list (.int .i64))) x17075), (14, dI x17080), (15, dI x17171)], []⟩ (impl_ScoresOk_n3 x17075 x17080 x17171) (Sum.elim (fun (t : Int) => (Exit.normal, ⟨mkE 25 0 [(0, .dat (.list (.list (.int .i64))) x17075), (13, .dat (.list (.list (.int .i64))) x17075), (14, dI x17080), (15, dI t)], []⟩)) (Sum.elim (fun (t : Bool) => (Exit.ret, ⟨mkE 25 0 [(2, dB t)], []⟩)) (fun (t : Unit) => ((Exit.exit 0), ⟨mkE 25 0 [], []⟩)))) := by
  refine Link.of fun K h => ?_
  simp only [impl_ScoresOk_n3, wpO_bind, wpO_cond, wpO_map, wpO_some] at h
  exact Awp.of (by kernel_rfl) h

def impl_ScoresOk_n4_l (x17075 : List (List Int)) (x17080 : Int) := (link_loop (mk := fun (s : Int) => ⟨mkE 25 0 [(0, .dat (.list (.list (.int .i64))) x17075), (13, .dat (.list (.list (.int .i64))) x17075), (14, dI x17080), (15, dI s)], []⟩) (fin := (Sum.elim (fun (t : Bool) => (Exit.ret, ⟨mkE 25 0 [(2, dB t)], []⟩)) (fun (t : Unit) => ((Exit.exit 0), ⟨mkE 25 0 [], []⟩)))) (by
  rintro (t | t) f K h
  · exact h
  · exact h) (fun s => link_map (impl_ScoresOk_n3_l x17075 x17080 s) (Sum.elim (fun (t : Int) => Sum.inl t) (Sum.elim (fun (t : Bool) => Sum.inr (Sum.inl t)) (fun (t : Unit) => Sum.inr (Sum.inr t)))) (by
  rintro (t | t | t)
  · kernel_rfl
  · kernel_rfl
  · kernel_rfl)) 0)

def impl_ScoresOk_n5_l (x17075 : List (List Int)) (x17080 : Int) := (link_block (fin2 := (Sum.elim (fun (t : Unit) => (Exit.normal, ⟨mkE 25 0 [], []⟩)) (fun (t : Bool) => (Exit.ret, ⟨mkE 25 0 [(2, dB t)], []⟩)))) (id := 0) (impl_ScoresOk_n4_l x17075 x17080) (Sum.elim (fun (t : Bool) => (Sum.inr t)) (fun (t : Unit) => (Sum.inl ()))) (by
  rintro (t | t) K h
  · exact Eq.mp (by kernel_rfl) h
  · exact Eq.mp (by kernel_rfl) h))

def impl_ScoresOk_n6_l (x17075 : List (List Int)) := (link_seq (impl_ScoresOk_n2_l x17075) (fun (t : Int) => (impl_ScoresOk_n5_l x17075 t)))

theorem impl_ScoresOk_n7_l : Link impl_ScoresOk_ctx LL (cq [1,1,1] (bodyOf Try.f13)) (aq [1,1,1] impl_ScoresOk_an) ⟨mkE 25 0 [], []⟩ (impl_ScoresOk_n7) (fun (t : Bool) => (Exit.ret, ⟨mkE 25 0 [(2, dB t)], []⟩)) := by
  refine Link.of fun K h => ?_
  simp only [impl_ScoresOk_n7, wpO_bind, wpO_cond, wpO_map, wpO_some] at h
  exact Awp.of (by kernel_rfl) h

def impl_ScoresOk_n8_l (x17075 : List (List Int)) := (link_seq2 (impl_ScoresOk_n6_l x17075) (fun (t : Unit) => (impl_ScoresOk_n7_l)) (fun (t : Bool) => t) (by
  rintro t
  · kernel_rfl) (by
  rintro t f K h
  · exact h))

def impl_ScoresOk_n9_l (x17075 : List (List Int)) := (link_group (c := (cq [0,1] (bodyOf Try.f13))) (a := (aq [0,1] impl_ScoresOk_an)) [(cq [0] (bodyOf Try.f13))] [(aq [0] impl_ScoresOk_an)] rfl (link_seq2 (impl_ScoresOk_n1_l x17075) (fun (t : Unit) => (impl_ScoresOk_n8_l x17075)) (fun (t : Bool) => t) (by
  rintro t
  · kernel_rfl) (by
  rintro t f K h
  · exact h)))

theorem impl_ScoresOk_e (x17075 : List (List Int)) {r : AV} {H' : Heap} (h : (Ans.mk _ (impl_ScoresOk x17075) (fun (t : Bool) => (dB t, [])) [] none).run = some (r, H')) : Awp impl_ScoresOk_ctx LL (bodyOf Try.f13) impl_ScoresOk_an ⟨mkE 25 0 [(0, .dat (.list (.list (.int .i64))) x17075)], []⟩ (Ret (tlook tys) Try.f13.results.toList r H') :=
  ret_of' (Link.cast (by kernel_rfl) (by kernel_rfl) (impl_ScoresOk_n9_l x17075)) (by unfold impl_ScoresOk; kernel_rfl) (by
  intro t
  exact ret_mk [dB t] (by kernel_rfl) (by kernel_rfl) (by kernel_rfl) (by kernel_rfl)) h

def F_impl_ScoresOk : Fun := fun avs H =>
  match avs, H with
  | [.dat (.list (.list (.int .i64))) x17075], [] => ⟨_, impl_ScoresOk x17075, fun (t : Bool) => (dB t, []), [], none⟩
  | _, _ => Ans.no

theorem impl_ScoresOk_sound : Sound Try.prog 13 F_impl_ScoresOk := by
  refine fn_sound' (C := impl_ScoresOk_ctx) (c := bodyOf Try.f13) (cok_of tys_ok (allc impl_scoreRowOk_sound alln) (allc Try.call39 alln) (by kernel_rfl)) Try.func13 (by kernel_rfl) LL impl_ScoresOk_an ?_
  intro avs H r H' h
  unfold F_impl_ScoresOk at h
  split at h
  · refine Awp.cast ?_ ?_ ?_ (impl_ScoresOk_e _ h) <;> kernel_rfl
  · simp [Ans.no, Ans.run] at h


/-! loop.example/headtrees/spec.l1In -/

def spec_l1In_an : Ann := (.seq (.leaf [0, 1, 2]) (.seq (.leaf [6]) (.leaf [6])))

noncomputable def spec_l1In_ctx : Ctx := ⟨tlook tys, olook [], ioF, 0, false, []⟩

theorem spec_l1In_n1_l (x17212 : Int) (x17213 : Int) (x17214 : Int) : Link spec_l1In_ctx LL (bodyOf Try.f40) spec_l1In_an ⟨mkE 15 0 [(0, dI x17212), (1, dI x17213), (2, dI x17214)], []⟩ (spec_l1In_n1 x17212 x17213 x17214) (fun (t : Bool) => (Exit.ret, ⟨mkE 15 0 [(6, dB t)], []⟩)) := by
  refine Link.of fun K h => ?_
  simp only [spec_l1In_n1, wpO_bind, wpO_cond, wpO_map, wpO_some] at h
  exact Awp.of (by kernel_rfl) h

theorem spec_l1In_e (x17212 : Int) (x17213 : Int) (x17214 : Int) {r : AV} {H' : Heap} (h : (Ans.mk _ (spec_l1In x17212 x17213 x17214) (fun (t : Bool) => (dB t, [])) [] none).run = some (r, H')) : Awp spec_l1In_ctx LL (bodyOf Try.f40) spec_l1In_an ⟨mkE 15 0 [(0, dI x17212), (1, dI x17213), (2, dI x17214)], []⟩ (Ret (tlook tys) Try.f40.results.toList r H') :=
  ret_of' (spec_l1In_n1_l x17212 x17213 x17214) (by unfold spec_l1In; kernel_rfl) (by
  intro t
  exact ret_mk [dB t] (by kernel_rfl) (by kernel_rfl) (by kernel_rfl) (by kernel_rfl)) h

def F_spec_l1In : Fun := fun avs H =>
  match avs, H with
  | [.dat (.int .i64) x17212, .dat (.int .i64) x17213, .dat (.int .i64) x17214], [] => ⟨_, spec_l1In x17212 x17213 x17214, fun (t : Bool) => (dB t, []), [], none⟩
  | _, _ => Ans.no

theorem spec_l1In_sound : Sound Try.prog 40 F_spec_l1In := by
  refine fn_sound' (C := spec_l1In_ctx) (c := bodyOf Try.f40) (cok_of tys_ok (alln) (alln) (by kernel_rfl)) Try.func40 (by kernel_rfl) LL spec_l1In_an ?_
  intro avs H r H' h
  unfold F_spec_l1In at h
  split at h
  · refine Awp.cast ?_ ?_ ?_ (spec_l1In_e _ _ _ h) <;> kernel_rfl
  · simp [Ans.no, Ans.run] at h


/-! loop.example/headtrees/spec.ScoresOk -/

def spec_ScoresOk_an : Ann := (.seq (.leaf [0]) (.seq (.seq (.leaf [0, 3]) (.block (.loop (.seq (.seq (.leaf [0, 3, 8]) (.cond (.leaf [0, 3]) (.leaf [0]))) (.seq (.block (.seq (.seq (.leaf [0, 3, 19]) (.cond (.seq (.leaf [2]) (.leaf [2])) (.leaf [0, 3]))) (.seq (.leaf [0, 3, 4]) (.block (.loop (.seq (.seq (.leaf [0, 3, 4, 26]) (.cond (.leaf [0, 3, 4]) (.leaf [0, 3]))) (.seq (.block (.seq (.leaf [0, 3, 4, 37]) (.cond (.seq (.leaf [2]) (.leaf [2])) (.leaf [0, 3, 4])))) (.leaf [0, 3, 4])))))))) (.leaf [0, 3])))))) (.seq (.leaf [2]) (.leaf [2]))))

noncomputable def spec_ScoresOk_ctx : Ctx := ⟨tlook tys, olook [(40, F_spec_l1In)], ioF, 0, false, []⟩

theorem spec_ScoresOk_n1_l (x17191 : List (List Int)) : Link spec_ScoresOk_ctx LL (cq [0] (bodyOf Try.f14)) (aq [0] spec_ScoresOk_an) ⟨mkE 41 0 [(0, .dat (.list (.list (.int .i64))) x17191)], []⟩ (spec_ScoresOk_n1) (fun (t : Unit) => (Exit.normal, ⟨mkE 41 0 [(0, .dat (.list (.list (.int .i64))) x17191)], []⟩)) := by
  refine Link.of fun K h => ?_
  simp only [spec_ScoresOk_n1, wpO_bind, wpO_cond, wpO_map, wpO_some] at h
  exact Awp.of (by kernel_rfl) h

theorem spec_ScoresOk_n2_l (x17191 : List (List Int)) : Link spec_ScoresOk_ctx LL (cq [0,0,1] (bodyOf Try.f14)) (aq [0,0,1] spec_ScoresOk_an) ⟨mkE 41 0 [(0, .dat (.list (.list (.int .i64))) x17191)], []⟩ (spec_ScoresOk_n2) (fun (t : Unit) => (Exit.normal, ⟨mkE 41 0 [(0, .dat (.list (.list (.int .i64))) x17191), (3, dI 0)], []⟩)) := by
  refine Link.of fun K h => ?_
  simp only [spec_ScoresOk_n2, wpO_bind, wpO_cond, wpO_map, wpO_some] at h
  exact Awp.of (by kernel_rfl) h

theorem spec_ScoresOk_n3_l (x17191 : List (List Int)) (x17250 : Int) : Link spec_ScoresOk_ctx LL (cq [0,0,0,1,0,1] (bodyOf Try.f14)) (aq [0,0,0,1,0,1] spec_ScoresOk_an) ⟨mkE 41 0 [(0, .dat (.list (.list (.int .i64))) x17191), (3, dI x17250)], []⟩ (spec_ScoresOk_n3 x17191 x17250) (Sum.elim (fun (t : Unit) => (Exit.normal, ⟨mkE 41 0 [(0, .dat (.list (.list (.int .i64))) x17191), (3, dI x17250)], []⟩)) (fun (t : Unit) => ((Exit.exit 0), ⟨mkE 41 0 [(0, .dat (.list (.list (.int .i64))) x17191)], []⟩))) := by
  refine Link.of fun K h => ?_
  simp only [spec_ScoresOk_n3, wpO_bind, wpO_cond, wpO_map, wpO_some] at h
  exact Awp.of (by kernel_rfl) h

theorem spec_ScoresOk_n4_l (x17191 : List (List Int)) (x17250 : Int) : Link spec_ScoresOk_ctx LL (Code.seq (cq [0,0,0,1,0,0,1,0,1] (bodyOf Try.f14)) (cq [0,1,0,0,1,0,0,1,0,1] (bodyOf Try.f14))) (Ann.seq (aq [0,0,0,1,0,0,1,0,1] spec_ScoresOk_an) (aq [0,1,0,0,1,0,0,1,0,1] spec_ScoresOk_an)) ⟨mkE 41 0 [(0, .dat (.list (.list (.int .i64))) x17191), (3, dI x17250)], []⟩ (spec_ScoresOk_n4 x17191 x17250) (Sum.elim (fun (t : Unit) => (Exit.normal, ⟨mkE 41 0 [(0, .dat (.list (.list (.int .i64))) x17191), (3, dI x17250), (4, dI 0)], []⟩)) (fun (t : Bool) => (Exit.ret, ⟨mkE 41 0 [(2, dB t)], []⟩))) := by
  refine Link.of fun K h => ?_
  simp only [spec_ScoresOk_n4, wpO_bind, wpO_cond, wpO_map, wpO_some] at h
  exact Awp.of (by kernel_rfl) h

theorem spec_ScoresOk_n5_l (x17191 : List (List Int)) (x17250 : Int) (x17281 : Int) : Link spec_ScoresOk_ctx LL (cq [0,0,1,1,0,0,1,0,0,1,0,1] (bodyOf Try.f14)) (aq [0,0,1,1,0,0,1,0,0,1,0,1] spec_ScoresOk_an) ⟨mkE 41 0 [(0, .dat (.list (.list (.int .i64))) x17191), (3, dI x17250), (4, dI x17281)], []⟩ (spec_ScoresOk_n5 x17191 x17250 x17281) (Sum.elim (fun (t : Int) => (Exit.normal, ⟨mkE 41 0 [(0, .dat (.list (.list (.int .i64))) x17191), (3, dI x17250), (4, dI t)], []⟩)) (Sum.elim (fun (t : Bool) => (Exit.ret, ⟨mkE 41 0 [(2, dB t)], []⟩)) (fun (t : Unit) => ((Exit.exit 2), ⟨mkE 41 0 [(0, .dat (.list (.list (.int .i64))) x17191), (3, dI x17250)], []⟩)))) := by
  refine Link.of fun K h => ?_
  simp only [spec_ScoresOk_n5, wpO_bind, wpO_cond, wpO_map, wpO_some] at h
  exact Awp.of (by kernel_rfl) h

def spec_ScoresOk_n6_l (x17191 : List (List Int)) (x17250 : Int) := (link_loop (mk := fun (s : Int) => ⟨mkE 41 0 [(0, .dat (.list (.list (.int .i64))) x17191), (3, dI x17250), (4, dI s)], []⟩) (fin := (Sum.elim (fun (t : Bool) => (Exit.ret, ⟨mkE 41 0 [(2, dB t)], []⟩)) (fun (t : Unit) => ((Exit.exit 2), ⟨mkE 41 0 [(0, .dat (.list (.list (.int .i64))) x17191), (3, dI x17250)], []⟩)))) (by
  rintro (t | t) f K h
  · exact h
  · exact h) (fun s => link_map (spec_ScoresOk_n5_l x17191 x17250 s) (Sum.elim (fun (t : Int) => Sum.inl t) (Sum.elim (fun (t : Bool) => Sum.inr (Sum.inl t)) (fun (t : Unit) => Sum.inr (Sum.inr t)))) (by
  rintro (t | t | t)
  · kernel_rfl
  · kernel_rfl
  · kernel_rfl)) 0)

def spec_ScoresOk_n7_l (x17191 : List (List Int)) (x17250 : Int) := (link_block (fin2 := (Sum.elim (fun (t : Unit) => (Exit.normal, ⟨mkE 41 0 [(0, .dat (.list (.list (.int .i64))) x17191), (3, dI x17250)], []⟩)) (fun (t : Bool) => (Exit.ret, ⟨mkE 41 0 [(2, dB t)], []⟩)))) (id := 2) (spec_ScoresOk_n6_l x17191 x17250) (Sum.elim (fun (t : Bool) => (Sum.inr t)) (fun (t : Unit) => (Sum.inl ()))) (by
  rintro (t | t) K h
  · exact Eq.mp (by kernel_rfl) h
  · exact Eq.mp (by kernel_rfl) h))

def spec_ScoresOk_n8_l (x17191 : List (List Int)) (x17250 : Int) := (link_group (c := (cq [0,1,0,0,1,0,0,1,0,1] (bodyOf Try.f14))) (a := (aq [0,1,0,0,1,0,0,1,0,1] spec_ScoresOk_an)) [(cq [0,0,0,1,0,0,1,0,1] (bodyOf Try.f14))] [(aq [0,0,0,1,0,0,1,0,1] spec_ScoresOk_an)] rfl (link_seq2 (spec_ScoresOk_n4_l x17191 x17250) (fun (t : Unit) => (spec_ScoresOk_n7_l x17191 x17250)) (fun (t : Bool) => (Sum.inr t)) (by
  rintro t
  · kernel_rfl) (by
  rintro t f K h
  · exact h)))

def spec_ScoresOk_n9_l (x17191 : List (List Int)) (x17250 : Int) := (link_block (fin2 := (Sum.elim (fun (t : Unit) => (Exit.normal, ⟨mkE 41 0 [(0, .dat (.list (.list (.int .i64))) x17191), (3, dI x17250)], []⟩)) (fun (t : Bool) => (Exit.ret, ⟨mkE 41 0 [(2, dB t)], []⟩)))) (id := 1) (spec_ScoresOk_n8_l x17191 x17250) (Sum.elim (fun (t : Unit) => (Sum.inl ())) (fun (t : Bool) => (Sum.inr t))) (by
  rintro (t | t) K h
  · exact Eq.mp (by kernel_rfl) h
  · exact Eq.mp (by kernel_rfl) h))

theorem spec_ScoresOk_n10_l (x17191 : List (List Int)) (x17250 : Int) : Link spec_ScoresOk_ctx LL (cq [1,1,0,0,1,0,1] (bodyOf Try.f14)) (aq [1,1,0,0,1,0,1] spec_ScoresOk_an) ⟨mkE 41 0 [(0, .dat (.list (.list (.int .i64))) x17191), (3, dI x17250)], []⟩ (spec_ScoresOk_n10 x17250) (fun (t : Int) => (Exit.normal, ⟨mkE 41 0 [(0, .dat (.list (.list (.int .i64))) x17191), (3, dI t)], []⟩)) := by
  refine Link.of fun K h => ?_
  simp only [spec_ScoresOk_n10, wpO_bind, wpO_cond, wpO_map, wpO_some] at h
  exact Awp.of (by kernel_rfl) h

def spec_ScoresOk_n11_l (x17191 : List (List Int)) (x17250 : Int) := (link_seq2 (spec_ScoresOk_n9_l x17191 x17250) (fun (t : Unit) => (link_map (fin2 := (Sum.elim (fun (t : Int) => (Exit.normal, ⟨mkE 41 0 [(0, .dat (.list (.list (.int .i64))) x17191), (3, dI t)], []⟩)) (fun (t : Bool) => (Exit.ret, ⟨mkE 41 0 [(2, dB t)], []⟩)))) (spec_ScoresOk_n10_l x17191 x17250) (fun (t : Int) => (Sum.inl t)) (by
  rintro t
  · kernel_rfl))) (fun (t : Bool) => (Sum.inr t)) (by
  rintro t
  · kernel_rfl) (by
  rintro t f K h
  · exact h))

def spec_ScoresOk_n12_l (x17191 : List (List Int)) (x17250 : Int) := (link_seq2 (spec_ScoresOk_n3_l x17191 x17250) (fun (t : Unit) => (link_map (fin2 := (Sum.elim (fun (t : Int) => (Exit.normal, ⟨mkE 41 0 [(0, .dat (.list (.list (.int .i64))) x17191), (3, dI t)], []⟩)) (Sum.elim (fun (t : Bool) => (Exit.ret, ⟨mkE 41 0 [(2, dB t)], []⟩)) (fun (t : Unit) => ((Exit.exit 0), ⟨mkE 41 0 [(0, .dat (.list (.list (.int .i64))) x17191)], []⟩))))) (spec_ScoresOk_n11_l x17191 x17250) (Sum.elim (fun (t : Int) => (Sum.inl t)) (fun (t : Bool) => (Sum.inr (Sum.inl t)))) (by
  rintro (t | t)
  · kernel_rfl
  · kernel_rfl))) (fun (t : Unit) => (Sum.inr (Sum.inr t))) (by
  rintro t
  · kernel_rfl) (by
  rintro t f K h
  · exact h))

def spec_ScoresOk_n13_l (x17191 : List (List Int)) := (link_loop (mk := fun (s : Int) => ⟨mkE 41 0 [(0, .dat (.list (.list (.int .i64))) x17191), (3, dI s)], []⟩) (fin := (Sum.elim (fun (t : Bool) => (Exit.ret, ⟨mkE 41 0 [(2, dB t)], []⟩)) (fun (t : Unit) => ((Exit.exit 0), ⟨mkE 41 0 [(0, .dat (.list (.list (.int .i64))) x17191)], []⟩)))) (by
  rintro (t | t) f K h
  · exact h
  · exact h) (fun s => link_map (spec_ScoresOk_n12_l x17191 s) (Sum.elim (fun (t : Int) => Sum.inl t) (Sum.elim (fun (t : Bool) => Sum.inr (Sum.inl t)) (fun (t : Unit) => Sum.inr (Sum.inr t)))) (by
  rintro (t | t | t)
  · kernel_rfl
  · kernel_rfl
  · kernel_rfl)) 0)

def spec_ScoresOk_n14_l (x17191 : List (List Int)) := (link_block (fin2 := (Sum.elim (fun (t : Unit) => (Exit.normal, ⟨mkE 41 0 [(0, .dat (.list (.list (.int .i64))) x17191)], []⟩)) (fun (t : Bool) => (Exit.ret, ⟨mkE 41 0 [(2, dB t)], []⟩)))) (id := 0) (spec_ScoresOk_n13_l x17191) (Sum.elim (fun (t : Bool) => (Sum.inr t)) (fun (t : Unit) => (Sum.inl ()))) (by
  rintro (t | t) K h
  · exact Eq.mp (by kernel_rfl) h
  · exact Eq.mp (by kernel_rfl) h))

def spec_ScoresOk_n15_l (x17191 : List (List Int)) := (link_seq (spec_ScoresOk_n2_l x17191) (fun (t : Unit) => (spec_ScoresOk_n14_l x17191)))

theorem spec_ScoresOk_n16_l (x17191 : List (List Int)) : Link spec_ScoresOk_ctx LL (cq [1,1] (bodyOf Try.f14)) (aq [1,1] spec_ScoresOk_an) ⟨mkE 41 0 [(0, .dat (.list (.list (.int .i64))) x17191)], []⟩ (spec_ScoresOk_n16 x17191) (fun (t : Bool) => (Exit.ret, ⟨mkE 41 0 [(2, dB t)], []⟩)) := by
  refine Link.of fun K h => ?_
  simp only [spec_ScoresOk_n16, wpO_bind, wpO_cond, wpO_map, wpO_some] at h
  exact Awp.of (by kernel_rfl) h

def spec_ScoresOk_n17_l (x17191 : List (List Int)) := (link_seq2 (spec_ScoresOk_n15_l x17191) (fun (t : Unit) => (spec_ScoresOk_n16_l x17191)) (fun (t : Bool) => t) (by
  rintro t
  · kernel_rfl) (by
  rintro t f K h
  · exact h))

def spec_ScoresOk_n18_l (x17191 : List (List Int)) := (link_seq (spec_ScoresOk_n1_l x17191) (fun (t : Unit) => (spec_ScoresOk_n17_l x17191)))

theorem spec_ScoresOk_e (x17191 : List (List Int)) {r : AV} {H' : Heap} (h : (Ans.mk _ (spec_ScoresOk x17191) (fun (t : Bool) => (dB t, [])) [] none).run = some (r, H')) : Awp spec_ScoresOk_ctx LL (bodyOf Try.f14) spec_ScoresOk_an ⟨mkE 41 0 [(0, .dat (.list (.list (.int .i64))) x17191)], []⟩ (Ret (tlook tys) Try.f14.results.toList r H') :=
  ret_of' (Link.cast (by kernel_rfl) (by kernel_rfl) (spec_ScoresOk_n18_l x17191)) (by unfold spec_ScoresOk; kernel_rfl) (by
  intro t
  exact ret_mk [dB t] (by kernel_rfl) (by kernel_rfl) (by kernel_rfl) (by kernel_rfl)) h

def F_spec_ScoresOk : Fun := fun avs H =>
  match avs, H with
  | [.dat (.list (.list (.int .i64))) x17191], [] => ⟨_, spec_ScoresOk x17191, fun (t : Bool) => (dB t, []), [], none⟩
  | _, _ => Ans.no

theorem spec_ScoresOk_sound : Sound Try.prog 14 F_spec_ScoresOk := by
  refine fn_sound' (C := spec_ScoresOk_ctx) (c := bodyOf Try.f14) (cok_of tys_ok (allc spec_l1In_sound alln) (allc Try.call40 alln) (by kernel_rfl)) Try.func14 (by kernel_rfl) LL spec_ScoresOk_an ?_
  intro avs H r H' h
  unfold F_spec_ScoresOk at h
  split at h
  · refine Awp.cast ?_ ?_ ?_ (spec_ScoresOk_e _ h) <;> kernel_rfl
  · simp [Ans.no, Ans.run] at h


/-! loop.example/headtrees/impl.oneRoot -/

def impl_oneRoot_an : Ann := (.seq (.leaf [0]) (.seq (.leaf [0, 3]) (.seq (.seq (.leaf [0, 3, 6, 7, 8]) (.block (.loop (.seq (.leaf [0, 3, 6, 7, 8, 9]) (.seq (.cond (.leaf [0, 3, 6, 7, 8]) (.leaf [3])) (.seq (.block (.seq (.leaf [0, 3, 5, 6, 7, 8]) (.seq (.seq (.leaf [0, 3, 5, 6, 7, 8, 19]) (.cond (.seq (.leaf [2]) (.leaf [2])) (.leaf [0, 3, 5, 6, 7, 8]))) (.seq (.leaf [0, 3, 6, 7, 8, 21]) (.cond (.leaf [0, 3, 6, 7, 8]) (.leaf [0, 3, 6, 7, 8])))))) (.leaf [0, 3, 6, 7, 8]))))))) (.seq (.leaf [2]) (.leaf [2])))))

noncomputable def impl_oneRoot_ctx : Ctx := ⟨tlook tys, olook [], ioF, 0, false, []⟩

theorem impl_oneRoot_n1_l (x17431 : List Int) : Link impl_oneRoot_ctx LL (Code.seq (cq [0] (bodyOf Try.f61)) (cq [0,1] (bodyOf Try.f61))) (Ann.seq (aq [0] impl_oneRoot_an) (aq [0,1] impl_oneRoot_an)) ⟨mkE 27 0 [(0, dL x17431)], []⟩ (impl_oneRoot_n1) (fun (t : Unit) => (Exit.normal, ⟨mkE 27 0 [(0, dL x17431), (3, dI 0)], []⟩)) := by
  refine Link.of fun K h => ?_
  simp only [impl_oneRoot_n1, wpO_bind, wpO_cond, wpO_map, wpO_some] at h
  exact Awp.of (by kernel_rfl) h

theorem impl_oneRoot_n2_l (x17431 : List Int) : Link impl_oneRoot_ctx LL (cq [0,0,1,1] (bodyOf Try.f61)) (aq [0,0,1,1] impl_oneRoot_an) ⟨mkE 27 0 [(0, dL x17431), (3, dI 0)], []⟩ (impl_oneRoot_n2 x17431) (fun (t : Int) => (Exit.normal, ⟨mkE 27 0 [(0, dL x17431), (3, dI 0), (6, dL x17431), (7, dI t), (8, dI 0)], []⟩)) := by
  refine Link.of fun K h => ?_
  simp only [impl_oneRoot_n2, wpO_bind, wpO_cond, wpO_map, wpO_some] at h
  exact Awp.of (by kernel_rfl) h

theorem impl_oneRoot_n3_l (x17431 : List Int) (x17453 : Int) (x17432 : Int) (x17454 : Int) : Link impl_oneRoot_ctx LL (cq [0,0,1,0,1,1] (bodyOf Try.f61)) (aq [0,0,1,0,1,1] impl_oneRoot_an) ⟨mkE 27 0 [(0, dL x17431), (3, dI x17453), (6, dL x17431), (7, dI x17432), (8, dI x17454)], []⟩ (impl_oneRoot_n3 x17431 x17453 x17432 x17454) (Sum.elim (fun (t : Int × Int) => (Exit.normal, ⟨mkE 27 0 [(0, dL x17431), (3, dI t.1), (6, dL x17431), (7, dI x17432), (8, dI t.2)], []⟩)) (Sum.elim (fun (t : Bool) => (Exit.ret, ⟨mkE 27 0 [(2, dB t)], []⟩)) (fun (t : Int) => ((Exit.exit 0), ⟨mkE 27 0 [(3, dI t)], []⟩)))) := by
  refine Link.of fun K h => ?_
  simp only [impl_oneRoot_n3, wpO_bind, wpO_cond, wpO_map, wpO_some] at h
  exact Awp.of (by kernel_rfl) h

def impl_oneRoot_n4_l (x17431 : List Int) (x17432 : Int) := (link_loop (mk := fun (s : Int × Int) => ⟨mkE 27 0 [(0, dL x17431), (3, dI s.1), (6, dL x17431), (7, dI x17432), (8, dI s.2)], []⟩) (fin := (Sum.elim (fun (t : Bool) => (Exit.ret, ⟨mkE 27 0 [(2, dB t)], []⟩)) (fun (t : Int) => ((Exit.exit 0), ⟨mkE 27 0 [(3, dI t)], []⟩)))) (by
  rintro (t | t) f K h
  · exact h
  · exact h) (fun s => link_map (impl_oneRoot_n3_l x17431 s.1 x17432 s.2) (Sum.elim (fun (t : Int × Int) => Sum.inl (t.1, t.2)) (Sum.elim (fun (t : Bool) => Sum.inr (Sum.inl t)) (fun (t : Int) => Sum.inr (Sum.inr t)))) (by
  rintro (t | t | t)
  · kernel_rfl
  · kernel_rfl
  · kernel_rfl)) (0, 0))

def impl_oneRoot_n5_l (x17431 : List Int) (x17432 : Int) := (link_block (fin2 := (Sum.elim (fun (t : Int) => (Exit.normal, ⟨mkE 27 0 [(3, dI t)], []⟩)) (fun (t : Bool) => (Exit.ret, ⟨mkE 27 0 [(2, dB t)], []⟩)))) (id := 0) (impl_oneRoot_n4_l x17431 x17432) (Sum.elim (fun (t : Bool) => (Sum.inr t)) (fun (t : Int) => (Sum.inl t))) (by
  rintro (t | t) K h
  · exact Eq.mp (by kernel_rfl) h
  · exact Eq.mp (by kernel_rfl) h))

def impl_oneRoot_n6_l (x17431 : List Int) := (link_seq (impl_oneRoot_n2_l x17431) (fun (t : Int) => (impl_oneRoot_n5_l x17431 t)))

theorem impl_oneRoot_n7_l (x17453 : Int) : Link impl_oneRoot_ctx LL (cq [1,1,1] (bodyOf Try.f61)) (aq [1,1,1] impl_oneRoot_an) ⟨mkE 27 0 [(3, dI x17453)], []⟩ (impl_oneRoot_n7 x17453) (fun (t : Bool) => (Exit.ret, ⟨mkE 27 0 [(2, dB t)], []⟩)) := by
  refine Link.of fun K h => ?_
  simp only [impl_oneRoot_n7, wpO_bind, wpO_cond, wpO_map, wpO_some] at h
  exact Awp.of (by kernel_rfl) h

def impl_oneRoot_n8_l (x17431 : List Int) := (link_seq2 (impl_oneRoot_n6_l x17431) (fun (t : Int) => (impl_oneRoot_n7_l t)) (fun (t : Bool) => t) (by
  rintro t
  · kernel_rfl) (by
  rintro t f K h
  · exact h))

def impl_oneRoot_n9_l (x17431 : List Int) := (link_group (c := (cq [0,1] (bodyOf Try.f61))) (a := (aq [0,1] impl_oneRoot_an)) [(cq [0] (bodyOf Try.f61))] [(aq [0] impl_oneRoot_an)] rfl (link_seq (impl_oneRoot_n1_l x17431) (fun (t : Unit) => (impl_oneRoot_n8_l x17431))))

theorem impl_oneRoot_e (x17431 : List Int) {r : AV} {H' : Heap} (h : (Ans.mk _ (impl_oneRoot x17431) (fun (t : Bool) => (dB t, [])) [] none).run = some (r, H')) : Awp impl_oneRoot_ctx LL (bodyOf Try.f61) impl_oneRoot_an ⟨mkE 27 0 [(0, dL x17431)], []⟩ (Ret (tlook tys) Try.f61.results.toList r H') :=
  ret_of' (Link.cast (by kernel_rfl) (by kernel_rfl) (impl_oneRoot_n9_l x17431)) (by unfold impl_oneRoot; kernel_rfl) (by
  intro t
  exact ret_mk [dB t] (by kernel_rfl) (by kernel_rfl) (by kernel_rfl) (by kernel_rfl)) h

def F_impl_oneRoot : Fun := fun avs H =>
  match avs, H with
  | [.dat (.list (.int .i64)) x17431], [] => ⟨_, impl_oneRoot x17431, fun (t : Bool) => (dB t, []), [], none⟩
  | _, _ => Ans.no

theorem impl_oneRoot_sound : Sound Try.prog 61 F_impl_oneRoot := by
  refine fn_sound' (C := impl_oneRoot_ctx) (c := bodyOf Try.f61) (cok_of tys_ok (alln) (alln) (by kernel_rfl)) Try.func61 (by kernel_rfl) LL impl_oneRoot_an ?_
  intro avs H r H' h
  unfold F_impl_oneRoot at h
  split at h
  · refine Awp.cast ?_ ?_ ?_ (impl_oneRoot_e _ h) <;> kernel_rfl
  · simp [Ans.no, Ans.run] at h


/-! (*loop.example/headtrees/impl.walker).up -/

def impl_walker_up_an : Ann := (.seq (.leaf [0]) (.seq (.draw [] [0, 1, 2, 3, 4, 5, 6, 7, 8, 9, 10, 11] [] [0, 3]) (.seq (.seq (.leaf [0, 3, 16]) (.cond (.seq (.leaf [2]) (.leaf [2])) (.leaf [0, 3]))) (.seq (.leaf [0]) (.seq (.leaf []) (.seq (.leaf [2]) (.leaf [2])))))))

noncomputable def impl_walker_up_ctx : Ctx := ⟨tlook tys, olook [], ioF, 1, false, []⟩

theorem impl_walker_up_n1_l (x17487 : List Int) (x17488 : Int) (x17489 : Int) : Link impl_walker_up_ctx LL (bodyOf Try.f71) impl_walker_up_an ⟨mkE 28 0 [(0, .ptr 0 0)], [some (.box [dL x17487, dI x17488, dI x17489])]⟩ (impl_walker_up_n1 x17487 x17488 x17489) (fun (t : Bool × Int × Int) => (Exit.ret, ⟨mkE 28 0 [(2, dB t.1)], [some (.box [dL x17487, dI t.2.1, dI t.2.2])]⟩)) := by
  refine Link.of fun K h => ?_
  simp only [impl_walker_up_n1, wpO_bind, wpO_cond, wpO_map, wpO_some] at h
  exact Awp.of (by kernel_rfl) h

theorem impl_walker_up_e (x17487 : List Int) (x17488 : Int) (x17489 : Int) {r : AV} {H' : Heap} (h : (Ans.mk _ (impl_walker_up x17487 x17488 x17489) (fun (t : Bool × Int × Int) => (dB t.1, [some (.box [dL x17487, dI t.2.1, dI t.2.2])])) [] none).run = some (r, H')) : Awp impl_walker_up_ctx LL (bodyOf Try.f71) impl_walker_up_an ⟨mkE 28 0 [(0, .ptr 0 0)], [some (.box [dL x17487, dI x17488, dI x17489])]⟩ (Ret (tlook tys) Try.f71.results.toList r H') :=
  ret_of' (impl_walker_up_n1_l x17487 x17488 x17489) (by unfold impl_walker_up; kernel_rfl) (by
  intro t
  exact ret_mk [dB t.1] (by kernel_rfl) (by kernel_rfl) (by kernel_rfl) (by kernel_rfl)) h

def F_impl_walker_up : Fun := fun avs H =>
  match avs, H with
  | [.ptr 0 0], [some (.box [.dat (.list (.int .i64)) x17487, .dat (.int .i64) x17488, .dat (.int .i64) x17489])] => ⟨_, impl_walker_up x17487 x17488 x17489, fun (t : Bool × Int × Int) => (dB t.1, [some (.box [dL x17487, dI t.2.1, dI t.2.2])]), [], none⟩
  | _, _ => Ans.no

theorem impl_walker_up_sound : Sound Try.prog 71 F_impl_walker_up := by
  refine fn_sound' (C := impl_walker_up_ctx) (c := bodyOf Try.f71) (cok_of tys_ok (alln) (alln) (by kernel_rfl)) Try.func71 (by kernel_rfl) LL impl_walker_up_an ?_
  intro avs H r H' h
  unfold F_impl_walker_up at h
  split at h
  · refine Awp.cast ?_ ?_ ?_ (impl_walker_up_e _ _ _ h) <;> kernel_rfl
  · simp [Ans.no, Ans.run] at h


/-! loop.example/headtrees/impl.stepsToRoot -/

def impl_stepsToRoot_an : Ann := (.seq (.leaf [0, 1]) (.seq (.leaf [0, 6]) (.seq (.block (.loop (.seq (.seq (.leaf [0, 6, 10]) (.cond (.leaf [0, 6]) (.leaf [6]))) (.block (.seq (.leaf [0, 6, 15]) (.cond (.seq (.leaf [4, 5]) (.leaf [4, 5])) (.leaf [0, 6]))))))) (.seq (.leaf [4, 5]) (.leaf [4, 5])))))

noncomputable def impl_stepsToRoot_ctx : Ctx := ⟨tlook tys, olook [(71, F_impl_walker_up)], ioF, 0, false, []⟩

theorem impl_stepsToRoot_n1_l (x17485 : List Int) (x17486 : Int) : Link impl_stepsToRoot_ctx LL (Code.seq (cq [0] (bodyOf Try.f62)) (cq [0,1] (bodyOf Try.f62))) (Ann.seq (aq [0] impl_stepsToRoot_an) (aq [0,1] impl_stepsToRoot_an)) ⟨mkE 18 0 [(0, dL x17485), (1, dI x17486)], []⟩ (impl_stepsToRoot_n1) (fun (t : Unit) => (Exit.normal, ⟨mkE 18 0 [(0, dL x17485), (6, .ptr 0 0)], [some (.box [dL x17485, dI x17486, dI 0])]⟩)) := by
  refine Link.of fun K h => ?_
  simp only [impl_stepsToRoot_n1, wpO_bind, wpO_cond, wpO_map, wpO_some] at h
  exact Awp.of (by kernel_rfl) h

theorem impl_stepsToRoot_n2_l (x17485 : List Int) (x17523 : Int) (x17524 : Int) : Link impl_stepsToRoot_ctx LL (cq [0,0,0,1,1] (bodyOf Try.f62)) (aq [0,0,0,1,1] impl_stepsToRoot_an) ⟨mkE 18 0 [(0, dL x17485), (6, .ptr 0 0)], [some (.box [dL x17485, dI x17523, dI x17524])]⟩ (impl_stepsToRoot_n2 x17485 x17523 x17524) (Sum.elim (fun (t : Int × Int) => (Exit.normal, ⟨mkE 18 0 [(0, dL x17485), (6, .ptr 0 0)], [some (.box [dL x17485, dI t.1, dI t.2])]⟩)) (Sum.elim (fun (t : Int × Bool) => (Exit.ret, ⟨mkE 18 0 [(4, dI t.1), (5, dB t.2)], []⟩)) (fun (t : Int × Int) => ((Exit.exit 0), ⟨mkE 18 0 [(6, .ptr 0 0)], [some (.box [dL x17485, dI t.1, dI t.2])]⟩)))) := by
  refine Link.of fun K h => ?_
  simp only [impl_stepsToRoot_n2, wpO_bind, wpO_cond, wpO_map, wpO_some] at h
  exact Awp.of (by kernel_rfl) h

def impl_stepsToRoot_n3_l (x17485 : List Int) (x17486 : Int) := (link_loop (mk := fun (s : Int × Int) => ⟨mkE 18 0 [(0, dL x17485), (6, .ptr 0 0)], [some (.box [dL x17485, dI s.1, dI s.2])]⟩) (fin := (Sum.elim (fun (t : Int × Bool) => (Exit.ret, ⟨mkE 18 0 [(4, dI t.1), (5, dB t.2)], []⟩)) (fun (t : Int × Int) => ((Exit.exit 0), ⟨mkE 18 0 [(6, .ptr 0 0)], [some (.box [dL x17485, dI t.1, dI t.2])]⟩)))) (by
  rintro (t | t) f K h
  · exact h
  · exact h) (fun s => link_map (impl_stepsToRoot_n2_l x17485 s.1 s.2) (Sum.elim (fun (t : Int × Int) => Sum.inl (t.1, t.2)) (Sum.elim (fun (t : Int × Bool) => Sum.inr (Sum.inl t)) (fun (t : Int × Int) => Sum.inr (Sum.inr t)))) (by
  rintro (t | t | t)
  · kernel_rfl
  · kernel_rfl
  · kernel_rfl)) (x17486, 0))

def impl_stepsToRoot_n4_l (x17485 : List Int) (x17486 : Int) := (link_block (fin2 := (Sum.elim (fun (t : Int × Int) => (Exit.normal, ⟨mkE 18 0 [(6, .ptr 0 0)], [some (.box [dL x17485, dI t.1, dI t.2])]⟩)) (fun (t : Int × Bool) => (Exit.ret, ⟨mkE 18 0 [(4, dI t.1), (5, dB t.2)], []⟩)))) (id := 0) (impl_stepsToRoot_n3_l x17485 x17486) (Sum.elim (fun (t : Int × Bool) => (Sum.inr t)) (fun (t : Int × Int) => (Sum.inl (t.1, t.2)))) (by
  rintro (t | t) K h
  · exact Eq.mp (by kernel_rfl) h
  · exact Eq.mp (by kernel_rfl) h))

theorem impl_stepsToRoot_n5_l (x17485 : List Int) (x17531 : Int) (x17532 : Int) : Link impl_stepsToRoot_ctx LL (cq [1,1,1] (bodyOf Try.f62)) (aq [1,1,1] impl_stepsToRoot_an) ⟨mkE 18 0 [(6, .ptr 0 0)], [some (.box [dL x17485, dI x17531, dI x17532])]⟩ (impl_stepsToRoot_n5 x17532) (fun (t : Int × Bool) => (Exit.ret, ⟨mkE 18 0 [(4, dI t.1), (5, dB t.2)], []⟩)) := by
  refine Link.of fun K h => ?_
  simp only [impl_stepsToRoot_n5, wpO_bind, wpO_cond, wpO_map, wpO_some] at h
  exact Awp.of (by kernel_rfl) h

def impl_stepsToRoot_n6_l (x17485 : List Int) (x17486 : Int) := (link_seq2 (impl_stepsToRoot_n4_l x17485 x17486) (fun (t : Int × Int) => (impl_stepsToRoot_n5_l x17485 t.1 t.2)) (fun (t : Int × Bool) => t) (by
  rintro t
  · kernel_rfl) (by
  rintro t f K h
  · exact h))

def impl_stepsToRoot_n7_l (x17485 : List Int) (x17486 : Int) := (link_group (c := (cq [0,1] (bodyOf Try.f62))) (a := (aq [0,1] impl_stepsToRoot_an)) [(cq [0] (bodyOf Try.f62))] [(aq [0] impl_stepsToRoot_an)] rfl (link_seq (impl_stepsToRoot_n1_l x17485 x17486) (fun (t : Unit) => (impl_stepsToRoot_n6_l x17485 x17486))))

theorem impl_stepsToRoot_e (x17485 : List Int) (x17486 : Int) {r : AV} {H' : Heap} (h : (Ans.mk _ (impl_stepsToRoot x17485 x17486) (fun (t : Int × Bool) => (.tup [dI t.1, dB t.2], [])) [] none).run = some (r, H')) : Awp impl_stepsToRoot_ctx LL (bodyOf Try.f62) impl_stepsToRoot_an ⟨mkE 18 0 [(0, dL x17485), (1, dI x17486)], []⟩ (Ret (tlook tys) Try.f62.results.toList r H') :=
  ret_of' (Link.cast (by kernel_rfl) (by kernel_rfl) (impl_stepsToRoot_n7_l x17485 x17486)) (by unfold impl_stepsToRoot; kernel_rfl) (by
  intro t
  exact ret_mk [dI t.1, dB t.2] (by kernel_rfl) (by kernel_rfl) (by kernel_rfl) (by kernel_rfl)) h

def F_impl_stepsToRoot : Fun := fun avs H =>
  match avs, H with
  | [.dat (.list (.int .i64)) x17485, .dat (.int .i64) x17486], [] => ⟨_, impl_stepsToRoot x17485 x17486, fun (t : Int × Bool) => (.tup [dI t.1, dB t.2], []), [], none⟩
  | _, _ => Ans.no

theorem impl_stepsToRoot_sound : Sound Try.prog 62 F_impl_stepsToRoot := by
  refine fn_sound' (C := impl_stepsToRoot_ctx) (c := bodyOf Try.f62) (cok_of tys_ok (allc impl_walker_up_sound alln) (allc Try.call71 alln) (by kernel_rfl)) Try.func62 (by kernel_rfl) LL impl_stepsToRoot_an ?_
  intro avs H r H' h
  unfold F_impl_stepsToRoot at h
  split at h
  · refine Awp.cast ?_ ?_ ?_ (impl_stepsToRoot_e _ _ h) <;> kernel_rfl
  · simp [Ans.no, Ans.run] at h


/-! loop.example/headtrees/impl.TreeOk -/

def impl_TreeOk_an : Ann := (.seq (.leaf [0]) (.seq (.seq (.leaf [0, 18]) (.cond (.seq (.leaf [2]) (.leaf [2])) (.leaf [0]))) (.seq (.seq (.leaf [0, 20, 21]) (.block (.loop (.seq (.leaf [0, 20, 21, 22]) (.seq (.cond (.leaf [0, 20, 21]) (.leaf [])) (.seq (.block (.seq (.leaf [0, 3, 20, 21]) (.seq (.leaf [0, 5, 20, 21]) (.seq (.leaf [0, 20, 21, 32]) (.cond (.seq (.leaf [2]) (.leaf [2])) (.leaf [0, 20, 21])))))) (.leaf [0, 20, 21]))))))) (.seq (.leaf [2]) (.leaf [2])))))

noncomputable def impl_TreeOk_ctx : Ctx := ⟨tlook tys, olook [(61, F_impl_oneRoot), (62, F_impl_stepsToRoot)], ioF, 0, false, []⟩

theorem impl_TreeOk_n1_l (x17426 : List Int) : Link impl_TreeOk_ctx LL (Code.seq (cq [0] (bodyOf Try.f41)) (cq [0,1] (bodyOf Try.f41))) (Ann.seq (aq [0] impl_TreeOk_an) (aq [0,1] impl_TreeOk_an)) ⟨mkE 34 0 [(0, dL x17426)], []⟩ (impl_TreeOk_n1 x17426) (Sum.elim (fun (t : Unit) => (Exit.normal, ⟨mkE 34 0 [(0, dL x17426)], []⟩)) (fun (t : Bool) => (Exit.ret, ⟨mkE 34 0 [(2, dB t)], []⟩))) := by
  refine Link.of fun K h => ?_
  simp only [impl_TreeOk_n1, wpO_bind, wpO_cond, wpO_map, wpO_some] at h
  exact Awp.of (by kernel_rfl) h

theorem impl_TreeOk_n2_l (x17426 : List Int) : Link impl_TreeOk_ctx LL (cq [0,0,1,1] (bodyOf Try.f41)) (aq [0,0,1,1] impl_TreeOk_an) ⟨mkE 34 0 [(0, dL x17426)], []⟩ (impl_TreeOk_n2 x17426) (fun (t : Int) => (Exit.normal, ⟨mkE 34 0 [(0, dL x17426), (20, dI t), (21, dI 0)], []⟩)) := by
  refine Link.of fun K h => ?_
  simp only [impl_TreeOk_n2, wpO_bind, wpO_cond, wpO_map, wpO_some] at h
  exact Awp.of (by kernel_rfl) h

theorem impl_TreeOk_n3_l (x17426 : List Int) (x17480 : Int) (x17548 : Int) : Link impl_TreeOk_ctx LL (cq [0,0,1,0,1,1] (bodyOf Try.f41)) (aq [0,0,1,0,1,1] impl_TreeOk_an) ⟨mkE 34 0 [(0, dL x17426), (20, dI x17480), (21, dI x17548)], []⟩ (impl_TreeOk_n3 x17426 x17480 x17548) (Sum.elim (fun (t : Int) => (Exit.normal, ⟨mkE 34 0 [(0, dL x17426), (20, dI x17480), (21, dI t)], []⟩)) (Sum.elim (fun (t : Bool) => (Exit.ret, ⟨mkE 34 0 [(2, dB t)], []⟩)) (fun (t : Unit) => ((Exit.exit 0), ⟨mkE 34 0 [], []⟩)))) := by
  refine Link.of fun K h => ?_
  simp only [impl_TreeOk_n3, wpO_bind, wpO_cond, wpO_map, wpO_some] at h
  exact Awp.of (by kernel_rfl) h

def impl_TreeOk_n4_l (x17426 : List Int) (x17480 : Int) := (link_loop (mk := fun (s : Int) => ⟨mkE 34 0 [(0, dL x17426), (20, dI x17480), (21, dI s)], []⟩) (fin := (Sum.elim (fun (t : Bool) => (Exit.ret, ⟨mkE 34 0 [(2, dB t)], []⟩)) (fun (t : Unit) => ((Exit.exit 0), ⟨mkE 34 0 [], []⟩)))) (by
  rintro (t | t) f K h
  · exact h
  · exact h) (fun s => link_map (impl_TreeOk_n3_l x17426 x17480 s) (Sum.elim (fun (t : Int) => Sum.inl t) (Sum.elim (fun (t : Bool) => Sum.inr (Sum.inl t)) (fun (t : Unit) => Sum.inr (Sum.inr t)))) (by
  rintro (t | t | t)
  · kernel_rfl
  · kernel_rfl
  · kernel_rfl)) 0)

def impl_TreeOk_n5_l (x17426 : List Int) (x17480 : Int) := (link_block (fin2 := (Sum.elim (fun (t : Unit) => (Exit.normal, ⟨mkE 34 0 [], []⟩)) (fun (t : Bool) => (Exit.ret, ⟨mkE 34 0 [(2, dB t)], []⟩)))) (id := 0) (impl_TreeOk_n4_l x17426 x17480) (Sum.elim (fun (t : Bool) => (Sum.inr t)) (fun (t : Unit) => (Sum.inl ()))) (by
  rintro (t | t) K h
  · exact Eq.mp (by kernel_rfl) h
  · exact Eq.mp (by kernel_rfl) h))

def impl_TreeOk_n6_l (x17426 : List Int) := (link_seq (impl_TreeOk_n2_l x17426) (fun (t : Int) => (impl_TreeOk_n5_l x17426 t)))

theorem impl_TreeOk_n7_l : Link impl_TreeOk_ctx LL (cq [1,1,1] (bodyOf Try.f41)) (aq [1,1,1] impl_TreeOk_an) ⟨mkE 34 0 [], []⟩ (impl_TreeOk_n7) (fun (t : Bool) => (Exit.ret, ⟨mkE 34 0 [(2, dB t)], []⟩)) := by
  refine Link.of fun K h => ?_
  simp only [impl_TreeOk_n7, wpO_bind, wpO_cond, wpO_map, wpO_some] at h
  exact Awp.of (by kernel_rfl) h

def impl_TreeOk_n8_l (x17426 : List Int) := (link_seq2 (impl_TreeOk_n6_l x17426) (fun (t : Unit) => (impl_TreeOk_n7_l)) (fun (t : Bool) => t) (by
  rintro t
  · kernel_rfl) (by
  rintro t f K h
  · exact h))

def impl_TreeOk_n9_l (x17426 : List Int) := (link_group (c := (cq [0,1] (bodyOf Try.f41))) (a := (aq [0,1] impl_TreeOk_an)) [(cq [0] (bodyOf Try.f41))] [(aq [0] impl_TreeOk_an)] rfl (link_seq2 (impl_TreeOk_n1_l x17426) (fun (t : Unit) => (impl_TreeOk_n8_l x17426)) (fun (t : Bool) => t) (by
  rintro t
  · kernel_rfl) (by
  rintro t f K h
  · exact h)))

theorem impl_TreeOk_e (x17426 : List Int) {r : AV} {H' : Heap} (h : (Ans.mk _ (impl_TreeOk x17426) (fun (t : Bool) => (dB t, [])) [] none).run = some (r, H')) : Awp impl_TreeOk_ctx LL (bodyOf Try.f41) impl_TreeOk_an ⟨mkE 34 0 [(0, dL x17426)], []⟩ (Ret (tlook tys) Try.f41.results.toList r H') :=
  ret_of' (Link.cast (by kernel_rfl) (by kernel_rfl) (impl_TreeOk_n9_l x17426)) (by unfold impl_TreeOk; kernel_rfl) (by
  intro t
  exact ret_mk [dB t] (by kernel_rfl) (by kernel_rfl) (by kernel_rfl) (by kernel_rfl)) h

def F_impl_TreeOk : Fun := fun avs H =>
  match avs, H with
  | [.dat (.list (.int .i64)) x17426], [] => ⟨_, impl_TreeOk x17426, fun (t : Bool) => (dB t, []), [], none⟩
  | _, _ => Ans.no

theorem impl_TreeOk_sound : Sound Try.prog 41 F_impl_TreeOk := by
  refine fn_sound' (C := impl_TreeOk_ctx) (c := bodyOf Try.f41) (cok_of tys_ok (allc impl_oneRoot_sound (allc impl_stepsToRoot_sound alln)) (allc Try.call61 (allc Try.call62 alln)) (by kernel_rfl)) Try.func41 (by kernel_rfl) LL impl_TreeOk_an ?_
  intro avs H r H' h
  unfold F_impl_TreeOk at h
  split at h
  · refine Awp.cast ?_ ?_ ?_ (impl_TreeOk_e _ h) <;> kernel_rfl
  · simp [Ans.no, Ans.run] at h


/-! loop.example/headtrees/spec.TreeOk -/

def spec_TreeOk_an : Ann := (.seq (.leaf [0]) (.seq (.leaf [0, 3]) (.seq (.seq (.leaf [0, 3, 12]) (.cond (.seq (.leaf [2]) (.leaf [2])) (.leaf [0, 3]))) (.seq (.leaf [0, 3, 4]) (.seq (.seq (.leaf [0, 3, 4, 5]) (.block (.loop (.seq (.seq (.leaf [0, 3, 4, 5, 15]) (.cond (.leaf [0, 3, 4, 5]) (.leaf [4]))) (.seq (.block (.seq (.seq (.leaf [0, 3, 4, 5, 33]) (.cond (.seq (.leaf [2]) (.leaf [2])) (.leaf [0, 3, 4, 5]))) (.seq (.seq (.leaf [0, 3, 4, 5, 38]) (.cond (.leaf [0, 3, 4, 5]) (.leaf [0, 3, 4, 5]))) (.seq (.leaf [0, 3, 4, 5, 6]) (.seq (.seq (.leaf [0, 3, 4, 5, 6, 7]) (.block (.loop (.seq (.seq (.leaf [0, 3, 4, 5, 6, 7, 49]) (.cond (.leaf [0, 3, 4, 5, 6, 7]) (.leaf [0, 3, 4, 5, 6]))) (.seq (.block (.seq (.leaf [0, 3, 4, 5, 6, 7]) (.seq (.leaf [0, 3, 4, 5, 6, 7, 60]) (.cond (.seq (.leaf [2]) (.leaf [2])) (.leaf [0, 3, 4, 5, 6, 7]))))) (.leaf [0, 3, 4, 5, 6, 7])))))) (.seq (.leaf [0, 3, 4, 5, 62]) (.cond (.seq (.leaf [2]) (.leaf [2])) (.leaf [0, 3, 4, 5])))))))) (.leaf [0, 3, 4, 5])))))) (.seq (.leaf [2]) (.leaf [2])))))))

noncomputable def spec_TreeOk_ctx : Ctx := ⟨tlook tys, olook [(40, F_spec_l1In)], ioF, 0, false, []⟩

theorem spec_TreeOk_n1_l (x17886 : List Int) : Link spec_TreeOk_ctx LL (Code.seq (cq [0] (bodyOf Try.f55)) (Code.seq (cq [0,1] (bodyOf Try.f55)) (Code.seq (cq [0,1,1] (bodyOf Try.f55)) (cq [0,1,1,1] (bodyOf Try.f55))))) (Ann.seq (aq [0] spec_TreeOk_an) (Ann.seq (aq [0,1] spec_TreeOk_an) (Ann.seq (aq [0,1,1] spec_TreeOk_an) (aq [0,1,1,1] spec_TreeOk_an)))) ⟨mkE 65 0 [(0, dL x17886)], []⟩ (spec_TreeOk_n1 x17886) (Sum.elim (fun (t : Int) => (Exit.normal, ⟨mkE 65 0 [(0, dL x17886), (3, dI t), (4, dI 0)], []⟩)) (fun (t : Bool) => (Exit.ret, ⟨mkE 65 0 [(2, dB t)], []⟩))) := by
  refine Link.of fun K h => ?_
  simp only [spec_TreeOk_n1, wpO_bind, wpO_cond, wpO_map, wpO_some] at h
  exact Awp.of (by kernel_rfl) h

theorem spec_TreeOk_n2_l (x17886 : List Int) (x17891 : Int) : Link spec_TreeOk_ctx LL (cq [0,0,1,1,1,1] (bodyOf Try.f55)) (aq [0,0,1,1,1,1] spec_TreeOk_an) ⟨mkE 65 0 [(0, dL x17886), (3, dI x17891), (4, dI 0)], []⟩ (spec_TreeOk_n2) (fun (t : Unit) => (Exit.normal, ⟨mkE 65 0 [(0, dL x17886), (3, dI x17891), (4, dI 0), (5, dI 0)], []⟩)) := by
  refine Link.of fun K h => ?_
  simp only [spec_TreeOk_n2, wpO_bind, wpO_cond, wpO_map, wpO_some] at h
  exact Awp.of (by kernel_rfl) h

theorem spec_TreeOk_n3_l (x17886 : List Int) (x17891 : Int) (x17958 : Int) (x17959 : Int) : Link spec_TreeOk_ctx LL (cq [0,0,0,1,0,1,1,1,1] (bodyOf Try.f55)) (aq [0,0,0,1,0,1,1,1,1] spec_TreeOk_an) ⟨mkE 65 0 [(0, dL x17886), (3, dI x17891), (4, dI x17958), (5, dI x17959)], []⟩ (spec_TreeOk_n3 x17891 x17958 x17959) (Sum.elim (fun (t : Unit) => (Exit.normal, ⟨mkE 65 0 [(0, dL x17886), (3, dI x17891), (4, dI x17958), (5, dI x17959)], []⟩)) (fun (t : Int) => ((Exit.exit 0), ⟨mkE 65 0 [(4, dI t)], []⟩))) := by
  refine Link.of fun K h => ?_
  simp only [spec_TreeOk_n3, wpO_bind, wpO_cond, wpO_map, wpO_some] at h
  exact Awp.of (by kernel_rfl) h

theorem spec_TreeOk_n4_l (x17886 : List Int) (x17891 : Int) (x17958 : Int) (x17959 : Int) : Link spec_TreeOk_ctx LL (Code.seq (cq [0,0,0,1,0,0,1,0,1,1,1,1] (bodyOf Try.f55)) (Code.seq (cq [0,1,0,0,1,0,0,1,0,1,1,1,1] (bodyOf Try.f55)) (cq [0,1,1,0,0,1,0,0,1,0,1,1,1,1] (bodyOf Try.f55)))) (Ann.seq (aq [0,0,0,1,0,0,1,0,1,1,1,1] spec_TreeOk_an) (Ann.seq (aq [0,1,0,0,1,0,0,1,0,1,1,1,1] spec_TreeOk_an) (aq [0,1,1,0,0,1,0,0,1,0,1,1,1,1] spec_TreeOk_an))) ⟨mkE 65 0 [(0, dL x17886), (3, dI x17891), (4, dI x17958), (5, dI x17959)], []⟩ (spec_TreeOk_n4 x17886 x17891 x17958 x17959) (Sum.elim (fun (t : Int × Int) => (Exit.normal, ⟨mkE 65 0 [(0, dL x17886), (3, dI x17891), (4, dI t.1), (5, dI x17959), (6, dI t.2)], []⟩)) (fun (t : Bool) => (Exit.ret, ⟨mkE 65 0 [(2, dB t)], []⟩))) := by
  refine Link.of fun K h => ?_
  simp only [spec_TreeOk_n4, wpO_bind, wpO_cond, wpO_map, wpO_some] at h
  exact Awp.of (by kernel_rfl) h

theorem spec_TreeOk_n5_l (x17886 : List Int) (x17891 : Int) (x17987 : Int) (x17959 : Int) (x17988 : Int) : Link spec_TreeOk_ctx LL (cq [0,0,1,1,1,0,0,1,0,0,1,0,1,1,1,1] (bodyOf Try.f55)) (aq [0,0,1,1,1,0,0,1,0,0,1,0,1,1,1,1] spec_TreeOk_an) ⟨mkE 65 0 [(0, dL x17886), (3, dI x17891), (4, dI x17987), (5, dI x17959), (6, dI x17988)], []⟩ (spec_TreeOk_n5) (fun (t : Unit) => (Exit.normal, ⟨mkE 65 0 [(0, dL x17886), (3, dI x17891), (4, dI x17987), (5, dI x17959), (6, dI x17988), (7, dI 0)], []⟩)) := by
  refine Link.of fun K h => ?_
  simp only [spec_TreeOk_n5, wpO_bind, wpO_cond, wpO_map, wpO_some] at h
  exact Awp.of (by kernel_rfl) h

theorem spec_TreeOk_n6_l (x17886 : List Int) (x17891 : Int) (x17987 : Int) (x17959 : Int) (x18004 : Int) (x18005 : Int) : Link spec_TreeOk_ctx LL (cq [0,0,1,0,1,1,1,0,0,1,0,0,1,0,1,1,1,1] (bodyOf Try.f55)) (aq [0,0,1,0,1,1,1,0,0,1,0,0,1,0,1,1,1,1] spec_TreeOk_an) ⟨mkE 65 0 [(0, dL x17886), (3, dI x17891), (4, dI x17987), (5, dI x17959), (6, dI x18004), (7, dI x18005)], []⟩ (spec_TreeOk_n6 x17886 x17891 x18004 x18005) (Sum.elim (fun (t : Int × Int) => (Exit.normal, ⟨mkE 65 0 [(0, dL x17886), (3, dI x17891), (4, dI x17987), (5, dI x17959), (6, dI t.1), (7, dI t.2)], []⟩)) (Sum.elim (fun (t : Bool) => (Exit.ret, ⟨mkE 65 0 [(2, dB t)], []⟩)) (fun (t : Int) => ((Exit.exit 2), ⟨mkE 65 0 [(0, dL x17886), (3, dI x17891), (4, dI x17987), (5, dI x17959), (6, dI t)], []⟩)))) := by
  refine Link.of fun K h => ?_
  simp only [spec_TreeOk_n6, wpO_bind, wpO_cond, wpO_map, wpO_some] at h
  exact Awp.of (by kernel_rfl) h

def spec_TreeOk_n7_l (x17886 : List Int) (x17891 : Int) (x17987 : Int) (x17959 : Int) (x17988 : Int) := (link_loop (mk := fun (s : Int × Int) => ⟨mkE 65 0 [(0, dL x17886), (3, dI x17891), (4, dI x17987), (5, dI x17959), (6, dI s.1), (7, dI s.2)], []⟩) (fin := (Sum.elim (fun (t : Bool) => (Exit.ret, ⟨mkE 65 0 [(2, dB t)], []⟩)) (fun (t : Int) => ((Exit.exit 2), ⟨mkE 65 0 [(0, dL x17886), (3, dI x17891), (4, dI x17987), (5, dI x17959), (6, dI t)], []⟩)))) (by
  rintro (t | t) f K h
  · exact h
  · exact h) (fun s => link_map (spec_TreeOk_n6_l x17886 x17891 x17987 x17959 s.1 s.2) (Sum.elim (fun (t : Int × Int) => Sum.inl (t.1, t.2)) (Sum.elim (fun (t : Bool) => Sum.inr (Sum.inl t)) (fun (t : Int) => Sum.inr (Sum.inr t)))) (by
  rintro (t | t | t)
  · kernel_rfl
  · kernel_rfl
  · kernel_rfl)) (x17988, 0))

def spec_TreeOk_n8_l (x17886 : List Int) (x17891 : Int) (x17987 : Int) (x17959 : Int) (x17988 : Int) := (link_block (fin2 := (Sum.elim (fun (t : Int) => (Exit.normal, ⟨mkE 65 0 [(0, dL x17886), (3, dI x17891), (4, dI x17987), (5, dI x17959), (6, dI t)], []⟩)) (fun (t : Bool) => (Exit.ret, ⟨mkE 65 0 [(2, dB t)], []⟩)))) (id := 2) (spec_TreeOk_n7_l x17886 x17891 x17987 x17959 x17988) (Sum.elim (fun (t : Bool) => (Sum.inr t)) (fun (t : Int) => (Sum.inl t))) (by
  rintro (t | t) K h
  · exact Eq.mp (by kernel_rfl) h
  · exact Eq.mp (by kernel_rfl) h))

def spec_TreeOk_n9_l (x17886 : List Int) (x17891 : Int) (x17987 : Int) (x17959 : Int) (x17988 : Int) := (link_seq (spec_TreeOk_n5_l x17886 x17891 x17987 x17959 x17988) (fun (t : Unit) => (spec_TreeOk_n8_l x17886 x17891 x17987 x17959 x17988)))

theorem spec_TreeOk_n10_l (x17886 : List Int) (x17891 : Int) (x17987 : Int) (x17959 : Int) (x18004 : Int) : Link spec_TreeOk_ctx LL (cq [1,1,1,1,0,0,1,0,0,1,0,1,1,1,1] (bodyOf Try.f55)) (aq [1,1,1,1,0,0,1,0,0,1,0,1,1,1,1] spec_TreeOk_an) ⟨mkE 65 0 [(0, dL x17886), (3, dI x17891), (4, dI x17987), (5, dI x17959), (6, dI x18004)], []⟩ (spec_TreeOk_n10 x18004) (Sum.elim (fun (t : Unit) => (Exit.normal, ⟨mkE 65 0 [(0, dL x17886), (3, dI x17891), (4, dI x17987), (5, dI x17959)], []⟩)) (fun (t : Bool) => (Exit.ret, ⟨mkE 65 0 [(2, dB t)], []⟩))) := by
  refine Link.of fun K h => ?_
  simp only [spec_TreeOk_n10, wpO_bind, wpO_cond, wpO_map, wpO_some] at h
  exact Awp.of (by kernel_rfl) h

def spec_TreeOk_n11_l (x17886 : List Int) (x17891 : Int) (x17987 : Int) (x17959 : Int) (x17988 : Int) := (link_seq2 (spec_TreeOk_n9_l x17886 x17891 x17987 x17959 x17988) (fun (t : Int) => (spec_TreeOk_n10_l x17886 x17891 x17987 x17959 t)) (fun (t : Bool) => (Sum.inr t)) (by
  rintro t
  · kernel_rfl) (by
  rintro t f K h
  · exact h))

def spec_TreeOk_n12_l (x17886 : List Int) (x17891 : Int) (x17958 : Int) (x17959 : Int) := (link_group (c := (cq [0,1,1,0,0,1,0,0,1,0,1,1,1,1] (bodyOf Try.f55))) (a := (aq [0,1,1,0,0,1,0,0,1,0,1,1,1,1] spec_TreeOk_an)) [(cq [0,0,0,1,0,0,1,0,1,1,1,1] (bodyOf Try.f55)), (cq [0,1,0,0,1,0,0,1,0,1,1,1,1] (bodyOf Try.f55))] [(aq [0,0,0,1,0,0,1,0,1,1,1,1] spec_TreeOk_an), (aq [0,1,0,0,1,0,0,1,0,1,1,1,1] spec_TreeOk_an)] rfl (link_seq2 (spec_TreeOk_n4_l x17886 x17891 x17958 x17959) (fun (t : Int × Int) => (link_map (fin2 := (Sum.elim (fun (t : Int) => (Exit.normal, ⟨mkE 65 0 [(0, dL x17886), (3, dI x17891), (4, dI t), (5, dI x17959)], []⟩)) (fun (t : Bool) => (Exit.ret, ⟨mkE 65 0 [(2, dB t)], []⟩)))) (spec_TreeOk_n11_l x17886 x17891 t.1 x17959 t.2) (Sum.elim (fun (u : Unit) => (Sum.inl t.1)) (fun (u : Bool) => (Sum.inr u))) (by
  rintro (t | t)
  · kernel_rfl
  · kernel_rfl))) (fun (t : Bool) => (Sum.inr t)) (by
  rintro t
  · kernel_rfl) (by
  rintro t f K h
  · exact h)))

def spec_TreeOk_n13_l (x17886 : List Int) (x17891 : Int) (x17958 : Int) (x17959 : Int) := (link_block (fin2 := (Sum.elim (fun (t : Int) => (Exit.normal, ⟨mkE 65 0 [(0, dL x17886), (3, dI x17891), (4, dI t), (5, dI x17959)], []⟩)) (fun (t : Bool) => (Exit.ret, ⟨mkE 65 0 [(2, dB t)], []⟩)))) (id := 1) (spec_TreeOk_n12_l x17886 x17891 x17958 x17959) (Sum.elim (fun (t : Int) => (Sum.inl t)) (fun (t : Bool) => (Sum.inr t))) (by
  rintro (t | t) K h
  · exact Eq.mp (by kernel_rfl) h
  · exact Eq.mp (by kernel_rfl) h))

theorem spec_TreeOk_n14_l (x17886 : List Int) (x17891 : Int) (x17987 : Int) (x17959 : Int) : Link spec_TreeOk_ctx LL (cq [1,1,0,0,1,0,1,1,1,1] (bodyOf Try.f55)) (aq [1,1,0,0,1,0,1,1,1,1] spec_TreeOk_an) ⟨mkE 65 0 [(0, dL x17886), (3, dI x17891), (4, dI x17987), (5, dI x17959)], []⟩ (spec_TreeOk_n14 x17959) (fun (t : Int) => (Exit.normal, ⟨mkE 65 0 [(0, dL x17886), (3, dI x17891), (4, dI x17987), (5, dI t)], []⟩)) := by
  refine Link.of fun K h => ?_
  simp only [spec_TreeOk_n14, wpO_bind, wpO_cond, wpO_map, wpO_some] at h
  exact Awp.of (by kernel_rfl) h

def spec_TreeOk_n15_l (x17886 : List Int) (x17891 : Int) (x17958 : Int) (x17959 : Int) := (link_seq2 (spec_TreeOk_n13_l x17886 x17891 x17958 x17959) (fun (t : Int) => (link_map (fin2 := (Sum.elim (fun (t : Int × Int) => (Exit.normal, ⟨mkE 65 0 [(0, dL x17886), (3, dI x17891), (4, dI t.1), (5, dI t.2)], []⟩)) (fun (t : Bool) => (Exit.ret, ⟨mkE 65 0 [(2, dB t)], []⟩)))) (spec_TreeOk_n14_l x17886 x17891 t x17959) (fun (u : Int) => (Sum.inl (t, u))) (by
  rintro t
  · kernel_rfl))) (fun (t : Bool) => (Sum.inr t)) (by
  rintro t
  · kernel_rfl) (by
  rintro t f K h
  · exact h))

def spec_TreeOk_n16_l (x17886 : List Int) (x17891 : Int) (x17958 : Int) (x17959 : Int) := (link_seq2 (spec_TreeOk_n3_l x17886 x17891 x17958 x17959) (fun (t : Unit) => (link_map (fin2 := (Sum.elim (fun (t : Int × Int) => (Exit.normal, ⟨mkE 65 0 [(0, dL x17886), (3, dI x17891), (4, dI t.1), (5, dI t.2)], []⟩)) (Sum.elim (fun (t : Bool) => (Exit.ret, ⟨mkE 65 0 [(2, dB t)], []⟩)) (fun (t : Int) => ((Exit.exit 0), ⟨mkE 65 0 [(4, dI t)], []⟩))))) (spec_TreeOk_n15_l x17886 x17891 x17958 x17959) (Sum.elim (fun (t : Int × Int) => (Sum.inl (t.1, t.2))) (fun (t : Bool) => (Sum.inr (Sum.inl t)))) (by
  rintro (t | t)
  · kernel_rfl
  · kernel_rfl))) (fun (t : Int) => (Sum.inr (Sum.inr t))) (by
  rintro t
  · kernel_rfl) (by
  rintro t f K h
  · exact h))

def spec_TreeOk_n17_l (x17886 : List Int) (x17891 : Int) := (link_loop (mk := fun (s : Int × Int) => ⟨mkE 65 0 [(0, dL x17886), (3, dI x17891), (4, dI s.1), (5, dI s.2)], []⟩) (fin := (Sum.elim (fun (t : Bool) => (Exit.ret, ⟨mkE 65 0 [(2, dB t)], []⟩)) (fun (t : Int) => ((Exit.exit 0), ⟨mkE 65 0 [(4, dI t)], []⟩)))) (by
  rintro (t | t) f K h
  · exact h
  · exact h) (fun s => link_map (spec_TreeOk_n16_l x17886 x17891 s.1 s.2) (Sum.elim (fun (t : Int × Int) => Sum.inl (t.1, t.2)) (Sum.elim (fun (t : Bool) => Sum.inr (Sum.inl t)) (fun (t : Int) => Sum.inr (Sum.inr t)))) (by
  rintro (t | t | t)
  · kernel_rfl
  · kernel_rfl
  · kernel_rfl)) (0, 0))

def spec_TreeOk_n18_l (x17886 : List Int) (x17891 : Int) := (link_block (fin2 := (Sum.elim (fun (t : Int) => (Exit.normal, ⟨mkE 65 0 [(4, dI t)], []⟩)) (fun (t : Bool) => (Exit.ret, ⟨mkE 65 0 [(2, dB t)], []⟩)))) (id := 0) (spec_TreeOk_n17_l x17886 x17891) (Sum.elim (fun (t : Bool) => (Sum.inr t)) (fun (t : Int) => (Sum.inl t))) (by
  rintro (t | t) K h
  · exact Eq.mp (by kernel_rfl) h
  · exact Eq.mp (by kernel_rfl) h))

def spec_TreeOk_n19_l (x17886 : List Int) (x17891 : Int) := (link_seq (spec_TreeOk_n2_l x17886 x17891) (fun (t : Unit) => (spec_TreeOk_n18_l x17886 x17891)))

theorem spec_TreeOk_n20_l (x17958 : Int) : Link spec_TreeOk_ctx LL (cq [1,1,1,1,1] (bodyOf Try.f55)) (aq [1,1,1,1,1] spec_TreeOk_an) ⟨mkE 65 0 [(4, dI x17958)], []⟩ (spec_TreeOk_n20 x17958) (fun (t : Bool) => (Exit.ret, ⟨mkE 65 0 [(2, dB t)], []⟩)) := by
  refine Link.of fun K h => ?_
  simp only [spec_TreeOk_n20, wpO_bind, wpO_cond, wpO_map, wpO_some] at h
  exact Awp.of (by kernel_rfl) h

def spec_TreeOk_n21_l (x17886 : List Int) (x17891 : Int) := (link_seq2 (spec_TreeOk_n19_l x17886 x17891) (fun (t : Int) => (spec_TreeOk_n20_l t)) (fun (t : Bool) => t) (by
  rintro t
  · kernel_rfl) (by
  rintro t f K h
  · exact h))

def spec_TreeOk_n22_l (x17886 : List Int) := (link_group (c := (cq [0,1,1,1] (bodyOf Try.f55))) (a := (aq [0,1,1,1] spec_TreeOk_an)) [(cq [0] (bodyOf Try.f55)), (cq [0,1] (bodyOf Try.f55)), (cq [0,1,1] (bodyOf Try.f55))] [(aq [0] spec_TreeOk_an), (aq [0,1] spec_TreeOk_an), (aq [0,1,1] spec_TreeOk_an)] rfl (link_seq2 (spec_TreeOk_n1_l x17886) (fun (t : Int) => (spec_TreeOk_n21_l x17886 t)) (fun (t : Bool) => t) (by
  rintro t
  · kernel_rfl) (by
  rintro t f K h
  · exact h)))

theorem spec_TreeOk_e (x17886 : List Int) {r : AV} {H' : Heap} (h : (Ans.mk _ (spec_TreeOk x17886) (fun (t : Bool) => (dB t, [])) [] none).run = some (r, H')) : Awp spec_TreeOk_ctx LL (bodyOf Try.f55) spec_TreeOk_an ⟨mkE 65 0 [(0, dL x17886)], []⟩ (Ret (tlook tys) Try.f55.results.toList r H') :=
  ret_of' (Link.cast (by kernel_rfl) (by kernel_rfl) (spec_TreeOk_n22_l x17886)) (by unfold spec_TreeOk; kernel_rfl) (by
  intro t
  exact ret_mk [dB t] (by kernel_rfl) (by kernel_rfl) (by kernel_rfl) (by kernel_rfl)) h

def F_spec_TreeOk : Fun := fun avs H =>
  match avs, H with
  | [.dat (.list (.int .i64)) x17886], [] => ⟨_, spec_TreeOk x17886, fun (t : Bool) => (dB t, []), [], none⟩
  | _, _ => Ans.no

theorem spec_TreeOk_sound : Sound Try.prog 55 F_spec_TreeOk := by
  refine fn_sound' (C := spec_TreeOk_ctx) (c := bodyOf Try.f55) (cok_of tys_ok (allc spec_l1In_sound alln) (allc Try.call40 alln) (by kernel_rfl)) Try.func55 (by kernel_rfl) LL spec_TreeOk_an ?_
  intro avs H r H' h
  unfold F_spec_TreeOk at h
  split at h
  · refine Awp.cast ?_ ?_ ?_ (spec_TreeOk_e _ h) <;> kernel_rfl
  · simp [Ans.no, Ans.run] at h


/-! loop.example/headtrees/spec.ScoreOf -/

def spec_ScoreOf_an : Ann := (.seq (.leaf [0, 1]) (.seq (.seq (.leaf [0, 1, 21]) (.cond (.seq (.leaf [4]) (.leaf [4])) (.leaf [0, 1]))) (.seq (.leaf [0, 1, 5]) (.seq (.seq (.leaf [0, 1, 5, 6]) (.block (.loop (.seq (.seq (.leaf [0, 1, 5, 6, 25]) (.cond (.leaf [0, 1, 5, 6]) (.leaf [5]))) (.seq (.block (.draw [] [0, 1, 2, 3, 4, 5, 6, 7, 8, 9, 10, 11, 12] [] [0, 1, 5, 6])) (.leaf [0, 1, 5, 6])))))) (.seq (.leaf [4]) (.leaf [4]))))))

noncomputable def spec_ScoreOf_ctx : Ctx := ⟨tlook tys, olook [(14, F_spec_ScoresOk), (55, F_spec_TreeOk)], ioF, 0, false, []⟩

theorem spec_ScoreOf_n1_l (x17882 : List (List Int)) (x17883 : List Int) : Link spec_ScoreOf_ctx LL (Code.seq (cq [0] (bodyOf Try.f32)) (Code.seq (cq [0,1] (bodyOf Try.f32)) (cq [0,1,1] (bodyOf Try.f32)))) (Ann.seq (aq [0] spec_ScoreOf_an) (Ann.seq (aq [0,1] spec_ScoreOf_an) (aq [0,1,1] spec_ScoreOf_an))) ⟨mkE 41 0 [(0, .dat (.list (.list (.int .i64))) x17882), (1, dL x17883)], []⟩ (spec_ScoreOf_n1 x17882 x17883) (Sum.elim (fun (t : Unit) => (Exit.normal, ⟨mkE 41 0 [(0, .dat (.list (.list (.int .i64))) x17882), (1, dL x17883), (5, dI 0)], []⟩)) (fun (t : Int) => (Exit.ret, ⟨mkE 41 0 [(4, dI t)], []⟩))) := by
  refine Link.of fun K h => ?_
  simp only [spec_ScoreOf_n1, wpO_bind, wpO_cond, wpO_map, wpO_some] at h
  exact Awp.of (by kernel_rfl) h

theorem spec_ScoreOf_n2_l (x17882 : List (List Int)) (x17883 : List Int) : Link spec_ScoreOf_ctx LL (cq [0,0,1,1,1] (bodyOf Try.f32)) (aq [0,0,1,1,1] spec_ScoreOf_an) ⟨mkE 41 0 [(0, .dat (.list (.list (.int .i64))) x17882), (1, dL x17883), (5, dI 0)], []⟩ (spec_ScoreOf_n2) (fun (t : Unit) => (Exit.normal, ⟨mkE 41 0 [(0, .dat (.list (.list (.int .i64))) x17882), (1, dL x17883), (5, dI 0), (6, dI 0)], []⟩)) := by
  refine Link.of fun K h => ?_
  simp only [spec_ScoreOf_n2, wpO_bind, wpO_cond, wpO_map, wpO_some] at h
  exact Awp.of (by kernel_rfl) h

theorem spec_ScoreOf_n3_l (x17882 : List (List Int)) (x17883 : List Int) (x18054 : Int) (x18055 : Int) : Link spec_ScoreOf_ctx LL (cq [0,0,1,0,1,1,1] (bodyOf Try.f32)) (aq [0,0,1,0,1,1,1] spec_ScoreOf_an) ⟨mkE 41 0 [(0, .dat (.list (.list (.int .i64))) x17882), (1, dL x17883), (5, dI x18054), (6, dI x18055)], []⟩ (spec_ScoreOf_n3 x17882 x17883 x18054 x18055) (Sum.elim (fun (t : Int × Int) => (Exit.normal, ⟨mkE 41 0 [(0, .dat (.list (.list (.int .i64))) x17882), (1, dL x17883), (5, dI t.1), (6, dI t.2)], []⟩)) (fun (t : Int) => ((Exit.exit 0), ⟨mkE 41 0 [(5, dI t)], []⟩))) := by
  refine Link.of fun K h => ?_
  simp only [spec_ScoreOf_n3, wpO_bind, wpO_cond, wpO_map, wpO_some] at h
  exact Awp.of (by kernel_rfl) h

def spec_ScoreOf_n4_l (x17882 : List (List Int)) (x17883 : List Int) := (link_loop (mk := fun (s : Int × Int) => ⟨mkE 41 0 [(0, .dat (.list (.list (.int .i64))) x17882), (1, dL x17883), (5, dI s.1), (6, dI s.2)], []⟩) (fin := (fun (t : Int) => ((Exit.exit 0), ⟨mkE 41 0 [(5, dI t)], []⟩))) (by
  rintro t f K h
  · exact h) (fun s => link_map (spec_ScoreOf_n3_l x17882 x17883 s.1 s.2) (Sum.elim (fun (t : Int × Int) => Sum.inl (t.1, t.2)) (fun (t : Int) => Sum.inr t)) (by
  rintro (t | t)
  · kernel_rfl
  · kernel_rfl)) (0, 0))

def spec_ScoreOf_n5_l (x17882 : List (List Int)) (x17883 : List Int) := (link_block (fin2 := (fun (t : Int) => (Exit.normal, ⟨mkE 41 0 [(5, dI t)], []⟩))) (id := 0) (spec_ScoreOf_n4_l x17882 x17883) (fun (t : Int) => t) (by
  rintro t K h
  · exact Eq.mp (by kernel_rfl) h))

def spec_ScoreOf_n6_l (x17882 : List (List Int)) (x17883 : List Int) := (link_seq (spec_ScoreOf_n2_l x17882 x17883) (fun (t : Unit) => (spec_ScoreOf_n5_l x17882 x17883)))

theorem spec_ScoreOf_n7_l (x18054 : Int) : Link spec_ScoreOf_ctx LL (cq [1,1,1,1] (bodyOf Try.f32)) (aq [1,1,1,1] spec_ScoreOf_an) ⟨mkE 41 0 [(5, dI x18054)], []⟩ (spec_ScoreOf_n7 x18054) (fun (t : Int) => (Exit.ret, ⟨mkE 41 0 [(4, dI t)], []⟩)) := by
  refine Link.of fun K h => ?_
  simp only [spec_ScoreOf_n7, wpO_bind, wpO_cond, wpO_map, wpO_some] at h
  exact Awp.of (by kernel_rfl) h

def spec_ScoreOf_n8_l (x17882 : List (List Int)) (x17883 : List Int) := (link_seq (spec_ScoreOf_n6_l x17882 x17883) (fun (t : Int) => (spec_ScoreOf_n7_l t)))

def spec_ScoreOf_n9_l (x17882 : List (List Int)) (x17883 : List Int) := (link_group (c := (cq [0,1,1] (bodyOf Try.f32))) (a := (aq [0,1,1] spec_ScoreOf_an)) [(cq [0] (bodyOf Try.f32)), (cq [0,1] (bodyOf Try.f32))] [(aq [0] spec_ScoreOf_an), (aq [0,1] spec_ScoreOf_an)] rfl (link_seq2 (spec_ScoreOf_n1_l x17882 x17883) (fun (t : Unit) => (spec_ScoreOf_n8_l x17882 x17883)) (fun (t : Int) => t) (by
  rintro t
  · kernel_rfl) (by
  rintro t f K h
  · exact h)))

theorem spec_ScoreOf_e (x17882 : List (List Int)) (x17883 : List Int) {r : AV} {H' : Heap} (h : (Ans.mk _ (spec_ScoreOf x17882 x17883) (fun (t : Int) => (dI t, [])) [] none).run = some (r, H')) : Awp spec_ScoreOf_ctx LL (bodyOf Try.f32) spec_ScoreOf_an ⟨mkE 41 0 [(0, .dat (.list (.list (.int .i64))) x17882), (1, dL x17883)], []⟩ (Ret (tlook tys) Try.f32.results.toList r H') :=
  ret_of' (Link.cast (by kernel_rfl) (by kernel_rfl) (spec_ScoreOf_n9_l x17882 x17883)) (by unfold spec_ScoreOf; kernel_rfl) (by
  intro t
  exact ret_mk [dI t] (by kernel_rfl) (by kernel_rfl) (by kernel_rfl) (by kernel_rfl)) h

def F_spec_ScoreOf : Fun := fun avs H =>
  match avs, H with
  | [.dat (.list (.list (.int .i64))) x17882, .dat (.list (.int .i64)) x17883], [] => ⟨_, spec_ScoreOf x17882 x17883, fun (t : Int) => (dI t, []), [], none⟩
  | _, _ => Ans.no

theorem spec_ScoreOf_sound : Sound Try.prog 32 F_spec_ScoreOf := by
  refine fn_sound' (C := spec_ScoreOf_ctx) (c := bodyOf Try.f32) (cok_of tys_ok (allc spec_ScoresOk_sound (allc spec_TreeOk_sound alln)) (allc Try.call14 (allc Try.call55 alln)) (by kernel_rfl)) Try.func32 (by kernel_rfl) LL spec_ScoreOf_an ?_
  intro avs H r H' h
  unfold F_spec_ScoreOf at h
  split at h
  · refine Awp.cast ?_ ?_ ?_ (spec_ScoreOf_e _ _ h) <;> kernel_rfl
  · simp [Ans.no, Ans.run] at h


/-! loop.example/headtrees/impl.ScoreOf -/

def impl_ScoreOf_an : Ann := (.seq (.leaf [0, 1]) (.seq (.seq (.leaf [0, 1, 22]) (.cond (.seq (.leaf [4]) (.leaf [4])) (.leaf [0, 1]))) (.seq (.leaf [0, 1, 5]) (.seq (.seq (.leaf [0, 5, 23, 24, 25]) (.block (.loop (.seq (.leaf [0, 5, 23, 24, 25, 26]) (.seq (.cond (.leaf [0, 5, 23, 24, 25]) (.leaf [5])) (.seq (.block (.seq (.leaf [0, 5, 6, 7, 23, 24, 25]) (.leaf [0, 5, 23, 24, 25]))) (.leaf [0, 5, 23, 24, 25]))))))) (.seq (.leaf [4]) (.leaf [4]))))))

noncomputable def impl_ScoreOf_ctx : Ctx := ⟨tlook tys, olook [(13, F_impl_ScoresOk), (41, F_impl_TreeOk)], ioF, 0, false, []⟩

theorem impl_ScoreOf_n1_l (x19694 : List (List Int)) (x19695 : List Int) : Link impl_ScoreOf_ctx LL (Code.seq (cq [0] (bodyOf Try.f24)) (Code.seq (cq [0,1] (bodyOf Try.f24)) (cq [0,1,1] (bodyOf Try.f24)))) (Ann.seq (aq [0] impl_ScoreOf_an) (Ann.seq (aq [0,1] impl_ScoreOf_an) (aq [0,1,1] impl_ScoreOf_an))) ⟨mkE 41 0 [(0, .dat (.list (.list (.int .i64))) x19694), (1, dL x19695)], []⟩ (impl_ScoreOf_n1 x19694 x19695) (Sum.elim (fun (t : Unit) => (Exit.normal, ⟨mkE 41 0 [(0, .dat (.list (.list (.int .i64))) x19694), (1, dL x19695), (5, dI 0)], []⟩)) (fun (t : Int) => (Exit.ret, ⟨mkE 41 0 [(4, dI t)], []⟩))) := by
  refine Link.of fun K h => ?_
  simp only [impl_ScoreOf_n1, wpO_bind, wpO_cond, wpO_map, wpO_some] at h
  exact Awp.of (by kernel_rfl) h

theorem impl_ScoreOf_n2_l (x19694 : List (List Int)) (x19695 : List Int) : Link impl_ScoreOf_ctx LL (cq [0,0,1,1,1] (bodyOf Try.f24)) (aq [0,0,1,1,1] impl_ScoreOf_an) ⟨mkE 41 0 [(0, .dat (.list (.list (.int .i64))) x19694), (1, dL x19695), (5, dI 0)], []⟩ (impl_ScoreOf_n2 x19695) (fun (t : Int) => (Exit.normal, ⟨mkE 41 0 [(0, .dat (.list (.list (.int .i64))) x19694), (5, dI 0), (23, dL x19695), (24, dI t), (25, dI 0)], []⟩)) := by
  refine Link.of fun K h => ?_
  simp only [impl_ScoreOf_n2, wpO_bind, wpO_cond, wpO_map, wpO_some] at h
  exact Awp.of (by kernel_rfl) h

theorem impl_ScoreOf_n3_l (x19694 : List (List Int)) (x19724 : Int) (x19695 : List Int) (x19710 : Int) (x19725 : Int) : Link impl_ScoreOf_ctx LL (cq [0,0,1,0,1,1,1] (bodyOf Try.f24)) (aq [0,0,1,0,1,1,1] impl_ScoreOf_an) ⟨mkE 41 0 [(0, .dat (.list (.list (.int .i64))) x19694), (5, dI x19724), (23, dL x19695), (24, dI x19710), (25, dI x19725)], []⟩ (impl_ScoreOf_n3 x19694 x19724 x19695 x19710 x19725) (Sum.elim (fun (t : Int × Int) => (Exit.normal, ⟨mkE 41 0 [(0, .dat (.list (.list (.int .i64))) x19694), (5, dI t.1), (23, dL x19695), (24, dI x19710), (25, dI t.2)], []⟩)) (fun (t : Int) => ((Exit.exit 0), ⟨mkE 41 0 [(5, dI t)], []⟩))) := by
  refine Link.of fun K h => ?_
  simp only [impl_ScoreOf_n3, wpO_bind, wpO_cond, wpO_map, wpO_some] at h
  exact Awp.of (by kernel_rfl) h

def impl_ScoreOf_n4_l (x19694 : List (List Int)) (x19695 : List Int) (x19710 : Int) := (link_loop (mk := fun (s : Int × Int) => ⟨mkE 41 0 [(0, .dat (.list (.list (.int .i64))) x19694), (5, dI s.1), (23, dL x19695), (24, dI x19710), (25, dI s.2)], []⟩) (fin := (fun (t : Int) => ((Exit.exit 0), ⟨mkE 41 0 [(5, dI t)], []⟩))) (by
  rintro t f K h
  · exact h) (fun s => link_map (impl_ScoreOf_n3_l x19694 s.1 x19695 x19710 s.2) (Sum.elim (fun (t : Int × Int) => Sum.inl (t.1, t.2)) (fun (t : Int) => Sum.inr t)) (by
  rintro (t | t)
  · kernel_rfl
  · kernel_rfl)) (0, 0))

def impl_ScoreOf_n5_l (x19694 : List (List Int)) (x19695 : List Int) (x19710 : Int) := (link_block (fin2 := (fun (t : Int) => (Exit.normal, ⟨mkE 41 0 [(5, dI t)], []⟩))) (id := 0) (impl_ScoreOf_n4_l x19694 x19695 x19710) (fun (t : Int) => t) (by
  rintro t K h
  · exact Eq.mp (by kernel_rfl) h))

def impl_ScoreOf_n6_l (x19694 : List (List Int)) (x19695 : List Int) := (link_seq (impl_ScoreOf_n2_l x19694 x19695) (fun (t : Int) => (impl_ScoreOf_n5_l x19694 x19695 t)))

theorem impl_ScoreOf_n7_l (x19724 : Int) : Link impl_ScoreOf_ctx LL (cq [1,1,1,1] (bodyOf Try.f24)) (aq [1,1,1,1] impl_ScoreOf_an) ⟨mkE 41 0 [(5, dI x19724)], []⟩ (impl_ScoreOf_n7 x19724) (fun (t : Int) => (Exit.ret, ⟨mkE 41 0 [(4, dI t)], []⟩)) := by
  refine Link.of fun K h => ?_
  simp only [impl_ScoreOf_n7, wpO_bind, wpO_cond, wpO_map, wpO_some] at h
  exact Awp.of (by kernel_rfl) h

def impl_ScoreOf_n8_l (x19694 : List (List Int)) (x19695 : List Int) := (link_seq (impl_ScoreOf_n6_l x19694 x19695) (fun (t : Int) => (impl_ScoreOf_n7_l t)))

def impl_ScoreOf_n9_l (x19694 : List (List Int)) (x19695 : List Int) := (link_group (c := (cq [0,1,1] (bodyOf Try.f24))) (a := (aq [0,1,1] impl_ScoreOf_an)) [(cq [0] (bodyOf Try.f24)), (cq [0,1] (bodyOf Try.f24))] [(aq [0] impl_ScoreOf_an), (aq [0,1] impl_ScoreOf_an)] rfl (link_seq2 (impl_ScoreOf_n1_l x19694 x19695) (fun (t : Unit) => (impl_ScoreOf_n8_l x19694 x19695)) (fun (t : Int) => t) (by
  rintro t
  · kernel_rfl) (by
  rintro t f K h
  · exact h)))

theorem impl_ScoreOf_e (x19694 : List (List Int)) (x19695 : List Int) {r : AV} {H' : Heap} (h : (Ans.mk _ (impl_ScoreOf x19694 x19695) (fun (t : Int) => (dI t, [])) [] none).run = some (r, H')) : Awp impl_ScoreOf_ctx LL (bodyOf Try.f24) impl_ScoreOf_an ⟨mkE 41 0 [(0, .dat (.list (.list (.int .i64))) x19694), (1, dL x19695)], []⟩ (Ret (tlook tys) Try.f24.results.toList r H') :=
  ret_of' (Link.cast (by kernel_rfl) (by kernel_rfl) (impl_ScoreOf_n9_l x19694 x19695)) (by unfold impl_ScoreOf; kernel_rfl) (by
  intro t
  exact ret_mk [dI t] (by kernel_rfl) (by kernel_rfl) (by kernel_rfl) (by kernel_rfl)) h

def F_impl_ScoreOf : Fun := fun avs H =>
  match avs, H with
  | [.dat (.list (.list (.int .i64))) x19694, .dat (.list (.int .i64)) x19695], [] => ⟨_, impl_ScoreOf x19694 x19695, fun (t : Int) => (dI t, []), [], none⟩
  | _, _ => Ans.no

theorem impl_ScoreOf_sound : Sound Try.prog 24 F_impl_ScoreOf := by
  refine fn_sound' (C := impl_ScoreOf_ctx) (c := bodyOf Try.f24) (cok_of tys_ok (allc impl_ScoresOk_sound (allc impl_TreeOk_sound alln)) (allc Try.call13 (allc Try.call41 alln)) (by kernel_rfl)) Try.func24 (by kernel_rfl) LL impl_ScoreOf_an ?_
  intro avs H r H' h
  unfold F_impl_ScoreOf at h
  split at h
  · refine Awp.cast ?_ ?_ ?_ (impl_ScoreOf_e _ _ h) <;> kernel_rfl
  · simp [Ans.no, Ans.run] at h


/-! loop.example/headtrees/laws.szIntS -/

def laws_szIntS_an : Ann := (.seq (.leaf [0, 1]) (.seq (.leaf [1]) (.seq (.seq (.leaf [1, 10]) (.cond (.seq (.leaf [4]) (.leaf [4])) (.leaf [1]))) (.seq (.leaf [4]) (.leaf [4])))))

noncomputable def laws_szIntS_ctx : Ctx := ⟨tlook tys, olook [], ioF, 0, false, []⟩

theorem laws_szIntS_n1_l (x20454 : List Int) (x20455 : Int) : Link laws_szIntS_ctx LL (bodyOf Try.f54) laws_szIntS_an ⟨mkE 12 0 [(0, dL x20454), (1, dI x20455)], []⟩ (laws_szIntS_n1 x20454 x20455) (fun (t : Int) => (Exit.ret, ⟨mkE 12 0 [(4, dI t)], []⟩)) := by
  refine Link.of fun K h => ?_
  simp only [laws_szIntS_n1, wpO_bind, wpO_cond, wpO_map, wpO_some] at h
  exact Awp.of (by kernel_rfl) h

theorem laws_szIntS_e (x20454 : List Int) (x20455 : Int) {r : AV} {H' : Heap} (h : (Ans.mk _ (laws_szIntS x20454 x20455) (fun (t : Int) => (dI t, [])) [] none).run = some (r, H')) : Awp laws_szIntS_ctx LL (bodyOf Try.f54) laws_szIntS_an ⟨mkE 12 0 [(0, dL x20454), (1, dI x20455)], []⟩ (Ret (tlook tys) Try.f54.results.toList r H') :=
  ret_of' (laws_szIntS_n1_l x20454 x20455) (by unfold laws_szIntS; kernel_rfl) (by
  intro t
  exact ret_mk [dI t] (by kernel_rfl) (by kernel_rfl) (by kernel_rfl) (by kernel_rfl)) h

def F_laws_szIntS : Fun := fun avs H =>
  match avs, H with
  | [.dat (.list (.int .i64)) x20454, .dat (.int .i64) x20455], [] => ⟨_, laws_szIntS x20454 x20455, fun (t : Int) => (dI t, []), [], none⟩
  | _, _ => Ans.no

theorem laws_szIntS_sound : Sound Try.prog 54 F_laws_szIntS := by
  refine fn_sound' (C := laws_szIntS_ctx) (c := bodyOf Try.f54) (cok_of tys_ok (alln) (alln) (by kernel_rfl)) Try.func54 (by kernel_rfl) LL laws_szIntS_an ?_
  intro avs H r H' h
  unfold F_laws_szIntS at h
  split at h
  · refine Awp.cast ?_ ?_ ?_ (laws_szIntS_e _ _ h) <;> kernel_rfl
  · simp [Ans.no, Ans.run] at h


/-! loop.example/headtrees/laws.szIntSS -/

def laws_szIntSS_an : Ann := (.seq (.leaf [0, 1]) (.seq (.leaf [0, 1]) (.seq (.seq (.leaf [0, 1, 11]) (.cond (.seq (.leaf [4]) (.leaf [4])) (.leaf [0, 1]))) (.seq (.seq (.leaf [0, 1, 5]) (.block (.loop (.seq (.seq (.leaf [0, 1, 5, 15]) (.cond (.leaf [0, 1, 5]) (.leaf [1]))) (.seq (.block (.seq (.leaf [0, 1, 5]) (.seq (.leaf [0, 1, 5, 25]) (.cond (.seq (.leaf [4]) (.leaf [4])) (.leaf [0, 1, 5]))))) (.leaf [0, 1, 5])))))) (.seq (.leaf [4]) (.leaf [4]))))))

noncomputable def laws_szIntSS_ctx : Ctx := ⟨tlook tys, olook [(54, F_laws_szIntS)], ioF, 0, false, []⟩

theorem laws_szIntSS_n1_l (x20442 : List (List Int)) (x20443 : Int) : Link laws_szIntSS_ctx LL (Code.seq (cq [0] (bodyOf Try.f29)) (Code.seq (cq [0,1] (bodyOf Try.f29)) (cq [0,1,1] (bodyOf Try.f29)))) (Ann.seq (aq [0] laws_szIntSS_an) (Ann.seq (aq [0,1] laws_szIntSS_an) (aq [0,1,1] laws_szIntSS_an))) ⟨mkE 27 0 [(0, .dat (.list (.list (.int .i64))) x20442), (1, dI x20443)], []⟩ (laws_szIntSS_n1 x20442 x20443) (Sum.elim (fun (t : Int) => (Exit.normal, ⟨mkE 27 0 [(0, .dat (.list (.list (.int .i64))) x20442), (1, dI t)], []⟩)) (fun (t : Int) => (Exit.ret, ⟨mkE 27 0 [(4, dI t)], []⟩))) := by
  refine Link.of fun K h => ?_
  simp only [laws_szIntSS_n1, wpO_bind, wpO_cond, wpO_map, wpO_some] at h
  exact Awp.of (by kernel_rfl) h

theorem laws_szIntSS_n2_l (x20442 : List (List Int)) (x20447 : Int) : Link laws_szIntSS_ctx LL (cq [0,0,1,1,1] (bodyOf Try.f29)) (aq [0,0,1,1,1] laws_szIntSS_an) ⟨mkE 27 0 [(0, .dat (.list (.list (.int .i64))) x20442), (1, dI x20447)], []⟩ (laws_szIntSS_n2) (fun (t : Unit) => (Exit.normal, ⟨mkE 27 0 [(0, .dat (.list (.list (.int .i64))) x20442), (1, dI x20447), (5, dI 0)], []⟩)) := by
  refine Link.of fun K h => ?_
  simp only [laws_szIntSS_n2, wpO_bind, wpO_cond, wpO_map, wpO_some] at h
  exact Awp.of (by kernel_rfl) h

theorem laws_szIntSS_n3_l (x20442 : List (List Int)) (x20476 : Int) (x20477 : Int) : Link laws_szIntSS_ctx LL (cq [0,0,1,0,1,1,1] (bodyOf Try.f29)) (aq [0,0,1,0,1,1,1] laws_szIntSS_an) ⟨mkE 27 0 [(0, .dat (.list (.list (.int .i64))) x20442), (1, dI x20476), (5, dI x20477)], []⟩ (laws_szIntSS_n3 x20442 x20476 x20477) (Sum.elim (fun (t : Int × Int) => (Exit.normal, ⟨mkE 27 0 [(0, .dat (.list (.list (.int .i64))) x20442), (1, dI t.1), (5, dI t.2)], []⟩)) (Sum.elim (fun (t : Int) => (Exit.ret, ⟨mkE 27 0 [(4, dI t)], []⟩)) (fun (t : Int) => ((Exit.exit 0), ⟨mkE 27 0 [(1, dI t)], []⟩)))) := by
  refine Link.of fun K h => ?_
  simp only [laws_szIntSS_n3, wpO_bind, wpO_cond, wpO_map, wpO_some] at h
  exact Awp.of (by kernel_rfl) h

def laws_szIntSS_n4_l (x20442 : List (List Int)) (x20447 : Int) := (link_loop (mk := fun (s : Int × Int) => ⟨mkE 27 0 [(0, .dat (.list (.list (.int .i64))) x20442), (1, dI s.1), (5, dI s.2)], []⟩) (fin := (Sum.elim (fun (t : Int) => (Exit.ret, ⟨mkE 27 0 [(4, dI t)], []⟩)) (fun (t : Int) => ((Exit.exit 0), ⟨mkE 27 0 [(1, dI t)], []⟩)))) (by
  rintro (t | t) f K h
  · exact h
  · exact h) (fun s => link_map (laws_szIntSS_n3_l x20442 s.1 s.2) (Sum.elim (fun (t : Int × Int) => Sum.inl (t.1, t.2)) (Sum.elim (fun (t : Int) => Sum.inr (Sum.inl t)) (fun (t : Int) => Sum.inr (Sum.inr t)))) (by
  rintro (t | t | t)
  · kernel_rfl
  · kernel_rfl
  · kernel_rfl)) (x20447, 0))

def laws_szIntSS_n5_l (x20442 : List (List Int)) (x20447 : Int) := (link_block (fin2 := (Sum.elim (fun (t : Int) => (Exit.normal, ⟨mkE 27 0 [(1, dI t)], []⟩)) (fun (t : Int) => (Exit.ret, ⟨mkE 27 0 [(4, dI t)], []⟩)))) (id := 0) (laws_szIntSS_n4_l x20442 x20447) (Sum.elim (fun (t : Int) => (Sum.inr t)) (fun (t : Int) => (Sum.inl t))) (by
  rintro (t | t) K h
  · exact Eq.mp (by kernel_rfl) h
  · exact Eq.mp (by kernel_rfl) h))

def laws_szIntSS_n6_l (x20442 : List (List Int)) (x20447 : Int) := (link_seq (laws_szIntSS_n2_l x20442 x20447) (fun (t : Unit) => (laws_szIntSS_n5_l x20442 x20447)))

theorem laws_szIntSS_n7_l (x20476 : Int) : Link laws_szIntSS_ctx LL (cq [1,1,1,1] (bodyOf Try.f29)) (aq [1,1,1,1] laws_szIntSS_an) ⟨mkE 27 0 [(1, dI x20476)], []⟩ (laws_szIntSS_n7 x20476) (fun (t : Int) => (Exit.ret, ⟨mkE 27 0 [(4, dI t)], []⟩)) := by
  refine Link.of fun K h => ?_
  simp only [laws_szIntSS_n7, wpO_bind, wpO_cond, wpO_map, wpO_some] at h
  exact Awp.of (by kernel_rfl) h

def laws_szIntSS_n8_l (x20442 : List (List Int)) (x20447 : Int) := (link_seq2 (laws_szIntSS_n6_l x20442 x20447) (fun (t : Int) => (laws_szIntSS_n7_l t)) (fun (t : Int) => t) (by
  rintro t
  · kernel_rfl) (by
  rintro t f K h
  · exact h))

def laws_szIntSS_n9_l (x20442 : List (List Int)) (x20443 : Int) := (link_group (c := (cq [0,1,1] (bodyOf Try.f29))) (a := (aq [0,1,1] laws_szIntSS_an)) [(cq [0] (bodyOf Try.f29)), (cq [0,1] (bodyOf Try.f29))] [(aq [0] laws_szIntSS_an), (aq [0,1] laws_szIntSS_an)] rfl (link_seq2 (laws_szIntSS_n1_l x20442 x20443) (fun (t : Int) => (laws_szIntSS_n8_l x20442 t)) (fun (t : Int) => t) (by
  rintro t
  · kernel_rfl) (by
  rintro t f K h
  · exact h)))

theorem laws_szIntSS_e (x20442 : List (List Int)) (x20443 : Int) {r : AV} {H' : Heap} (h : (Ans.mk _ (laws_szIntSS x20442 x20443) (fun (t : Int) => (dI t, [])) [] none).run = some (r, H')) : Awp laws_szIntSS_ctx LL (bodyOf Try.f29) laws_szIntSS_an ⟨mkE 27 0 [(0, .dat (.list (.list (.int .i64))) x20442), (1, dI x20443)], []⟩ (Ret (tlook tys) Try.f29.results.toList r H') :=
  ret_of' (Link.cast (by kernel_rfl) (by kernel_rfl) (laws_szIntSS_n9_l x20442 x20443)) (by unfold laws_szIntSS; kernel_rfl) (by
  intro t
  exact ret_mk [dI t] (by kernel_rfl) (by kernel_rfl) (by kernel_rfl) (by kernel_rfl)) h

def F_laws_szIntSS : Fun := fun avs H =>
  match avs, H with
  | [.dat (.list (.list (.int .i64))) x20442, .dat (.int .i64) x20443], [] => ⟨_, laws_szIntSS x20442 x20443, fun (t : Int) => (dI t, []), [], none⟩
  | _, _ => Ans.no

theorem laws_szIntSS_sound : Sound Try.prog 29 F_laws_szIntSS := by
  refine fn_sound' (C := laws_szIntSS_ctx) (c := bodyOf Try.f29) (cok_of tys_ok (allc laws_szIntS_sound alln) (allc Try.call54 alln) (by kernel_rfl)) Try.func29 (by kernel_rfl) LL laws_szIntSS_an ?_
  intro avs H r H' h
  unfold F_laws_szIntSS at h
  split at h
  · refine Awp.cast ?_ ?_ ?_ (laws_szIntSS_e _ _ h) <;> kernel_rfl
  · simp [Ans.no, Ans.run] at h


/-! loop.example/headtrees/laws.toIntS -/

def laws_toIntS_an : Ann := (.seq (.leaf [0]) (.seq (.leaf [0, 3]) (.seq (.seq (.leaf [0, 3, 4]) (.block (.loop (.seq (.seq (.leaf [0, 3, 4, 11]) (.cond (.leaf [0, 3, 4]) (.leaf [3]))) (.seq (.block (.leaf [0, 3, 4])) (.leaf [0, 3, 4])))))) (.seq (.leaf [2]) (.leaf [2])))))

noncomputable def laws_toIntS_ctx : Ctx := ⟨tlook tys, olook [], ioF, 0, false, []⟩

theorem laws_toIntS_n1_l (x20506 : List Int) : Link laws_toIntS_ctx LL (Code.seq (cq [0] (bodyOf Try.f33)) (cq [0,1] (bodyOf Try.f33))) (Ann.seq (aq [0] laws_toIntS_an) (aq [0,1] laws_toIntS_an)) ⟨mkE 22 0 [(0, dL x20506)], []⟩ (laws_toIntS_n1 x20506) (fun (t : (List Int)) => (Exit.normal, ⟨mkE 22 0 [(0, dL x20506), (3, .slc 0)], [some (sI t)]⟩)) := by
  refine Link.of fun K h => ?_
  simp only [laws_toIntS_n1, wpO_bind, wpO_cond, wpO_map, wpO_some] at h
  exact Awp.of (by kernel_rfl) h

theorem laws_toIntS_n2_l (x20506 : List Int) (x20509 : List Int) : Link laws_toIntS_ctx LL (cq [0,0,1,1] (bodyOf Try.f33)) (aq [0,0,1,1] laws_toIntS_an) ⟨mkE 22 0 [(0, dL x20506), (3, .slc 0)], [some (sI x20509)]⟩ (laws_toIntS_n2) (fun (t : Unit) => (Exit.normal, ⟨mkE 22 0 [(0, dL x20506), (3, .slc 0), (4, dI 0)], [some (sI x20509)]⟩)) := by
  refine Link.of fun K h => ?_
  simp only [laws_toIntS_n2, wpO_bind, wpO_cond, wpO_map, wpO_some] at h
  exact Awp.of (by kernel_rfl) h

theorem laws_toIntS_n3_l (x20506 : List Int) (x20523 : Int) (x20524 : List Int) : Link laws_toIntS_ctx LL (cq [0,0,1,0,1,1] (bodyOf Try.f33)) (aq [0,0,1,0,1,1] laws_toIntS_an) ⟨mkE 22 0 [(0, dL x20506), (3, .slc 0), (4, dI x20523)], [some (sI x20524)]⟩ (laws_toIntS_n3 x20506 x20523 x20524) (Sum.elim (fun (t : Int × (List Int)) => (Exit.normal, ⟨mkE 22 0 [(0, dL x20506), (3, .slc 0), (4, dI t.1)], [some (sI t.2)]⟩)) (fun (t : (List Int)) => ((Exit.exit 0), ⟨mkE 22 0 [(3, .slc 0)], [some (sI t)]⟩))) := by
  refine Link.of fun K h => ?_
  simp only [laws_toIntS_n3, wpO_bind, wpO_cond, wpO_map, wpO_some] at h
  exact Awp.of (by kernel_rfl) h

def laws_toIntS_n4_l (x20506 : List Int) (x20509 : List Int) := (link_loop (mk := fun (s : Int × (List Int)) => ⟨mkE 22 0 [(0, dL x20506), (3, .slc 0), (4, dI s.1)], [some (sI s.2)]⟩) (fin := (fun (t : (List Int)) => ((Exit.exit 0), ⟨mkE 22 0 [(3, .slc 0)], [some (sI t)]⟩))) (by
  rintro t f K h
  · exact h) (fun s => link_map (laws_toIntS_n3_l x20506 s.1 s.2) (Sum.elim (fun (t : Int × (List Int)) => Sum.inl (t.1, t.2)) (fun (t : (List Int)) => Sum.inr t)) (by
  rintro (t | t)
  · kernel_rfl
  · kernel_rfl)) (0, x20509))

def laws_toIntS_n5_l (x20506 : List Int) (x20509 : List Int) := (link_block (fin2 := (fun (t : (List Int)) => (Exit.normal, ⟨mkE 22 0 [(3, .slc 0)], [some (sI t)]⟩))) (id := 0) (laws_toIntS_n4_l x20506 x20509) (fun (t : (List Int)) => t) (by
  rintro t K h
  · exact Eq.mp (by kernel_rfl) h))

def laws_toIntS_n6_l (x20506 : List Int) (x20509 : List Int) := (link_seq (laws_toIntS_n2_l x20506 x20509) (fun (t : Unit) => (laws_toIntS_n5_l x20506 x20509)))

theorem laws_toIntS_n7_l (x20524 : List Int) : Link laws_toIntS_ctx LL (cq [1,1,1] (bodyOf Try.f33)) (aq [1,1,1] laws_toIntS_an) ⟨mkE 22 0 [(3, .slc 0)], [some (sI x20524)]⟩ (laws_toIntS_n7 x20524) (fun (t : (List Int)) => (Exit.ret, ⟨mkE 22 0 [(2, .slc 0)], [some (sI t)]⟩)) := by
  refine Link.of fun K h => ?_
  simp only [laws_toIntS_n7, wpO_bind, wpO_cond, wpO_map, wpO_some] at h
  exact Awp.of (by kernel_rfl) h

def laws_toIntS_n8_l (x20506 : List Int) (x20509 : List Int) := (link_seq (laws_toIntS_n6_l x20506 x20509) (fun (t : (List Int)) => (laws_toIntS_n7_l t)))

def laws_toIntS_n9_l (x20506 : List Int) := (link_group (c := (cq [0,1] (bodyOf Try.f33))) (a := (aq [0,1] laws_toIntS_an)) [(cq [0] (bodyOf Try.f33))] [(aq [0] laws_toIntS_an)] rfl (link_seq (laws_toIntS_n1_l x20506) (fun (t : (List Int)) => (laws_toIntS_n8_l x20506 t))))

theorem laws_toIntS_e (x20506 : List Int) {r : AV} {H' : Heap} (h : (Ans.mk _ (laws_toIntS x20506) (fun (t : (List Int)) => (.slc 0, [some (sI t)])) [] none).run = some (r, H')) : Awp laws_toIntS_ctx LL (bodyOf Try.f33) laws_toIntS_an ⟨mkE 22 0 [(0, dL x20506)], []⟩ (Ret (tlook tys) Try.f33.results.toList r H') :=
  ret_of' (Link.cast (by kernel_rfl) (by kernel_rfl) (laws_toIntS_n9_l x20506)) (by unfold laws_toIntS; kernel_rfl) (by
  intro t
  exact ret_mk [.slc 0] (by kernel_rfl) (by kernel_rfl) (by kernel_rfl) (by kernel_rfl)) h

def F_laws_toIntS : Fun := fun avs H =>
  match avs, H with
  | [.dat (.list (.int .i64)) x20506], [] => ⟨_, laws_toIntS x20506, fun (t : (List Int)) => (.slc 0, [some (sI t)]), [], none⟩
  | _, _ => Ans.no

theorem laws_toIntS_sound : Sound Try.prog 33 F_laws_toIntS := by
  refine fn_sound' (C := laws_toIntS_ctx) (c := bodyOf Try.f33) (cok_of tys_ok (alln) (alln) (by kernel_rfl)) Try.func33 (by kernel_rfl) LL laws_toIntS_an ?_
  intro avs H r H' h
  unfold F_laws_toIntS at h
  split at h
  · refine Awp.cast ?_ ?_ ?_ (laws_toIntS_e _ h) <;> kernel_rfl
  · simp [Ans.no, Ans.run] at h


/-! loop.example/headtrees/laws.toIntSS -/

def laws_toIntSS_an : Ann := (.seq (.leaf [0]) (.seq (.leaf [0, 3]) (.seq (.seq (.leaf [0, 3, 4]) (.block (.loop (.seq (.seq (.leaf [0, 3, 4, 11]) (.cond (.leaf [0, 3, 4]) (.leaf [3]))) (.seq (.block (.leaf [0, 3, 4])) (.leaf [0, 3, 4])))))) (.seq (.leaf [2]) (.leaf [2])))))

noncomputable def laws_toIntSS_ctx : Ctx := ⟨tlook tys, olook [(33, F_laws_toIntS)], ioF, 0, true, []⟩

theorem laws_toIntSS_n1_l (x20497 : List (List Int)) : Link laws_toIntSS_ctx LL (Code.seq (cq [0] (bodyOf Try.f30)) (cq [0,1] (bodyOf Try.f30))) (Ann.seq (aq [0] laws_toIntSS_an) (aq [0,1] laws_toIntSS_an)) ⟨mkE 23 0 [(0, .dat (.list (.list (.int .i64))) x20497)], []⟩ (laws_toIntSS_n1 x20497) (fun (t : (List (List Int))) => (Exit.normal, ⟨mkE 23 0 [(0, .dat (.list (.list (.int .i64))) x20497), (3, .slc 0)], [some (.nest (.int .i64) t 0 [])]⟩)) := by
  refine Link.of fun K h => ?_
  simp only [laws_toIntSS_n1, wpO_bind, wpO_cond, wpO_map, wpO_some] at h
  exact Awp.of (by kernel_rfl) h

theorem laws_toIntSS_n2_l (x20497 : List (List Int)) (x20500 : List (List Int)) : Link laws_toIntSS_ctx LL (cq [0,0,1,1] (bodyOf Try.f30)) (aq [0,0,1,1] laws_toIntSS_an) ⟨mkE 23 0 [(0, .dat (.list (.list (.int .i64))) x20497), (3, .slc 0)], [some (.nest (.int .i64) x20500 0 [])]⟩ (laws_toIntSS_n2) (fun (t : Unit) => (Exit.normal, ⟨mkE 23 0 [(0, .dat (.list (.list (.int .i64))) x20497), (3, .slc 0), (4, dI 0)], [some (.nest (.int .i64) x20500 0 [])]⟩)) := by
  refine Link.of fun K h => ?_
  simp only [laws_toIntSS_n2, wpO_bind, wpO_cond, wpO_map, wpO_some] at h
  exact Awp.of (by kernel_rfl) h

theorem laws_toIntSS_n3_l (x20497 : List (List Int)) (x20550 : Int) (x20551 : List (List Int)) : Link laws_toIntSS_ctx LL (cq [0,0,1,0,1,1] (bodyOf Try.f30)) (aq [0,0,1,0,1,1] laws_toIntSS_an) ⟨mkE 23 0 [(0, .dat (.list (.list (.int .i64))) x20497), (3, .slc 0), (4, dI x20550)], [some (.nest (.int .i64) x20551 0 [])]⟩ (laws_toIntSS_n3 x20497 x20550 x20551) (Sum.elim (fun (t : Int × (List (List Int))) => (Exit.normal, ⟨mkE 23 0 [(0, .dat (.list (.list (.int .i64))) x20497), (3, .slc 0), (4, dI t.1)], [some (.nest (.int .i64) t.2 0 [])]⟩)) (fun (t : (List (List Int))) => ((Exit.exit 0), ⟨mkE 23 0 [(3, .slc 0)], [some (.nest (.int .i64) t 0 [])]⟩))) := by
  refine Link.of fun K h => ?_
  simp only [laws_toIntSS_n3, wpO_bind, wpO_cond, wpO_map, wpO_some] at h
  exact Awp.of (by kernel_rfl) h

def laws_toIntSS_n4_l (x20497 : List (List Int)) (x20500 : List (List Int)) := (link_loop (mk := fun (s : Int × (List (List Int))) => ⟨mkE 23 0 [(0, .dat (.list (.list (.int .i64))) x20497), (3, .slc 0), (4, dI s.1)], [some (.nest (.int .i64) s.2 0 [])]⟩) (fin := (fun (t : (List (List Int))) => ((Exit.exit 0), ⟨mkE 23 0 [(3, .slc 0)], [some (.nest (.int .i64) t 0 [])]⟩))) (by
  rintro t f K h
  · exact h) (fun s => link_map (laws_toIntSS_n3_l x20497 s.1 s.2) (Sum.elim (fun (t : Int × (List (List Int))) => Sum.inl (t.1, t.2)) (fun (t : (List (List Int))) => Sum.inr t)) (by
  rintro (t | t)
  · kernel_rfl
  · kernel_rfl)) (0, x20500))

def laws_toIntSS_n5_l (x20497 : List (List Int)) (x20500 : List (List Int)) := (link_block (fin2 := (fun (t : (List (List Int))) => (Exit.normal, ⟨mkE 23 0 [(3, .slc 0)], [some (.nest (.int .i64) t 0 [])]⟩))) (id := 0) (laws_toIntSS_n4_l x20497 x20500) (fun (t : (List (List Int))) => t) (by
  rintro t K h
  · exact Eq.mp (by kernel_rfl) h))

def laws_toIntSS_n6_l (x20497 : List (List Int)) (x20500 : List (List Int)) := (link_seq (laws_toIntSS_n2_l x20497 x20500) (fun (t : Unit) => (laws_toIntSS_n5_l x20497 x20500)))

theorem laws_toIntSS_n7_l (x20551 : List (List Int)) : Link laws_toIntSS_ctx LL (cq [1,1,1] (bodyOf Try.f30)) (aq [1,1,1] laws_toIntSS_an) ⟨mkE 23 0 [(3, .slc 0)], [some (.nest (.int .i64) x20551 0 [])]⟩ (laws_toIntSS_n7 x20551) (fun (t : (List (List Int))) => (Exit.ret, ⟨mkE 23 0 [(2, .slc 0)], [some (.nest (.int .i64) t 0 [])]⟩)) := by
  refine Link.of fun K h => ?_
  simp only [laws_toIntSS_n7, wpO_bind, wpO_cond, wpO_map, wpO_some] at h
  exact Awp.of (by kernel_rfl) h

def laws_toIntSS_n8_l (x20497 : List (List Int)) (x20500 : List (List Int)) := (link_seq (laws_toIntSS_n6_l x20497 x20500) (fun (t : (List (List Int))) => (laws_toIntSS_n7_l t)))

def laws_toIntSS_n9_l (x20497 : List (List Int)) := (link_group (c := (cq [0,1] (bodyOf Try.f30))) (a := (aq [0,1] laws_toIntSS_an)) [(cq [0] (bodyOf Try.f30))] [(aq [0] laws_toIntSS_an)] rfl (link_seq (laws_toIntSS_n1_l x20497) (fun (t : (List (List Int))) => (laws_toIntSS_n8_l x20497 t))))

theorem laws_toIntSS_e (x20497 : List (List Int)) {r : AV} {H' : Heap} (h : (Ans.mk _ (laws_toIntSS x20497) (fun (t : (List (List Int))) => (.slc 0, [some (.nest (.int .i64) t 0 [])])) [] none).run = some (r, H')) : Awp laws_toIntSS_ctx LL (bodyOf Try.f30) laws_toIntSS_an ⟨mkE 23 0 [(0, .dat (.list (.list (.int .i64))) x20497)], []⟩ (Ret (tlook tys) Try.f30.results.toList r H') :=
  ret_of' (Link.cast (by kernel_rfl) (by kernel_rfl) (laws_toIntSS_n9_l x20497)) (by unfold laws_toIntSS; kernel_rfl) (by
  intro t
  exact ret_mk [.slc 0] (by kernel_rfl) (by kernel_rfl) (by kernel_rfl) (by kernel_rfl)) h

def F_laws_toIntSS : Fun := fun avs H =>
  match avs, H with
  | [.dat (.list (.list (.int .i64))) x20497], [] => ⟨_, laws_toIntSS x20497, fun (t : (List (List Int))) => (.slc 0, [some (.nest (.int .i64) t 0 [])]), [], none⟩
  | _, _ => Ans.no

theorem laws_toIntSS_sound : Sound Try.prog 30 F_laws_toIntSS := by
  refine fn_sound' (C := laws_toIntSS_ctx) (c := bodyOf Try.f30) (cok_of tys_ok (allc laws_toIntS_sound alln) (allc Try.call33 alln) (by kernel_rfl)) Try.func30 (by kernel_rfl) LL laws_toIntSS_an ?_
  intro avs H r H' h
  unfold F_laws_toIntSS at h
  split at h
  · refine Awp.cast ?_ ?_ ?_ (laws_toIntSS_e _ h) <;> kernel_rfl
  · simp [Ans.no, Ans.run] at h


/-! loop.example/headtrees/laws.eqIntS -/

def laws_eqIntS_an : Ann := (.seq (.leaf [0, 1]) (.seq (.seq (.leaf [0, 1, 10]) (.cond (.seq (.leaf [4]) (.leaf [4])) (.leaf [0, 1]))) (.seq (.seq (.leaf [0, 1, 5]) (.block (.loop (.seq (.seq (.leaf [0, 1, 5, 14]) (.cond (.leaf [0, 1, 5]) (.leaf []))) (.seq (.block (.seq (.draw [] [0, 1, 2, 3, 4, 5, 6, 7, 8] [] [0, 1, 5, 25]) (.cond (.seq (.leaf [4]) (.leaf [4])) (.leaf [0, 1, 5])))) (.leaf [0, 1, 5])))))) (.seq (.leaf [4]) (.leaf [4])))))

noncomputable def laws_eqIntS_ctx : Ctx := ⟨tlook tys, olook [], ioF, 0, false, []⟩

theorem laws_eqIntS_n1_l (x20608 : List Int) (x20609 : List Int) : Link laws_eqIntS_ctx LL (Code.seq (cq [0] (bodyOf Try.f34)) (cq [0,1] (bodyOf Try.f34))) (Ann.seq (aq [0] laws_eqIntS_an) (aq [0,1] laws_eqIntS_an)) ⟨mkE 26 0 [(0, dL x20608), (1, dL x20609)], []⟩ (laws_eqIntS_n1 x20608 x20609) (Sum.elim (fun (t : Unit) => (Exit.normal, ⟨mkE 26 0 [(0, dL x20608), (1, dL x20609)], []⟩)) (fun (t : Bool) => (Exit.ret, ⟨mkE 26 0 [(4, dB t)], []⟩))) := by
  refine Link.of fun K h => ?_
  simp only [laws_eqIntS_n1, wpO_bind, wpO_cond, wpO_map, wpO_some] at h
  exact Awp.of (by kernel_rfl) h

theorem laws_eqIntS_n2_l (x20608 : List Int) (x20609 : List Int) : Link laws_eqIntS_ctx LL (cq [0,0,1,1] (bodyOf Try.f34)) (aq [0,0,1,1] laws_eqIntS_an) ⟨mkE 26 0 [(0, dL x20608), (1, dL x20609)], []⟩ (laws_eqIntS_n2) (fun (t : Unit) => (Exit.normal, ⟨mkE 26 0 [(0, dL x20608), (1, dL x20609), (5, dI 0)], []⟩)) := by
  refine Link.of fun K h => ?_
  simp only [laws_eqIntS_n2, wpO_bind, wpO_cond, wpO_map, wpO_some] at h
  exact Awp.of (by kernel_rfl) h

theorem laws_eqIntS_n3_l (x20608 : List Int) (x20609 : List Int) (x20626 : Int) : Link laws_eqIntS_ctx LL (cq [0,0,1,0,1,1] (bodyOf Try.f34)) (aq [0,0,1,0,1,1] laws_eqIntS_an) ⟨mkE 26 0 [(0, dL x20608), (1, dL x20609), (5, dI x20626)], []⟩ (laws_eqIntS_n3 x20608 x20609 x20626) (Sum.elim (fun (t : Int) => (Exit.normal, ⟨mkE 26 0 [(0, dL x20608), (1, dL x20609), (5, dI t)], []⟩)) (Sum.elim (fun (t : Bool) => (Exit.ret, ⟨mkE 26 0 [(4, dB t)], []⟩)) (fun (t : Unit) => ((Exit.exit 0), ⟨mkE 26 0 [], []⟩)))) := by
  refine Link.of fun K h => ?_
  simp only [laws_eqIntS_n3, wpO_bind, wpO_cond, wpO_map, wpO_some] at h
  exact Awp.of (by kernel_rfl) h

def laws_eqIntS_n4_l (x20608 : List Int) (x20609 : List Int) := (link_loop (mk := fun (s : Int) => ⟨mkE 26 0 [(0, dL x20608), (1, dL x20609), (5, dI s)], []⟩) (fin := (Sum.elim (fun (t : Bool) => (Exit.ret, ⟨mkE 26 0 [(4, dB t)], []⟩)) (fun (t : Unit) => ((Exit.exit 0), ⟨mkE 26 0 [], []⟩)))) (by
  rintro (t | t) f K h
  · exact h
  · exact h) (fun s => link_map (laws_eqIntS_n3_l x20608 x20609 s) (Sum.elim (fun (t : Int) => Sum.inl t) (Sum.elim (fun (t : Bool) => Sum.inr (Sum.inl t)) (fun (t : Unit) => Sum.inr (Sum.inr t)))) (by
  rintro (t | t | t)
  · kernel_rfl
  · kernel_rfl
  · kernel_rfl)) 0)

def laws_eqIntS_n5_l (x20608 : List Int) (x20609 : List Int) := (link_block (fin2 := (Sum.elim (fun (t : Unit) => (Exit.normal, ⟨mkE 26 0 [], []⟩)) (fun (t : Bool) => (Exit.ret, ⟨mkE 26 0 [(4, dB t)], []⟩)))) (id := 0) (laws_eqIntS_n4_l x20608 x20609) (Sum.elim (fun (t : Bool) => (Sum.inr t)) (fun (t : Unit) => (Sum.inl ()))) (by
  rintro (t | t) K h
  · exact Eq.mp (by kernel_rfl) h
  · exact Eq.mp (by kernel_rfl) h))

def laws_eqIntS_n6_l (x20608 : List Int) (x20609 : List Int) := (link_seq (laws_eqIntS_n2_l x20608 x20609) (fun (t : Unit) => (laws_eqIntS_n5_l x20608 x20609)))

theorem laws_eqIntS_n7_l : Link laws_eqIntS_ctx LL (cq [1,1,1] (bodyOf Try.f34)) (aq [1,1,1] laws_eqIntS_an) ⟨mkE 26 0 [], []⟩ (laws_eqIntS_n7) (fun (t : Bool) => (Exit.ret, ⟨mkE 26 0 [(4, dB t)], []⟩)) := by
  refine Link.of fun K h => ?_
  simp only [laws_eqIntS_n7, wpO_bind, wpO_cond, wpO_map, wpO_some] at h
  exact Awp.of (by kernel_rfl) h

def laws_eqIntS_n8_l (x20608 : List Int) (x20609 : List Int) := (link_seq2 (laws_eqIntS_n6_l x20608 x20609) (fun (t : Unit) => (laws_eqIntS_n7_l)) (fun (t : Bool) => t) (by
  rintro t
  · kernel_rfl) (by
  rintro t f K h
  · exact h))

def laws_eqIntS_n9_l (x20608 : List Int) (x20609 : List Int) := (link_group (c := (cq [0,1] (bodyOf Try.f34))) (a := (aq [0,1] laws_eqIntS_an)) [(cq [0] (bodyOf Try.f34))] [(aq [0] laws_eqIntS_an)] rfl (link_seq2 (laws_eqIntS_n1_l x20608 x20609) (fun (t : Unit) => (laws_eqIntS_n8_l x20608 x20609)) (fun (t : Bool) => t) (by
  rintro t
  · kernel_rfl) (by
  rintro t f K h
  · exact h)))

theorem laws_eqIntS_e (x20608 : List Int) (x20609 : List Int) {r : AV} {H' : Heap} (h : (Ans.mk _ (laws_eqIntS x20608 x20609) (fun (t : Bool) => (dB t, [])) [] none).run = some (r, H')) : Awp laws_eqIntS_ctx LL (bodyOf Try.f34) laws_eqIntS_an ⟨mkE 26 0 [(0, dL x20608), (1, dL x20609)], []⟩ (Ret (tlook tys) Try.f34.results.toList r H') :=
  ret_of' (Link.cast (by kernel_rfl) (by kernel_rfl) (laws_eqIntS_n9_l x20608 x20609)) (by unfold laws_eqIntS; kernel_rfl) (by
  intro t
  exact ret_mk [dB t] (by kernel_rfl) (by kernel_rfl) (by kernel_rfl) (by kernel_rfl)) h

def F_laws_eqIntS : Fun := fun avs H =>
  match avs, H with
  | [.dat (.list (.int .i64)) x20608, .dat (.list (.int .i64)) x20609], [] => ⟨_, laws_eqIntS x20608 x20609, fun (t : Bool) => (dB t, []), [], none⟩
  | _, _ => Ans.no

theorem laws_eqIntS_sound : Sound Try.prog 34 F_laws_eqIntS := by
  refine fn_sound' (C := laws_eqIntS_ctx) (c := bodyOf Try.f34) (cok_of tys_ok (alln) (alln) (by kernel_rfl)) Try.func34 (by kernel_rfl) LL laws_eqIntS_an ?_
  intro avs H r H' h
  unfold F_laws_eqIntS at h
  split at h
  · refine Awp.cast ?_ ?_ ?_ (laws_eqIntS_e _ _ h) <;> kernel_rfl
  · simp [Ans.no, Ans.run] at h


/-! loop.example/headtrees/laws.eqIntSS -/

def laws_eqIntSS_an : Ann := (.seq (.leaf [0, 1]) (.seq (.seq (.leaf [0, 1, 10]) (.cond (.seq (.leaf [4]) (.leaf [4])) (.leaf [0, 1]))) (.seq (.seq (.leaf [0, 1, 5]) (.block (.loop (.seq (.seq (.leaf [0, 1, 5, 14]) (.cond (.leaf [0, 1, 5]) (.leaf []))) (.seq (.block (.seq (.draw [8] [0, 1, 2, 3, 4, 5, 6, 7, 8, 9] [] [0, 1, 5, 26]) (.cond (.seq (.leaf [4]) (.leaf [4])) (.leaf [0, 1, 5])))) (.leaf [0, 1, 5])))))) (.seq (.leaf [4]) (.leaf [4])))))

noncomputable def laws_eqIntSS_ctx : Ctx := ⟨tlook tys, olook [(34, F_laws_eqIntS)], ioF, 0, false, []⟩

theorem laws_eqIntSS_n1_l (x20597 : List (List Int)) (x20598 : List (List Int)) : Link laws_eqIntSS_ctx LL (Code.seq (cq [0] (bodyOf Try.f31)) (cq [0,1] (bodyOf Try.f31))) (Ann.seq (aq [0] laws_eqIntSS_an) (aq [0,1] laws_eqIntSS_an)) ⟨mkE 27 0 [(0, .dat (.list (.list (.int .i64))) x20597), (1, .dat (.list (.list (.int .i64))) x20598)], []⟩ (laws_eqIntSS_n1 x20597 x20598) (Sum.elim (fun (t : Unit) => (Exit.normal, ⟨mkE 27 0 [(0, .dat (.list (.list (.int .i64))) x20597), (1, .dat (.list (.list (.int .i64))) x20598)], []⟩)) (fun (t : Bool) => (Exit.ret, ⟨mkE 27 0 [(4, dB t)], []⟩))) := by
  refine Link.of fun K h => ?_
  simp only [laws_eqIntSS_n1, wpO_bind, wpO_cond, wpO_map, wpO_some] at h
  exact Awp.of (by kernel_rfl) h

theorem laws_eqIntSS_n2_l (x20597 : List (List Int)) (x20598 : List (List Int)) : Link laws_eqIntSS_ctx LL (cq [0,0,1,1] (bodyOf Try.f31)) (aq [0,0,1,1] laws_eqIntSS_an) ⟨mkE 27 0 [(0, .dat (.list (.list (.int .i64))) x20597), (1, .dat (.list (.list (.int .i64))) x20598)], []⟩ (laws_eqIntSS_n2) (fun (t : Unit) => (Exit.normal, ⟨mkE 27 0 [(0, .dat (.list (.list (.int .i64))) x20597), (1, .dat (.list (.list (.int .i64))) x20598), (5, dI 0)], []⟩)) := by
  refine Link.of fun K h => ?_
  simp only [laws_eqIntSS_n2, wpO_bind, wpO_cond, wpO_map, wpO_some] at h
  exact Awp.of (by kernel_rfl) h

theorem laws_eqIntSS_n3_l (x20597 : List (List Int)) (x20598 : List (List Int)) (x20650 : Int) : Link laws_eqIntSS_ctx LL (cq [0,0,1,0,1,1] (bodyOf Try.f31)) (aq [0,0,1,0,1,1] laws_eqIntSS_an) ⟨mkE 27 0 [(0, .dat (.list (.list (.int .i64))) x20597), (1, .dat (.list (.list (.int .i64))) x20598), (5, dI x20650)], []⟩ (laws_eqIntSS_n3 x20597 x20598 x20650) (Sum.elim (fun (t : Int) => (Exit.normal, ⟨mkE 27 0 [(0, .dat (.list (.list (.int .i64))) x20597), (1, .dat (.list (.list (.int .i64))) x20598), (5, dI t)], []⟩)) (Sum.elim (fun (t : Bool) => (Exit.ret, ⟨mkE 27 0 [(4, dB t)], []⟩)) (fun (t : Unit) => ((Exit.exit 0), ⟨mkE 27 0 [], []⟩)))) := by
  refine Link.of fun K h => ?_
  simp only [laws_eqIntSS_n3, wpO_bind, wpO_cond, wpO_map, wpO_some] at h
  exact Awp.of (by kernel_rfl) h

def laws_eqIntSS_n4_l (x20597 : List (List Int)) (x20598 : List (List Int)) := (link_loop (mk := fun (s : Int) => ⟨mkE 27 0 [(0, .dat (.list (.list (.int .i64))) x20597), (1, .dat (.list (.list (.int .i64))) x20598), (5, dI s)], []⟩) (fin := (Sum.elim (fun (t : Bool) => (Exit.ret, ⟨mkE 27 0 [(4, dB t)], []⟩)) (fun (t : Unit) => ((Exit.exit 0), ⟨mkE 27 0 [], []⟩)))) (by
  rintro (t | t) f K h
  · exact h
  · exact h) (fun s => link_map (laws_eqIntSS_n3_l x20597 x20598 s) (Sum.elim (fun (t : Int) => Sum.inl t) (Sum.elim (fun (t : Bool) => Sum.inr (Sum.inl t)) (fun (t : Unit) => Sum.inr (Sum.inr t)))) (by
  rintro (t | t | t)
  · kernel_rfl
  · kernel_rfl
  · kernel_rfl)) 0)

def laws_eqIntSS_n5_l (x20597 : List (List Int)) (x20598 : List (List Int)) := (link_block (fin2 := (Sum.elim (fun (t : Unit) => (Exit.normal, ⟨mkE 27 0 [], []⟩)) (fun (t : Bool) => (Exit.ret, ⟨mkE 27 0 [(4, dB t)], []⟩)))) (id := 0) (laws_eqIntSS_n4_l x20597 x20598) (Sum.elim (fun (t : Bool) => (Sum.inr t)) (fun (t : Unit) => (Sum.inl ()))) (by
  rintro (t | t) K h
  · exact Eq.mp (by kernel_rfl) h
  · exact Eq.mp (by kernel_rfl) h))

def laws_eqIntSS_n6_l (x20597 : List (List Int)) (x20598 : List (List Int)) := (link_seq (laws_eqIntSS_n2_l x20597 x20598) (fun (t : Unit) => (laws_eqIntSS_n5_l x20597 x20598)))

theorem laws_eqIntSS_n7_l : Link laws_eqIntSS_ctx LL (cq [1,1,1] (bodyOf Try.f31)) (aq [1,1,1] laws_eqIntSS_an) ⟨mkE 27 0 [], []⟩ (laws_eqIntSS_n7) (fun (t : Bool) => (Exit.ret, ⟨mkE 27 0 [(4, dB t)], []⟩)) := by
  refine Link.of fun K h => ?_
  simp only [laws_eqIntSS_n7, wpO_bind, wpO_cond, wpO_map, wpO_some] at h
  exact Awp.of (by kernel_rfl) h

def laws_eqIntSS_n8_l (x20597 : List (List Int)) (x20598 : List (List Int)) := (link_seq2 (laws_eqIntSS_n6_l x20597 x20598) (fun (t : Unit) => (laws_eqIntSS_n7_l)) (fun (t : Bool) => t) (by
  rintro t
  · kernel_rfl) (by
  rintro t f K h
  · exact h))

def laws_eqIntSS_n9_l (x20597 : List (List Int)) (x20598 : List (List Int)) := (link_group (c := (cq [0,1] (bodyOf Try.f31))) (a := (aq [0,1] laws_eqIntSS_an)) [(cq [0] (bodyOf Try.f31))] [(aq [0] laws_eqIntSS_an)] rfl (link_seq2 (laws_eqIntSS_n1_l x20597 x20598) (fun (t : Unit) => (laws_eqIntSS_n8_l x20597 x20598)) (fun (t : Bool) => t) (by
  rintro t
  · kernel_rfl) (by
  rintro t f K h
  · exact h)))

theorem laws_eqIntSS_e (x20597 : List (List Int)) (x20598 : List (List Int)) {r : AV} {H' : Heap} (h : (Ans.mk _ (laws_eqIntSS x20597 x20598) (fun (t : Bool) => (dB t, [])) [] none).run = some (r, H')) : Awp laws_eqIntSS_ctx LL (bodyOf Try.f31) laws_eqIntSS_an ⟨mkE 27 0 [(0, .dat (.list (.list (.int .i64))) x20597), (1, .dat (.list (.list (.int .i64))) x20598)], []⟩ (Ret (tlook tys) Try.f31.results.toList r H') :=
  ret_of' (Link.cast (by kernel_rfl) (by kernel_rfl) (laws_eqIntSS_n9_l x20597 x20598)) (by unfold laws_eqIntSS; kernel_rfl) (by
  intro t
  exact ret_mk [dB t] (by kernel_rfl) (by kernel_rfl) (by kernel_rfl) (by kernel_rfl)) h

def F_laws_eqIntSS : Fun := fun avs H =>
  match avs, H with
  | [.dat (.list (.list (.int .i64))) x20597, .dat (.list (.list (.int .i64))) x20598], [] => ⟨_, laws_eqIntSS x20597 x20598, fun (t : Bool) => (dB t, []), [], none⟩
  | _, _ => Ans.no

theorem laws_eqIntSS_sound : Sound Try.prog 31 F_laws_eqIntSS := by
  refine fn_sound' (C := laws_eqIntSS_ctx) (c := bodyOf Try.f31) (cok_of tys_ok (allc laws_eqIntS_sound alln) (allc Try.call34 alln) (by kernel_rfl)) Try.func31 (by kernel_rfl) LL laws_eqIntSS_an ?_
  intro avs H r H' h
  unfold F_laws_eqIntSS at h
  split at h
  · refine Awp.cast ?_ ?_ ?_ (laws_eqIntSS_e _ _ h) <;> kernel_rfl
  · simp [Ans.no, Ans.run] at h


/-! loop.example/headtrees/laws.FnExactScoreOf -/

def laws_FnExactScoreOf_an : Ann := (.seq (.leaf [0, 1]) (.seq (.seq (.leaf [0, 1, 12]) (.cond (.seq (.leaf [4]) (.leaf [4])) (.leaf [0, 1]))) (.seq (.leaf [0, 1, 5]) (.seq (.leaf [0, 1, 5]) (.seq (.seq (.leaf [0, 1, 17]) (.cond (.seq (.leaf [4]) (.leaf [4])) (.leaf [0, 1]))) (.seq (.leaf [0, 1, 6]) (.seq (.leaf [0, 1, 6, 7]) (.seq (.leaf [0, 1, 6, 7, 8]) (.seq (.leaf [0, 1, 6, 7, 8, 9]) (.seq (.seq (.leaf [0, 1, 7, 8, 32]) (.cond (.seq (.leaf [4]) (.leaf [4])) (.leaf [0, 1, 7, 8]))) (.seq (.seq (.leaf [1, 8, 37]) (.cond (.seq (.leaf [4]) (.leaf [4])) (.leaf [1, 8]))) (.seq (.seq (.leaf [42]) (.cond (.seq (.leaf [4]) (.leaf [4])) (.leaf []))) (.seq (.leaf [4]) (.leaf [4]))))))))))))))

noncomputable def laws_FnExactScoreOf_ctx : Ctx := ⟨tlook tys, olook [(29, F_laws_szIntSS), (30, F_laws_toIntSS), (33, F_laws_toIntS), (32, F_spec_ScoreOf), (24, F_impl_ScoreOf), (31, F_laws_eqIntSS), (34, F_laws_eqIntS)], ioF, 0, false, []⟩

theorem laws_FnExactScoreOf_n1_l (x20692 : List (List Int)) (x20693 : List Int) : Link laws_FnExactScoreOf_ctx LL (bodyOf Try.f8) laws_FnExactScoreOf_an ⟨mkE 43 0 [(0, .dat (.list (.list (.int .i64))) x20692), (1, dL x20693)], []⟩ (laws_FnExactScoreOf_n1 x20692 x20693) (fun (t : Bool) => (Exit.ret, ⟨mkE 43 0 [(4, dB t)], []⟩)) := by
  refine Link.of fun K h => ?_
  simp only [laws_FnExactScoreOf_n1, wpO_bind, wpO_cond, wpO_map, wpO_some] at h
  exact Awp.of (by kernel_rfl) h

theorem laws_FnExactScoreOf_e (x20692 : List (List Int)) (x20693 : List Int) {r : AV} {H' : Heap} (h : (Ans.mk _ (laws_FnExactScoreOf x20692 x20693) (fun (t : Bool) => (dB t, [])) [] none).run = some (r, H')) : Awp laws_FnExactScoreOf_ctx LL (bodyOf Try.f8) laws_FnExactScoreOf_an ⟨mkE 43 0 [(0, .dat (.list (.list (.int .i64))) x20692), (1, dL x20693)], []⟩ (Ret (tlook tys) Try.f8.results.toList r H') :=
  ret_of' (laws_FnExactScoreOf_n1_l x20692 x20693) (by unfold laws_FnExactScoreOf; kernel_rfl) (by
  intro t
  exact ret_mk [dB t] (by kernel_rfl) (by kernel_rfl) (by kernel_rfl) (by kernel_rfl)) h

def F_laws_FnExactScoreOf : Fun := fun avs H =>
  match avs, H with
  | [.dat (.list (.list (.int .i64))) x20692, .dat (.list (.int .i64)) x20693], [] => ⟨_, laws_FnExactScoreOf x20692 x20693, fun (t : Bool) => (dB t, []), [], none⟩
  | _, _ => Ans.no

theorem laws_FnExactScoreOf_sound : Sound Try.prog 8 F_laws_FnExactScoreOf := by
  refine fn_sound' (C := laws_FnExactScoreOf_ctx) (c := bodyOf Try.f8) (cok_of tys_ok (allc laws_szIntSS_sound (allc laws_toIntSS_sound (allc laws_toIntS_sound (allc spec_ScoreOf_sound (allc impl_ScoreOf_sound (allc laws_eqIntSS_sound (allc laws_eqIntS_sound alln))))))) (allc Try.call29 (allc Try.call30 (allc Try.call33 (allc Try.call32 (allc Try.call24 (allc Try.call31 (allc Try.call34 alln))))))) (by kernel_rfl)) Try.func8 (by kernel_rfl) LL laws_FnExactScoreOf_an ?_
  intro avs H r H' h
  unfold F_laws_FnExactScoreOf at h
  split at h
  · refine Awp.cast ?_ ?_ ?_ (laws_FnExactScoreOf_e _ _ h) <;> kernel_rfl
  · simp [Ans.no, Ans.run] at h


end Go.Rv
