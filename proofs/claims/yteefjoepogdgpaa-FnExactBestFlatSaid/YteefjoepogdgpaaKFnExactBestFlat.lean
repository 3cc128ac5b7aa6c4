/-
  The checked code answers as the plain functions do; written by program. Conditions: none.
-/
import Derived.Test.YteefjoepogdgpaaGFnExactBestFlat
import Derived.Test.YteefjoepogdgpaaProg
set_option linter.unusedVariables false
set_option linter.unusedSimpArgs false
set_option linter.defProp false
set_option maxRecDepth 100000
namespace Go.Rv
open Go.Proofs
theorem ty3 : TIOk Try.prog 3 ⟨.int .i64, 1, 8, some (.int .i64), [.int .i64 0], false⟩ := ⟨⟨infoOf (Try.prog.info? 3), by kernel_rfl, by kernel_rfl, by kernel_rfl, .int .i64 0, by kernel_rfl, by kernel_rfl⟩, (by kernel_rfl : Try.prog.underlying 3 = some (.int .i64)), no_eq⟩
theorem ty4 : TIOk Try.prog 4 ⟨.bool, 1, 1, some .bool, [.bool false], false⟩ := ⟨⟨infoOf (Try.prog.info? 4), by kernel_rfl, by kernel_rfl, by kernel_rfl, .bool false, by kernel_rfl, by kernel_rfl⟩, (by kernel_rfl : Try.prog.underlying 4 = some .bool), no_eq⟩
theorem ty5 : TIOk Try.prog 5 ⟨.int .u8, 1, 1, some (.int .u8), [.int .u8 0], false⟩ := ⟨⟨infoOf (Try.prog.info? 5), by kernel_rfl, by kernel_rfl, by kernel_rfl, .int .u8 0, by kernel_rfl, by kernel_rfl⟩, (by kernel_rfl : Try.prog.underlying 5 = some (.int .u8)), no_eq⟩
theorem ty22 : TIOk Try.prog 22 ⟨.slice 5, 1, 24, some (.list (.int .u8)), [.slice none 0 0], false⟩ := ⟨⟨infoOf (Try.prog.info? 22), by kernel_rfl, by kernel_rfl, by kernel_rfl, .slice none 0 0, by kernel_rfl, by kernel_rfl⟩, (by kernel_rfl : Try.prog.underlying 22 = some (.slice 5)), no_eq⟩
theorem ty23 : TIOk Try.prog 23 ⟨.slice 26, 1, 24, some (.list (.list (.int .i64))), [.slice none 0 0], false⟩ := ⟨⟨infoOf (Try.prog.info? 23), by kernel_rfl, by kernel_rfl, by kernel_rfl, .slice none 0 0, by kernel_rfl, by kernel_rfl⟩, (by kernel_rfl : Try.prog.underlying 23 = some (.slice 26)), no_eq⟩
theorem ty26 : TIOk Try.prog 26 ⟨.slice 3, 1, 24, some (.list (.int .i64)), [.slice none 0 0], false⟩ := ⟨⟨infoOf (Try.prog.info? 26), by kernel_rfl, by kernel_rfl, by kernel_rfl, .slice none 0 0, by kernel_rfl, by kernel_rfl⟩, (by kernel_rfl : Try.prog.underlying 26 = some (.slice 3)), no_eq⟩
theorem ty55 : TIOk Try.prog 55 ⟨.strct [(0, 23), (1, 26), (2, 26), (3, 3)], 4, 80, some (.pair (.list (.list (.int .i64))) (.pair (.list (.int .i64)) (.pair (.list (.int .i64)) (.pair (.int .i64) .unit)))), [.slice none 0 0, .slice none 0 0, .slice none 0 0, .int .i64 0], false⟩ := ⟨⟨infoOf (Try.prog.info? 55), by kernel_rfl, by kernel_rfl, by kernel_rfl, .agg #[.slice none 0 0, .slice none 0 0, .slice none 0 0, .int .i64 0], by kernel_rfl, by kernel_rfl⟩, ⟨fieldsOf (Try.prog.underlying 55), by kernel_rfl, by kernel_rfl⟩, no_eq⟩
theorem ty56 : TIOk Try.prog 56 ⟨.scalar, 1, 8, none, [.pointer none], false⟩ := ⟨⟨infoOf (Try.prog.info? 56), by kernel_rfl, by kernel_rfl, by kernel_rfl, .pointer none, by kernel_rfl, by kernel_rfl⟩, ⟨descOf (Try.prog.underlying 56), by kernel_rfl, by kernel_rfl⟩, no_eq⟩
theorem ty60 : TIOk Try.prog 60 ⟨.strct [(0, 3), (1, 3)], 2, 16, some (.pair (.int .i64) (.pair (.int .i64) .unit)), [.int .i64 0, .int .i64 0], false⟩ := ⟨⟨infoOf (Try.prog.info? 60), by kernel_rfl, by kernel_rfl, by kernel_rfl, .agg #[.int .i64 0, .int .i64 0], by kernel_rfl, by kernel_rfl⟩, ⟨fieldsOf (Try.prog.underlying 60), by kernel_rfl, by kernel_rfl⟩, no_eq⟩
theorem ty61 : TIOk Try.prog 61 ⟨.arr 6 60, 12, 96, none, [.int .i64 0, .int .i64 0, .int .i64 0, .int .i64 0, .int .i64 0, .int .i64 0, .int .i64 0, .int .i64 0, .int .i64 0, .int .i64 0, .int .i64 0, .int .i64 0], false⟩ := ⟨⟨infoOf (Try.prog.info? 61), by kernel_rfl, by kernel_rfl, by kernel_rfl, .agg #[.int .i64 0, .int .i64 0, .int .i64 0, .int .i64 0, .int .i64 0, .int .i64 0, .int .i64 0, .int .i64 0, .int .i64 0, .int .i64 0, .int .i64 0, .int .i64 0], by kernel_rfl, by kernel_rfl⟩, (by kernel_rfl : Try.prog.underlying 61 = some (.array 6 60)), no_eq⟩
theorem ty64 : TIOk Try.prog 64 ⟨.arr 7 3, 7, 56, none, [.int .i64 0, .int .i64 0, .int .i64 0, .int .i64 0, .int .i64 0, .int .i64 0, .int .i64 0], false⟩ := ⟨⟨infoOf (Try.prog.info? 64), by kernel_rfl, by kernel_rfl, by kernel_rfl, .agg #[.int .i64 0, .int .i64 0, .int .i64 0, .int .i64 0, .int .i64 0, .int .i64 0, .int .i64 0], by kernel_rfl, by kernel_rfl⟩, (by kernel_rfl : Try.prog.underlying 64 = some (.array 7 3)), no_eq⟩
theorem ty66 : TIOk Try.prog 66 ⟨.strct [(0, 64), (7, 64)], 14, 112, none, [.int .i64 0, .int .i64 0, .int .i64 0, .int .i64 0, .int .i64 0, .int .i64 0, .int .i64 0, .int .i64 0, .int .i64 0, .int .i64 0, .int .i64 0, .int .i64 0, .int .i64 0, .int .i64 0], false⟩ := ⟨⟨infoOf (Try.prog.info? 66), by kernel_rfl, by kernel_rfl, by kernel_rfl, .agg #[.int .i64 0, .int .i64 0, .int .i64 0, .int .i64 0, .int .i64 0, .int .i64 0, .int .i64 0, .int .i64 0, .int .i64 0, .int .i64 0, .int .i64 0, .int .i64 0, .int .i64 0, .int .i64 0], by kernel_rfl, by kernel_rfl⟩, ⟨fieldsOf (Try.prog.underlying 66), by kernel_rfl, by kernel_rfl⟩, no_eq⟩
theorem ty70 : TIOk Try.prog 70 ⟨.strct [(0, 3), (1, 3)], 2, 16, some (.pair (.int .i64) (.pair (.int .i64) .unit)), [.int .i64 0, .int .i64 0], false⟩ := ⟨⟨infoOf (Try.prog.info? 70), by kernel_rfl, by kernel_rfl, by kernel_rfl, .agg #[.int .i64 0, .int .i64 0], by kernel_rfl, by kernel_rfl⟩, ⟨fieldsOf (Try.prog.underlying 70), by kernel_rfl, by kernel_rfl⟩, no_eq⟩
theorem ty74 : TIOk Try.prog 74 ⟨.strct [(0, 22), (1, 3)], 2, 32, some (.pair (.list (.int .u8)) (.pair (.int .i64) .unit)), [.slice none 0 0, .int .i64 0], false⟩ := ⟨⟨infoOf (Try.prog.info? 74), by kernel_rfl, by kernel_rfl, by kernel_rfl, .agg #[.slice none 0 0, .int .i64 0], by kernel_rfl, by kernel_rfl⟩, ⟨fieldsOf (Try.prog.underlying 74), by kernel_rfl, by kernel_rfl⟩, no_eq⟩
theorem ty80 : TIOk Try.prog 80 ⟨.arr 6 61, 72, 576, none, [.int .i64 0, .int .i64 0, .int .i64 0, .int .i64 0, .int .i64 0, .int .i64 0, .int .i64 0, .int .i64 0, .int .i64 0, .int .i64 0, .int .i64 0, .int .i64 0, .int .i64 0, .int .i64 0, .int .i64 0, .int .i64 0, .int .i64 0, .int .i64 0, .int .i64 0, .int .i64 0, .int .i64 0, .int .i64 0, .int .i64 0, .int .i64 0, .int .i64 0, .int .i64 0, .int .i64 0, .int .i64 0, .int .i64 0, .int .i64 0, .int .i64 0, .int .i64 0, .int .i64 0, .int .i64 0, .int .i64 0, .int .i64 0, .int .i64 0, .int .i64 0, .int .i64 0, .int .i64 0, .int .i64 0, .int .i64 0, .int .i64 0, .int .i64 0, .int .i64 0, .int .i64 0, .int .i64 0, .int .i64 0, .int .i64 0, .int .i64 0, .int .i64 0, .int .i64 0, .int .i64 0, .int .i64 0, .int .i64 0, .int .i64 0, .int .i64 0, .int .i64 0, .int .i64 0, .int .i64 0, .int .i64 0, .int .i64 0, .int .i64 0, .int .i64 0, .int .i64 0, .int .i64 0, .int .i64 0, .int .i64 0, .int .i64 0, .int .i64 0, .int .i64 0, .int .i64 0], false⟩ := ⟨⟨infoOf (Try.prog.info? 80), by kernel_rfl, by kernel_rfl, by kernel_rfl, .agg #[.int .i64 0, .int .i64 0, .int .i64 0, .int .i64 0, .int .i64 0, .int .i64 0, .int .i64 0, .int .i64 0, .int .i64 0, .int .i64 0, .int .i64 0, .int .i64 0, .int .i64 0, .int .i64 0, .int .i64 0, .int .i64 0, .int .i64 0, .int .i64 0, .int .i64 0, .int .i64 0, .int .i64 0, .int .i64 0, .int .i64 0, .int .i64 0, .int .i64 0, .int .i64 0, .int .i64 0, .int .i64 0, .int .i64 0, .int .i64 0, .int .i64 0, .int .i64 0, .int .i64 0, .int .i64 0, .int .i64 0, .int .i64 0, .int .i64 0, .int .i64 0, .int .i64 0, .int .i64 0, .int .i64 0, .int .i64 0, .int .i64 0, .int .i64 0, .int .i64 0, .int .i64 0, .int .i64 0, .int .i64 0, .int .i64 0, .int .i64 0, .int .i64 0, .int .i64 0, .int .i64 0, .int .i64 0, .int .i64 0, .int .i64 0, .int .i64 0, .int .i64 0, .int .i64 0, .int .i64 0, .int .i64 0, .int .i64 0, .int .i64 0, .int .i64 0, .int .i64 0, .int .i64 0, .int .i64 0, .int .i64 0, .int .i64 0, .int .i64 0, .int .i64 0, .int .i64 0], by kernel_rfl, by kernel_rfl⟩, (by kernel_rfl : Try.prog.underlying 80 = some (.array 6 61)), no_eq⟩
theorem ty83 : TIOk Try.prog 83 ⟨.strct [(0, 64), (7, 64)], 14, 112, none, [.int .i64 0, .int .i64 0, .int .i64 0, .int .i64 0, .int .i64 0, .int .i64 0, .int .i64 0, .int .i64 0, .int .i64 0, .int .i64 0, .int .i64 0, .int .i64 0, .int .i64 0, .int .i64 0], false⟩ := ⟨⟨infoOf (Try.prog.info? 83), by kernel_rfl, by kernel_rfl, by kernel_rfl, .agg #[.int .i64 0, .int .i64 0, .int .i64 0, .int .i64 0, .int .i64 0, .int .i64 0, .int .i64 0, .int .i64 0, .int .i64 0, .int .i64 0, .int .i64 0, .int .i64 0, .int .i64 0, .int .i64 0], by kernel_rfl, by kernel_rfl⟩, ⟨fieldsOf (Try.prog.underlying 83), by kernel_rfl, by kernel_rfl⟩, no_eq⟩
theorem ty88 : TIOk Try.prog 88 ⟨.strct [(0, 26), (1, 3), (2, 3)], 3, 40, some (.pair (.list (.int .i64)) (.pair (.int .i64) (.pair (.int .i64) .unit))), [.slice none 0 0, .int .i64 0, .int .i64 0], false⟩ := ⟨⟨infoOf (Try.prog.info? 88), by kernel_rfl, by kernel_rfl, by kernel_rfl, .agg #[.slice none 0 0, .int .i64 0, .int .i64 0], by kernel_rfl, by kernel_rfl⟩, ⟨fieldsOf (Try.prog.underlying 88), by kernel_rfl, by kernel_rfl⟩, no_eq⟩
def tys : List (TypeId × TI) := [(3, ⟨.int .i64, 1, 8, some (.int .i64), [.int .i64 0], false⟩), (4, ⟨.bool, 1, 1, some .bool, [.bool false], false⟩), (5, ⟨.int .u8, 1, 1, some (.int .u8), [.int .u8 0], false⟩), (22, ⟨.slice 5, 1, 24, some (.list (.int .u8)), [.slice none 0 0], false⟩), (23, ⟨.slice 26, 1, 24, some (.list (.list (.int .i64))), [.slice none 0 0], false⟩), (26, ⟨.slice 3, 1, 24, some (.list (.int .i64)), [.slice none 0 0], false⟩), (55, ⟨.strct [(0, 23), (1, 26), (2, 26), (3, 3)], 4, 80, some (.pair (.list (.list (.int .i64))) (.pair (.list (.int .i64)) (.pair (.list (.int .i64)) (.pair (.int .i64) .unit)))), [.slice none 0 0, .slice none 0 0, .slice none 0 0, .int .i64 0], false⟩), (56, ⟨.scalar, 1, 8, none, [.pointer none], false⟩), (60, ⟨.strct [(0, 3), (1, 3)], 2, 16, some (.pair (.int .i64) (.pair (.int .i64) .unit)), [.int .i64 0, .int .i64 0], false⟩), (61, ⟨.arr 6 60, 12, 96, none, [.int .i64 0, .int .i64 0, .int .i64 0, .int .i64 0, .int .i64 0, .int .i64 0, .int .i64 0, .int .i64 0, .int .i64 0, .int .i64 0, .int .i64 0, .int .i64 0], false⟩), (64, ⟨.arr 7 3, 7, 56, none, [.int .i64 0, .int .i64 0, .int .i64 0, .int .i64 0, .int .i64 0, .int .i64 0, .int .i64 0], false⟩), (66, ⟨.strct [(0, 64), (7, 64)], 14, 112, none, [.int .i64 0, .int .i64 0, .int .i64 0, .int .i64 0, .int .i64 0, .int .i64 0, .int .i64 0, .int .i64 0, .int .i64 0, .int .i64 0, .int .i64 0, .int .i64 0, .int .i64 0, .int .i64 0], false⟩), (70, ⟨.strct [(0, 3), (1, 3)], 2, 16, some (.pair (.int .i64) (.pair (.int .i64) .unit)), [.int .i64 0, .int .i64 0], false⟩), (74, ⟨.strct [(0, 22), (1, 3)], 2, 32, some (.pair (.list (.int .u8)) (.pair (.int .i64) .unit)), [.slice none 0 0, .int .i64 0], false⟩), (80, ⟨.arr 6 61, 72, 576, none, [.int .i64 0, .int .i64 0, .int .i64 0, .int .i64 0, .int .i64 0, .int .i64 0, .int .i64 0, .int .i64 0, .int .i64 0, .int .i64 0, .int .i64 0, .int .i64 0, .int .i64 0, .int .i64 0, .int .i64 0, .int .i64 0, .int .i64 0, .int .i64 0, .int .i64 0, .int .i64 0, .int .i64 0, .int .i64 0, .int .i64 0, .int .i64 0, .int .i64 0, .int .i64 0, .int .i64 0, .int .i64 0, .int .i64 0, .int .i64 0, .int .i64 0, .int .i64 0, .int .i64 0, .int .i64 0, .int .i64 0, .int .i64 0, .int .i64 0, .int .i64 0, .int .i64 0, .int .i64 0, .int .i64 0, .int .i64 0, .int .i64 0, .int .i64 0, .int .i64 0, .int .i64 0, .int .i64 0, .int .i64 0, .int .i64 0, .int .i64 0, .int .i64 0, .int .i64 0, .int .i64 0, .int .i64 0, .int .i64 0, .int .i64 0, .int .i64 0, .int .i64 0, .int .i64 0, .int .i64 0, .int .i64 0, .int .i64 0, .int .i64 0, .int .i64 0, .int .i64 0, .int .i64 0, .int .i64 0, .int .i64 0, .int .i64 0, .int .i64 0, .int .i64 0, .int .i64 0], false⟩), (83, ⟨.strct [(0, 64), (7, 64)], 14, 112, none, [.int .i64 0, .int .i64 0, .int .i64 0, .int .i64 0, .int .i64 0, .int .i64 0, .int .i64 0, .int .i64 0, .int .i64 0, .int .i64 0, .int .i64 0, .int .i64 0, .int .i64 0, .int .i64 0], false⟩), (88, ⟨.strct [(0, 26), (1, 3), (2, 3)], 3, 40, some (.pair (.list (.int .i64)) (.pair (.int .i64) (.pair (.int .i64) .unit))), [.slice none 0 0, .int .i64 0, .int .i64 0], false⟩)]
theorem tys_ok : TOk Try.prog (tlook tys) := tok_of (allc ty3 (allc ty4 (allc ty5 (allc ty22 (allc ty23 (allc ty26 (allc ty55 (allc ty56 (allc ty60 (allc ty61 (allc ty64 (allc ty66 (allc ty70 (allc ty74 (allc ty80 (allc ty83 (allc ty88 alln)))))))))))))))))
def ioF (f : FuncId) (i : Nat) : Bool := [(35, 0), (50, 1), (56, 0), (70, 1), (46, 1002), (64, 1000)].any fun (p : Nat × Nat) => Nat.beq p.1 f && Nat.beq p.2 i


/-! slices.Min[[]int,int] -/

def slices_Min_int_int_an : Ann := (.seq (.leaf [0]) (.seq (.seq (.leaf [0, 7]) (.cond (.leaf [0]) (.leaf [0]))) (.seq (.leaf [0, 3]) (.seq (.seq (.leaf [0, 3, 4]) (.block (.loop (.seq (.seq (.leaf [0, 3, 4, 15]) (.cond (.leaf [0, 3, 4]) (.leaf [3]))) (.seq (.block (.leaf [0, 3, 4])) (.leaf [0, 3, 4])))))) (.seq (.leaf [2]) (.leaf [2]))))))

noncomputable def slices_Min_int_int_ctx : Ctx := ⟨tlook tys, olook [], ioF, 0, false, []⟩

theorem slices_Min_int_int_n1_l (x17091 : List Int) : Link slices_Min_int_int_ctx LL (Code.seq (cq [0] (bodyOf Try.f59)) (Code.seq (cq [0,1] (bodyOf Try.f59)) (cq [0,1,1] (bodyOf Try.f59)))) (Ann.seq (aq [0] slices_Min_int_int_an) (Ann.seq (aq [0,1] slices_Min_int_int_an) (aq [0,1,1] slices_Min_int_int_an))) ⟨mkE 25 0 [(0, dL x17091)], []⟩ (slices_Min_int_int_n1 x17091) (fun (t : Int) => (Exit.normal, ⟨mkE 25 0 [(0, dL x17091), (3, dI t)], []⟩)) := by
  refine Link.of fun K h => ?_
  simp only [slices_Min_int_int_n1, wpO_bind, wpO_cond, wpO_map, wpO_some, wpO_none] at h
  exact Awp.of (by kernel_rfl) h

theorem slices_Min_int_int_n2_l (x17091 : List Int) (x17096 : Int) : Link slices_Min_int_int_ctx LL (cq [0,0,1,1,1] (bodyOf Try.f59)) (aq [0,0,1,1,1] slices_Min_int_int_an) ⟨mkE 25 0 [(0, dL x17091), (3, dI x17096)], []⟩ (slices_Min_int_int_n2) (fun (t : Unit) => (Exit.normal, ⟨mkE 25 0 [(0, dL x17091), (3, dI x17096), (4, dI 1)], []⟩)) := by
  refine Link.of fun K h => ?_
  simp only [slices_Min_int_int_n2, wpO_bind, wpO_cond, wpO_map, wpO_some] at h
  exact Awp.of (by kernel_rfl) h

theorem slices_Min_int_int_n3_l (x17091 : List Int) (x17108 : Int) (x17109 : Int) : Link slices_Min_int_int_ctx LL (cq [0,0,1,0,1,1,1] (bodyOf Try.f59)) (aq [0,0,1,0,1,1,1] slices_Min_int_int_an) ⟨mkE 25 0 [(0, dL x17091), (3, dI x17108), (4, dI x17109)], []⟩ (slices_Min_int_int_n3 x17091 x17108 x17109) (Sum.elim (fun (t : Int × Int) => (Exit.normal, ⟨mkE 25 0 [(0, dL x17091), (3, dI t.1), (4, dI t.2)], []⟩)) (fun (t : Int) => ((Exit.exit 0), ⟨mkE 25 0 [(3, dI t)], []⟩))) := by
  refine Link.of fun K h => ?_
  simp only [slices_Min_int_int_n3, wpO_bind, wpO_cond, wpO_map, wpO_some] at h
  exact Awp.of (by kernel_rfl) h

def slices_Min_int_int_n4_l (x17091 : List Int) (x17096 : Int) := (link_loop (mk := fun (s : Int × Int) => ⟨mkE 25 0 [(0, dL x17091), (3, dI s.1), (4, dI s.2)], []⟩) (fin := (fun (t : Int) => ((Exit.exit 0), ⟨mkE 25 0 [(3, dI t)], []⟩))) (by
  rintro t f K h
  · exact h) (fun s => link_map (slices_Min_int_int_n3_l x17091 s.1 s.2) (Sum.elim (fun (t : Int × Int) => Sum.inl (t.1, t.2)) (fun (t : Int) => Sum.inr t)) (by
  rintro (t | t)
  · kernel_rfl
  · kernel_rfl)) (x17096, 1))

def slices_Min_int_int_n5_l (x17091 : List Int) (x17096 : Int) := (link_block (fin2 := (fun (t : Int) => (Exit.normal, ⟨mkE 25 0 [(3, dI t)], []⟩))) (id := 0) (slices_Min_int_int_n4_l x17091 x17096) (fun (t : Int) => t) (by
  rintro t K h
  · exact Eq.mp (by kernel_rfl) h))

def slices_Min_int_int_n6_l (x17091 : List Int) (x17096 : Int) := (link_seq (slices_Min_int_int_n2_l x17091 x17096) (fun (t : Unit) => (slices_Min_int_int_n5_l x17091 x17096)))

theorem slices_Min_int_int_n7_l (x17108 : Int) : Link slices_Min_int_int_ctx LL (cq [1,1,1,1] (bodyOf Try.f59)) (aq [1,1,1,1] slices_Min_int_int_an) ⟨mkE 25 0 [(3, dI x17108)], []⟩ (slices_Min_int_int_n7 x17108) (fun (t : Int) => (Exit.ret, ⟨mkE 25 0 [(2, dI t)], []⟩)) := by
  refine Link.of fun K h => ?_
  simp only [slices_Min_int_int_n7, wpO_bind, wpO_cond, wpO_map, wpO_some] at h
  exact Awp.of (by kernel_rfl) h

def slices_Min_int_int_n8_l (x17091 : List Int) (x17096 : Int) := (link_seq (slices_Min_int_int_n6_l x17091 x17096) (fun (t : Int) => (slices_Min_int_int_n7_l t)))

def slices_Min_int_int_n9_l (x17091 : List Int) := (link_group (c := (cq [0,1,1] (bodyOf Try.f59))) (a := (aq [0,1,1] slices_Min_int_int_an)) [(cq [0] (bodyOf Try.f59)), (cq [0,1] (bodyOf Try.f59))] [(aq [0] slices_Min_int_int_an), (aq [0,1] slices_Min_int_int_an)] rfl (link_seq (slices_Min_int_int_n1_l x17091) (fun (t : Int) => (slices_Min_int_int_n8_l x17091 t))))

theorem slices_Min_int_int_e (x17091 : List Int) {r : AV} {H' : Heap} (h : (Ans.mk _ (slices_Min_int_int x17091) (fun (t : Int) => (dI t, [])) [] none).run = some (r, H')) : Awp slices_Min_int_int_ctx LL (bodyOf Try.f59) slices_Min_int_int_an ⟨mkE 25 0 [(0, dL x17091)], []⟩ (Ret (tlook tys) Try.f59.results.toList r H') :=
  ret_of' (Link.cast (by kernel_rfl) (by kernel_rfl) (slices_Min_int_int_n9_l x17091)) (by unfold slices_Min_int_int; kernel_rfl) (by
  intro t
  exact ret_mk [dI t] (by kernel_rfl) (by kernel_rfl) (by kernel_rfl) (by kernel_rfl)) h

def F_slices_Min_int_int : Fun := fun avs H =>
  match avs, H with
  | [.dat (.list (.int .i64)) x17091], [] => ⟨_, slices_Min_int_int x17091, fun (t : Int) => (dI t, []), [], none⟩
  | _, _ => Ans.no

theorem slices_Min_int_int_sound : Sound Try.prog 59 F_slices_Min_int_int := by
  refine fn_sound' (C := slices_Min_int_int_ctx) (c := bodyOf Try.f59) (cok_of tys_ok (alln) (alln) (by kernel_rfl)) Try.func59 (by kernel_rfl) LL slices_Min_int_int_an ?_
  intro avs H r H' h
  unfold F_slices_Min_int_int at h
  split at h
  · refine Awp.cast ?_ ?_ ?_ (slices_Min_int_int_e _ h) <;> kernel_rfl
  · simp [Ans.no, Ans.run] at h


/-! slices.Max[[]int,int] -/

def slices_Max_int_int_an : Ann := (.seq (.leaf [0]) (.seq (.seq (.leaf [0, 7]) (.cond (.leaf [0]) (.leaf [0]))) (.seq (.leaf [0, 3]) (.seq (.seq (.leaf [0, 3, 4]) (.block (.loop (.seq (.seq (.leaf [0, 3, 4, 15]) (.cond (.leaf [0, 3, 4]) (.leaf [3]))) (.seq (.block (.leaf [0, 3, 4])) (.leaf [0, 3, 4])))))) (.seq (.leaf [2]) (.leaf [2]))))))

noncomputable def slices_Max_int_int_ctx : Ctx := ⟨tlook tys, olook [], ioF, 0, false, []⟩

theorem slices_Max_int_int_n1_l (x17123 : List Int) : Link slices_Max_int_int_ctx LL (Code.seq (cq [0] (bodyOf Try.f60)) (Code.seq (cq [0,1] (bodyOf Try.f60)) (cq [0,1,1] (bodyOf Try.f60)))) (Ann.seq (aq [0] slices_Max_int_int_an) (Ann.seq (aq [0,1] slices_Max_int_int_an) (aq [0,1,1] slices_Max_int_int_an))) ⟨mkE 25 0 [(0, dL x17123)], []⟩ (slices_Max_int_int_n1 x17123) (fun (t : Int) => (Exit.normal, ⟨mkE 25 0 [(0, dL x17123), (3, dI t)], []⟩)) := by
  refine Link.of fun K h => ?_
  simp only [slices_Max_int_int_n1, wpO_bind, wpO_cond, wpO_map, wpO_some, wpO_none] at h
  exact Awp.of (by kernel_rfl) h

theorem slices_Max_int_int_n2_l (x17123 : List Int) (x17128 : Int) : Link slices_Max_int_int_ctx LL (cq [0,0,1,1,1] (bodyOf Try.f60)) (aq [0,0,1,1,1] slices_Max_int_int_an) ⟨mkE 25 0 [(0, dL x17123), (3, dI x17128)], []⟩ (slices_Max_int_int_n2) (fun (t : Unit) => (Exit.normal, ⟨mkE 25 0 [(0, dL x17123), (3, dI x17128), (4, dI 1)], []⟩)) := by
  refine Link.of fun K h => ?_
  simp only [slices_Max_int_int_n2, wpO_bind, wpO_cond, wpO_map, wpO_some] at h
  exact Awp.of (by kernel_rfl) h

theorem slices_Max_int_int_n3_l (x17123 : List Int) (x17140 : Int) (x17141 : Int) : Link slices_Max_int_int_ctx LL (cq [0,0,1,0,1,1,1] (bodyOf Try.f60)) (aq [0,0,1,0,1,1,1] slices_Max_int_int_an) ⟨mkE 25 0 [(0, dL x17123), (3, dI x17140), (4, dI x17141)], []⟩ (slices_Max_int_int_n3 x17123 x17140 x17141) (Sum.elim (fun (t : Int × Int) => (Exit.normal, ⟨mkE 25 0 [(0, dL x17123), (3, dI t.1), (4, dI t.2)], []⟩)) (fun (t : Int) => ((Exit.exit 0), ⟨mkE 25 0 [(3, dI t)], []⟩))) := by
  refine Link.of fun K h => ?_
  simp only [slices_Max_int_int_n3, wpO_bind, wpO_cond, wpO_map, wpO_some] at h
  exact Awp.of (by kernel_rfl) h

def slices_Max_int_int_n4_l (x17123 : List Int) (x17128 : Int) := (link_loop (mk := fun (s : Int × Int) => ⟨mkE 25 0 [(0, dL x17123), (3, dI s.1), (4, dI s.2)], []⟩) (fin := (fun (t : Int) => ((Exit.exit 0), ⟨mkE 25 0 [(3, dI t)], []⟩))) (by
  rintro t f K h
  · exact h) (fun s => link_map (slices_Max_int_int_n3_l x17123 s.1 s.2) (Sum.elim (fun (t : Int × Int) => Sum.inl (t.1, t.2)) (fun (t : Int) => Sum.inr t)) (by
  rintro (t | t)
  · kernel_rfl
  · kernel_rfl)) (x17128, 1))

def slices_Max_int_int_n5_l (x17123 : List Int) (x17128 : Int) := (link_block (fin2 := (fun (t : Int) => (Exit.normal, ⟨mkE 25 0 [(3, dI t)], []⟩))) (id := 0) (slices_Max_int_int_n4_l x17123 x17128) (fun (t : Int) => t) (by
  rintro t K h
  · exact Eq.mp (by kernel_rfl) h))

def slices_Max_int_int_n6_l (x17123 : List Int) (x17128 : Int) := (link_seq (slices_Max_int_int_n2_l x17123 x17128) (fun (t : Unit) => (slices_Max_int_int_n5_l x17123 x17128)))

theorem slices_Max_int_int_n7_l (x17140 : Int) : Link slices_Max_int_int_ctx LL (cq [1,1,1,1] (bodyOf Try.f60)) (aq [1,1,1,1] slices_Max_int_int_an) ⟨mkE 25 0 [(3, dI x17140)], []⟩ (slices_Max_int_int_n7 x17140) (fun (t : Int) => (Exit.ret, ⟨mkE 25 0 [(2, dI t)], []⟩)) := by
  refine Link.of fun K h => ?_
  simp only [slices_Max_int_int_n7, wpO_bind, wpO_cond, wpO_map, wpO_some] at h
  exact Awp.of (by kernel_rfl) h

def slices_Max_int_int_n8_l (x17123 : List Int) (x17128 : Int) := (link_seq (slices_Max_int_int_n6_l x17123 x17128) (fun (t : Int) => (slices_Max_int_int_n7_l t)))

def slices_Max_int_int_n9_l (x17123 : List Int) := (link_group (c := (cq [0,1,1] (bodyOf Try.f60))) (a := (aq [0,1,1] slices_Max_int_int_an)) [(cq [0] (bodyOf Try.f60)), (cq [0,1] (bodyOf Try.f60))] [(aq [0] slices_Max_int_int_an), (aq [0,1] slices_Max_int_int_an)] rfl (link_seq (slices_Max_int_int_n1_l x17123) (fun (t : Int) => (slices_Max_int_int_n8_l x17123 t))))

theorem slices_Max_int_int_e (x17123 : List Int) {r : AV} {H' : Heap} (h : (Ans.mk _ (slices_Max_int_int x17123) (fun (t : Int) => (dI t, [])) [] none).run = some (r, H')) : Awp slices_Max_int_int_ctx LL (bodyOf Try.f60) slices_Max_int_int_an ⟨mkE 25 0 [(0, dL x17123)], []⟩ (Ret (tlook tys) Try.f60.results.toList r H') :=
  ret_of' (Link.cast (by kernel_rfl) (by kernel_rfl) (slices_Max_int_int_n9_l x17123)) (by unfold slices_Max_int_int; kernel_rfl) (by
  intro t
  exact ret_mk [dI t] (by kernel_rfl) (by kernel_rfl) (by kernel_rfl) (by kernel_rfl)) h

def F_slices_Max_int_int : Fun := fun avs H =>
  match avs, H with
  | [.dat (.list (.int .i64)) x17123], [] => ⟨_, slices_Max_int_int x17123, fun (t : Int) => (dI t, []), [], none⟩
  | _, _ => Ans.no

theorem slices_Max_int_int_sound : Sound Try.prog 60 F_slices_Max_int_int := by
  refine fn_sound' (C := slices_Max_int_int_ctx) (c := bodyOf Try.f60) (cok_of tys_ok (alln) (alln) (by kernel_rfl)) Try.func60 (by kernel_rfl) LL slices_Max_int_int_an ?_
  intro avs H r H' h
  unfold F_slices_Max_int_int at h
  split at h
  · refine Awp.cast ?_ ?_ ?_ (slices_Max_int_int_e _ h) <;> kernel_rfl
  · simp [Ans.no, Ans.run] at h


/-! loop.example/headtrees/impl.scoreRowOk -/

def impl_scoreRowOk_an : Ann := (.seq (.leaf [0, 1]) (.seq (.leaf [4]) (.leaf [4])))

noncomputable def impl_scoreRowOk_ctx : Ctx := ⟨tlook tys, olook [(59, F_slices_Min_int_int), (60, F_slices_Max_int_int)], ioF, 0, false, []⟩

theorem impl_scoreRowOk_n1_l (x17086 : List Int) (x17087 : Int) : Link impl_scoreRowOk_ctx LL (bodyOf Try.f39) impl_scoreRowOk_an ⟨mkE 20 0 [(0, dL x17086), (1, dI x17087)], []⟩ (impl_scoreRowOk_n1 x17086 x17087) (fun (t : Bool) => (Exit.ret, ⟨mkE 20 0 [(4, dB t)], []⟩)) := by
  refine Link.of fun K h => ?_
  simp only [impl_scoreRowOk_n1, wpO_bind, wpO_cond, wpO_map, wpO_some] at h
  exact Awp.of (by kernel_rfl) h

theorem impl_scoreRowOk_e (x17086 : List Int) (x17087 : Int) {r : AV} {H' : Heap} (h : (Ans.mk _ (impl_scoreRowOk x17086 x17087) (fun (t : Bool) => (dB t, [])) [] none).run = some (r, H')) : Awp impl_scoreRowOk_ctx LL (bodyOf Try.f39) impl_scoreRowOk_an ⟨mkE 20 0 [(0, dL x17086), (1, dI x17087)], []⟩ (Ret (tlook tys) Try.f39.results.toList r H') :=
  ret_of' (impl_scoreRowOk_n1_l x17086 x17087) (by unfold impl_scoreRowOk; kernel_rfl) (by
  intro t
  exact ret_mk [dB t] (by kernel_rfl) (by kernel_rfl) (by kernel_rfl) (by kernel_rfl)) h

def F_impl_scoreRowOk : Fun := fun avs H =>
  match avs, H with
  | [.dat (.list (.int .i64)) x17086, .dat (.int .i64) x17087], [] => ⟨_, impl_scoreRowOk x17086 x17087, fun (t : Bool) => (dB t, []), [], none⟩
  | _, _ => Ans.no

theorem impl_scoreRowOk_sound : Sound Try.prog 39 F_impl_scoreRowOk := by
  refine fn_sound' (C := impl_scoreRowOk_ctx) (c := bodyOf Try.f39) (cok_of tys_ok (allc slices_Min_int_int_sound (allc slices_Max_int_int_sound alln)) (allc Try.call59 (allc Try.call60 alln)) (by kernel_rfl)) Try.func39 (by kernel_rfl) LL impl_scoreRowOk_an ?_
  intro avs H r H' h
  unfold F_impl_scoreRowOk at h
  split at h
  · refine Awp.cast ?_ ?_ ?_ (impl_scoreRowOk_e _ _ h) <;> kernel_rfl
  · simp [Ans.no, Ans.run] at h


/-! loop.example/headtrees/impl.ScoresOk -/

def impl_ScoresOk_an : Ann := (.seq (.leaf [0]) (.seq (.seq (.leaf [0, 12]) (.cond (.seq (.leaf [2]) (.leaf [2])) (.leaf [0]))) (.seq (.seq (.leaf [0, 13, 14, 15]) (.block (.loop (.seq (.leaf [0, 13, 14, 15, 16]) (.seq (.cond (.leaf [0, 13, 14, 15]) (.leaf [])) (.seq (.block (.seq (.leaf [0, 4, 13, 14, 15]) (.seq (.leaf [0, 13, 14, 15, 23]) (.cond (.seq (.leaf [2]) (.leaf [2])) (.leaf [0, 13, 14, 15]))))) (.leaf [0, 13, 14, 15]))))))) (.seq (.leaf [2]) (.leaf [2])))))

noncomputable def impl_ScoresOk_ctx : Ctx := ⟨tlook tys, olook [(39, F_impl_scoreRowOk)], ioF, 0, false, []⟩

theorem impl_ScoresOk_n1_l (x17075 : List (List Int)) : Link impl_ScoresOk_ctx LL (Code.seq (cq [0] (bodyOf Try.f13)) (cq [0,1] (bodyOf Try.f13))) (Ann.seq (aq [0] impl_ScoresOk_an) (aq [0,1] impl_ScoresOk_an)) ⟨mkE 25 0 [(0, .dat (.list (.list (.int .i64))) x17075)], []⟩ (impl_ScoresOk_n1 x17075) (Sum.elim (fun (t : Unit) => (Exit.normal, ⟨mkE 25 0 [(0, .dat (.list (.list (.int .i64))) x17075)], []⟩)) (fun (t : Bool) => (Exit.ret, ⟨mkE 25 0 [(2, dB t)], []⟩))) := by
  refine Link.of fun K h => ?_
  simp only [impl_ScoresOk_n1, wpO_bind, wpO_cond, wpO_map, wpO_some] at h
  exact Awp.of (by kernel_rfl) h

theorem impl_ScoresOk_n2_l (x17075 : List (List Int)) : Link impl_ScoresOk_ctx LL (cq [0,0,1,1] (bodyOf Try.f13)) (aq [0,0,1,1] impl_ScoresOk_an) ⟨mkE 25 0 [(0, .dat (.list (.list (.int .i64))) x17075)], []⟩ (impl_ScoresOk_n2 x17075) (fun (t : Int) => (Exit.normal, ⟨mkE 25 0 [(0, .dat (.list (.list (.int .i64))) x17075), (13, .dat (.list (.list (.int .i64))) x17075), (14, dI t), (15, dI 0)], []⟩)) := by
  refine Link.of fun K h => ?_
  simp only [impl_ScoresOk_n2, wpO_bind, wpO_cond, wpO_map, wpO_some] at h
  exact Awp.of (by kernel_rfl) h

theorem impl_ScoresOk_n3_l (x17075 : List (List Int)) (x17080 : Int) (x17171 : Int) : Link impl_ScoresOk_ctx LL (cq [0,0,1,0,1,1] (bodyOf Try.f13)) (aq [0,0,1,0,1,1] impl_ScoresOk_an) ⟨mkE 25 0 [(0, .dat (.list (.list (.int .i64))) x17075), (13, .dat (.list (.list (.int .i64))) x17075), (14, dI x17080), (15, dI x17171)], []⟩ (impl_ScoresOk_n3 x17075 x17080 x17171) (Sum.elim (fun (t : Int) => (Exit.normal, ⟨mkE 25 0 [(0, .dat (.list (.list (.int .i64))) x17075), (13, .dat (.list (.list (.int .i64))) x17075), (14, dI x17080), (15, dI t)], []⟩)) (Sum.elim (fun (t : Bool) => (Exit.ret, ⟨mkE 25 0 [(2, dB t)], []⟩)) (fun (t : Unit) => ((Exit.exit 0), ⟨mkE 25 0 [], []⟩)))) := by
  refine Link.of fun K h => ?_
  simp only [impl_ScoresOk_n3, wpO_bind, wpO_cond, wpO_map, wpO_some] at h
  exact Awp.of (by kernel_rfl) h

def impl_ScoresOk_n4_l (x17075 : List (List Int)) (x17080 : Int) := (link_loop (mk := fun (s : Int) => ⟨mkE 25 0 [(0, .dat (.list (.list (.int .i64))) x17075), (13, .dat (.list (.list (.int .i64))) x17075), (14, dI x17080), (15, dI s)], []⟩) (fin := (Sum.elim (fun (t : Bool) => (Exit.ret, ⟨mkE 25 0 [(2, dB t)], []⟩)) (fun (t : Unit) => ((Exit.exit 0), ⟨mkE 25 0 [], []⟩)))) (by
  rintro (t | t) f K h
  · exact h
  · exact h) (fun s => link_map (impl_ScoresOk_n3_l x17075 x17080 s) (Sum.elim (fun (t : Int) => Sum.inl t) (Sum.elim (fun (t : Bool) => Sum.inr (Sum.inl t)) (fun (t : Unit) => Sum.inr (Sum.inr t)))) (by
  rintro (t | t | t)
  · kernel_rfl
  · kernel_rfl
  · kernel_rfl)) 0)

def impl_ScoresOk_n5_l (x17075 : List (List Int)) (x17080 : Int) := (link_block (fin2 := (Sum.elim (fun (t : Unit) => (Exit.normal, ⟨mkE 25 0 [], []⟩)) (fun (t : Bool) => (Exit.ret, ⟨mkE 25 0 [(2, dB t)], []⟩)))) (id := 0) (impl_ScoresOk_n4_l x17075 x17080) (Sum.elim (fun (t : Bool) => (Sum.inr t)) (fun (t : Unit) => (Sum.inl ()))) (by
  rintro (t | t) K h
  · exact Eq.mp (by kernel_rfl) h
  · exact Eq.mp (by kernel_rfl) h))

def impl_ScoresOk_n6_l (x17075 : List (List Int)) := (link_seq (impl_ScoresOk_n2_l x17075) (fun (t : Int) => (impl_ScoresOk_n5_l x17075 t)))

theorem impl_ScoresOk_n7_l : Link impl_ScoresOk_ctx LL (cq [1,1,1] (bodyOf Try.f13)) (aq [1,1,1] impl_ScoresOk_an) ⟨mkE 25 0 [], []⟩ (impl_ScoresOk_n7) (fun (t : Bool) => (Exit.ret, ⟨mkE 25 0 [(2, dB t)], []⟩)) := by
  refine Link.of fun K h => ?_
  simp only [impl_ScoresOk_n7, wpO_bind, wpO_cond, wpO_map, wpO_some] at h
  exact Awp.of (by kernel_rfl) h

def impl_ScoresOk_n8_l (x17075 : List (List Int)) := (link_seq2 (impl_ScoresOk_n6_l x17075) (fun (t : Unit) => (impl_ScoresOk_n7_l)) (fun (t : Bool) => t) (by
  rintro t
  · kernel_rfl) (by
  rintro t f K h
  · exact h))

def impl_ScoresOk_n9_l (x17075 : List (List Int)) := (link_group (c := (cq [0,1] (bodyOf Try.f13))) (a := (aq [0,1] impl_ScoresOk_an)) [(cq [0] (bodyOf Try.f13))] [(aq [0] impl_ScoresOk_an)] rfl (link_seq2 (impl_ScoresOk_n1_l x17075) (fun (t : Unit) => (impl_ScoresOk_n8_l x17075)) (fun (t : Bool) => t) (by
  rintro t
  · kernel_rfl) (by
  rintro t f K h
  · exact h)))

theorem impl_ScoresOk_e (x17075 : List (List Int)) {r : AV} {H' : Heap} (h : (Ans.mk _ (impl_ScoresOk x17075) (fun (t : Bool) => (dB t, [])) [] none).run = some (r, H')) : Awp impl_ScoresOk_ctx LL (bodyOf Try.f13) impl_ScoresOk_an ⟨mkE 25 0 [(0, .dat (.list (.list (.int .i64))) x17075)], []⟩ (Ret (tlook tys) Try.f13.results.toList r H') :=
  ret_of' (Link.cast (by kernel_rfl) (by kernel_rfl) (impl_ScoresOk_n9_l x17075)) (by unfold impl_ScoresOk; kernel_rfl) (by
  intro t
  exact ret_mk [dB t] (by kernel_rfl) (by kernel_rfl) (by kernel_rfl) (by kernel_rfl)) h

def F_impl_ScoresOk : Fun := fun avs H =>
  match avs, H with
  | [.dat (.list (.list (.int .i64))) x17075], [] => ⟨_, impl_ScoresOk x17075, fun (t : Bool) => (dB t, []), [], none⟩
  | _, _ => Ans.no

theorem impl_ScoresOk_sound : Sound Try.prog 13 F_impl_ScoresOk := by
  refine fn_sound' (C := impl_ScoresOk_ctx) (c := bodyOf Try.f13) (cok_of tys_ok (allc impl_scoreRowOk_sound alln) (allc Try.call39 alln) (by kernel_rfl)) Try.func13 (by kernel_rfl) LL impl_ScoresOk_an ?_
  intro avs H r H' h
  unfold F_impl_ScoresOk at h
  split at h
  · refine Awp.cast ?_ ?_ ?_ (impl_ScoresOk_e _ h) <;> kernel_rfl
  · simp [Ans.no, Ans.run] at h


/-! loop.example/headtrees/spec.l1In -/

def spec_l1In_an : Ann := (.seq (.leaf [0, 1, 2]) (.seq (.leaf [6]) (.leaf [6])))

noncomputable def spec_l1In_ctx : Ctx := ⟨tlook tys, olook [], ioF, 0, false, []⟩

theorem spec_l1In_n1_l (x17212 : Int) (x17213 : Int) (x17214 : Int) : Link spec_l1In_ctx LL (bodyOf Try.f40) spec_l1In_an ⟨mkE 15 0 [(0, dI x17212), (1, dI x17213), (2, dI x17214)], []⟩ (spec_l1In_n1 x17212 x17213 x17214) (fun (t : Bool) => (Exit.ret, ⟨mkE 15 0 [(6, dB t)], []⟩)) := by
  refine Link.of fun K h => ?_
  simp only [spec_l1In_n1, wpO_bind, wpO_cond, wpO_map, wpO_some] at h
  exact Awp.of (by kernel_rfl) h

theorem spec_l1In_e (x17212 : Int) (x17213 : Int) (x17214 : Int) {r : AV} {H' : Heap} (h : (Ans.mk _ (spec_l1In x17212 x17213 x17214) (fun (t : Bool) => (dB t, [])) [] none).run = some (r, H')) : Awp spec_l1In_ctx LL (bodyOf Try.f40) spec_l1In_an ⟨mkE 15 0 [(0, dI x17212), (1, dI x17213), (2, dI x17214)], []⟩ (Ret (tlook tys) Try.f40.results.toList r H') :=
  ret_of' (spec_l1In_n1_l x17212 x17213 x17214) (by unfold spec_l1In; kernel_rfl) (by
  intro t
  exact ret_mk [dB t] (by kernel_rfl) (by kernel_rfl) (by kernel_rfl) (by kernel_rfl)) h

def F_spec_l1In : Fun := fun avs H =>
  match avs, H with
  | [.dat (.int .i64) x17212, .dat (.int .i64) x17213, .dat (.int .i64) x17214], [] => ⟨_, spec_l1In x17212 x17213 x17214, fun (t : Bool) => (dB t, []), [], none⟩
  | _, _ => Ans.no

theorem spec_l1In_sound : Sound Try.prog 40 F_spec_l1In := by
  refine fn_sound' (C := spec_l1In_ctx) (c := bodyOf Try.f40) (cok_of tys_ok (alln) (alln) (by kernel_rfl)) Try.func40 (by kernel_rfl) LL spec_l1In_an ?_
  intro avs H r H' h
  unfold F_spec_l1In at h
  split at h
  · refine Awp.cast ?_ ?_ ?_ (spec_l1In_e _ _ _ h) <;> kernel_rfl
  · simp [Ans.no, Ans.run] at h


/-! loop.example/headtrees/spec.ScoresOk -/

def spec_ScoresOk_an : Ann := (.seq (.leaf [0]) (.seq (.seq (.leaf [0, 3]) (.block (.loop (.seq (.seq (.leaf [0, 3, 8]) (.cond (.leaf [0, 3]) (.leaf [0]))) (.seq (.block (.seq (.seq (.leaf [0, 3, 19]) (.cond (.seq (.leaf [2]) (.leaf [2])) (.leaf [0, 3]))) (.seq (.leaf [0, 3, 4]) (.block (.loop (.seq (.seq (.leaf [0, 3, 4, 26]) (.cond (.leaf [0, 3, 4]) (.leaf [0, 3]))) (.seq (.block (.seq (.leaf [0, 3, 4, 37]) (.cond (.seq (.leaf [2]) (.leaf [2])) (.leaf [0, 3, 4])))) (.leaf [0, 3, 4])))))))) (.leaf [0, 3])))))) (.seq (.leaf [2]) (.leaf [2]))))

noncomputable def spec_ScoresOk_ctx : Ctx := ⟨tlook tys, olook [(40, F_spec_l1In)], ioF, 0, false, []⟩

theorem spec_ScoresOk_n1_l (x17191 : List (List Int)) : Link spec_ScoresOk_ctx LL (cq [0] (bodyOf Try.f14)) (aq [0] spec_ScoresOk_an) ⟨mkE 41 0 [(0, .dat (.list (.list (.int .i64))) x17191)], []⟩ (spec_ScoresOk_n1) (fun (t : Unit) => (Exit.normal, ⟨mkE 41 0 [(0, .dat (.list (.list (.int .i64))) x17191)], []⟩)) := by
  refine Link.of fun K h => ?_
  simp only [spec_ScoresOk_n1, wpO_bind, wpO_cond, wpO_map, wpO_some] at h
  exact Awp.of (by kernel_rfl) h

theorem spec_ScoresOk_n2_l (x17191 : List (List Int)) : Link spec_ScoresOk_ctx LL (cq [0,0,1] (bodyOf Try.f14)) (aq [0,0,1] spec_ScoresOk_an) ⟨mkE 41 0 [(0, .dat (.list (.list (.int .i64))) x17191)], []⟩ (spec_ScoresOk_n2) (fun (t : Unit) => (Exit.normal, ⟨mkE 41 0 [(0, .dat (.list (.list (.int .i64))) x17191), (3, dI 0)], []⟩)) := by
  refine Link.of fun K h => ?_
  simp only [spec_ScoresOk_n2, wpO_bind, wpO_cond, wpO_map, wpO_some] at h
  exact Awp.of (by kernel_rfl) h

theorem spec_ScoresOk_n3_l (x17191 : List (List Int)) (x17250 : Int) : Link spec_ScoresOk_ctx LL (cq [0,0,0,1,0,1] (bodyOf Try.f14)) (aq [0,0,0,1,0,1] spec_ScoresOk_an) ⟨mkE 41 0 [(0, .dat (.list (.list (.int .i64))) x17191), (3, dI x17250)], []⟩ (spec_ScoresOk_n3 x17191 x17250) (Sum.elim (fun (t : Unit) => (Exit.normal, ⟨mkE 41 0 [(0, .dat (.list (.list (.int .i64))) x17191), (3, dI x17250)], []⟩)) (fun (t : Unit) => ((Exit.exit 0), ⟨mkE 41 0 [(0, .dat (.list (.list (.int .i64))) x17191)], []⟩))) := by
  refine Link.of fun K h => ?_
  simp only [spec_ScoresOk_n3, wpO_bind, wpO_cond, wpO_map, wpO_some] at h
  exact Awp.of (by kernel_rfl) h

theorem spec_ScoresOk_n4_l (x17191 : List (List Int)) (x17250 : Int) : Link spec_ScoresOk_ctx LL (Code.seq (cq [0,0,0,1,0,0,1,0,1] (bodyOf Try.f14)) (cq [0,1,0,0,1,0,0,1,0,1] (bodyOf Try.f14))) (Ann.seq (aq [0,0,0,1,0,0,1,0,1] spec_ScoresOk_an) (aq [0,1,0,0,1,0,0,1,0,1] spec_ScoresOk_an)) ⟨mkE 41 0 [(0, .dat (.list (.list (.int .i64))) x17191), (3, dI x17250)], []⟩ (spec_ScoresOk_n4 x17191 x17250) (Sum.elim (fun (t : Unit) => (Exit.normal, ⟨mkE 41 0 [(0, .dat (.list (.list (.int .i64))) x17191), (3, dI x17250), (4, dI 0)], []⟩)) (fun (t : Bool) => (Exit.ret, ⟨mkE 41 0 [(2, dB t)], []⟩))) := by
  refine Link.of fun K h => ?_
  simp only [spec_ScoresOk_n4, wpO_bind, wpO_cond, wpO_map, wpO_some] at h
  exact Awp.of (by kernel_rfl) h

theorem spec_ScoresOk_n5_l (x17191 : List (List Int)) (x17250 : Int) (x17281 : Int) : Link spec_ScoresOk_ctx LL (cq [0,0,1,1,0,0,1,0,0,1,0,1] (bodyOf Try.f14)) (aq [0,0,1,1,0,0,1,0,0,1,0,1] spec_ScoresOk_an) ⟨mkE 41 0 [(0, .dat (.list (.list (.int .i64))) x17191), (3, dI x17250), (4, dI x17281)], []⟩ (spec_ScoresOk_n5 x17191 x17250 x17281) (Sum.elim (fun (t : Int) => (Exit.normal, ⟨mkE 41 0 [(0, .dat (.list (.list (.int .i64))) x17191), (3, dI x17250), (4, dI t)], []⟩)) (Sum.elim (fun (t : Bool) => (Exit.ret, ⟨mkE 41 0 [(2, dB t)], []⟩)) (fun (t : Unit) => ((Exit.exit 2), ⟨mkE 41 0 [(0, .dat (.list (.list (.int .i64))) x17191), (3, dI x17250)], []⟩)))) := by
  refine Link.of fun K h => ?_
  simp only [spec_ScoresOk_n5, wpO_bind, wpO_cond, wpO_map, wpO_some] at h
  exact Awp.of (by kernel_rfl) h

def spec_ScoresOk_n6_l (x17191 : List (List Int)) (x17250 : Int) := (link_loop (mk := fun (s : Int) => ⟨mkE 41 0 [(0, .dat (.list (.list (.int .i64))) x17191), (3, dI x17250), (4, dI s)], []⟩) (fin := (Sum.elim (fun (t : Bool) => (Exit.ret, ⟨mkE 41 0 [(2, dB t)], []⟩)) (fun (t : Unit) => ((Exit.exit 2), ⟨mkE 41 0 [(0, .dat (.list (.list (.int .i64))) x17191), (3, dI x17250)], []⟩)))) (by
  rintro (t | t) f K h
  · exact h
  · exact h) (fun s => link_map (spec_ScoresOk_n5_l x17191 x17250 s) (Sum.elim (fun (t : Int) => Sum.inl t) (Sum.elim (fun (t : Bool) => Sum.inr (Sum.inl t)) (fun (t : Unit) => Sum.inr (Sum.inr t)))) (by
  rintro (t | t | t)
  · kernel_rfl
  · kernel_rfl
  · kernel_rfl)) 0)

def spec_ScoresOk_n7_l (x17191 : List (List Int)) (x17250 : Int) := (link_block (fin2 := (Sum.elim (fun (t : Unit) => (Exit.normal, ⟨mkE 41 0 [(0, .dat (.list (.list (.int .i64))) x17191), (3, dI x17250)], []⟩)) (fun (t : Bool) => (Exit.ret, ⟨mkE 41 0 [(2, dB t)], []⟩)))) (id := 2) (spec_ScoresOk_n6_l x17191 x17250) (Sum.elim (fun (t : Bool) => (Sum.inr t)) (fun (t : Unit) => (Sum.inl ()))) (by
  rintro (t | t) K h
  · exact Eq.mp (by kernel_rfl) h
  · exact Eq.mp (by kernel_rfl) h))

def spec_ScoresOk_n8_l (x17191 : List (List Int)) (x17250 : Int) := (link_group (c := (cq [0,1,0,0,1,0,0,1,0,1] (bodyOf Try.f14))) (a := (aq [0,1,0,0,1,0,0,1,0,1] spec_ScoresOk_an)) [(cq [0,0,0,1,0,0,1,0,1] (bodyOf Try.f14))] [(aq [0,0,0,1,0,0,1,0,1] spec_ScoresOk_an)] rfl (link_seq2 (spec_ScoresOk_n4_l x17191 x17250) (fun (t : Unit) => (spec_ScoresOk_n7_l x17191 x17250)) (fun (t : Bool) => (Sum.inr t)) (by
  rintro t
  · kernel_rfl) (by
  rintro t f K h
  · exact h)))

def spec_ScoresOk_n9_l (x17191 : List (List Int)) (x17250 : Int) := (link_block (fin2 := (Sum.elim (fun (t : Unit) => (Exit.normal, ⟨mkE 41 0 [(0, .dat (.list (.list (.int .i64))) x17191), (3, dI x17250)], []⟩)) (fun (t : Bool) => (Exit.ret, ⟨mkE 41 0 [(2, dB t)], []⟩)))) (id := 1) (spec_ScoresOk_n8_l x17191 x17250) (Sum.elim (fun (t : Unit) => (Sum.inl ())) (fun (t : Bool) => (Sum.inr t))) (by
  rintro (t | t) K h
  · exact Eq.mp (by kernel_rfl) h
  · exact Eq.mp (by kernel_rfl) h))

theorem spec_ScoresOk_n10_l (x17191 : List (List Int)) (x17250 : Int) : Link spec_ScoresOk_ctx LL (cq [1,1,0,0,1,0,1] (bodyOf Try.f14)) (aq [1,1,0,0,1,0,1] spec_ScoresOk_an) ⟨mkE 41 0 [(0, .dat (.list (.list (.int .i64))) x17191), (3, dI x17250)], []⟩ (spec_ScoresOk_n10 x17250) (fun (t : Int) => (Exit.normal, ⟨mkE 41 0 [(0, .dat (.list (.list (.int .i64))) x17191), (3, dI t)], []⟩)) := by
  refine Link.of fun K h => ?_
  simp only [spec_ScoresOk_n10, wpO_bind, wpO_cond, wpO_map, wpO_some] at h
  exact Awp.of (by kernel_rfl) h

def spec_ScoresOk_n11_l (x17191 : List (List Int)) (x17250 : Int) := (link_seq2 (spec_ScoresOk_n9_l x17191 x17250) (fun (t : Unit) => (link_map (fin2 := (Sum.elim (fun (t : Int) => (Exit.normal, ⟨mkE 41 0 [(0, .dat (.list (.list (.int .i64))) x17191), (3, dI t)], []⟩)) (fun (t : Bool) => (Exit.ret, ⟨mkE 41 0 [(2, dB t)], []⟩)))) (spec_ScoresOk_n10_l x17191 x17250) (fun (t : Int) => (Sum.inl t)) (by
  rintro t
  · kernel_rfl))) (fun (t : Bool) => (Sum.inr t)) (by
  rintro t
  · kernel_rfl) (by
  rintro t f K h
  · exact h))

def spec_ScoresOk_n12_l (x17191 : List (List Int)) (x17250 : Int) := (link_seq2 (spec_ScoresOk_n3_l x17191 x17250) (fun (t : Unit) => (link_map (fin2 := (Sum.elim (fun (t : Int) => (Exit.normal, ⟨mkE 41 0 [(0, .dat (.list (.list (.int .i64))) x17191), (3, dI t)], []⟩)) (Sum.elim (fun (t : Bool) => (Exit.ret, ⟨mkE 41 0 [(2, dB t)], []⟩)) (fun (t : Unit) => ((Exit.exit 0), ⟨mkE 41 0 [(0, .dat (.list (.list (.int .i64))) x17191)], []⟩))))) (spec_ScoresOk_n11_l x17191 x17250) (Sum.elim (fun (t : Int) => (Sum.inl t)) (fun (t : Bool) => (Sum.inr (Sum.inl t)))) (by
  rintro (t | t)
  · kernel_rfl
  · kernel_rfl))) (fun (t : Unit) => (Sum.inr (Sum.inr t))) (by
  rintro t
  · kernel_rfl) (by
  rintro t f K h
  · exact h))

def spec_ScoresOk_n13_l (x17191 : List (List Int)) := (link_loop (mk := fun (s : Int) => ⟨mkE 41 0 [(0, .dat (.list (.list (.int .i64))) x17191), (3, dI s)], []⟩) (fin := (Sum.elim (fun (t : Bool) => (Exit.ret, ⟨mkE 41 0 [(2, dB t)], []⟩)) (fun (t : Unit) => ((Exit.exit 0), ⟨mkE 41 0 [(0, .dat (.list (.list (.int .i64))) x17191)], []⟩)))) (by
  rintro (t | t) f K h
  · exact h
  · exact h) (fun s => link_map (spec_ScoresOk_n12_l x17191 s) (Sum.elim (fun (t : Int) => Sum.inl t) (Sum.elim (fun (t : Bool) => Sum.inr (Sum.inl t)) (fun (t : Unit) => Sum.inr (Sum.inr t)))) (by
  rintro (t | t | t)
  · kernel_rfl
  · kernel_rfl
  · kernel_rfl)) 0)

def spec_ScoresOk_n14_l (x17191 : List (List Int)) := (link_block (fin2 := (Sum.elim (fun (t : Unit) => (Exit.normal, ⟨mkE 41 0 [(0, .dat (.list (.list (.int .i64))) x17191)], []⟩)) (fun (t : Bool) => (Exit.ret, ⟨mkE 41 0 [(2, dB t)], []⟩)))) (id := 0) (spec_ScoresOk_n13_l x17191) (Sum.elim (fun (t : Bool) => (Sum.inr t)) (fun (t : Unit) => (Sum.inl ()))) (by
  rintro (t | t) K h
  · exact Eq.mp (by kernel_rfl) h
  · exact Eq.mp (by kernel_rfl) h))

def spec_ScoresOk_n15_l (x17191 : List (List Int)) := (link_seq (spec_ScoresOk_n2_l x17191) (fun (t : Unit) => (spec_ScoresOk_n14_l x17191)))

theorem spec_ScoresOk_n16_l (x17191 : List (List Int)) : Link spec_ScoresOk_ctx LL (cq [1,1] (bodyOf Try.f14)) (aq [1,1] spec_ScoresOk_an) ⟨mkE 41 0 [(0, .dat (.list (.list (.int .i64))) x17191)], []⟩ (spec_ScoresOk_n16 x17191) (fun (t : Bool) => (Exit.ret, ⟨mkE 41 0 [(2, dB t)], []⟩)) := by
  refine Link.of fun K h => ?_
  simp only [spec_ScoresOk_n16, wpO_bind, wpO_cond, wpO_map, wpO_some] at h
  exact Awp.of (by kernel_rfl) h

def spec_ScoresOk_n17_l (x17191 : List (List Int)) := (link_seq2 (spec_ScoresOk_n15_l x17191) (fun (t : Unit) => (spec_ScoresOk_n16_l x17191)) (fun (t : Bool) => t) (by
  rintro t
  · kernel_rfl) (by
  rintro t f K h
  · exact h))

def spec_ScoresOk_n18_l (x17191 : List (List Int)) := (link_seq (spec_ScoresOk_n1_l x17191) (fun (t : Unit) => (spec_ScoresOk_n17_l x17191)))

theorem spec_ScoresOk_e (x17191 : List (List Int)) {r : AV} {H' : Heap} (h : (Ans.mk _ (spec_ScoresOk x17191) (fun (t : Bool) => (dB t, [])) [] none).run = some (r, H')) : Awp spec_ScoresOk_ctx LL (bodyOf Try.f14) spec_ScoresOk_an ⟨mkE 41 0 [(0, .dat (.list (.list (.int .i64))) x17191)], []⟩ (Ret (tlook tys) Try.f14.results.toList r H') :=
  ret_of' (Link.cast (by kernel_rfl) (by kernel_rfl) (spec_ScoresOk_n18_l x17191)) (by unfold spec_ScoresOk; kernel_rfl) (by
  intro t
  exact ret_mk [dB t] (by kernel_rfl) (by kernel_rfl) (by kernel_rfl) (by kernel_rfl)) h

def F_spec_ScoresOk : Fun := fun avs H =>
  match avs, H with
  | [.dat (.list (.list (.int .i64))) x17191], [] => ⟨_, spec_ScoresOk x17191, fun (t : Bool) => (dB t, []), [], none⟩
  | _, _ => Ans.no

theorem spec_ScoresOk_sound : Sound Try.prog 14 F_spec_ScoresOk := by
  refine fn_sound' (C := spec_ScoresOk_ctx) (c := bodyOf Try.f14) (cok_of tys_ok (allc spec_l1In_sound alln) (allc Try.call40 alln) (by kernel_rfl)) Try.func14 (by kernel_rfl) LL spec_ScoresOk_an ?_
  intro avs H r H' h
  unfold F_spec_ScoresOk at h
  split at h
  · refine Awp.cast ?_ ?_ ?_ (spec_ScoresOk_e _ h) <;> kernel_rfl
  · simp [Ans.no, Ans.run] at h


/-! (*loop.example/headtrees/impl.partTable).between$1 -/

def impl_partTable_between_1_an : Ann := (.seq (.leaf [0, 1, 2, 3]) (.seq (.draw [] [0, 1, 2, 3, 4, 5, 6, 7, 8, 9, 10, 11, 12, 13, 14, 15, 16, 17, 18] [] [5]) (.leaf [5])))

noncomputable def impl_partTable_between_1_ctx : Ctx := ⟨tlook tys, olook [], ioF, 0, false, []⟩

theorem impl_partTable_between_1_n1_l (x18298 : Int) (x18299 : List (Int × Int × Unit)) (x18300 : Int) (x18301 : Int) : Link impl_partTable_between_1_ctx LL (bodyOf Try.f76) impl_partTable_between_1_an ⟨mkE 24 0 [(0, dI x18298), (1, .pcell (.tab (.pair (.int .i64) (.pair (.int .i64) .unit)) x18299)), (2, .pcell (dI x18300)), (3, .pcell (dI x18301))], []⟩ (impl_partTable_between_1_n1 x18298 x18299 x18300 x18301) (fun (t : Int) => (Exit.ret, ⟨mkE 24 0 [(5, dI t)], []⟩)) := by
  refine Link.of fun K h => ?_
  simp only [impl_partTable_between_1_n1, wpO_bind, wpO_cond, wpO_map, wpO_some] at h
  exact Awp.of (by kernel_rfl) h

theorem impl_partTable_between_1_e (x18298 : Int) (x18299 : List (Int × Int × Unit)) (x18300 : Int) (x18301 : Int) {r : AV} {H' : Heap} (h : (Ans.mk _ (impl_partTable_between_1 x18298 x18299 x18300 x18301) (fun (t : Int) => (dI t, [])) [] none).run = some (r, H')) : Awp impl_partTable_between_1_ctx LL (bodyOf Try.f76) impl_partTable_between_1_an ⟨mkE 24 0 [(0, dI x18298), (1, .pcell (.tab (.pair (.int .i64) (.pair (.int .i64) .unit)) x18299)), (2, .pcell (dI x18300)), (3, .pcell (dI x18301))], []⟩ (Ret (tlook tys) Try.f76.results.toList r H') :=
  ret_of' (impl_partTable_between_1_n1_l x18298 x18299 x18300 x18301) (by unfold impl_partTable_between_1; kernel_rfl) (by
  intro t
  exact ret_mk [dI t] (by kernel_rfl) (by kernel_rfl) (by kernel_rfl) (by kernel_rfl)) h

def F_impl_partTable_between_1 : Fun := fun avs H =>
  match avs, H with
  | [.dat (.int .i64) x18298, .pcell (.tab (.pair (.int .i64) (.pair (.int .i64) .unit)) x18299), .pcell (.dat (.int .i64) x18300), .pcell (.dat (.int .i64) x18301)], [] => ⟨_, impl_partTable_between_1 x18298 x18299 x18300 x18301, fun (t : Int) => (dI t, []), [], none⟩
  | _, _ => Ans.no

theorem impl_partTable_between_1_sound : Sound Try.prog 76 F_impl_partTable_between_1 := by
  refine fn_sound' (C := impl_partTable_between_1_ctx) (c := bodyOf Try.f76) (cok_of tys_ok (alln) (alln) (by kernel_rfl)) Try.func76 (by kernel_rfl) LL impl_partTable_between_1_an ?_
  intro avs H r H' h
  unfold F_impl_partTable_between_1 at h
  split at h
  · refine Awp.cast ?_ ?_ ?_ (impl_partTable_between_1_e _ _ _ _ h) <;> kernel_rfl
  · simp [Ans.no, Ans.run] at h


/-! loop.example/headtrees/impl.greatest (impl_greatest_v2) -/

def impl_greatest_v2_an : Ann := (.seq (.leaf [0, 1, 2]) (.seq (.leaf [0, 1, 2, 7]) (.seq (.seq (.leaf [1, 2, 7, 8]) (.block (.loop (.seq (.seq (.leaf [1, 2, 7, 8, 12]) (.cond (.leaf [1, 2, 7, 8]) (.leaf [7]))) (.seq (.block (.leaf [1, 2, 7, 8])) (.leaf [1, 2, 7, 8])))))) (.seq (.leaf [6]) (.leaf [6])))))

noncomputable def impl_greatest_v2_ctx : Ctx := ⟨tlook tys, olook [(76, F_impl_partTable_between_1)], ioF, 0, false, []⟩

theorem impl_greatest_v2_n1_l (x18291 : Int) (x18292 : Int) (x18293 : List (Int × Int × Unit)) (x18294 : Int) (x18295 : Int) : Link impl_greatest_v2_ctx LL (Code.seq (cq [0] (bodyOf Try.f46)) (cq [0,1] (bodyOf Try.f46))) (Ann.seq (aq [0] impl_greatest_v2_an) (aq [0,1] impl_greatest_v2_an)) ⟨mkE 21 0 [(0, dI x18291), (1, dI x18292), (2, .fn 76 [] [.pcell (.tab (.pair (.int .i64) (.pair (.int .i64) .unit)) x18293), .pcell (dI x18294), .pcell (dI x18295)])], []⟩ (impl_greatest_v2_n1) (fun (t : Unit) => (Exit.normal, ⟨mkE 21 0 [(0, dI x18291), (1, dI x18292), (2, .fn 76 [] [.pcell (.tab (.pair (.int .i64) (.pair (.int .i64) .unit)) x18293), .pcell (dI x18294), .pcell (dI x18295)]), (7, dI 0)], []⟩)) := by
  refine Link.of fun K h => ?_
  simp only [impl_greatest_v2_n1, wpO_bind, wpO_cond, wpO_map, wpO_some] at h
  exact Awp.of (by kernel_rfl) h

theorem impl_greatest_v2_n2_l (x18291 : Int) (x18292 : Int) (x18293 : List (Int × Int × Unit)) (x18294 : Int) (x18295 : Int) : Link impl_greatest_v2_ctx LL (cq [0,0,1,1] (bodyOf Try.f46)) (aq [0,0,1,1] impl_greatest_v2_an) ⟨mkE 21 0 [(0, dI x18291), (1, dI x18292), (2, .fn 76 [] [.pcell (.tab (.pair (.int .i64) (.pair (.int .i64) .unit)) x18293), .pcell (dI x18294), .pcell (dI x18295)]), (7, dI 0)], []⟩ (impl_greatest_v2_n2) (fun (t : Unit) => (Exit.normal, ⟨mkE 21 0 [(1, dI x18292), (2, .fn 76 [] [.pcell (.tab (.pair (.int .i64) (.pair (.int .i64) .unit)) x18293), .pcell (dI x18294), .pcell (dI x18295)]), (7, dI 0), (8, dI x18291)], []⟩)) := by
  refine Link.of fun K h => ?_
  simp only [impl_greatest_v2_n2, wpO_bind, wpO_cond, wpO_map, wpO_some] at h
  exact Awp.of (by kernel_rfl) h

theorem impl_greatest_v2_n3_l (x18292 : Int) (x18293 : List (Int × Int × Unit)) (x18294 : Int) (x18295 : Int) (x18348 : Int) (x18349 : Int) : Link impl_greatest_v2_ctx LL (cq [0,0,1,0,1,1] (bodyOf Try.f46)) (aq [0,0,1,0,1,1] impl_greatest_v2_an) ⟨mkE 21 0 [(1, dI x18292), (2, .fn 76 [] [.pcell (.tab (.pair (.int .i64) (.pair (.int .i64) .unit)) x18293), .pcell (dI x18294), .pcell (dI x18295)]), (7, dI x18348), (8, dI x18349)], []⟩ (impl_greatest_v2_n3 x18292 x18293 x18294 x18295 x18348 x18349) (Sum.elim (fun (t : Int × Int) => (Exit.normal, ⟨mkE 21 0 [(1, dI x18292), (2, .fn 76 [] [.pcell (.tab (.pair (.int .i64) (.pair (.int .i64) .unit)) x18293), .pcell (dI x18294), .pcell (dI x18295)]), (7, dI t.1), (8, dI t.2)], []⟩)) (fun (t : Int) => ((Exit.exit 0), ⟨mkE 21 0 [(7, dI t)], []⟩))) := by
  refine Link.of fun K h => ?_
  simp only [impl_greatest_v2_n3, wpO_bind, wpO_cond, wpO_map, wpO_some] at h
  exact Awp.of (by kernel_rfl) h

def impl_greatest_v2_n4_l (x18292 : Int) (x18293 : List (Int × Int × Unit)) (x18294 : Int) (x18295 : Int) (x18291 : Int) := (link_loop (mk := fun (s : Int × Int) => ⟨mkE 21 0 [(1, dI x18292), (2, .fn 76 [] [.pcell (.tab (.pair (.int .i64) (.pair (.int .i64) .unit)) x18293), .pcell (dI x18294), .pcell (dI x18295)]), (7, dI s.1), (8, dI s.2)], []⟩) (fin := (fun (t : Int) => ((Exit.exit 0), ⟨mkE 21 0 [(7, dI t)], []⟩))) (by
  rintro t f K h
  · exact h) (fun s => link_map (impl_greatest_v2_n3_l x18292 x18293 x18294 x18295 s.1 s.2) (Sum.elim (fun (t : Int × Int) => Sum.inl (t.1, t.2)) (fun (t : Int) => Sum.inr t)) (by
  rintro (t | t)
  · kernel_rfl
  · kernel_rfl)) (0, x18291))

def impl_greatest_v2_n5_l (x18292 : Int) (x18293 : List (Int × Int × Unit)) (x18294 : Int) (x18295 : Int) (x18291 : Int) := (link_block (fin2 := (fun (t : Int) => (Exit.normal, ⟨mkE 21 0 [(7, dI t)], []⟩))) (id := 0) (impl_greatest_v2_n4_l x18292 x18293 x18294 x18295 x18291) (fun (t : Int) => t) (by
  rintro t K h
  · exact Eq.mp (by kernel_rfl) h))

def impl_greatest_v2_n6_l (x18291 : Int) (x18292 : Int) (x18293 : List (Int × Int × Unit)) (x18294 : Int) (x18295 : Int) := (link_seq (impl_greatest_v2_n2_l x18291 x18292 x18293 x18294 x18295) (fun (t : Unit) => (impl_greatest_v2_n5_l x18292 x18293 x18294 x18295 x18291)))

theorem impl_greatest_v2_n7_l (x18348 : Int) : Link impl_greatest_v2_ctx LL (cq [1,1,1] (bodyOf Try.f46)) (aq [1,1,1] impl_greatest_v2_an) ⟨mkE 21 0 [(7, dI x18348)], []⟩ (impl_greatest_v2_n7 x18348) (fun (t : Int) => (Exit.ret, ⟨mkE 21 0 [(6, dI t)], []⟩)) := by
  refine Link.of fun K h => ?_
  simp only [impl_greatest_v2_n7, wpO_bind, wpO_cond, wpO_map, wpO_some] at h
  exact Awp.of (by kernel_rfl) h

def impl_greatest_v2_n8_l (x18291 : Int) (x18292 : Int) (x18293 : List (Int × Int × Unit)) (x18294 : Int) (x18295 : Int) := (link_seq (impl_greatest_v2_n6_l x18291 x18292 x18293 x18294 x18295) (fun (t : Int) => (impl_greatest_v2_n7_l t)))

def impl_greatest_v2_n9_l (x18291 : Int) (x18292 : Int) (x18293 : List (Int × Int × Unit)) (x18294 : Int) (x18295 : Int) := (link_group (c := (cq [0,1] (bodyOf Try.f46))) (a := (aq [0,1] impl_greatest_v2_an)) [(cq [0] (bodyOf Try.f46))] [(aq [0] impl_greatest_v2_an)] rfl (link_seq (impl_greatest_v2_n1_l x18291 x18292 x18293 x18294 x18295) (fun (t : Unit) => (impl_greatest_v2_n8_l x18291 x18292 x18293 x18294 x18295))))

theorem impl_greatest_v2_e (x18291 : Int) (x18292 : Int) (x18293 : List (Int × Int × Unit)) (x18294 : Int) (x18295 : Int) {r : AV} {H' : Heap} (h : (Ans.mk _ (impl_greatest_v2 x18291 x18292 x18293 x18294 x18295) (fun (t : Int) => (dI t, [])) [] none).run = some (r, H')) : Awp impl_greatest_v2_ctx LL (bodyOf Try.f46) impl_greatest_v2_an ⟨mkE 21 0 [(0, dI x18291), (1, dI x18292), (2, .fn 76 [] [.pcell (.tab (.pair (.int .i64) (.pair (.int .i64) .unit)) x18293), .pcell (dI x18294), .pcell (dI x18295)])], []⟩ (Ret (tlook tys) Try.f46.results.toList r H') :=
  ret_of' (Link.cast (by kernel_rfl) (by kernel_rfl) (impl_greatest_v2_n9_l x18291 x18292 x18293 x18294 x18295)) (by unfold impl_greatest_v2; kernel_rfl) (by
  intro t
  exact ret_mk [dI t] (by kernel_rfl) (by kernel_rfl) (by kernel_rfl) (by kernel_rfl)) h

def F_impl_greatest_v2 : Fun := fun avs H =>
  match avs, H with
  | [.dat (.int .i64) x18291, .dat (.int .i64) x18292, .fn 76 [] [.pcell (.tab (.pair (.int .i64) (.pair (.int .i64) .unit)) x18293), .pcell (.dat (.int .i64) x18294), .pcell (.dat (.int .i64) x18295)]], [] => ⟨_, impl_greatest_v2 x18291 x18292 x18293 x18294 x18295, fun (t : Int) => (dI t, []), [], none⟩
  | _, _ => Ans.no

theorem impl_greatest_v2_sound : Sound Try.prog 46 F_impl_greatest_v2 := by
  refine fn_sound' (C := impl_greatest_v2_ctx) (c := bodyOf Try.f46) (cok_of tys_ok (allc impl_partTable_between_1_sound alln) (allc Try.call76 alln) (by kernel_rfl)) Try.func46 (by kernel_rfl) LL impl_greatest_v2_an ?_
  intro avs H r H' h
  unfold F_impl_greatest_v2 at h
  split at h
  · refine Awp.cast ?_ ?_ ?_ (impl_greatest_v2_e _ _ _ _ _ h) <;> kernel_rfl
  · simp [Ans.no, Ans.run] at h


/-! (*loop.example/headtrees/impl.partTable).between -/

def impl_partTable_between_an : Ann := (.seq (.leaf [3, 4, 5]) (.seq (.leaf [6]) (.leaf [6])))

noncomputable def impl_partTable_between_ctx : Ctx := ⟨tlook tys, olook [(46, F_impl_greatest_v2)], ioF, 0, false, []⟩

theorem impl_partTable_between_n1_l (x18287 : List (Int × Int × Unit)) (x18288 : Int) (x18289 : Int) : Link impl_partTable_between_ctx LL (bodyOf Try.f73) impl_partTable_between_an ⟨mkE 12 0 [(0, .tab (.pair (.int .i64) (.pair (.int .i64) .unit)) x18287), (1, dI x18288), (2, dI x18289)], []⟩ (impl_partTable_between_n1 x18287 x18288 x18289) (fun (t : Int) => (Exit.ret, ⟨mkE 12 0 [(6, dI t)], []⟩)) := by
  refine Link.of fun K h => ?_
  simp only [impl_partTable_between_n1, wpO_bind, wpO_cond, wpO_map, wpO_some] at h
  exact Awp.of (by kernel_rfl) h

theorem impl_partTable_between_e (x18287 : List (Int × Int × Unit)) (x18288 : Int) (x18289 : Int) {r : AV} {H' : Heap} (h : (Ans.mk _ (impl_partTable_between x18287 x18288 x18289) (fun (t : Int) => (dI t, [])) [] none).run = some (r, H')) : Awp impl_partTable_between_ctx LL (bodyOf Try.f73) impl_partTable_between_an ⟨mkE 12 0 [(0, .tab (.pair (.int .i64) (.pair (.int .i64) .unit)) x18287), (1, dI x18288), (2, dI x18289)], []⟩ (Ret (tlook tys) Try.f73.results.toList r H') :=
  ret_of' (impl_partTable_between_n1_l x18287 x18288 x18289) (by unfold impl_partTable_between; kernel_rfl) (by
  intro t
  exact ret_mk [dI t] (by kernel_rfl) (by kernel_rfl) (by kernel_rfl) (by kernel_rfl)) h

def F_impl_partTable_between : Fun := fun avs H =>
  match avs, H with
  | [.tab (.pair (.int .i64) (.pair (.int .i64) .unit)) x18287, .dat (.int .i64) x18288, .dat (.int .i64) x18289], [] => ⟨_, impl_partTable_between x18287 x18288 x18289, fun (t : Int) => (dI t, []), [], none⟩
  | _, _ => Ans.no

theorem impl_partTable_between_sound : Sound Try.prog 73 F_impl_partTable_between := by
  refine fn_sound' (C := impl_partTable_between_ctx) (c := bodyOf Try.f73) (cok_of tys_ok (allc impl_greatest_v2_sound alln) (allc Try.call46 alln) (by kernel_rfl)) Try.func73 (by kernel_rfl) LL impl_partTable_between_an ?_
  intro avs H r H' h
  unfold F_impl_partTable_between at h
  split at h
  · refine Awp.cast ?_ ?_ ?_ (impl_partTable_between_e _ _ _ h) <;> kernel_rfl
  · simp [Ans.no, Ans.run] at h


/-! (*loop.example/headtrees/impl.partTable).joined$1 -/

def impl_partTable_joined_1_an : Ann := (.seq (.leaf [0, 1, 2, 3, 4]) (.seq (.draw [3] [0, 1, 2, 4, 5, 6, 7, 8, 9, 10, 11, 13, 14, 15, 16, 17, 18, 19, 20, 3, 12, 21, 22] [] [6]) (.leaf [6])))

noncomputable def impl_partTable_joined_1_ctx : Ctx := ⟨tlook tys, olook [(73, F_impl_partTable_between)], ioF, 0, false, []⟩

theorem impl_partTable_joined_1_n1_l (x18270 : Int) (x18271 : List (Int × Int × Unit)) (x18272 : Int) (x18273 : List (List Int)) (x18274 : Int) : Link impl_partTable_joined_1_ctx LL (bodyOf Try.f72) impl_partTable_joined_1_an ⟨mkE 29 0 [(0, dI x18270), (1, .pcell (.tab (.pair (.int .i64) (.pair (.int .i64) .unit)) x18271)), (2, .pcell (dI x18272)), (3, .pcell (.dat (.list (.list (.int .i64))) x18273)), (4, .pcell (dI x18274))], []⟩ (impl_partTable_joined_1_n1 x18270 x18271 x18272 x18273 x18274) (fun (t : Int) => (Exit.ret, ⟨mkE 29 0 [(6, dI t)], []⟩)) := by
  refine Link.of fun K h => ?_
  simp only [impl_partTable_joined_1_n1, wpO_bind, wpO_cond, wpO_map, wpO_some] at h
  exact Awp.of (by kernel_rfl) h

theorem impl_partTable_joined_1_e (x18270 : Int) (x18271 : List (Int × Int × Unit)) (x18272 : Int) (x18273 : List (List Int)) (x18274 : Int) {r : AV} {H' : Heap} (h : (Ans.mk _ (impl_partTable_joined_1 x18270 x18271 x18272 x18273 x18274) (fun (t : Int) => (dI t, [])) [] none).run = some (r, H')) : Awp impl_partTable_joined_1_ctx LL (bodyOf Try.f72) impl_partTable_joined_1_an ⟨mkE 29 0 [(0, dI x18270), (1, .pcell (.tab (.pair (.int .i64) (.pair (.int .i64) .unit)) x18271)), (2, .pcell (dI x18272)), (3, .pcell (.dat (.list (.list (.int .i64))) x18273)), (4, .pcell (dI x18274))], []⟩ (Ret (tlook tys) Try.f72.results.toList r H') :=
  ret_of' (impl_partTable_joined_1_n1_l x18270 x18271 x18272 x18273 x18274) (by unfold impl_partTable_joined_1; kernel_rfl) (by
  intro t
  exact ret_mk [dI t] (by kernel_rfl) (by kernel_rfl) (by kernel_rfl) (by kernel_rfl)) h

def F_impl_partTable_joined_1 : Fun := fun avs H =>
  match avs, H with
  | [.dat (.int .i64) x18270, .pcell (.tab (.pair (.int .i64) (.pair (.int .i64) .unit)) x18271), .pcell (.dat (.int .i64) x18272), .pcell (.dat (.list (.list (.int .i64))) x18273), .pcell (.dat (.int .i64) x18274)], [] => ⟨_, impl_partTable_joined_1 x18270 x18271 x18272 x18273 x18274, fun (t : Int) => (dI t, []), [], none⟩
  | _, _ => Ans.no

theorem impl_partTable_joined_1_sound : Sound Try.prog 72 F_impl_partTable_joined_1 := by
  refine fn_sound' (C := impl_partTable_joined_1_ctx) (c := bodyOf Try.f72) (cok_of tys_ok (allc impl_partTable_between_sound alln) (allc Try.call73 alln) (by kernel_rfl)) Try.func72 (by kernel_rfl) LL impl_partTable_joined_1_an ?_
  intro avs H r H' h
  unfold F_impl_partTable_joined_1 at h
  split at h
  · refine Awp.cast ?_ ?_ ?_ (impl_partTable_joined_1_e _ _ _ _ _ h) <;> kernel_rfl
  · simp [Ans.no, Ans.run] at h


/-! loop.example/headtrees/impl.greatest -/

def impl_greatest_an : Ann := (.seq (.leaf [0, 1, 2]) (.seq (.leaf [0, 1, 2, 7]) (.seq (.seq (.leaf [1, 2, 7, 8]) (.block (.loop (.seq (.seq (.leaf [1, 2, 7, 8, 12]) (.cond (.leaf [1, 2, 7, 8]) (.leaf [7]))) (.seq (.block (.leaf [1, 2, 7, 8])) (.leaf [1, 2, 7, 8])))))) (.seq (.leaf [6]) (.leaf [6])))))

noncomputable def impl_greatest_ctx : Ctx := ⟨tlook tys, olook [(72, F_impl_partTable_joined_1)], ioF, 0, false, []⟩

theorem impl_greatest_n1_l (x18262 : Int) (x18263 : Int) (x18264 : List (Int × Int × Unit)) (x18265 : Int) (x18266 : List (List Int)) (x18267 : Int) : Link impl_greatest_ctx LL (Code.seq (cq [0] (bodyOf Try.f46)) (cq [0,1] (bodyOf Try.f46))) (Ann.seq (aq [0] impl_greatest_an) (aq [0,1] impl_greatest_an)) ⟨mkE 21 0 [(0, dI x18262), (1, dI x18263), (2, .fn 72 [] [.pcell (.tab (.pair (.int .i64) (.pair (.int .i64) .unit)) x18264), .pcell (dI x18265), .pcell (.dat (.list (.list (.int .i64))) x18266), .pcell (dI x18267)])], []⟩ (impl_greatest_n1) (fun (t : Unit) => (Exit.normal, ⟨mkE 21 0 [(0, dI x18262), (1, dI x18263), (2, .fn 72 [] [.pcell (.tab (.pair (.int .i64) (.pair (.int .i64) .unit)) x18264), .pcell (dI x18265), .pcell (.dat (.list (.list (.int .i64))) x18266), .pcell (dI x18267)]), (7, dI 0)], []⟩)) := by
  refine Link.of fun K h => ?_
  simp only [impl_greatest_n1, wpO_bind, wpO_cond, wpO_map, wpO_some] at h
  exact Awp.of (by kernel_rfl) h

theorem impl_greatest_n2_l (x18262 : Int) (x18263 : Int) (x18264 : List (Int × Int × Unit)) (x18265 : Int) (x18266 : List (List Int)) (x18267 : Int) : Link impl_greatest_ctx LL (cq [0,0,1,1] (bodyOf Try.f46)) (aq [0,0,1,1] impl_greatest_an) ⟨mkE 21 0 [(0, dI x18262), (1, dI x18263), (2, .fn 72 [] [.pcell (.tab (.pair (.int .i64) (.pair (.int .i64) .unit)) x18264), .pcell (dI x18265), .pcell (.dat (.list (.list (.int .i64))) x18266), .pcell (dI x18267)]), (7, dI 0)], []⟩ (impl_greatest_n2) (fun (t : Unit) => (Exit.normal, ⟨mkE 21 0 [(1, dI x18263), (2, .fn 72 [] [.pcell (.tab (.pair (.int .i64) (.pair (.int .i64) .unit)) x18264), .pcell (dI x18265), .pcell (.dat (.list (.list (.int .i64))) x18266), .pcell (dI x18267)]), (7, dI 0), (8, dI x18262)], []⟩)) := by
  refine Link.of fun K h => ?_
  simp only [impl_greatest_n2, wpO_bind, wpO_cond, wpO_map, wpO_some] at h
  exact Awp.of (by kernel_rfl) h

theorem impl_greatest_n3_l (x18263 : Int) (x18264 : List (Int × Int × Unit)) (x18265 : Int) (x18266 : List (List Int)) (x18267 : Int) (x18385 : Int) (x18386 : Int) : Link impl_greatest_ctx LL (cq [0,0,1,0,1,1] (bodyOf Try.f46)) (aq [0,0,1,0,1,1] impl_greatest_an) ⟨mkE 21 0 [(1, dI x18263), (2, .fn 72 [] [.pcell (.tab (.pair (.int .i64) (.pair (.int .i64) .unit)) x18264), .pcell (dI x18265), .pcell (.dat (.list (.list (.int .i64))) x18266), .pcell (dI x18267)]), (7, dI x18385), (8, dI x18386)], []⟩ (impl_greatest_n3 x18263 x18264 x18265 x18266 x18267 x18385 x18386) (Sum.elim (fun (t : Int × Int) => (Exit.normal, ⟨mkE 21 0 [(1, dI x18263), (2, .fn 72 [] [.pcell (.tab (.pair (.int .i64) (.pair (.int .i64) .unit)) x18264), .pcell (dI x18265), .pcell (.dat (.list (.list (.int .i64))) x18266), .pcell (dI x18267)]), (7, dI t.1), (8, dI t.2)], []⟩)) (fun (t : Int) => ((Exit.exit 0), ⟨mkE 21 0 [(7, dI t)], []⟩))) := by
  refine Link.of fun K h => ?_
  simp only [impl_greatest_n3, wpO_bind, wpO_cond, wpO_map, wpO_some] at h
  exact Awp.of (by kernel_rfl) h

def impl_greatest_n4_l (x18263 : Int) (x18264 : List (Int × Int × Unit)) (x18265 : Int) (x18266 : List (List Int)) (x18267 : Int) (x18262 : Int) := (link_loop (mk := fun (s : Int × Int) => ⟨mkE 21 0 [(1, dI x18263), (2, .fn 72 [] [.pcell (.tab (.pair (.int .i64) (.pair (.int .i64) .unit)) x18264), .pcell (dI x18265), .pcell (.dat (.list (.list (.int .i64))) x18266), .pcell (dI x18267)]), (7, dI s.1), (8, dI s.2)], []⟩) (fin := (fun (t : Int) => ((Exit.exit 0), ⟨mkE 21 0 [(7, dI t)], []⟩))) (by
  rintro t f K h
  · exact h) (fun s => link_map (impl_greatest_n3_l x18263 x18264 x18265 x18266 x18267 s.1 s.2) (Sum.elim (fun (t : Int × Int) => Sum.inl (t.1, t.2)) (fun (t : Int) => Sum.inr t)) (by
  rintro (t | t)
  · kernel_rfl
  · kernel_rfl)) (0, x18262))

def impl_greatest_n5_l (x18263 : Int) (x18264 : List (Int × Int × Unit)) (x18265 : Int) (x18266 : List (List Int)) (x18267 : Int) (x18262 : Int) := (link_block (fin2 := (fun (t : Int) => (Exit.normal, ⟨mkE 21 0 [(7, dI t)], []⟩))) (id := 0) (impl_greatest_n4_l x18263 x18264 x18265 x18266 x18267 x18262) (fun (t : Int) => t) (by
  rintro t K h
  · exact Eq.mp (by kernel_rfl) h))

def impl_greatest_n6_l (x18262 : Int) (x18263 : Int) (x18264 : List (Int × Int × Unit)) (x18265 : Int) (x18266 : List (List Int)) (x18267 : Int) := (link_seq (impl_greatest_n2_l x18262 x18263 x18264 x18265 x18266 x18267) (fun (t : Unit) => (impl_greatest_n5_l x18263 x18264 x18265 x18266 x18267 x18262)))

theorem impl_greatest_n7_l (x18385 : Int) : Link impl_greatest_ctx LL (cq [1,1,1] (bodyOf Try.f46)) (aq [1,1,1] impl_greatest_an) ⟨mkE 21 0 [(7, dI x18385)], []⟩ (impl_greatest_n7 x18385) (fun (t : Int) => (Exit.ret, ⟨mkE 21 0 [(6, dI t)], []⟩)) := by
  refine Link.of fun K h => ?_
  simp only [impl_greatest_n7, wpO_bind, wpO_cond, wpO_map, wpO_some] at h
  exact Awp.of (by kernel_rfl) h

def impl_greatest_n8_l (x18262 : Int) (x18263 : Int) (x18264 : List (Int × Int × Unit)) (x18265 : Int) (x18266 : List (List Int)) (x18267 : Int) := (link_seq (impl_greatest_n6_l x18262 x18263 x18264 x18265 x18266 x18267) (fun (t : Int) => (impl_greatest_n7_l t)))

def impl_greatest_n9_l (x18262 : Int) (x18263 : Int) (x18264 : List (Int × Int × Unit)) (x18265 : Int) (x18266 : List (List Int)) (x18267 : Int) := (link_group (c := (cq [0,1] (bodyOf Try.f46))) (a := (aq [0,1] impl_greatest_an)) [(cq [0] (bodyOf Try.f46))] [(aq [0] impl_greatest_an)] rfl (link_seq (impl_greatest_n1_l x18262 x18263 x18264 x18265 x18266 x18267) (fun (t : Unit) => (impl_greatest_n8_l x18262 x18263 x18264 x18265 x18266 x18267))))

theorem impl_greatest_e (x18262 : Int) (x18263 : Int) (x18264 : List (Int × Int × Unit)) (x18265 : Int) (x18266 : List (List Int)) (x18267 : Int) {r : AV} {H' : Heap} (h : (Ans.mk _ (impl_greatest x18262 x18263 x18264 x18265 x18266 x18267) (fun (t : Int) => (dI t, [])) [] none).run = some (r, H')) : Awp impl_greatest_ctx LL (bodyOf Try.f46) impl_greatest_an ⟨mkE 21 0 [(0, dI x18262), (1, dI x18263), (2, .fn 72 [] [.pcell (.tab (.pair (.int .i64) (.pair (.int .i64) .unit)) x18264), .pcell (dI x18265), .pcell (.dat (.list (.list (.int .i64))) x18266), .pcell (dI x18267)])], []⟩ (Ret (tlook tys) Try.f46.results.toList r H') :=
  ret_of' (Link.cast (by kernel_rfl) (by kernel_rfl) (impl_greatest_n9_l x18262 x18263 x18264 x18265 x18266 x18267)) (by unfold impl_greatest; kernel_rfl) (by
  intro t
  exact ret_mk [dI t] (by kernel_rfl) (by kernel_rfl) (by kernel_rfl) (by kernel_rfl)) h

def F_impl_greatest : Fun := fun avs H =>
  match avs, H with
  | [.dat (.int .i64) x18262, .dat (.int .i64) x18263, .fn 72 [] [.pcell (.tab (.pair (.int .i64) (.pair (.int .i64) .unit)) x18264), .pcell (.dat (.int .i64) x18265), .pcell (.dat (.list (.list (.int .i64))) x18266), .pcell (.dat (.int .i64) x18267)]], [] => ⟨_, impl_greatest x18262 x18263 x18264 x18265 x18266 x18267, fun (t : Int) => (dI t, []), [], none⟩
  | _, _ => Ans.no

theorem impl_greatest_sound : Sound Try.prog 46 F_impl_greatest := by
  refine fn_sound' (C := impl_greatest_ctx) (c := bodyOf Try.f46) (cok_of tys_ok (allc impl_partTable_joined_1_sound alln) (allc Try.call72 alln) (by kernel_rfl)) Try.func46 (by kernel_rfl) LL impl_greatest_an ?_
  intro avs H r H' h
  unfold F_impl_greatest at h
  split at h
  · refine Awp.cast ?_ ?_ ?_ (impl_greatest_e _ _ _ _ _ _ h) <;> kernel_rfl
  · simp [Ans.no, Ans.run] at h


/-! (*loop.example/headtrees/impl.partTable).joined$2 -/

def impl_partTable_joined_2_an : Ann := (.seq (.leaf [0, 1, 2, 3, 4]) (.seq (.draw [20] [0, 1, 2, 3, 4, 5, 6, 7, 8, 9, 10, 11, 12, 13, 14, 15, 16, 17, 18, 19, 20, 21, 22] [] [6]) (.leaf [6])))

noncomputable def impl_partTable_joined_2_ctx : Ctx := ⟨tlook tys, olook [(73, F_impl_partTable_between)], ioF, 0, false, []⟩

theorem impl_partTable_joined_2_n1_l (x18404 : Int) (x18405 : List (Int × Int × Unit)) (x18406 : Int) (x18407 : List (List Int)) (x18408 : Int) : Link impl_partTable_joined_2_ctx LL (bodyOf Try.f74) impl_partTable_joined_2_an ⟨mkE 29 0 [(0, dI x18404), (1, .pcell (.tab (.pair (.int .i64) (.pair (.int .i64) .unit)) x18405)), (2, .pcell (dI x18406)), (3, .pcell (.dat (.list (.list (.int .i64))) x18407)), (4, .pcell (dI x18408))], []⟩ (impl_partTable_joined_2_n1 x18404 x18405 x18406 x18407 x18408) (fun (t : Int) => (Exit.ret, ⟨mkE 29 0 [(6, dI t)], []⟩)) := by
  refine Link.of fun K h => ?_
  simp only [impl_partTable_joined_2_n1, wpO_bind, wpO_cond, wpO_map, wpO_some] at h
  exact Awp.of (by kernel_rfl) h

theorem impl_partTable_joined_2_e (x18404 : Int) (x18405 : List (Int × Int × Unit)) (x18406 : Int) (x18407 : List (List Int)) (x18408 : Int) {r : AV} {H' : Heap} (h : (Ans.mk _ (impl_partTable_joined_2 x18404 x18405 x18406 x18407 x18408) (fun (t : Int) => (dI t, [])) [] none).run = some (r, H')) : Awp impl_partTable_joined_2_ctx LL (bodyOf Try.f74) impl_partTable_joined_2_an ⟨mkE 29 0 [(0, dI x18404), (1, .pcell (.tab (.pair (.int .i64) (.pair (.int .i64) .unit)) x18405)), (2, .pcell (dI x18406)), (3, .pcell (.dat (.list (.list (.int .i64))) x18407)), (4, .pcell (dI x18408))], []⟩ (Ret (tlook tys) Try.f74.results.toList r H') :=
  ret_of' (impl_partTable_joined_2_n1_l x18404 x18405 x18406 x18407 x18408) (by unfold impl_partTable_joined_2; kernel_rfl) (by
  intro t
  exact ret_mk [dI t] (by kernel_rfl) (by kernel_rfl) (by kernel_rfl) (by kernel_rfl)) h

def F_impl_partTable_joined_2 : Fun := fun avs H =>
  match avs, H with
  | [.dat (.int .i64) x18404, .pcell (.tab (.pair (.int .i64) (.pair (.int .i64) .unit)) x18405), .pcell (.dat (.int .i64) x18406), .pcell (.dat (.list (.list (.int .i64))) x18407), .pcell (.dat (.int .i64) x18408)], [] => ⟨_, impl_partTable_joined_2 x18404 x18405 x18406 x18407 x18408, fun (t : Int) => (dI t, []), [], none⟩
  | _, _ => Ans.no

theorem impl_partTable_joined_2_sound : Sound Try.prog 74 F_impl_partTable_joined_2 := by
  refine fn_sound' (C := impl_partTable_joined_2_ctx) (c := bodyOf Try.f74) (cok_of tys_ok (allc impl_partTable_between_sound alln) (allc Try.call73 alln) (by kernel_rfl)) Try.func74 (by kernel_rfl) LL impl_partTable_joined_2_an ?_
  intro avs H r H' h
  unfold F_impl_partTable_joined_2 at h
  split at h
  · refine Awp.cast ?_ ?_ ?_ (impl_partTable_joined_2_e _ _ _ _ _ h) <;> kernel_rfl
  · simp [Ans.no, Ans.run] at h


/-! loop.example/headtrees/impl.greatest (impl_greatest_v3) -/

def impl_greatest_v3_an : Ann := (.seq (.leaf [0, 1, 2]) (.seq (.leaf [0, 1, 2, 7]) (.seq (.seq (.leaf [1, 2, 7, 8]) (.block (.loop (.seq (.seq (.leaf [1, 2, 7, 8, 12]) (.cond (.leaf [1, 2, 7, 8]) (.leaf [7]))) (.seq (.block (.leaf [1, 2, 7, 8])) (.leaf [1, 2, 7, 8])))))) (.seq (.leaf [6]) (.leaf [6])))))

noncomputable def impl_greatest_v3_ctx : Ctx := ⟨tlook tys, olook [(74, F_impl_partTable_joined_2)], ioF, 0, false, []⟩

theorem impl_greatest_v3_n1_l (x18396 : Int) (x18397 : Int) (x18398 : List (Int × Int × Unit)) (x18399 : Int) (x18400 : List (List Int)) (x18401 : Int) : Link impl_greatest_v3_ctx LL (Code.seq (cq [0] (bodyOf Try.f46)) (cq [0,1] (bodyOf Try.f46))) (Ann.seq (aq [0] impl_greatest_v3_an) (aq [0,1] impl_greatest_v3_an)) ⟨mkE 21 0 [(0, dI x18396), (1, dI x18397), (2, .fn 74 [] [.pcell (.tab (.pair (.int .i64) (.pair (.int .i64) .unit)) x18398), .pcell (dI x18399), .pcell (.dat (.list (.list (.int .i64))) x18400), .pcell (dI x18401)])], []⟩ (impl_greatest_v3_n1) (fun (t : Unit) => (Exit.normal, ⟨mkE 21 0 [(0, dI x18396), (1, dI x18397), (2, .fn 74 [] [.pcell (.tab (.pair (.int .i64) (.pair (.int .i64) .unit)) x18398), .pcell (dI x18399), .pcell (.dat (.list (.list (.int .i64))) x18400), .pcell (dI x18401)]), (7, dI 0)], []⟩)) := by
  refine Link.of fun K h => ?_
  simp only [impl_greatest_v3_n1, wpO_bind, wpO_cond, wpO_map, wpO_some] at h
  exact Awp.of (by kernel_rfl) h

theorem impl_greatest_v3_n2_l (x18396 : Int) (x18397 : Int) (x18398 : List (Int × Int × Unit)) (x18399 : Int) (x18400 : List (List Int)) (x18401 : Int) : Link impl_greatest_v3_ctx LL (cq [0,0,1,1] (bodyOf Try.f46)) (aq [0,0,1,1] impl_greatest_v3_an) ⟨mkE 21 0 [(0, dI x18396), (1, dI x18397), (2, .fn 74 [] [.pcell (.tab (.pair (.int .i64) (.pair (.int .i64) .unit)) x18398), .pcell (dI x18399), .pcell (.dat (.list (.list (.int .i64))) x18400), .pcell (dI x18401)]), (7, dI 0)], []⟩ (impl_greatest_v3_n2) (fun (t : Unit) => (Exit.normal, ⟨mkE 21 0 [(1, dI x18397), (2, .fn 74 [] [.pcell (.tab (.pair (.int .i64) (.pair (.int .i64) .unit)) x18398), .pcell (dI x18399), .pcell (.dat (.list (.list (.int .i64))) x18400), .pcell (dI x18401)]), (7, dI 0), (8, dI x18396)], []⟩)) := by
  refine Link.of fun K h => ?_
  simp only [impl_greatest_v3_n2, wpO_bind, wpO_cond, wpO_map, wpO_some] at h
  exact Awp.of (by kernel_rfl) h

theorem impl_greatest_v3_n3_l (x18397 : Int) (x18398 : List (Int × Int × Unit)) (x18399 : Int) (x18400 : List (List Int)) (x18401 : Int) (x18445 : Int) (x18446 : Int) : Link impl_greatest_v3_ctx LL (cq [0,0,1,0,1,1] (bodyOf Try.f46)) (aq [0,0,1,0,1,1] impl_greatest_v3_an) ⟨mkE 21 0 [(1, dI x18397), (2, .fn 74 [] [.pcell (.tab (.pair (.int .i64) (.pair (.int .i64) .unit)) x18398), .pcell (dI x18399), .pcell (.dat (.list (.list (.int .i64))) x18400), .pcell (dI x18401)]), (7, dI x18445), (8, dI x18446)], []⟩ (impl_greatest_v3_n3 x18397 x18398 x18399 x18400 x18401 x18445 x18446) (Sum.elim (fun (t : Int × Int) => (Exit.normal, ⟨mkE 21 0 [(1, dI x18397), (2, .fn 74 [] [.pcell (.tab (.pair (.int .i64) (.pair (.int .i64) .unit)) x18398), .pcell (dI x18399), .pcell (.dat (.list (.list (.int .i64))) x18400), .pcell (dI x18401)]), (7, dI t.1), (8, dI t.2)], []⟩)) (fun (t : Int) => ((Exit.exit 0), ⟨mkE 21 0 [(7, dI t)], []⟩))) := by
  refine Link.of fun K h => ?_
  simp only [impl_greatest_v3_n3, wpO_bind, wpO_cond, wpO_map, wpO_some] at h
  exact Awp.of (by kernel_rfl) h

def impl_greatest_v3_n4_l (x18397 : Int) (x18398 : List (Int × Int × Unit)) (x18399 : Int) (x18400 : List (List Int)) (x18401 : Int) (x18396 : Int) := (link_loop (mk := fun (s : Int × Int) => ⟨mkE 21 0 [(1, dI x18397), (2, .fn 74 [] [.pcell (.tab (.pair (.int .i64) (.pair (.int .i64) .unit)) x18398), .pcell (dI x18399), .pcell (.dat (.list (.list (.int .i64))) x18400), .pcell (dI x18401)]), (7, dI s.1), (8, dI s.2)], []⟩) (fin := (fun (t : Int) => ((Exit.exit 0), ⟨mkE 21 0 [(7, dI t)], []⟩))) (by
  rintro t f K h
  · exact h) (fun s => link_map (impl_greatest_v3_n3_l x18397 x18398 x18399 x18400 x18401 s.1 s.2) (Sum.elim (fun (t : Int × Int) => Sum.inl (t.1, t.2)) (fun (t : Int) => Sum.inr t)) (by
  rintro (t | t)
  · kernel_rfl
  · kernel_rfl)) (0, x18396))

def impl_greatest_v3_n5_l (x18397 : Int) (x18398 : List (Int × Int × Unit)) (x18399 : Int) (x18400 : List (List Int)) (x18401 : Int) (x18396 : Int) := (link_block (fin2 := (fun (t : Int) => (Exit.normal, ⟨mkE 21 0 [(7, dI t)], []⟩))) (id := 0) (impl_greatest_v3_n4_l x18397 x18398 x18399 x18400 x18401 x18396) (fun (t : Int) => t) (by
  rintro t K h
  · exact Eq.mp (by kernel_rfl) h))

def impl_greatest_v3_n6_l (x18396 : Int) (x18397 : Int) (x18398 : List (Int × Int × Unit)) (x18399 : Int) (x18400 : List (List Int)) (x18401 : Int) := (link_seq (impl_greatest_v3_n2_l x18396 x18397 x18398 x18399 x18400 x18401) (fun (t : Unit) => (impl_greatest_v3_n5_l x18397 x18398 x18399 x18400 x18401 x18396)))

theorem impl_greatest_v3_n7_l (x18445 : Int) : Link impl_greatest_v3_ctx LL (cq [1,1,1] (bodyOf Try.f46)) (aq [1,1,1] impl_greatest_v3_an) ⟨mkE 21 0 [(7, dI x18445)], []⟩ (impl_greatest_v3_n7 x18445) (fun (t : Int) => (Exit.ret, ⟨mkE 21 0 [(6, dI t)], []⟩)) := by
  refine Link.of fun K h => ?_
  simp only [impl_greatest_v3_n7, wpO_bind, wpO_cond, wpO_map, wpO_some] at h
  exact Awp.of (by kernel_rfl) h

def impl_greatest_v3_n8_l (x18396 : Int) (x18397 : Int) (x18398 : List (Int × Int × Unit)) (x18399 : Int) (x18400 : List (List Int)) (x18401 : Int) := (link_seq (impl_greatest_v3_n6_l x18396 x18397 x18398 x18399 x18400 x18401) (fun (t : Int) => (impl_greatest_v3_n7_l t)))

def impl_greatest_v3_n9_l (x18396 : Int) (x18397 : Int) (x18398 : List (Int × Int × Unit)) (x18399 : Int) (x18400 : List (List Int)) (x18401 : Int) := (link_group (c := (cq [0,1] (bodyOf Try.f46))) (a := (aq [0,1] impl_greatest_v3_an)) [(cq [0] (bodyOf Try.f46))] [(aq [0] impl_greatest_v3_an)] rfl (link_seq (impl_greatest_v3_n1_l x18396 x18397 x18398 x18399 x18400 x18401) (fun (t : Unit) => (impl_greatest_v3_n8_l x18396 x18397 x18398 x18399 x18400 x18401))))

theorem impl_greatest_v3_e (x18396 : Int) (x18397 : Int) (x18398 : List (Int × Int × Unit)) (x18399 : Int) (x18400 : List (List Int)) (x18401 : Int) {r : AV} {H' : Heap} (h : (Ans.mk _ (impl_greatest_v3 x18396 x18397 x18398 x18399 x18400 x18401) (fun (t : Int) => (dI t, [])) [] none).run = some (r, H')) : Awp impl_greatest_v3_ctx LL (bodyOf Try.f46) impl_greatest_v3_an ⟨mkE 21 0 [(0, dI x18396), (1, dI x18397), (2, .fn 74 [] [.pcell (.tab (.pair (.int .i64) (.pair (.int .i64) .unit)) x18398), .pcell (dI x18399), .pcell (.dat (.list (.list (.int .i64))) x18400), .pcell (dI x18401)])], []⟩ (Ret (tlook tys) Try.f46.results.toList r H') :=
  ret_of' (Link.cast (by kernel_rfl) (by kernel_rfl) (impl_greatest_v3_n9_l x18396 x18397 x18398 x18399 x18400 x18401)) (by unfold impl_greatest_v3; kernel_rfl) (by
  intro t
  exact ret_mk [dI t] (by kernel_rfl) (by kernel_rfl) (by kernel_rfl) (by kernel_rfl)) h

def F_impl_greatest_v3 : Fun := fun avs H =>
  match avs, H with
  | [.dat (.int .i64) x18396, .dat (.int .i64) x18397, .fn 74 [] [.pcell (.tab (.pair (.int .i64) (.pair (.int .i64) .unit)) x18398), .pcell (.dat (.int .i64) x18399), .pcell (.dat (.list (.list (.int .i64))) x18400), .pcell (.dat (.int .i64) x18401)]], [] => ⟨_, impl_greatest_v3 x18396 x18397 x18398 x18399 x18400 x18401, fun (t : Int) => (dI t, []), [], none⟩
  | _, _ => Ans.no

theorem impl_greatest_v3_sound : Sound Try.prog 46 F_impl_greatest_v3 := by
  refine fn_sound' (C := impl_greatest_v3_ctx) (c := bodyOf Try.f46) (cok_of tys_ok (allc impl_partTable_joined_2_sound alln) (allc Try.call74 alln) (by kernel_rfl)) Try.func46 (by kernel_rfl) LL impl_greatest_v3_an ?_
  intro avs H r H' h
  unfold F_impl_greatest_v3 at h
  split at h
  · refine Awp.cast ?_ ?_ ?_ (impl_greatest_v3_e _ _ _ _ _ _ h) <;> kernel_rfl
  · simp [Ans.no, Ans.run] at h


/-! (*loop.example/headtrees/impl.partTable).joined -/

def impl_partTable_joined_an : Ann := (.seq (.leaf [4, 5, 6, 7, 8]) (.seq (.draw [4, 9] [0, 1, 2, 3, 5, 6, 7, 8, 4, 9, 10, 11] [] [8]) (.leaf [8])))

noncomputable def impl_partTable_joined_ctx : Ctx := ⟨tlook tys, olook [(46, (pickF 2 72 F_impl_greatest F_impl_greatest_v3))], ioF, 0, false, []⟩

theorem impl_partTable_joined_n1_l (x18256 : List (Int × Int × Unit)) (x18257 : List (List Int)) (x18258 : Int) (x18259 : Int) : Link impl_partTable_joined_ctx LL (bodyOf Try.f64) impl_partTable_joined_an ⟨mkE 20 0 [(0, .tab (.pair (.int .i64) (.pair (.int .i64) .unit)) x18256), (1, .dat (.list (.list (.int .i64))) x18257), (2, dI x18258), (3, dI x18259)], []⟩ (impl_partTable_joined_n1 x18256 x18257 x18258 x18259) (fun (t : Int × Int) => (Exit.ret, ⟨mkE 20 0 [(8, .ptr 0 0)], [some (.box [dI t.1, dI t.2])]⟩)) := by
  refine Link.of fun K h => ?_
  simp only [impl_partTable_joined_n1, wpO_bind, wpO_cond, wpO_map, wpO_some] at h
  exact Awp.of (by kernel_rfl) h

theorem impl_partTable_joined_e (x18256 : List (Int × Int × Unit)) (x18257 : List (List Int)) (x18258 : Int) (x18259 : Int) {r : AV} {H' : Heap} (h : (Ans.mk _ (impl_partTable_joined x18256 x18257 x18258 x18259) (fun (t : Int × Int) => (.agg [dI t.1, dI t.2], [some (.box [dI t.1, dI t.2])])) [] none).run = some (r, H')) : Awp impl_partTable_joined_ctx LL (bodyOf Try.f64) impl_partTable_joined_an ⟨mkE 20 0 [(0, .tab (.pair (.int .i64) (.pair (.int .i64) .unit)) x18256), (1, .dat (.list (.list (.int .i64))) x18257), (2, dI x18258), (3, dI x18259)], []⟩ (Ret (tlook tys) Try.f64.results.toList r H') :=
  ret_of' (impl_partTable_joined_n1_l x18256 x18257 x18258 x18259) (by unfold impl_partTable_joined; kernel_rfl) (by
  intro t
  exact ret_mk [.agg [dI t.1, dI t.2]] (by kernel_rfl) (by kernel_rfl) (by kernel_rfl) (by kernel_rfl)) h

def F_impl_partTable_joined : Fun := fun avs H =>
  match avs, H with
  | [.tab (.pair (.int .i64) (.pair (.int .i64) .unit)) x18256, .dat (.list (.list (.int .i64))) x18257, .dat (.int .i64) x18258, .dat (.int .i64) x18259], [] => ⟨_, impl_partTable_joined x18256 x18257 x18258 x18259, fun (t : Int × Int) => (.agg [dI t.1, dI t.2], [some (.box [dI t.1, dI t.2])]), [], none⟩
  | _, _ => Ans.no

theorem impl_partTable_joined_sound : Sound Try.prog 64 F_impl_partTable_joined := by
  refine fn_sound' (C := impl_partTable_joined_ctx) (c := bodyOf Try.f64) (cok_of tys_ok (allc (Sound.pick impl_greatest_sound impl_greatest_v3_sound 2 72) alln) (allc Try.call46 alln) (by kernel_rfl)) Try.func64 (by kernel_rfl) LL impl_partTable_joined_an ?_
  intro avs H r H' h
  unfold F_impl_partTable_joined at h
  split at h
  · refine Awp.cast ?_ ?_ ?_ (impl_partTable_joined_e _ _ _ _ h) <;> kernel_rfl
  · simp [Ans.no, Ans.run] at h


/-! loop.example/headtrees/impl.bestParts -/

def impl_bestParts_an : Ann := (.seq (.leaf [0]) (.seq (.leaf [0, 3]) (.seq (.seq (.leaf [0, 3, 4]) (.block (.loop (.seq (.seq (.leaf [0, 3, 4, 9]) (.cond (.leaf [0, 3, 4]) (.leaf [3]))) (.seq (.block (.seq (.leaf [0, 3, 4, 5]) (.block (.loop (.seq (.seq (.leaf [0, 3, 4, 5, 15]) (.cond (.leaf [0, 3, 4, 5]) (.leaf [0, 3, 4]))) (.seq (.block (.draw [5, 100008] [0, 1, 2, 3, 4, 6, 5, 7, 8] [] [0, 3, 4, 5])) (.leaf [0, 3, 4, 5]))))))) (.leaf [0, 3, 4])))))) (.seq (.leaf [2]) (.leaf [2])))))

noncomputable def impl_bestParts_ctx : Ctx := ⟨tlook tys, olook [(64, F_impl_partTable_joined)], ioF, 0, false, []⟩

theorem impl_bestParts_n1_l (x18247 : List (List Int)) : Link impl_bestParts_ctx LL (Code.seq (cq [0] (bodyOf Try.f45)) (cq [0,1] (bodyOf Try.f45))) (Ann.seq (aq [0] impl_bestParts_an) (aq [0,1] impl_bestParts_an)) ⟨mkE 26 0 [(0, .dat (.list (.list (.int .i64))) x18247)], []⟩ (impl_bestParts_n1) (fun (t : Unit) => (Exit.normal, ⟨mkE 26 0 [(0, .dat (.list (.list (.int .i64))) x18247), (3, .ptr 0 0)], [some (.seq (.pair (.int .i64) (.pair (.int .i64) .unit)) (List.replicate 36 ((0 : Int), ((0 : Int), ()))))]⟩)) := by
  refine Link.of fun K h => ?_
  simp only [impl_bestParts_n1, wpO_bind, wpO_cond, wpO_map, wpO_some] at h
  exact Awp.of (by kernel_rfl) h

theorem impl_bestParts_n2_l (x18247 : List (List Int)) : Link impl_bestParts_ctx LL (cq [0,0,1,1] (bodyOf Try.f45)) (aq [0,0,1,1] impl_bestParts_an) ⟨mkE 26 0 [(0, .dat (.list (.list (.int .i64))) x18247), (3, .ptr 0 0)], [some (.seq (.pair (.int .i64) (.pair (.int .i64) .unit)) (List.replicate 36 ((0 : Int), ((0 : Int), ()))))]⟩ (impl_bestParts_n2) (fun (t : Unit) => (Exit.normal, ⟨mkE 26 0 [(0, .dat (.list (.list (.int .i64))) x18247), (3, .ptr 0 0), (4, dI 2)], [some (.seq (.pair (.int .i64) (.pair (.int .i64) .unit)) (List.replicate 36 ((0 : Int), ((0 : Int), ()))))]⟩)) := by
  refine Link.of fun K h => ?_
  simp only [impl_bestParts_n2, wpO_bind, wpO_cond, wpO_map, wpO_some] at h
  exact Awp.of (by kernel_rfl) h

theorem impl_bestParts_n3_l (x18247 : List (List Int)) (x18548 : Int) (x18549 : List (Int × Int × Unit)) : Link impl_bestParts_ctx LL (cq [0,0,0,1,0,1,1] (bodyOf Try.f45)) (aq [0,0,0,1,0,1,1] impl_bestParts_an) ⟨mkE 26 0 [(0, .dat (.list (.list (.int .i64))) x18247), (3, .ptr 0 0), (4, dI x18548)], [some (.seq (.pair (.int .i64) (.pair (.int .i64) .unit)) x18549)]⟩ (impl_bestParts_n3 x18247 x18548 x18549) (Sum.elim (fun (t : Unit) => (Exit.normal, ⟨mkE 26 0 [(0, .dat (.list (.list (.int .i64))) x18247), (3, .ptr 0 0), (4, dI x18548)], [some (.seq (.pair (.int .i64) (.pair (.int .i64) .unit)) x18549)]⟩)) (fun (t : (List (Int × Int × Unit))) => ((Exit.exit 0), ⟨mkE 26 0 [(3, .ptr 0 0)], [some (.seq (.pair (.int .i64) (.pair (.int .i64) .unit)) t)]⟩))) := by
  refine Link.of fun K h => ?_
  simp only [impl_bestParts_n3, wpO_bind, wpO_cond, wpO_map, wpO_some] at h
  exact Awp.of (by kernel_rfl) h

theorem impl_bestParts_n4_l (x18247 : List (List Int)) (x18548 : Int) (x18549 : List (Int × Int × Unit)) : Link impl_bestParts_ctx LL (cq [0,0,0,1,0,0,1,0,1,1] (bodyOf Try.f45)) (aq [0,0,0,1,0,0,1,0,1,1] impl_bestParts_an) ⟨mkE 26 0 [(0, .dat (.list (.list (.int .i64))) x18247), (3, .ptr 0 0), (4, dI x18548)], [some (.seq (.pair (.int .i64) (.pair (.int .i64) .unit)) x18549)]⟩ (impl_bestParts_n4 x18548) (fun (t : Int) => (Exit.normal, ⟨mkE 26 0 [(0, .dat (.list (.list (.int .i64))) x18247), (3, .ptr 0 0), (4, dI x18548), (5, dI t)], [some (.seq (.pair (.int .i64) (.pair (.int .i64) .unit)) x18549)]⟩)) := by
  refine Link.of fun K h => ?_
  simp only [impl_bestParts_n4, wpO_bind, wpO_cond, wpO_map, wpO_some] at h
  exact Awp.of (by kernel_rfl) h

theorem impl_bestParts_n5_l (x18247 : List (List Int)) (x18548 : Int) (x18591 : Int) (x18592 : List (Int × Int × Unit)) : Link impl_bestParts_ctx LL (cq [0,0,1,0,0,1,0,0,1,0,1,1] (bodyOf Try.f45)) (aq [0,0,1,0,0,1,0,0,1,0,1,1] impl_bestParts_an) ⟨mkE 26 0 [(0, .dat (.list (.list (.int .i64))) x18247), (3, .ptr 0 0), (4, dI x18548), (5, dI x18591)], [some (.seq (.pair (.int .i64) (.pair (.int .i64) .unit)) x18592)]⟩ (impl_bestParts_n5 x18247 x18548 x18591 x18592) (Sum.elim (fun (t : Int × (List (Int × Int × Unit))) => (Exit.normal, ⟨mkE 26 0 [(0, .dat (.list (.list (.int .i64))) x18247), (3, .ptr 0 0), (4, dI x18548), (5, dI t.1)], [some (.seq (.pair (.int .i64) (.pair (.int .i64) .unit)) t.2)]⟩)) (fun (t : (List (Int × Int × Unit))) => ((Exit.exit 2), ⟨mkE 26 0 [(0, .dat (.list (.list (.int .i64))) x18247), (3, .ptr 0 0), (4, dI x18548)], [some (.seq (.pair (.int .i64) (.pair (.int .i64) .unit)) t)]⟩))) := by
  refine Link.of fun K h => ?_
  simp only [impl_bestParts_n5, wpO_bind, wpO_cond, wpO_map, wpO_some] at h
  exact Awp.of (by kernel_rfl) h

def impl_bestParts_n6_l (x18247 : List (List Int)) (x18548 : Int) (x18552 : Int) (x18549 : List (Int × Int × Unit)) := (link_loop (mk := fun (s : Int × (List (Int × Int × Unit))) => ⟨mkE 26 0 [(0, .dat (.list (.list (.int .i64))) x18247), (3, .ptr 0 0), (4, dI x18548), (5, dI s.1)], [some (.seq (.pair (.int .i64) (.pair (.int .i64) .unit)) s.2)]⟩) (fin := (fun (t : (List (Int × Int × Unit))) => ((Exit.exit 2), ⟨mkE 26 0 [(0, .dat (.list (.list (.int .i64))) x18247), (3, .ptr 0 0), (4, dI x18548)], [some (.seq (.pair (.int .i64) (.pair (.int .i64) .unit)) t)]⟩))) (by
  rintro t f K h
  · exact h) (fun s => link_map (impl_bestParts_n5_l x18247 x18548 s.1 s.2) (Sum.elim (fun (t : Int × (List (Int × Int × Unit))) => Sum.inl (t.1, t.2)) (fun (t : (List (Int × Int × Unit))) => Sum.inr t)) (by
  rintro (t | t)
  · kernel_rfl
  · kernel_rfl)) (x18552, x18549))

def impl_bestParts_n7_l (x18247 : List (List Int)) (x18548 : Int) (x18552 : Int) (x18549 : List (Int × Int × Unit)) := (link_block (fin2 := (fun (t : (List (Int × Int × Unit))) => (Exit.normal, ⟨mkE 26 0 [(0, .dat (.list (.list (.int .i64))) x18247), (3, .ptr 0 0), (4, dI x18548)], [some (.seq (.pair (.int .i64) (.pair (.int .i64) .unit)) t)]⟩))) (id := 2) (impl_bestParts_n6_l x18247 x18548 x18552 x18549) (fun (t : (List (Int × Int × Unit))) => t) (by
  rintro t K h
  · exact Eq.mp (by kernel_rfl) h))

def impl_bestParts_n8_l (x18247 : List (List Int)) (x18548 : Int) (x18549 : List (Int × Int × Unit)) := (link_seq (impl_bestParts_n4_l x18247 x18548 x18549) (fun (t : Int) => (impl_bestParts_n7_l x18247 x18548 t x18549)))

def impl_bestParts_n9_l (x18247 : List (List Int)) (x18548 : Int) (x18549 : List (Int × Int × Unit)) := (link_block (fin2 := (fun (t : (List (Int × Int × Unit))) => (Exit.normal, ⟨mkE 26 0 [(0, .dat (.list (.list (.int .i64))) x18247), (3, .ptr 0 0), (4, dI x18548)], [some (.seq (.pair (.int .i64) (.pair (.int .i64) .unit)) t)]⟩))) (id := 1) (impl_bestParts_n8_l x18247 x18548 x18549) (fun (t : (List (Int × Int × Unit))) => t) (by
  rintro t K h
  · exact Eq.mp (by kernel_rfl) h))

theorem impl_bestParts_n10_l (x18247 : List (List Int)) (x18548 : Int) (x18592 : List (Int × Int × Unit)) : Link impl_bestParts_ctx LL (cq [1,1,0,0,1,0,1,1] (bodyOf Try.f45)) (aq [1,1,0,0,1,0,1,1] impl_bestParts_an) ⟨mkE 26 0 [(0, .dat (.list (.list (.int .i64))) x18247), (3, .ptr 0 0), (4, dI x18548)], [some (.seq (.pair (.int .i64) (.pair (.int .i64) .unit)) x18592)]⟩ (impl_bestParts_n10 x18548) (fun (t : Int) => (Exit.normal, ⟨mkE 26 0 [(0, .dat (.list (.list (.int .i64))) x18247), (3, .ptr 0 0), (4, dI t)], [some (.seq (.pair (.int .i64) (.pair (.int .i64) .unit)) x18592)]⟩)) := by
  refine Link.of fun K h => ?_
  simp only [impl_bestParts_n10, wpO_bind, wpO_cond, wpO_map, wpO_some] at h
  exact Awp.of (by kernel_rfl) h

def impl_bestParts_n11_l (x18247 : List (List Int)) (x18548 : Int) (x18549 : List (Int × Int × Unit)) := (link_seq (impl_bestParts_n9_l x18247 x18548 x18549) (fun (t : (List (Int × Int × Unit))) => (link_map (fin2 := (fun (t : Int × (List (Int × Int × Unit))) => (Exit.normal, ⟨mkE 26 0 [(0, .dat (.list (.list (.int .i64))) x18247), (3, .ptr 0 0), (4, dI t.1)], [some (.seq (.pair (.int .i64) (.pair (.int .i64) .unit)) t.2)]⟩))) (impl_bestParts_n10_l x18247 x18548 t) (fun (u : Int) => (u, t)) (by
  rintro t
  · kernel_rfl))))

def impl_bestParts_n12_l (x18247 : List (List Int)) (x18548 : Int) (x18549 : List (Int × Int × Unit)) := (link_seq2 (impl_bestParts_n3_l x18247 x18548 x18549) (fun (t : Unit) => (link_map (fin2 := (Sum.elim (fun (t : Int × (List (Int × Int × Unit))) => (Exit.normal, ⟨mkE 26 0 [(0, .dat (.list (.list (.int .i64))) x18247), (3, .ptr 0 0), (4, dI t.1)], [some (.seq (.pair (.int .i64) (.pair (.int .i64) .unit)) t.2)]⟩)) (fun (t : (List (Int × Int × Unit))) => ((Exit.exit 0), ⟨mkE 26 0 [(3, .ptr 0 0)], [some (.seq (.pair (.int .i64) (.pair (.int .i64) .unit)) t)]⟩)))) (impl_bestParts_n11_l x18247 x18548 x18549) (fun (t : Int × (List (Int × Int × Unit))) => (Sum.inl (t.1, t.2))) (by
  rintro t
  · kernel_rfl))) (fun (t : (List (Int × Int × Unit))) => (Sum.inr t)) (by
  rintro t
  · kernel_rfl) (by
  rintro t f K h
  · exact h))

def impl_bestParts_n13_l (x18247 : List (List Int)) := (link_loop (mk := fun (s : Int × (List (Int × Int × Unit))) => ⟨mkE 26 0 [(0, .dat (.list (.list (.int .i64))) x18247), (3, .ptr 0 0), (4, dI s.1)], [some (.seq (.pair (.int .i64) (.pair (.int .i64) .unit)) s.2)]⟩) (fin := (fun (t : (List (Int × Int × Unit))) => ((Exit.exit 0), ⟨mkE 26 0 [(3, .ptr 0 0)], [some (.seq (.pair (.int .i64) (.pair (.int .i64) .unit)) t)]⟩))) (by
  rintro t f K h
  · exact h) (fun s => link_map (impl_bestParts_n12_l x18247 s.1 s.2) (Sum.elim (fun (t : Int × (List (Int × Int × Unit))) => Sum.inl (t.1, t.2)) (fun (t : (List (Int × Int × Unit))) => Sum.inr t)) (by
  rintro (t | t)
  · kernel_rfl
  · kernel_rfl)) (2, (List.replicate 36 ((0 : Int), ((0 : Int), ())))))

def impl_bestParts_n14_l (x18247 : List (List Int)) := (link_block (fin2 := (fun (t : (List (Int × Int × Unit))) => (Exit.normal, ⟨mkE 26 0 [(3, .ptr 0 0)], [some (.seq (.pair (.int .i64) (.pair (.int .i64) .unit)) t)]⟩))) (id := 0) (impl_bestParts_n13_l x18247) (fun (t : (List (Int × Int × Unit))) => t) (by
  rintro t K h
  · exact Eq.mp (by kernel_rfl) h))

def impl_bestParts_n15_l (x18247 : List (List Int)) := (link_seq (impl_bestParts_n2_l x18247) (fun (t : Unit) => (impl_bestParts_n14_l x18247)))

theorem impl_bestParts_n16_l (x18549 : List (Int × Int × Unit)) : Link impl_bestParts_ctx LL (cq [1,1,1] (bodyOf Try.f45)) (aq [1,1,1] impl_bestParts_an) ⟨mkE 26 0 [(3, .ptr 0 0)], [some (.seq (.pair (.int .i64) (.pair (.int .i64) .unit)) x18549)]⟩ (impl_bestParts_n16 x18549) (fun (t : (List (Int × Int × Unit))) => (Exit.ret, ⟨mkE 26 0 [(2, .ptr 0 0)], [some (.seq (.pair (.int .i64) (.pair (.int .i64) .unit)) t)]⟩)) := by
  refine Link.of fun K h => ?_
  simp only [impl_bestParts_n16, wpO_bind, wpO_cond, wpO_map, wpO_some] at h
  exact Awp.of (by kernel_rfl) h

def impl_bestParts_n17_l (x18247 : List (List Int)) := (link_seq (impl_bestParts_n15_l x18247) (fun (t : (List (Int × Int × Unit))) => (impl_bestParts_n16_l t)))

def impl_bestParts_n18_l (x18247 : List (List Int)) := (link_group (c := (cq [0,1] (bodyOf Try.f45))) (a := (aq [0,1] impl_bestParts_an)) [(cq [0] (bodyOf Try.f45))] [(aq [0] impl_bestParts_an)] rfl (link_seq (impl_bestParts_n1_l x18247) (fun (t : Unit) => (impl_bestParts_n17_l x18247))))

theorem impl_bestParts_e (x18247 : List (List Int)) {r : AV} {H' : Heap} (h : (Ans.mk _ (impl_bestParts x18247) (fun (t : (List (Int × Int × Unit))) => (.ptr 0 0, [some (.seq (.pair (.int .i64) (.pair (.int .i64) .unit)) t)])) [] none).run = some (r, H')) : Awp impl_bestParts_ctx LL (bodyOf Try.f45) impl_bestParts_an ⟨mkE 26 0 [(0, .dat (.list (.list (.int .i64))) x18247)], []⟩ (Ret (tlook tys) Try.f45.results.toList r H') :=
  ret_of' (Link.cast (by kernel_rfl) (by kernel_rfl) (impl_bestParts_n18_l x18247)) (by unfold impl_bestParts; kernel_rfl) (by
  intro t
  exact ret_mk [.ptr 0 0] (by kernel_rfl) (by kernel_rfl) (by kernel_rfl) (by kernel_rfl)) h

def F_impl_bestParts : Fun := fun avs H =>
  match avs, H with
  | [.dat (.list (.list (.int .i64))) x18247], [] => ⟨_, impl_bestParts x18247, fun (t : (List (Int × Int × Unit))) => (.ptr 0 0, [some (.seq (.pair (.int .i64) (.pair (.int .i64) .unit)) t)]), [], none⟩
  | _, _ => Ans.no

theorem impl_bestParts_sound : Sound Try.prog 45 F_impl_bestParts := by
  refine fn_sound' (C := impl_bestParts_ctx) (c := bodyOf Try.f45) (cok_of tys_ok (allc impl_partTable_joined_sound alln) (allc Try.call64 alln) (by kernel_rfl)) Try.func45 (by kernel_rfl) LL impl_bestParts_an ?_
  intro avs H r H' h
  unfold F_impl_bestParts at h
  split at h
  · refine Awp.cast ?_ ?_ ?_ (impl_bestParts_e _ h) <;> kernel_rfl
  · simp [Ans.no, Ans.run] at h


/-! loop.example/headtrees/impl.BestFlat$1 -/

def impl_BestFlat_1_an : Ann := (.seq (.leaf [0, 1, 2, 3]) (.seq (.draw [] [0, 1, 2, 3, 4, 5, 6, 7, 8, 9, 10, 11, 12, 13, 14, 15, 16, 17, 18, 19, 20, 21, 22, 23, 24] [] [5]) (.leaf [5])))

noncomputable def impl_BestFlat_1_ctx : Ctx := ⟨tlook tys, olook [], ioF, 0, false, []⟩

theorem impl_BestFlat_1_n1_l (x18654 : Int) (x18655 : List (Int × Int × Unit)) (x18656 : List (List Int)) (x18657 : Int) : Link impl_BestFlat_1_ctx LL (bodyOf Try.f47) impl_BestFlat_1_an ⟨mkE 30 0 [(0, dI x18654), (1, .pcell (.tab (.pair (.int .i64) (.pair (.int .i64) .unit)) x18655)), (2, .pcell (.dat (.list (.list (.int .i64))) x18656)), (3, .pcell (dI x18657))], []⟩ (impl_BestFlat_1_n1 x18654 x18655 x18656 x18657) (fun (t : Int) => (Exit.ret, ⟨mkE 30 0 [(5, dI t)], []⟩)) := by
  refine Link.of fun K h => ?_
  simp only [impl_BestFlat_1_n1, wpO_bind, wpO_cond, wpO_map, wpO_some] at h
  exact Awp.of (by kernel_rfl) h

theorem impl_BestFlat_1_e (x18654 : Int) (x18655 : List (Int × Int × Unit)) (x18656 : List (List Int)) (x18657 : Int) {r : AV} {H' : Heap} (h : (Ans.mk _ (impl_BestFlat_1 x18654 x18655 x18656 x18657) (fun (t : Int) => (dI t, [])) [] none).run = some (r, H')) : Awp impl_BestFlat_1_ctx LL (bodyOf Try.f47) impl_BestFlat_1_an ⟨mkE 30 0 [(0, dI x18654), (1, .pcell (.tab (.pair (.int .i64) (.pair (.int .i64) .unit)) x18655)), (2, .pcell (.dat (.list (.list (.int .i64))) x18656)), (3, .pcell (dI x18657))], []⟩ (Ret (tlook tys) Try.f47.results.toList r H') :=
  ret_of' (impl_BestFlat_1_n1_l x18654 x18655 x18656 x18657) (by unfold impl_BestFlat_1; kernel_rfl) (by
  intro t
  exact ret_mk [dI t] (by kernel_rfl) (by kernel_rfl) (by kernel_rfl) (by kernel_rfl)) h

def F_impl_BestFlat_1 : Fun := fun avs H =>
  match avs, H with
  | [.dat (.int .i64) x18654, .pcell (.tab (.pair (.int .i64) (.pair (.int .i64) .unit)) x18655), .pcell (.dat (.list (.list (.int .i64))) x18656), .pcell (.dat (.int .i64) x18657)], [] => ⟨_, impl_BestFlat_1 x18654 x18655 x18656 x18657, fun (t : Int) => (dI t, []), [], none⟩
  | _, _ => Ans.no

theorem impl_BestFlat_1_sound : Sound Try.prog 47 F_impl_BestFlat_1 := by
  refine fn_sound' (C := impl_BestFlat_1_ctx) (c := bodyOf Try.f47) (cok_of tys_ok (alln) (alln) (by kernel_rfl)) Try.func47 (by kernel_rfl) LL impl_BestFlat_1_an ?_
  intro avs H r H' h
  unfold F_impl_BestFlat_1 at h
  split at h
  · refine Awp.cast ?_ ?_ ?_ (impl_BestFlat_1_e _ _ _ _ h) <;> kernel_rfl
  · simp [Ans.no, Ans.run] at h


/-! loop.example/headtrees/impl.greatest (impl_greatest_v4) -/

def impl_greatest_v4_an : Ann := (.seq (.leaf [0, 1, 2]) (.seq (.leaf [0, 1, 2, 7]) (.seq (.seq (.leaf [1, 2, 7, 8]) (.block (.loop (.seq (.seq (.leaf [1, 2, 7, 8, 12]) (.cond (.leaf [1, 2, 7, 8]) (.leaf [7]))) (.seq (.block (.leaf [1, 2, 7, 8])) (.leaf [1, 2, 7, 8])))))) (.seq (.leaf [6]) (.leaf [6])))))

noncomputable def impl_greatest_v4_ctx : Ctx := ⟨tlook tys, olook [(47, F_impl_BestFlat_1)], ioF, 0, false, []⟩

theorem impl_greatest_v4_n1_l (x18647 : Int) (x18648 : Int) (x18649 : List (Int × Int × Unit)) (x18650 : List (List Int)) (x18651 : Int) : Link impl_greatest_v4_ctx LL (Code.seq (cq [0] (bodyOf Try.f46)) (cq [0,1] (bodyOf Try.f46))) (Ann.seq (aq [0] impl_greatest_v4_an) (aq [0,1] impl_greatest_v4_an)) ⟨mkE 21 0 [(0, dI x18647), (1, dI x18648), (2, .fn 47 [] [.pcell (.tab (.pair (.int .i64) (.pair (.int .i64) .unit)) x18649), .pcell (.dat (.list (.list (.int .i64))) x18650), .pcell (dI x18651)])], []⟩ (impl_greatest_v4_n1) (fun (t : Unit) => (Exit.normal, ⟨mkE 21 0 [(0, dI x18647), (1, dI x18648), (2, .fn 47 [] [.pcell (.tab (.pair (.int .i64) (.pair (.int .i64) .unit)) x18649), .pcell (.dat (.list (.list (.int .i64))) x18650), .pcell (dI x18651)]), (7, dI 0)], []⟩)) := by
  refine Link.of fun K h => ?_
  simp only [impl_greatest_v4_n1, wpO_bind, wpO_cond, wpO_map, wpO_some] at h
  exact Awp.of (by kernel_rfl) h

theorem impl_greatest_v4_n2_l (x18647 : Int) (x18648 : Int) (x18649 : List (Int × Int × Unit)) (x18650 : List (List Int)) (x18651 : Int) : Link impl_greatest_v4_ctx LL (cq [0,0,1,1] (bodyOf Try.f46)) (aq [0,0,1,1] impl_greatest_v4_an) ⟨mkE 21 0 [(0, dI x18647), (1, dI x18648), (2, .fn 47 [] [.pcell (.tab (.pair (.int .i64) (.pair (.int .i64) .unit)) x18649), .pcell (.dat (.list (.list (.int .i64))) x18650), .pcell (dI x18651)]), (7, dI 0)], []⟩ (impl_greatest_v4_n2) (fun (t : Unit) => (Exit.normal, ⟨mkE 21 0 [(1, dI x18648), (2, .fn 47 [] [.pcell (.tab (.pair (.int .i64) (.pair (.int .i64) .unit)) x18649), .pcell (.dat (.list (.list (.int .i64))) x18650), .pcell (dI x18651)]), (7, dI 0), (8, dI x18647)], []⟩)) := by
  refine Link.of fun K h => ?_
  simp only [impl_greatest_v4_n2, wpO_bind, wpO_cond, wpO_map, wpO_some] at h
  exact Awp.of (by kernel_rfl) h

theorem impl_greatest_v4_n3_l (x18648 : Int) (x18649 : List (Int × Int × Unit)) (x18650 : List (List Int)) (x18651 : Int) (x18710 : Int) (x18711 : Int) : Link impl_greatest_v4_ctx LL (cq [0,0,1,0,1,1] (bodyOf Try.f46)) (aq [0,0,1,0,1,1] impl_greatest_v4_an) ⟨mkE 21 0 [(1, dI x18648), (2, .fn 47 [] [.pcell (.tab (.pair (.int .i64) (.pair (.int .i64) .unit)) x18649), .pcell (.dat (.list (.list (.int .i64))) x18650), .pcell (dI x18651)]), (7, dI x18710), (8, dI x18711)], []⟩ (impl_greatest_v4_n3 x18648 x18649 x18650 x18651 x18710 x18711) (Sum.elim (fun (t : Int × Int) => (Exit.normal, ⟨mkE 21 0 [(1, dI x18648), (2, .fn 47 [] [.pcell (.tab (.pair (.int .i64) (.pair (.int .i64) .unit)) x18649), .pcell (.dat (.list (.list (.int .i64))) x18650), .pcell (dI x18651)]), (7, dI t.1), (8, dI t.2)], []⟩)) (fun (t : Int) => ((Exit.exit 0), ⟨mkE 21 0 [(7, dI t)], []⟩))) := by
  refine Link.of fun K h => ?_
  simp only [impl_greatest_v4_n3, wpO_bind, wpO_cond, wpO_map, wpO_some] at h
  exact Awp.of (by kernel_rfl) h

def impl_greatest_v4_n4_l (x18648 : Int) (x18649 : List (Int × Int × Unit)) (x18650 : List (List Int)) (x18651 : Int) (x18647 : Int) := (link_loop (mk := fun (s : Int × Int) => ⟨mkE 21 0 [(1, dI x18648), (2, .fn 47 [] [.pcell (.tab (.pair (.int .i64) (.pair (.int .i64) .unit)) x18649), .pcell (.dat (.list (.list (.int .i64))) x18650), .pcell (dI x18651)]), (7, dI s.1), (8, dI s.2)], []⟩) (fin := (fun (t : Int) => ((Exit.exit 0), ⟨mkE 21 0 [(7, dI t)], []⟩))) (by
  rintro t f K h
  · exact h) (fun s => link_map (impl_greatest_v4_n3_l x18648 x18649 x18650 x18651 s.1 s.2) (Sum.elim (fun (t : Int × Int) => Sum.inl (t.1, t.2)) (fun (t : Int) => Sum.inr t)) (by
  rintro (t | t)
  · kernel_rfl
  · kernel_rfl)) (0, x18647))

def impl_greatest_v4_n5_l (x18648 : Int) (x18649 : List (Int × Int × Unit)) (x18650 : List (List Int)) (x18651 : Int) (x18647 : Int) := (link_block (fin2 := (fun (t : Int) => (Exit.normal, ⟨mkE 21 0 [(7, dI t)], []⟩))) (id := 0) (impl_greatest_v4_n4_l x18648 x18649 x18650 x18651 x18647) (fun (t : Int) => t) (by
  rintro t K h
  · exact Eq.mp (by kernel_rfl) h))

def impl_greatest_v4_n6_l (x18647 : Int) (x18648 : Int) (x18649 : List (Int × Int × Unit)) (x18650 : List (List Int)) (x18651 : Int) := (link_seq (impl_greatest_v4_n2_l x18647 x18648 x18649 x18650 x18651) (fun (t : Unit) => (impl_greatest_v4_n5_l x18648 x18649 x18650 x18651 x18647)))

theorem impl_greatest_v4_n7_l (x18710 : Int) : Link impl_greatest_v4_ctx LL (cq [1,1,1] (bodyOf Try.f46)) (aq [1,1,1] impl_greatest_v4_an) ⟨mkE 21 0 [(7, dI x18710)], []⟩ (impl_greatest_v4_n7 x18710) (fun (t : Int) => (Exit.ret, ⟨mkE 21 0 [(6, dI t)], []⟩)) := by
  refine Link.of fun K h => ?_
  simp only [impl_greatest_v4_n7, wpO_bind, wpO_cond, wpO_map, wpO_some] at h
  exact Awp.of (by kernel_rfl) h

def impl_greatest_v4_n8_l (x18647 : Int) (x18648 : Int) (x18649 : List (Int × Int × Unit)) (x18650 : List (List Int)) (x18651 : Int) := (link_seq (impl_greatest_v4_n6_l x18647 x18648 x18649 x18650 x18651) (fun (t : Int) => (impl_greatest_v4_n7_l t)))

def impl_greatest_v4_n9_l (x18647 : Int) (x18648 : Int) (x18649 : List (Int × Int × Unit)) (x18650 : List (List Int)) (x18651 : Int) := (link_group (c := (cq [0,1] (bodyOf Try.f46))) (a := (aq [0,1] impl_greatest_v4_an)) [(cq [0] (bodyOf Try.f46))] [(aq [0] impl_greatest_v4_an)] rfl (link_seq (impl_greatest_v4_n1_l x18647 x18648 x18649 x18650 x18651) (fun (t : Unit) => (impl_greatest_v4_n8_l x18647 x18648 x18649 x18650 x18651))))

theorem impl_greatest_v4_e (x18647 : Int) (x18648 : Int) (x18649 : List (Int × Int × Unit)) (x18650 : List (List Int)) (x18651 : Int) {r : AV} {H' : Heap} (h : (Ans.mk _ (impl_greatest_v4 x18647 x18648 x18649 x18650 x18651) (fun (t : Int) => (dI t, [])) [] none).run = some (r, H')) : Awp impl_greatest_v4_ctx LL (bodyOf Try.f46) impl_greatest_v4_an ⟨mkE 21 0 [(0, dI x18647), (1, dI x18648), (2, .fn 47 [] [.pcell (.tab (.pair (.int .i64) (.pair (.int .i64) .unit)) x18649), .pcell (.dat (.list (.list (.int .i64))) x18650), .pcell (dI x18651)])], []⟩ (Ret (tlook tys) Try.f46.results.toList r H') :=
  ret_of' (Link.cast (by kernel_rfl) (by kernel_rfl) (impl_greatest_v4_n9_l x18647 x18648 x18649 x18650 x18651)) (by unfold impl_greatest_v4; kernel_rfl) (by
  intro t
  exact ret_mk [dI t] (by kernel_rfl) (by kernel_rfl) (by kernel_rfl) (by kernel_rfl)) h

def F_impl_greatest_v4 : Fun := fun avs H =>
  match avs, H with
  | [.dat (.int .i64) x18647, .dat (.int .i64) x18648, .fn 47 [] [.pcell (.tab (.pair (.int .i64) (.pair (.int .i64) .unit)) x18649), .pcell (.dat (.list (.list (.int .i64))) x18650), .pcell (.dat (.int .i64) x18651)]], [] => ⟨_, impl_greatest_v4 x18647 x18648 x18649 x18650 x18651, fun (t : Int) => (dI t, []), [], none⟩
  | _, _ => Ans.no

theorem impl_greatest_v4_sound : Sound Try.prog 46 F_impl_greatest_v4 := by
  refine fn_sound' (C := impl_greatest_v4_ctx) (c := bodyOf Try.f46) (cok_of tys_ok (allc impl_BestFlat_1_sound alln) (allc Try.call47 alln) (by kernel_rfl)) Try.func46 (by kernel_rfl) LL impl_greatest_v4_an ?_
  intro avs H r H' h
  unfold F_impl_greatest_v4 at h
  split at h
  · refine Awp.cast ?_ ?_ ?_ (impl_greatest_v4_e _ _ _ _ _ h) <;> kernel_rfl
  · simp [Ans.no, Ans.run] at h


/-! loop.example/headtrees/impl.BestFlat -/

def impl_BestFlat_an : Ann := (.seq (.leaf [1]) (.seq (.seq (.leaf [1, 7]) (.cond (.seq (.leaf [2]) (.leaf [2])) (.leaf [1]))) (.seq (.draw [3] [0, 1, 2, 3, 4, 5, 6, 7] [] [1, 3, 4]) (.seq (.leafF [⟨2, 4, false, some 0, none⟩] [2]) (.leaf [2])))))

noncomputable def impl_BestFlat_ctx : Ctx := ⟨tlook tys, olook [(13, F_impl_ScoresOk), (45, F_impl_bestParts), (46, F_impl_greatest_v4)], ioF, 0, false, []⟩

theorem impl_BestFlat_n1_l (x18241 : List (List Int)) : Link impl_BestFlat_ctx LL (bodyOf Try.f19) impl_BestFlat_an ⟨mkE 15 0 [(0, .dat (.list (.list (.int .i64))) x18241)], []⟩ (impl_BestFlat_n1 x18241) (fun (t : Int) => (Exit.ret, ⟨mkE 15 0 [(2, dI t)], []⟩)) := by
  refine Link.of fun K h => ?_
  simp only [impl_BestFlat_n1, wpO_bind, wpO_cond, wpO_map, wpO_some] at h
  exact Awp.of (by kernel_rfl) h

theorem impl_BestFlat_e (x18241 : List (List Int)) {r : AV} {H' : Heap} (h : (Ans.mk _ (impl_BestFlat x18241) (fun (t : Int) => (dI t, [])) [] none).run = some (r, H')) : Awp impl_BestFlat_ctx LL (bodyOf Try.f19) impl_BestFlat_an ⟨mkE 15 0 [(0, .dat (.list (.list (.int .i64))) x18241)], []⟩ (Ret (tlook tys) Try.f19.results.toList r H') :=
  ret_of' (impl_BestFlat_n1_l x18241) (by unfold impl_BestFlat; kernel_rfl) (by
  intro t
  exact ret_mk [dI t] (by kernel_rfl) (by kernel_rfl) (by kernel_rfl) (by kernel_rfl)) h

def F_impl_BestFlat : Fun := fun avs H =>
  match avs, H with
  | [.dat (.list (.list (.int .i64))) x18241], [] => ⟨_, impl_BestFlat x18241, fun (t : Int) => (dI t, []), [], none⟩
  | _, _ => Ans.no

theorem impl_BestFlat_sound : Sound Try.prog 19 F_impl_BestFlat := by
  refine fn_sound' (C := impl_BestFlat_ctx) (c := bodyOf Try.f19) (cok_of tys_ok (allc impl_ScoresOk_sound (allc impl_bestParts_sound (allc impl_greatest_v4_sound alln))) (allc Try.call13 (allc Try.call45 (allc Try.call46 alln))) (by kernel_rfl)) Try.func19 (by kernel_rfl) LL impl_BestFlat_an ?_
  intro avs H r H' h
  unfold F_impl_BestFlat at h
  split at h
  · refine Awp.cast ?_ ?_ ?_ (impl_BestFlat_e _ h) <;> kernel_rfl
  · simp [Ans.no, Ans.run] at h


/-! loop.example/headtrees/spec.l9Tree, loop.example/headtrees/spec.l9Row -/

def spec_l9Tree_an : Ann := (.seq (.leaf [0, 1, 2, 3]) (.seq (.leaf [0, 1, 2, 3, 9]) (.seq (.seq (.leaf [0, 1, 2, 3, 9, 10]) (.block (.loop (.seq (.seq (.leaf [0, 1, 2, 3, 9, 10, 15]) (.cond (.leaf [0, 1, 2, 3, 9, 10]) (.leaf [9]))) (.seq (.block (.seq (.draw [13, 20] [0, 1, 2, 3, 4, 5, 6, 7, 8, 9, 10, 11, 12, 15, 16, 17, 18, 19, 13, 14, 20, 21, 22] [] [0, 1, 2, 3, 9, 10, 11]) (.leaf [0, 1, 2, 3, 9, 10]))) (.leaf [0, 1, 2, 3, 9, 10])))))) (.seq (.leaf [8]) (.leaf [8])))))

def spec_l9Row_an : Ann := (.seq (.leaf [0, 1, 2, 3]) (.seq (.seq (.leaf [0, 1, 2, 3, 13]) (.cond (.seq (.leaf [8]) (.leaf [8])) (.leaf [0, 1, 2, 3]))) (.seq (.leaf [0, 1, 2, 3, 9]) (.seq (.seq (.leaf [0, 1, 2, 3, 9, 10]) (.block (.loop (.seq (.seq (.leaf [0, 1, 2, 3, 9, 10, 17]) (.cond (.leaf [0, 1, 2, 3, 9, 10]) (.leaf [9]))) (.seq (.block (.leaf [0, 1, 2, 3, 9, 10])) (.leaf [0, 1, 2, 3, 9, 10])))))) (.seq (.leaf [8]) (.leaf [8]))))))

def F_spec_l9Tree_fuel (n : Nat) : Fun := fun avs H =>
  match avs, H with
  | [.dat (.list (.list (.int .i64))) x18795, .dat (.int .i64) x18796, .dat (.int .i64) x18797, .dat (.int .i64) x18798], [] => ⟨_, spec_l9Tree_fuel n x18795 x18796 x18797 x18798, fun (t : Int) => (dI t, []), [], none⟩
  | _, _ => Ans.no

def F_spec_l9Row_fuel (n : Nat) : Fun := fun avs H =>
  match avs, H with
  | [.dat (.list (.list (.int .i64))) x18870, .dat (.int .i64) x18871, .dat (.int .i64) x18872, .dat (.int .i64) x18873], [] => ⟨_, spec_l9Row_fuel n x18870 x18871 x18872 x18873, fun (t : Int) => (dI t, []), [], none⟩
  | _, _ => Ans.no

noncomputable def spec_l9Tree_ctx (n : Nat) : Ctx := ⟨tlook tys, olook [(65, F_spec_l9Row_fuel n)], ioF, 0, false, []⟩

noncomputable def spec_l9Row_ctx (n : Nat) : Ctx := ⟨tlook tys, olook [(48, F_spec_l9Tree_fuel n), (65, F_spec_l9Row_fuel n)], ioF, 0, false, []⟩

theorem spec_l9Tree_n1_l (n : Nat) (x18795 : List (List Int)) (x18796 : Int) (x18797 : Int) (x18798 : Int) : Link (spec_l9Tree_ctx n) LL (Code.seq (cq [0] (bodyOf Try.f48)) (cq [0,1] (bodyOf Try.f48))) (Ann.seq (aq [0] spec_l9Tree_an) (aq [0,1] spec_l9Tree_an)) ⟨mkE 44 0 [(0, .dat (.list (.list (.int .i64))) x18795), (1, dI x18796), (2, dI x18797), (3, dI x18798)], []⟩ (spec_l9Tree_n1 (spec_l9Tree_fuel n) (spec_l9Row_fuel n)) (fun (t : Unit) => (Exit.normal, ⟨mkE 44 0 [(0, .dat (.list (.list (.int .i64))) x18795), (1, dI x18796), (2, dI x18797), (3, dI x18798), (9, dI (-1))], []⟩)) := by
  refine Link.of fun K h => ?_
  simp only [spec_l9Tree_n1, wpO_bind, wpO_cond, wpO_map, wpO_some] at h
  exact Awp.of (by kernel_rfl) h

theorem spec_l9Tree_n2_l (n : Nat) (x18795 : List (List Int)) (x18796 : Int) (x18797 : Int) (x18798 : Int) : Link (spec_l9Tree_ctx n) LL (cq [0,0,1,1] (bodyOf Try.f48)) (aq [0,0,1,1] spec_l9Tree_an) ⟨mkE 44 0 [(0, .dat (.list (.list (.int .i64))) x18795), (1, dI x18796), (2, dI x18797), (3, dI x18798), (9, dI (-1))], []⟩ (spec_l9Tree_n2 (spec_l9Tree_fuel n) (spec_l9Row_fuel n)) (fun (t : Unit) => (Exit.normal, ⟨mkE 44 0 [(0, .dat (.list (.list (.int .i64))) x18795), (1, dI x18796), (2, dI x18797), (3, dI x18798), (9, dI (-1)), (10, dI x18796)], []⟩)) := by
  refine Link.of fun K h => ?_
  simp only [spec_l9Tree_n2, wpO_bind, wpO_cond, wpO_map, wpO_some] at h
  exact Awp.of (by kernel_rfl) h

theorem spec_l9Tree_n3_l (n : Nat) (x18795 : List (List Int)) (x18796 : Int) (x18797 : Int) (x18798 : Int) (x18931 : Int) (x18932 : Int) : Link (spec_l9Tree_ctx n) LL (cq [0,0,1,0,1,1] (bodyOf Try.f48)) (aq [0,0,1,0,1,1] spec_l9Tree_an) ⟨mkE 44 0 [(0, .dat (.list (.list (.int .i64))) x18795), (1, dI x18796), (2, dI x18797), (3, dI x18798), (9, dI x18931), (10, dI x18932)], []⟩ (spec_l9Tree_n3 (spec_l9Tree_fuel n) (spec_l9Row_fuel n) x18795 x18796 x18797 x18798 x18931 x18932) (Sum.elim (fun (t : Int × Int) => (Exit.normal, ⟨mkE 44 0 [(0, .dat (.list (.list (.int .i64))) x18795), (1, dI x18796), (2, dI x18797), (3, dI x18798), (9, dI t.1), (10, dI t.2)], []⟩)) (fun (t : Int) => ((Exit.exit 0), ⟨mkE 44 0 [(9, dI t)], []⟩))) := by
  refine Link.of fun K h => ?_
  simp only [spec_l9Tree_n3, wpO_bind, wpO_cond, wpO_map, wpO_some] at h
  exact Awp.of (by kernel_rfl) h

def spec_l9Tree_n4_l (n : Nat) (x18795 : List (List Int)) (x18796 : Int) (x18797 : Int) (x18798 : Int) := (link_loop (mk := fun (s : Int × Int) => ⟨mkE 44 0 [(0, .dat (.list (.list (.int .i64))) x18795), (1, dI x18796), (2, dI x18797), (3, dI x18798), (9, dI s.1), (10, dI s.2)], []⟩) (fin := (fun (t : Int) => ((Exit.exit 0), ⟨mkE 44 0 [(9, dI t)], []⟩))) (by
  rintro t f K h
  · exact h) (fun s => link_map (spec_l9Tree_n3_l n x18795 x18796 x18797 x18798 s.1 s.2) (Sum.elim (fun (t : Int × Int) => Sum.inl (t.1, t.2)) (fun (t : Int) => Sum.inr t)) (by
  rintro (t | t)
  · kernel_rfl
  · kernel_rfl)) ((-1), x18796))

def spec_l9Tree_n5_l (n : Nat) (x18795 : List (List Int)) (x18796 : Int) (x18797 : Int) (x18798 : Int) := (link_block (fin2 := (fun (t : Int) => (Exit.normal, ⟨mkE 44 0 [(9, dI t)], []⟩))) (id := 0) (spec_l9Tree_n4_l n x18795 x18796 x18797 x18798) (fun (t : Int) => t) (by
  rintro t K h
  · exact Eq.mp (by kernel_rfl) h))

def spec_l9Tree_n6_l (n : Nat) (x18795 : List (List Int)) (x18796 : Int) (x18797 : Int) (x18798 : Int) := (link_seq (spec_l9Tree_n2_l n x18795 x18796 x18797 x18798) (fun (t : Unit) => (spec_l9Tree_n5_l n x18795 x18796 x18797 x18798)))

theorem spec_l9Tree_n7_l (n : Nat) (x18931 : Int) : Link (spec_l9Tree_ctx n) LL (cq [1,1,1] (bodyOf Try.f48)) (aq [1,1,1] spec_l9Tree_an) ⟨mkE 44 0 [(9, dI x18931)], []⟩ (spec_l9Tree_n7 (spec_l9Tree_fuel n) (spec_l9Row_fuel n) x18931) (fun (t : Int) => (Exit.ret, ⟨mkE 44 0 [(8, dI t)], []⟩)) := by
  refine Link.of fun K h => ?_
  simp only [spec_l9Tree_n7, wpO_bind, wpO_cond, wpO_map, wpO_some] at h
  exact Awp.of (by kernel_rfl) h

def spec_l9Tree_n8_l (n : Nat) (x18795 : List (List Int)) (x18796 : Int) (x18797 : Int) (x18798 : Int) := (link_seq (spec_l9Tree_n6_l n x18795 x18796 x18797 x18798) (fun (t : Int) => (spec_l9Tree_n7_l n t)))

def spec_l9Tree_n9_l (n : Nat) (x18795 : List (List Int)) (x18796 : Int) (x18797 : Int) (x18798 : Int) := (link_group (c := (cq [0,1] (bodyOf Try.f48))) (a := (aq [0,1] spec_l9Tree_an)) [(cq [0] (bodyOf Try.f48))] [(aq [0] spec_l9Tree_an)] rfl (link_seq (spec_l9Tree_n1_l n x18795 x18796 x18797 x18798) (fun (t : Unit) => (spec_l9Tree_n8_l n x18795 x18796 x18797 x18798))))

theorem spec_l9Tree_e (n : Nat) (x18795 : List (List Int)) (x18796 : Int) (x18797 : Int) (x18798 : Int) {r : AV} {H' : Heap} (h : (Ans.mk _ (spec_l9Tree_fuel (n + 1) x18795 x18796 x18797 x18798) (fun (t : Int) => (dI t, [])) [] none).run = some (r, H')) : Awp (spec_l9Tree_ctx n) LL (bodyOf Try.f48) spec_l9Tree_an ⟨mkE 44 0 [(0, .dat (.list (.list (.int .i64))) x18795), (1, dI x18796), (2, dI x18797), (3, dI x18798)], []⟩ (Ret (tlook tys) Try.f48.results.toList r H') :=
  ret_of' (Link.cast (by kernel_rfl) (by kernel_rfl) (spec_l9Tree_n9_l n x18795 x18796 x18797 x18798)) (by (show _ = _); kernel_rfl) (by
  intro t
  exact ret_mk [dI t] (by kernel_rfl) (by kernel_rfl) (by kernel_rfl) (by kernel_rfl)) h

theorem spec_l9Row_n1_l (n : Nat) (x18870 : List (List Int)) (x18871 : Int) (x18872 : Int) (x18873 : Int) : Link (spec_l9Row_ctx n) LL (Code.seq (cq [0] (bodyOf Try.f65)) (Code.seq (cq [0,1] (bodyOf Try.f65)) (cq [0,1,1] (bodyOf Try.f65)))) (Ann.seq (aq [0] spec_l9Row_an) (Ann.seq (aq [0,1] spec_l9Row_an) (aq [0,1,1] spec_l9Row_an))) ⟨mkE 35 0 [(0, .dat (.list (.list (.int .i64))) x18870), (1, dI x18871), (2, dI x18872), (3, dI x18873)], []⟩ (spec_l9Row_n1 (spec_l9Tree_fuel n) (spec_l9Row_fuel n) x18871 x18872) (Sum.elim (fun (t : Unit) => (Exit.normal, ⟨mkE 35 0 [(0, .dat (.list (.list (.int .i64))) x18870), (1, dI x18871), (2, dI x18872), (3, dI x18873), (9, dI (-1))], []⟩)) (fun (t : Int) => (Exit.ret, ⟨mkE 35 0 [(8, dI t)], []⟩))) := by
  refine Link.of fun K h => ?_
  simp only [spec_l9Row_n1, wpO_bind, wpO_cond, wpO_map, wpO_some] at h
  exact Awp.of (by kernel_rfl) h

theorem spec_l9Row_n2_l (n : Nat) (x18870 : List (List Int)) (x18871 : Int) (x18872 : Int) (x18873 : Int) : Link (spec_l9Row_ctx n) LL (cq [0,0,1,1,1] (bodyOf Try.f65)) (aq [0,0,1,1,1] spec_l9Row_an) ⟨mkE 35 0 [(0, .dat (.list (.list (.int .i64))) x18870), (1, dI x18871), (2, dI x18872), (3, dI x18873), (9, dI (-1))], []⟩ (spec_l9Row_n2 (spec_l9Tree_fuel n) (spec_l9Row_fuel n)) (fun (t : Unit) => (Exit.normal, ⟨mkE 35 0 [(0, .dat (.list (.list (.int .i64))) x18870), (1, dI x18871), (2, dI x18872), (3, dI x18873), (9, dI (-1)), (10, dI x18871)], []⟩)) := by
  refine Link.of fun K h => ?_
  simp only [spec_l9Row_n2, wpO_bind, wpO_cond, wpO_map, wpO_some] at h
  exact Awp.of (by kernel_rfl) h

theorem spec_l9Row_n3_l (n : Nat) (x18870 : List (List Int)) (x18871 : Int) (x18872 : Int) (x18873 : Int) (x18897 : Int) (x18898 : Int) : Link (spec_l9Row_ctx n) LL (cq [0,0,1,0,1,1,1] (bodyOf Try.f65)) (aq [0,0,1,0,1,1,1] spec_l9Row_an) ⟨mkE 35 0 [(0, .dat (.list (.list (.int .i64))) x18870), (1, dI x18871), (2, dI x18872), (3, dI x18873), (9, dI x18897), (10, dI x18898)], []⟩ (spec_l9Row_n3 (spec_l9Tree_fuel n) (spec_l9Row_fuel n) x18870 x18871 x18872 x18873 x18897 x18898) (Sum.elim (fun (t : Int × Int) => (Exit.normal, ⟨mkE 35 0 [(0, .dat (.list (.list (.int .i64))) x18870), (1, dI x18871), (2, dI x18872), (3, dI x18873), (9, dI t.1), (10, dI t.2)], []⟩)) (fun (t : Int) => ((Exit.exit 0), ⟨mkE 35 0 [(9, dI t)], []⟩))) := by
  refine Link.of fun K h => ?_
  simp only [spec_l9Row_n3, wpO_bind, wpO_cond, wpO_map, wpO_some] at h
  exact Awp.of (by kernel_rfl) h

def spec_l9Row_n4_l (n : Nat) (x18870 : List (List Int)) (x18871 : Int) (x18872 : Int) (x18873 : Int) := (link_loop (mk := fun (s : Int × Int) => ⟨mkE 35 0 [(0, .dat (.list (.list (.int .i64))) x18870), (1, dI x18871), (2, dI x18872), (3, dI x18873), (9, dI s.1), (10, dI s.2)], []⟩) (fin := (fun (t : Int) => ((Exit.exit 0), ⟨mkE 35 0 [(9, dI t)], []⟩))) (by
  rintro t f K h
  · exact h) (fun s => link_map (spec_l9Row_n3_l n x18870 x18871 x18872 x18873 s.1 s.2) (Sum.elim (fun (t : Int × Int) => Sum.inl (t.1, t.2)) (fun (t : Int) => Sum.inr t)) (by
  rintro (t | t)
  · kernel_rfl
  · kernel_rfl)) ((-1), x18871))

def spec_l9Row_n5_l (n : Nat) (x18870 : List (List Int)) (x18871 : Int) (x18872 : Int) (x18873 : Int) := (link_block (fin2 := (fun (t : Int) => (Exit.normal, ⟨mkE 35 0 [(9, dI t)], []⟩))) (id := 0) (spec_l9Row_n4_l n x18870 x18871 x18872 x18873) (fun (t : Int) => t) (by
  rintro t K h
  · exact Eq.mp (by kernel_rfl) h))

def spec_l9Row_n6_l (n : Nat) (x18870 : List (List Int)) (x18871 : Int) (x18872 : Int) (x18873 : Int) := (link_seq (spec_l9Row_n2_l n x18870 x18871 x18872 x18873) (fun (t : Unit) => (spec_l9Row_n5_l n x18870 x18871 x18872 x18873)))

theorem spec_l9Row_n7_l (n : Nat) (x18897 : Int) : Link (spec_l9Row_ctx n) LL (cq [1,1,1,1] (bodyOf Try.f65)) (aq [1,1,1,1] spec_l9Row_an) ⟨mkE 35 0 [(9, dI x18897)], []⟩ (spec_l9Row_n7 (spec_l9Tree_fuel n) (spec_l9Row_fuel n) x18897) (fun (t : Int) => (Exit.ret, ⟨mkE 35 0 [(8, dI t)], []⟩)) := by
  refine Link.of fun K h => ?_
  simp only [spec_l9Row_n7, wpO_bind, wpO_cond, wpO_map, wpO_some] at h
  exact Awp.of (by kernel_rfl) h

def spec_l9Row_n8_l (n : Nat) (x18870 : List (List Int)) (x18871 : Int) (x18872 : Int) (x18873 : Int) := (link_seq (spec_l9Row_n6_l n x18870 x18871 x18872 x18873) (fun (t : Int) => (spec_l9Row_n7_l n t)))

def spec_l9Row_n9_l (n : Nat) (x18870 : List (List Int)) (x18871 : Int) (x18872 : Int) (x18873 : Int) := (link_group (c := (cq [0,1,1] (bodyOf Try.f65))) (a := (aq [0,1,1] spec_l9Row_an)) [(cq [0] (bodyOf Try.f65)), (cq [0,1] (bodyOf Try.f65))] [(aq [0] spec_l9Row_an), (aq [0,1] spec_l9Row_an)] rfl (link_seq2 (spec_l9Row_n1_l n x18870 x18871 x18872 x18873) (fun (t : Unit) => (spec_l9Row_n8_l n x18870 x18871 x18872 x18873)) (fun (t : Int) => t) (by
  rintro t
  · kernel_rfl) (by
  rintro t f K h
  · exact h)))

theorem spec_l9Row_e (n : Nat) (x18870 : List (List Int)) (x18871 : Int) (x18872 : Int) (x18873 : Int) {r : AV} {H' : Heap} (h : (Ans.mk _ (spec_l9Row_fuel (n + 1) x18870 x18871 x18872 x18873) (fun (t : Int) => (dI t, [])) [] none).run = some (r, H')) : Awp (spec_l9Row_ctx n) LL (bodyOf Try.f65) spec_l9Row_an ⟨mkE 35 0 [(0, .dat (.list (.list (.int .i64))) x18870), (1, dI x18871), (2, dI x18872), (3, dI x18873)], []⟩ (Ret (tlook tys) Try.f65.results.toList r H') :=
  ret_of' (Link.cast (by kernel_rfl) (by kernel_rfl) (spec_l9Row_n9_l n x18870 x18871 x18872 x18873)) (by (show _ = _); kernel_rfl) (by
  intro t
  exact ret_mk [dI t] (by kernel_rfl) (by kernel_rfl) (by kernel_rfl) (by kernel_rfl)) h

theorem spec_l9Tree_step (n : Nat) (h48 : Sound Try.prog 48 (F_spec_l9Tree_fuel n)) (h65 : Sound Try.prog 65 (F_spec_l9Row_fuel n)) : Sound Try.prog 48 (F_spec_l9Tree_fuel (n + 1)) := by
  refine fn_sound' (C := spec_l9Tree_ctx n) (c := bodyOf Try.f48) (cok_of tys_ok (allc h65 alln) (allc Try.call65 alln) (by kernel_rfl)) Try.func48 (by kernel_rfl) LL spec_l9Tree_an ?_
  intro avs H r H' h
  unfold F_spec_l9Tree_fuel at h
  split at h
  · refine Awp.cast ?_ ?_ ?_ (spec_l9Tree_e n _ _ _ _ h) <;> kernel_rfl
  · simp [Ans.no, Ans.run] at h

theorem spec_l9Tree_null : Sound Try.prog 48 (F_spec_l9Tree_fuel 0) := by
  intro avs H r H' h
  unfold F_spec_l9Tree_fuel at h
  split at h
  · simp [spec_l9Tree_fuel, spec_l9Tree_knot, Ans.run] at h
  · simp [Ans.no, Ans.run] at h

theorem spec_l9Row_step (n : Nat) (h48 : Sound Try.prog 48 (F_spec_l9Tree_fuel n)) (h65 : Sound Try.prog 65 (F_spec_l9Row_fuel n)) : Sound Try.prog 65 (F_spec_l9Row_fuel (n + 1)) := by
  refine fn_sound' (C := spec_l9Row_ctx n) (c := bodyOf Try.f65) (cok_of tys_ok (allc h48 (allc h65 alln)) (allc Try.call48 (allc Try.call65 alln)) (by kernel_rfl)) Try.func65 (by kernel_rfl) LL spec_l9Row_an ?_
  intro avs H r H' h
  unfold F_spec_l9Row_fuel at h
  split at h
  · refine Awp.cast ?_ ?_ ?_ (spec_l9Row_e n _ _ _ _ h) <;> kernel_rfl
  · simp [Ans.no, Ans.run] at h

theorem spec_l9Row_null : Sound Try.prog 65 (F_spec_l9Row_fuel 0) := by
  intro avs H r H' h
  unfold F_spec_l9Row_fuel at h
  split at h
  · simp [spec_l9Row_fuel, spec_l9Tree_knot, Ans.run] at h
  · simp [Ans.no, Ans.run] at h

theorem spec_l9Tree_knot_all : ∀ n, Sound Try.prog 48 (F_spec_l9Tree_fuel n) ∧ Sound Try.prog 65 (F_spec_l9Row_fuel n)
  | 0 => ⟨spec_l9Tree_null, spec_l9Row_null⟩
  | n + 1 => by
    obtain ⟨h48, h65⟩ := spec_l9Tree_knot_all n
    exact ⟨spec_l9Tree_step n h48 h65, spec_l9Row_step n h48 h65⟩

def F_spec_l9Tree : Fun := fun avs H =>
  match avs, H with
  | [.dat (.list (.list (.int .i64))) x18795, .dat (.int .i64) x18796, .dat (.int .i64) x18797, .dat (.int .i64) x18798], [] => ⟨_, spec_l9Tree x18795 x18796 x18797 x18798, fun (t : Int) => (dI t, []), [], none⟩
  | _, _ => Ans.no

theorem spec_l9Tree_sound : Sound Try.prog 48 F_spec_l9Tree := by
  have e : F_spec_l9Tree = F_spec_l9Tree_fuel RR := by
    funext avs H
    unfold F_spec_l9Tree F_spec_l9Tree_fuel
    split <;> first | rfl | (simp only [spec_l9Tree])
  rw [e]
  exact (spec_l9Tree_knot_all RR).1

def F_spec_l9Row : Fun := fun avs H =>
  match avs, H with
  | [.dat (.list (.list (.int .i64))) x18870, .dat (.int .i64) x18871, .dat (.int .i64) x18872, .dat (.int .i64) x18873], [] => ⟨_, spec_l9Row x18870 x18871 x18872 x18873, fun (t : Int) => (dI t, []), [], none⟩
  | _, _ => Ans.no

theorem spec_l9Row_sound : Sound Try.prog 65 F_spec_l9Row := by
  have e : F_spec_l9Row = F_spec_l9Row_fuel RR := by
    funext avs H
    unfold F_spec_l9Row F_spec_l9Row_fuel
    split <;> first | rfl | (simp only [spec_l9Row])
  rw [e]
  exact (spec_l9Tree_knot_all RR).2


/-! loop.example/headtrees/spec.BestFlat -/

def spec_BestFlat_an : Ann := (.seq (.leaf [0]) (.seq (.seq (.leaf [0, 5]) (.cond (.seq (.leaf [2]) (.leaf [2])) (.leaf [0]))) (.seq (.leaf [2]) (.leaf [2]))))

noncomputable def spec_BestFlat_ctx : Ctx := ⟨tlook tys, olook [(14, F_spec_ScoresOk), (48, F_spec_l9Tree)], ioF, 0, false, []⟩

theorem spec_BestFlat_n1_l (x18789 : List (List Int)) : Link spec_BestFlat_ctx LL (bodyOf Try.f21) spec_BestFlat_an ⟨mkE 10 0 [(0, .dat (.list (.list (.int .i64))) x18789)], []⟩ (spec_BestFlat_n1 x18789) (fun (t : Int) => (Exit.ret, ⟨mkE 10 0 [(2, dI t)], []⟩)) := by
  refine Link.of fun K h => ?_
  simp only [spec_BestFlat_n1, wpO_bind, wpO_cond, wpO_map, wpO_some] at h
  exact Awp.of (by kernel_rfl) h

theorem spec_BestFlat_e (x18789 : List (List Int)) {r : AV} {H' : Heap} (h : (Ans.mk _ (spec_BestFlat x18789) (fun (t : Int) => (dI t, [])) [] none).run = some (r, H')) : Awp spec_BestFlat_ctx LL (bodyOf Try.f21) spec_BestFlat_an ⟨mkE 10 0 [(0, .dat (.list (.list (.int .i64))) x18789)], []⟩ (Ret (tlook tys) Try.f21.results.toList r H') :=
  ret_of' (spec_BestFlat_n1_l x18789) (by unfold spec_BestFlat; kernel_rfl) (by
  intro t
  exact ret_mk [dI t] (by kernel_rfl) (by kernel_rfl) (by kernel_rfl) (by kernel_rfl)) h

def F_spec_BestFlat : Fun := fun avs H =>
  match avs, H with
  | [.dat (.list (.list (.int .i64))) x18789], [] => ⟨_, spec_BestFlat x18789, fun (t : Int) => (dI t, []), [], none⟩
  | _, _ => Ans.no

theorem spec_BestFlat_sound : Sound Try.prog 21 F_spec_BestFlat := by
  refine fn_sound' (C := spec_BestFlat_ctx) (c := bodyOf Try.f21) (cok_of tys_ok (allc spec_ScoresOk_sound (allc spec_l9Tree_sound alln)) (allc Try.call14 (allc Try.call48 alln)) (by kernel_rfl)) Try.func21 (by kernel_rfl) LL spec_BestFlat_an ?_
  intro avs H r H' h
  unfold F_spec_BestFlat at h
  split at h
  · refine Awp.cast ?_ ?_ ?_ (spec_BestFlat_e _ h) <;> kernel_rfl
  · simp [Ans.no, Ans.run] at h


/-! loop.example/headtrees/laws.szIntS -/

def laws_szIntS_an : Ann := (.seq (.leaf [0, 1]) (.seq (.leaf [1]) (.seq (.seq (.leaf [1, 10]) (.cond (.seq (.leaf [4]) (.leaf [4])) (.leaf [1]))) (.seq (.leaf [4]) (.leaf [4])))))

noncomputable def laws_szIntS_ctx : Ctx := ⟨tlook tys, olook [], ioF, 0, false, []⟩

theorem laws_szIntS_n1_l (x20454 : List Int) (x20455 : Int) : Link laws_szIntS_ctx LL (bodyOf Try.f54) laws_szIntS_an ⟨mkE 12 0 [(0, dL x20454), (1, dI x20455)], []⟩ (laws_szIntS_n1 x20454 x20455) (fun (t : Int) => (Exit.ret, ⟨mkE 12 0 [(4, dI t)], []⟩)) := by
  refine Link.of fun K h => ?_
  simp only [laws_szIntS_n1, wpO_bind, wpO_cond, wpO_map, wpO_some] at h
  exact Awp.of (by kernel_rfl) h

theorem laws_szIntS_e (x20454 : List Int) (x20455 : Int) {r : AV} {H' : Heap} (h : (Ans.mk _ (laws_szIntS x20454 x20455) (fun (t : Int) => (dI t, [])) [] none).run = some (r, H')) : Awp laws_szIntS_ctx LL (bodyOf Try.f54) laws_szIntS_an ⟨mkE 12 0 [(0, dL x20454), (1, dI x20455)], []⟩ (Ret (tlook tys) Try.f54.results.toList r H') :=
  ret_of' (laws_szIntS_n1_l x20454 x20455) (by unfold laws_szIntS; kernel_rfl) (by
  intro t
  exact ret_mk [dI t] (by kernel_rfl) (by kernel_rfl) (by kernel_rfl) (by kernel_rfl)) h

def F_laws_szIntS : Fun := fun avs H =>
  match avs, H with
  | [.dat (.list (.int .i64)) x20454, .dat (.int .i64) x20455], [] => ⟨_, laws_szIntS x20454 x20455, fun (t : Int) => (dI t, []), [], none⟩
  | _, _ => Ans.no

theorem laws_szIntS_sound : Sound Try.prog 54 F_laws_szIntS := by
  refine fn_sound' (C := laws_szIntS_ctx) (c := bodyOf Try.f54) (cok_of tys_ok (alln) (alln) (by kernel_rfl)) Try.func54 (by kernel_rfl) LL laws_szIntS_an ?_
  intro avs H r H' h
  unfold F_laws_szIntS at h
  split at h
  · refine Awp.cast ?_ ?_ ?_ (laws_szIntS_e _ _ h) <;> kernel_rfl
  · simp [Ans.no, Ans.run] at h


/-! loop.example/headtrees/laws.szIntSS -/

def laws_szIntSS_an : Ann := (.seq (.leaf [0, 1]) (.seq (.leaf [0, 1]) (.seq (.seq (.leaf [0, 1, 11]) (.cond (.seq (.leaf [4]) (.leaf [4])) (.leaf [0, 1]))) (.seq (.seq (.leaf [0, 1, 5]) (.block (.loop (.seq (.seq (.leaf [0, 1, 5, 15]) (.cond (.leaf [0, 1, 5]) (.leaf [1]))) (.seq (.block (.seq (.leaf [0, 1, 5]) (.seq (.leaf [0, 1, 5, 25]) (.cond (.seq (.leaf [4]) (.leaf [4])) (.leaf [0, 1, 5]))))) (.leaf [0, 1, 5])))))) (.seq (.leaf [4]) (.leaf [4]))))))

noncomputable def laws_szIntSS_ctx : Ctx := ⟨tlook tys, olook [(54, F_laws_szIntS)], ioF, 0, false, []⟩

theorem laws_szIntSS_n1_l (x20442 : List (List Int)) (x20443 : Int) : Link laws_szIntSS_ctx LL (Code.seq (cq [0] (bodyOf Try.f29)) (Code.seq (cq [0,1] (bodyOf Try.f29)) (cq [0,1,1] (bodyOf Try.f29)))) (Ann.seq (aq [0] laws_szIntSS_an) (Ann.seq (aq [0,1] laws_szIntSS_an) (aq [0,1,1] laws_szIntSS_an))) ⟨mkE 27 0 [(0, .dat (.list (.list (.int .i64))) x20442), (1, dI x20443)], []⟩ (laws_szIntSS_n1 x20442 x20443) (Sum.elim (fun (t : Int) => (Exit.normal, ⟨mkE 27 0 [(0, .dat (.list (.list (.int .i64))) x20442), (1, dI t)], []⟩)) (fun (t : Int) => (Exit.ret, ⟨mkE 27 0 [(4, dI t)], []⟩))) := by
  refine Link.of fun K h => ?_
  simp only [laws_szIntSS_n1, wpO_bind, wpO_cond, wpO_map, wpO_some] at h
  exact Awp.of (by kernel_rfl) h

theorem laws_szIntSS_n2_l (x20442 : List (List Int)) (x20447 : Int) : Link laws_szIntSS_ctx LL (cq [0,0,1,1,1] (bodyOf Try.f29)) (aq [0,0,1,1,1] laws_szIntSS_an) ⟨mkE 27 0 [(0, .dat (.list (.list (.int .i64))) x20442), (1, dI x20447)], []⟩ (laws_szIntSS_n2) (fun (t : Unit) => (Exit.normal, ⟨mkE 27 0 [(0, .dat (.list (.list (.int .i64))) x20442), (1, dI x20447), (5, dI 0)], []⟩)) := by
  refine Link.of fun K h => ?_
  simp only [laws_szIntSS_n2, wpO_bind, wpO_cond, wpO_map, wpO_some] at h
  exact Awp.of (by kernel_rfl) h

theorem laws_szIntSS_n3_l (x20442 : List (List Int)) (x20476 : Int) (x20477 : Int) : Link laws_szIntSS_ctx LL (cq [0,0,1,0,1,1,1] (bodyOf Try.f29)) (aq [0,0,1,0,1,1,1] laws_szIntSS_an) ⟨mkE 27 0 [(0, .dat (.list (.list (.int .i64))) x20442), (1, dI x20476), (5, dI x20477)], []⟩ (laws_szIntSS_n3 x20442 x20476 x20477) (Sum.elim (fun (t : Int × Int) => (Exit.normal, ⟨mkE 27 0 [(0, .dat (.list (.list (.int .i64))) x20442), (1, dI t.1), (5, dI t.2)], []⟩)) (Sum.elim (fun (t : Int) => (Exit.ret, ⟨mkE 27 0 [(4, dI t)], []⟩)) (fun (t : Int) => ((Exit.exit 0), ⟨mkE 27 0 [(1, dI t)], []⟩)))) := by
  refine Link.of fun K h => ?_
  simp only [laws_szIntSS_n3, wpO_bind, wpO_cond, wpO_map, wpO_some] at h
  exact Awp.of (by kernel_rfl) h

def laws_szIntSS_n4_l (x20442 : List (List Int)) (x20447 : Int) := (link_loop (mk := fun (s : Int × Int) => ⟨mkE 27 0 [(0, .dat (.list (.list (.int .i64))) x20442), (1, dI s.1), (5, dI s.2)], []⟩) (fin := (Sum.elim (fun (t : Int) => (Exit.ret, ⟨mkE 27 0 [(4, dI t)], []⟩)) (fun (t : Int) => ((Exit.exit 0), ⟨mkE 27 0 [(1, dI t)], []⟩)))) (by
  rintro (t | t) f K h
  · exact h
  · exact h) (fun s => link_map (laws_szIntSS_n3_l x20442 s.1 s.2) (Sum.elim (fun (t : Int × Int) => Sum.inl (t.1, t.2)) (Sum.elim (fun (t : Int) => Sum.inr (Sum.inl t)) (fun (t : Int) => Sum.inr (Sum.inr t)))) (by
  rintro (t | t | t)
  · kernel_rfl
  · kernel_rfl
  · kernel_rfl)) (x20447, 0))

def laws_szIntSS_n5_l (x20442 : List (List Int)) (x20447 : Int) := (link_block (fin2 := (Sum.elim (fun (t : Int) => (Exit.normal, ⟨mkE 27 0 [(1, dI t)], []⟩)) (fun (t : Int) => (Exit.ret, ⟨mkE 27 0 [(4, dI t)], []⟩)))) (id := 0) (laws_szIntSS_n4_l x20442 x20447) (Sum.elim (fun (t : Int) => (Sum.inr t)) (fun (t : Int) => (Sum.inl t))) (by
  rintro (t | t) K h
  · exact Eq.mp (by kernel_rfl) h
  · exact Eq.mp (by kernel_rfl) h))

def laws_szIntSS_n6_l (x20442 : List (List Int)) (x20447 : Int) := (link_seq (laws_szIntSS_n2_l x20442 x20447) (fun (t : Unit) => (laws_szIntSS_n5_l x20442 x20447)))

theorem laws_szIntSS_n7_l (x20476 : Int) : Link laws_szIntSS_ctx LL (cq [1,1,1,1] (bodyOf Try.f29)) (aq [1,1,1,1] laws_szIntSS_an) ⟨mkE 27 0 [(1, dI x20476)], []⟩ (laws_szIntSS_n7 x20476) (fun (t : Int) => (Exit.ret, ⟨mkE 27 0 [(4, dI t)], []⟩)) := by
  refine Link.of fun K h => ?_
  simp only [laws_szIntSS_n7, wpO_bind, wpO_cond, wpO_map, wpO_some] at h
  exact Awp.of (by kernel_rfl) h

def laws_szIntSS_n8_l (x20442 : List (List Int)) (x20447 : Int) := (link_seq2 (laws_szIntSS_n6_l x20442 x20447) (fun (t : Int) => (laws_szIntSS_n7_l t)) (fun (t : Int) => t) (by
  rintro t
  · kernel_rfl) (by
  rintro t f K h
  · exact h))

def laws_szIntSS_n9_l (x20442 : List (List Int)) (x20443 : Int) := (link_group (c := (cq [0,1,1] (bodyOf Try.f29))) (a := (aq [0,1,1] laws_szIntSS_an)) [(cq [0] (bodyOf Try.f29)), (cq [0,1] (bodyOf Try.f29))] [(aq [0] laws_szIntSS_an), (aq [0,1] laws_szIntSS_an)] rfl (link_seq2 (laws_szIntSS_n1_l x20442 x20443) (fun (t : Int) => (laws_szIntSS_n8_l x20442 t)) (fun (t : Int) => t) (by
  rintro t
  · kernel_rfl) (by
  rintro t f K h
  · exact h)))

theorem laws_szIntSS_e (x20442 : List (List Int)) (x20443 : Int) {r : AV} {H' : Heap} (h : (Ans.mk _ (laws_szIntSS x20442 x20443) (fun (t : Int) => (dI t, [])) [] none).run = some (r, H')) : Awp laws_szIntSS_ctx LL (bodyOf Try.f29) laws_szIntSS_an ⟨mkE 27 0 [(0, .dat (.list (.list (.int .i64))) x20442), (1, dI x20443)], []⟩ (Ret (tlook tys) Try.f29.results.toList r H') :=
  ret_of' (Link.cast (by kernel_rfl) (by kernel_rfl) (laws_szIntSS_n9_l x20442 x20443)) (by unfold laws_szIntSS; kernel_rfl) (by
  intro t
  exact ret_mk [dI t] (by kernel_rfl) (by kernel_rfl) (by kernel_rfl) (by kernel_rfl)) h

def F_laws_szIntSS : Fun := fun avs H =>
  match avs, H with
  | [.dat (.list (.list (.int .i64))) x20442, .dat (.int .i64) x20443], [] => ⟨_, laws_szIntSS x20442 x20443, fun (t : Int) => (dI t, []), [], none⟩
  | _, _ => Ans.no

theorem laws_szIntSS_sound : Sound Try.prog 29 F_laws_szIntSS := by
  refine fn_sound' (C := laws_szIntSS_ctx) (c := bodyOf Try.f29) (cok_of tys_ok (allc laws_szIntS_sound alln) (allc Try.call54 alln) (by kernel_rfl)) Try.func29 (by kernel_rfl) LL laws_szIntSS_an ?_
  intro avs H r H' h
  unfold F_laws_szIntSS at h
  split at h
  · refine Awp.cast ?_ ?_ ?_ (laws_szIntSS_e _ _ h) <;> kernel_rfl
  · simp [Ans.no, Ans.run] at h


/-! loop.example/headtrees/laws.toIntS -/

def laws_toIntS_an : Ann := (.seq (.leaf [0]) (.seq (.leaf [0, 3]) (.seq (.seq (.leaf [0, 3, 4]) (.block (.loop (.seq (.seq (.leaf [0, 3, 4, 11]) (.cond (.leaf [0, 3, 4]) (.leaf [3]))) (.seq (.block (.leaf [0, 3, 4])) (.leaf [0, 3, 4])))))) (.seq (.leaf [2]) (.leaf [2])))))

noncomputable def laws_toIntS_ctx : Ctx := ⟨tlook tys, olook [], ioF, 0, false, []⟩

theorem laws_toIntS_n1_l (x20506 : List Int) : Link laws_toIntS_ctx LL (Code.seq (cq [0] (bodyOf Try.f33)) (cq [0,1] (bodyOf Try.f33))) (Ann.seq (aq [0] laws_toIntS_an) (aq [0,1] laws_toIntS_an)) ⟨mkE 22 0 [(0, dL x20506)], []⟩ (laws_toIntS_n1 x20506) (fun (t : (List Int)) => (Exit.normal, ⟨mkE 22 0 [(0, dL x20506), (3, .slc 0)], [some (sI t)]⟩)) := by
  refine Link.of fun K h => ?_
  simp only [laws_toIntS_n1, wpO_bind, wpO_cond, wpO_map, wpO_some] at h
  exact Awp.of (by kernel_rfl) h

theorem laws_toIntS_n2_l (x20506 : List Int) (x20509 : List Int) : Link laws_toIntS_ctx LL (cq [0,0,1,1] (bodyOf Try.f33)) (aq [0,0,1,1] laws_toIntS_an) ⟨mkE 22 0 [(0, dL x20506), (3, .slc 0)], [some (sI x20509)]⟩ (laws_toIntS_n2) (fun (t : Unit) => (Exit.normal, ⟨mkE 22 0 [(0, dL x20506), (3, .slc 0), (4, dI 0)], [some (sI x20509)]⟩)) := by
  refine Link.of fun K h => ?_
  simp only [laws_toIntS_n2, wpO_bind, wpO_cond, wpO_map, wpO_some] at h
  exact Awp.of (by kernel_rfl) h

theorem laws_toIntS_n3_l (x20506 : List Int) (x20523 : Int) (x20524 : List Int) : Link laws_toIntS_ctx LL (cq [0,0,1,0,1,1] (bodyOf Try.f33)) (aq [0,0,1,0,1,1] laws_toIntS_an) ⟨mkE 22 0 [(0, dL x20506), (3, .slc 0), (4, dI x20523)], [some (sI x20524)]⟩ (laws_toIntS_n3 x20506 x20523 x20524) (Sum.elim (fun (t : Int × (List Int)) => (Exit.normal, ⟨mkE 22 0 [(0, dL x20506), (3, .slc 0), (4, dI t.1)], [some (sI t.2)]⟩)) (fun (t : (List Int)) => ((Exit.exit 0), ⟨mkE 22 0 [(3, .slc 0)], [some (sI t)]⟩))) := by
  refine Link.of fun K h => ?_
  simp only [laws_toIntS_n3, wpO_bind, wpO_cond, wpO_map, wpO_some] at h
  exact Awp.of (by kernel_rfl) h

def laws_toIntS_n4_l (x20506 : List Int) (x20509 : List Int) := (link_loop (mk := fun (s : Int × (List Int)) => ⟨mkE 22 0 [(0, dL x20506), (3, .slc 0), (4, dI s.1)], [some (sI s.2)]⟩) (fin := (fun (t : (List Int)) => ((Exit.exit 0), ⟨mkE 22 0 [(3, .slc 0)], [some (sI t)]⟩))) (by
  rintro t f K h
  · exact h) (fun s => link_map (laws_toIntS_n3_l x20506 s.1 s.2) (Sum.elim (fun (t : Int × (List Int)) => Sum.inl (t.1, t.2)) (fun (t : (List Int)) => Sum.inr t)) (by
  rintro (t | t)
  · kernel_rfl
  · kernel_rfl)) (0, x20509))

def laws_toIntS_n5_l (x20506 : List Int) (x20509 : List Int) := (link_block (fin2 := (fun (t : (List Int)) => (Exit.normal, ⟨mkE 22 0 [(3, .slc 0)], [some (sI t)]⟩))) (id := 0) (laws_toIntS_n4_l x20506 x20509) (fun (t : (List Int)) => t) (by
  rintro t K h
  · exact Eq.mp (by kernel_rfl) h))

def laws_toIntS_n6_l (x20506 : List Int) (x20509 : List Int) := (link_seq (laws_toIntS_n2_l x20506 x20509) (fun (t : Unit) => (laws_toIntS_n5_l x20506 x20509)))

theorem laws_toIntS_n7_l (x20524 : List Int) : Link laws_toIntS_ctx LL (cq [1,1,1] (bodyOf Try.f33)) (aq [1,1,1] laws_toIntS_an) ⟨mkE 22 0 [(3, .slc 0)], [some (sI x20524)]⟩ (laws_toIntS_n7 x20524) (fun (t : (List Int)) => (Exit.ret, ⟨mkE 22 0 [(2, .slc 0)], [some (sI t)]⟩)) := by
  refine Link.of fun K h => ?_
  simp only [laws_toIntS_n7, wpO_bind, wpO_cond, wpO_map, wpO_some] at h
  exact Awp.of (by kernel_rfl) h

def laws_toIntS_n8_l (x20506 : List Int) (x20509 : List Int) := (link_seq (laws_toIntS_n6_l x20506 x20509) (fun (t : (List Int)) => (laws_toIntS_n7_l t)))

def laws_toIntS_n9_l (x20506 : List Int) := (link_group (c := (cq [0,1] (bodyOf Try.f33))) (a := (aq [0,1] laws_toIntS_an)) [(cq [0] (bodyOf Try.f33))] [(aq [0] laws_toIntS_an)] rfl (link_seq (laws_toIntS_n1_l x20506) (fun (t : (List Int)) => (laws_toIntS_n8_l x20506 t))))

theorem laws_toIntS_e (x20506 : List Int) {r : AV} {H' : Heap} (h : (Ans.mk _ (laws_toIntS x20506) (fun (t : (List Int)) => (.slc 0, [some (sI t)])) [] none).run = some (r, H')) : Awp laws_toIntS_ctx LL (bodyOf Try.f33) laws_toIntS_an ⟨mkE 22 0 [(0, dL x20506)], []⟩ (Ret (tlook tys) Try.f33.results.toList r H') :=
  ret_of' (Link.cast (by kernel_rfl) (by kernel_rfl) (laws_toIntS_n9_l x20506)) (by unfold laws_toIntS; kernel_rfl) (by
  intro t
  exact ret_mk [.slc 0] (by kernel_rfl) (by kernel_rfl) (by kernel_rfl) (by kernel_rfl)) h

def F_laws_toIntS : Fun := fun avs H =>
  match avs, H with
  | [.dat (.list (.int .i64)) x20506], [] => ⟨_, laws_toIntS x20506, fun (t : (List Int)) => (.slc 0, [some (sI t)]), [], none⟩
  | _, _ => Ans.no

theorem laws_toIntS_sound : Sound Try.prog 33 F_laws_toIntS := by
  refine fn_sound' (C := laws_toIntS_ctx) (c := bodyOf Try.f33) (cok_of tys_ok (alln) (alln) (by kernel_rfl)) Try.func33 (by kernel_rfl) LL laws_toIntS_an ?_
  intro avs H r H' h
  unfold F_laws_toIntS at h
  split at h
  · refine Awp.cast ?_ ?_ ?_ (laws_toIntS_e _ h) <;> kernel_rfl
  · simp [Ans.no, Ans.run] at h


/-! loop.example/headtrees/laws.toIntSS -/

def laws_toIntSS_an : Ann := (.seq (.leaf [0]) (.seq (.leaf [0, 3]) (.seq (.seq (.leaf [0, 3, 4]) (.block (.loop (.seq (.seq (.leaf [0, 3, 4, 11]) (.cond (.leaf [0, 3, 4]) (.leaf [3]))) (.seq (.block (.leaf [0, 3, 4])) (.leaf [0, 3, 4])))))) (.seq (.leaf [2]) (.leaf [2])))))

noncomputable def laws_toIntSS_ctx : Ctx := ⟨tlook tys, olook [(33, F_laws_toIntS)], ioF, 0, true, []⟩

theorem laws_toIntSS_n1_l (x20497 : List (List Int)) : Link laws_toIntSS_ctx LL (Code.seq (cq [0] (bodyOf Try.f30)) (cq [0,1] (bodyOf Try.f30))) (Ann.seq (aq [0] laws_toIntSS_an) (aq [0,1] laws_toIntSS_an)) ⟨mkE 23 0 [(0, .dat (.list (.list (.int .i64))) x20497)], []⟩ (laws_toIntSS_n1 x20497) (fun (t : (List (List Int))) => (Exit.normal, ⟨mkE 23 0 [(0, .dat (.list (.list (.int .i64))) x20497), (3, .slc 0)], [some (.nest (.int .i64) t 0 [])]⟩)) := by
  refine Link.of fun K h => ?_
  simp only [laws_toIntSS_n1, wpO_bind, wpO_cond, wpO_map, wpO_some] at h
  exact Awp.of (by kernel_rfl) h

theorem laws_toIntSS_n2_l (x20497 : List (List Int)) (x20500 : List (List Int)) : Link laws_toIntSS_ctx LL (cq [0,0,1,1] (bodyOf Try.f30)) (aq [0,0,1,1] laws_toIntSS_an) ⟨mkE 23 0 [(0, .dat (.list (.list (.int .i64))) x20497), (3, .slc 0)], [some (.nest (.int .i64) x20500 0 [])]⟩ (laws_toIntSS_n2) (fun (t : Unit) => (Exit.normal, ⟨mkE 23 0 [(0, .dat (.list (.list (.int .i64))) x20497), (3, .slc 0), (4, dI 0)], [some (.nest (.int .i64) x20500 0 [])]⟩)) := by
  refine Link.of fun K h => ?_
  simp only [laws_toIntSS_n2, wpO_bind, wpO_cond, wpO_map, wpO_some] at h
  exact Awp.of (by kernel_rfl) h

theorem laws_toIntSS_n3_l (x20497 : List (List Int)) (x20550 : Int) (x20551 : List (List Int)) : Link laws_toIntSS_ctx LL (cq [0,0,1,0,1,1] (bodyOf Try.f30)) (aq [0,0,1,0,1,1] laws_toIntSS_an) ⟨mkE 23 0 [(0, .dat (.list (.list (.int .i64))) x20497), (3, .slc 0), (4, dI x20550)], [some (.nest (.int .i64) x20551 0 [])]⟩ (laws_toIntSS_n3 x20497 x20550 x20551) (Sum.elim (fun (t : Int × (List (List Int))) => (Exit.normal, ⟨mkE 23 0 [(0, .dat (.list (.list (.int .i64))) x20497), (3, .slc 0), (4, dI t.1)], [some (.nest (.int .i64) t.2 0 [])]⟩)) (fun (t : (List (List Int))) => ((Exit.exit 0), ⟨mkE 23 0 [(3, .slc 0)], [some (.nest (.int .i64) t 0 [])]⟩))) := by
  refine Link.of fun K h => ?_
  simp only [laws_toIntSS_n3, wpO_bind, wpO_cond, wpO_map, wpO_some] at h
  exact Awp.of (by kernel_rfl) h

def laws_toIntSS_n4_l (x20497 : List (List Int)) (x20500 : List (List Int)) := (link_loop (mk := fun (s : Int × (List (List Int))) => ⟨mkE 23 0 [(0, .dat (.list (.list (.int .i64))) x20497), (3, .slc 0), (4, dI s.1)], [some (.nest (.int .i64) s.2 0 [])]⟩) (fin := (fun (t : (List (List Int))) => ((Exit.exit 0), ⟨mkE 23 0 [(3, .slc 0)], [some (.nest (.int .i64) t 0 [])]⟩))) (by
  rintro t f K h
  · exact h) (fun s => link_map (laws_toIntSS_n3_l x20497 s.1 s.2) (Sum.elim (fun (t : Int × (List (List Int))) => Sum.inl (t.1, t.2)) (fun (t : (List (List Int))) => Sum.inr t)) (by
  rintro (t | t)
  · kernel_rfl
  · kernel_rfl)) (0, x20500))

def laws_toIntSS_n5_l (x20497 : List (List Int)) (x20500 : List (List Int)) := (link_block (fin2 := (fun (t : (List (List Int))) => (Exit.normal, ⟨mkE 23 0 [(3, .slc 0)], [some (.nest (.int .i64) t 0 [])]⟩))) (id := 0) (laws_toIntSS_n4_l x20497 x20500) (fun (t : (List (List Int))) => t) (by
  rintro t K h
  · exact Eq.mp (by kernel_rfl) h))

def laws_toIntSS_n6_l (x20497 : List (List Int)) (x20500 : List (List Int)) := (link_seq (laws_toIntSS_n2_l x20497 x20500) (fun (t : Unit) => (laws_toIntSS_n5_l x20497 x20500)))

theorem laws_toIntSS_n7_l (x20551 : List (List Int)) : Link laws_toIntSS_ctx LL (cq [1,1,1] (bodyOf Try.f30)) (aq [1,1,1] laws_toIntSS_an) ⟨mkE 23 0 [(3, .slc 0)], [some (.nest (.int .i64) x20551 0 [])]⟩ (laws_toIntSS_n7 x20551) (fun (t : (List (List Int))) => (Exit.ret, ⟨mkE 23 0 [(2, .slc 0)], [some (.nest (.int .i64) t 0 [])]⟩)) := by
  refine Link.of fun K h => ?_
  simp only [laws_toIntSS_n7, wpO_bind, wpO_cond, wpO_map, wpO_some] at h
  exact Awp.of (by kernel_rfl) h

def laws_toIntSS_n8_l (x20497 : List (List Int)) (x20500 : List (List Int)) := (link_seq (laws_toIntSS_n6_l x20497 x20500) (fun (t : (List (List Int))) => (laws_toIntSS_n7_l t)))

def laws_toIntSS_n9_l (x20497 : List (List Int)) := (link_group (c := (cq [0,1] (bodyOf Try.f30))) (a := (aq [0,1] laws_toIntSS_an)) [(cq [0] (bodyOf Try.f30))] [(aq [0] laws_toIntSS_an)] rfl (link_seq (laws_toIntSS_n1_l x20497) (fun (t : (List (List Int))) => (laws_toIntSS_n8_l x20497 t))))

theorem laws_toIntSS_e (x20497 : List (List Int)) {r : AV} {H' : Heap} (h : (Ans.mk _ (laws_toIntSS x20497) (fun (t : (List (List Int))) => (.slc 0, [some (.nest (.int .i64) t 0 [])])) [] none).run = some (r, H')) : Awp laws_toIntSS_ctx LL (bodyOf Try.f30) laws_toIntSS_an ⟨mkE 23 0 [(0, .dat (.list (.list (.int .i64))) x20497)], []⟩ (Ret (tlook tys) Try.f30.results.toList r H') :=
  ret_of' (Link.cast (by kernel_rfl) (by kernel_rfl) (laws_toIntSS_n9_l x20497)) (by unfold laws_toIntSS; kernel_rfl) (by
  intro t
  exact ret_mk [.slc 0] (by kernel_rfl) (by kernel_rfl) (by kernel_rfl) (by kernel_rfl)) h

def F_laws_toIntSS : Fun := fun avs H =>
  match avs, H with
  | [.dat (.list (.list (.int .i64))) x20497], [] => ⟨_, laws_toIntSS x20497, fun (t : (List (List Int))) => (.slc 0, [some (.nest (.int .i64) t 0 [])]), [], none⟩
  | _, _ => Ans.no

theorem laws_toIntSS_sound : Sound Try.prog 30 F_laws_toIntSS := by
  refine fn_sound' (C := laws_toIntSS_ctx) (c := bodyOf Try.f30) (cok_of tys_ok (allc laws_toIntS_sound alln) (allc Try.call33 alln) (by kernel_rfl)) Try.func30 (by kernel_rfl) LL laws_toIntSS_an ?_
  intro avs H r H' h
  unfold F_laws_toIntSS at h
  split at h
  · refine Awp.cast ?_ ?_ ?_ (laws_toIntSS_e _ h) <;> kernel_rfl
  · simp [Ans.no, Ans.run] at h


/-! loop.example/headtrees/laws.eqIntS -/

def laws_eqIntS_an : Ann := (.seq (.leaf [0, 1]) (.seq (.seq (.leaf [0, 1, 10]) (.cond (.seq (.leaf [4]) (.leaf [4])) (.leaf [0, 1]))) (.seq (.seq (.leaf [0, 1, 5]) (.block (.loop (.seq (.seq (.leaf [0, 1, 5, 14]) (.cond (.leaf [0, 1, 5]) (.leaf []))) (.seq (.block (.seq (.draw [] [0, 1, 2, 3, 4, 5, 6, 7, 8] [] [0, 1, 5, 25]) (.cond (.seq (.leaf [4]) (.leaf [4])) (.leaf [0, 1, 5])))) (.leaf [0, 1, 5])))))) (.seq (.leaf [4]) (.leaf [4])))))

noncomputable def laws_eqIntS_ctx : Ctx := ⟨tlook tys, olook [], ioF, 0, false, []⟩

theorem laws_eqIntS_n1_l (x20608 : List Int) (x20609 : List Int) : Link laws_eqIntS_ctx LL (Code.seq (cq [0] (bodyOf Try.f34)) (cq [0,1] (bodyOf Try.f34))) (Ann.seq (aq [0] laws_eqIntS_an) (aq [0,1] laws_eqIntS_an)) ⟨mkE 26 0 [(0, dL x20608), (1, dL x20609)], []⟩ (laws_eqIntS_n1 x20608 x20609) (Sum.elim (fun (t : Unit) => (Exit.normal, ⟨mkE 26 0 [(0, dL x20608), (1, dL x20609)], []⟩)) (fun (t : Bool) => (Exit.ret, ⟨mkE 26 0 [(4, dB t)], []⟩))) := by
  refine Link.of fun K h => ?_
  simp only [laws_eqIntS_n1, wpO_bind, wpO_cond, wpO_map, wpO_some] at h
  exact Awp.of (by kernel_rfl) h

theorem laws_eqIntS_n2_l (x20608 : List Int) (x20609 : List Int) : Link laws_eqIntS_ctx LL (cq [0,0,1,1] (bodyOf Try.f34)) (aq [0,0,1,1] laws_eqIntS_an) ⟨mkE 26 0 [(0, dL x20608), (1, dL x20609)], []⟩ (laws_eqIntS_n2) (fun (t : Unit) => (Exit.normal, ⟨mkE 26 0 [(0, dL x20608), (1, dL x20609), (5, dI 0)], []⟩)) := by
  refine Link.of fun K h => ?_
  simp only [laws_eqIntS_n2, wpO_bind, wpO_cond, wpO_map, wpO_some] at h
  exact Awp.of (by kernel_rfl) h

theorem laws_eqIntS_n3_l (x20608 : List Int) (x20609 : List Int) (x20626 : Int) : Link laws_eqIntS_ctx LL (cq [0,0,1,0,1,1] (bodyOf Try.f34)) (aq [0,0,1,0,1,1] laws_eqIntS_an) ⟨mkE 26 0 [(0, dL x20608), (1, dL x20609), (5, dI x20626)], []⟩ (laws_eqIntS_n3 x20608 x20609 x20626) (Sum.elim (fun (t : Int) => (Exit.normal, ⟨mkE 26 0 [(0, dL x20608), (1, dL x20609), (5, dI t)], []⟩)) (Sum.elim (fun (t : Bool) => (Exit.ret, ⟨mkE 26 0 [(4, dB t)], []⟩)) (fun (t : Unit) => ((Exit.exit 0), ⟨mkE 26 0 [], []⟩)))) := by
  refine Link.of fun K h => ?_
  simp only [laws_eqIntS_n3, wpO_bind, wpO_cond, wpO_map, wpO_some] at h
  exact Awp.of (by kernel_rfl) h

def laws_eqIntS_n4_l (x20608 : List Int) (x20609 : List Int) := (link_loop (mk := fun (s : Int) => ⟨mkE 26 0 [(0, dL x20608), (1, dL x20609), (5, dI s)], []⟩) (fin := (Sum.elim (fun (t : Bool) => (Exit.ret, ⟨mkE 26 0 [(4, dB t)], []⟩)) (fun (t : Unit) => ((Exit.exit 0), ⟨mkE 26 0 [], []⟩)))) (by
  rintro (t | t) f K h
  · exact h
  · exact h) (fun s => link_map (laws_eqIntS_n3_l x20608 x20609 s) (Sum.elim (fun (t : Int) => Sum.inl t) (Sum.elim (fun (t : Bool) => Sum.inr (Sum.inl t)) (fun (t : Unit) => Sum.inr (Sum.inr t)))) (by
  rintro (t | t | t)
  · kernel_rfl
  · kernel_rfl
  · kernel_rfl)) 0)

def laws_eqIntS_n5_l (x20608 : List Int) (x20609 : List Int) := (link_block (fin2 := (Sum.elim (fun (t : Unit) => (Exit.normal, ⟨mkE 26 0 [], []⟩)) (fun (t : Bool) => (Exit.ret, ⟨mkE 26 0 [(4, dB t)], []⟩)))) (id := 0) (laws_eqIntS_n4_l x20608 x20609) (Sum.elim (fun (t : Bool) => (Sum.inr t)) (fun (t : Unit) => (Sum.inl ()))) (by
  rintro (t | t) K h
  · exact Eq.mp (by kernel_rfl) h
  · exact Eq.mp (by kernel_rfl) h))

def laws_eqIntS_n6_l (x20608 : List Int) (x20609 : List Int) := (link_seq (laws_eqIntS_n2_l x20608 x20609) (fun (t : Unit) => (laws_eqIntS_n5_l x20608 x20609)))

theorem laws_eqIntS_n7_l : Link laws_eqIntS_ctx LL (cq [1,1,1] (bodyOf Try.f34)) (aq [1,1,1] laws_eqIntS_an) ⟨mkE 26 0 [], []⟩ (laws_eqIntS_n7) (fun (t : Bool) => (Exit.ret, ⟨mkE 26 0 [(4, dB t)], []⟩)) := by
  refine Link.of fun K h => ?_
  simp only [laws_eqIntS_n7, wpO_bind, wpO_cond, wpO_map, wpO_some] at h
  exact Awp.of (by kernel_rfl) h

def laws_eqIntS_n8_l (x20608 : List Int) (x20609 : List Int) := (link_seq2 (laws_eqIntS_n6_l x20608 x20609) (fun (t : Unit) => (laws_eqIntS_n7_l)) (fun (t : Bool) => t) (by
  rintro t
  · kernel_rfl) (by
  rintro t f K h
  · exact h))

def laws_eqIntS_n9_l (x20608 : List Int) (x20609 : List Int) := (link_group (c := (cq [0,1] (bodyOf Try.f34))) (a := (aq [0,1] laws_eqIntS_an)) [(cq [0] (bodyOf Try.f34))] [(aq [0] laws_eqIntS_an)] rfl (link_seq2 (laws_eqIntS_n1_l x20608 x20609) (fun (t : Unit) => (laws_eqIntS_n8_l x20608 x20609)) (fun (t : Bool) => t) (by
  rintro t
  · kernel_rfl) (by
  rintro t f K h
  · exact h)))

theorem laws_eqIntS_e (x20608 : List Int) (x20609 : List Int) {r : AV} {H' : Heap} (h : (Ans.mk _ (laws_eqIntS x20608 x20609) (fun (t : Bool) => (dB t, [])) [] none).run = some (r, H')) : Awp laws_eqIntS_ctx LL (bodyOf Try.f34) laws_eqIntS_an ⟨mkE 26 0 [(0, dL x20608), (1, dL x20609)], []⟩ (Ret (tlook tys) Try.f34.results.toList r H') :=
  ret_of' (Link.cast (by kernel_rfl) (by kernel_rfl) (laws_eqIntS_n9_l x20608 x20609)) (by unfold laws_eqIntS; kernel_rfl) (by
  intro t
  exact ret_mk [dB t] (by kernel_rfl) (by kernel_rfl) (by kernel_rfl) (by kernel_rfl)) h

def F_laws_eqIntS : Fun := fun avs H =>
  match avs, H with
  | [.dat (.list (.int .i64)) x20608, .dat (.list (.int .i64)) x20609], [] => ⟨_, laws_eqIntS x20608 x20609, fun (t : Bool) => (dB t, []), [], none⟩
  | _, _ => Ans.no

theorem laws_eqIntS_sound : Sound Try.prog 34 F_laws_eqIntS := by
  refine fn_sound' (C := laws_eqIntS_ctx) (c := bodyOf Try.f34) (cok_of tys_ok (alln) (alln) (by kernel_rfl)) Try.func34 (by kernel_rfl) LL laws_eqIntS_an ?_
  intro avs H r H' h
  unfold F_laws_eqIntS at h
  split at h
  · refine Awp.cast ?_ ?_ ?_ (laws_eqIntS_e _ _ h) <;> kernel_rfl
  · simp [Ans.no, Ans.run] at h


/-! loop.example/headtrees/laws.eqIntSS -/

def laws_eqIntSS_an : Ann := (.seq (.leaf [0, 1]) (.seq (.seq (.leaf [0, 1, 10]) (.cond (.seq (.leaf [4]) (.leaf [4])) (.leaf [0, 1]))) (.seq (.seq (.leaf [0, 1, 5]) (.block (.loop (.seq (.seq (.leaf [0, 1, 5, 14]) (.cond (.leaf [0, 1, 5]) (.leaf []))) (.seq (.block (.seq (.draw [8] [0, 1, 2, 3, 4, 5, 6, 7, 8, 9] [] [0, 1, 5, 26]) (.cond (.seq (.leaf [4]) (.leaf [4])) (.leaf [0, 1, 5])))) (.leaf [0, 1, 5])))))) (.seq (.leaf [4]) (.leaf [4])))))

noncomputable def laws_eqIntSS_ctx : Ctx := ⟨tlook tys, olook [(34, F_laws_eqIntS)], ioF, 0, false, []⟩

theorem laws_eqIntSS_n1_l (x20597 : List (List Int)) (x20598 : List (List Int)) : Link laws_eqIntSS_ctx LL (Code.seq (cq [0] (bodyOf Try.f31)) (cq [0,1] (bodyOf Try.f31))) (Ann.seq (aq [0] laws_eqIntSS_an) (aq [0,1] laws_eqIntSS_an)) ⟨mkE 27 0 [(0, .dat (.list (.list (.int .i64))) x20597), (1, .dat (.list (.list (.int .i64))) x20598)], []⟩ (laws_eqIntSS_n1 x20597 x20598) (Sum.elim (fun (t : Unit) => (Exit.normal, ⟨mkE 27 0 [(0, .dat (.list (.list (.int .i64))) x20597), (1, .dat (.list (.list (.int .i64))) x20598)], []⟩)) (fun (t : Bool) => (Exit.ret, ⟨mkE 27 0 [(4, dB t)], []⟩))) := by
  refine Link.of fun K h => ?_
  simp only [laws_eqIntSS_n1, wpO_bind, wpO_cond, wpO_map, wpO_some] at h
  exact Awp.of (by kernel_rfl) h

theorem laws_eqIntSS_n2_l (x20597 : List (List Int)) (x20598 : List (List Int)) : Link laws_eqIntSS_ctx LL (cq [0,0,1,1] (bodyOf Try.f31)) (aq [0,0,1,1] laws_eqIntSS_an) ⟨mkE 27 0 [(0, .dat (.list (.list (.int .i64))) x20597), (1, .dat (.list (.list (.int .i64))) x20598)], []⟩ (laws_eqIntSS_n2) (fun (t : Unit) => (Exit.normal, ⟨mkE 27 0 [(0, .dat (.list (.list (.int .i64))) x20597), (1, .dat (.list (.list (.int .i64))) x20598), (5, dI 0)], []⟩)) := by
  refine Link.of fun K h => ?_
  simp only [laws_eqIntSS_n2, wpO_bind, wpO_cond, wpO_map, wpO_some] at h
  exact Awp.of (by kernel_rfl) h

theorem laws_eqIntSS_n3_l (x20597 : List (List Int)) (x20598 : List (List Int)) (x20650 : Int) : Link laws_eqIntSS_ctx LL (cq [0,0,1,0,1,1] (bodyOf Try.f31)) (aq [0,0,1,0,1,1] laws_eqIntSS_an) ⟨mkE 27 0 [(0, .dat (.list (.list (.int .i64))) x20597), (1, .dat (.list (.list (.int .i64))) x20598), (5, dI x20650)], []⟩ (laws_eqIntSS_n3 x20597 x20598 x20650) (Sum.elim (fun (t : Int) => (Exit.normal, ⟨mkE 27 0 [(0, .dat (.list (.list (.int .i64))) x20597), (1, .dat (.list (.list (.int .i64))) x20598), (5, dI t)], []⟩)) (Sum.elim (fun (t : Bool) => (Exit.ret, ⟨mkE 27 0 [(4, dB t)], []⟩)) (fun (t : Unit) => ((Exit.exit 0), ⟨mkE 27 0 [], []⟩)))) := by
  refine Link.of fun K h => ?_
  simp only [laws_eqIntSS_n3, wpO_bind, wpO_cond, wpO_map, wpO_some] at h
  exact Awp.of (by kernel_rfl) h

def laws_eqIntSS_n4_l (x20597 : List (List Int)) (x20598 : List (List Int)) := (link_loop (mk := fun (s : Int) => ⟨mkE 27 0 [(0, .dat (.list (.list (.int .i64))) x20597), (1, .dat (.list (.list (.int .i64))) x20598), (5, dI s)], []⟩) (fin := (Sum.elim (fun (t : Bool) => (Exit.ret, ⟨mkE 27 0 [(4, dB t)], []⟩)) (fun (t : Unit) => ((Exit.exit 0), ⟨mkE 27 0 [], []⟩)))) (by
  rintro (t | t) f K h
  · exact h
  · exact h) (fun s => link_map (laws_eqIntSS_n3_l x20597 x20598 s) (Sum.elim (fun (t : Int) => Sum.inl t) (Sum.elim (fun (t : Bool) => Sum.inr (Sum.inl t)) (fun (t : Unit) => Sum.inr (Sum.inr t)))) (by
  rintro (t | t | t)
  · kernel_rfl
  · kernel_rfl
  · kernel_rfl)) 0)

def laws_eqIntSS_n5_l (x20597 : List (List Int)) (x20598 : List (List Int)) := (link_block (fin2 := (Sum.elim (fun (t : Unit) => (Exit.normal, ⟨mkE 27 0 [], []⟩)) (fun (t : Bool) => (Exit.ret, ⟨mkE 27 0 [(4, dB t)], []⟩)))) (id := 0) (laws_eqIntSS_n4_l x20597 x20598) (Sum.elim (fun (t : Bool) => (Sum.inr t)) (fun (t : Unit) => (Sum.inl ()))) (by
  rintro (t | t) K h
  · exact Eq.mp (by kernel_rfl) h
  · exact Eq.mp (by kernel_rfl) h))

def laws_eqIntSS_n6_l (x20597 : List (List Int)) (x20598 : List (List Int)) := (link_seq (laws_eqIntSS_n2_l x20597 x20598) (fun (t : Unit) => (laws_eqIntSS_n5_l x20597 x20598)))

theorem laws_eqIntSS_n7_l : Link laws_eqIntSS_ctx LL (cq [1,1,1] (bodyOf Try.f31)) (aq [1,1,1] laws_eqIntSS_an) ⟨mkE 27 0 [], []⟩ (laws_eqIntSS_n7) (fun (t : Bool) => (Exit.ret, ⟨mkE 27 0 [(4, dB t)], []⟩)) := by
  refine Link.of fun K h => ?_
  simp only [laws_eqIntSS_n7, wpO_bind, wpO_cond, wpO_map, wpO_some] at h
  exact Awp.of (by kernel_rfl) h

def laws_eqIntSS_n8_l (x20597 : List (List Int)) (x20598 : List (List Int)) := (link_seq2 (laws_eqIntSS_n6_l x20597 x20598) (fun (t : Unit) => (laws_eqIntSS_n7_l)) (fun (t : Bool) => t) (by
  rintro t
  · kernel_rfl) (by
  rintro t f K h
  · exact h))

def laws_eqIntSS_n9_l (x20597 : List (List Int)) (x20598 : List (List Int)) := (link_group (c := (cq [0,1] (bodyOf Try.f31))) (a := (aq [0,1] laws_eqIntSS_an)) [(cq [0] (bodyOf Try.f31))] [(aq [0] laws_eqIntSS_an)] rfl (link_seq2 (laws_eqIntSS_n1_l x20597 x20598) (fun (t : Unit) => (laws_eqIntSS_n8_l x20597 x20598)) (fun (t : Bool) => t) (by
  rintro t
  · kernel_rfl) (by
  rintro t f K h
  · exact h)))

theorem laws_eqIntSS_e (x20597 : List (List Int)) (x20598 : List (List Int)) {r : AV} {H' : Heap} (h : (Ans.mk _ (laws_eqIntSS x20597 x20598) (fun (t : Bool) => (dB t, [])) [] none).run = some (r, H')) : Awp laws_eqIntSS_ctx LL (bodyOf Try.f31) laws_eqIntSS_an ⟨mkE 27 0 [(0, .dat (.list (.list (.int .i64))) x20597), (1, .dat (.list (.list (.int .i64))) x20598)], []⟩ (Ret (tlook tys) Try.f31.results.toList r H') :=
  ret_of' (Link.cast (by kernel_rfl) (by kernel_rfl) (laws_eqIntSS_n9_l x20597 x20598)) (by unfold laws_eqIntSS; kernel_rfl) (by
  intro t
  exact ret_mk [dB t] (by kernel_rfl) (by kernel_rfl) (by kernel_rfl) (by kernel_rfl)) h

def F_laws_eqIntSS : Fun := fun avs H =>
  match avs, H with
  | [.dat (.list (.list (.int .i64))) x20597, .dat (.list (.list (.int .i64))) x20598], [] => ⟨_, laws_eqIntSS x20597 x20598, fun (t : Bool) => (dB t, []), [], none⟩
  | _, _ => Ans.no

theorem laws_eqIntSS_sound : Sound Try.prog 31 F_laws_eqIntSS := by
  refine fn_sound' (C := laws_eqIntSS_ctx) (c := bodyOf Try.f31) (cok_of tys_ok (allc laws_eqIntS_sound alln) (allc Try.call34 alln) (by kernel_rfl)) Try.func31 (by kernel_rfl) LL laws_eqIntSS_an ?_
  intro avs H r H' h
  unfold F_laws_eqIntSS at h
  split at h
  · refine Awp.cast ?_ ?_ ?_ (laws_eqIntSS_e _ _ h) <;> kernel_rfl
  · simp [Ans.no, Ans.run] at h


/-! loop.example/headtrees/laws.FnExactBestFlat -/

def laws_FnExactBestFlat_an : Ann := (.seq (.leaf [0]) (.seq (.leaf [0, 3]) (.seq (.leaf [0, 3]) (.seq (.seq (.leaf [0, 11]) (.cond (.seq (.leaf [2]) (.leaf [2])) (.leaf [0]))) (.seq (.leaf [0, 4]) (.seq (.leaf [0, 4, 5]) (.seq (.leaf [0, 4, 5, 6]) (.seq (.seq (.leaf [0, 5, 21]) (.cond (.seq (.leaf [2]) (.leaf [2])) (.leaf [0, 5]))) (.seq (.seq (.leaf [26]) (.cond (.seq (.leaf [2]) (.leaf [2])) (.leaf []))) (.seq (.leaf [2]) (.leaf [2])))))))))))

noncomputable def laws_FnExactBestFlat_ctx : Ctx := ⟨tlook tys, olook [(29, F_laws_szIntSS), (30, F_laws_toIntSS), (21, F_spec_BestFlat), (19, F_impl_BestFlat), (31, F_laws_eqIntSS)], ioF, 0, false, []⟩

theorem laws_FnExactBestFlat_n1_l (x20875 : List (List Int)) : Link laws_FnExactBestFlat_ctx LL (bodyOf Try.f10) laws_FnExactBestFlat_an ⟨mkE 27 0 [(0, .dat (.list (.list (.int .i64))) x20875)], []⟩ (laws_FnExactBestFlat_n1 x20875) (fun (t : Bool) => (Exit.ret, ⟨mkE 27 0 [(2, dB t)], []⟩)) := by
  refine Link.of fun K h => ?_
  simp only [laws_FnExactBestFlat_n1, wpO_bind, wpO_cond, wpO_map, wpO_some] at h
  exact Awp.of (by kernel_rfl) h

theorem laws_FnExactBestFlat_e (x20875 : List (List Int)) {r : AV} {H' : Heap} (h : (Ans.mk _ (laws_FnExactBestFlat x20875) (fun (t : Bool) => (dB t, [])) [] none).run = some (r, H')) : Awp laws_FnExactBestFlat_ctx LL (bodyOf Try.f10) laws_FnExactBestFlat_an ⟨mkE 27 0 [(0, .dat (.list (.list (.int .i64))) x20875)], []⟩ (Ret (tlook tys) Try.f10.results.toList r H') :=
  ret_of' (laws_FnExactBestFlat_n1_l x20875) (by unfold laws_FnExactBestFlat; kernel_rfl) (by
  intro t
  exact ret_mk [dB t] (by kernel_rfl) (by kernel_rfl) (by kernel_rfl) (by kernel_rfl)) h

def F_laws_FnExactBestFlat : Fun := fun avs H =>
  match avs, H with
  | [.dat (.list (.list (.int .i64))) x20875], [] => ⟨_, laws_FnExactBestFlat x20875, fun (t : Bool) => (dB t, []), [], none⟩
  | _, _ => Ans.no

theorem laws_FnExactBestFlat_sound : Sound Try.prog 10 F_laws_FnExactBestFlat := by
  refine fn_sound' (C := laws_FnExactBestFlat_ctx) (c := bodyOf Try.f10) (cok_of tys_ok (allc laws_szIntSS_sound (allc laws_toIntSS_sound (allc spec_BestFlat_sound (allc impl_BestFlat_sound (allc laws_eqIntSS_sound alln))))) (allc Try.call29 (allc Try.call30 (allc Try.call21 (allc Try.call19 (allc Try.call31 alln))))) (by kernel_rfl)) Try.func10 (by kernel_rfl) LL laws_FnExactBestFlat_an ?_
  intro avs H r H' h
  unfold F_laws_FnExactBestFlat at h
  split at h
  · refine Awp.cast ?_ ?_ ?_ (laws_FnExactBestFlat_e _ h) <;> kernel_rfl
  · simp [Ans.no, Ans.run] at h


end Go.Rv
