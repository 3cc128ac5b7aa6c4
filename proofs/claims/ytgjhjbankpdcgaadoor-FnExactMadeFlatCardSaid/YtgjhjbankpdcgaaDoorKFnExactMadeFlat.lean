/-
  The checked code answers as the plain functions do; written by program. Conditions: none.
-/
import Derived.Test.YtgjhjbankpdcgaaDoorGFnExactMadeFlat
import Derived.Test.YtgjhjbankpdcgaaDoorProg
set_option linter.unusedVariables false
set_option linter.unusedSimpArgs false
set_option linter.defProp false
set_option maxRecDepth 100000
namespace Go.Rv
open Go.Proofs
theorem ty3 : TIOk Tryd.prog 3 ⟨.int .i64, 1, 8, some (.int .i64), [.int .i64 0], false⟩ := ⟨⟨infoOf (Tryd.prog.info? 3), by kernel_rfl, by kernel_rfl, by kernel_rfl, .int .i64 0, by kernel_rfl, by kernel_rfl⟩, (by kernel_rfl : Tryd.prog.underlying 3 = some (.int .i64)), no_eq⟩
theorem ty4 : TIOk Tryd.prog 4 ⟨.bool, 1, 1, some .bool, [.bool false], false⟩ := ⟨⟨infoOf (Tryd.prog.info? 4), by kernel_rfl, by kernel_rfl, by kernel_rfl, .bool false, by kernel_rfl, by kernel_rfl⟩, (by kernel_rfl : Tryd.prog.underlying 4 = some .bool), no_eq⟩
theorem ty5 : TIOk Tryd.prog 5 ⟨.int .u8, 1, 1, some (.int .u8), [.int .u8 0], false⟩ := ⟨⟨infoOf (Tryd.prog.info? 5), by kernel_rfl, by kernel_rfl, by kernel_rfl, .int .u8 0, by kernel_rfl, by kernel_rfl⟩, (by kernel_rfl : Tryd.prog.underlying 5 = some (.int .u8)), no_eq⟩
theorem ty9 : TIOk Tryd.prog 9 ⟨.str, 1, 16, some .str, [.string ByteArray.empty], false⟩ := ⟨⟨infoOf (Tryd.prog.info? 9), by kernel_rfl, by kernel_rfl, by kernel_rfl, .string ByteArray.empty, by kernel_rfl, by kernel_rfl⟩, (by kernel_rfl : Tryd.prog.underlying 9 = some .string), no_eq⟩
theorem ty22 : TIOk Tryd.prog 22 ⟨.slice 5, 1, 24, some (.list (.int .u8)), [.slice none 0 0], false⟩ := ⟨⟨infoOf (Tryd.prog.info? 22), by kernel_rfl, by kernel_rfl, by kernel_rfl, .slice none 0 0, by kernel_rfl, by kernel_rfl⟩, (by kernel_rfl : Tryd.prog.underlying 22 = some (.slice 5)), no_eq⟩
theorem ty23 : TIOk Tryd.prog 23 ⟨.slice 3, 1, 24, some (.list (.int .i64)), [.slice none 0 0], false⟩ := ⟨⟨infoOf (Tryd.prog.info? 23), by kernel_rfl, by kernel_rfl, by kernel_rfl, .slice none 0 0, by kernel_rfl, by kernel_rfl⟩, (by kernel_rfl : Tryd.prog.underlying 23 = some (.slice 3)), no_eq⟩
theorem ty51 : TIOk Tryd.prog 51 ⟨.int .u64, 1, 8, some (.int .u64), [.int .u64 0], false⟩ := ⟨⟨infoOf (Tryd.prog.info? 51), by kernel_rfl, by kernel_rfl, by kernel_rfl, .int .u64 0, by kernel_rfl, by kernel_rfl⟩, (by kernel_rfl : Tryd.prog.underlying 51 = some (.int .u64)), no_eq⟩
theorem ty59 : TIOk Tryd.prog 59 ⟨.arr 7 3, 7, 56, none, [.int .i64 0, .int .i64 0, .int .i64 0, .int .i64 0, .int .i64 0, .int .i64 0, .int .i64 0], false⟩ := ⟨⟨infoOf (Tryd.prog.info? 59), by kernel_rfl, by kernel_rfl, by kernel_rfl, .agg #[.int .i64 0, .int .i64 0, .int .i64 0, .int .i64 0, .int .i64 0, .int .i64 0, .int .i64 0], by kernel_rfl, by kernel_rfl⟩, (by kernel_rfl : Tryd.prog.underlying 59 = some (.array 7 3)), no_eq⟩
theorem ty61 : TIOk Tryd.prog 61 ⟨.strct [(0, 59), (7, 59)], 14, 112, none, [.int .i64 0, .int .i64 0, .int .i64 0, .int .i64 0, .int .i64 0, .int .i64 0, .int .i64 0, .int .i64 0, .int .i64 0, .int .i64 0, .int .i64 0, .int .i64 0, .int .i64 0, .int .i64 0], false⟩ := ⟨⟨infoOf (Tryd.prog.info? 61), by kernel_rfl, by kernel_rfl, by kernel_rfl, .agg #[.int .i64 0, .int .i64 0, .int .i64 0, .int .i64 0, .int .i64 0, .int .i64 0, .int .i64 0, .int .i64 0, .int .i64 0, .int .i64 0, .int .i64 0, .int .i64 0, .int .i64 0, .int .i64 0], by kernel_rfl, by kernel_rfl⟩, ⟨fieldsOf (Tryd.prog.underlying 61), by kernel_rfl, by kernel_rfl⟩, no_eq⟩
theorem ty65 : TIOk Tryd.prog 65 ⟨.strct [(0, 3), (1, 3)], 2, 16, some (.pair (.int .i64) (.pair (.int .i64) .unit)), [.int .i64 0, .int .i64 0], false⟩ := ⟨⟨infoOf (Tryd.prog.info? 65), by kernel_rfl, by kernel_rfl, by kernel_rfl, .agg #[.int .i64 0, .int .i64 0], by kernel_rfl, by kernel_rfl⟩, ⟨fieldsOf (Tryd.prog.underlying 65), by kernel_rfl, by kernel_rfl⟩, no_eq⟩
theorem ty67 : TIOk Tryd.prog 67 ⟨.slice 51, 1, 24, some (.list (.int .u64)), [.slice none 0 0], false⟩ := ⟨⟨infoOf (Tryd.prog.info? 67), by kernel_rfl, by kernel_rfl, by kernel_rfl, .slice none 0 0, by kernel_rfl, by kernel_rfl⟩, (by kernel_rfl : Tryd.prog.underlying 67 = some (.slice 51)), no_eq⟩
theorem ty71 : TIOk Tryd.prog 71 ⟨.strct [(0, 23), (1, 3), (2, 3)], 3, 40, some (.pair (.list (.int .i64)) (.pair (.int .i64) (.pair (.int .i64) .unit))), [.slice none 0 0, .int .i64 0, .int .i64 0], false⟩ := ⟨⟨infoOf (Tryd.prog.info? 71), by kernel_rfl, by kernel_rfl, by kernel_rfl, .agg #[.slice none 0 0, .int .i64 0, .int .i64 0], by kernel_rfl, by kernel_rfl⟩, ⟨fieldsOf (Tryd.prog.underlying 71), by kernel_rfl, by kernel_rfl⟩, no_eq⟩
theorem ty78 : TIOk Tryd.prog 78 ⟨.arr 9 4, 9, 9, none, [.bool false, .bool false, .bool false, .bool false, .bool false, .bool false, .bool false, .bool false, .bool false], false⟩ := ⟨⟨infoOf (Tryd.prog.info? 78), by kernel_rfl, by kernel_rfl, by kernel_rfl, .agg #[.bool false, .bool false, .bool false, .bool false, .bool false, .bool false, .bool false, .bool false, .bool false], by kernel_rfl, by kernel_rfl⟩, (by kernel_rfl : Tryd.prog.underlying 78 = some (.array 9 4)), no_eq⟩
theorem ty79 : TIOk Tryd.prog 79 ⟨.scalar, 1, 8, none, [.pointer none], false⟩ := ⟨⟨infoOf (Tryd.prog.info? 79), by kernel_rfl, by kernel_rfl, by kernel_rfl, .pointer none, by kernel_rfl, by kernel_rfl⟩, ⟨descOf (Tryd.prog.underlying 79), by kernel_rfl, by kernel_rfl⟩, no_eq⟩
theorem ty81 : TIOk Tryd.prog 81 ⟨.map 5 85, 1, 8, none, [.map none], false⟩ := ⟨⟨infoOf (Tryd.prog.info? 81), by kernel_rfl, by kernel_rfl, by kernel_rfl, .map none, by kernel_rfl, by kernel_rfl⟩, (by kernel_rfl : Tryd.prog.underlying 81 = some (.map 5 85)), no_eq⟩
theorem ty85 : TIOk Tryd.prog 85 ⟨.scalar, 1, 8, none, [.nilFunc], false⟩ := ⟨⟨infoOf (Tryd.prog.info? 85), by kernel_rfl, by kernel_rfl, by kernel_rfl, .nilFunc, by kernel_rfl, by kernel_rfl⟩, ⟨descOf (Tryd.prog.underlying 85), by kernel_rfl, by kernel_rfl⟩, no_eq⟩
theorem ty89 : TIOk Tryd.prog 89 ⟨.strct [(0, 23), (1, 23), (2, 3), (3, 3)], 4, 64, some (.pair (.list (.int .i64)) (.pair (.list (.int .i64)) (.pair (.int .i64) (.pair (.int .i64) .unit)))), [.slice none 0 0, .slice none 0 0, .int .i64 0, .int .i64 0], false⟩ := ⟨⟨infoOf (Tryd.prog.info? 89), by kernel_rfl, by kernel_rfl, by kernel_rfl, .agg #[.slice none 0 0, .slice none 0 0, .int .i64 0, .int .i64 0], by kernel_rfl, by kernel_rfl⟩, ⟨fieldsOf (Tryd.prog.underlying 89), by kernel_rfl, by kernel_rfl⟩, no_eq⟩
theorem ty91 : TIOk Tryd.prog 91 ⟨.strct [(0, 22), (1, 3)], 2, 32, some (.pair (.list (.int .u8)) (.pair (.int .i64) .unit)), [.slice none 0 0, .int .i64 0], false⟩ := ⟨⟨infoOf (Tryd.prog.info? 91), by kernel_rfl, by kernel_rfl, by kernel_rfl, .agg #[.slice none 0 0, .int .i64 0], by kernel_rfl, by kernel_rfl⟩, ⟨fieldsOf (Tryd.prog.underlying 91), by kernel_rfl, by kernel_rfl⟩, no_eq⟩
theorem ty95 : TIOk Tryd.prog 95 ⟨.strct [(0, 59), (7, 59)], 14, 112, none, [.int .i64 0, .int .i64 0, .int .i64 0, .int .i64 0, .int .i64 0, .int .i64 0, .int .i64 0, .int .i64 0, .int .i64 0, .int .i64 0, .int .i64 0, .int .i64 0, .int .i64 0, .int .i64 0], false⟩ := ⟨⟨infoOf (Tryd.prog.info? 95), by kernel_rfl, by kernel_rfl, by kernel_rfl, .agg #[.int .i64 0, .int .i64 0, .int .i64 0, .int .i64 0, .int .i64 0, .int .i64 0, .int .i64 0, .int .i64 0, .int .i64 0, .int .i64 0, .int .i64 0, .int .i64 0, .int .i64 0, .int .i64 0], by kernel_rfl, by kernel_rfl⟩, ⟨fieldsOf (Tryd.prog.underlying 95), by kernel_rfl, by kernel_rfl⟩, no_eq⟩
theorem ty107 : TIOk Tryd.prog 107 ⟨.scalar, 1, 8, none, [.nilFunc], false⟩ := ⟨⟨infoOf (Tryd.prog.info? 107), by kernel_rfl, by kernel_rfl, by kernel_rfl, .nilFunc, by kernel_rfl, by kernel_rfl⟩, ⟨descOf (Tryd.prog.underlying 107), by kernel_rfl, by kernel_rfl⟩, no_eq⟩
theorem ty113 : TIOk Tryd.prog 113 ⟨.int .u64, 1, 8, some (.int .u64), [.int .u64 0], false⟩ := ⟨⟨infoOf (Tryd.prog.info? 113), by kernel_rfl, by kernel_rfl, by kernel_rfl, .int .u64 0, by kernel_rfl, by kernel_rfl⟩, (by kernel_rfl : Tryd.prog.underlying 113 = some (.int .u64)), no_eq⟩
theorem ty119 : TIOk Tryd.prog 119 ⟨.arr 64 5, 64, 64, none, [.int .u8 0, .int .u8 0, .int .u8 0, .int .u8 0, .int .u8 0, .int .u8 0, .int .u8 0, .int .u8 0, .int .u8 0, .int .u8 0, .int .u8 0, .int .u8 0, .int .u8 0, .int .u8 0, .int .u8 0, .int .u8 0, .int .u8 0, .int .u8 0, .int .u8 0, .int .u8 0, .int .u8 0, .int .u8 0, .int .u8 0, .int .u8 0, .int .u8 0, .int .u8 0, .int .u8 0, .int .u8 0, .int .u8 0, .int .u8 0, .int .u8 0, .int .u8 0, .int .u8 0, .int .u8 0, .int .u8 0, .int .u8 0, .int .u8 0, .int .u8 0, .int .u8 0, .int .u8 0, .int .u8 0, .int .u8 0, .int .u8 0, .int .u8 0, .int .u8 0, .int .u8 0, .int .u8 0, .int .u8 0, .int .u8 0, .int .u8 0, .int .u8 0, .int .u8 0, .int .u8 0, .int .u8 0, .int .u8 0, .int .u8 0, .int .u8 0, .int .u8 0, .int .u8 0, .int .u8 0, .int .u8 0, .int .u8 0, .int .u8 0, .int .u8 0], false⟩ := ⟨⟨infoOf (Tryd.prog.info? 119), by kernel_rfl, by kernel_rfl, by kernel_rfl, .agg #[.int .u8 0, .int .u8 0, .int .u8 0, .int .u8 0, .int .u8 0, .int .u8 0, .int .u8 0, .int .u8 0, .int .u8 0, .int .u8 0, .int .u8 0, .int .u8 0, .int .u8 0, .int .u8 0, .int .u8 0, .int .u8 0, .int .u8 0, .int .u8 0, .int .u8 0, .int .u8 0, .int .u8 0, .int .u8 0, .int .u8 0, .int .u8 0, .int .u8 0, .int .u8 0, .int .u8 0, .int .u8 0, .int .u8 0, .int .u8 0, .int .u8 0, .int .u8 0, .int .u8 0, .int .u8 0, .int .u8 0, .int .u8 0, .int .u8 0, .int .u8 0, .int .u8 0, .int .u8 0, .int .u8 0, .int .u8 0, .int .u8 0, .int .u8 0, .int .u8 0, .int .u8 0, .int .u8 0, .int .u8 0, .int .u8 0, .int .u8 0, .int .u8 0, .int .u8 0, .int .u8 0, .int .u8 0, .int .u8 0, .int .u8 0, .int .u8 0, .int .u8 0, .int .u8 0, .int .u8 0, .int .u8 0, .int .u8 0, .int .u8 0, .int .u8 0], by kernel_rfl, by kernel_rfl⟩, (by kernel_rfl : Tryd.prog.underlying 119 = some (.array 64 5)), no_eq⟩
theorem ty121 : TIOk Tryd.prog 121 ⟨.slice 23, 1, 24, some (.list (.list (.int .i64))), [.slice none 0 0], false⟩ := ⟨⟨infoOf (Tryd.prog.info? 121), by kernel_rfl, by kernel_rfl, by kernel_rfl, .slice none 0 0, by kernel_rfl, by kernel_rfl⟩, (by kernel_rfl : Tryd.prog.underlying 121 = some (.slice 23)), no_eq⟩
def tys : List (TypeId × TI) := [(3, ⟨.int .i64, 1, 8, some (.int .i64), [.int .i64 0], false⟩), (4, ⟨.bool, 1, 1, some .bool, [.bool false], false⟩), (5, ⟨.int .u8, 1, 1, some (.int .u8), [.int .u8 0], false⟩), (9, ⟨.str, 1, 16, some .str, [.string ByteArray.empty], false⟩), (22, ⟨.slice 5, 1, 24, some (.list (.int .u8)), [.slice none 0 0], false⟩), (23, ⟨.slice 3, 1, 24, some (.list (.int .i64)), [.slice none 0 0], false⟩), (51, ⟨.int .u64, 1, 8, some (.int .u64), [.int .u64 0], false⟩), (59, ⟨.arr 7 3, 7, 56, none, [.int .i64 0, .int .i64 0, .int .i64 0, .int .i64 0, .int .i64 0, .int .i64 0, .int .i64 0], false⟩), (61, ⟨.strct [(0, 59), (7, 59)], 14, 112, none, [.int .i64 0, .int .i64 0, .int .i64 0, .int .i64 0, .int .i64 0, .int .i64 0, .int .i64 0, .int .i64 0, .int .i64 0, .int .i64 0, .int .i64 0, .int .i64 0, .int .i64 0, .int .i64 0], false⟩), (65, ⟨.strct [(0, 3), (1, 3)], 2, 16, some (.pair (.int .i64) (.pair (.int .i64) .unit)), [.int .i64 0, .int .i64 0], false⟩), (67, ⟨.slice 51, 1, 24, some (.list (.int .u64)), [.slice none 0 0], false⟩), (71, ⟨.strct [(0, 23), (1, 3), (2, 3)], 3, 40, some (.pair (.list (.int .i64)) (.pair (.int .i64) (.pair (.int .i64) .unit))), [.slice none 0 0, .int .i64 0, .int .i64 0], false⟩), (78, ⟨.arr 9 4, 9, 9, none, [.bool false, .bool false, .bool false, .bool false, .bool false, .bool false, .bool false, .bool false, .bool false], false⟩), (79, ⟨.scalar, 1, 8, none, [.pointer none], false⟩), (81, ⟨.map 5 85, 1, 8, none, [.map none], false⟩), (85, ⟨.scalar, 1, 8, none, [.nilFunc], false⟩), (89, ⟨.strct [(0, 23), (1, 23), (2, 3), (3, 3)], 4, 64, some (.pair (.list (.int .i64)) (.pair (.list (.int .i64)) (.pair (.int .i64) (.pair (.int .i64) .unit)))), [.slice none 0 0, .slice none 0 0, .int .i64 0, .int .i64 0], false⟩), (91, ⟨.strct [(0, 22), (1, 3)], 2, 32, some (.pair (.list (.int .u8)) (.pair (.int .i64) .unit)), [.slice none 0 0, .int .i64 0], false⟩), (95, ⟨.strct [(0, 59), (7, 59)], 14, 112, none, [.int .i64 0, .int .i64 0, .int .i64 0, .int .i64 0, .int .i64 0, .int .i64 0, .int .i64 0, .int .i64 0, .int .i64 0, .int .i64 0, .int .i64 0, .int .i64 0, .int .i64 0, .int .i64 0], false⟩), (107, ⟨.scalar, 1, 8, none, [.nilFunc], false⟩), (113, ⟨.int .u64, 1, 8, some (.int .u64), [.int .u64 0], false⟩), (119, ⟨.arr 64 5, 64, 64, none, [.int .u8 0, .int .u8 0, .int .u8 0, .int .u8 0, .int .u8 0, .int .u8 0, .int .u8 0, .int .u8 0, .int .u8 0, .int .u8 0, .int .u8 0, .int .u8 0, .int .u8 0, .int .u8 0, .int .u8 0, .int .u8 0, .int .u8 0, .int .u8 0, .int .u8 0, .int .u8 0, .int .u8 0, .int .u8 0, .int .u8 0, .int .u8 0, .int .u8 0, .int .u8 0, .int .u8 0, .int .u8 0, .int .u8 0, .int .u8 0, .int .u8 0, .int .u8 0, .int .u8 0, .int .u8 0, .int .u8 0, .int .u8 0, .int .u8 0, .int .u8 0, .int .u8 0, .int .u8 0, .int .u8 0, .int .u8 0, .int .u8 0, .int .u8 0, .int .u8 0, .int .u8 0, .int .u8 0, .int .u8 0, .int .u8 0, .int .u8 0, .int .u8 0, .int .u8 0, .int .u8 0, .int .u8 0, .int .u8 0, .int .u8 0, .int .u8 0, .int .u8 0, .int .u8 0, .int .u8 0, .int .u8 0, .int .u8 0, .int .u8 0, .int .u8 0], false⟩), (121, ⟨.slice 23, 1, 24, some (.list (.list (.int .i64))), [.slice none 0 0], false⟩)]
theorem tys_ok : TOk Tryd.prog (tlook tys) := tok_of (allc ty3 (allc ty4 (allc ty5 (allc ty9 (allc ty22 (allc ty23 (allc ty51 (allc ty59 (allc ty61 (allc ty65 (allc ty67 (allc ty71 (allc ty78 (allc ty79 (allc ty81 (allc ty85 (allc ty89 (allc ty91 (allc ty95 (allc ty107 (allc ty113 (allc ty119 (allc ty121 alln)))))))))))))))))))))))
def ioF (f : FuncId) (i : Nat) : Bool := [(44, 0), (58, 1), (60, 0), (70, 0), (93, 1), (95, 0), (96, 0), (99, 1), (104, 0), (124, 0)].any fun (p : Nat × Nat) => Nat.beq p.1 f && Nat.beq p.2 i


/-! loop.example/headtrees/impl.oneRoot -/

def impl_oneRoot_an : Ann := (.seq (.leaf [0]) (.seq (.leaf [0, 3]) (.seq (.seq (.leaf [0, 3, 6, 7, 8]) (.block (.loop (.seq (.leaf [0, 3, 6, 7, 8, 9]) (.seq (.cond (.leaf [0, 3, 6, 7, 8]) (.leaf [3])) (.seq (.block (.seq (.leaf [0, 3, 5, 6, 7, 8]) (.seq (.seq (.leaf [0, 3, 5, 6, 7, 8, 19]) (.cond (.seq (.leaf [2]) (.leaf [2])) (.leaf [0, 3, 5, 6, 7, 8]))) (.seq (.leaf [0, 3, 6, 7, 8, 21]) (.cond (.leaf [0, 3, 6, 7, 8]) (.leaf [0, 3, 6, 7, 8])))))) (.leaf [0, 3, 6, 7, 8]))))))) (.seq (.leaf [2]) (.leaf [2])))))

noncomputable def impl_oneRoot_ctx : Ctx := ⟨tlook tys, olook [], ioF, 0, false, []⟩

theorem impl_oneRoot_n1_l (x840 : List Int) : Link impl_oneRoot_ctx LL (Code.seq (cq [0] (bodyOf Tryd.f72)) (cq [0,1] (bodyOf Tryd.f72))) (Ann.seq (aq [0] impl_oneRoot_an) (aq [0,1] impl_oneRoot_an)) ⟨mkE 27 0 [(0, dL x840)], []⟩ (impl_oneRoot_n1) (fun (t : Unit) => (Exit.normal, ⟨mkE 27 0 [(0, dL x840), (3, dI 0)], []⟩)) := by
  refine Link.of fun K h => ?_
  simp only [impl_oneRoot_n1, wpO_bind, wpO_cond, wpO_map, wpO_some] at h
  exact Awp.of (by kernel_rfl) h

theorem impl_oneRoot_n2_l (x840 : List Int) : Link impl_oneRoot_ctx LL (cq [0,0,1,1] (bodyOf Tryd.f72)) (aq [0,0,1,1] impl_oneRoot_an) ⟨mkE 27 0 [(0, dL x840), (3, dI 0)], []⟩ (impl_oneRoot_n2 x840) (fun (t : Int) => (Exit.normal, ⟨mkE 27 0 [(0, dL x840), (3, dI 0), (6, dL x840), (7, dI t), (8, dI 0)], []⟩)) := by
  refine Link.of fun K h => ?_
  simp only [impl_oneRoot_n2, wpO_bind, wpO_cond, wpO_map, wpO_some] at h
  exact Awp.of (by kernel_rfl) h

theorem impl_oneRoot_n3_l (x840 : List Int) (x862 : Int) (x841 : Int) (x863 : Int) : Link impl_oneRoot_ctx LL (cq [0,0,1,0,1,1] (bodyOf Tryd.f72)) (aq [0,0,1,0,1,1] impl_oneRoot_an) ⟨mkE 27 0 [(0, dL x840), (3, dI x862), (6, dL x840), (7, dI x841), (8, dI x863)], []⟩ (impl_oneRoot_n3 x840 x862 x841 x863) (Sum.elim (fun (t : Int × Int) => (Exit.normal, ⟨mkE 27 0 [(0, dL x840), (3, dI t.1), (6, dL x840), (7, dI x841), (8, dI t.2)], []⟩)) (Sum.elim (fun (t : Bool) => (Exit.ret, ⟨mkE 27 0 [(2, dB t)], []⟩)) (fun (t : Int) => ((Exit.exit 0), ⟨mkE 27 0 [(3, dI t)], []⟩)))) := by
  refine Link.of fun K h => ?_
  simp only [impl_oneRoot_n3, wpO_bind, wpO_cond, wpO_map, wpO_some] at h
  exact Awp.of (by kernel_rfl) h

def impl_oneRoot_n4_l (x840 : List Int) (x841 : Int) := (link_loop (mk := fun (s : Int × Int) => ⟨mkE 27 0 [(0, dL x840), (3, dI s.1), (6, dL x840), (7, dI x841), (8, dI s.2)], []⟩) (fin := (Sum.elim (fun (t : Bool) => (Exit.ret, ⟨mkE 27 0 [(2, dB t)], []⟩)) (fun (t : Int) => ((Exit.exit 0), ⟨mkE 27 0 [(3, dI t)], []⟩)))) (by
  rintro (t | t) f K h
  · exact h
  · exact h) (fun s => link_map (impl_oneRoot_n3_l x840 s.1 x841 s.2) (Sum.elim (fun (t : Int × Int) => Sum.inl (t.1, t.2)) (Sum.elim (fun (t : Bool) => Sum.inr (Sum.inl t)) (fun (t : Int) => Sum.inr (Sum.inr t)))) (by
  rintro (t | t | t)
  · kernel_rfl
  · kernel_rfl
  · kernel_rfl)) (0, 0))

def impl_oneRoot_n5_l (x840 : List Int) (x841 : Int) := (link_block (fin2 := (Sum.elim (fun (t : Int) => (Exit.normal, ⟨mkE 27 0 [(3, dI t)], []⟩)) (fun (t : Bool) => (Exit.ret, ⟨mkE 27 0 [(2, dB t)], []⟩)))) (id := 0) (impl_oneRoot_n4_l x840 x841) (Sum.elim (fun (t : Bool) => (Sum.inr t)) (fun (t : Int) => (Sum.inl t))) (by
  rintro (t | t) K h
  · exact Eq.mp (by kernel_rfl) h
  · exact Eq.mp (by kernel_rfl) h))

def impl_oneRoot_n6_l (x840 : List Int) := (link_seq (impl_oneRoot_n2_l x840) (fun (t : Int) => (impl_oneRoot_n5_l x840 t)))

theorem impl_oneRoot_n7_l (x862 : Int) : Link impl_oneRoot_ctx LL (cq [1,1,1] (bodyOf Tryd.f72)) (aq [1,1,1] impl_oneRoot_an) ⟨mkE 27 0 [(3, dI x862)], []⟩ (impl_oneRoot_n7 x862) (fun (t : Bool) => (Exit.ret, ⟨mkE 27 0 [(2, dB t)], []⟩)) := by
  refine Link.of fun K h => ?_
  simp only [impl_oneRoot_n7, wpO_bind, wpO_cond, wpO_map, wpO_some] at h
  exact Awp.of (by kernel_rfl) h

def impl_oneRoot_n8_l (x840 : List Int) := (link_seq2 (impl_oneRoot_n6_l x840) (fun (t : Int) => (impl_oneRoot_n7_l t)) (fun (t : Bool) => t) (by
  rintro t
  · kernel_rfl) (by
  rintro t f K h
  · exact h))

def impl_oneRoot_n9_l (x840 : List Int) := (link_group (c := (cq [0,1] (bodyOf Tryd.f72))) (a := (aq [0,1] impl_oneRoot_an)) [(cq [0] (bodyOf Tryd.f72))] [(aq [0] impl_oneRoot_an)] rfl (link_seq (impl_oneRoot_n1_l x840) (fun (t : Unit) => (impl_oneRoot_n8_l x840))))

theorem impl_oneRoot_e (x840 : List Int) {r : AV} {H' : Heap} (h : (Ans.mk _ (impl_oneRoot x840) (fun (t : Bool) => (dB t, [])) [] none).run = some (r, H')) : Awp impl_oneRoot_ctx LL (bodyOf Tryd.f72) impl_oneRoot_an ⟨mkE 27 0 [(0, dL x840)], []⟩ (Ret (tlook tys) Tryd.f72.results.toList r H') :=
  ret_of' (Link.cast (by kernel_rfl) (by kernel_rfl) (impl_oneRoot_n9_l x840)) (by unfold impl_oneRoot; kernel_rfl) (by
  intro t
  exact ret_mk [dB t] (by kernel_rfl) (by kernel_rfl) (by kernel_rfl) (by kernel_rfl)) h

def F_impl_oneRoot : Fun := fun avs H =>
  match avs, H with
  | [.dat (.list (.int .i64)) x840], [] => ⟨_, impl_oneRoot x840, fun (t : Bool) => (dB t, []), [], none⟩
  | _, _ => Ans.no

theorem impl_oneRoot_sound : Sound Tryd.prog 72 F_impl_oneRoot := by
  refine fn_sound' (C := impl_oneRoot_ctx) (c := bodyOf Tryd.f72) (cok_of tys_ok (alln) (alln) (by kernel_rfl)) Tryd.func72 (by kernel_rfl) LL impl_oneRoot_an ?_
  intro avs H r H' h
  unfold F_impl_oneRoot at h
  split at h
  · refine Awp.cast ?_ ?_ ?_ (impl_oneRoot_e _ h) <;> kernel_rfl
  · simp [Ans.no, Ans.run] at h


/-! (*loop.example/headtrees/impl.walker).up -/

def impl_walker_up_an : Ann := (.seq (.leaf [0]) (.seq (.draw [] [0, 1, 2, 3, 4, 5, 6, 7, 8, 9, 10, 11] [] [0, 3]) (.seq (.seq (.leaf [0, 3, 16]) (.cond (.seq (.leaf [2]) (.leaf [2])) (.leaf [0, 3]))) (.seq (.leaf [0]) (.seq (.leaf []) (.seq (.leaf [2]) (.leaf [2])))))))

noncomputable def impl_walker_up_ctx : Ctx := ⟨tlook tys, olook [], ioF, 1, false, []⟩

theorem impl_walker_up_n1_l (x896 : List Int) (x897 : Int) (x898 : Int) : Link impl_walker_up_ctx LL (bodyOf Tryd.f64) impl_walker_up_an ⟨mkE 28 0 [(0, .ptr 0 0)], [some (.box [dL x896, dI x897, dI x898])]⟩ (impl_walker_up_n1 x896 x897 x898) (fun (t : Bool × Int × Int) => (Exit.ret, ⟨mkE 28 0 [(2, dB t.1)], [some (.box [dL x896, dI t.2.1, dI t.2.2])]⟩)) := by
  refine Link.of fun K h => ?_
  simp only [impl_walker_up_n1, wpO_bind, wpO_cond, wpO_map, wpO_some] at h
  exact Awp.of (by kernel_rfl) h

theorem impl_walker_up_e (x896 : List Int) (x897 : Int) (x898 : Int) {r : AV} {H' : Heap} (h : (Ans.mk _ (impl_walker_up x896 x897 x898) (fun (t : Bool × Int × Int) => (dB t.1, [some (.box [dL x896, dI t.2.1, dI t.2.2])])) [] none).run = some (r, H')) : Awp impl_walker_up_ctx LL (bodyOf Tryd.f64) impl_walker_up_an ⟨mkE 28 0 [(0, .ptr 0 0)], [some (.box [dL x896, dI x897, dI x898])]⟩ (Ret (tlook tys) Tryd.f64.results.toList r H') :=
  ret_of' (impl_walker_up_n1_l x896 x897 x898) (by unfold impl_walker_up; kernel_rfl) (by
  intro t
  exact ret_mk [dB t.1] (by kernel_rfl) (by kernel_rfl) (by kernel_rfl) (by kernel_rfl)) h

def F_impl_walker_up : Fun := fun avs H =>
  match avs, H with
  | [.ptr 0 0], [some (.box [.dat (.list (.int .i64)) x896, .dat (.int .i64) x897, .dat (.int .i64) x898])] => ⟨_, impl_walker_up x896 x897 x898, fun (t : Bool × Int × Int) => (dB t.1, [some (.box [dL x896, dI t.2.1, dI t.2.2])]), [], none⟩
  | _, _ => Ans.no

theorem impl_walker_up_sound : Sound Tryd.prog 64 F_impl_walker_up := by
  refine fn_sound' (C := impl_walker_up_ctx) (c := bodyOf Tryd.f64) (cok_of tys_ok (alln) (alln) (by kernel_rfl)) Tryd.func64 (by kernel_rfl) LL impl_walker_up_an ?_
  intro avs H r H' h
  unfold F_impl_walker_up at h
  split at h
  · refine Awp.cast ?_ ?_ ?_ (impl_walker_up_e _ _ _ h) <;> kernel_rfl
  · simp [Ans.no, Ans.run] at h


/-! loop.example/headtrees/impl.stepsToRoot -/

def impl_stepsToRoot_an : Ann := (.seq (.leaf [0, 1]) (.seq (.leaf [0, 6]) (.seq (.block (.loop (.seq (.seq (.leaf [0, 6, 10]) (.cond (.leaf [0, 6]) (.leaf [6]))) (.block (.seq (.leaf [0, 6, 15]) (.cond (.seq (.leaf [4, 5]) (.leaf [4, 5])) (.leaf [0, 6]))))))) (.seq (.leaf [4, 5]) (.leaf [4, 5])))))

noncomputable def impl_stepsToRoot_ctx : Ctx := ⟨tlook tys, olook [(64, F_impl_walker_up)], ioF, 0, false, []⟩

theorem impl_stepsToRoot_n1_l (x894 : List Int) (x895 : Int) : Link impl_stepsToRoot_ctx LL (Code.seq (cq [0] (bodyOf Tryd.f73)) (cq [0,1] (bodyOf Tryd.f73))) (Ann.seq (aq [0] impl_stepsToRoot_an) (aq [0,1] impl_stepsToRoot_an)) ⟨mkE 18 0 [(0, dL x894), (1, dI x895)], []⟩ (impl_stepsToRoot_n1) (fun (t : Unit) => (Exit.normal, ⟨mkE 18 0 [(0, dL x894), (6, .ptr 0 0)], [some (.box [dL x894, dI x895, dI 0])]⟩)) := by
  refine Link.of fun K h => ?_
  simp only [impl_stepsToRoot_n1, wpO_bind, wpO_cond, wpO_map, wpO_some] at h
  exact Awp.of (by kernel_rfl) h

theorem impl_stepsToRoot_n2_l (x894 : List Int) (x932 : Int) (x933 : Int) : Link impl_stepsToRoot_ctx LL (cq [0,0,0,1,1] (bodyOf Tryd.f73)) (aq [0,0,0,1,1] impl_stepsToRoot_an) ⟨mkE 18 0 [(0, dL x894), (6, .ptr 0 0)], [some (.box [dL x894, dI x932, dI x933])]⟩ (impl_stepsToRoot_n2 x894 x932 x933) (Sum.elim (fun (t : Int × Int) => (Exit.normal, ⟨mkE 18 0 [(0, dL x894), (6, .ptr 0 0)], [some (.box [dL x894, dI t.1, dI t.2])]⟩)) (Sum.elim (fun (t : Int × Bool) => (Exit.ret, ⟨mkE 18 0 [(4, dI t.1), (5, dB t.2)], []⟩)) (fun (t : Int × Int) => ((Exit.exit 0), ⟨mkE 18 0 [(6, .ptr 0 0)], [some (.box [dL x894, dI t.1, dI t.2])]⟩)))) := by
  refine Link.of fun K h => ?_
  simp only [impl_stepsToRoot_n2, wpO_bind, wpO_cond, wpO_map, wpO_some] at h
  exact Awp.of (by kernel_rfl) h

def impl_stepsToRoot_n3_l (x894 : List Int) (x895 : Int) := (link_loop (mk := fun (s : Int × Int) => ⟨mkE 18 0 [(0, dL x894), (6, .ptr 0 0)], [some (.box [dL x894, dI s.1, dI s.2])]⟩) (fin := (Sum.elim (fun (t : Int × Bool) => (Exit.ret, ⟨mkE 18 0 [(4, dI t.1), (5, dB t.2)], []⟩)) (fun (t : Int × Int) => ((Exit.exit 0), ⟨mkE 18 0 [(6, .ptr 0 0)], [some (.box [dL x894, dI t.1, dI t.2])]⟩)))) (by
  rintro (t | t) f K h
  · exact h
  · exact h) (fun s => link_map (impl_stepsToRoot_n2_l x894 s.1 s.2) (Sum.elim (fun (t : Int × Int) => Sum.inl (t.1, t.2)) (Sum.elim (fun (t : Int × Bool) => Sum.inr (Sum.inl t)) (fun (t : Int × Int) => Sum.inr (Sum.inr t)))) (by
  rintro (t | t | t)
  · kernel_rfl
  · kernel_rfl
  · kernel_rfl)) (x895, 0))

def impl_stepsToRoot_n4_l (x894 : List Int) (x895 : Int) := (link_block (fin2 := (Sum.elim (fun (t : Int × Int) => (Exit.normal, ⟨mkE 18 0 [(6, .ptr 0 0)], [some (.box [dL x894, dI t.1, dI t.2])]⟩)) (fun (t : Int × Bool) => (Exit.ret, ⟨mkE 18 0 [(4, dI t.1), (5, dB t.2)], []⟩)))) (id := 0) (impl_stepsToRoot_n3_l x894 x895) (Sum.elim (fun (t : Int × Bool) => (Sum.inr t)) (fun (t : Int × Int) => (Sum.inl (t.1, t.2)))) (by
  rintro (t | t) K h
  · exact Eq.mp (by kernel_rfl) h
  · exact Eq.mp (by kernel_rfl) h))

theorem impl_stepsToRoot_n5_l (x894 : List Int) (x940 : Int) (x941 : Int) : Link impl_stepsToRoot_ctx LL (cq [1,1,1] (bodyOf Tryd.f73)) (aq [1,1,1] impl_stepsToRoot_an) ⟨mkE 18 0 [(6, .ptr 0 0)], [some (.box [dL x894, dI x940, dI x941])]⟩ (impl_stepsToRoot_n5 x941) (fun (t : Int × Bool) => (Exit.ret, ⟨mkE 18 0 [(4, dI t.1), (5, dB t.2)], []⟩)) := by
  refine Link.of fun K h => ?_
  simp only [impl_stepsToRoot_n5, wpO_bind, wpO_cond, wpO_map, wpO_some] at h
  exact Awp.of (by kernel_rfl) h

def impl_stepsToRoot_n6_l (x894 : List Int) (x895 : Int) := (link_seq2 (impl_stepsToRoot_n4_l x894 x895) (fun (t : Int × Int) => (impl_stepsToRoot_n5_l x894 t.1 t.2)) (fun (t : Int × Bool) => t) (by
  rintro t
  · kernel_rfl) (by
  rintro t f K h
  · exact h))

def impl_stepsToRoot_n7_l (x894 : List Int) (x895 : Int) := (link_group (c := (cq [0,1] (bodyOf Tryd.f73))) (a := (aq [0,1] impl_stepsToRoot_an)) [(cq [0] (bodyOf Tryd.f73))] [(aq [0] impl_stepsToRoot_an)] rfl (link_seq (impl_stepsToRoot_n1_l x894 x895) (fun (t : Unit) => (impl_stepsToRoot_n6_l x894 x895))))

theorem impl_stepsToRoot_e (x894 : List Int) (x895 : Int) {r : AV} {H' : Heap} (h : (Ans.mk _ (impl_stepsToRoot x894 x895) (fun (t : Int × Bool) => (.tup [dI t.1, dB t.2], [])) [] none).run = some (r, H')) : Awp impl_stepsToRoot_ctx LL (bodyOf Tryd.f73) impl_stepsToRoot_an ⟨mkE 18 0 [(0, dL x894), (1, dI x895)], []⟩ (Ret (tlook tys) Tryd.f73.results.toList r H') :=
  ret_of' (Link.cast (by kernel_rfl) (by kernel_rfl) (impl_stepsToRoot_n7_l x894 x895)) (by unfold impl_stepsToRoot; kernel_rfl) (by
  intro t
  exact ret_mk [dI t.1, dB t.2] (by kernel_rfl) (by kernel_rfl) (by kernel_rfl) (by kernel_rfl)) h

def F_impl_stepsToRoot : Fun := fun avs H =>
  match avs, H with
  | [.dat (.list (.int .i64)) x894, .dat (.int .i64) x895], [] => ⟨_, impl_stepsToRoot x894 x895, fun (t : Int × Bool) => (.tup [dI t.1, dB t.2], []), [], none⟩
  | _, _ => Ans.no

theorem impl_stepsToRoot_sound : Sound Tryd.prog 73 F_impl_stepsToRoot := by
  refine fn_sound' (C := impl_stepsToRoot_ctx) (c := bodyOf Tryd.f73) (cok_of tys_ok (allc impl_walker_up_sound alln) (allc Tryd.call64 alln) (by kernel_rfl)) Tryd.func73 (by kernel_rfl) LL impl_stepsToRoot_an ?_
  intro avs H r H' h
  unfold F_impl_stepsToRoot at h
  split at h
  · refine Awp.cast ?_ ?_ ?_ (impl_stepsToRoot_e _ _ h) <;> kernel_rfl
  · simp [Ans.no, Ans.run] at h


/-! loop.example/headtrees/impl.TreeOk -/

def impl_TreeOk_an : Ann := (.seq (.leaf [0]) (.seq (.seq (.leaf [0, 18]) (.cond (.seq (.leaf [2]) (.leaf [2])) (.leaf [0]))) (.seq (.seq (.leaf [0, 20, 21]) (.block (.loop (.seq (.leaf [0, 20, 21, 22]) (.seq (.cond (.leaf [0, 20, 21]) (.leaf [])) (.seq (.block (.seq (.leaf [0, 3, 20, 21]) (.seq (.leaf [0, 5, 20, 21]) (.seq (.leaf [0, 20, 21, 32]) (.cond (.seq (.leaf [2]) (.leaf [2])) (.leaf [0, 20, 21])))))) (.leaf [0, 20, 21]))))))) (.seq (.leaf [2]) (.leaf [2])))))

noncomputable def impl_TreeOk_ctx : Ctx := ⟨tlook tys, olook [(72, F_impl_oneRoot), (73, F_impl_stepsToRoot)], ioF, 0, false, []⟩

theorem impl_TreeOk_n1_l (x834 : List Int) : Link impl_TreeOk_ctx LL (Code.seq (cq [0] (bodyOf Tryd.f31)) (cq [0,1] (bodyOf Tryd.f31))) (Ann.seq (aq [0] impl_TreeOk_an) (aq [0,1] impl_TreeOk_an)) ⟨mkE 34 0 [(0, dL x834)], []⟩ (impl_TreeOk_n1 x834) (Sum.elim (fun (t : Unit) => (Exit.normal, ⟨mkE 34 0 [(0, dL x834)], []⟩)) (fun (t : Bool) => (Exit.ret, ⟨mkE 34 0 [(2, dB t)], []⟩))) := by
  refine Link.of fun K h => ?_
  simp only [impl_TreeOk_n1, wpO_bind, wpO_cond, wpO_map, wpO_some] at h
  exact Awp.of (by kernel_rfl) h

theorem impl_TreeOk_n2_l (x834 : List Int) : Link impl_TreeOk_ctx LL (cq [0,0,1,1] (bodyOf Tryd.f31)) (aq [0,0,1,1] impl_TreeOk_an) ⟨mkE 34 0 [(0, dL x834)], []⟩ (impl_TreeOk_n2 x834) (fun (t : Int) => (Exit.normal, ⟨mkE 34 0 [(0, dL x834), (20, dI t), (21, dI 0)], []⟩)) := by
  refine Link.of fun K h => ?_
  simp only [impl_TreeOk_n2, wpO_bind, wpO_cond, wpO_map, wpO_some] at h
  exact Awp.of (by kernel_rfl) h

theorem impl_TreeOk_n3_l (x834 : List Int) (x889 : Int) (x957 : Int) : Link impl_TreeOk_ctx LL (cq [0,0,1,0,1,1] (bodyOf Tryd.f31)) (aq [0,0,1,0,1,1] impl_TreeOk_an) ⟨mkE 34 0 [(0, dL x834), (20, dI x889), (21, dI x957)], []⟩ (impl_TreeOk_n3 x834 x889 x957) (Sum.elim (fun (t : Int) => (Exit.normal, ⟨mkE 34 0 [(0, dL x834), (20, dI x889), (21, dI t)], []⟩)) (Sum.elim (fun (t : Bool) => (Exit.ret, ⟨mkE 34 0 [(2, dB t)], []⟩)) (fun (t : Unit) => ((Exit.exit 0), ⟨mkE 34 0 [], []⟩)))) := by
  refine Link.of fun K h => ?_
  simp only [impl_TreeOk_n3, wpO_bind, wpO_cond, wpO_map, wpO_some] at h
  exact Awp.of (by kernel_rfl) h

def impl_TreeOk_n4_l (x834 : List Int) (x889 : Int) := (link_loop (mk := fun (s : Int) => ⟨mkE 34 0 [(0, dL x834), (20, dI x889), (21, dI s)], []⟩) (fin := (Sum.elim (fun (t : Bool) => (Exit.ret, ⟨mkE 34 0 [(2, dB t)], []⟩)) (fun (t : Unit) => ((Exit.exit 0), ⟨mkE 34 0 [], []⟩)))) (by
  rintro (t | t) f K h
  · exact h
  · exact h) (fun s => link_map (impl_TreeOk_n3_l x834 x889 s) (Sum.elim (fun (t : Int) => Sum.inl t) (Sum.elim (fun (t : Bool) => Sum.inr (Sum.inl t)) (fun (t : Unit) => Sum.inr (Sum.inr t)))) (by
  rintro (t | t | t)
  · kernel_rfl
  · kernel_rfl
  · kernel_rfl)) 0)

def impl_TreeOk_n5_l (x834 : List Int) (x889 : Int) := (link_block (fin2 := (Sum.elim (fun (t : Unit) => (Exit.normal, ⟨mkE 34 0 [], []⟩)) (fun (t : Bool) => (Exit.ret, ⟨mkE 34 0 [(2, dB t)], []⟩)))) (id := 0) (impl_TreeOk_n4_l x834 x889) (Sum.elim (fun (t : Bool) => (Sum.inr t)) (fun (t : Unit) => (Sum.inl ()))) (by
  rintro (t | t) K h
  · exact Eq.mp (by kernel_rfl) h
  · exact Eq.mp (by kernel_rfl) h))

def impl_TreeOk_n6_l (x834 : List Int) := (link_seq (impl_TreeOk_n2_l x834) (fun (t : Int) => (impl_TreeOk_n5_l x834 t)))

theorem impl_TreeOk_n7_l : Link impl_TreeOk_ctx LL (cq [1,1,1] (bodyOf Tryd.f31)) (aq [1,1,1] impl_TreeOk_an) ⟨mkE 34 0 [], []⟩ (impl_TreeOk_n7) (fun (t : Bool) => (Exit.ret, ⟨mkE 34 0 [(2, dB t)], []⟩)) := by
  refine Link.of fun K h => ?_
  simp only [impl_TreeOk_n7, wpO_bind, wpO_cond, wpO_map, wpO_some] at h
  exact Awp.of (by kernel_rfl) h

def impl_TreeOk_n8_l (x834 : List Int) := (link_seq2 (impl_TreeOk_n6_l x834) (fun (t : Unit) => (impl_TreeOk_n7_l)) (fun (t : Bool) => t) (by
  rintro t
  · kernel_rfl) (by
  rintro t f K h
  · exact h))

def impl_TreeOk_n9_l (x834 : List Int) := (link_group (c := (cq [0,1] (bodyOf Tryd.f31))) (a := (aq [0,1] impl_TreeOk_an)) [(cq [0] (bodyOf Tryd.f31))] [(aq [0] impl_TreeOk_an)] rfl (link_seq2 (impl_TreeOk_n1_l x834) (fun (t : Unit) => (impl_TreeOk_n8_l x834)) (fun (t : Bool) => t) (by
  rintro t
  · kernel_rfl) (by
  rintro t f K h
  · exact h)))

theorem impl_TreeOk_e (x834 : List Int) {r : AV} {H' : Heap} (h : (Ans.mk _ (impl_TreeOk x834) (fun (t : Bool) => (dB t, [])) [] none).run = some (r, H')) : Awp impl_TreeOk_ctx LL (bodyOf Tryd.f31) impl_TreeOk_an ⟨mkE 34 0 [(0, dL x834)], []⟩ (Ret (tlook tys) Tryd.f31.results.toList r H') :=
  ret_of' (Link.cast (by kernel_rfl) (by kernel_rfl) (impl_TreeOk_n9_l x834)) (by unfold impl_TreeOk; kernel_rfl) (by
  intro t
  exact ret_mk [dB t] (by kernel_rfl) (by kernel_rfl) (by kernel_rfl) (by kernel_rfl)) h

def F_impl_TreeOk : Fun := fun avs H =>
  match avs, H with
  | [.dat (.list (.int .i64)) x834], [] => ⟨_, impl_TreeOk x834, fun (t : Bool) => (dB t, []), [], none⟩
  | _, _ => Ans.no

theorem impl_TreeOk_sound : Sound Tryd.prog 31 F_impl_TreeOk := by
  refine fn_sound' (C := impl_TreeOk_ctx) (c := bodyOf Tryd.f31) (cok_of tys_ok (allc impl_oneRoot_sound (allc impl_stepsToRoot_sound alln)) (allc Tryd.call72 (allc Tryd.call73 alln)) (by kernel_rfl)) Tryd.func31 (by kernel_rfl) LL impl_TreeOk_an ?_
  intro avs H r H' h
  unfold F_impl_TreeOk at h
  split at h
  · refine Awp.cast ?_ ?_ ?_ (impl_TreeOk_e _ h) <;> kernel_rfl
  · simp [Ans.no, Ans.run] at h


/-! loop.example/headtrees/impl.only -/

def impl_only_an : Ann := (.seq (.leaf [0]) (.seq (.leaf [2]) (.leaf [2])))

noncomputable def impl_only_ctx : Ctx := ⟨tlook tys, olook [], ioF, 0, false, []⟩

theorem impl_only_n1_l (x998 : Int) : Link impl_only_ctx LL (bodyOf Tryd.f87) impl_only_an ⟨mkE 6 0 [(0, dI x998)], []⟩ (impl_only_n1 x998) (fun (t : Int) => (Exit.ret, ⟨mkE 6 0 [(2, dW t)], []⟩)) := by
  refine Link.of fun K h => ?_
  simp only [impl_only_n1, wpO_bind, wpO_cond, wpO_map, wpO_some] at h
  exact Awp.of (by kernel_rfl) h

theorem impl_only_e (x998 : Int) {r : AV} {H' : Heap} (h : (Ans.mk _ (impl_only x998) (fun (t : Int) => (dW t, [])) [] none).run = some (r, H')) : Awp impl_only_ctx LL (bodyOf Tryd.f87) impl_only_an ⟨mkE 6 0 [(0, dI x998)], []⟩ (Ret (tlook tys) Tryd.f87.results.toList r H') :=
  ret_of' (impl_only_n1_l x998) (by unfold impl_only; kernel_rfl) (by
  intro t
  exact ret_mk [dW t] (by kernel_rfl) (by kernel_rfl) (by kernel_rfl) (by kernel_rfl)) h

def F_impl_only : Fun := fun avs H =>
  match avs, H with
  | [.dat (.int .i64) x998], [] => ⟨_, impl_only x998, fun (t : Int) => (dW t, []), [], none⟩
  | _, _ => Ans.no

theorem impl_only_sound : Sound Tryd.prog 87 F_impl_only := by
  refine fn_sound' (C := impl_only_ctx) (c := bodyOf Tryd.f87) (cok_of tys_ok (alln) (alln) (by kernel_rfl)) Tryd.func87 (by kernel_rfl) LL impl_only_an ?_
  intro avs H r H' h
  unfold F_impl_only at h
  split at h
  · refine Awp.cast ?_ ?_ ?_ (impl_only_e _ h) <;> kernel_rfl
  · simp [Ans.no, Ans.run] at h


/-! loop.example/headtrees/impl.dependents -/

def impl_dependents_an : Ann := (.seq (.leaf [0, 1]) (.seq (.leaf [0, 1, 5]) (.seq (.seq (.leaf [0, 1, 5, 8, 9]) (.block (.loop (.seq (.leaf [0, 1, 5, 8, 9, 10]) (.seq (.cond (.leaf [0, 1, 5, 8, 9]) (.leaf [5])) (.seq (.block (.seq (.leaf [0, 1, 5, 6, 8, 9]) (.seq (.leaf [0, 1, 5, 6, 8, 9, 17]) (.cond (.leaf [0, 1, 5, 8, 9]) (.leaf [0, 1, 5, 8, 9]))))) (.leaf [0, 1, 5, 8, 9]))))))) (.seq (.leaf [4]) (.leaf [4])))))

noncomputable def impl_dependents_ctx : Ctx := ⟨tlook tys, olook [(87, F_impl_only)], ioF, 0, false, []⟩

theorem impl_dependents_n1_l (x989 : List Int) (x990 : Int) : Link impl_dependents_ctx LL (Code.seq (cq [0] (bodyOf Tryd.f53)) (cq [0,1] (bodyOf Tryd.f53))) (Ann.seq (aq [0] impl_dependents_an) (aq [0,1] impl_dependents_an)) ⟨mkE 25 0 [(0, dL x989), (1, dI x990)], []⟩ (impl_dependents_n1) (fun (t : Unit) => (Exit.normal, ⟨mkE 25 0 [(0, dL x989), (1, dI x990), (5, dW 0)], []⟩)) := by
  refine Link.of fun K h => ?_
  simp only [impl_dependents_n1, wpO_bind, wpO_cond, wpO_map, wpO_some] at h
  exact Awp.of (by kernel_rfl) h

theorem impl_dependents_n2_l (x989 : List Int) (x990 : Int) : Link impl_dependents_ctx LL (cq [0,0,1,1] (bodyOf Tryd.f53)) (aq [0,0,1,1] impl_dependents_an) ⟨mkE 25 0 [(0, dL x989), (1, dI x990), (5, dW 0)], []⟩ (impl_dependents_n2 x989) (fun (t : Int) => (Exit.normal, ⟨mkE 25 0 [(0, dL x989), (1, dI x990), (5, dW 0), (8, dI t), (9, dI 0)], []⟩)) := by
  refine Link.of fun K h => ?_
  simp only [impl_dependents_n2, wpO_bind, wpO_cond, wpO_map, wpO_some] at h
  exact Awp.of (by kernel_rfl) h

theorem impl_dependents_n3_l (x989 : List Int) (x990 : Int) (x1015 : Int) (x991 : Int) (x1016 : Int) : Link impl_dependents_ctx LL (cq [0,0,1,0,1,1] (bodyOf Tryd.f53)) (aq [0,0,1,0,1,1] impl_dependents_an) ⟨mkE 25 0 [(0, dL x989), (1, dI x990), (5, dW x1015), (8, dI x991), (9, dI x1016)], []⟩ (impl_dependents_n3 x989 x990 x1015 x991 x1016) (Sum.elim (fun (t : Int × Int) => (Exit.normal, ⟨mkE 25 0 [(0, dL x989), (1, dI x990), (5, dW t.1), (8, dI x991), (9, dI t.2)], []⟩)) (fun (t : Int) => ((Exit.exit 0), ⟨mkE 25 0 [(5, dW t)], []⟩))) := by
  refine Link.of fun K h => ?_
  simp only [impl_dependents_n3, wpO_bind, wpO_cond, wpO_map, wpO_some] at h
  exact Awp.of (by kernel_rfl) h

def impl_dependents_n4_l (x989 : List Int) (x990 : Int) (x991 : Int) := (link_loop (mk := fun (s : Int × Int) => ⟨mkE 25 0 [(0, dL x989), (1, dI x990), (5, dW s.1), (8, dI x991), (9, dI s.2)], []⟩) (fin := (fun (t : Int) => ((Exit.exit 0), ⟨mkE 25 0 [(5, dW t)], []⟩))) (by
  rintro t f K h
  · exact h) (fun s => link_map (impl_dependents_n3_l x989 x990 s.1 x991 s.2) (Sum.elim (fun (t : Int × Int) => Sum.inl (t.1, t.2)) (fun (t : Int) => Sum.inr t)) (by
  rintro (t | t)
  · kernel_rfl
  · kernel_rfl)) (0, 0))

def impl_dependents_n5_l (x989 : List Int) (x990 : Int) (x991 : Int) := (link_block (fin2 := (fun (t : Int) => (Exit.normal, ⟨mkE 25 0 [(5, dW t)], []⟩))) (id := 0) (impl_dependents_n4_l x989 x990 x991) (fun (t : Int) => t) (by
  rintro t K h
  · exact Eq.mp (by kernel_rfl) h))

def impl_dependents_n6_l (x989 : List Int) (x990 : Int) := (link_seq (impl_dependents_n2_l x989 x990) (fun (t : Int) => (impl_dependents_n5_l x989 x990 t)))

theorem impl_dependents_n7_l (x1015 : Int) : Link impl_dependents_ctx LL (cq [1,1,1] (bodyOf Tryd.f53)) (aq [1,1,1] impl_dependents_an) ⟨mkE 25 0 [(5, dW x1015)], []⟩ (impl_dependents_n7 x1015) (fun (t : Int) => (Exit.ret, ⟨mkE 25 0 [(4, dW t)], []⟩)) := by
  refine Link.of fun K h => ?_
  simp only [impl_dependents_n7, wpO_bind, wpO_cond, wpO_map, wpO_some] at h
  exact Awp.of (by kernel_rfl) h

def impl_dependents_n8_l (x989 : List Int) (x990 : Int) := (link_seq (impl_dependents_n6_l x989 x990) (fun (t : Int) => (impl_dependents_n7_l t)))

def impl_dependents_n9_l (x989 : List Int) (x990 : Int) := (link_group (c := (cq [0,1] (bodyOf Tryd.f53))) (a := (aq [0,1] impl_dependents_an)) [(cq [0] (bodyOf Tryd.f53))] [(aq [0] impl_dependents_an)] rfl (link_seq (impl_dependents_n1_l x989 x990) (fun (t : Unit) => (impl_dependents_n8_l x989 x990))))

theorem impl_dependents_e (x989 : List Int) (x990 : Int) {r : AV} {H' : Heap} (h : (Ans.mk _ (impl_dependents x989 x990) (fun (t : Int) => (dW t, [])) [] none).run = some (r, H')) : Awp impl_dependents_ctx LL (bodyOf Tryd.f53) impl_dependents_an ⟨mkE 25 0 [(0, dL x989), (1, dI x990)], []⟩ (Ret (tlook tys) Tryd.f53.results.toList r H') :=
  ret_of' (Link.cast (by kernel_rfl) (by kernel_rfl) (impl_dependents_n9_l x989 x990)) (by unfold impl_dependents; kernel_rfl) (by
  intro t
  exact ret_mk [dW t] (by kernel_rfl) (by kernel_rfl) (by kernel_rfl) (by kernel_rfl)) h

def F_impl_dependents : Fun := fun avs H =>
  match avs, H with
  | [.dat (.list (.int .i64)) x989, .dat (.int .i64) x990], [] => ⟨_, impl_dependents x989 x990, fun (t : Int) => (dW t, []), [], none⟩
  | _, _ => Ans.no

theorem impl_dependents_sound : Sound Tryd.prog 53 F_impl_dependents := by
  refine fn_sound' (C := impl_dependents_ctx) (c := bodyOf Tryd.f53) (cok_of tys_ok (allc impl_only_sound alln) (allc Tryd.call87 alln) (by kernel_rfl)) Tryd.func53 (by kernel_rfl) LL impl_dependents_an ?_
  intro avs H r H' h
  unfold F_impl_dependents at h
  split at h
  · refine Awp.cast ?_ ?_ ?_ (impl_dependents_e _ _ h) <;> kernel_rfl
  · simp [Ans.no, Ans.run] at h


/-! loop.example/headtrees/impl.before -/

def impl_before_an : Ann := (.seq (.leaf [0]) (.seq (.leaf [2]) (.leaf [2])))

noncomputable def impl_before_ctx : Ctx := ⟨tlook tys, olook [(87, F_impl_only)], ioF, 0, false, []⟩

theorem impl_before_n1_l (x1037 : Int) : Link impl_before_ctx LL (bodyOf Tryd.f85) impl_before_an ⟨mkE 6 0 [(0, dI x1037)], []⟩ (impl_before_n1 x1037) (fun (t : Int) => (Exit.ret, ⟨mkE 6 0 [(2, dW t)], []⟩)) := by
  refine Link.of fun K h => ?_
  simp only [impl_before_n1, wpO_bind, wpO_cond, wpO_map, wpO_some] at h
  exact Awp.of (by kernel_rfl) h

theorem impl_before_e (x1037 : Int) {r : AV} {H' : Heap} (h : (Ans.mk _ (impl_before x1037) (fun (t : Int) => (dW t, [])) [] none).run = some (r, H')) : Awp impl_before_ctx LL (bodyOf Tryd.f85) impl_before_an ⟨mkE 6 0 [(0, dI x1037)], []⟩ (Ret (tlook tys) Tryd.f85.results.toList r H') :=
  ret_of' (impl_before_n1_l x1037) (by unfold impl_before; kernel_rfl) (by
  intro t
  exact ret_mk [dW t] (by kernel_rfl) (by kernel_rfl) (by kernel_rfl) (by kernel_rfl)) h

def F_impl_before : Fun := fun avs H =>
  match avs, H with
  | [.dat (.int .i64) x1037], [] => ⟨_, impl_before x1037, fun (t : Int) => (dW t, []), [], none⟩
  | _, _ => Ans.no

theorem impl_before_sound : Sound Tryd.prog 85 F_impl_before := by
  refine fn_sound' (C := impl_before_ctx) (c := bodyOf Tryd.f85) (cok_of tys_ok (allc impl_only_sound alln) (allc Tryd.call87 alln) (by kernel_rfl)) Tryd.func85 (by kernel_rfl) LL impl_before_an ?_
  intro avs H r H' h
  unfold F_impl_before at h
  split at h
  · refine Awp.cast ?_ ?_ ?_ (impl_before_e _ h) <;> kernel_rfl
  · simp [Ans.no, Ans.run] at h


/-! loop.example/headtrees/impl.dependentsBeside -/

def impl_dependentsBeside_an : Ann := (.seq (.leaf [0, 1]) (.seq (.leaf [1, 6]) (.seq (.leaf [4, 5]) (.leaf [4, 5]))))

noncomputable def impl_dependentsBeside_ctx : Ctx := ⟨tlook tys, olook [(53, F_impl_dependents), (85, F_impl_before)], ioF, 0, false, []⟩

theorem impl_dependentsBeside_n1_l (x987 : List Int) (x988 : Int) : Link impl_dependentsBeside_ctx LL (bodyOf Tryd.f49) impl_dependentsBeside_an ⟨mkE 18 0 [(0, dL x987), (1, dI x988)], []⟩ (impl_dependentsBeside_n1 x987 x988) (fun (t : Int × Int) => (Exit.ret, ⟨mkE 18 0 [(4, dW t.1), (5, dW t.2)], []⟩)) := by
  refine Link.of fun K h => ?_
  simp only [impl_dependentsBeside_n1, wpO_bind, wpO_cond, wpO_map, wpO_some] at h
  exact Awp.of (by kernel_rfl) h

theorem impl_dependentsBeside_e (x987 : List Int) (x988 : Int) {r : AV} {H' : Heap} (h : (Ans.mk _ (impl_dependentsBeside x987 x988) (fun (t : Int × Int) => (.tup [dW t.1, dW t.2], [])) [] none).run = some (r, H')) : Awp impl_dependentsBeside_ctx LL (bodyOf Tryd.f49) impl_dependentsBeside_an ⟨mkE 18 0 [(0, dL x987), (1, dI x988)], []⟩ (Ret (tlook tys) Tryd.f49.results.toList r H') :=
  ret_of' (impl_dependentsBeside_n1_l x987 x988) (by unfold impl_dependentsBeside; kernel_rfl) (by
  intro t
  exact ret_mk [dW t.1, dW t.2] (by kernel_rfl) (by kernel_rfl) (by kernel_rfl) (by kernel_rfl)) h

def F_impl_dependentsBeside : Fun := fun avs H =>
  match avs, H with
  | [.dat (.list (.int .i64)) x987, .dat (.int .i64) x988], [] => ⟨_, impl_dependentsBeside x987 x988, fun (t : Int × Int) => (.tup [dW t.1, dW t.2], []), [], none⟩
  | _, _ => Ans.no

theorem impl_dependentsBeside_sound : Sound Tryd.prog 49 F_impl_dependentsBeside := by
  refine fn_sound' (C := impl_dependentsBeside_ctx) (c := bodyOf Tryd.f49) (cok_of tys_ok (allc impl_dependents_sound (allc impl_before_sound alln)) (allc Tryd.call53 (allc Tryd.call85 alln)) (by kernel_rfl)) Tryd.func49 (by kernel_rfl) LL impl_dependentsBeside_an ?_
  intro avs H r H' h
  unfold F_impl_dependentsBeside at h
  split at h
  · refine Awp.cast ?_ ?_ ?_ (impl_dependentsBeside_e _ _ h) <;> kernel_rfl
  · simp [Ans.no, Ans.run] at h


/-! math/bits.OnesCount64 -/

def math_bits_OnesCount64_an : Ann := (.seq (.leaf [0]) (.seq (.leaf [0]) (.seq (.leaf [0]) (.seq (.leaf [0]) (.seq (.leaf [0]) (.seq (.leaf [0]) (.seq (.leaf [0]) (.seq (.leaf [2]) (.leaf [2])))))))))

noncomputable def math_bits_OnesCount64_ctx : Ctx := ⟨tlook tys, olook [], ioF, 0, false, []⟩

theorem math_bits_OnesCount64_n1_l (x1061 : Int) : Link math_bits_OnesCount64_ctx LL (Code.seq (cq [0] (bodyOf Tryd.f117)) (cq [0,1] (bodyOf Tryd.f117))) (Ann.seq (aq [0] math_bits_OnesCount64_an) (aq [0,1] math_bits_OnesCount64_an)) ⟨mkE 35 0 [(0, dW x1061)], []⟩ (math_bits_OnesCount64_n1 x1061) (fun (t : Int) => (Exit.normal, ⟨mkE 35 0 [(0, dW t)], []⟩)) := by
  refine Link.of fun K h => ?_
  simp only [math_bits_OnesCount64_n1, wpO_bind, wpO_cond, wpO_map, wpO_some] at h
  exact Awp.of (by kernel_rfl) h

theorem math_bits_OnesCount64_n2_l (x1066 : Int) : Link math_bits_OnesCount64_ctx LL (cq [0,1,1] (bodyOf Tryd.f117)) (aq [0,1,1] math_bits_OnesCount64_an) ⟨mkE 35 0 [(0, dW x1066)], []⟩ (math_bits_OnesCount64_n2 x1066) (fun (t : Int) => (Exit.normal, ⟨mkE 35 0 [(0, dW t)], []⟩)) := by
  refine Link.of fun K h => ?_
  simp only [math_bits_OnesCount64_n2, wpO_bind, wpO_cond, wpO_map, wpO_some] at h
  exact Awp.of (by kernel_rfl) h

theorem math_bits_OnesCount64_n3_l (x1083 : Int) : Link math_bits_OnesCount64_ctx LL (cq [0,1,1,1] (bodyOf Tryd.f117)) (aq [0,1,1,1] math_bits_OnesCount64_an) ⟨mkE 35 0 [(0, dW x1083)], []⟩ (math_bits_OnesCount64_n3 x1083) (fun (t : Int) => (Exit.normal, ⟨mkE 35 0 [(0, dW t)], []⟩)) := by
  refine Link.of fun K h => ?_
  simp only [math_bits_OnesCount64_n3, wpO_bind, wpO_cond, wpO_map, wpO_some] at h
  exact Awp.of (by kernel_rfl) h

theorem math_bits_OnesCount64_n4_l (x1090 : Int) : Link math_bits_OnesCount64_ctx LL (cq [0,1,1,1,1] (bodyOf Tryd.f117)) (aq [0,1,1,1,1] math_bits_OnesCount64_an) ⟨mkE 35 0 [(0, dW x1090)], []⟩ (math_bits_OnesCount64_n4 x1090) (fun (t : Int) => (Exit.normal, ⟨mkE 35 0 [(0, dW t)], []⟩)) := by
  refine Link.of fun K h => ?_
  simp only [math_bits_OnesCount64_n4, wpO_bind, wpO_cond, wpO_map, wpO_some] at h
  exact Awp.of (by kernel_rfl) h

theorem math_bits_OnesCount64_n5_l (x1094 : Int) : Link math_bits_OnesCount64_ctx LL (cq [0,1,1,1,1,1] (bodyOf Tryd.f117)) (aq [0,1,1,1,1,1] math_bits_OnesCount64_an) ⟨mkE 35 0 [(0, dW x1094)], []⟩ (math_bits_OnesCount64_n5 x1094) (fun (t : Int) => (Exit.normal, ⟨mkE 35 0 [(0, dW t)], []⟩)) := by
  refine Link.of fun K h => ?_
  simp only [math_bits_OnesCount64_n5, wpO_bind, wpO_cond, wpO_map, wpO_some] at h
  exact Awp.of (by kernel_rfl) h

theorem math_bits_OnesCount64_n6_l (x1099 : Int) : Link math_bits_OnesCount64_ctx LL (cq [0,1,1,1,1,1,1] (bodyOf Tryd.f117)) (aq [0,1,1,1,1,1,1] math_bits_OnesCount64_an) ⟨mkE 35 0 [(0, dW x1099)], []⟩ (math_bits_OnesCount64_n6 x1099) (fun (t : Int) => (Exit.normal, ⟨mkE 35 0 [(0, dW t)], []⟩)) := by
  refine Link.of fun K h => ?_
  simp only [math_bits_OnesCount64_n6, wpO_bind, wpO_cond, wpO_map, wpO_some] at h
  exact Awp.of (by kernel_rfl) h

theorem math_bits_OnesCount64_n7_l (x1104 : Int) : Link math_bits_OnesCount64_ctx LL (cq [0,1,1,1,1,1,1,1] (bodyOf Tryd.f117)) (aq [0,1,1,1,1,1,1,1] math_bits_OnesCount64_an) ⟨mkE 35 0 [(0, dW x1104)], []⟩ (math_bits_OnesCount64_n7 x1104) (fun (t : Int) => (Exit.normal, ⟨mkE 35 0 [(2, dI t)], []⟩)) := by
  refine Link.of fun K h => ?_
  simp only [math_bits_OnesCount64_n7, wpO_bind, wpO_cond, wpO_map, wpO_some] at h
  exact Awp.of (by kernel_rfl) h

theorem math_bits_OnesCount64_n8_l (x1109 : Int) : Link math_bits_OnesCount64_ctx LL (cq [1,1,1,1,1,1,1,1] (bodyOf Tryd.f117)) (aq [1,1,1,1,1,1,1,1] math_bits_OnesCount64_an) ⟨mkE 35 0 [(2, dI x1109)], []⟩ (math_bits_OnesCount64_n8 x1109) (fun (t : Int) => (Exit.ret, ⟨mkE 35 0 [(2, dI t)], []⟩)) := by
  refine Link.of fun K h => ?_
  simp only [math_bits_OnesCount64_n8, wpO_bind, wpO_cond, wpO_map, wpO_some] at h
  exact Awp.of (by kernel_rfl) h

def math_bits_OnesCount64_n9_l (x1104 : Int) := (link_seq (math_bits_OnesCount64_n7_l x1104) (fun (t : Int) => (math_bits_OnesCount64_n8_l t)))

def math_bits_OnesCount64_n10_l (x1099 : Int) := (link_seq (math_bits_OnesCount64_n6_l x1099) (fun (t : Int) => (math_bits_OnesCount64_n9_l t)))

def math_bits_OnesCount64_n11_l (x1094 : Int) := (link_seq (math_bits_OnesCount64_n5_l x1094) (fun (t : Int) => (math_bits_OnesCount64_n10_l t)))

def math_bits_OnesCount64_n12_l (x1090 : Int) := (link_seq (math_bits_OnesCount64_n4_l x1090) (fun (t : Int) => (math_bits_OnesCount64_n11_l t)))

def math_bits_OnesCount64_n13_l (x1083 : Int) := (link_seq (math_bits_OnesCount64_n3_l x1083) (fun (t : Int) => (math_bits_OnesCount64_n12_l t)))

def math_bits_OnesCount64_n14_l (x1066 : Int) := (link_seq (math_bits_OnesCount64_n2_l x1066) (fun (t : Int) => (math_bits_OnesCount64_n13_l t)))

def math_bits_OnesCount64_n15_l (x1061 : Int) := (link_group (c := (cq [0,1] (bodyOf Tryd.f117))) (a := (aq [0,1] math_bits_OnesCount64_an)) [(cq [0] (bodyOf Tryd.f117))] [(aq [0] math_bits_OnesCount64_an)] rfl (link_seq (math_bits_OnesCount64_n1_l x1061) (fun (t : Int) => (math_bits_OnesCount64_n14_l t))))

theorem math_bits_OnesCount64_e (x1061 : Int) {r : AV} {H' : Heap} (h : (Ans.mk _ (math_bits_OnesCount64 x1061) (fun (t : Int) => (dI t, [])) [] none).run = some (r, H')) : Awp math_bits_OnesCount64_ctx LL (bodyOf Tryd.f117) math_bits_OnesCount64_an ⟨mkE 35 0 [(0, dW x1061)], []⟩ (Ret (tlook tys) Tryd.f117.results.toList r H') :=
  ret_of' (Link.cast (by kernel_rfl) (by kernel_rfl) (math_bits_OnesCount64_n15_l x1061)) (by unfold math_bits_OnesCount64; kernel_rfl) (by
  intro t
  exact ret_mk [dI t] (by kernel_rfl) (by kernel_rfl) (by kernel_rfl) (by kernel_rfl)) h

def F_math_bits_OnesCount64 : Fun := fun avs H =>
  match avs, H with
  | [.dat (.int .u64) x1061], [] => ⟨_, math_bits_OnesCount64 x1061, fun (t : Int) => (dI t, []), [], none⟩
  | _, _ => Ans.no

theorem math_bits_OnesCount64_sound : Sound Tryd.prog 117 F_math_bits_OnesCount64 := by
  refine fn_sound' (C := math_bits_OnesCount64_ctx) (c := bodyOf Tryd.f117) (cok_of tys_ok (alln) (alln) (by kernel_rfl)) Tryd.func117 (by kernel_rfl) LL math_bits_OnesCount64_an ?_
  intro avs H r H' h
  unfold F_math_bits_OnesCount64 at h
  split at h
  · refine Awp.cast ?_ ?_ ?_ (math_bits_OnesCount64_e _ h) <;> kernel_rfl
  · simp [Ans.no, Ans.run] at h


/-! math/bits.OnesCount -/

def math_bits_OnesCount_an : Ann := (.seq (.leaf [0]) (.seq (.cond (.seq (.leaf [2]) (.leaf [2])) (.leaf [0])) (.seq (.leaf [2]) (.leaf [2]))))

noncomputable def math_bits_OnesCount_ctx : Ctx := ⟨tlook tys, olook [(117, F_math_bits_OnesCount64)], ioF, 0, false, []⟩

theorem math_bits_OnesCount_n1_l (x1060 : Int) : Link math_bits_OnesCount_ctx LL (bodyOf Tryd.f86) math_bits_OnesCount_an ⟨mkE 8 0 [(0, dW x1060)], []⟩ (math_bits_OnesCount_n1 x1060) (fun (t : Int) => (Exit.ret, ⟨mkE 8 0 [(2, dI t)], []⟩)) := by
  refine Link.of fun K h => ?_
  simp only [math_bits_OnesCount_n1, wpO_bind, wpO_cond, wpO_map, wpO_some] at h
  exact Awp.of (by kernel_rfl) h

theorem math_bits_OnesCount_e (x1060 : Int) {r : AV} {H' : Heap} (h : (Ans.mk _ (math_bits_OnesCount x1060) (fun (t : Int) => (dI t, [])) [] none).run = some (r, H')) : Awp math_bits_OnesCount_ctx LL (bodyOf Tryd.f86) math_bits_OnesCount_an ⟨mkE 8 0 [(0, dW x1060)], []⟩ (Ret (tlook tys) Tryd.f86.results.toList r H') :=
  ret_of' (math_bits_OnesCount_n1_l x1060) (by unfold math_bits_OnesCount; kernel_rfl) (by
  intro t
  exact ret_mk [dI t] (by kernel_rfl) (by kernel_rfl) (by kernel_rfl) (by kernel_rfl)) h

def F_math_bits_OnesCount : Fun := fun avs H =>
  match avs, H with
  | [.dat (.int .u64) x1060], [] => ⟨_, math_bits_OnesCount x1060, fun (t : Int) => (dI t, []), [], none⟩
  | _, _ => Ans.no

theorem math_bits_OnesCount_sound : Sound Tryd.prog 86 F_math_bits_OnesCount := by
  refine fn_sound' (C := math_bits_OnesCount_ctx) (c := bodyOf Tryd.f86) (cok_of tys_ok (allc math_bits_OnesCount64_sound alln) (allc Tryd.call117 alln) (by kernel_rfl)) Tryd.func86 (by kernel_rfl) LL math_bits_OnesCount_an ?_
  intro avs H r H' h
  unfold F_math_bits_OnesCount at h
  split at h
  · refine Awp.cast ?_ ?_ ?_ (math_bits_OnesCount_e _ h) <;> kernel_rfl
  · simp [Ans.no, Ans.run] at h


/-! (loop.example/headtrees/impl.wordSet).count -/

def impl_wordSet_count_an : Ann := (.seq (.leaf [0]) (.seq (.leaf [2]) (.leaf [2])))

noncomputable def impl_wordSet_count_ctx : Ctx := ⟨tlook tys, olook [(86, F_math_bits_OnesCount)], ioF, 0, false, []⟩

theorem impl_wordSet_count_n1_l (x1059 : Int) : Link impl_wordSet_count_ctx LL (bodyOf Tryd.f50) impl_wordSet_count_an ⟨mkE 5 0 [(0, dW x1059)], []⟩ (impl_wordSet_count_n1 x1059) (fun (t : Int) => (Exit.ret, ⟨mkE 5 0 [(2, dI t)], []⟩)) := by
  refine Link.of fun K h => ?_
  simp only [impl_wordSet_count_n1, wpO_bind, wpO_cond, wpO_map, wpO_some] at h
  exact Awp.of (by kernel_rfl) h

theorem impl_wordSet_count_e (x1059 : Int) {r : AV} {H' : Heap} (h : (Ans.mk _ (impl_wordSet_count x1059) (fun (t : Int) => (dI t, [])) [] none).run = some (r, H')) : Awp impl_wordSet_count_ctx LL (bodyOf Tryd.f50) impl_wordSet_count_an ⟨mkE 5 0 [(0, dW x1059)], []⟩ (Ret (tlook tys) Tryd.f50.results.toList r H') :=
  ret_of' (impl_wordSet_count_n1_l x1059) (by unfold impl_wordSet_count; kernel_rfl) (by
  intro t
  exact ret_mk [dI t] (by kernel_rfl) (by kernel_rfl) (by kernel_rfl) (by kernel_rfl)) h

def F_impl_wordSet_count : Fun := fun avs H =>
  match avs, H with
  | [.dat (.int .u64) x1059], [] => ⟨_, impl_wordSet_count x1059, fun (t : Int) => (dI t, []), [], none⟩
  | _, _ => Ans.no

theorem impl_wordSet_count_sound : Sound Tryd.prog 50 F_impl_wordSet_count := by
  refine fn_sound' (C := impl_wordSet_count_ctx) (c := bodyOf Tryd.f50) (cok_of tys_ok (allc math_bits_OnesCount_sound alln) (allc Tryd.call86 alln) (by kernel_rfl)) Tryd.func50 (by kernel_rfl) LL impl_wordSet_count_an ?_
  intro avs H r H' h
  unfold F_impl_wordSet_count at h
  split at h
  · refine Awp.cast ?_ ?_ ?_ (impl_wordSet_count_e _ h) <;> kernel_rfl
  · simp [Ans.no, Ans.run] at h


/-! loop.example/headtrees/spec.l1In -/

def spec_l1In_an : Ann := (.seq (.leaf [0, 1, 2]) (.seq (.leaf [6]) (.leaf [6])))

noncomputable def spec_l1In_ctx : Ctx := ⟨tlook tys, olook [], ioF, 0, false, []⟩

theorem spec_l1In_n1_l (x1144 : Int) (x1145 : Int) (x1146 : Int) : Link spec_l1In_ctx LL (bodyOf Tryd.f52) spec_l1In_an ⟨mkE 15 0 [(0, dI x1144), (1, dI x1145), (2, dI x1146)], []⟩ (spec_l1In_n1 x1144 x1145 x1146) (fun (t : Bool) => (Exit.ret, ⟨mkE 15 0 [(6, dB t)], []⟩)) := by
  refine Link.of fun K h => ?_
  simp only [spec_l1In_n1, wpO_bind, wpO_cond, wpO_map, wpO_some] at h
  exact Awp.of (by kernel_rfl) h

theorem spec_l1In_e (x1144 : Int) (x1145 : Int) (x1146 : Int) {r : AV} {H' : Heap} (h : (Ans.mk _ (spec_l1In x1144 x1145 x1146) (fun (t : Bool) => (dB t, [])) [] none).run = some (r, H')) : Awp spec_l1In_ctx LL (bodyOf Tryd.f52) spec_l1In_an ⟨mkE 15 0 [(0, dI x1144), (1, dI x1145), (2, dI x1146)], []⟩ (Ret (tlook tys) Tryd.f52.results.toList r H') :=
  ret_of' (spec_l1In_n1_l x1144 x1145 x1146) (by unfold spec_l1In; kernel_rfl) (by
  intro t
  exact ret_mk [dB t] (by kernel_rfl) (by kernel_rfl) (by kernel_rfl) (by kernel_rfl)) h

def F_spec_l1In : Fun := fun avs H =>
  match avs, H with
  | [.dat (.int .i64) x1144, .dat (.int .i64) x1145, .dat (.int .i64) x1146], [] => ⟨_, spec_l1In x1144 x1145 x1146, fun (t : Bool) => (dB t, []), [], none⟩
  | _, _ => Ans.no

theorem spec_l1In_sound : Sound Tryd.prog 52 F_spec_l1In := by
  refine fn_sound' (C := spec_l1In_ctx) (c := bodyOf Tryd.f52) (cok_of tys_ok (alln) (alln) (by kernel_rfl)) Tryd.func52 (by kernel_rfl) LL spec_l1In_an ?_
  intro avs H r H' h
  unfold F_spec_l1In at h
  split at h
  · refine Awp.cast ?_ ?_ ?_ (spec_l1In_e _ _ _ h) <;> kernel_rfl
  · simp [Ans.no, Ans.run] at h


/-! loop.example/headtrees/spec.TreeOk -/

def spec_TreeOk_an : Ann := (.seq (.leaf [0]) (.seq (.leaf [0, 3]) (.seq (.seq (.leaf [0, 3, 12]) (.cond (.seq (.leaf [2]) (.leaf [2])) (.leaf [0, 3]))) (.seq (.leaf [0, 3, 4]) (.seq (.seq (.leaf [0, 3, 4, 5]) (.block (.loop (.seq (.seq (.leaf [0, 3, 4, 5, 15]) (.cond (.leaf [0, 3, 4, 5]) (.leaf [4]))) (.seq (.block (.seq (.seq (.leaf [0, 3, 4, 5, 33]) (.cond (.seq (.leaf [2]) (.leaf [2])) (.leaf [0, 3, 4, 5]))) (.seq (.seq (.leaf [0, 3, 4, 5, 38]) (.cond (.leaf [0, 3, 4, 5]) (.leaf [0, 3, 4, 5]))) (.seq (.leaf [0, 3, 4, 5, 6]) (.seq (.seq (.leaf [0, 3, 4, 5, 6, 7]) (.block (.loop (.seq (.seq (.leaf [0, 3, 4, 5, 6, 7, 49]) (.cond (.leaf [0, 3, 4, 5, 6, 7]) (.leaf [0, 3, 4, 5, 6]))) (.seq (.block (.seq (.leaf [0, 3, 4, 5, 6, 7]) (.seq (.leaf [0, 3, 4, 5, 6, 7, 60]) (.cond (.seq (.leaf [2]) (.leaf [2])) (.leaf [0, 3, 4, 5, 6, 7]))))) (.leaf [0, 3, 4, 5, 6, 7])))))) (.seq (.leaf [0, 3, 4, 5, 62]) (.cond (.seq (.leaf [2]) (.leaf [2])) (.leaf [0, 3, 4, 5])))))))) (.leaf [0, 3, 4, 5])))))) (.seq (.leaf [2]) (.leaf [2])))))))

noncomputable def spec_TreeOk_ctx : Ctx := ⟨tlook tys, olook [(52, F_spec_l1In)], ioF, 0, false, []⟩

theorem spec_TreeOk_n1_l (x1141 : List Int) : Link spec_TreeOk_ctx LL (Code.seq (cq [0] (bodyOf Tryd.f51)) (Code.seq (cq [0,1] (bodyOf Tryd.f51)) (Code.seq (cq [0,1,1] (bodyOf Tryd.f51)) (cq [0,1,1,1] (bodyOf Tryd.f51))))) (Ann.seq (aq [0] spec_TreeOk_an) (Ann.seq (aq [0,1] spec_TreeOk_an) (Ann.seq (aq [0,1,1] spec_TreeOk_an) (aq [0,1,1,1] spec_TreeOk_an)))) ⟨mkE 65 0 [(0, dL x1141)], []⟩ (spec_TreeOk_n1 x1141) (Sum.elim (fun (t : Int) => (Exit.normal, ⟨mkE 65 0 [(0, dL x1141), (3, dI t), (4, dI 0)], []⟩)) (fun (t : Bool) => (Exit.ret, ⟨mkE 65 0 [(2, dB t)], []⟩))) := by
  refine Link.of fun K h => ?_
  simp only [spec_TreeOk_n1, wpO_bind, wpO_cond, wpO_map, wpO_some] at h
  exact Awp.of (by kernel_rfl) h

theorem spec_TreeOk_n2_l (x1141 : List Int) (x1154 : Int) : Link spec_TreeOk_ctx LL (cq [0,0,1,1,1,1] (bodyOf Tryd.f51)) (aq [0,0,1,1,1,1] spec_TreeOk_an) ⟨mkE 65 0 [(0, dL x1141), (3, dI x1154), (4, dI 0)], []⟩ (spec_TreeOk_n2) (fun (t : Unit) => (Exit.normal, ⟨mkE 65 0 [(0, dL x1141), (3, dI x1154), (4, dI 0), (5, dI 0)], []⟩)) := by
  refine Link.of fun K h => ?_
  simp only [spec_TreeOk_n2, wpO_bind, wpO_cond, wpO_map, wpO_some] at h
  exact Awp.of (by kernel_rfl) h

theorem spec_TreeOk_n3_l (x1141 : List Int) (x1154 : Int) (x1221 : Int) (x1222 : Int) : Link spec_TreeOk_ctx LL (cq [0,0,0,1,0,1,1,1,1] (bodyOf Tryd.f51)) (aq [0,0,0,1,0,1,1,1,1] spec_TreeOk_an) ⟨mkE 65 0 [(0, dL x1141), (3, dI x1154), (4, dI x1221), (5, dI x1222)], []⟩ (spec_TreeOk_n3 x1154 x1221 x1222) (Sum.elim (fun (t : Unit) => (Exit.normal, ⟨mkE 65 0 [(0, dL x1141), (3, dI x1154), (4, dI x1221), (5, dI x1222)], []⟩)) (fun (t : Int) => ((Exit.exit 0), ⟨mkE 65 0 [(4, dI t)], []⟩))) := by
  refine Link.of fun K h => ?_
  simp only [spec_TreeOk_n3, wpO_bind, wpO_cond, wpO_map, wpO_some] at h
  exact Awp.of (by kernel_rfl) h

theorem spec_TreeOk_n4_l (x1141 : List Int) (x1154 : Int) (x1221 : Int) (x1222 : Int) : Link spec_TreeOk_ctx LL (Code.seq (cq [0,0,0,1,0,0,1,0,1,1,1,1] (bodyOf Tryd.f51)) (Code.seq (cq [0,1,0,0,1,0,0,1,0,1,1,1,1] (bodyOf Tryd.f51)) (cq [0,1,1,0,0,1,0,0,1,0,1,1,1,1] (bodyOf Tryd.f51)))) (Ann.seq (aq [0,0,0,1,0,0,1,0,1,1,1,1] spec_TreeOk_an) (Ann.seq (aq [0,1,0,0,1,0,0,1,0,1,1,1,1] spec_TreeOk_an) (aq [0,1,1,0,0,1,0,0,1,0,1,1,1,1] spec_TreeOk_an))) ⟨mkE 65 0 [(0, dL x1141), (3, dI x1154), (4, dI x1221), (5, dI x1222)], []⟩ (spec_TreeOk_n4 x1141 x1154 x1221 x1222) (Sum.elim (fun (t : Int × Int) => (Exit.normal, ⟨mkE 65 0 [(0, dL x1141), (3, dI x1154), (4, dI t.1), (5, dI x1222), (6, dI t.2)], []⟩)) (fun (t : Bool) => (Exit.ret, ⟨mkE 65 0 [(2, dB t)], []⟩))) := by
  refine Link.of fun K h => ?_
  simp only [spec_TreeOk_n4, wpO_bind, wpO_cond, wpO_map, wpO_some] at h
  exact Awp.of (by kernel_rfl) h

theorem spec_TreeOk_n5_l (x1141 : List Int) (x1154 : Int) (x1250 : Int) (x1222 : Int) (x1251 : Int) : Link spec_TreeOk_ctx LL (cq [0,0,1,1,1,0,0,1,0,0,1,0,1,1,1,1] (bodyOf Tryd.f51)) (aq [0,0,1,1,1,0,0,1,0,0,1,0,1,1,1,1] spec_TreeOk_an) ⟨mkE 65 0 [(0, dL x1141), (3, dI x1154), (4, dI x1250), (5, dI x1222), (6, dI x1251)], []⟩ (spec_TreeOk_n5) (fun (t : Unit) => (Exit.normal, ⟨mkE 65 0 [(0, dL x1141), (3, dI x1154), (4, dI x1250), (5, dI x1222), (6, dI x1251), (7, dI 0)], []⟩)) := by
  refine Link.of fun K h => ?_
  simp only [spec_TreeOk_n5, wpO_bind, wpO_cond, wpO_map, wpO_some] at h
  exact Awp.of (by kernel_rfl) h

theorem spec_TreeOk_n6_l (x1141 : List Int) (x1154 : Int) (x1250 : Int) (x1222 : Int) (x1267 : Int) (x1268 : Int) : Link spec_TreeOk_ctx LL (cq [0,0,1,0,1,1,1,0,0,1,0,0,1,0,1,1,1,1] (bodyOf Tryd.f51)) (aq [0,0,1,0,1,1,1,0,0,1,0,0,1,0,1,1,1,1] spec_TreeOk_an) ⟨mkE 65 0 [(0, dL x1141), (3, dI x1154), (4, dI x1250), (5, dI x1222), (6, dI x1267), (7, dI x1268)], []⟩ (spec_TreeOk_n6 x1141 x1154 x1267 x1268) (Sum.elim (fun (t : Int × Int) => (Exit.normal, ⟨mkE 65 0 [(0, dL x1141), (3, dI x1154), (4, dI x1250), (5, dI x1222), (6, dI t.1), (7, dI t.2)], []⟩)) (Sum.elim (fun (t : Bool) => (Exit.ret, ⟨mkE 65 0 [(2, dB t)], []⟩)) (fun (t : Int) => ((Exit.exit 2), ⟨mkE 65 0 [(0, dL x1141), (3, dI x1154), (4, dI x1250), (5, dI x1222), (6, dI t)], []⟩)))) := by
  refine Link.of fun K h => ?_
  simp only [spec_TreeOk_n6, wpO_bind, wpO_cond, wpO_map, wpO_some] at h
  exact Awp.of (by kernel_rfl) h

def spec_TreeOk_n7_l (x1141 : List Int) (x1154 : Int) (x1250 : Int) (x1222 : Int) (x1251 : Int) := (link_loop (mk := fun (s : Int × Int) => ⟨mkE 65 0 [(0, dL x1141), (3, dI x1154), (4, dI x1250), (5, dI x1222), (6, dI s.1), (7, dI s.2)], []⟩) (fin := (Sum.elim (fun (t : Bool) => (Exit.ret, ⟨mkE 65 0 [(2, dB t)], []⟩)) (fun (t : Int) => ((Exit.exit 2), ⟨mkE 65 0 [(0, dL x1141), (3, dI x1154), (4, dI x1250), (5, dI x1222), (6, dI t)], []⟩)))) (by
  rintro (t | t) f K h
  · exact h
  · exact h) (fun s => link_map (spec_TreeOk_n6_l x1141 x1154 x1250 x1222 s.1 s.2) (Sum.elim (fun (t : Int × Int) => Sum.inl (t.1, t.2)) (Sum.elim (fun (t : Bool) => Sum.inr (Sum.inl t)) (fun (t : Int) => Sum.inr (Sum.inr t)))) (by
  rintro (t | t | t)
  · kernel_rfl
  · kernel_rfl
  · kernel_rfl)) (x1251, 0))

def spec_TreeOk_n8_l (x1141 : List Int) (x1154 : Int) (x1250 : Int) (x1222 : Int) (x1251 : Int) := (link_block (fin2 := (Sum.elim (fun (t : Int) => (Exit.normal, ⟨mkE 65 0 [(0, dL x1141), (3, dI x1154), (4, dI x1250), (5, dI x1222), (6, dI t)], []⟩)) (fun (t : Bool) => (Exit.ret, ⟨mkE 65 0 [(2, dB t)], []⟩)))) (id := 2) (spec_TreeOk_n7_l x1141 x1154 x1250 x1222 x1251) (Sum.elim (fun (t : Bool) => (Sum.inr t)) (fun (t : Int) => (Sum.inl t))) (by
  rintro (t | t) K h
  · exact Eq.mp (by kernel_rfl) h
  · exact Eq.mp (by kernel_rfl) h))

def spec_TreeOk_n9_l (x1141 : List Int) (x1154 : Int) (x1250 : Int) (x1222 : Int) (x1251 : Int) := (link_seq (spec_TreeOk_n5_l x1141 x1154 x1250 x1222 x1251) (fun (t : Unit) => (spec_TreeOk_n8_l x1141 x1154 x1250 x1222 x1251)))

theorem spec_TreeOk_n10_l (x1141 : List Int) (x1154 : Int) (x1250 : Int) (x1222 : Int) (x1267 : Int) : Link spec_TreeOk_ctx LL (cq [1,1,1,1,0,0,1,0,0,1,0,1,1,1,1] (bodyOf Tryd.f51)) (aq [1,1,1,1,0,0,1,0,0,1,0,1,1,1,1] spec_TreeOk_an) ⟨mkE 65 0 [(0, dL x1141), (3, dI x1154), (4, dI x1250), (5, dI x1222), (6, dI x1267)], []⟩ (spec_TreeOk_n10 x1267) (Sum.elim (fun (t : Unit) => (Exit.normal, ⟨mkE 65 0 [(0, dL x1141), (3, dI x1154), (4, dI x1250), (5, dI x1222)], []⟩)) (fun (t : Bool) => (Exit.ret, ⟨mkE 65 0 [(2, dB t)], []⟩))) := by
  refine Link.of fun K h => ?_
  simp only [spec_TreeOk_n10, wpO_bind, wpO_cond, wpO_map, wpO_some] at h
  exact Awp.of (by kernel_rfl) h

def spec_TreeOk_n11_l (x1141 : List Int) (x1154 : Int) (x1250 : Int) (x1222 : Int) (x1251 : Int) := (link_seq2 (spec_TreeOk_n9_l x1141 x1154 x1250 x1222 x1251) (fun (t : Int) => (spec_TreeOk_n10_l x1141 x1154 x1250 x1222 t)) (fun (t : Bool) => (Sum.inr t)) (by
  rintro t
  · kernel_rfl) (by
  rintro t f K h
  · exact h))

def spec_TreeOk_n12_l (x1141 : List Int) (x1154 : Int) (x1221 : Int) (x1222 : Int) := (link_group (c := (cq [0,1,1,0,0,1,0,0,1,0,1,1,1,1] (bodyOf Tryd.f51))) (a := (aq [0,1,1,0,0,1,0,0,1,0,1,1,1,1] spec_TreeOk_an)) [(cq [0,0,0,1,0,0,1,0,1,1,1,1] (bodyOf Tryd.f51)), (cq [0,1,0,0,1,0,0,1,0,1,1,1,1] (bodyOf Tryd.f51))] [(aq [0,0,0,1,0,0,1,0,1,1,1,1] spec_TreeOk_an), (aq [0,1,0,0,1,0,0,1,0,1,1,1,1] spec_TreeOk_an)] rfl (link_seq2 (spec_TreeOk_n4_l x1141 x1154 x1221 x1222) (fun (t : Int × Int) => (link_map (fin2 := (Sum.elim (fun (t : Int) => (Exit.normal, ⟨mkE 65 0 [(0, dL x1141), (3, dI x1154), (4, dI t), (5, dI x1222)], []⟩)) (fun (t : Bool) => (Exit.ret, ⟨mkE 65 0 [(2, dB t)], []⟩)))) (spec_TreeOk_n11_l x1141 x1154 t.1 x1222 t.2) (Sum.elim (fun (u : Unit) => (Sum.inl t.1)) (fun (u : Bool) => (Sum.inr u))) (by
  rintro (t | t)
  · kernel_rfl
  · kernel_rfl))) (fun (t : Bool) => (Sum.inr t)) (by
  rintro t
  · kernel_rfl) (by
  rintro t f K h
  · exact h)))

def spec_TreeOk_n13_l (x1141 : List Int) (x1154 : Int) (x1221 : Int) (x1222 : Int) := (link_block (fin2 := (Sum.elim (fun (t : Int) => (Exit.normal, ⟨mkE 65 0 [(0, dL x1141), (3, dI x1154), (4, dI t), (5, dI x1222)], []⟩)) (fun (t : Bool) => (Exit.ret, ⟨mkE 65 0 [(2, dB t)], []⟩)))) (id := 1) (spec_TreeOk_n12_l x1141 x1154 x1221 x1222) (Sum.elim (fun (t : Int) => (Sum.inl t)) (fun (t : Bool) => (Sum.inr t))) (by
  rintro (t | t) K h
  · exact Eq.mp (by kernel_rfl) h
  · exact Eq.mp (by kernel_rfl) h))

theorem spec_TreeOk_n14_l (x1141 : List Int) (x1154 : Int) (x1250 : Int) (x1222 : Int) : Link spec_TreeOk_ctx LL (cq [1,1,0,0,1,0,1,1,1,1] (bodyOf Tryd.f51)) (aq [1,1,0,0,1,0,1,1,1,1] spec_TreeOk_an) ⟨mkE 65 0 [(0, dL x1141), (3, dI x1154), (4, dI x1250), (5, dI x1222)], []⟩ (spec_TreeOk_n14 x1222) (fun (t : Int) => (Exit.normal, ⟨mkE 65 0 [(0, dL x1141), (3, dI x1154), (4, dI x1250), (5, dI t)], []⟩)) := by
  refine Link.of fun K h => ?_
  simp only [spec_TreeOk_n14, wpO_bind, wpO_cond, wpO_map, wpO_some] at h
  exact Awp.of (by kernel_rfl) h

def spec_TreeOk_n15_l (x1141 : List Int) (x1154 : Int) (x1221 : Int) (x1222 : Int) := (link_seq2 (spec_TreeOk_n13_l x1141 x1154 x1221 x1222) (fun (t : Int) => (link_map (fin2 := (Sum.elim (fun (t : Int × Int) => (Exit.normal, ⟨mkE 65 0 [(0, dL x1141), (3, dI x1154), (4, dI t.1), (5, dI t.2)], []⟩)) (fun (t : Bool) => (Exit.ret, ⟨mkE 65 0 [(2, dB t)], []⟩)))) (spec_TreeOk_n14_l x1141 x1154 t x1222) (fun (u : Int) => (Sum.inl (t, u))) (by
  rintro t
  · kernel_rfl))) (fun (t : Bool) => (Sum.inr t)) (by
  rintro t
  · kernel_rfl) (by
  rintro t f K h
  · exact h))

def spec_TreeOk_n16_l (x1141 : List Int) (x1154 : Int) (x1221 : Int) (x1222 : Int) := (link_seq2 (spec_TreeOk_n3_l x1141 x1154 x1221 x1222) (fun (t : Unit) => (link_map (fin2 := (Sum.elim (fun (t : Int × Int) => (Exit.normal, ⟨mkE 65 0 [(0, dL x1141), (3, dI x1154), (4, dI t.1), (5, dI t.2)], []⟩)) (Sum.elim (fun (t : Bool) => (Exit.ret, ⟨mkE 65 0 [(2, dB t)], []⟩)) (fun (t : Int) => ((Exit.exit 0), ⟨mkE 65 0 [(4, dI t)], []⟩))))) (spec_TreeOk_n15_l x1141 x1154 x1221 x1222) (Sum.elim (fun (t : Int × Int) => (Sum.inl (t.1, t.2))) (fun (t : Bool) => (Sum.inr (Sum.inl t)))) (by
  rintro (t | t)
  · kernel_rfl
  · kernel_rfl))) (fun (t : Int) => (Sum.inr (Sum.inr t))) (by
  rintro t
  · kernel_rfl) (by
  rintro t f K h
  · exact h))

def spec_TreeOk_n17_l (x1141 : List Int) (x1154 : Int) := (link_loop (mk := fun (s : Int × Int) => ⟨mkE 65 0 [(0, dL x1141), (3, dI x1154), (4, dI s.1), (5, dI s.2)], []⟩) (fin := (Sum.elim (fun (t : Bool) => (Exit.ret, ⟨mkE 65 0 [(2, dB t)], []⟩)) (fun (t : Int) => ((Exit.exit 0), ⟨mkE 65 0 [(4, dI t)], []⟩)))) (by
  rintro (t | t) f K h
  · exact h
  · exact h) (fun s => link_map (spec_TreeOk_n16_l x1141 x1154 s.1 s.2) (Sum.elim (fun (t : Int × Int) => Sum.inl (t.1, t.2)) (Sum.elim (fun (t : Bool) => Sum.inr (Sum.inl t)) (fun (t : Int) => Sum.inr (Sum.inr t)))) (by
  rintro (t | t | t)
  · kernel_rfl
  · kernel_rfl
  · kernel_rfl)) (0, 0))

def spec_TreeOk_n18_l (x1141 : List Int) (x1154 : Int) := (link_block (fin2 := (Sum.elim (fun (t : Int) => (Exit.normal, ⟨mkE 65 0 [(4, dI t)], []⟩)) (fun (t : Bool) => (Exit.ret, ⟨mkE 65 0 [(2, dB t)], []⟩)))) (id := 0) (spec_TreeOk_n17_l x1141 x1154) (Sum.elim (fun (t : Bool) => (Sum.inr t)) (fun (t : Int) => (Sum.inl t))) (by
  rintro (t | t) K h
  · exact Eq.mp (by kernel_rfl) h
  · exact Eq.mp (by kernel_rfl) h))

def spec_TreeOk_n19_l (x1141 : List Int) (x1154 : Int) := (link_seq (spec_TreeOk_n2_l x1141 x1154) (fun (t : Unit) => (spec_TreeOk_n18_l x1141 x1154)))

theorem spec_TreeOk_n20_l (x1221 : Int) : Link spec_TreeOk_ctx LL (cq [1,1,1,1,1] (bodyOf Tryd.f51)) (aq [1,1,1,1,1] spec_TreeOk_an) ⟨mkE 65 0 [(4, dI x1221)], []⟩ (spec_TreeOk_n20 x1221) (fun (t : Bool) => (Exit.ret, ⟨mkE 65 0 [(2, dB t)], []⟩)) := by
  refine Link.of fun K h => ?_
  simp only [spec_TreeOk_n20, wpO_bind, wpO_cond, wpO_map, wpO_some] at h
  exact Awp.of (by kernel_rfl) h

def spec_TreeOk_n21_l (x1141 : List Int) (x1154 : Int) := (link_seq2 (spec_TreeOk_n19_l x1141 x1154) (fun (t : Int) => (spec_TreeOk_n20_l t)) (fun (t : Bool) => t) (by
  rintro t
  · kernel_rfl) (by
  rintro t f K h
  · exact h))

def spec_TreeOk_n22_l (x1141 : List Int) := (link_group (c := (cq [0,1,1,1] (bodyOf Tryd.f51))) (a := (aq [0,1,1,1] spec_TreeOk_an)) [(cq [0] (bodyOf Tryd.f51)), (cq [0,1] (bodyOf Tryd.f51)), (cq [0,1,1] (bodyOf Tryd.f51))] [(aq [0] spec_TreeOk_an), (aq [0,1] spec_TreeOk_an), (aq [0,1,1] spec_TreeOk_an)] rfl (link_seq2 (spec_TreeOk_n1_l x1141) (fun (t : Int) => (spec_TreeOk_n21_l x1141 t)) (fun (t : Bool) => t) (by
  rintro t
  · kernel_rfl) (by
  rintro t f K h
  · exact h)))

theorem spec_TreeOk_e (x1141 : List Int) {r : AV} {H' : Heap} (h : (Ans.mk _ (spec_TreeOk x1141) (fun (t : Bool) => (dB t, [])) [] none).run = some (r, H')) : Awp spec_TreeOk_ctx LL (bodyOf Tryd.f51) spec_TreeOk_an ⟨mkE 65 0 [(0, dL x1141)], []⟩ (Ret (tlook tys) Tryd.f51.results.toList r H') :=
  ret_of' (Link.cast (by kernel_rfl) (by kernel_rfl) (spec_TreeOk_n22_l x1141)) (by unfold spec_TreeOk; kernel_rfl) (by
  intro t
  exact ret_mk [dB t] (by kernel_rfl) (by kernel_rfl) (by kernel_rfl) (by kernel_rfl)) h

def F_spec_TreeOk : Fun := fun avs H =>
  match avs, H with
  | [.dat (.list (.int .i64)) x1141], [] => ⟨_, spec_TreeOk x1141, fun (t : Bool) => (dB t, []), [], none⟩
  | _, _ => Ans.no

theorem spec_TreeOk_sound : Sound Tryd.prog 51 F_spec_TreeOk := by
  refine fn_sound' (C := spec_TreeOk_ctx) (c := bodyOf Tryd.f51) (cok_of tys_ok (allc spec_l1In_sound alln) (allc Tryd.call52 alln) (by kernel_rfl)) Tryd.func51 (by kernel_rfl) LL spec_TreeOk_an ?_
  intro avs H r H' h
  unfold F_spec_TreeOk at h
  split at h
  · refine Awp.cast ?_ ?_ ?_ (spec_TreeOk_e _ h) <;> kernel_rfl
  · simp [Ans.no, Ans.run] at h


/-! math/bits.TrailingZeros64 -/

def math_bits_TrailingZeros64_an : Ann := (.seq (.leaf [0]) (.seq (.seq (.leaf [0, 4]) (.cond (.seq (.leaf [2]) (.leaf [2])) (.leaf [0]))) (.seq (.leaf [2]) (.leaf [2]))))

noncomputable def math_bits_TrailingZeros64_ctx : Ctx := ⟨tlook tys, olook [], ioF, 0, false, []⟩

theorem math_bits_TrailingZeros64_n1_l (x1559 : Int) : Link math_bits_TrailingZeros64_ctx LL (bodyOf Tryd.f119) math_bits_TrailingZeros64_an ⟨mkE 14 0 [(0, dW x1559)], []⟩ (math_bits_TrailingZeros64_n1 x1559) (fun (t : Int) => (Exit.ret, ⟨mkE 14 0 [(2, dI t)], []⟩)) := by
  refine Link.of fun K h => ?_
  simp only [math_bits_TrailingZeros64_n1, wpO_bind, wpO_cond, wpO_map, wpO_some] at h
  exact Awp.of (by kernel_rfl) h

theorem math_bits_TrailingZeros64_e (x1559 : Int) {r : AV} {H' : Heap} (h : (Ans.mk _ (math_bits_TrailingZeros64 x1559) (fun (t : Int) => (dI t, [])) [] none).run = some (r, H')) : Awp math_bits_TrailingZeros64_ctx LL (bodyOf Tryd.f119) math_bits_TrailingZeros64_an ⟨mkE 14 0 [(0, dW x1559)], []⟩ (Ret (tlook tys) Tryd.f119.results.toList r H') :=
  ret_of' (math_bits_TrailingZeros64_n1_l x1559) (by unfold math_bits_TrailingZeros64; kernel_rfl) (by
  intro t
  exact ret_mk [dI t] (by kernel_rfl) (by kernel_rfl) (by kernel_rfl) (by kernel_rfl)) h

def F_math_bits_TrailingZeros64 : Fun := fun avs H =>
  match avs, H with
  | [.dat (.int .u64) x1559], [] => ⟨_, math_bits_TrailingZeros64 x1559, fun (t : Int) => (dI t, []), [], none⟩
  | _, _ => Ans.no

theorem math_bits_TrailingZeros64_sound : Sound Tryd.prog 119 F_math_bits_TrailingZeros64 := by
  refine fn_sound' (C := math_bits_TrailingZeros64_ctx) (c := bodyOf Tryd.f119) (cok_of tys_ok (alln) (alln) (by kernel_rfl)) Tryd.func119 (by kernel_rfl) LL math_bits_TrailingZeros64_an ?_
  intro avs H r H' h
  unfold F_math_bits_TrailingZeros64 at h
  split at h
  · refine Awp.cast ?_ ?_ ?_ (math_bits_TrailingZeros64_e _ h) <;> kernel_rfl
  · simp [Ans.no, Ans.run] at h


/-! math/bits.TrailingZeros -/

def math_bits_TrailingZeros_an : Ann := (.seq (.leaf [0]) (.seq (.cond (.seq (.leaf [2]) (.leaf [2])) (.leaf [0])) (.seq (.leaf [2]) (.leaf [2]))))

noncomputable def math_bits_TrailingZeros_ctx : Ctx := ⟨tlook tys, olook [(119, F_math_bits_TrailingZeros64)], ioF, 0, false, []⟩

theorem math_bits_TrailingZeros_n1_l (x1558 : Int) : Link math_bits_TrailingZeros_ctx LL (bodyOf Tryd.f88) math_bits_TrailingZeros_an ⟨mkE 8 0 [(0, dW x1558)], []⟩ (math_bits_TrailingZeros_n1 x1558) (fun (t : Int) => (Exit.ret, ⟨mkE 8 0 [(2, dI t)], []⟩)) := by
  refine Link.of fun K h => ?_
  simp only [math_bits_TrailingZeros_n1, wpO_bind, wpO_cond, wpO_map, wpO_some] at h
  exact Awp.of (by kernel_rfl) h

theorem math_bits_TrailingZeros_e (x1558 : Int) {r : AV} {H' : Heap} (h : (Ans.mk _ (math_bits_TrailingZeros x1558) (fun (t : Int) => (dI t, [])) [] none).run = some (r, H')) : Awp math_bits_TrailingZeros_ctx LL (bodyOf Tryd.f88) math_bits_TrailingZeros_an ⟨mkE 8 0 [(0, dW x1558)], []⟩ (Ret (tlook tys) Tryd.f88.results.toList r H') :=
  ret_of' (math_bits_TrailingZeros_n1_l x1558) (by unfold math_bits_TrailingZeros; kernel_rfl) (by
  intro t
  exact ret_mk [dI t] (by kernel_rfl) (by kernel_rfl) (by kernel_rfl) (by kernel_rfl)) h

def F_math_bits_TrailingZeros : Fun := fun avs H =>
  match avs, H with
  | [.dat (.int .u64) x1558], [] => ⟨_, math_bits_TrailingZeros x1558, fun (t : Int) => (dI t, []), [], none⟩
  | _, _ => Ans.no

theorem math_bits_TrailingZeros_sound : Sound Tryd.prog 88 F_math_bits_TrailingZeros := by
  refine fn_sound' (C := math_bits_TrailingZeros_ctx) (c := bodyOf Tryd.f88) (cok_of tys_ok (allc math_bits_TrailingZeros64_sound alln) (allc Tryd.call119 alln) (by kernel_rfl)) Tryd.func88 (by kernel_rfl) LL math_bits_TrailingZeros_an ?_
  intro avs H r H' h
  unfold F_math_bits_TrailingZeros at h
  split at h
  · refine Awp.cast ?_ ?_ ?_ (math_bits_TrailingZeros_e _ h) <;> kernel_rfl
  · simp [Ans.no, Ans.run] at h


/-! (loop.example/headtrees/impl.wordSet).list -/

def impl_wordSet_list_an : Ann := (.seq (.leaf [0]) (.seq (.leaf [0, 3]) (.seq (.seq (.leaf [3, 4]) (.block (.loop (.seq (.seq (.leaf [3, 4, 10]) (.cond (.leaf [3, 4]) (.leaf [3]))) (.seq (.block (.leaf [3, 4])) (.leaf [3, 4])))))) (.seq (.leaf [2]) (.leaf [2])))))

noncomputable def impl_wordSet_list_ctx : Ctx := ⟨tlook tys, olook [(50, F_impl_wordSet_count), (88, F_math_bits_TrailingZeros)], ioF, 0, false, []⟩

theorem impl_wordSet_list_n1_l (x1552 : Int) : Link impl_wordSet_list_ctx LL (Code.seq (cq [0] (bodyOf Tryd.f54)) (cq [0,1] (bodyOf Tryd.f54))) (Ann.seq (aq [0] impl_wordSet_list_an) (aq [0,1] impl_wordSet_list_an)) ⟨mkE 22 0 [(0, dW x1552)], []⟩ (impl_wordSet_list_n1 x1552) (fun (t : (List Int)) => (Exit.normal, ⟨mkE 22 0 [(0, dW x1552), (3, .slc 0)], [some (sI t)]⟩)) := by
  refine Link.of fun K h => ?_
  simp only [impl_wordSet_list_n1, wpO_bind, wpO_cond, wpO_map, wpO_some] at h
  exact Awp.of (by kernel_rfl) h

theorem impl_wordSet_list_n2_l (x1552 : Int) (x1555 : List Int) : Link impl_wordSet_list_ctx LL (cq [0,0,1,1] (bodyOf Tryd.f54)) (aq [0,0,1,1] impl_wordSet_list_an) ⟨mkE 22 0 [(0, dW x1552), (3, .slc 0)], [some (sI x1555)]⟩ (impl_wordSet_list_n2) (fun (t : Unit) => (Exit.normal, ⟨mkE 22 0 [(3, .slc 0), (4, dW x1552)], [some (sI x1555)]⟩)) := by
  refine Link.of fun K h => ?_
  simp only [impl_wordSet_list_n2, wpO_bind, wpO_cond, wpO_map, wpO_some] at h
  exact Awp.of (by kernel_rfl) h

theorem impl_wordSet_list_n3_l (x1598 : Int) (x1599 : List Int) : Link impl_wordSet_list_ctx LL (cq [0,0,1,0,1,1] (bodyOf Tryd.f54)) (aq [0,0,1,0,1,1] impl_wordSet_list_an) ⟨mkE 22 0 [(3, .slc 0), (4, dW x1598)], [some (sI x1599)]⟩ (impl_wordSet_list_n3 x1598 x1599) (Sum.elim (fun (t : Int × (List Int)) => (Exit.normal, ⟨mkE 22 0 [(3, .slc 0), (4, dW t.1)], [some (sI t.2)]⟩)) (fun (t : (List Int)) => ((Exit.exit 0), ⟨mkE 22 0 [(3, .slc 0)], [some (sI t)]⟩))) := by
  refine Link.of fun K h => ?_
  simp only [impl_wordSet_list_n3, wpO_bind, wpO_cond, wpO_map, wpO_some] at h
  exact Awp.of (by kernel_rfl) h

def impl_wordSet_list_n4_l (x1552 : Int) (x1555 : List Int) := (link_loop (mk := fun (s : Int × (List Int)) => ⟨mkE 22 0 [(3, .slc 0), (4, dW s.1)], [some (sI s.2)]⟩) (fin := (fun (t : (List Int)) => ((Exit.exit 0), ⟨mkE 22 0 [(3, .slc 0)], [some (sI t)]⟩))) (by
  rintro t f K h
  · exact h) (fun s => link_map (impl_wordSet_list_n3_l s.1 s.2) (Sum.elim (fun (t : Int × (List Int)) => Sum.inl (t.1, t.2)) (fun (t : (List Int)) => Sum.inr t)) (by
  rintro (t | t)
  · kernel_rfl
  · kernel_rfl)) (x1552, x1555))

def impl_wordSet_list_n5_l (x1552 : Int) (x1555 : List Int) := (link_block (fin2 := (fun (t : (List Int)) => (Exit.normal, ⟨mkE 22 0 [(3, .slc 0)], [some (sI t)]⟩))) (id := 0) (impl_wordSet_list_n4_l x1552 x1555) (fun (t : (List Int)) => t) (by
  rintro t K h
  · exact Eq.mp (by kernel_rfl) h))

def impl_wordSet_list_n6_l (x1552 : Int) (x1555 : List Int) := (link_seq (impl_wordSet_list_n2_l x1552 x1555) (fun (t : Unit) => (impl_wordSet_list_n5_l x1552 x1555)))

theorem impl_wordSet_list_n7_l (x1599 : List Int) : Link impl_wordSet_list_ctx LL (cq [1,1,1] (bodyOf Tryd.f54)) (aq [1,1,1] impl_wordSet_list_an) ⟨mkE 22 0 [(3, .slc 0)], [some (sI x1599)]⟩ (impl_wordSet_list_n7 x1599) (fun (t : (List Int)) => (Exit.ret, ⟨mkE 22 0 [(2, .slc 0)], [some (sI t)]⟩)) := by
  refine Link.of fun K h => ?_
  simp only [impl_wordSet_list_n7, wpO_bind, wpO_cond, wpO_map, wpO_some] at h
  exact Awp.of (by kernel_rfl) h

def impl_wordSet_list_n8_l (x1552 : Int) (x1555 : List Int) := (link_seq (impl_wordSet_list_n6_l x1552 x1555) (fun (t : (List Int)) => (impl_wordSet_list_n7_l t)))

def impl_wordSet_list_n9_l (x1552 : Int) := (link_group (c := (cq [0,1] (bodyOf Tryd.f54))) (a := (aq [0,1] impl_wordSet_list_an)) [(cq [0] (bodyOf Tryd.f54))] [(aq [0] impl_wordSet_list_an)] rfl (link_seq (impl_wordSet_list_n1_l x1552) (fun (t : (List Int)) => (impl_wordSet_list_n8_l x1552 t))))

theorem impl_wordSet_list_e (x1552 : Int) {r : AV} {H' : Heap} (h : (Ans.mk _ (impl_wordSet_list x1552) (fun (t : (List Int)) => (.slc 0, [some (sI t)])) [] none).run = some (r, H')) : Awp impl_wordSet_list_ctx LL (bodyOf Tryd.f54) impl_wordSet_list_an ⟨mkE 22 0 [(0, dW x1552)], []⟩ (Ret (tlook tys) Tryd.f54.results.toList r H') :=
  ret_of' (Link.cast (by kernel_rfl) (by kernel_rfl) (impl_wordSet_list_n9_l x1552)) (by unfold impl_wordSet_list; kernel_rfl) (by
  intro t
  exact ret_mk [.slc 0] (by kernel_rfl) (by kernel_rfl) (by kernel_rfl) (by kernel_rfl)) h

def F_impl_wordSet_list : Fun := fun avs H =>
  match avs, H with
  | [.dat (.int .u64) x1552], [] => ⟨_, impl_wordSet_list x1552, fun (t : (List Int)) => (.slc 0, [some (sI t)]), [], none⟩
  | _, _ => Ans.no

theorem impl_wordSet_list_sound : Sound Tryd.prog 54 F_impl_wordSet_list := by
  refine fn_sound' (C := impl_wordSet_list_ctx) (c := bodyOf Tryd.f54) (cok_of tys_ok (allc impl_wordSet_count_sound (allc math_bits_TrailingZeros_sound alln)) (allc Tryd.call50 (allc Tryd.call88 alln)) (by kernel_rfl)) Tryd.func54 (by kernel_rfl) LL impl_wordSet_list_an ?_
  intro avs H r H' h
  unfold F_impl_wordSet_list at h
  split at h
  · refine Awp.cast ?_ ?_ ?_ (impl_wordSet_list_e _ h) <;> kernel_rfl
  · simp [Ans.no, Ans.run] at h


/-! loop.example/headtrees/impl.RootOf -/

def impl_RootOf_an : Ann := (.seq (.leaf [0]) (.seq (.seq (.leaf [0, 6]) (.cond (.seq (.leaf [2]) (.leaf [2])) (.leaf [0]))) (.seq (.leaf [3]) (.seq (.block (.loop (.seq (.seq (.leaf [3, 9]) (.cond (.leaf [3]) (.leaf [3]))) (.block (.leaf [3]))))) (.seq (.leaf [2]) (.leaf [2]))))))

noncomputable def impl_RootOf_ctx : Ctx := ⟨tlook tys, olook [(31, F_impl_TreeOk), (64, F_impl_walker_up)], ioF, 0, false, []⟩

theorem impl_RootOf_n1_l (x3172 : List Int) : Link impl_RootOf_ctx LL (Code.seq (cq [0] (bodyOf Tryd.f24)) (Code.seq (cq [0,1] (bodyOf Tryd.f24)) (cq [0,1,1] (bodyOf Tryd.f24)))) (Ann.seq (aq [0] impl_RootOf_an) (Ann.seq (aq [0,1] impl_RootOf_an) (aq [0,1,1] impl_RootOf_an))) ⟨mkE 12 0 [(0, dL x3172)], []⟩ (impl_RootOf_n1 x3172) (Sum.elim (fun (t : Unit) => (Exit.normal, ⟨mkE 12 0 [(3, .ptr 0 0)], [some (.box [dL x3172, dI 1, dI 0])]⟩)) (fun (t : Int) => (Exit.ret, ⟨mkE 12 0 [(2, dI t)], []⟩))) := by
  refine Link.of fun K h => ?_
  simp only [impl_RootOf_n1, wpO_bind, wpO_cond, wpO_map, wpO_some] at h
  exact Awp.of (by kernel_rfl) h

theorem impl_RootOf_n2_l (x3172 : List Int) (x3185 : Int) (x3186 : Int) : Link impl_RootOf_ctx LL (cq [0,0,0,1,1,1] (bodyOf Tryd.f24)) (aq [0,0,0,1,1,1] impl_RootOf_an) ⟨mkE 12 0 [(3, .ptr 0 0)], [some (.box [dL x3172, dI x3185, dI x3186])]⟩ (impl_RootOf_n2 x3172 x3185 x3186) (Sum.elim (fun (t : Int × Int) => (Exit.normal, ⟨mkE 12 0 [(3, .ptr 0 0)], [some (.box [dL x3172, dI t.1, dI t.2])]⟩)) (fun (t : Int × Int) => ((Exit.exit 0), ⟨mkE 12 0 [(3, .ptr 0 0)], [some (.box [dL x3172, dI t.1, dI t.2])]⟩))) := by
  refine Link.of fun K h => ?_
  simp only [impl_RootOf_n2, wpO_bind, wpO_cond, wpO_map, wpO_some] at h
  exact Awp.of (by kernel_rfl) h

def impl_RootOf_n3_l (x3172 : List Int) := (link_loop (mk := fun (s : Int × Int) => ⟨mkE 12 0 [(3, .ptr 0 0)], [some (.box [dL x3172, dI s.1, dI s.2])]⟩) (fin := (fun (t : Int × Int) => ((Exit.exit 0), ⟨mkE 12 0 [(3, .ptr 0 0)], [some (.box [dL x3172, dI t.1, dI t.2])]⟩))) (by
  rintro t f K h
  · exact h) (fun s => link_map (impl_RootOf_n2_l x3172 s.1 s.2) (Sum.elim (fun (t : Int × Int) => Sum.inl (t.1, t.2)) (fun (t : Int × Int) => Sum.inr t)) (by
  rintro (t | t)
  · kernel_rfl
  · kernel_rfl)) (1, 0))

def impl_RootOf_n4_l (x3172 : List Int) := (link_block (fin2 := (fun (t : Int × Int) => (Exit.normal, ⟨mkE 12 0 [(3, .ptr 0 0)], [some (.box [dL x3172, dI t.1, dI t.2])]⟩))) (id := 0) (impl_RootOf_n3_l x3172) (fun (t : Int × Int) => (t.1, t.2)) (by
  rintro t K h
  · exact Eq.mp (by kernel_rfl) h))

theorem impl_RootOf_n5_l (x3172 : List Int) (x3193 : Int) (x3194 : Int) : Link impl_RootOf_ctx LL (cq [1,1,1,1] (bodyOf Tryd.f24)) (aq [1,1,1,1] impl_RootOf_an) ⟨mkE 12 0 [(3, .ptr 0 0)], [some (.box [dL x3172, dI x3193, dI x3194])]⟩ (impl_RootOf_n5 x3193) (fun (t : Int) => (Exit.ret, ⟨mkE 12 0 [(2, dI t)], []⟩)) := by
  refine Link.of fun K h => ?_
  simp only [impl_RootOf_n5, wpO_bind, wpO_cond, wpO_map, wpO_some] at h
  exact Awp.of (by kernel_rfl) h

def impl_RootOf_n6_l (x3172 : List Int) := (link_seq (impl_RootOf_n4_l x3172) (fun (t : Int × Int) => (impl_RootOf_n5_l x3172 t.1 t.2)))

def impl_RootOf_n7_l (x3172 : List Int) := (link_group (c := (cq [0,1,1] (bodyOf Tryd.f24))) (a := (aq [0,1,1] impl_RootOf_an)) [(cq [0] (bodyOf Tryd.f24)), (cq [0,1] (bodyOf Tryd.f24))] [(aq [0] impl_RootOf_an), (aq [0,1] impl_RootOf_an)] rfl (link_seq2 (impl_RootOf_n1_l x3172) (fun (t : Unit) => (impl_RootOf_n6_l x3172)) (fun (t : Int) => t) (by
  rintro t
  · kernel_rfl) (by
  rintro t f K h
  · exact h)))

theorem impl_RootOf_e (x3172 : List Int) {r : AV} {H' : Heap} (h : (Ans.mk _ (impl_RootOf x3172) (fun (t : Int) => (dI t, [])) [] none).run = some (r, H')) : Awp impl_RootOf_ctx LL (bodyOf Tryd.f24) impl_RootOf_an ⟨mkE 12 0 [(0, dL x3172)], []⟩ (Ret (tlook tys) Tryd.f24.results.toList r H') :=
  ret_of' (Link.cast (by kernel_rfl) (by kernel_rfl) (impl_RootOf_n7_l x3172)) (by unfold impl_RootOf; kernel_rfl) (by
  intro t
  exact ret_mk [dI t] (by kernel_rfl) (by kernel_rfl) (by kernel_rfl) (by kernel_rfl)) h

def F_impl_RootOf : Fun := fun avs H =>
  match avs, H with
  | [.dat (.list (.int .i64)) x3172], [] => ⟨_, impl_RootOf x3172, fun (t : Int) => (dI t, []), [], none⟩
  | _, _ => Ans.no

theorem impl_RootOf_sound : Sound Tryd.prog 24 F_impl_RootOf := by
  refine fn_sound' (C := impl_RootOf_ctx) (c := bodyOf Tryd.f24) (cok_of tys_ok (allc impl_TreeOk_sound (allc impl_walker_up_sound alln)) (allc Tryd.call31 (allc Tryd.call64 alln)) (by kernel_rfl)) Tryd.func24 (by kernel_rfl) LL impl_RootOf_an ?_
  intro avs H r H' h
  unfold F_impl_RootOf at h
  split at h
  · refine Awp.cast ?_ ?_ ?_ (impl_RootOf_e _ h) <;> kernel_rfl
  · simp [Ans.no, Ans.run] at h


/-! loop.example/headtrees/spec.RootOf -/

def spec_RootOf_an : Ann := (.seq (.leaf [0]) (.seq (.seq (.leaf [0, 3]) (.block (.loop (.seq (.seq (.leaf [0, 3, 11]) (.cond (.leaf [0, 3]) (.leaf []))) (.seq (.block (.seq (.leaf [0, 3, 18]) (.cond (.seq (.leaf [2]) (.leaf [2])) (.leaf [0, 3])))) (.leaf [0, 3])))))) (.seq (.leaf [2]) (.leaf [2]))))

noncomputable def spec_RootOf_ctx : Ctx := ⟨tlook tys, olook [(51, F_spec_TreeOk)], ioF, 0, false, []⟩

theorem spec_RootOf_n1_l (x4097 : List Int) : Link spec_RootOf_ctx LL (cq [0] (bodyOf Tryd.f68)) (aq [0] spec_RootOf_an) ⟨mkE 21 0 [(0, dL x4097)], []⟩ (spec_RootOf_n1) (fun (t : Unit) => (Exit.normal, ⟨mkE 21 0 [(0, dL x4097)], []⟩)) := by
  refine Link.of fun K h => ?_
  simp only [spec_RootOf_n1, wpO_bind, wpO_cond, wpO_map, wpO_some] at h
  exact Awp.of (by kernel_rfl) h

theorem spec_RootOf_n2_l (x4097 : List Int) : Link spec_RootOf_ctx LL (cq [0,0,1] (bodyOf Tryd.f68)) (aq [0,0,1] spec_RootOf_an) ⟨mkE 21 0 [(0, dL x4097)], []⟩ (spec_RootOf_n2) (fun (t : Unit) => (Exit.normal, ⟨mkE 21 0 [(0, dL x4097), (3, dI 0)], []⟩)) := by
  refine Link.of fun K h => ?_
  simp only [spec_RootOf_n2, wpO_bind, wpO_cond, wpO_map, wpO_some] at h
  exact Awp.of (by kernel_rfl) h

theorem spec_RootOf_n3_l (x4097 : List Int) (x4114 : Int) : Link spec_RootOf_ctx LL (cq [0,0,1,0,1] (bodyOf Tryd.f68)) (aq [0,0,1,0,1] spec_RootOf_an) ⟨mkE 21 0 [(0, dL x4097), (3, dI x4114)], []⟩ (spec_RootOf_n3 x4097 x4114) (Sum.elim (fun (t : Int) => (Exit.normal, ⟨mkE 21 0 [(0, dL x4097), (3, dI t)], []⟩)) (Sum.elim (fun (t : Int) => (Exit.ret, ⟨mkE 21 0 [(2, dI t)], []⟩)) (fun (t : Unit) => ((Exit.exit 0), ⟨mkE 21 0 [], []⟩)))) := by
  refine Link.of fun K h => ?_
  simp only [spec_RootOf_n3, wpO_bind, wpO_cond, wpO_map, wpO_some] at h
  exact Awp.of (by kernel_rfl) h

def spec_RootOf_n4_l (x4097 : List Int) := (link_loop (mk := fun (s : Int) => ⟨mkE 21 0 [(0, dL x4097), (3, dI s)], []⟩) (fin := (Sum.elim (fun (t : Int) => (Exit.ret, ⟨mkE 21 0 [(2, dI t)], []⟩)) (fun (t : Unit) => ((Exit.exit 0), ⟨mkE 21 0 [], []⟩)))) (by
  rintro (t | t) f K h
  · exact h
  · exact h) (fun s => link_map (spec_RootOf_n3_l x4097 s) (Sum.elim (fun (t : Int) => Sum.inl t) (Sum.elim (fun (t : Int) => Sum.inr (Sum.inl t)) (fun (t : Unit) => Sum.inr (Sum.inr t)))) (by
  rintro (t | t | t)
  · kernel_rfl
  · kernel_rfl
  · kernel_rfl)) 0)

def spec_RootOf_n5_l (x4097 : List Int) := (link_block (fin2 := (Sum.elim (fun (t : Unit) => (Exit.normal, ⟨mkE 21 0 [], []⟩)) (fun (t : Int) => (Exit.ret, ⟨mkE 21 0 [(2, dI t)], []⟩)))) (id := 0) (spec_RootOf_n4_l x4097) (Sum.elim (fun (t : Int) => (Sum.inr t)) (fun (t : Unit) => (Sum.inl ()))) (by
  rintro (t | t) K h
  · exact Eq.mp (by kernel_rfl) h
  · exact Eq.mp (by kernel_rfl) h))

def spec_RootOf_n6_l (x4097 : List Int) := (link_seq (spec_RootOf_n2_l x4097) (fun (t : Unit) => (spec_RootOf_n5_l x4097)))

theorem spec_RootOf_n7_l : Link spec_RootOf_ctx LL (cq [1,1] (bodyOf Tryd.f68)) (aq [1,1] spec_RootOf_an) ⟨mkE 21 0 [], []⟩ (spec_RootOf_n7) (fun (t : Int) => (Exit.ret, ⟨mkE 21 0 [(2, dI t)], []⟩)) := by
  refine Link.of fun K h => ?_
  simp only [spec_RootOf_n7, wpO_bind, wpO_cond, wpO_map, wpO_some] at h
  exact Awp.of (by kernel_rfl) h

def spec_RootOf_n8_l (x4097 : List Int) := (link_seq2 (spec_RootOf_n6_l x4097) (fun (t : Unit) => (spec_RootOf_n7_l)) (fun (t : Int) => t) (by
  rintro t
  · kernel_rfl) (by
  rintro t f K h
  · exact h))

def spec_RootOf_n9_l (x4097 : List Int) := (link_seq (spec_RootOf_n1_l x4097) (fun (t : Unit) => (spec_RootOf_n8_l x4097)))

theorem spec_RootOf_e (x4097 : List Int) {r : AV} {H' : Heap} (h : (Ans.mk _ (spec_RootOf x4097) (fun (t : Int) => (dI t, [])) [] none).run = some (r, H')) : Awp spec_RootOf_ctx LL (bodyOf Tryd.f68) spec_RootOf_an ⟨mkE 21 0 [(0, dL x4097)], []⟩ (Ret (tlook tys) Tryd.f68.results.toList r H') :=
  ret_of' (Link.cast (by kernel_rfl) (by kernel_rfl) (spec_RootOf_n9_l x4097)) (by unfold spec_RootOf; kernel_rfl) (by
  intro t
  exact ret_mk [dI t] (by kernel_rfl) (by kernel_rfl) (by kernel_rfl) (by kernel_rfl)) h

def F_spec_RootOf : Fun := fun avs H =>
  match avs, H with
  | [.dat (.list (.int .i64)) x4097], [] => ⟨_, spec_RootOf x4097, fun (t : Int) => (dI t, []), [], none⟩
  | _, _ => Ans.no

theorem spec_RootOf_sound : Sound Tryd.prog 68 F_spec_RootOf := by
  refine fn_sound' (C := spec_RootOf_ctx) (c := bodyOf Tryd.f68) (cok_of tys_ok (allc spec_TreeOk_sound alln) (allc Tryd.call51 alln) (by kernel_rfl)) Tryd.func68 (by kernel_rfl) LL spec_RootOf_an ?_
  intro avs H r H' h
  unfold F_spec_RootOf at h
  split at h
  · refine Awp.cast ?_ ?_ ?_ (spec_RootOf_e _ h) <;> kernel_rfl
  · simp [Ans.no, Ans.run] at h


/-! loop.example/headtrees/spec.OrderOk -/

def spec_OrderOk_an : Ann := (.seq (.leaf [0, 1]) (.seq (.seq (.leaf [0, 1, 5]) (.block (.loop (.seq (.seq (.leaf [0, 1, 5, 10]) (.cond (.leaf [0, 1, 5]) (.leaf [0, 1]))) (.seq (.block (.seq (.seq (.leaf [0, 1, 5, 19]) (.cond (.seq (.leaf [4]) (.leaf [4])) (.leaf [0, 1, 5]))) (.seq (.leaf [0, 1, 5, 6]) (.block (.loop (.seq (.seq (.leaf [0, 1, 5, 6, 22]) (.cond (.leaf [0, 1, 5, 6]) (.leaf [0, 1, 5]))) (.seq (.block (.seq (.draw [] [0, 1, 2, 3, 4, 5, 6, 7, 8] [] [0, 1, 5, 6, 33]) (.cond (.seq (.leaf [4]) (.leaf [4])) (.leaf [0, 1, 5, 6])))) (.leaf [0, 1, 5, 6])))))))) (.leaf [0, 1, 5])))))) (.seq (.leaf [4]) (.leaf [4]))))

noncomputable def spec_OrderOk_ctx : Ctx := ⟨tlook tys, olook [(52, F_spec_l1In)], ioF, 0, false, []⟩

theorem spec_OrderOk_n1_l (x4798 : List Int) (x4799 : Int) : Link spec_OrderOk_ctx LL (cq [0] (bodyOf Tryd.f106)) (aq [0] spec_OrderOk_an) ⟨mkE 42 0 [(0, dL x4798), (1, dI x4799)], []⟩ (spec_OrderOk_n1) (fun (t : Unit) => (Exit.normal, ⟨mkE 42 0 [(0, dL x4798), (1, dI x4799)], []⟩)) := by
  refine Link.of fun K h => ?_
  simp only [spec_OrderOk_n1, wpO_bind, wpO_cond, wpO_map, wpO_some] at h
  exact Awp.of (by kernel_rfl) h

theorem spec_OrderOk_n2_l (x4798 : List Int) (x4799 : Int) : Link spec_OrderOk_ctx LL (cq [0,0,1] (bodyOf Tryd.f106)) (aq [0,0,1] spec_OrderOk_an) ⟨mkE 42 0 [(0, dL x4798), (1, dI x4799)], []⟩ (spec_OrderOk_n2) (fun (t : Unit) => (Exit.normal, ⟨mkE 42 0 [(0, dL x4798), (1, dI x4799), (5, dI 0)], []⟩)) := by
  refine Link.of fun K h => ?_
  simp only [spec_OrderOk_n2, wpO_bind, wpO_cond, wpO_map, wpO_some] at h
  exact Awp.of (by kernel_rfl) h

theorem spec_OrderOk_n3_l (x4798 : List Int) (x4799 : Int) (x4830 : Int) : Link spec_OrderOk_ctx LL (cq [0,0,0,1,0,1] (bodyOf Tryd.f106)) (aq [0,0,0,1,0,1] spec_OrderOk_an) ⟨mkE 42 0 [(0, dL x4798), (1, dI x4799), (5, dI x4830)], []⟩ (spec_OrderOk_n3 x4798 x4830) (Sum.elim (fun (t : Unit) => (Exit.normal, ⟨mkE 42 0 [(0, dL x4798), (1, dI x4799), (5, dI x4830)], []⟩)) (fun (t : Unit) => ((Exit.exit 0), ⟨mkE 42 0 [(0, dL x4798), (1, dI x4799)], []⟩))) := by
  refine Link.of fun K h => ?_
  simp only [spec_OrderOk_n3, wpO_bind, wpO_cond, wpO_map, wpO_some] at h
  exact Awp.of (by kernel_rfl) h

theorem spec_OrderOk_n4_l (x4798 : List Int) (x4799 : Int) (x4830 : Int) : Link spec_OrderOk_ctx LL (Code.seq (cq [0,0,0,1,0,0,1,0,1] (bodyOf Tryd.f106)) (cq [0,1,0,0,1,0,0,1,0,1] (bodyOf Tryd.f106))) (Ann.seq (aq [0,0,0,1,0,0,1,0,1] spec_OrderOk_an) (aq [0,1,0,0,1,0,0,1,0,1] spec_OrderOk_an)) ⟨mkE 42 0 [(0, dL x4798), (1, dI x4799), (5, dI x4830)], []⟩ (spec_OrderOk_n4 x4798 x4799 x4830) (Sum.elim (fun (t : Unit) => (Exit.normal, ⟨mkE 42 0 [(0, dL x4798), (1, dI x4799), (5, dI x4830), (6, dI 0)], []⟩)) (fun (t : Bool) => (Exit.ret, ⟨mkE 42 0 [(4, dB t)], []⟩))) := by
  refine Link.of fun K h => ?_
  simp only [spec_OrderOk_n4, wpO_bind, wpO_cond, wpO_map, wpO_some] at h
  exact Awp.of (by kernel_rfl) h

theorem spec_OrderOk_n5_l (x4798 : List Int) (x4799 : Int) (x4830 : Int) (x4849 : Int) : Link spec_OrderOk_ctx LL (cq [0,0,1,1,0,0,1,0,0,1,0,1] (bodyOf Tryd.f106)) (aq [0,0,1,1,0,0,1,0,0,1,0,1] spec_OrderOk_an) ⟨mkE 42 0 [(0, dL x4798), (1, dI x4799), (5, dI x4830), (6, dI x4849)], []⟩ (spec_OrderOk_n5 x4798 x4830 x4849) (Sum.elim (fun (t : Int) => (Exit.normal, ⟨mkE 42 0 [(0, dL x4798), (1, dI x4799), (5, dI x4830), (6, dI t)], []⟩)) (Sum.elim (fun (t : Bool) => (Exit.ret, ⟨mkE 42 0 [(4, dB t)], []⟩)) (fun (t : Unit) => ((Exit.exit 2), ⟨mkE 42 0 [(0, dL x4798), (1, dI x4799), (5, dI x4830)], []⟩)))) := by
  refine Link.of fun K h => ?_
  simp only [spec_OrderOk_n5, wpO_bind, wpO_cond, wpO_map, wpO_some] at h
  exact Awp.of (by kernel_rfl) h

def spec_OrderOk_n6_l (x4798 : List Int) (x4799 : Int) (x4830 : Int) := (link_loop (mk := fun (s : Int) => ⟨mkE 42 0 [(0, dL x4798), (1, dI x4799), (5, dI x4830), (6, dI s)], []⟩) (fin := (Sum.elim (fun (t : Bool) => (Exit.ret, ⟨mkE 42 0 [(4, dB t)], []⟩)) (fun (t : Unit) => ((Exit.exit 2), ⟨mkE 42 0 [(0, dL x4798), (1, dI x4799), (5, dI x4830)], []⟩)))) (by
  rintro (t | t) f K h
  · exact h
  · exact h) (fun s => link_map (spec_OrderOk_n5_l x4798 x4799 x4830 s) (Sum.elim (fun (t : Int) => Sum.inl t) (Sum.elim (fun (t : Bool) => Sum.inr (Sum.inl t)) (fun (t : Unit) => Sum.inr (Sum.inr t)))) (by
  rintro (t | t | t)
  · kernel_rfl
  · kernel_rfl
  · kernel_rfl)) 0)

def spec_OrderOk_n7_l (x4798 : List Int) (x4799 : Int) (x4830 : Int) := (link_block (fin2 := (Sum.elim (fun (t : Unit) => (Exit.normal, ⟨mkE 42 0 [(0, dL x4798), (1, dI x4799), (5, dI x4830)], []⟩)) (fun (t : Bool) => (Exit.ret, ⟨mkE 42 0 [(4, dB t)], []⟩)))) (id := 2) (spec_OrderOk_n6_l x4798 x4799 x4830) (Sum.elim (fun (t : Bool) => (Sum.inr t)) (fun (t : Unit) => (Sum.inl ()))) (by
  rintro (t | t) K h
  · exact Eq.mp (by kernel_rfl) h
  · exact Eq.mp (by kernel_rfl) h))

def spec_OrderOk_n8_l (x4798 : List Int) (x4799 : Int) (x4830 : Int) := (link_group (c := (cq [0,1,0,0,1,0,0,1,0,1] (bodyOf Tryd.f106))) (a := (aq [0,1,0,0,1,0,0,1,0,1] spec_OrderOk_an)) [(cq [0,0,0,1,0,0,1,0,1] (bodyOf Tryd.f106))] [(aq [0,0,0,1,0,0,1,0,1] spec_OrderOk_an)] rfl (link_seq2 (spec_OrderOk_n4_l x4798 x4799 x4830) (fun (t : Unit) => (spec_OrderOk_n7_l x4798 x4799 x4830)) (fun (t : Bool) => (Sum.inr t)) (by
  rintro t
  · kernel_rfl) (by
  rintro t f K h
  · exact h)))

def spec_OrderOk_n9_l (x4798 : List Int) (x4799 : Int) (x4830 : Int) := (link_block (fin2 := (Sum.elim (fun (t : Unit) => (Exit.normal, ⟨mkE 42 0 [(0, dL x4798), (1, dI x4799), (5, dI x4830)], []⟩)) (fun (t : Bool) => (Exit.ret, ⟨mkE 42 0 [(4, dB t)], []⟩)))) (id := 1) (spec_OrderOk_n8_l x4798 x4799 x4830) (Sum.elim (fun (t : Unit) => (Sum.inl ())) (fun (t : Bool) => (Sum.inr t))) (by
  rintro (t | t) K h
  · exact Eq.mp (by kernel_rfl) h
  · exact Eq.mp (by kernel_rfl) h))

theorem spec_OrderOk_n10_l (x4798 : List Int) (x4799 : Int) (x4830 : Int) : Link spec_OrderOk_ctx LL (cq [1,1,0,0,1,0,1] (bodyOf Tryd.f106)) (aq [1,1,0,0,1,0,1] spec_OrderOk_an) ⟨mkE 42 0 [(0, dL x4798), (1, dI x4799), (5, dI x4830)], []⟩ (spec_OrderOk_n10 x4830) (fun (t : Int) => (Exit.normal, ⟨mkE 42 0 [(0, dL x4798), (1, dI x4799), (5, dI t)], []⟩)) := by
  refine Link.of fun K h => ?_
  simp only [spec_OrderOk_n10, wpO_bind, wpO_cond, wpO_map, wpO_some] at h
  exact Awp.of (by kernel_rfl) h

def spec_OrderOk_n11_l (x4798 : List Int) (x4799 : Int) (x4830 : Int) := (link_seq2 (spec_OrderOk_n9_l x4798 x4799 x4830) (fun (t : Unit) => (link_map (fin2 := (Sum.elim (fun (t : Int) => (Exit.normal, ⟨mkE 42 0 [(0, dL x4798), (1, dI x4799), (5, dI t)], []⟩)) (fun (t : Bool) => (Exit.ret, ⟨mkE 42 0 [(4, dB t)], []⟩)))) (spec_OrderOk_n10_l x4798 x4799 x4830) (fun (t : Int) => (Sum.inl t)) (by
  rintro t
  · kernel_rfl))) (fun (t : Bool) => (Sum.inr t)) (by
  rintro t
  · kernel_rfl) (by
  rintro t f K h
  · exact h))

def spec_OrderOk_n12_l (x4798 : List Int) (x4799 : Int) (x4830 : Int) := (link_seq2 (spec_OrderOk_n3_l x4798 x4799 x4830) (fun (t : Unit) => (link_map (fin2 := (Sum.elim (fun (t : Int) => (Exit.normal, ⟨mkE 42 0 [(0, dL x4798), (1, dI x4799), (5, dI t)], []⟩)) (Sum.elim (fun (t : Bool) => (Exit.ret, ⟨mkE 42 0 [(4, dB t)], []⟩)) (fun (t : Unit) => ((Exit.exit 0), ⟨mkE 42 0 [(0, dL x4798), (1, dI x4799)], []⟩))))) (spec_OrderOk_n11_l x4798 x4799 x4830) (Sum.elim (fun (t : Int) => (Sum.inl t)) (fun (t : Bool) => (Sum.inr (Sum.inl t)))) (by
  rintro (t | t)
  · kernel_rfl
  · kernel_rfl))) (fun (t : Unit) => (Sum.inr (Sum.inr t))) (by
  rintro t
  · kernel_rfl) (by
  rintro t f K h
  · exact h))

def spec_OrderOk_n13_l (x4798 : List Int) (x4799 : Int) := (link_loop (mk := fun (s : Int) => ⟨mkE 42 0 [(0, dL x4798), (1, dI x4799), (5, dI s)], []⟩) (fin := (Sum.elim (fun (t : Bool) => (Exit.ret, ⟨mkE 42 0 [(4, dB t)], []⟩)) (fun (t : Unit) => ((Exit.exit 0), ⟨mkE 42 0 [(0, dL x4798), (1, dI x4799)], []⟩)))) (by
  rintro (t | t) f K h
  · exact h
  · exact h) (fun s => link_map (spec_OrderOk_n12_l x4798 x4799 s) (Sum.elim (fun (t : Int) => Sum.inl t) (Sum.elim (fun (t : Bool) => Sum.inr (Sum.inl t)) (fun (t : Unit) => Sum.inr (Sum.inr t)))) (by
  rintro (t | t | t)
  · kernel_rfl
  · kernel_rfl
  · kernel_rfl)) 0)

def spec_OrderOk_n14_l (x4798 : List Int) (x4799 : Int) := (link_block (fin2 := (Sum.elim (fun (t : Unit) => (Exit.normal, ⟨mkE 42 0 [(0, dL x4798), (1, dI x4799)], []⟩)) (fun (t : Bool) => (Exit.ret, ⟨mkE 42 0 [(4, dB t)], []⟩)))) (id := 0) (spec_OrderOk_n13_l x4798 x4799) (Sum.elim (fun (t : Bool) => (Sum.inr t)) (fun (t : Unit) => (Sum.inl ()))) (by
  rintro (t | t) K h
  · exact Eq.mp (by kernel_rfl) h
  · exact Eq.mp (by kernel_rfl) h))

def spec_OrderOk_n15_l (x4798 : List Int) (x4799 : Int) := (link_seq (spec_OrderOk_n2_l x4798 x4799) (fun (t : Unit) => (spec_OrderOk_n14_l x4798 x4799)))

theorem spec_OrderOk_n16_l (x4798 : List Int) (x4799 : Int) : Link spec_OrderOk_ctx LL (cq [1,1] (bodyOf Tryd.f106)) (aq [1,1] spec_OrderOk_an) ⟨mkE 42 0 [(0, dL x4798), (1, dI x4799)], []⟩ (spec_OrderOk_n16 x4798 x4799) (fun (t : Bool) => (Exit.ret, ⟨mkE 42 0 [(4, dB t)], []⟩)) := by
  refine Link.of fun K h => ?_
  simp only [spec_OrderOk_n16, wpO_bind, wpO_cond, wpO_map, wpO_some] at h
  exact Awp.of (by kernel_rfl) h

def spec_OrderOk_n17_l (x4798 : List Int) (x4799 : Int) := (link_seq2 (spec_OrderOk_n15_l x4798 x4799) (fun (t : Unit) => (spec_OrderOk_n16_l x4798 x4799)) (fun (t : Bool) => t) (by
  rintro t
  · kernel_rfl) (by
  rintro t f K h
  · exact h))

def spec_OrderOk_n18_l (x4798 : List Int) (x4799 : Int) := (link_seq (spec_OrderOk_n1_l x4798 x4799) (fun (t : Unit) => (spec_OrderOk_n17_l x4798 x4799)))

theorem spec_OrderOk_e (x4798 : List Int) (x4799 : Int) {r : AV} {H' : Heap} (h : (Ans.mk _ (spec_OrderOk x4798 x4799) (fun (t : Bool) => (dB t, [])) [] none).run = some (r, H')) : Awp spec_OrderOk_ctx LL (bodyOf Tryd.f106) spec_OrderOk_an ⟨mkE 42 0 [(0, dL x4798), (1, dI x4799)], []⟩ (Ret (tlook tys) Tryd.f106.results.toList r H') :=
  ret_of' (Link.cast (by kernel_rfl) (by kernel_rfl) (spec_OrderOk_n18_l x4798 x4799)) (by unfold spec_OrderOk; kernel_rfl) (by
  intro t
  exact ret_mk [dB t] (by kernel_rfl) (by kernel_rfl) (by kernel_rfl) (by kernel_rfl)) h

def F_spec_OrderOk : Fun := fun avs H =>
  match avs, H with
  | [.dat (.list (.int .i64)) x4798, .dat (.int .i64) x4799], [] => ⟨_, spec_OrderOk x4798 x4799, fun (t : Bool) => (dB t, []), [], none⟩
  | _, _ => Ans.no

theorem spec_OrderOk_sound : Sound Tryd.prog 106 F_spec_OrderOk := by
  refine fn_sound' (C := spec_OrderOk_ctx) (c := bodyOf Tryd.f106) (cok_of tys_ok (allc spec_l1In_sound alln) (allc Tryd.call52 alln) (by kernel_rfl)) Tryd.func106 (by kernel_rfl) LL spec_OrderOk_an ?_
  intro avs H r H' h
  unfold F_spec_OrderOk at h
  split at h
  · refine Awp.cast ?_ ?_ ?_ (spec_OrderOk_e _ _ h) <;> kernel_rfl
  · simp [Ans.no, Ans.run] at h


/-! loop.example/headtrees/spec.PutInOrder -/

def spec_PutInOrder_an : Ann := (.seq (.leaf [0, 1]) (.seq (.seq (.leaf [0, 1, 19]) (.cond (.seq (.leaf [4, 5]) (.leaf [4, 5])) (.leaf [0, 1]))) (.seq (.leaf [0, 1, 6]) (.seq (.seq (.leaf [0, 1, 6, 7]) (.block (.loop (.seq (.seq (.leaf [0, 1, 6, 7, 28]) (.cond (.leaf [0, 1, 6, 7]) (.leaf [0, 1, 6]))) (.seq (.block (.leaf [0, 1, 6, 7])) (.leaf [0, 1, 6, 7])))))) (.seq (.leaf [0, 1, 6, 8]) (.seq (.seq (.leaf [0, 1, 6, 8, 9]) (.block (.loop (.seq (.seq (.leaf [0, 1, 6, 8, 9, 43]) (.cond (.leaf [0, 1, 6, 8, 9]) (.leaf [8]))) (.seq (.block (.leaf [0, 1, 6, 8, 9])) (.leaf [0, 1, 6, 8, 9])))))) (.seq (.leaf [4, 5]) (.leaf [4, 5]))))))))

noncomputable def spec_PutInOrder_ctx : Ctx := ⟨tlook tys, olook [(51, F_spec_TreeOk), (106, F_spec_OrderOk)], ioF, 0, false, []⟩

theorem spec_PutInOrder_n1_l (x4793 : List Int) (x4794 : List Int) : Link spec_PutInOrder_ctx LL (Code.seq (cq [0] (bodyOf Tryd.f79)) (Code.seq (cq [0,1] (bodyOf Tryd.f79)) (cq [0,1,1] (bodyOf Tryd.f79)))) (Ann.seq (aq [0] spec_PutInOrder_an) (Ann.seq (aq [0,1] spec_PutInOrder_an) (aq [0,1,1] spec_PutInOrder_an))) ⟨mkE 61 0 [(0, dL x4793), (1, dL x4794)], []⟩ (spec_PutInOrder_n1 x4793 x4794) (Sum.elim (fun (t : (List Int)) => (Exit.normal, ⟨mkE 61 0 [(0, dL x4793), (1, dL x4794), (6, .slc 0)], [some (sI t)]⟩)) (fun (t : Bool × (List Int)) => (Exit.ret, ⟨mkE 61 0 [(4, .slc 0), (5, dB t.1)], [some (sI t.2)]⟩))) := by
  refine Link.of fun K h => ?_
  simp only [spec_PutInOrder_n1, wpO_bind, wpO_cond, wpO_map, wpO_some] at h
  exact Awp.of (by kernel_rfl) h

theorem spec_PutInOrder_n2_l (x4793 : List Int) (x4794 : List Int) (x4878 : List Int) : Link spec_PutInOrder_ctx LL (cq [0,0,1,1,1] (bodyOf Tryd.f79)) (aq [0,0,1,1,1] spec_PutInOrder_an) ⟨mkE 61 0 [(0, dL x4793), (1, dL x4794), (6, .slc 0)], [some (sI x4878)]⟩ (spec_PutInOrder_n2) (fun (t : Unit) => (Exit.normal, ⟨mkE 61 0 [(0, dL x4793), (1, dL x4794), (6, .slc 0), (7, dI 0)], [some (sI x4878)]⟩)) := by
  refine Link.of fun K h => ?_
  simp only [spec_PutInOrder_n2, wpO_bind, wpO_cond, wpO_map, wpO_some] at h
  exact Awp.of (by kernel_rfl) h

theorem spec_PutInOrder_n3_l (x4793 : List Int) (x4794 : List Int) (x4894 : Int) (x4895 : List Int) : Link spec_PutInOrder_ctx LL (cq [0,0,1,0,1,1,1] (bodyOf Tryd.f79)) (aq [0,0,1,0,1,1,1] spec_PutInOrder_an) ⟨mkE 61 0 [(0, dL x4793), (1, dL x4794), (6, .slc 0), (7, dI x4894)], [some (sI x4895)]⟩ (spec_PutInOrder_n3 x4794 x4894 x4895) (Sum.elim (fun (t : Int × (List Int)) => (Exit.normal, ⟨mkE 61 0 [(0, dL x4793), (1, dL x4794), (6, .slc 0), (7, dI t.1)], [some (sI t.2)]⟩)) (fun (t : (List Int)) => ((Exit.exit 0), ⟨mkE 61 0 [(0, dL x4793), (1, dL x4794), (6, .slc 0)], [some (sI t)]⟩))) := by
  refine Link.of fun K h => ?_
  simp only [spec_PutInOrder_n3, wpO_bind, wpO_cond, wpO_map, wpO_some] at h
  exact Awp.of (by kernel_rfl) h

def spec_PutInOrder_n4_l (x4793 : List Int) (x4794 : List Int) (x4878 : List Int) := (link_loop (mk := fun (s : Int × (List Int)) => ⟨mkE 61 0 [(0, dL x4793), (1, dL x4794), (6, .slc 0), (7, dI s.1)], [some (sI s.2)]⟩) (fin := (fun (t : (List Int)) => ((Exit.exit 0), ⟨mkE 61 0 [(0, dL x4793), (1, dL x4794), (6, .slc 0)], [some (sI t)]⟩))) (by
  rintro t f K h
  · exact h) (fun s => link_map (spec_PutInOrder_n3_l x4793 x4794 s.1 s.2) (Sum.elim (fun (t : Int × (List Int)) => Sum.inl (t.1, t.2)) (fun (t : (List Int)) => Sum.inr t)) (by
  rintro (t | t)
  · kernel_rfl
  · kernel_rfl)) (0, x4878))

def spec_PutInOrder_n5_l (x4793 : List Int) (x4794 : List Int) (x4878 : List Int) := (link_block (fin2 := (fun (t : (List Int)) => (Exit.normal, ⟨mkE 61 0 [(0, dL x4793), (1, dL x4794), (6, .slc 0)], [some (sI t)]⟩))) (id := 0) (spec_PutInOrder_n4_l x4793 x4794 x4878) (fun (t : (List Int)) => t) (by
  rintro t K h
  · exact Eq.mp (by kernel_rfl) h))

def spec_PutInOrder_n6_l (x4793 : List Int) (x4794 : List Int) (x4878 : List Int) := (link_seq (spec_PutInOrder_n2_l x4793 x4794 x4878) (fun (t : Unit) => (spec_PutInOrder_n5_l x4793 x4794 x4878)))

theorem spec_PutInOrder_n7_l (x4793 : List Int) (x4794 : List Int) (x4895 : List Int) : Link spec_PutInOrder_ctx LL (cq [0,1,1,1,1] (bodyOf Tryd.f79)) (aq [0,1,1,1,1] spec_PutInOrder_an) ⟨mkE 61 0 [(0, dL x4793), (1, dL x4794), (6, .slc 0)], [some (sI x4895)]⟩ (spec_PutInOrder_n7) (fun (t : Unit) => (Exit.normal, ⟨mkE 61 0 [(0, dL x4793), (1, dL x4794), (6, .slc 0), (8, .slc 1)], [some (sI x4895), some (sI ([] : List Int))]⟩)) := by
  refine Link.of fun K h => ?_
  simp only [spec_PutInOrder_n7, wpO_bind, wpO_cond, wpO_map, wpO_some] at h
  exact Awp.of (by kernel_rfl) h

theorem spec_PutInOrder_n8_l (x4793 : List Int) (x4794 : List Int) (x4895 : List Int) : Link spec_PutInOrder_ctx LL (cq [0,0,1,1,1,1,1] (bodyOf Tryd.f79)) (aq [0,0,1,1,1,1,1] spec_PutInOrder_an) ⟨mkE 61 0 [(0, dL x4793), (1, dL x4794), (6, .slc 0), (8, .slc 1)], [some (sI x4895), some (sI ([] : List Int))]⟩ (spec_PutInOrder_n8) (fun (t : Unit) => (Exit.normal, ⟨mkE 61 0 [(0, dL x4793), (1, dL x4794), (6, .slc 0), (8, .slc 1), (9, dI 0)], [some (sI x4895), some (sI ([] : List Int))]⟩)) := by
  refine Link.of fun K h => ?_
  simp only [spec_PutInOrder_n8, wpO_bind, wpO_cond, wpO_map, wpO_some] at h
  exact Awp.of (by kernel_rfl) h

theorem spec_PutInOrder_n9_l (x4793 : List Int) (x4794 : List Int) (x4936 : Int) (x4895 : List Int) (x4937 : List Int) : Link spec_PutInOrder_ctx LL (cq [0,0,1,0,1,1,1,1,1] (bodyOf Tryd.f79)) (aq [0,0,1,0,1,1,1,1,1] spec_PutInOrder_an) ⟨mkE 61 0 [(0, dL x4793), (1, dL x4794), (6, .slc 0), (8, .slc 1), (9, dI x4936)], [some (sI x4895), some (sI x4937)]⟩ (spec_PutInOrder_n9 x4793 x4794 x4936 x4895 x4937) (Sum.elim (fun (t : Int × (List Int)) => (Exit.normal, ⟨mkE 61 0 [(0, dL x4793), (1, dL x4794), (6, .slc 0), (8, .slc 1), (9, dI t.1)], [some (sI x4895), some (sI t.2)]⟩)) (fun (t : (List Int)) => ((Exit.exit 2), ⟨mkE 61 0 [(8, .slc 0)], [some (sI t)]⟩))) := by
  refine Link.of fun K h => ?_
  simp only [spec_PutInOrder_n9, wpO_bind, wpO_cond, wpO_map, wpO_some] at h
  exact Awp.of (by kernel_rfl) h

def spec_PutInOrder_n10_l (x4793 : List Int) (x4794 : List Int) (x4895 : List Int) := (link_loop (mk := fun (s : Int × (List Int)) => ⟨mkE 61 0 [(0, dL x4793), (1, dL x4794), (6, .slc 0), (8, .slc 1), (9, dI s.1)], [some (sI x4895), some (sI s.2)]⟩) (fin := (fun (t : (List Int)) => ((Exit.exit 2), ⟨mkE 61 0 [(8, .slc 0)], [some (sI t)]⟩))) (by
  rintro t f K h
  · exact h) (fun s => link_map (spec_PutInOrder_n9_l x4793 x4794 s.1 x4895 s.2) (Sum.elim (fun (t : Int × (List Int)) => Sum.inl (t.1, t.2)) (fun (t : (List Int)) => Sum.inr t)) (by
  rintro (t | t)
  · kernel_rfl
  · kernel_rfl)) (0, ([] : List Int)))

def spec_PutInOrder_n11_l (x4793 : List Int) (x4794 : List Int) (x4895 : List Int) := (link_block (fin2 := (fun (t : (List Int)) => (Exit.normal, ⟨mkE 61 0 [(8, .slc 0)], [some (sI t)]⟩))) (id := 2) (spec_PutInOrder_n10_l x4793 x4794 x4895) (fun (t : (List Int)) => t) (by
  rintro t K h
  · exact Eq.mp (by kernel_rfl) h))

def spec_PutInOrder_n12_l (x4793 : List Int) (x4794 : List Int) (x4895 : List Int) := (link_seq (spec_PutInOrder_n8_l x4793 x4794 x4895) (fun (t : Unit) => (spec_PutInOrder_n11_l x4793 x4794 x4895)))

theorem spec_PutInOrder_n13_l (x4937 : List Int) : Link spec_PutInOrder_ctx LL (cq [1,1,1,1,1,1] (bodyOf Tryd.f79)) (aq [1,1,1,1,1,1] spec_PutInOrder_an) ⟨mkE 61 0 [(8, .slc 0)], [some (sI x4937)]⟩ (spec_PutInOrder_n13 x4937) (fun (t : Bool × (List Int)) => (Exit.ret, ⟨mkE 61 0 [(4, .slc 0), (5, dB t.1)], [some (sI t.2)]⟩)) := by
  refine Link.of fun K h => ?_
  simp only [spec_PutInOrder_n13, wpO_bind, wpO_cond, wpO_map, wpO_some] at h
  exact Awp.of (by kernel_rfl) h

def spec_PutInOrder_n14_l (x4793 : List Int) (x4794 : List Int) (x4895 : List Int) := (link_seq (spec_PutInOrder_n12_l x4793 x4794 x4895) (fun (t : (List Int)) => (spec_PutInOrder_n13_l t)))

def spec_PutInOrder_n15_l (x4793 : List Int) (x4794 : List Int) (x4895 : List Int) := (link_seq (spec_PutInOrder_n7_l x4793 x4794 x4895) (fun (t : Unit) => (spec_PutInOrder_n14_l x4793 x4794 x4895)))

def spec_PutInOrder_n16_l (x4793 : List Int) (x4794 : List Int) (x4878 : List Int) := (link_seq (spec_PutInOrder_n6_l x4793 x4794 x4878) (fun (t : (List Int)) => (spec_PutInOrder_n15_l x4793 x4794 t)))

def spec_PutInOrder_n17_l (x4793 : List Int) (x4794 : List Int) := (link_group (c := (cq [0,1,1] (bodyOf Tryd.f79))) (a := (aq [0,1,1] spec_PutInOrder_an)) [(cq [0] (bodyOf Tryd.f79)), (cq [0,1] (bodyOf Tryd.f79))] [(aq [0] spec_PutInOrder_an), (aq [0,1] spec_PutInOrder_an)] rfl (link_seq2 (spec_PutInOrder_n1_l x4793 x4794) (fun (t : (List Int)) => (spec_PutInOrder_n16_l x4793 x4794 t)) (fun (t : Bool × (List Int)) => t) (by
  rintro t
  · kernel_rfl) (by
  rintro t f K h
  · exact h)))

theorem spec_PutInOrder_e (x4793 : List Int) (x4794 : List Int) {r : AV} {H' : Heap} (h : (Ans.mk _ (spec_PutInOrder x4793 x4794) (fun (t : Bool × (List Int)) => (.tup [.slc 0, dB t.1], [some (sI t.2)])) [] none).run = some (r, H')) : Awp spec_PutInOrder_ctx LL (bodyOf Tryd.f79) spec_PutInOrder_an ⟨mkE 61 0 [(0, dL x4793), (1, dL x4794)], []⟩ (Ret (tlook tys) Tryd.f79.results.toList r H') :=
  ret_of' (Link.cast (by kernel_rfl) (by kernel_rfl) (spec_PutInOrder_n17_l x4793 x4794)) (by unfold spec_PutInOrder; kernel_rfl) (by
  intro t
  exact ret_mk [.slc 0, dB t.1] (by kernel_rfl) (by kernel_rfl) (by kernel_rfl) (by kernel_rfl)) h

def F_spec_PutInOrder : Fun := fun avs H =>
  match avs, H with
  | [.dat (.list (.int .i64)) x4793, .dat (.list (.int .i64)) x4794], [] => ⟨_, spec_PutInOrder x4793 x4794, fun (t : Bool × (List Int)) => (.tup [.slc 0, dB t.1], [some (sI t.2)]), [], none⟩
  | _, _ => Ans.no

theorem spec_PutInOrder_sound : Sound Tryd.prog 79 F_spec_PutInOrder := by
  refine fn_sound' (C := spec_PutInOrder_ctx) (c := bodyOf Tryd.f79) (cok_of tys_ok (allc spec_TreeOk_sound (allc spec_OrderOk_sound alln)) (allc Tryd.call51 (allc Tryd.call106 alln)) (by kernel_rfl)) Tryd.func79 (by kernel_rfl) LL spec_PutInOrder_an ?_
  intro avs H r H' h
  unfold F_spec_PutInOrder at h
  split at h
  · refine Awp.cast ?_ ?_ ?_ (spec_PutInOrder_e _ _ h) <;> kernel_rfl
  · simp [Ans.no, Ans.run] at h


/-! loop.example/headtrees/impl.appendFlat, loop.example/headtrees/impl.appendEachFlat -/

def impl_appendFlat_an : Ann := (.seq (.leaf [0, 1, 2]) (.seq (.leaf [0, 1, 2, 7, 8]) (.seq (.leaf [0, 1, 8]) (.seq (.leaf [6]) (.leaf [6])))))

def impl_appendEachFlat_an : Ann := (.seq (.leaf [0, 1, 2]) (.seq (.seq (.leaf [0, 1, 10, 11, 12]) (.block (.loop (.seq (.leaf [0, 1, 10, 11, 12, 13]) (.seq (.cond (.leaf [0, 1, 10, 11, 12]) (.leaf [0])) (.seq (.block (.seq (.leaf [0, 1, 8, 10, 11, 12]) (.leaf [0, 1, 10, 11, 12]))) (.leaf [0, 1, 10, 11, 12]))))))) (.seq (.leaf [6]) (.leaf [6]))))

def F_impl_appendFlat_fuel (n : Nat) : Fun := fun avs H =>
  match avs, H with
  | [.slc 0, .dat (.list (.int .i64)) x5085, .dat (.int .i64) x5086], [some (.seq (.int .i64) x5087)] => ⟨_, impl_appendFlat_fuel n x5085 x5086 x5087, fun (t : (List Int)) => (.slc 0, [some (sI t)]), [0], none⟩
  | _, _ => Ans.no

def F_impl_appendEachFlat_fuel (n : Nat) : Fun := fun avs H =>
  match avs, H with
  | [.slc 0, .dat (.list (.int .i64)) x5140, .dat (.int .u64) x5141], [some (.seq (.int .i64) x5142)] => ⟨_, impl_appendEachFlat_fuel n x5140 x5141 x5142, fun (t : (List Int)) => (.slc 0, [some (sI t)]), [0], none⟩
  | _, _ => Ans.no

noncomputable def impl_appendFlat_ctx (n : Nat) : Ctx := ⟨tlook tys, olook [(49, F_impl_dependentsBeside), (104, F_impl_appendEachFlat_fuel n)], ioF, 1, false, [0]⟩

noncomputable def impl_appendEachFlat_ctx (n : Nat) : Ctx := ⟨tlook tys, olook [(54, F_impl_wordSet_list), (70, F_impl_appendFlat_fuel n)], ioF, 1, false, [0]⟩

theorem impl_appendFlat_n1_l (n : Nat) (x5085 : List Int) (x5086 : Int) (x5087 : List Int) : Link (impl_appendFlat_ctx n) LL (bodyOf Tryd.f70) impl_appendFlat_an ⟨mkE 26 0 [(0, .slc 0), (1, dL x5085), (2, dI x5086)], [some (sI x5087)]⟩ (impl_appendFlat_n1 (impl_appendFlat_fuel n) (impl_appendEachFlat_fuel n) x5085 x5086 x5087) (fun (t : (List Int)) => (Exit.ret, ⟨mkE 26 0 [(6, .slc 0)], [some (sI t)]⟩)) := by
  refine Link.of fun K h => ?_
  simp only [impl_appendFlat_n1, wpO_bind, wpO_cond, wpO_map, wpO_some] at h
  exact Awp.of (by kernel_rfl) h

theorem impl_appendFlat_e (n : Nat) (x5085 : List Int) (x5086 : Int) (x5087 : List Int) {r : AV} {H' : Heap} (h : (Ans.mk _ (impl_appendFlat_fuel (n + 1) x5085 x5086 x5087) (fun (t : (List Int)) => (.slc 0, [some (sI t)])) [0] none).run = some (r, H')) : Awp (impl_appendFlat_ctx n) LL (bodyOf Tryd.f70) impl_appendFlat_an ⟨mkE 26 0 [(0, .slc 0), (1, dL x5085), (2, dI x5086)], [some (sI x5087)]⟩ (Ret (tlook tys) Tryd.f70.results.toList r H') :=
  ret_of' (impl_appendFlat_n1_l n x5085 x5086 x5087) (by (show _ = _); kernel_rfl) (by
  intro t
  exact ret_mk [.slc 0] (by kernel_rfl) (by kernel_rfl) (by kernel_rfl) (by kernel_rfl)) h

theorem impl_appendEachFlat_n1_l (n : Nat) (x5140 : List Int) (x5141 : Int) (x5142 : List Int) : Link (impl_appendEachFlat_ctx n) LL (cq [0] (bodyOf Tryd.f104)) (aq [0] impl_appendEachFlat_an) ⟨mkE 22 0 [(0, .slc 0), (1, dL x5140), (2, dW x5141)], [some (sI x5142)]⟩ (impl_appendEachFlat_n1 (impl_appendFlat_fuel n) (impl_appendEachFlat_fuel n)) (fun (t : Unit) => (Exit.normal, ⟨mkE 22 0 [(0, .slc 0), (1, dL x5140), (2, dW x5141)], [some (sI x5142)]⟩)) := by
  refine Link.of fun K h => ?_
  simp only [impl_appendEachFlat_n1, wpO_bind, wpO_cond, wpO_map, wpO_some] at h
  exact Awp.of (by kernel_rfl) h

theorem impl_appendEachFlat_n2_l (n : Nat) (x5140 : List Int) (x5141 : Int) (x5142 : List Int) : Link (impl_appendEachFlat_ctx n) LL (cq [0,0,1] (bodyOf Tryd.f104)) (aq [0,0,1] impl_appendEachFlat_an) ⟨mkE 22 0 [(0, .slc 0), (1, dL x5140), (2, dW x5141)], [some (sI x5142)]⟩ (impl_appendEachFlat_n2 (impl_appendFlat_fuel n) (impl_appendEachFlat_fuel n) x5141) (fun (t : Int × (List Int)) => (Exit.normal, ⟨mkE 22 0 [(0, .slc 0), (1, dL x5140), (10, .slc 1), (11, dI t.1), (12, dI 0)], [some (sI x5142), some (sI t.2)]⟩)) := by
  refine Link.of fun K h => ?_
  simp only [impl_appendEachFlat_n2, wpO_bind, wpO_cond, wpO_map, wpO_some] at h
  exact Awp.of (by kernel_rfl) h

theorem impl_appendEachFlat_n3_l (n : Nat) (x5140 : List Int) (x5170 : Int) (x5182 : Int) (x5183 : List Int) (x5169 : List Int) : Link (impl_appendEachFlat_ctx n) LL (cq [0,0,1,0,1] (bodyOf Tryd.f104)) (aq [0,0,1,0,1] impl_appendEachFlat_an) ⟨mkE 22 0 [(0, .slc 0), (1, dL x5140), (10, .slc 1), (11, dI x5170), (12, dI x5182)], [some (sI x5183), some (sI x5169)]⟩ (impl_appendEachFlat_n3 (impl_appendFlat_fuel n) (impl_appendEachFlat_fuel n) x5140 x5170 x5182 x5183 x5169) (Sum.elim (fun (t : Int × (List Int)) => (Exit.normal, ⟨mkE 22 0 [(0, .slc 0), (1, dL x5140), (10, .slc 1), (11, dI x5170), (12, dI t.1)], [some (sI t.2), some (sI x5169)]⟩)) (fun (t : (List Int)) => ((Exit.exit 0), ⟨mkE 22 0 [(0, .slc 0)], [some (sI t)]⟩))) := by
  refine Link.of fun K h => ?_
  simp only [impl_appendEachFlat_n3, wpO_bind, wpO_cond, wpO_map, wpO_some] at h
  exact Awp.of (by kernel_rfl) h

def impl_appendEachFlat_n4_l (n : Nat) (x5140 : List Int) (x5170 : Int) (x5142 : List Int) (x5169 : List Int) := (link_loop (mk := fun (s : Int × (List Int)) => ⟨mkE 22 0 [(0, .slc 0), (1, dL x5140), (10, .slc 1), (11, dI x5170), (12, dI s.1)], [some (sI s.2), some (sI x5169)]⟩) (fin := (fun (t : (List Int)) => ((Exit.exit 0), ⟨mkE 22 0 [(0, .slc 0)], [some (sI t)]⟩))) (by
  rintro t f K h
  · exact h) (fun s => link_map (impl_appendEachFlat_n3_l n x5140 x5170 s.1 s.2 x5169) (Sum.elim (fun (t : Int × (List Int)) => Sum.inl (t.1, t.2)) (fun (t : (List Int)) => Sum.inr t)) (by
  rintro (t | t)
  · kernel_rfl
  · kernel_rfl)) (0, x5142))

def impl_appendEachFlat_n5_l (n : Nat) (x5140 : List Int) (x5170 : Int) (x5142 : List Int) (x5169 : List Int) := (link_block (fin2 := (fun (t : (List Int)) => (Exit.normal, ⟨mkE 22 0 [(0, .slc 0)], [some (sI t)]⟩))) (id := 0) (impl_appendEachFlat_n4_l n x5140 x5170 x5142 x5169) (fun (t : (List Int)) => t) (by
  rintro t K h
  · exact Eq.mp (by kernel_rfl) h))

def impl_appendEachFlat_n6_l (n : Nat) (x5140 : List Int) (x5141 : Int) (x5142 : List Int) := (link_seq (impl_appendEachFlat_n2_l n x5140 x5141 x5142) (fun (t : Int × (List Int)) => (impl_appendEachFlat_n5_l n x5140 t.1 x5142 t.2)))

theorem impl_appendEachFlat_n7_l (n : Nat) (x5183 : List Int) : Link (impl_appendEachFlat_ctx n) LL (cq [1,1] (bodyOf Tryd.f104)) (aq [1,1] impl_appendEachFlat_an) ⟨mkE 22 0 [(0, .slc 0)], [some (sI x5183)]⟩ (impl_appendEachFlat_n7 (impl_appendFlat_fuel n) (impl_appendEachFlat_fuel n) x5183) (fun (t : (List Int)) => (Exit.ret, ⟨mkE 22 0 [(6, .slc 0)], [some (sI t)]⟩)) := by
  refine Link.of fun K h => ?_
  simp only [impl_appendEachFlat_n7, wpO_bind, wpO_cond, wpO_map, wpO_some] at h
  exact Awp.of (by kernel_rfl) h

def impl_appendEachFlat_n8_l (n : Nat) (x5140 : List Int) (x5141 : Int) (x5142 : List Int) := (link_seq (impl_appendEachFlat_n6_l n x5140 x5141 x5142) (fun (t : (List Int)) => (impl_appendEachFlat_n7_l n t)))

def impl_appendEachFlat_n9_l (n : Nat) (x5140 : List Int) (x5141 : Int) (x5142 : List Int) := (link_seq (impl_appendEachFlat_n1_l n x5140 x5141 x5142) (fun (t : Unit) => (impl_appendEachFlat_n8_l n x5140 x5141 x5142)))

theorem impl_appendEachFlat_e (n : Nat) (x5140 : List Int) (x5141 : Int) (x5142 : List Int) {r : AV} {H' : Heap} (h : (Ans.mk _ (impl_appendEachFlat_fuel (n + 1) x5140 x5141 x5142) (fun (t : (List Int)) => (.slc 0, [some (sI t)])) [0] none).run = some (r, H')) : Awp (impl_appendEachFlat_ctx n) LL (bodyOf Tryd.f104) impl_appendEachFlat_an ⟨mkE 22 0 [(0, .slc 0), (1, dL x5140), (2, dW x5141)], [some (sI x5142)]⟩ (Ret (tlook tys) Tryd.f104.results.toList r H') :=
  ret_of' (Link.cast (by kernel_rfl) (by kernel_rfl) (impl_appendEachFlat_n9_l n x5140 x5141 x5142)) (by (show _ = _); kernel_rfl) (by
  intro t
  exact ret_mk [.slc 0] (by kernel_rfl) (by kernel_rfl) (by kernel_rfl) (by kernel_rfl)) h

theorem impl_appendFlat_step (n : Nat) (h70 : Sound Tryd.prog 70 (F_impl_appendFlat_fuel n)) (h104 : Sound Tryd.prog 104 (F_impl_appendEachFlat_fuel n)) : Sound Tryd.prog 70 (F_impl_appendFlat_fuel (n + 1)) := by
  refine fn_sound' (C := impl_appendFlat_ctx n) (c := bodyOf Tryd.f70) (cok_of tys_ok (allc impl_dependentsBeside_sound (allc h104 alln)) (allc Tryd.call49 (allc Tryd.call104 alln)) (by kernel_rfl)) Tryd.func70 (by kernel_rfl) LL impl_appendFlat_an ?_
  intro avs H r H' h
  unfold F_impl_appendFlat_fuel at h
  split at h
  · refine Awp.cast ?_ ?_ ?_ (impl_appendFlat_e n _ _ _ h) <;> kernel_rfl
  · simp [Ans.no, Ans.run] at h

theorem impl_appendFlat_null : Sound Tryd.prog 70 (F_impl_appendFlat_fuel 0) := by
  intro avs H r H' h
  unfold F_impl_appendFlat_fuel at h
  split at h
  · simp [impl_appendFlat_fuel, impl_appendFlat_knot, Ans.run] at h
  · simp [Ans.no, Ans.run] at h

theorem impl_appendEachFlat_step (n : Nat) (h70 : Sound Tryd.prog 70 (F_impl_appendFlat_fuel n)) (h104 : Sound Tryd.prog 104 (F_impl_appendEachFlat_fuel n)) : Sound Tryd.prog 104 (F_impl_appendEachFlat_fuel (n + 1)) := by
  refine fn_sound' (C := impl_appendEachFlat_ctx n) (c := bodyOf Tryd.f104) (cok_of tys_ok (allc impl_wordSet_list_sound (allc h70 alln)) (allc Tryd.call54 (allc Tryd.call70 alln)) (by kernel_rfl)) Tryd.func104 (by kernel_rfl) LL impl_appendEachFlat_an ?_
  intro avs H r H' h
  unfold F_impl_appendEachFlat_fuel at h
  split at h
  · refine Awp.cast ?_ ?_ ?_ (impl_appendEachFlat_e n _ _ _ h) <;> kernel_rfl
  · simp [Ans.no, Ans.run] at h

theorem impl_appendEachFlat_null : Sound Tryd.prog 104 (F_impl_appendEachFlat_fuel 0) := by
  intro avs H r H' h
  unfold F_impl_appendEachFlat_fuel at h
  split at h
  · simp [impl_appendEachFlat_fuel, impl_appendFlat_knot, Ans.run] at h
  · simp [Ans.no, Ans.run] at h

theorem impl_appendFlat_knot_all : ∀ n, Sound Tryd.prog 70 (F_impl_appendFlat_fuel n) ∧ Sound Tryd.prog 104 (F_impl_appendEachFlat_fuel n)
  | 0 => ⟨impl_appendFlat_null, impl_appendEachFlat_null⟩
  | n + 1 => by
    obtain ⟨h70, h104⟩ := impl_appendFlat_knot_all n
    exact ⟨impl_appendFlat_step n h70 h104, impl_appendEachFlat_step n h70 h104⟩

def F_impl_appendFlat : Fun := fun avs H =>
  match avs, H with
  | [.slc 0, .dat (.list (.int .i64)) x5085, .dat (.int .i64) x5086], [some (.seq (.int .i64) x5087)] => ⟨_, impl_appendFlat x5085 x5086 x5087, fun (t : (List Int)) => (.slc 0, [some (sI t)]), [0], none⟩
  | _, _ => Ans.no

theorem impl_appendFlat_sound : Sound Tryd.prog 70 F_impl_appendFlat := by
  have e : F_impl_appendFlat = F_impl_appendFlat_fuel RR := by
    funext avs H
    unfold F_impl_appendFlat F_impl_appendFlat_fuel
    split <;> first | rfl | (simp only [impl_appendFlat])
  rw [e]
  exact (impl_appendFlat_knot_all RR).1

def F_impl_appendEachFlat : Fun := fun avs H =>
  match avs, H with
  | [.slc 0, .dat (.list (.int .i64)) x5140, .dat (.int .u64) x5141], [some (.seq (.int .i64) x5142)] => ⟨_, impl_appendEachFlat x5140 x5141 x5142, fun (t : (List Int)) => (.slc 0, [some (sI t)]), [0], none⟩
  | _, _ => Ans.no

theorem impl_appendEachFlat_sound : Sound Tryd.prog 104 F_impl_appendEachFlat := by
  have e : F_impl_appendEachFlat = F_impl_appendEachFlat_fuel RR := by
    funext avs H
    unfold F_impl_appendEachFlat F_impl_appendEachFlat_fuel
    split <;> first | rfl | (simp only [impl_appendEachFlat])
  rw [e]
  exact (impl_appendFlat_knot_all RR).2


/-! loop.example/headtrees/impl.FlatOrder -/

def impl_FlatOrder_an : Ann := (.seq (.leaf [0]) (.seq (.seq (.leaf [0, 5]) (.cond (.seq (.leaf [2]) (.leaf [2])) (.leaf [0]))) (.seq (.draw [5, 100006] [0, 1, 3, 4, 5, 2, 6, 7] [] [2]) (.leaf [2]))))

noncomputable def impl_FlatOrder_ctx : Ctx := ⟨tlook tys, olook [(31, F_impl_TreeOk), (24, F_impl_RootOf), (70, F_impl_appendFlat)], ioF, 0, false, []⟩

theorem impl_FlatOrder_n1_l (x5068 : List Int) : Link impl_FlatOrder_ctx LL (bodyOf Tryd.f29) impl_FlatOrder_an ⟨mkE 13 0 [(0, dL x5068)], []⟩ (impl_FlatOrder_n1 x5068) (fun (t : (List Int)) => (Exit.ret, ⟨mkE 13 0 [(2, .slc 0)], [some (sI t)]⟩)) := by
  refine Link.of fun K h => ?_
  simp only [impl_FlatOrder_n1, wpO_bind, wpO_cond, wpO_map, wpO_some] at h
  exact Awp.of (by kernel_rfl) h

theorem impl_FlatOrder_e (x5068 : List Int) {r : AV} {H' : Heap} (h : (Ans.mk _ (impl_FlatOrder x5068) (fun (t : (List Int)) => (.slc 0, [some (sI t)])) [] none).run = some (r, H')) : Awp impl_FlatOrder_ctx LL (bodyOf Tryd.f29) impl_FlatOrder_an ⟨mkE 13 0 [(0, dL x5068)], []⟩ (Ret (tlook tys) Tryd.f29.results.toList r H') :=
  ret_of' (impl_FlatOrder_n1_l x5068) (by unfold impl_FlatOrder; kernel_rfl) (by
  intro t
  exact ret_mk [.slc 0] (by kernel_rfl) (by kernel_rfl) (by kernel_rfl) (by kernel_rfl)) h

def F_impl_FlatOrder : Fun := fun avs H =>
  match avs, H with
  | [.dat (.list (.int .i64)) x5068], [] => ⟨_, impl_FlatOrder x5068, fun (t : (List Int)) => (.slc 0, [some (sI t)]), [], none⟩
  | _, _ => Ans.no

theorem impl_FlatOrder_sound : Sound Tryd.prog 29 F_impl_FlatOrder := by
  refine fn_sound' (C := impl_FlatOrder_ctx) (c := bodyOf Tryd.f29) (cok_of tys_ok (allc impl_TreeOk_sound (allc impl_RootOf_sound (allc impl_appendFlat_sound alln))) (allc Tryd.call31 (allc Tryd.call24 (allc Tryd.call70 alln))) (by kernel_rfl)) Tryd.func29 (by kernel_rfl) LL impl_FlatOrder_an ?_
  intro avs H r H' h
  unfold F_impl_FlatOrder at h
  split at h
  · refine Awp.cast ?_ ?_ ?_ (impl_FlatOrder_e _ h) <;> kernel_rfl
  · simp [Ans.no, Ans.run] at h


/-! loop.example/headtrees/spec.l8Walk -/

def spec_l8Walk_an : Ann := (.seq (.leaf [0, 1]) (.seq (.leaf [0, 1, 5]) (.seq (.seq (.leaf [0, 1, 5, 6]) (.block (.loop (.seq (.seq (.leaf [0, 1, 5, 6, 11]) (.cond (.leaf [0, 1, 5, 6]) (.leaf [0, 1, 5]))) (.seq (.block (.seq (.leaf [0, 1, 5, 6, 20]) (.cond (.leaf [0, 1, 5, 6]) (.leaf [0, 1, 5, 6])))) (.leaf [0, 1, 5, 6])))))) (.seq (.leaf [0, 1, 5]) (.seq (.seq (.leaf [0, 1, 5, 7]) (.block (.loop (.seq (.seq (.leaf [0, 1, 5, 7, 35]) (.cond (.leaf [0, 1, 5, 7]) (.leaf [5]))) (.seq (.block (.seq (.leaf [0, 1, 5, 7, 44]) (.cond (.leaf [0, 1, 5, 7]) (.leaf [0, 1, 5, 7])))) (.leaf [0, 1, 5, 7])))))) (.seq (.leaf [4]) (.leaf [4])))))))

def F_spec_l8Walk_fuel (n : Nat) : Fun := fun avs H =>
  match avs, H with
  | [.dat (.list (.int .i64)) x5246, .dat (.int .i64) x5247], [] => ⟨_, spec_l8Walk_fuel n x5246 x5247, fun (t : (List Int)) => (.slc 0, [some (sI t)]), [], none⟩
  | _, _ => Ans.no

noncomputable def spec_l8Walk_ctx (n : Nat) : Ctx := ⟨tlook tys, olook [(71, F_spec_l8Walk_fuel n)], ioF, 0, false, []⟩

theorem spec_l8Walk_n1_l (n : Nat) (x5246 : List Int) (x5247 : Int) : Link (spec_l8Walk_ctx n) LL (Code.seq (cq [0] (bodyOf Tryd.f71)) (cq [0,1] (bodyOf Tryd.f71))) (Ann.seq (aq [0] spec_l8Walk_an) (aq [0,1] spec_l8Walk_an)) ⟨mkE 51 0 [(0, dL x5246), (1, dI x5247)], []⟩ (spec_l8Walk_n1 (spec_l8Walk_fuel n)) (fun (t : Unit) => (Exit.normal, ⟨mkE 51 0 [(0, dL x5246), (1, dI x5247), (5, .slc 0)], [some (sI ([] : List Int))]⟩)) := by
  refine Link.of fun K h => ?_
  simp only [spec_l8Walk_n1, wpO_bind, wpO_cond, wpO_map, wpO_some] at h
  exact Awp.of (by kernel_rfl) h

theorem spec_l8Walk_n2_l (n : Nat) (x5246 : List Int) (x5247 : Int) : Link (spec_l8Walk_ctx n) LL (cq [0,0,1,1] (bodyOf Tryd.f71)) (aq [0,0,1,1] spec_l8Walk_an) ⟨mkE 51 0 [(0, dL x5246), (1, dI x5247), (5, .slc 0)], [some (sI ([] : List Int))]⟩ (spec_l8Walk_n2 (spec_l8Walk_fuel n)) (fun (t : Unit) => (Exit.normal, ⟨mkE 51 0 [(0, dL x5246), (1, dI x5247), (5, .slc 0), (6, dI 1)], [some (sI ([] : List Int))]⟩)) := by
  refine Link.of fun K h => ?_
  simp only [spec_l8Walk_n2, wpO_bind, wpO_cond, wpO_map, wpO_some] at h
  exact Awp.of (by kernel_rfl) h

theorem spec_l8Walk_n3_l (n : Nat) (x5246 : List Int) (x5247 : Int) (x5322 : Int) (x5323 : List Int) : Link (spec_l8Walk_ctx n) LL (cq [0,0,1,0,1,1] (bodyOf Tryd.f71)) (aq [0,0,1,0,1,1] spec_l8Walk_an) ⟨mkE 51 0 [(0, dL x5246), (1, dI x5247), (5, .slc 0), (6, dI x5322)], [some (sI x5323)]⟩ (spec_l8Walk_n3 (spec_l8Walk_fuel n) x5246 x5247 x5322 x5323) (Sum.elim (fun (t : Int × (List Int)) => (Exit.normal, ⟨mkE 51 0 [(0, dL x5246), (1, dI x5247), (5, .slc 0), (6, dI t.1)], [some (sI t.2)]⟩)) (fun (t : (List Int)) => ((Exit.exit 0), ⟨mkE 51 0 [(0, dL x5246), (1, dI x5247), (5, .slc 0)], [some (sI t)]⟩))) := by
  refine Link.of fun K h => ?_
  simp only [spec_l8Walk_n3, wpO_bind, wpO_cond, wpO_map, wpO_some] at h
  exact Awp.of (by kernel_rfl) h

def spec_l8Walk_n4_l (n : Nat) (x5246 : List Int) (x5247 : Int) := (link_loop (mk := fun (s : Int × (List Int)) => ⟨mkE 51 0 [(0, dL x5246), (1, dI x5247), (5, .slc 0), (6, dI s.1)], [some (sI s.2)]⟩) (fin := (fun (t : (List Int)) => ((Exit.exit 0), ⟨mkE 51 0 [(0, dL x5246), (1, dI x5247), (5, .slc 0)], [some (sI t)]⟩))) (by
  rintro t f K h
  · exact h) (fun s => link_map (spec_l8Walk_n3_l n x5246 x5247 s.1 s.2) (Sum.elim (fun (t : Int × (List Int)) => Sum.inl (t.1, t.2)) (fun (t : (List Int)) => Sum.inr t)) (by
  rintro (t | t)
  · kernel_rfl
  · kernel_rfl)) (1, ([] : List Int)))

def spec_l8Walk_n5_l (n : Nat) (x5246 : List Int) (x5247 : Int) := (link_block (fin2 := (fun (t : (List Int)) => (Exit.normal, ⟨mkE 51 0 [(0, dL x5246), (1, dI x5247), (5, .slc 0)], [some (sI t)]⟩))) (id := 0) (spec_l8Walk_n4_l n x5246 x5247) (fun (t : (List Int)) => t) (by
  rintro t K h
  · exact Eq.mp (by kernel_rfl) h))

def spec_l8Walk_n6_l (n : Nat) (x5246 : List Int) (x5247 : Int) := (link_seq (spec_l8Walk_n2_l n x5246 x5247) (fun (t : Unit) => (spec_l8Walk_n5_l n x5246 x5247)))

theorem spec_l8Walk_n7_l (n : Nat) (x5246 : List Int) (x5247 : Int) (x5323 : List Int) : Link (spec_l8Walk_ctx n) LL (cq [0,1,1,1] (bodyOf Tryd.f71)) (aq [0,1,1,1] spec_l8Walk_an) ⟨mkE 51 0 [(0, dL x5246), (1, dI x5247), (5, .slc 0)], [some (sI x5323)]⟩ (spec_l8Walk_n7 (spec_l8Walk_fuel n) x5247 x5323) (fun (t : (List Int)) => (Exit.normal, ⟨mkE 51 0 [(0, dL x5246), (1, dI x5247), (5, .slc 0)], [some (sI t)]⟩)) := by
  refine Link.of fun K h => ?_
  simp only [spec_l8Walk_n7, wpO_bind, wpO_cond, wpO_map, wpO_some] at h
  exact Awp.of (by kernel_rfl) h

theorem spec_l8Walk_n8_l (n : Nat) (x5246 : List Int) (x5247 : Int) (x5348 : List Int) : Link (spec_l8Walk_ctx n) LL (cq [0,0,1,1,1,1] (bodyOf Tryd.f71)) (aq [0,0,1,1,1,1] spec_l8Walk_an) ⟨mkE 51 0 [(0, dL x5246), (1, dI x5247), (5, .slc 0)], [some (sI x5348)]⟩ (spec_l8Walk_n8 (spec_l8Walk_fuel n) x5247) (fun (t : Int) => (Exit.normal, ⟨mkE 51 0 [(0, dL x5246), (1, dI x5247), (5, .slc 0), (7, dI t)], [some (sI x5348)]⟩)) := by
  refine Link.of fun K h => ?_
  simp only [spec_l8Walk_n8, wpO_bind, wpO_cond, wpO_map, wpO_some] at h
  exact Awp.of (by kernel_rfl) h

theorem spec_l8Walk_n9_l (n : Nat) (x5246 : List Int) (x5247 : Int) (x5374 : Int) (x5375 : List Int) : Link (spec_l8Walk_ctx n) LL (cq [0,0,1,0,1,1,1,1] (bodyOf Tryd.f71)) (aq [0,0,1,0,1,1,1,1] spec_l8Walk_an) ⟨mkE 51 0 [(0, dL x5246), (1, dI x5247), (5, .slc 0), (7, dI x5374)], [some (sI x5375)]⟩ (spec_l8Walk_n9 (spec_l8Walk_fuel n) x5246 x5247 x5374 x5375) (Sum.elim (fun (t : Int × (List Int)) => (Exit.normal, ⟨mkE 51 0 [(0, dL x5246), (1, dI x5247), (5, .slc 0), (7, dI t.1)], [some (sI t.2)]⟩)) (fun (t : (List Int)) => ((Exit.exit 2), ⟨mkE 51 0 [(5, .slc 0)], [some (sI t)]⟩))) := by
  refine Link.of fun K h => ?_
  simp only [spec_l8Walk_n9, wpO_bind, wpO_cond, wpO_map, wpO_some] at h
  exact Awp.of (by kernel_rfl) h

def spec_l8Walk_n10_l (n : Nat) (x5246 : List Int) (x5247 : Int) (x5349 : Int) (x5348 : List Int) := (link_loop (mk := fun (s : Int × (List Int)) => ⟨mkE 51 0 [(0, dL x5246), (1, dI x5247), (5, .slc 0), (7, dI s.1)], [some (sI s.2)]⟩) (fin := (fun (t : (List Int)) => ((Exit.exit 2), ⟨mkE 51 0 [(5, .slc 0)], [some (sI t)]⟩))) (by
  rintro t f K h
  · exact h) (fun s => link_map (spec_l8Walk_n9_l n x5246 x5247 s.1 s.2) (Sum.elim (fun (t : Int × (List Int)) => Sum.inl (t.1, t.2)) (fun (t : (List Int)) => Sum.inr t)) (by
  rintro (t | t)
  · kernel_rfl
  · kernel_rfl)) (x5349, x5348))

def spec_l8Walk_n11_l (n : Nat) (x5246 : List Int) (x5247 : Int) (x5349 : Int) (x5348 : List Int) := (link_block (fin2 := (fun (t : (List Int)) => (Exit.normal, ⟨mkE 51 0 [(5, .slc 0)], [some (sI t)]⟩))) (id := 2) (spec_l8Walk_n10_l n x5246 x5247 x5349 x5348) (fun (t : (List Int)) => t) (by
  rintro t K h
  · exact Eq.mp (by kernel_rfl) h))

def spec_l8Walk_n12_l (n : Nat) (x5246 : List Int) (x5247 : Int) (x5348 : List Int) := (link_seq (spec_l8Walk_n8_l n x5246 x5247 x5348) (fun (t : Int) => (spec_l8Walk_n11_l n x5246 x5247 t x5348)))

theorem spec_l8Walk_n13_l (n : Nat) (x5375 : List Int) : Link (spec_l8Walk_ctx n) LL (cq [1,1,1,1,1] (bodyOf Tryd.f71)) (aq [1,1,1,1,1] spec_l8Walk_an) ⟨mkE 51 0 [(5, .slc 0)], [some (sI x5375)]⟩ (spec_l8Walk_n13 (spec_l8Walk_fuel n) x5375) (fun (t : (List Int)) => (Exit.ret, ⟨mkE 51 0 [(4, .slc 0)], [some (sI t)]⟩)) := by
  refine Link.of fun K h => ?_
  simp only [spec_l8Walk_n13, wpO_bind, wpO_cond, wpO_map, wpO_some] at h
  exact Awp.of (by kernel_rfl) h

def spec_l8Walk_n14_l (n : Nat) (x5246 : List Int) (x5247 : Int) (x5348 : List Int) := (link_seq (spec_l8Walk_n12_l n x5246 x5247 x5348) (fun (t : (List Int)) => (spec_l8Walk_n13_l n t)))

def spec_l8Walk_n15_l (n : Nat) (x5246 : List Int) (x5247 : Int) (x5323 : List Int) := (link_seq (spec_l8Walk_n7_l n x5246 x5247 x5323) (fun (t : (List Int)) => (spec_l8Walk_n14_l n x5246 x5247 t)))

def spec_l8Walk_n16_l (n : Nat) (x5246 : List Int) (x5247 : Int) := (link_seq (spec_l8Walk_n6_l n x5246 x5247) (fun (t : (List Int)) => (spec_l8Walk_n15_l n x5246 x5247 t)))

def spec_l8Walk_n17_l (n : Nat) (x5246 : List Int) (x5247 : Int) := (link_group (c := (cq [0,1] (bodyOf Tryd.f71))) (a := (aq [0,1] spec_l8Walk_an)) [(cq [0] (bodyOf Tryd.f71))] [(aq [0] spec_l8Walk_an)] rfl (link_seq (spec_l8Walk_n1_l n x5246 x5247) (fun (t : Unit) => (spec_l8Walk_n16_l n x5246 x5247))))

theorem spec_l8Walk_e (n : Nat) (x5246 : List Int) (x5247 : Int) {r : AV} {H' : Heap} (h : (Ans.mk _ (spec_l8Walk_fuel (n + 1) x5246 x5247) (fun (t : (List Int)) => (.slc 0, [some (sI t)])) [] none).run = some (r, H')) : Awp (spec_l8Walk_ctx n) LL (bodyOf Tryd.f71) spec_l8Walk_an ⟨mkE 51 0 [(0, dL x5246), (1, dI x5247)], []⟩ (Ret (tlook tys) Tryd.f71.results.toList r H') :=
  ret_of' (Link.cast (by kernel_rfl) (by kernel_rfl) (spec_l8Walk_n17_l n x5246 x5247)) (by (show _ = _); kernel_rfl) (by
  intro t
  exact ret_mk [.slc 0] (by kernel_rfl) (by kernel_rfl) (by kernel_rfl) (by kernel_rfl)) h

theorem spec_l8Walk_step (n : Nat) (h71 : Sound Tryd.prog 71 (F_spec_l8Walk_fuel n)) : Sound Tryd.prog 71 (F_spec_l8Walk_fuel (n + 1)) := by
  refine fn_sound' (C := spec_l8Walk_ctx n) (c := bodyOf Tryd.f71) (cok_of tys_ok (allc h71 alln) (allc Tryd.call71 alln) (by kernel_rfl)) Tryd.func71 (by kernel_rfl) LL spec_l8Walk_an ?_
  intro avs H r H' h
  unfold F_spec_l8Walk_fuel at h
  split at h
  · refine Awp.cast ?_ ?_ ?_ (spec_l8Walk_e n _ _ h) <;> kernel_rfl
  · simp [Ans.no, Ans.run] at h

theorem spec_l8Walk_null : Sound Tryd.prog 71 (F_spec_l8Walk_fuel 0) := by
  intro avs H r H' h
  unfold F_spec_l8Walk_fuel at h
  split at h
  · simp [spec_l8Walk_fuel, spec_l8Walk_knot, Ans.run] at h
  · simp [Ans.no, Ans.run] at h

theorem spec_l8Walk_knot_all : ∀ n, Sound Tryd.prog 71 (F_spec_l8Walk_fuel n)
  | 0 => spec_l8Walk_null
  | n + 1 => by
    have h71 := spec_l8Walk_knot_all n
    exact spec_l8Walk_step n h71

def F_spec_l8Walk : Fun := fun avs H =>
  match avs, H with
  | [.dat (.list (.int .i64)) x5246, .dat (.int .i64) x5247], [] => ⟨_, spec_l8Walk x5246 x5247, fun (t : (List Int)) => (.slc 0, [some (sI t)]), [], none⟩
  | _, _ => Ans.no

theorem spec_l8Walk_sound : Sound Tryd.prog 71 F_spec_l8Walk := by
  have e : F_spec_l8Walk = F_spec_l8Walk_fuel RR := by
    funext avs H
    unfold F_spec_l8Walk F_spec_l8Walk_fuel
    split <;> first | rfl | (simp only [spec_l8Walk])
  rw [e]
  exact (spec_l8Walk_knot_all RR)


/-! loop.example/headtrees/spec.FlatOrder -/

def spec_FlatOrder_an : Ann := (.seq (.leaf [0]) (.seq (.seq (.leaf [0, 5]) (.cond (.seq (.leaf [2]) (.leaf [2])) (.leaf [0]))) (.seq (.leaf [2]) (.leaf [2]))))

noncomputable def spec_FlatOrder_ctx : Ctx := ⟨tlook tys, olook [(51, F_spec_TreeOk), (68, F_spec_RootOf), (71, F_spec_l8Walk)], ioF, 0, false, []⟩

theorem spec_FlatOrder_n1_l (x5240 : List Int) : Link spec_FlatOrder_ctx LL (bodyOf Tryd.f30) spec_FlatOrder_an ⟨mkE 11 0 [(0, dL x5240)], []⟩ (spec_FlatOrder_n1 x5240) (fun (t : (List Int)) => (Exit.ret, ⟨mkE 11 0 [(2, .slc 0)], [some (sI t)]⟩)) := by
  refine Link.of fun K h => ?_
  simp only [spec_FlatOrder_n1, wpO_bind, wpO_cond, wpO_map, wpO_some] at h
  exact Awp.of (by kernel_rfl) h

theorem spec_FlatOrder_e (x5240 : List Int) {r : AV} {H' : Heap} (h : (Ans.mk _ (spec_FlatOrder x5240) (fun (t : (List Int)) => (.slc 0, [some (sI t)])) [] none).run = some (r, H')) : Awp spec_FlatOrder_ctx LL (bodyOf Tryd.f30) spec_FlatOrder_an ⟨mkE 11 0 [(0, dL x5240)], []⟩ (Ret (tlook tys) Tryd.f30.results.toList r H') :=
  ret_of' (spec_FlatOrder_n1_l x5240) (by unfold spec_FlatOrder; kernel_rfl) (by
  intro t
  exact ret_mk [.slc 0] (by kernel_rfl) (by kernel_rfl) (by kernel_rfl) (by kernel_rfl)) h

def F_spec_FlatOrder : Fun := fun avs H =>
  match avs, H with
  | [.dat (.list (.int .i64)) x5240], [] => ⟨_, spec_FlatOrder x5240, fun (t : (List Int)) => (.slc 0, [some (sI t)]), [], none⟩
  | _, _ => Ans.no

theorem spec_FlatOrder_sound : Sound Tryd.prog 30 F_spec_FlatOrder := by
  refine fn_sound' (C := spec_FlatOrder_ctx) (c := bodyOf Tryd.f30) (cok_of tys_ok (allc spec_TreeOk_sound (allc spec_RootOf_sound (allc spec_l8Walk_sound alln))) (allc Tryd.call51 (allc Tryd.call68 (allc Tryd.call71 alln))) (by kernel_rfl)) Tryd.func30 (by kernel_rfl) LL spec_FlatOrder_an ?_
  intro avs H r H' h
  unfold F_spec_FlatOrder at h
  split at h
  · refine Awp.cast ?_ ?_ ?_ (spec_FlatOrder_e _ h) <;> kernel_rfl
  · simp [Ans.no, Ans.run] at h


/-! loop.example/headtrees/impl.OrderOk -/

def impl_OrderOk_an : Ann := (.seq (.leaf [0, 1]) (.seq (.seq (.leaf [0, 1, 19]) (.cond (.seq (.leaf [4]) (.leaf [4])) (.leaf [0, 1]))) (.seq (.leaf [0, 1, 5]) (.seq (.seq (.leaf [1, 5, 20, 21, 22]) (.block (.loop (.seq (.leaf [1, 5, 20, 21, 22, 23]) (.seq (.cond (.leaf [1, 5, 20, 21, 22]) (.leaf [])) (.seq (.block (.seq (.leaf [1, 5, 7, 20, 21, 22]) (.seq (.seq (.leaf [1, 5, 7, 20, 21, 22, 37]) (.cond (.seq (.leaf [4]) (.leaf [4])) (.leaf [1, 5, 7, 20, 21, 22]))) (.leaf [1, 5, 20, 21, 22])))) (.leaf [1, 5, 20, 21, 22]))))))) (.seq (.leaf [4]) (.leaf [4]))))))

noncomputable def impl_OrderOk_ctx : Ctx := ⟨tlook tys, olook [], ioF, 0, false, []⟩

theorem impl_OrderOk_n1_l (x5438 : List Int) (x5439 : Int) : Link impl_OrderOk_ctx LL (Code.seq (cq [0] (bodyOf Tryd.f33)) (Code.seq (cq [0,1] (bodyOf Tryd.f33)) (cq [0,1,1] (bodyOf Tryd.f33)))) (Ann.seq (aq [0] impl_OrderOk_an) (Ann.seq (aq [0,1] impl_OrderOk_an) (aq [0,1,1] impl_OrderOk_an))) ⟨mkE 41 0 [(0, dL x5438), (1, dI x5439)], []⟩ (impl_OrderOk_n1 x5438 x5439) (Sum.elim (fun (t : Unit) => (Exit.normal, ⟨mkE 41 0 [(0, dL x5438), (1, dI x5439), (5, .ptr 0 0)], [some (.seq .bool (List.replicate 9 false))]⟩)) (fun (t : Bool) => (Exit.ret, ⟨mkE 41 0 [(4, dB t)], []⟩))) := by
  refine Link.of fun K h => ?_
  simp only [impl_OrderOk_n1, wpO_bind, wpO_cond, wpO_map, wpO_some] at h
  exact Awp.of (by kernel_rfl) h

theorem impl_OrderOk_n2_l (x5438 : List Int) (x5439 : Int) : Link impl_OrderOk_ctx LL (cq [0,0,1,1,1] (bodyOf Tryd.f33)) (aq [0,0,1,1,1] impl_OrderOk_an) ⟨mkE 41 0 [(0, dL x5438), (1, dI x5439), (5, .ptr 0 0)], [some (.seq .bool (List.replicate 9 false))]⟩ (impl_OrderOk_n2 x5438) (fun (t : Int) => (Exit.normal, ⟨mkE 41 0 [(1, dI x5439), (5, .ptr 0 0), (20, dL x5438), (21, dI t), (22, dI 0)], [some (.seq .bool (List.replicate 9 false))]⟩)) := by
  refine Link.of fun K h => ?_
  simp only [impl_OrderOk_n2, wpO_bind, wpO_cond, wpO_map, wpO_some] at h
  exact Awp.of (by kernel_rfl) h

theorem impl_OrderOk_n3_l (x5439 : Int) (x5438 : List Int) (x5449 : Int) (x5473 : Int) (x5474 : List Bool) : Link impl_OrderOk_ctx LL (cq [0,0,1,0,1,1,1] (bodyOf Tryd.f33)) (aq [0,0,1,0,1,1,1] impl_OrderOk_an) ⟨mkE 41 0 [(1, dI x5439), (5, .ptr 0 0), (20, dL x5438), (21, dI x5449), (22, dI x5473)], [some (.seq .bool x5474)]⟩ (impl_OrderOk_n3 x5439 x5438 x5449 x5473 x5474) (Sum.elim (fun (t : Int × (List Bool)) => (Exit.normal, ⟨mkE 41 0 [(1, dI x5439), (5, .ptr 0 0), (20, dL x5438), (21, dI x5449), (22, dI t.1)], [some (.seq .bool t.2)]⟩)) (Sum.elim (fun (t : Bool) => (Exit.ret, ⟨mkE 41 0 [(4, dB t)], []⟩)) (fun (t : Unit) => ((Exit.exit 0), ⟨mkE 41 0 [], []⟩)))) := by
  refine Link.of fun K h => ?_
  simp only [impl_OrderOk_n3, wpO_bind, wpO_cond, wpO_map, wpO_some] at h
  exact Awp.of (by kernel_rfl) h

def impl_OrderOk_n4_l (x5439 : Int) (x5438 : List Int) (x5449 : Int) := (link_loop (mk := fun (s : Int × (List Bool)) => ⟨mkE 41 0 [(1, dI x5439), (5, .ptr 0 0), (20, dL x5438), (21, dI x5449), (22, dI s.1)], [some (.seq .bool s.2)]⟩) (fin := (Sum.elim (fun (t : Bool) => (Exit.ret, ⟨mkE 41 0 [(4, dB t)], []⟩)) (fun (t : Unit) => ((Exit.exit 0), ⟨mkE 41 0 [], []⟩)))) (by
  rintro (t | t) f K h
  · exact h
  · exact h) (fun s => link_map (impl_OrderOk_n3_l x5439 x5438 x5449 s.1 s.2) (Sum.elim (fun (t : Int × (List Bool)) => Sum.inl (t.1, t.2)) (Sum.elim (fun (t : Bool) => Sum.inr (Sum.inl t)) (fun (t : Unit) => Sum.inr (Sum.inr t)))) (by
  rintro (t | t | t)
  · kernel_rfl
  · kernel_rfl
  · kernel_rfl)) (0, (List.replicate 9 false)))

def impl_OrderOk_n5_l (x5439 : Int) (x5438 : List Int) (x5449 : Int) := (link_block (fin2 := (Sum.elim (fun (t : Unit) => (Exit.normal, ⟨mkE 41 0 [], []⟩)) (fun (t : Bool) => (Exit.ret, ⟨mkE 41 0 [(4, dB t)], []⟩)))) (id := 0) (impl_OrderOk_n4_l x5439 x5438 x5449) (Sum.elim (fun (t : Bool) => (Sum.inr t)) (fun (t : Unit) => (Sum.inl ()))) (by
  rintro (t | t) K h
  · exact Eq.mp (by kernel_rfl) h
  · exact Eq.mp (by kernel_rfl) h))

def impl_OrderOk_n6_l (x5438 : List Int) (x5439 : Int) := (link_seq (impl_OrderOk_n2_l x5438 x5439) (fun (t : Int) => (impl_OrderOk_n5_l x5439 x5438 t)))

theorem impl_OrderOk_n7_l : Link impl_OrderOk_ctx LL (cq [1,1,1,1] (bodyOf Tryd.f33)) (aq [1,1,1,1] impl_OrderOk_an) ⟨mkE 41 0 [], []⟩ (impl_OrderOk_n7) (fun (t : Bool) => (Exit.ret, ⟨mkE 41 0 [(4, dB t)], []⟩)) := by
  refine Link.of fun K h => ?_
  simp only [impl_OrderOk_n7, wpO_bind, wpO_cond, wpO_map, wpO_some] at h
  exact Awp.of (by kernel_rfl) h

def impl_OrderOk_n8_l (x5438 : List Int) (x5439 : Int) := (link_seq2 (impl_OrderOk_n6_l x5438 x5439) (fun (t : Unit) => (impl_OrderOk_n7_l)) (fun (t : Bool) => t) (by
  rintro t
  · kernel_rfl) (by
  rintro t f K h
  · exact h))

def impl_OrderOk_n9_l (x5438 : List Int) (x5439 : Int) := (link_group (c := (cq [0,1,1] (bodyOf Tryd.f33))) (a := (aq [0,1,1] impl_OrderOk_an)) [(cq [0] (bodyOf Tryd.f33)), (cq [0,1] (bodyOf Tryd.f33))] [(aq [0] impl_OrderOk_an), (aq [0,1] impl_OrderOk_an)] rfl (link_seq2 (impl_OrderOk_n1_l x5438 x5439) (fun (t : Unit) => (impl_OrderOk_n8_l x5438 x5439)) (fun (t : Bool) => t) (by
  rintro t
  · kernel_rfl) (by
  rintro t f K h
  · exact h)))

theorem impl_OrderOk_e (x5438 : List Int) (x5439 : Int) {r : AV} {H' : Heap} (h : (Ans.mk _ (impl_OrderOk x5438 x5439) (fun (t : Bool) => (dB t, [])) [] none).run = some (r, H')) : Awp impl_OrderOk_ctx LL (bodyOf Tryd.f33) impl_OrderOk_an ⟨mkE 41 0 [(0, dL x5438), (1, dI x5439)], []⟩ (Ret (tlook tys) Tryd.f33.results.toList r H') :=
  ret_of' (Link.cast (by kernel_rfl) (by kernel_rfl) (impl_OrderOk_n9_l x5438 x5439)) (by unfold impl_OrderOk; kernel_rfl) (by
  intro t
  exact ret_mk [dB t] (by kernel_rfl) (by kernel_rfl) (by kernel_rfl) (by kernel_rfl)) h

def F_impl_OrderOk : Fun := fun avs H =>
  match avs, H with
  | [.dat (.list (.int .i64)) x5438, .dat (.int .i64) x5439], [] => ⟨_, impl_OrderOk x5438 x5439, fun (t : Bool) => (dB t, []), [], none⟩
  | _, _ => Ans.no

theorem impl_OrderOk_sound : Sound Tryd.prog 33 F_impl_OrderOk := by
  refine fn_sound' (C := impl_OrderOk_ctx) (c := bodyOf Tryd.f33) (cok_of tys_ok (alln) (alln) (by kernel_rfl)) Tryd.func33 (by kernel_rfl) LL impl_OrderOk_an ?_
  intro avs H r H' h
  unfold F_impl_OrderOk at h
  split at h
  · refine Awp.cast ?_ ?_ ?_ (impl_OrderOk_e _ _ h) <;> kernel_rfl
  · simp [Ans.no, Ans.run] at h


/-! loop.example/headtrees/impl.placesIn -/

def impl_placesIn_an : Ann := (.seq (.leaf [0]) (.seq (.leaf [0, 3]) (.seq (.seq (.leaf [3, 10, 11, 12]) (.block (.loop (.seq (.leaf [3, 10, 11, 12, 13]) (.seq (.cond (.leaf [3, 10, 11, 12]) (.leaf [3])) (.seq (.block (.seq (.leaf [3, 4, 5, 10, 11, 12]) (.leaf [3, 10, 11, 12]))) (.leaf [3, 10, 11, 12]))))))) (.seq (.leaf [2]) (.leaf [2])))))

noncomputable def impl_placesIn_ctx : Ctx := ⟨tlook tys, olook [], ioF, 0, false, []⟩

theorem impl_placesIn_n1_l (x5506 : List Int) : Link impl_placesIn_ctx LL (Code.seq (cq [0] (bodyOf Tryd.f74)) (cq [0,1] (bodyOf Tryd.f74))) (Ann.seq (aq [0] impl_placesIn_an) (aq [0,1] impl_placesIn_an)) ⟨mkE 24 0 [(0, dL x5506)], []⟩ (impl_placesIn_n1 x5506) (fun (t : (List Int)) => (Exit.normal, ⟨mkE 24 0 [(0, dL x5506), (3, .slc 0)], [some (sI t)]⟩)) := by
  refine Link.of fun K h => ?_
  simp only [impl_placesIn_n1, wpO_bind, wpO_cond, wpO_map, wpO_some] at h
  exact Awp.of (by kernel_rfl) h

theorem impl_placesIn_n2_l (x5506 : List Int) (x5510 : List Int) : Link impl_placesIn_ctx LL (cq [0,0,1,1] (bodyOf Tryd.f74)) (aq [0,0,1,1] impl_placesIn_an) ⟨mkE 24 0 [(0, dL x5506), (3, .slc 0)], [some (sI x5510)]⟩ (impl_placesIn_n2 x5506) (fun (t : Int) => (Exit.normal, ⟨mkE 24 0 [(3, .slc 0), (10, dL x5506), (11, dI t), (12, dI 0)], [some (sI x5510)]⟩)) := by
  refine Link.of fun K h => ?_
  simp only [impl_placesIn_n2, wpO_bind, wpO_cond, wpO_map, wpO_some] at h
  exact Awp.of (by kernel_rfl) h

theorem impl_placesIn_n3_l (x5506 : List Int) (x5511 : Int) (x5525 : Int) (x5526 : List Int) : Link impl_placesIn_ctx LL (cq [0,0,1,0,1,1] (bodyOf Tryd.f74)) (aq [0,0,1,0,1,1] impl_placesIn_an) ⟨mkE 24 0 [(3, .slc 0), (10, dL x5506), (11, dI x5511), (12, dI x5525)], [some (sI x5526)]⟩ (impl_placesIn_n3 x5506 x5511 x5525 x5526) (Sum.elim (fun (t : Int × (List Int)) => (Exit.normal, ⟨mkE 24 0 [(3, .slc 0), (10, dL x5506), (11, dI x5511), (12, dI t.1)], [some (sI t.2)]⟩)) (fun (t : (List Int)) => ((Exit.exit 0), ⟨mkE 24 0 [(3, .slc 0)], [some (sI t)]⟩))) := by
  refine Link.of fun K h => ?_
  simp only [impl_placesIn_n3, wpO_bind, wpO_cond, wpO_map, wpO_some] at h
  exact Awp.of (by kernel_rfl) h

def impl_placesIn_n4_l (x5506 : List Int) (x5511 : Int) (x5510 : List Int) := (link_loop (mk := fun (s : Int × (List Int)) => ⟨mkE 24 0 [(3, .slc 0), (10, dL x5506), (11, dI x5511), (12, dI s.1)], [some (sI s.2)]⟩) (fin := (fun (t : (List Int)) => ((Exit.exit 0), ⟨mkE 24 0 [(3, .slc 0)], [some (sI t)]⟩))) (by
  rintro t f K h
  · exact h) (fun s => link_map (impl_placesIn_n3_l x5506 x5511 s.1 s.2) (Sum.elim (fun (t : Int × (List Int)) => Sum.inl (t.1, t.2)) (fun (t : (List Int)) => Sum.inr t)) (by
  rintro (t | t)
  · kernel_rfl
  · kernel_rfl)) (0, x5510))

def impl_placesIn_n5_l (x5506 : List Int) (x5511 : Int) (x5510 : List Int) := (link_block (fin2 := (fun (t : (List Int)) => (Exit.normal, ⟨mkE 24 0 [(3, .slc 0)], [some (sI t)]⟩))) (id := 0) (impl_placesIn_n4_l x5506 x5511 x5510) (fun (t : (List Int)) => t) (by
  rintro t K h
  · exact Eq.mp (by kernel_rfl) h))

def impl_placesIn_n6_l (x5506 : List Int) (x5510 : List Int) := (link_seq (impl_placesIn_n2_l x5506 x5510) (fun (t : Int) => (impl_placesIn_n5_l x5506 t x5510)))

theorem impl_placesIn_n7_l (x5526 : List Int) : Link impl_placesIn_ctx LL (cq [1,1,1] (bodyOf Tryd.f74)) (aq [1,1,1] impl_placesIn_an) ⟨mkE 24 0 [(3, .slc 0)], [some (sI x5526)]⟩ (impl_placesIn_n7 x5526) (fun (t : (List Int)) => (Exit.ret, ⟨mkE 24 0 [(2, .slc 0)], [some (sI t)]⟩)) := by
  refine Link.of fun K h => ?_
  simp only [impl_placesIn_n7, wpO_bind, wpO_cond, wpO_map, wpO_some] at h
  exact Awp.of (by kernel_rfl) h

def impl_placesIn_n8_l (x5506 : List Int) (x5510 : List Int) := (link_seq (impl_placesIn_n6_l x5506 x5510) (fun (t : (List Int)) => (impl_placesIn_n7_l t)))

def impl_placesIn_n9_l (x5506 : List Int) := (link_group (c := (cq [0,1] (bodyOf Tryd.f74))) (a := (aq [0,1] impl_placesIn_an)) [(cq [0] (bodyOf Tryd.f74))] [(aq [0] impl_placesIn_an)] rfl (link_seq (impl_placesIn_n1_l x5506) (fun (t : (List Int)) => (impl_placesIn_n8_l x5506 t))))

theorem impl_placesIn_e (x5506 : List Int) {r : AV} {H' : Heap} (h : (Ans.mk _ (impl_placesIn x5506) (fun (t : (List Int)) => (.slc 0, [some (sI t)])) [] none).run = some (r, H')) : Awp impl_placesIn_ctx LL (bodyOf Tryd.f74) impl_placesIn_an ⟨mkE 24 0 [(0, dL x5506)], []⟩ (Ret (tlook tys) Tryd.f74.results.toList r H') :=
  ret_of' (Link.cast (by kernel_rfl) (by kernel_rfl) (impl_placesIn_n9_l x5506)) (by unfold impl_placesIn; kernel_rfl) (by
  intro t
  exact ret_mk [.slc 0] (by kernel_rfl) (by kernel_rfl) (by kernel_rfl) (by kernel_rfl)) h

def F_impl_placesIn : Fun := fun avs H =>
  match avs, H with
  | [.dat (.list (.int .i64)) x5506], [] => ⟨_, impl_placesIn x5506, fun (t : (List Int)) => (.slc 0, [some (sI t)]), [], none⟩
  | _, _ => Ans.no

theorem impl_placesIn_sound : Sound Tryd.prog 74 F_impl_placesIn := by
  refine fn_sound' (C := impl_placesIn_ctx) (c := bodyOf Tryd.f74) (cok_of tys_ok (alln) (alln) (by kernel_rfl)) Tryd.func74 (by kernel_rfl) LL impl_placesIn_an ?_
  intro avs H r H' h
  unfold F_impl_placesIn at h
  split at h
  · refine Awp.cast ?_ ?_ ?_ (impl_placesIn_e _ h) <;> kernel_rfl
  · simp [Ans.no, Ans.run] at h


/-! loop.example/headtrees/impl.PutInOrder$1 -/

def impl_PutInOrder_1_an : Ann := (.seq (.leaf [0, 1]) (.seq (.leaf [3]) (.leaf [3])))

noncomputable def impl_PutInOrder_1_ctx : Ctx := ⟨tlook tys, olook [], ioF, 2, false, []⟩

theorem impl_PutInOrder_1_n1_l (x5560 : Int) (x5561 : List Int) : Link impl_PutInOrder_1_ctx LL (bodyOf Tryd.f76) impl_PutInOrder_1_an ⟨mkE 8 0 [(0, dI x5560), (1, .ptr 0 0)], [some (.box [.slc 1]), some (sI x5561)]⟩ (impl_PutInOrder_1_n1 x5560 x5561) (fun (t : Int) => (Exit.ret, ⟨mkE 8 0 [(3, dI t)], [some (.box [.slc 1]), some (sI x5561)]⟩)) := by
  refine Link.of fun K h => ?_
  simp only [impl_PutInOrder_1_n1, wpO_bind, wpO_cond, wpO_map, wpO_some] at h
  exact Awp.of (by kernel_rfl) h

theorem impl_PutInOrder_1_e (x5560 : Int) (x5561 : List Int) {r : AV} {H' : Heap} (h : (Ans.mk _ (impl_PutInOrder_1 x5560 x5561) (fun (t : Int) => (dI t, [some (.box [.slc 1]), some (sI x5561)])) [] none).run = some (r, H')) : Awp impl_PutInOrder_1_ctx LL (bodyOf Tryd.f76) impl_PutInOrder_1_an ⟨mkE 8 0 [(0, dI x5560), (1, .ptr 0 0)], [some (.box [.slc 1]), some (sI x5561)]⟩ (Ret (tlook tys) Tryd.f76.results.toList r H') :=
  ret_of' (impl_PutInOrder_1_n1_l x5560 x5561) (by unfold impl_PutInOrder_1; kernel_rfl) (by
  intro t
  exact ret_mk [dI t] (by kernel_rfl) (by kernel_rfl) (by kernel_rfl) (by kernel_rfl)) h

def F_impl_PutInOrder_1 : Fun := fun avs H =>
  match avs, H with
  | [.dat (.int .i64) x5560, .ptr 0 0], [some (.box [.slc 1]), some (.seq (.int .i64) x5561)] => ⟨_, impl_PutInOrder_1 x5560 x5561, fun (t : Int) => (dI t, [some (.box [.slc 1]), some (sI x5561)]), [], none⟩
  | _, _ => Ans.no

theorem impl_PutInOrder_1_sound : Sound Tryd.prog 76 F_impl_PutInOrder_1 := by
  refine fn_sound' (C := impl_PutInOrder_1_ctx) (c := bodyOf Tryd.f76) (cok_of tys_ok (alln) (alln) (by kernel_rfl)) Tryd.func76 (by kernel_rfl) LL impl_PutInOrder_1_an ?_
  intro avs H r H' h
  unfold F_impl_PutInOrder_1 at h
  split at h
  · refine Awp.cast ?_ ?_ ?_ (impl_PutInOrder_1_e _ _ h) <;> kernel_rfl
  · simp [Ans.no, Ans.run] at h


/-! loop.example/headtrees/impl.renamed[int] -/

def impl_renamed_int_an : Ann := (.seq (.leaf [0, 1, 2]) (.seq (.leaf [0, 1, 2, 7]) (.seq (.seq (.leaf [0, 2, 7, 13, 14, 15]) (.block (.loop (.seq (.leaf [0, 2, 7, 13, 14, 15, 16]) (.seq (.cond (.leaf [0, 2, 7, 13, 14, 15]) (.leaf [7])) (.seq (.block (.seq (.leaf [0, 2, 7, 8, 9, 13, 14, 15]) (.leaf [0, 2, 7, 13, 14, 15]))) (.leaf [0, 2, 7, 13, 14, 15]))))))) (.seq (.leaf [6]) (.leaf [6])))))

noncomputable def impl_renamed_int_ctx : Ctx := ⟨tlook tys, olook [(76, F_impl_PutInOrder_1)], ioF, 2, false, []⟩

theorem impl_renamed_int_n1_l (x5547 : List Int) (x5548 : List Int) (x5549 : List Int) : Link impl_renamed_int_ctx LL (Code.seq (cq [0] (bodyOf Tryd.f75)) (cq [0,1] (bodyOf Tryd.f75))) (Ann.seq (aq [0] impl_renamed_int_an) (aq [0,1] impl_renamed_int_an)) ⟨mkE 32 0 [(0, dL x5547), (1, dL x5548), (2, .fn 76 [] [.ptr 0 0])], [some (.box [.slc 1]), some (sI x5549)]⟩ (impl_renamed_int_n1 x5548) (fun (t : (List Int)) => (Exit.normal, ⟨mkE 32 0 [(0, dL x5547), (1, dL x5548), (2, .fn 76 [] [.ptr 0 0]), (7, .slc 2)], [some (.box [.slc 1]), some (sI x5549), some (sI t)]⟩)) := by
  refine Link.of fun K h => ?_
  simp only [impl_renamed_int_n1, wpO_bind, wpO_cond, wpO_map, wpO_some] at h
  exact Awp.of (by kernel_rfl) h

theorem impl_renamed_int_n2_l (x5547 : List Int) (x5548 : List Int) (x5549 : List Int) (x5552 : List Int) : Link impl_renamed_int_ctx LL (cq [0,0,1,1] (bodyOf Tryd.f75)) (aq [0,0,1,1] impl_renamed_int_an) ⟨mkE 32 0 [(0, dL x5547), (1, dL x5548), (2, .fn 76 [] [.ptr 0 0]), (7, .slc 2)], [some (.box [.slc 1]), some (sI x5549), some (sI x5552)]⟩ (impl_renamed_int_n2 x5548) (fun (t : Int) => (Exit.normal, ⟨mkE 32 0 [(0, dL x5547), (2, .fn 76 [] [.ptr 0 0]), (7, .slc 2), (13, dL x5548), (14, dI t), (15, dI 0)], [some (.box [.slc 1]), some (sI x5549), some (sI x5552)]⟩)) := by
  refine Link.of fun K h => ?_
  simp only [impl_renamed_int_n2, wpO_bind, wpO_cond, wpO_map, wpO_some] at h
  exact Awp.of (by kernel_rfl) h

theorem impl_renamed_int_n3_l (x5547 : List Int) (x5548 : List Int) (x5553 : Int) (x5577 : Int) (x5549 : List Int) (x5578 : List Int) : Link impl_renamed_int_ctx LL (cq [0,0,1,0,1,1] (bodyOf Tryd.f75)) (aq [0,0,1,0,1,1] impl_renamed_int_an) ⟨mkE 32 0 [(0, dL x5547), (2, .fn 76 [] [.ptr 0 0]), (7, .slc 2), (13, dL x5548), (14, dI x5553), (15, dI x5577)], [some (.box [.slc 1]), some (sI x5549), some (sI x5578)]⟩ (impl_renamed_int_n3 x5547 x5548 x5553 x5577 x5549 x5578) (Sum.elim (fun (t : Int × (List Int)) => (Exit.normal, ⟨mkE 32 0 [(0, dL x5547), (2, .fn 76 [] [.ptr 0 0]), (7, .slc 2), (13, dL x5548), (14, dI x5553), (15, dI t.1)], [some (.box [.slc 1]), some (sI x5549), some (sI t.2)]⟩)) (fun (t : (List Int)) => ((Exit.exit 0), ⟨mkE 32 0 [(7, .slc 2)], [some (.box [.slc 1]), some (sI x5549), some (sI t)]⟩))) := by
  refine Link.of fun K h => ?_
  simp only [impl_renamed_int_n3, wpO_bind, wpO_cond, wpO_map, wpO_some] at h
  exact Awp.of (by kernel_rfl) h

def impl_renamed_int_n4_l (x5547 : List Int) (x5548 : List Int) (x5553 : Int) (x5549 : List Int) (x5552 : List Int) := (link_loop (mk := fun (s : Int × (List Int)) => ⟨mkE 32 0 [(0, dL x5547), (2, .fn 76 [] [.ptr 0 0]), (7, .slc 2), (13, dL x5548), (14, dI x5553), (15, dI s.1)], [some (.box [.slc 1]), some (sI x5549), some (sI s.2)]⟩) (fin := (fun (t : (List Int)) => ((Exit.exit 0), ⟨mkE 32 0 [(7, .slc 2)], [some (.box [.slc 1]), some (sI x5549), some (sI t)]⟩))) (by
  rintro t f K h
  · exact h) (fun s => link_map (impl_renamed_int_n3_l x5547 x5548 x5553 s.1 x5549 s.2) (Sum.elim (fun (t : Int × (List Int)) => Sum.inl (t.1, t.2)) (fun (t : (List Int)) => Sum.inr t)) (by
  rintro (t | t)
  · kernel_rfl
  · kernel_rfl)) (0, x5552))

def impl_renamed_int_n5_l (x5547 : List Int) (x5548 : List Int) (x5553 : Int) (x5549 : List Int) (x5552 : List Int) := (link_block (fin2 := (fun (t : (List Int)) => (Exit.normal, ⟨mkE 32 0 [(7, .slc 2)], [some (.box [.slc 1]), some (sI x5549), some (sI t)]⟩))) (id := 0) (impl_renamed_int_n4_l x5547 x5548 x5553 x5549 x5552) (fun (t : (List Int)) => t) (by
  rintro t K h
  · exact Eq.mp (by kernel_rfl) h))

def impl_renamed_int_n6_l (x5547 : List Int) (x5548 : List Int) (x5549 : List Int) (x5552 : List Int) := (link_seq (impl_renamed_int_n2_l x5547 x5548 x5549 x5552) (fun (t : Int) => (impl_renamed_int_n5_l x5547 x5548 t x5549 x5552)))

theorem impl_renamed_int_n7_l (x5549 : List Int) (x5578 : List Int) : Link impl_renamed_int_ctx LL (cq [1,1,1] (bodyOf Tryd.f75)) (aq [1,1,1] impl_renamed_int_an) ⟨mkE 32 0 [(7, .slc 2)], [some (.box [.slc 1]), some (sI x5549), some (sI x5578)]⟩ (impl_renamed_int_n7 x5578) (fun (t : (List Int)) => (Exit.ret, ⟨mkE 32 0 [(6, .slc 2)], [some (.box [.slc 1]), some (sI x5549), some (sI t)]⟩)) := by
  refine Link.of fun K h => ?_
  simp only [impl_renamed_int_n7, wpO_bind, wpO_cond, wpO_map, wpO_some] at h
  exact Awp.of (by kernel_rfl) h

def impl_renamed_int_n8_l (x5547 : List Int) (x5548 : List Int) (x5549 : List Int) (x5552 : List Int) := (link_seq (impl_renamed_int_n6_l x5547 x5548 x5549 x5552) (fun (t : (List Int)) => (impl_renamed_int_n7_l x5549 t)))

def impl_renamed_int_n9_l (x5547 : List Int) (x5548 : List Int) (x5549 : List Int) := (link_group (c := (cq [0,1] (bodyOf Tryd.f75))) (a := (aq [0,1] impl_renamed_int_an)) [(cq [0] (bodyOf Tryd.f75))] [(aq [0] impl_renamed_int_an)] rfl (link_seq (impl_renamed_int_n1_l x5547 x5548 x5549) (fun (t : (List Int)) => (impl_renamed_int_n8_l x5547 x5548 x5549 t))))

theorem impl_renamed_int_e (x5547 : List Int) (x5548 : List Int) (x5549 : List Int) {r : AV} {H' : Heap} (h : (Ans.mk _ (impl_renamed_int x5547 x5548 x5549) (fun (t : (List Int)) => (.slc 2, [some (.box [.slc 1]), some (sI x5549), some (sI t)])) [] none).run = some (r, H')) : Awp impl_renamed_int_ctx LL (bodyOf Tryd.f75) impl_renamed_int_an ⟨mkE 32 0 [(0, dL x5547), (1, dL x5548), (2, .fn 76 [] [.ptr 0 0])], [some (.box [.slc 1]), some (sI x5549)]⟩ (Ret (tlook tys) Tryd.f75.results.toList r H') :=
  ret_of' (Link.cast (by kernel_rfl) (by kernel_rfl) (impl_renamed_int_n9_l x5547 x5548 x5549)) (by unfold impl_renamed_int; kernel_rfl) (by
  intro t
  exact ret_mk [.slc 2] (by kernel_rfl) (by kernel_rfl) (by kernel_rfl) (by kernel_rfl)) h

def F_impl_renamed_int : Fun := fun avs H =>
  match avs, H with
  | [.dat (.list (.int .i64)) x5547, .dat (.list (.int .i64)) x5548, .fn 76 [] [.ptr 0 0]], [some (.box [.slc 1]), some (.seq (.int .i64) x5549)] => ⟨_, impl_renamed_int x5547 x5548 x5549, fun (t : (List Int)) => (.slc 2, [some (.box [.slc 1]), some (sI x5549), some (sI t)]), [], none⟩
  | _, _ => Ans.no

theorem impl_renamed_int_sound : Sound Tryd.prog 75 F_impl_renamed_int := by
  refine fn_sound' (C := impl_renamed_int_ctx) (c := bodyOf Tryd.f75) (cok_of tys_ok (allc impl_PutInOrder_1_sound alln) (allc Tryd.call76 alln) (by kernel_rfl)) Tryd.func75 (by kernel_rfl) LL impl_renamed_int_an ?_
  intro avs H r H' h
  unfold F_impl_renamed_int at h
  split at h
  · refine Awp.cast ?_ ?_ ?_ (impl_renamed_int_e _ _ _ h) <;> kernel_rfl
  · simp [Ans.no, Ans.run] at h


/-! loop.example/headtrees/impl.PutInOrder -/

def impl_PutInOrder_an : Ann := (.seq (.leaf [0, 1]) (.seq (.seq (.leaf [0, 1, 16]) (.cond (.seq (.leaf [4, 5]) (.leaf [4, 5])) (.leaf [0, 1]))) (.seq (.leaf [0, 1, 6]) (.seq (.leaf [4, 5]) (.leaf [4, 5])))))

noncomputable def impl_PutInOrder_ctx : Ctx := ⟨tlook tys, olook [(31, F_impl_TreeOk), (33, F_impl_OrderOk), (74, F_impl_placesIn), (75, F_impl_renamed_int)], ioF, 0, false, []⟩

theorem impl_PutInOrder_n1_l (x5433 : List Int) (x5434 : List Int) : Link impl_PutInOrder_ctx LL (bodyOf Tryd.f32) impl_PutInOrder_an ⟨mkE 23 0 [(0, dL x5433), (1, dL x5434)], []⟩ (impl_PutInOrder_n1 x5433 x5434) (fun (t : Bool × (List Int)) => (Exit.ret, ⟨mkE 23 0 [(4, .slc 0), (5, dB t.1)], [some (sI t.2)]⟩)) := by
  refine Link.of fun K h => ?_
  simp only [impl_PutInOrder_n1, wpO_bind, wpO_cond, wpO_map, wpO_some] at h
  exact Awp.of (by kernel_rfl) h

theorem impl_PutInOrder_e (x5433 : List Int) (x5434 : List Int) {r : AV} {H' : Heap} (h : (Ans.mk _ (impl_PutInOrder x5433 x5434) (fun (t : Bool × (List Int)) => (.tup [.slc 0, dB t.1], [some (sI t.2)])) [] none).run = some (r, H')) : Awp impl_PutInOrder_ctx LL (bodyOf Tryd.f32) impl_PutInOrder_an ⟨mkE 23 0 [(0, dL x5433), (1, dL x5434)], []⟩ (Ret (tlook tys) Tryd.f32.results.toList r H') :=
  ret_of' (impl_PutInOrder_n1_l x5433 x5434) (by unfold impl_PutInOrder; kernel_rfl) (by
  intro t
  exact ret_mk [.slc 0, dB t.1] (by kernel_rfl) (by kernel_rfl) (by kernel_rfl) (by kernel_rfl)) h

def F_impl_PutInOrder : Fun := fun avs H =>
  match avs, H with
  | [.dat (.list (.int .i64)) x5433, .dat (.list (.int .i64)) x5434], [] => ⟨_, impl_PutInOrder x5433 x5434, fun (t : Bool × (List Int)) => (.tup [.slc 0, dB t.1], [some (sI t.2)]), [], none⟩
  | _, _ => Ans.no

theorem impl_PutInOrder_sound : Sound Tryd.prog 32 F_impl_PutInOrder := by
  refine fn_sound' (C := impl_PutInOrder_ctx) (c := bodyOf Tryd.f32) (cok_of tys_ok (allc impl_TreeOk_sound (allc impl_OrderOk_sound (allc impl_placesIn_sound (allc impl_renamed_int_sound alln)))) (allc Tryd.call31 (allc Tryd.call33 (allc Tryd.call74 (allc Tryd.call75 alln)))) (by kernel_rfl)) Tryd.func32 (by kernel_rfl) LL impl_PutInOrder_an ?_
  intro avs H r H' h
  unfold F_impl_PutInOrder at h
  split at h
  · refine Awp.cast ?_ ?_ ?_ (impl_PutInOrder_e _ _ h) <;> kernel_rfl
  · simp [Ans.no, Ans.run] at h


/-! loop.example/headtrees/impl.MadeFlat -/

def impl_MadeFlat_an : Ann := (.seq (.leaf [0]) (.seq (.leaf [3]) (.seq (.leaf [2]) (.leaf [2]))))

noncomputable def impl_MadeFlat_ctx : Ctx := ⟨tlook tys, olook [(29, F_impl_FlatOrder), (32, F_impl_PutInOrder)], ioF, 0, false, []⟩

theorem impl_MadeFlat_n1_l (x6479 : List Int) : Link impl_MadeFlat_ctx LL (bodyOf Tryd.f37) impl_MadeFlat_an ⟨mkE 13 0 [(0, dL x6479)], []⟩ (impl_MadeFlat_n1 x6479) (fun (t : (List Int)) => (Exit.ret, ⟨mkE 13 0 [(2, .slc 0)], [some (sI t)]⟩)) := by
  refine Link.of fun K h => ?_
  simp only [impl_MadeFlat_n1, wpO_bind, wpO_cond, wpO_map, wpO_some] at h
  exact Awp.of (by kernel_rfl) h

theorem impl_MadeFlat_e (x6479 : List Int) {r : AV} {H' : Heap} (h : (Ans.mk _ (impl_MadeFlat x6479) (fun (t : (List Int)) => (.slc 0, [some (sI t)])) [] none).run = some (r, H')) : Awp impl_MadeFlat_ctx LL (bodyOf Tryd.f37) impl_MadeFlat_an ⟨mkE 13 0 [(0, dL x6479)], []⟩ (Ret (tlook tys) Tryd.f37.results.toList r H') :=
  ret_of' (impl_MadeFlat_n1_l x6479) (by unfold impl_MadeFlat; kernel_rfl) (by
  intro t
  exact ret_mk [.slc 0] (by kernel_rfl) (by kernel_rfl) (by kernel_rfl) (by kernel_rfl)) h

def F_impl_MadeFlat : Fun := fun avs H =>
  match avs, H with
  | [.dat (.list (.int .i64)) x6479], [] => ⟨_, impl_MadeFlat x6479, fun (t : (List Int)) => (.slc 0, [some (sI t)]), [], none⟩
  | _, _ => Ans.no

theorem impl_MadeFlat_sound : Sound Tryd.prog 37 F_impl_MadeFlat := by
  refine fn_sound' (C := impl_MadeFlat_ctx) (c := bodyOf Tryd.f37) (cok_of tys_ok (allc impl_FlatOrder_sound (allc impl_PutInOrder_sound alln)) (allc Tryd.call29 (allc Tryd.call32 alln)) (by kernel_rfl)) Tryd.func37 (by kernel_rfl) LL impl_MadeFlat_an ?_
  intro avs H r H' h
  unfold F_impl_MadeFlat at h
  split at h
  · refine Awp.cast ?_ ?_ ?_ (impl_MadeFlat_e _ h) <;> kernel_rfl
  · simp [Ans.no, Ans.run] at h


/-! loop.example/headtrees/spec.MadeFlat -/

def spec_MadeFlat_an : Ann := (.seq (.leaf [0]) (.seq (.leaf [3]) (.seq (.leaf [2]) (.leaf [2]))))

noncomputable def spec_MadeFlat_ctx : Ctx := ⟨tlook tys, olook [(30, F_spec_FlatOrder), (79, F_spec_PutInOrder)], ioF, 0, false, []⟩

theorem spec_MadeFlat_n1_l (x6543 : List Int) : Link spec_MadeFlat_ctx LL (bodyOf Tryd.f39) spec_MadeFlat_an ⟨mkE 13 0 [(0, dL x6543)], []⟩ (spec_MadeFlat_n1 x6543) (fun (t : (List Int)) => (Exit.ret, ⟨mkE 13 0 [(2, .slc 0)], [some (sI t)]⟩)) := by
  refine Link.of fun K h => ?_
  simp only [spec_MadeFlat_n1, wpO_bind, wpO_cond, wpO_map, wpO_some] at h
  exact Awp.of (by kernel_rfl) h

theorem spec_MadeFlat_e (x6543 : List Int) {r : AV} {H' : Heap} (h : (Ans.mk _ (spec_MadeFlat x6543) (fun (t : (List Int)) => (.slc 0, [some (sI t)])) [] none).run = some (r, H')) : Awp spec_MadeFlat_ctx LL (bodyOf Tryd.f39) spec_MadeFlat_an ⟨mkE 13 0 [(0, dL x6543)], []⟩ (Ret (tlook tys) Tryd.f39.results.toList r H') :=
  ret_of' (spec_MadeFlat_n1_l x6543) (by unfold spec_MadeFlat; kernel_rfl) (by
  intro t
  exact ret_mk [.slc 0] (by kernel_rfl) (by kernel_rfl) (by kernel_rfl) (by kernel_rfl)) h

def F_spec_MadeFlat : Fun := fun avs H =>
  match avs, H with
  | [.dat (.list (.int .i64)) x6543], [] => ⟨_, spec_MadeFlat x6543, fun (t : (List Int)) => (.slc 0, [some (sI t)]), [], none⟩
  | _, _ => Ans.no

theorem spec_MadeFlat_sound : Sound Tryd.prog 39 F_spec_MadeFlat := by
  refine fn_sound' (C := spec_MadeFlat_ctx) (c := bodyOf Tryd.f39) (cok_of tys_ok (allc spec_FlatOrder_sound (allc spec_PutInOrder_sound alln)) (allc Tryd.call30 (allc Tryd.call79 alln)) (by kernel_rfl)) Tryd.func39 (by kernel_rfl) LL spec_MadeFlat_an ?_
  intro avs H r H' h
  unfold F_spec_MadeFlat at h
  split at h
  · refine Awp.cast ?_ ?_ ?_ (spec_MadeFlat_e _ h) <;> kernel_rfl
  · simp [Ans.no, Ans.run] at h


/-! loop.example/headtrees/laws.toIntS -/

def laws_toIntS_an : Ann := (.seq (.leaf [0]) (.seq (.leaf [0, 3]) (.seq (.seq (.leaf [0, 3, 4]) (.block (.loop (.seq (.seq (.leaf [0, 3, 4, 11]) (.cond (.leaf [0, 3, 4]) (.leaf [3]))) (.seq (.block (.leaf [0, 3, 4])) (.leaf [0, 3, 4])))))) (.seq (.leaf [2]) (.leaf [2])))))

noncomputable def laws_toIntS_ctx : Ctx := ⟨tlook tys, olook [], ioF, 0, false, []⟩

theorem laws_toIntS_n1_l (x7834 : List Int) : Link laws_toIntS_ctx LL (Code.seq (cq [0] (bodyOf Tryd.f42)) (cq [0,1] (bodyOf Tryd.f42))) (Ann.seq (aq [0] laws_toIntS_an) (aq [0,1] laws_toIntS_an)) ⟨mkE 22 0 [(0, dL x7834)], []⟩ (laws_toIntS_n1 x7834) (fun (t : (List Int)) => (Exit.normal, ⟨mkE 22 0 [(0, dL x7834), (3, .slc 0)], [some (sI t)]⟩)) := by
  refine Link.of fun K h => ?_
  simp only [laws_toIntS_n1, wpO_bind, wpO_cond, wpO_map, wpO_some] at h
  exact Awp.of (by kernel_rfl) h

theorem laws_toIntS_n2_l (x7834 : List Int) (x7837 : List Int) : Link laws_toIntS_ctx LL (cq [0,0,1,1] (bodyOf Tryd.f42)) (aq [0,0,1,1] laws_toIntS_an) ⟨mkE 22 0 [(0, dL x7834), (3, .slc 0)], [some (sI x7837)]⟩ (laws_toIntS_n2) (fun (t : Unit) => (Exit.normal, ⟨mkE 22 0 [(0, dL x7834), (3, .slc 0), (4, dI 0)], [some (sI x7837)]⟩)) := by
  refine Link.of fun K h => ?_
  simp only [laws_toIntS_n2, wpO_bind, wpO_cond, wpO_map, wpO_some] at h
  exact Awp.of (by kernel_rfl) h

theorem laws_toIntS_n3_l (x7834 : List Int) (x7851 : Int) (x7852 : List Int) : Link laws_toIntS_ctx LL (cq [0,0,1,0,1,1] (bodyOf Tryd.f42)) (aq [0,0,1,0,1,1] laws_toIntS_an) ⟨mkE 22 0 [(0, dL x7834), (3, .slc 0), (4, dI x7851)], [some (sI x7852)]⟩ (laws_toIntS_n3 x7834 x7851 x7852) (Sum.elim (fun (t : Int × (List Int)) => (Exit.normal, ⟨mkE 22 0 [(0, dL x7834), (3, .slc 0), (4, dI t.1)], [some (sI t.2)]⟩)) (fun (t : (List Int)) => ((Exit.exit 0), ⟨mkE 22 0 [(3, .slc 0)], [some (sI t)]⟩))) := by
  refine Link.of fun K h => ?_
  simp only [laws_toIntS_n3, wpO_bind, wpO_cond, wpO_map, wpO_some] at h
  exact Awp.of (by kernel_rfl) h

def laws_toIntS_n4_l (x7834 : List Int) (x7837 : List Int) := (link_loop (mk := fun (s : Int × (List Int)) => ⟨mkE 22 0 [(0, dL x7834), (3, .slc 0), (4, dI s.1)], [some (sI s.2)]⟩) (fin := (fun (t : (List Int)) => ((Exit.exit 0), ⟨mkE 22 0 [(3, .slc 0)], [some (sI t)]⟩))) (by
  rintro t f K h
  · exact h) (fun s => link_map (laws_toIntS_n3_l x7834 s.1 s.2) (Sum.elim (fun (t : Int × (List Int)) => Sum.inl (t.1, t.2)) (fun (t : (List Int)) => Sum.inr t)) (by
  rintro (t | t)
  · kernel_rfl
  · kernel_rfl)) (0, x7837))

def laws_toIntS_n5_l (x7834 : List Int) (x7837 : List Int) := (link_block (fin2 := (fun (t : (List Int)) => (Exit.normal, ⟨mkE 22 0 [(3, .slc 0)], [some (sI t)]⟩))) (id := 0) (laws_toIntS_n4_l x7834 x7837) (fun (t : (List Int)) => t) (by
  rintro t K h
  · exact Eq.mp (by kernel_rfl) h))

def laws_toIntS_n6_l (x7834 : List Int) (x7837 : List Int) := (link_seq (laws_toIntS_n2_l x7834 x7837) (fun (t : Unit) => (laws_toIntS_n5_l x7834 x7837)))

theorem laws_toIntS_n7_l (x7852 : List Int) : Link laws_toIntS_ctx LL (cq [1,1,1] (bodyOf Tryd.f42)) (aq [1,1,1] laws_toIntS_an) ⟨mkE 22 0 [(3, .slc 0)], [some (sI x7852)]⟩ (laws_toIntS_n7 x7852) (fun (t : (List Int)) => (Exit.ret, ⟨mkE 22 0 [(2, .slc 0)], [some (sI t)]⟩)) := by
  refine Link.of fun K h => ?_
  simp only [laws_toIntS_n7, wpO_bind, wpO_cond, wpO_map, wpO_some] at h
  exact Awp.of (by kernel_rfl) h

def laws_toIntS_n8_l (x7834 : List Int) (x7837 : List Int) := (link_seq (laws_toIntS_n6_l x7834 x7837) (fun (t : (List Int)) => (laws_toIntS_n7_l t)))

def laws_toIntS_n9_l (x7834 : List Int) := (link_group (c := (cq [0,1] (bodyOf Tryd.f42))) (a := (aq [0,1] laws_toIntS_an)) [(cq [0] (bodyOf Tryd.f42))] [(aq [0] laws_toIntS_an)] rfl (link_seq (laws_toIntS_n1_l x7834) (fun (t : (List Int)) => (laws_toIntS_n8_l x7834 t))))

theorem laws_toIntS_e (x7834 : List Int) {r : AV} {H' : Heap} (h : (Ans.mk _ (laws_toIntS x7834) (fun (t : (List Int)) => (.slc 0, [some (sI t)])) [] none).run = some (r, H')) : Awp laws_toIntS_ctx LL (bodyOf Tryd.f42) laws_toIntS_an ⟨mkE 22 0 [(0, dL x7834)], []⟩ (Ret (tlook tys) Tryd.f42.results.toList r H') :=
  ret_of' (Link.cast (by kernel_rfl) (by kernel_rfl) (laws_toIntS_n9_l x7834)) (by unfold laws_toIntS; kernel_rfl) (by
  intro t
  exact ret_mk [.slc 0] (by kernel_rfl) (by kernel_rfl) (by kernel_rfl) (by kernel_rfl)) h

def F_laws_toIntS : Fun := fun avs H =>
  match avs, H with
  | [.dat (.list (.int .i64)) x7834], [] => ⟨_, laws_toIntS x7834, fun (t : (List Int)) => (.slc 0, [some (sI t)]), [], none⟩
  | _, _ => Ans.no

theorem laws_toIntS_sound : Sound Tryd.prog 42 F_laws_toIntS := by
  refine fn_sound' (C := laws_toIntS_ctx) (c := bodyOf Tryd.f42) (cok_of tys_ok (alln) (alln) (by kernel_rfl)) Tryd.func42 (by kernel_rfl) LL laws_toIntS_an ?_
  intro avs H r H' h
  unfold F_laws_toIntS at h
  split at h
  · refine Awp.cast ?_ ?_ ?_ (laws_toIntS_e _ h) <;> kernel_rfl
  · simp [Ans.no, Ans.run] at h


/-! loop.example/headtrees/laws.eqIntS -/

def laws_eqIntS_an : Ann := (.seq (.leaf [0, 1]) (.seq (.seq (.leaf [0, 1, 10]) (.cond (.seq (.leaf [4]) (.leaf [4])) (.leaf [0, 1]))) (.seq (.seq (.leaf [0, 1, 5]) (.block (.loop (.seq (.seq (.leaf [0, 1, 5, 14]) (.cond (.leaf [0, 1, 5]) (.leaf []))) (.seq (.block (.seq (.draw [] [0, 1, 2, 3, 4, 5, 6, 7, 8] [] [0, 1, 5, 25]) (.cond (.seq (.leaf [4]) (.leaf [4])) (.leaf [0, 1, 5])))) (.leaf [0, 1, 5])))))) (.seq (.leaf [4]) (.leaf [4])))))

noncomputable def laws_eqIntS_ctx : Ctx := ⟨tlook tys, olook [], ioF, 0, false, []⟩

theorem laws_eqIntS_n1_l (x7894 : List Int) (x7895 : List Int) : Link laws_eqIntS_ctx LL (Code.seq (cq [0] (bodyOf Tryd.f43)) (cq [0,1] (bodyOf Tryd.f43))) (Ann.seq (aq [0] laws_eqIntS_an) (aq [0,1] laws_eqIntS_an)) ⟨mkE 26 0 [(0, dL x7894), (1, dL x7895)], []⟩ (laws_eqIntS_n1 x7894 x7895) (Sum.elim (fun (t : Unit) => (Exit.normal, ⟨mkE 26 0 [(0, dL x7894), (1, dL x7895)], []⟩)) (fun (t : Bool) => (Exit.ret, ⟨mkE 26 0 [(4, dB t)], []⟩))) := by
  refine Link.of fun K h => ?_
  simp only [laws_eqIntS_n1, wpO_bind, wpO_cond, wpO_map, wpO_some] at h
  exact Awp.of (by kernel_rfl) h

theorem laws_eqIntS_n2_l (x7894 : List Int) (x7895 : List Int) : Link laws_eqIntS_ctx LL (cq [0,0,1,1] (bodyOf Tryd.f43)) (aq [0,0,1,1] laws_eqIntS_an) ⟨mkE 26 0 [(0, dL x7894), (1, dL x7895)], []⟩ (laws_eqIntS_n2) (fun (t : Unit) => (Exit.normal, ⟨mkE 26 0 [(0, dL x7894), (1, dL x7895), (5, dI 0)], []⟩)) := by
  refine Link.of fun K h => ?_
  simp only [laws_eqIntS_n2, wpO_bind, wpO_cond, wpO_map, wpO_some] at h
  exact Awp.of (by kernel_rfl) h

theorem laws_eqIntS_n3_l (x7894 : List Int) (x7895 : List Int) (x7912 : Int) : Link laws_eqIntS_ctx LL (cq [0,0,1,0,1,1] (bodyOf Tryd.f43)) (aq [0,0,1,0,1,1] laws_eqIntS_an) ⟨mkE 26 0 [(0, dL x7894), (1, dL x7895), (5, dI x7912)], []⟩ (laws_eqIntS_n3 x7894 x7895 x7912) (Sum.elim (fun (t : Int) => (Exit.normal, ⟨mkE 26 0 [(0, dL x7894), (1, dL x7895), (5, dI t)], []⟩)) (Sum.elim (fun (t : Bool) => (Exit.ret, ⟨mkE 26 0 [(4, dB t)], []⟩)) (fun (t : Unit) => ((Exit.exit 0), ⟨mkE 26 0 [], []⟩)))) := by
  refine Link.of fun K h => ?_
  simp only [laws_eqIntS_n3, wpO_bind, wpO_cond, wpO_map, wpO_some] at h
  exact Awp.of (by kernel_rfl) h

def laws_eqIntS_n4_l (x7894 : List Int) (x7895 : List Int) := (link_loop (mk := fun (s : Int) => ⟨mkE 26 0 [(0, dL x7894), (1, dL x7895), (5, dI s)], []⟩) (fin := (Sum.elim (fun (t : Bool) => (Exit.ret, ⟨mkE 26 0 [(4, dB t)], []⟩)) (fun (t : Unit) => ((Exit.exit 0), ⟨mkE 26 0 [], []⟩)))) (by
  rintro (t | t) f K h
  · exact h
  · exact h) (fun s => link_map (laws_eqIntS_n3_l x7894 x7895 s) (Sum.elim (fun (t : Int) => Sum.inl t) (Sum.elim (fun (t : Bool) => Sum.inr (Sum.inl t)) (fun (t : Unit) => Sum.inr (Sum.inr t)))) (by
  rintro (t | t | t)
  · kernel_rfl
  · kernel_rfl
  · kernel_rfl)) 0)

def laws_eqIntS_n5_l (x7894 : List Int) (x7895 : List Int) := (link_block (fin2 := (Sum.elim (fun (t : Unit) => (Exit.normal, ⟨mkE 26 0 [], []⟩)) (fun (t : Bool) => (Exit.ret, ⟨mkE 26 0 [(4, dB t)], []⟩)))) (id := 0) (laws_eqIntS_n4_l x7894 x7895) (Sum.elim (fun (t : Bool) => (Sum.inr t)) (fun (t : Unit) => (Sum.inl ()))) (by
  rintro (t | t) K h
  · exact Eq.mp (by kernel_rfl) h
  · exact Eq.mp (by kernel_rfl) h))

def laws_eqIntS_n6_l (x7894 : List Int) (x7895 : List Int) := (link_seq (laws_eqIntS_n2_l x7894 x7895) (fun (t : Unit) => (laws_eqIntS_n5_l x7894 x7895)))

theorem laws_eqIntS_n7_l : Link laws_eqIntS_ctx LL (cq [1,1,1] (bodyOf Tryd.f43)) (aq [1,1,1] laws_eqIntS_an) ⟨mkE 26 0 [], []⟩ (laws_eqIntS_n7) (fun (t : Bool) => (Exit.ret, ⟨mkE 26 0 [(4, dB t)], []⟩)) := by
  refine Link.of fun K h => ?_
  simp only [laws_eqIntS_n7, wpO_bind, wpO_cond, wpO_map, wpO_some] at h
  exact Awp.of (by kernel_rfl) h

def laws_eqIntS_n8_l (x7894 : List Int) (x7895 : List Int) := (link_seq2 (laws_eqIntS_n6_l x7894 x7895) (fun (t : Unit) => (laws_eqIntS_n7_l)) (fun (t : Bool) => t) (by
  rintro t
  · kernel_rfl) (by
  rintro t f K h
  · exact h))

def laws_eqIntS_n9_l (x7894 : List Int) (x7895 : List Int) := (link_group (c := (cq [0,1] (bodyOf Tryd.f43))) (a := (aq [0,1] laws_eqIntS_an)) [(cq [0] (bodyOf Tryd.f43))] [(aq [0] laws_eqIntS_an)] rfl (link_seq2 (laws_eqIntS_n1_l x7894 x7895) (fun (t : Unit) => (laws_eqIntS_n8_l x7894 x7895)) (fun (t : Bool) => t) (by
  rintro t
  · kernel_rfl) (by
  rintro t f K h
  · exact h)))

theorem laws_eqIntS_e (x7894 : List Int) (x7895 : List Int) {r : AV} {H' : Heap} (h : (Ans.mk _ (laws_eqIntS x7894 x7895) (fun (t : Bool) => (dB t, [])) [] none).run = some (r, H')) : Awp laws_eqIntS_ctx LL (bodyOf Tryd.f43) laws_eqIntS_an ⟨mkE 26 0 [(0, dL x7894), (1, dL x7895)], []⟩ (Ret (tlook tys) Tryd.f43.results.toList r H') :=
  ret_of' (Link.cast (by kernel_rfl) (by kernel_rfl) (laws_eqIntS_n9_l x7894 x7895)) (by unfold laws_eqIntS; kernel_rfl) (by
  intro t
  exact ret_mk [dB t] (by kernel_rfl) (by kernel_rfl) (by kernel_rfl) (by kernel_rfl)) h

def F_laws_eqIntS : Fun := fun avs H =>
  match avs, H with
  | [.dat (.list (.int .i64)) x7894, .dat (.list (.int .i64)) x7895], [] => ⟨_, laws_eqIntS x7894 x7895, fun (t : Bool) => (dB t, []), [], none⟩
  | _, _ => Ans.no

theorem laws_eqIntS_sound : Sound Tryd.prog 43 F_laws_eqIntS := by
  refine fn_sound' (C := laws_eqIntS_ctx) (c := bodyOf Tryd.f43) (cok_of tys_ok (alln) (alln) (by kernel_rfl)) Tryd.func43 (by kernel_rfl) LL laws_eqIntS_an ?_
  intro avs H r H' h
  unfold F_laws_eqIntS at h
  split at h
  · refine Awp.cast ?_ ?_ ?_ (laws_eqIntS_e _ _ h) <;> kernel_rfl
  · simp [Ans.no, Ans.run] at h


/-! loop.example/headtrees/laws.markIntS -/

def laws_markIntS_an : Ann := (.seq (.leaf [0, 1]) (.seq (.seq (.leaf [0, 1, 5]) (.block (.loop (.seq (.seq (.leaf [0, 1, 5, 9]) (.cond (.leaf [0, 1, 5]) (.leaf [1]))) (.seq (.block (.seq (.leaf [0, 1, 5]) (.leaf [0, 1, 5]))) (.leaf [0, 1, 5])))))) (.seq (.leaf [4]) (.leaf [4]))))

noncomputable def laws_markIntS_ctx : Ctx := ⟨tlook tys, olook [], ioF, 1, false, []⟩

theorem laws_markIntS_n1_l (x8010 : Int) (x8011 : List Int) : Link laws_markIntS_ctx LL (cq [0] (bodyOf Tryd.f44)) (aq [0] laws_markIntS_an) ⟨mkE 19 0 [(0, .slc 0), (1, dI x8010)], [some (sI x8011)]⟩ (laws_markIntS_n1) (fun (t : Unit) => (Exit.normal, ⟨mkE 19 0 [(0, .slc 0), (1, dI x8010)], [some (sI x8011)]⟩)) := by
  refine Link.of fun K h => ?_
  simp only [laws_markIntS_n1, wpO_bind, wpO_cond, wpO_map, wpO_some] at h
  exact Awp.of (by kernel_rfl) h

theorem laws_markIntS_n2_l (x8010 : Int) (x8011 : List Int) : Link laws_markIntS_ctx LL (cq [0,0,1] (bodyOf Tryd.f44)) (aq [0,0,1] laws_markIntS_an) ⟨mkE 19 0 [(0, .slc 0), (1, dI x8010)], [some (sI x8011)]⟩ (laws_markIntS_n2) (fun (t : Unit) => (Exit.normal, ⟨mkE 19 0 [(0, .slc 0), (1, dI x8010), (5, dI 0)], [some (sI x8011)]⟩)) := by
  refine Link.of fun K h => ?_
  simp only [laws_markIntS_n2, wpO_bind, wpO_cond, wpO_map, wpO_some] at h
  exact Awp.of (by kernel_rfl) h

theorem laws_markIntS_n3_l (x8025 : Int) (x8026 : Int) (x8027 : List Int) : Link laws_markIntS_ctx LL (cq [0,0,1,0,1] (bodyOf Tryd.f44)) (aq [0,0,1,0,1] laws_markIntS_an) ⟨mkE 19 0 [(0, .slc 0), (1, dI x8025), (5, dI x8026)], [some (sI x8027)]⟩ (laws_markIntS_n3 x8025 x8026 x8027) (Sum.elim (fun (t : Int × Int × (List Int)) => (Exit.normal, ⟨mkE 19 0 [(0, .slc 0), (1, dI t.1), (5, dI t.2.1)], [some (sI t.2.2)]⟩)) (fun (t : Int × (List Int)) => ((Exit.exit 0), ⟨mkE 19 0 [(1, dI t.1)], [some (sI t.2)]⟩))) := by
  refine Link.of fun K h => ?_
  simp only [laws_markIntS_n3, wpO_bind, wpO_cond, wpO_map, wpO_some] at h
  exact Awp.of (by kernel_rfl) h

def laws_markIntS_n4_l (x8010 : Int) (x8011 : List Int) := (link_loop (mk := fun (s : Int × Int × (List Int)) => ⟨mkE 19 0 [(0, .slc 0), (1, dI s.1), (5, dI s.2.1)], [some (sI s.2.2)]⟩) (fin := (fun (t : Int × (List Int)) => ((Exit.exit 0), ⟨mkE 19 0 [(1, dI t.1)], [some (sI t.2)]⟩))) (by
  rintro t f K h
  · exact h) (fun s => link_map (laws_markIntS_n3_l s.1 s.2.1 s.2.2) (Sum.elim (fun (t : Int × Int × (List Int)) => Sum.inl (t.1, t.2.1, t.2.2)) (fun (t : Int × (List Int)) => Sum.inr t)) (by
  rintro (t | t)
  · kernel_rfl
  · kernel_rfl)) (x8010, 0, x8011))

def laws_markIntS_n5_l (x8010 : Int) (x8011 : List Int) := (link_block (fin2 := (fun (t : Int × (List Int)) => (Exit.normal, ⟨mkE 19 0 [(1, dI t.1)], [some (sI t.2)]⟩))) (id := 0) (laws_markIntS_n4_l x8010 x8011) (fun (t : Int × (List Int)) => (t.1, t.2)) (by
  rintro t K h
  · exact Eq.mp (by kernel_rfl) h))

def laws_markIntS_n6_l (x8010 : Int) (x8011 : List Int) := (link_seq (laws_markIntS_n2_l x8010 x8011) (fun (t : Unit) => (laws_markIntS_n5_l x8010 x8011)))

theorem laws_markIntS_n7_l (x8025 : Int) (x8027 : List Int) : Link laws_markIntS_ctx LL (cq [1,1] (bodyOf Tryd.f44)) (aq [1,1] laws_markIntS_an) ⟨mkE 19 0 [(1, dI x8025)], [some (sI x8027)]⟩ (laws_markIntS_n7 x8025 x8027) (fun (t : Int × (List Int)) => (Exit.ret, ⟨mkE 19 0 [(4, dI t.1)], [some (sI t.2)]⟩)) := by
  refine Link.of fun K h => ?_
  simp only [laws_markIntS_n7, wpO_bind, wpO_cond, wpO_map, wpO_some] at h
  exact Awp.of (by kernel_rfl) h

def laws_markIntS_n8_l (x8010 : Int) (x8011 : List Int) := (link_seq (laws_markIntS_n6_l x8010 x8011) (fun (t : Int × (List Int)) => (laws_markIntS_n7_l t.1 t.2)))

def laws_markIntS_n9_l (x8010 : Int) (x8011 : List Int) := (link_seq (laws_markIntS_n1_l x8010 x8011) (fun (t : Unit) => (laws_markIntS_n8_l x8010 x8011)))

theorem laws_markIntS_e (x8010 : Int) (x8011 : List Int) {r : AV} {H' : Heap} (h : (Ans.mk _ (laws_markIntS x8010 x8011) (fun (t : Int × (List Int)) => (dI t.1, [some (sI t.2)])) [] none).run = some (r, H')) : Awp laws_markIntS_ctx LL (bodyOf Tryd.f44) laws_markIntS_an ⟨mkE 19 0 [(0, .slc 0), (1, dI x8010)], [some (sI x8011)]⟩ (Ret (tlook tys) Tryd.f44.results.toList r H') :=
  ret_of' (Link.cast (by kernel_rfl) (by kernel_rfl) (laws_markIntS_n9_l x8010 x8011)) (by unfold laws_markIntS; kernel_rfl) (by
  intro t
  exact ret_mk [dI t.1] (by kernel_rfl) (by kernel_rfl) (by kernel_rfl) (by kernel_rfl)) h

def F_laws_markIntS : Fun := fun avs H =>
  match avs, H with
  | [.slc 0, .dat (.int .i64) x8010], [some (.seq (.int .i64) x8011)] => ⟨_, laws_markIntS x8010 x8011, fun (t : Int × (List Int)) => (dI t.1, [some (sI t.2)]), [], none⟩
  | _, _ => Ans.no

theorem laws_markIntS_sound : Sound Tryd.prog 44 F_laws_markIntS := by
  refine fn_sound' (C := laws_markIntS_ctx) (c := bodyOf Tryd.f44) (cok_of tys_ok (alln) (alln) (by kernel_rfl)) Tryd.func44 (by kernel_rfl) LL laws_markIntS_an ?_
  intro avs H r H' h
  unfold F_laws_markIntS at h
  split at h
  · refine Awp.cast ?_ ?_ ?_ (laws_markIntS_e _ _ h) <;> kernel_rfl
  · simp [Ans.no, Ans.run] at h


/-! loop.example/headtrees/laws.heldIntS -/

def laws_heldIntS_an : Ann := (.seq (.leaf [0, 1]) (.seq (.seq (.leaf [0, 1, 5]) (.block (.loop (.seq (.seq (.leaf [0, 1, 5, 9]) (.cond (.leaf [0, 1, 5]) (.leaf [1]))) (.seq (.block (.seq (.seq (.leaf [0, 1, 5, 17]) (.cond (.seq (.leaf [4]) (.leaf [4])) (.leaf [0, 1, 5]))) (.leaf [0, 1, 5]))) (.leaf [0, 1, 5])))))) (.seq (.leaf [4]) (.leaf [4]))))

noncomputable def laws_heldIntS_ctx : Ctx := ⟨tlook tys, olook [], ioF, 0, false, []⟩

theorem laws_heldIntS_n1_l (x8138 : List Int) (x8139 : Int) : Link laws_heldIntS_ctx LL (cq [0] (bodyOf Tryd.f45)) (aq [0] laws_heldIntS_an) ⟨mkE 21 0 [(0, dL x8138), (1, dI x8139)], []⟩ (laws_heldIntS_n1) (fun (t : Unit) => (Exit.normal, ⟨mkE 21 0 [(0, dL x8138), (1, dI x8139)], []⟩)) := by
  refine Link.of fun K h => ?_
  simp only [laws_heldIntS_n1, wpO_bind, wpO_cond, wpO_map, wpO_some] at h
  exact Awp.of (by kernel_rfl) h

theorem laws_heldIntS_n2_l (x8138 : List Int) (x8139 : Int) : Link laws_heldIntS_ctx LL (cq [0,0,1] (bodyOf Tryd.f45)) (aq [0,0,1] laws_heldIntS_an) ⟨mkE 21 0 [(0, dL x8138), (1, dI x8139)], []⟩ (laws_heldIntS_n2) (fun (t : Unit) => (Exit.normal, ⟨mkE 21 0 [(0, dL x8138), (1, dI x8139), (5, dI 0)], []⟩)) := by
  refine Link.of fun K h => ?_
  simp only [laws_heldIntS_n2, wpO_bind, wpO_cond, wpO_map, wpO_some] at h
  exact Awp.of (by kernel_rfl) h

theorem laws_heldIntS_n3_l (x8138 : List Int) (x8153 : Int) (x8154 : Int) : Link laws_heldIntS_ctx LL (cq [0,0,1,0,1] (bodyOf Tryd.f45)) (aq [0,0,1,0,1] laws_heldIntS_an) ⟨mkE 21 0 [(0, dL x8138), (1, dI x8153), (5, dI x8154)], []⟩ (laws_heldIntS_n3 x8138 x8153 x8154) (Sum.elim (fun (t : Int × Int) => (Exit.normal, ⟨mkE 21 0 [(0, dL x8138), (1, dI t.1), (5, dI t.2)], []⟩)) (Sum.elim (fun (t : Int) => (Exit.ret, ⟨mkE 21 0 [(4, dI t)], []⟩)) (fun (t : Int) => ((Exit.exit 0), ⟨mkE 21 0 [(1, dI t)], []⟩)))) := by
  refine Link.of fun K h => ?_
  simp only [laws_heldIntS_n3, wpO_bind, wpO_cond, wpO_map, wpO_some] at h
  exact Awp.of (by kernel_rfl) h

def laws_heldIntS_n4_l (x8138 : List Int) (x8139 : Int) := (link_loop (mk := fun (s : Int × Int) => ⟨mkE 21 0 [(0, dL x8138), (1, dI s.1), (5, dI s.2)], []⟩) (fin := (Sum.elim (fun (t : Int) => (Exit.ret, ⟨mkE 21 0 [(4, dI t)], []⟩)) (fun (t : Int) => ((Exit.exit 0), ⟨mkE 21 0 [(1, dI t)], []⟩)))) (by
  rintro (t | t) f K h
  · exact h
  · exact h) (fun s => link_map (laws_heldIntS_n3_l x8138 s.1 s.2) (Sum.elim (fun (t : Int × Int) => Sum.inl (t.1, t.2)) (Sum.elim (fun (t : Int) => Sum.inr (Sum.inl t)) (fun (t : Int) => Sum.inr (Sum.inr t)))) (by
  rintro (t | t | t)
  · kernel_rfl
  · kernel_rfl
  · kernel_rfl)) (x8139, 0))

def laws_heldIntS_n5_l (x8138 : List Int) (x8139 : Int) := (link_block (fin2 := (Sum.elim (fun (t : Int) => (Exit.normal, ⟨mkE 21 0 [(1, dI t)], []⟩)) (fun (t : Int) => (Exit.ret, ⟨mkE 21 0 [(4, dI t)], []⟩)))) (id := 0) (laws_heldIntS_n4_l x8138 x8139) (Sum.elim (fun (t : Int) => (Sum.inr t)) (fun (t : Int) => (Sum.inl t))) (by
  rintro (t | t) K h
  · exact Eq.mp (by kernel_rfl) h
  · exact Eq.mp (by kernel_rfl) h))

def laws_heldIntS_n6_l (x8138 : List Int) (x8139 : Int) := (link_seq (laws_heldIntS_n2_l x8138 x8139) (fun (t : Unit) => (laws_heldIntS_n5_l x8138 x8139)))

theorem laws_heldIntS_n7_l (x8153 : Int) : Link laws_heldIntS_ctx LL (cq [1,1] (bodyOf Tryd.f45)) (aq [1,1] laws_heldIntS_an) ⟨mkE 21 0 [(1, dI x8153)], []⟩ (laws_heldIntS_n7 x8153) (fun (t : Int) => (Exit.ret, ⟨mkE 21 0 [(4, dI t)], []⟩)) := by
  refine Link.of fun K h => ?_
  simp only [laws_heldIntS_n7, wpO_bind, wpO_cond, wpO_map, wpO_some] at h
  exact Awp.of (by kernel_rfl) h

def laws_heldIntS_n8_l (x8138 : List Int) (x8139 : Int) := (link_seq2 (laws_heldIntS_n6_l x8138 x8139) (fun (t : Int) => (laws_heldIntS_n7_l t)) (fun (t : Int) => t) (by
  rintro t
  · kernel_rfl) (by
  rintro t f K h
  · exact h))

def laws_heldIntS_n9_l (x8138 : List Int) (x8139 : Int) := (link_seq (laws_heldIntS_n1_l x8138 x8139) (fun (t : Unit) => (laws_heldIntS_n8_l x8138 x8139)))

theorem laws_heldIntS_e (x8138 : List Int) (x8139 : Int) {r : AV} {H' : Heap} (h : (Ans.mk _ (laws_heldIntS x8138 x8139) (fun (t : Int) => (dI t, [])) [] none).run = some (r, H')) : Awp laws_heldIntS_ctx LL (bodyOf Tryd.f45) laws_heldIntS_an ⟨mkE 21 0 [(0, dL x8138), (1, dI x8139)], []⟩ (Ret (tlook tys) Tryd.f45.results.toList r H') :=
  ret_of' (Link.cast (by kernel_rfl) (by kernel_rfl) (laws_heldIntS_n9_l x8138 x8139)) (by unfold laws_heldIntS; kernel_rfl) (by
  intro t
  exact ret_mk [dI t] (by kernel_rfl) (by kernel_rfl) (by kernel_rfl) (by kernel_rfl)) h

def F_laws_heldIntS : Fun := fun avs H =>
  match avs, H with
  | [.dat (.list (.int .i64)) x8138, .dat (.int .i64) x8139], [] => ⟨_, laws_heldIntS x8138 x8139, fun (t : Int) => (dI t, []), [], none⟩
  | _, _ => Ans.no

theorem laws_heldIntS_sound : Sound Tryd.prog 45 F_laws_heldIntS := by
  refine fn_sound' (C := laws_heldIntS_ctx) (c := bodyOf Tryd.f45) (cok_of tys_ok (alln) (alln) (by kernel_rfl)) Tryd.func45 (by kernel_rfl) LL laws_heldIntS_an ?_
  intro avs H r H' h
  unfold F_laws_heldIntS at h
  split at h
  · refine Awp.cast ?_ ?_ ?_ (laws_heldIntS_e _ _ h) <;> kernel_rfl
  · simp [Ans.no, Ans.run] at h


/-! loop.example/headtrees/laws.FnExactMadeFlat -/

def laws_FnExactMadeFlat_an : Ann := (.seq (.leaf [0]) (.seq (.seq (.leaf [0, 12]) (.cond (.seq (.leaf [2]) (.leaf [2])) (.leaf [0]))) (.seq (.leaf [0, 3]) (.seq (.leaf [0, 3, 4]) (.seq (.leaf [0, 3, 4, 5]) (.seq (.seq (.leaf [0, 3, 4, 5, 23]) (.cond (.seq (.leaf [2]) (.leaf [2])) (.leaf [0, 3, 4, 5]))) (.seq (.seq (.leaf [0, 3, 4, 5, 28]) (.cond (.seq (.leaf [2]) (.leaf [2])) (.leaf [0, 3, 4, 5]))) (.seq (.leaf [0, 3, 4, 5, 6]) (.seq (.leaf [0, 3, 5, 6]) (.seq (.seq (.leaf [0, 3, 5, 39]) (.cond (.seq (.leaf [2]) (.leaf [2])) (.leaf [0, 3, 5]))) (.seq (.leaf [0, 3, 5, 7]) (.seq (.leaf [0, 3, 5, 7]) (.seq (.leaf [0, 3, 5, 7, 8]) (.seq (.leaf [0, 3, 5, 7, 8]) (.seq (.seq (.leaf [0, 3, 5, 7, 8, 47]) (.cond (.seq (.leaf [2]) (.leaf [2])) (.leaf [0, 3, 5, 7, 8]))) (.seq (.seq (.leaf [0, 3, 5, 7, 50]) (.cond (.seq (.leaf [2]) (.leaf [2])) (.leaf [0, 3, 5, 7]))) (.seq (.leaf [3, 5, 7, 9]) (.seq (.seq (.leaf [5, 7, 57]) (.cond (.seq (.leaf [2]) (.leaf [2])) (.leaf [5, 7]))) (.seq (.leaf [5, 7, 8]) (.seq (.leaf [7, 8]) (.seq (.seq (.leaf [7, 8, 62]) (.cond (.seq (.leaf [2]) (.leaf [2])) (.leaf [7, 8]))) (.seq (.seq (.leaf [65]) (.cond (.seq (.leaf [2]) (.leaf [2])) (.leaf []))) (.seq (.leaf [2]) (.leaf [2]))))))))))))))))))))))))

noncomputable def laws_FnExactMadeFlat_ctx : Ctx := ⟨tlook tys, olook [(42, F_laws_toIntS), (39, F_spec_MadeFlat), (37, F_impl_MadeFlat), (43, F_laws_eqIntS), (44, F_laws_markIntS), (45, F_laws_heldIntS)], ioF, 0, false, []⟩

theorem laws_FnExactMadeFlat_n1_l (x8500 : List Int) : Link laws_FnExactMadeFlat_ctx LL (bodyOf Tryd.f12) laws_FnExactMadeFlat_an ⟨mkE 66 0 [(0, dL x8500)], []⟩ (laws_FnExactMadeFlat_n1 x8500) (fun (t : Bool) => (Exit.ret, ⟨mkE 66 0 [(2, dB t)], []⟩)) := by
  refine Link.of fun K h => ?_
  simp only [laws_FnExactMadeFlat_n1, wpO_bind, wpO_cond, wpO_map, wpO_some] at h
  exact Awp.of (by kernel_rfl) h

theorem laws_FnExactMadeFlat_e (x8500 : List Int) {r : AV} {H' : Heap} (h : (Ans.mk _ (laws_FnExactMadeFlat x8500) (fun (t : Bool) => (dB t, [])) [] none).run = some (r, H')) : Awp laws_FnExactMadeFlat_ctx LL (bodyOf Tryd.f12) laws_FnExactMadeFlat_an ⟨mkE 66 0 [(0, dL x8500)], []⟩ (Ret (tlook tys) Tryd.f12.results.toList r H') :=
  ret_of' (laws_FnExactMadeFlat_n1_l x8500) (by unfold laws_FnExactMadeFlat; kernel_rfl) (by
  intro t
  exact ret_mk [dB t] (by kernel_rfl) (by kernel_rfl) (by kernel_rfl) (by kernel_rfl)) h

def F_laws_FnExactMadeFlat : Fun := fun avs H =>
  match avs, H with
  | [.dat (.list (.int .i64)) x8500], [] => ⟨_, laws_FnExactMadeFlat x8500, fun (t : Bool) => (dB t, []), [], none⟩
  | _, _ => Ans.no

theorem laws_FnExactMadeFlat_sound : Sound Tryd.prog 12 F_laws_FnExactMadeFlat := by
  refine fn_sound' (C := laws_FnExactMadeFlat_ctx) (c := bodyOf Tryd.f12) (cok_of tys_ok (allc laws_toIntS_sound (allc spec_MadeFlat_sound (allc impl_MadeFlat_sound (allc laws_eqIntS_sound (allc laws_markIntS_sound (allc laws_heldIntS_sound alln)))))) (allc Tryd.call42 (allc Tryd.call39 (allc Tryd.call37 (allc Tryd.call43 (allc Tryd.call44 (allc Tryd.call45 alln)))))) (by kernel_rfl)) Tryd.func12 (by kernel_rfl) LL laws_FnExactMadeFlat_an ?_
  intro avs H r H' h
  unfold F_laws_FnExactMadeFlat at h
  split at h
  · refine Awp.cast ?_ ?_ ?_ (laws_FnExactMadeFlat_e _ h) <;> kernel_rfl
  · simp [Ans.no, Ans.run] at h

end Go.Rv
