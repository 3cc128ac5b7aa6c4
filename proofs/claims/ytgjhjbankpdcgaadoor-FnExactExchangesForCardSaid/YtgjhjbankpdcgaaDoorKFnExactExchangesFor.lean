/-
  The checked code answers as the plain functions do; written by program. Conditions: none.
-/
import Derived.Test.YtgjhjbankpdcgaaDoorGFnExactExchangesFor
import Derived.Test.YtgjhjbankpdcgaaDoorProg
set_option linter.unusedVariables false
set_option linter.unusedSimpArgs false
set_option linter.defProp false
set_option maxRecDepth 100000
namespace Go.Rv
open Go.Proofs
theorem ty3 : TIOk Tryd.prog 3 ⟨.int .i64, 1, 8, some (.int .i64), [.int .i64 0], false⟩ := ⟨⟨infoOf (Tryd.prog.info? 3), by kernel_rfl, by kernel_rfl, by kernel_rfl, .int .i64 0, by kernel_rfl, by kernel_rfl⟩, (by kernel_rfl : Tryd.prog.underlying 3 = some (.int .i64)), no_eq⟩
theorem ty4 : TIOk Tryd.prog 4 ⟨.bool, 1, 1, some .bool, [.bool false], false⟩ := ⟨⟨infoOf (Tryd.prog.info? 4), by kernel_rfl, by kernel_rfl, by kernel_rfl, .bool false, by kernel_rfl, by kernel_rfl⟩, (by kernel_rfl : Tryd.prog.underlying 4 = some .bool), no_eq⟩
theorem ty5 : TIOk Tryd.prog 5 ⟨.int .u8, 1, 1, some (.int .u8), [.int .u8 0], false⟩ := ⟨⟨infoOf (Tryd.prog.info? 5), by kernel_rfl, by kernel_rfl, by kernel_rfl, .int .u8 0, by kernel_rfl, by kernel_rfl⟩, (by kernel_rfl : Tryd.prog.underlying 5 = some (.int .u8)), no_eq⟩
theorem ty9 : TIOk Tryd.prog 9 ⟨.str, 1, 16, some .str, [.string ByteArray.empty], false⟩ := ⟨⟨infoOf (Tryd.prog.info? 9), by kernel_rfl, by kernel_rfl, by kernel_rfl, .string ByteArray.empty, by kernel_rfl, by kernel_rfl⟩, (by kernel_rfl : Tryd.prog.underlying 9 = some .string), no_eq⟩
theorem ty22 : TIOk Tryd.prog 22 ⟨.slice 5, 1, 24, some (.list (.int .u8)), [.slice none 0 0], false⟩ := ⟨⟨infoOf (Tryd.prog.info? 22), by kernel_rfl, by kernel_rfl, by kernel_rfl, .slice none 0 0, by kernel_rfl, by kernel_rfl⟩, (by kernel_rfl : Tryd.prog.underlying 22 = some (.slice 5)), no_eq⟩
theorem ty23 : TIOk Tryd.prog 23 ⟨.slice 3, 1, 24, some (.list (.int .i64)), [.slice none 0 0], false⟩ := ⟨⟨infoOf (Tryd.prog.info? 23), by kernel_rfl, by kernel_rfl, by kernel_rfl, .slice none 0 0, by kernel_rfl, by kernel_rfl⟩, (by kernel_rfl : Tryd.prog.underlying 23 = some (.slice 3)), no_eq⟩
theorem ty51 : TIOk Tryd.prog 51 ⟨.int .u64, 1, 8, some (.int .u64), [.int .u64 0], false⟩ := ⟨⟨infoOf (Tryd.prog.info? 51), by kernel_rfl, by kernel_rfl, by kernel_rfl, .int .u64 0, by kernel_rfl, by kernel_rfl⟩, (by kernel_rfl : Tryd.prog.underlying 51 = some (.int .u64)), no_eq⟩
theorem ty59 : TIOk Tryd.prog 59 ⟨.arr 7 3, 7, 56, none, [.int .i64 0, .int .i64 0, .int .i64 0, .int .i64 0, .int .i64 0, .int .i64 0, .int .i64 0], false⟩ := ⟨⟨infoOf (Tryd.prog.info? 59), by kernel_rfl, by kernel_rfl, by kernel_rfl, .agg #[.int .i64 0, .int .i64 0, .int .i64 0, .int .i64 0, .int .i64 0, .int .i64 0, .int .i64 0], by kernel_rfl, by kernel_rfl⟩, (by kernel_rfl : Tryd.prog.underlying 59 = some (.array 7 3)), no_eq⟩
theorem ty61 : TIOk Tryd.prog 61 ⟨.strct [(0, 59), (7, 59)], 14, 112, none, [.int .i64 0, .int .i64 0, .int .i64 0, .int .i64 0, .int .i64 0, .int .i64 0, .int .i64 0, .int .i64 0, .int .i64 0, .int .i64 0, .int .i64 0, .int .i64 0, .int .i64 0, .int .i64 0], false⟩ := ⟨⟨infoOf (Tryd.prog.info? 61), by kernel_rfl, by kernel_rfl, by kernel_rfl, .agg #[.int .i64 0, .int .i64 0, .int .i64 0, .int .i64 0, .int .i64 0, .int .i64 0, .int .i64 0, .int .i64 0, .int .i64 0, .int .i64 0, .int .i64 0, .int .i64 0, .int .i64 0, .int .i64 0], by kernel_rfl, by kernel_rfl⟩, ⟨fieldsOf (Tryd.prog.underlying 61), by kernel_rfl, by kernel_rfl⟩, no_eq⟩
theorem ty65 : TIOk Tryd.prog 65 ⟨.strct [(0, 3), (1, 3)], 2, 16, some (.pair (.int .i64) (.pair (.int .i64) .unit)), [.int .i64 0, .int .i64 0], false⟩ := ⟨⟨infoOf (Tryd.prog.info? 65), by kernel_rfl, by kernel_rfl, by kernel_rfl, .agg #[.int .i64 0, .int .i64 0], by kernel_rfl, by kernel_rfl⟩, ⟨fieldsOf (Tryd.prog.underlying 65), by kernel_rfl, by kernel_rfl⟩, no_eq⟩
theorem ty67 : TIOk Tryd.prog 67 ⟨.slice 51, 1, 24, some (.list (.int .u64)), [.slice none 0 0], false⟩ := ⟨⟨infoOf (Tryd.prog.info? 67), by kernel_rfl, by kernel_rfl, by kernel_rfl, .slice none 0 0, by kernel_rfl, by kernel_rfl⟩, (by kernel_rfl : Tryd.prog.underlying 67 = some (.slice 51)), no_eq⟩
theorem ty71 : TIOk Tryd.prog 71 ⟨.strct [(0, 23), (1, 3), (2, 3)], 3, 40, some (.pair (.list (.int .i64)) (.pair (.int .i64) (.pair (.int .i64) .unit))), [.slice none 0 0, .int .i64 0, .int .i64 0], false⟩ := ⟨⟨infoOf (Tryd.prog.info? 71), by kernel_rfl, by kernel_rfl, by kernel_rfl, .agg #[.slice none 0 0, .int .i64 0, .int .i64 0], by kernel_rfl, by kernel_rfl⟩, ⟨fieldsOf (Tryd.prog.underlying 71), by kernel_rfl, by kernel_rfl⟩, no_eq⟩
theorem ty78 : TIOk Tryd.prog 78 ⟨.arr 9 4, 9, 9, none, [.bool false, .bool false, .bool false, .bool false, .bool false, .bool false, .bool false, .bool false, .bool false], false⟩ := ⟨⟨infoOf (Tryd.prog.info? 78), by kernel_rfl, by kernel_rfl, by kernel_rfl, .agg #[.bool false, .bool false, .bool false, .bool false, .bool false, .bool false, .bool false, .bool false, .bool false], by kernel_rfl, by kernel_rfl⟩, (by kernel_rfl : Tryd.prog.underlying 78 = some (.array 9 4)), no_eq⟩
theorem ty79 : TIOk Tryd.prog 79 ⟨.scalar, 1, 8, none, [.pointer none], false⟩ := ⟨⟨infoOf (Tryd.prog.info? 79), by kernel_rfl, by kernel_rfl, by kernel_rfl, .pointer none, by kernel_rfl, by kernel_rfl⟩, ⟨descOf (Tryd.prog.underlying 79), by kernel_rfl, by kernel_rfl⟩, no_eq⟩
theorem ty81 : TIOk Tryd.prog 81 ⟨.map 5 85, 1, 8, none, [.map none], false⟩ := ⟨⟨infoOf (Tryd.prog.info? 81), by kernel_rfl, by kernel_rfl, by kernel_rfl, .map none, by kernel_rfl, by kernel_rfl⟩, (by kernel_rfl : Tryd.prog.underlying 81 = some (.map 5 85)), no_eq⟩
theorem ty85 : TIOk Tryd.prog 85 ⟨.scalar, 1, 8, none, [.nilFunc], false⟩ := ⟨⟨infoOf (Tryd.prog.info? 85), by kernel_rfl, by kernel_rfl, by kernel_rfl, .nilFunc, by kernel_rfl, by kernel_rfl⟩, ⟨descOf (Tryd.prog.underlying 85), by kernel_rfl, by kernel_rfl⟩, no_eq⟩
theorem ty89 : TIOk Tryd.prog 89 ⟨.strct [(0, 23), (1, 23), (2, 3), (3, 3)], 4, 64, some (.pair (.list (.int .i64)) (.pair (.list (.int .i64)) (.pair (.int .i64) (.pair (.int .i64) .unit)))), [.slice none 0 0, .slice none 0 0, .int .i64 0, .int .i64 0], false⟩ := ⟨⟨infoOf (Tryd.prog.info? 89), by kernel_rfl, by kernel_rfl, by kernel_rfl, .agg #[.slice none 0 0, .slice none 0 0, .int .i64 0, .int .i64 0], by kernel_rfl, by kernel_rfl⟩, ⟨fieldsOf (Tryd.prog.underlying 89), by kernel_rfl, by kernel_rfl⟩, no_eq⟩
theorem ty91 : TIOk Tryd.prog 91 ⟨.strct [(0, 22), (1, 3)], 2, 32, some (.pair (.list (.int .u8)) (.pair (.int .i64) .unit)), [.slice none 0 0, .int .i64 0], false⟩ := ⟨⟨infoOf (Tryd.prog.info? 91), by kernel_rfl, by kernel_rfl, by kernel_rfl, .agg #[.slice none 0 0, .int .i64 0], by kernel_rfl, by kernel_rfl⟩, ⟨fieldsOf (Tryd.prog.underlying 91), by kernel_rfl, by kernel_rfl⟩, no_eq⟩
theorem ty95 : TIOk Tryd.prog 95 ⟨.strct [(0, 59), (7, 59)], 14, 112, none, [.int .i64 0, .int .i64 0, .int .i64 0, .int .i64 0, .int .i64 0, .int .i64 0, .int .i64 0, .int .i64 0, .int .i64 0, .int .i64 0, .int .i64 0, .int .i64 0, .int .i64 0, .int .i64 0], false⟩ := ⟨⟨infoOf (Tryd.prog.info? 95), by kernel_rfl, by kernel_rfl, by kernel_rfl, .agg #[.int .i64 0, .int .i64 0, .int .i64 0, .int .i64 0, .int .i64 0, .int .i64 0, .int .i64 0, .int .i64 0, .int .i64 0, .int .i64 0, .int .i64 0, .int .i64 0, .int .i64 0, .int .i64 0], by kernel_rfl, by kernel_rfl⟩, ⟨fieldsOf (Tryd.prog.underlying 95), by kernel_rfl, by kernel_rfl⟩, no_eq⟩
theorem ty107 : TIOk Tryd.prog 107 ⟨.scalar, 1, 8, none, [.nilFunc], false⟩ := ⟨⟨infoOf (Tryd.prog.info? 107), by kernel_rfl, by kernel_rfl, by kernel_rfl, .nilFunc, by kernel_rfl, by kernel_rfl⟩, ⟨descOf (Tryd.prog.underlying 107), by kernel_rfl, by kernel_rfl⟩, no_eq⟩
theorem ty113 : TIOk Tryd.prog 113 ⟨.int .u64, 1, 8, some (.int .u64), [.int .u64 0], false⟩ := ⟨⟨infoOf (Tryd.prog.info? 113), by kernel_rfl, by kernel_rfl, by kernel_rfl, .int .u64 0, by kernel_rfl, by kernel_rfl⟩, (by kernel_rfl : Tryd.prog.underlying 113 = some (.int .u64)), no_eq⟩
theorem ty119 : TIOk Tryd.prog 119 ⟨.arr 64 5, 64, 64, none, [.int .u8 0, .int .u8 0, .int .u8 0, .int .u8 0, .int .u8 0, .int .u8 0, .int .u8 0, .int .u8 0, .int .u8 0, .int .u8 0, .int .u8 0, .int .u8 0, .int .u8 0, .int .u8 0, .int .u8 0, .int .u8 0, .int .u8 0, .int .u8 0, .int .u8 0, .int .u8 0, .int .u8 0, .int .u8 0, .int .u8 0, .int .u8 0, .int .u8 0, .int .u8 0, .int .u8 0, .int .u8 0, .int .u8 0, .int .u8 0, .int .u8 0, .int .u8 0, .int .u8 0, .int .u8 0, .int .u8 0, .int .u8 0, .int .u8 0, .int .u8 0, .int .u8 0, .int .u8 0, .int .u8 0, .int .u8 0, .int .u8 0, .int .u8 0, .int .u8 0, .int .u8 0, .int .u8 0, .int .u8 0, .int .u8 0, .int .u8 0, .int .u8 0, .int .u8 0, .int .u8 0, .int .u8 0, .int .u8 0, .int .u8 0, .int .u8 0, .int .u8 0, .int .u8 0, .int .u8 0, .int .u8 0, .int .u8 0, .int .u8 0, .int .u8 0], false⟩ := ⟨⟨infoOf (Tryd.prog.info? 119), by kernel_rfl, by kernel_rfl, by kernel_rfl, .agg #[.int .u8 0, .int .u8 0, .int .u8 0, .int .u8 0, .int .u8 0, .int .u8 0, .int .u8 0, .int .u8 0, .int .u8 0, .int .u8 0, .int .u8 0, .int .u8 0, .int .u8 0, .int .u8 0, .int .u8 0, .int .u8 0, .int .u8 0, .int .u8 0, .int .u8 0, .int .u8 0, .int .u8 0, .int .u8 0, .int .u8 0, .int .u8 0, .int .u8 0, .int .u8 0, .int .u8 0, .int .u8 0, .int .u8 0, .int .u8 0, .int .u8 0, .int .u8 0, .int .u8 0, .int .u8 0, .int .u8 0, .int .u8 0, .int .u8 0, .int .u8 0, .int .u8 0, .int .u8 0, .int .u8 0, .int .u8 0, .int .u8 0, .int .u8 0, .int .u8 0, .int .u8 0, .int .u8 0, .int .u8 0, .int .u8 0, .int .u8 0, .int .u8 0, .int .u8 0, .int .u8 0, .int .u8 0, .int .u8 0, .int .u8 0, .int .u8 0, .int .u8 0, .int .u8 0, .int .u8 0, .int .u8 0, .int .u8 0, .int .u8 0, .int .u8 0], by kernel_rfl, by kernel_rfl⟩, (by kernel_rfl : Tryd.prog.underlying 119 = some (.array 64 5)), no_eq⟩
theorem ty121 : TIOk Tryd.prog 121 ⟨.slice 23, 1, 24, some (.list (.list (.int .i64))), [.slice none 0 0], false⟩ := ⟨⟨infoOf (Tryd.prog.info? 121), by kernel_rfl, by kernel_rfl, by kernel_rfl, .slice none 0 0, by kernel_rfl, by kernel_rfl⟩, (by kernel_rfl : Tryd.prog.underlying 121 = some (.slice 23)), no_eq⟩
def tys : List (TypeId × TI) := [(3, ⟨.int .i64, 1, 8, some (.int .i64), [.int .i64 0], false⟩), (4, ⟨.bool, 1, 1, some .bool, [.bool false], false⟩), (5, ⟨.int .u8, 1, 1, some (.int .u8), [.int .u8 0], false⟩), (9, ⟨.str, 1, 16, some .str, [.string ByteArray.empty], false⟩), (22, ⟨.slice 5, 1, 24, some (.list (.int .u8)), [.slice none 0 0], false⟩), (23, ⟨.slice 3, 1, 24, some (.list (.int .i64)), [.slice none 0 0], false⟩), (51, ⟨.int .u64, 1, 8, some (.int .u64), [.int .u64 0], false⟩), (59, ⟨.arr 7 3, 7, 56, none, [.int .i64 0, .int .i64 0, .int .i64 0, .int .i64 0, .int .i64 0, .int .i64 0, .int .i64 0], false⟩), (61, ⟨.strct [(0, 59), (7, 59)], 14, 112, none, [.int .i64 0, .int .i64 0, .int .i64 0, .int .i64 0, .int .i64 0, .int .i64 0, .int .i64 0, .int .i64 0, .int .i64 0, .int .i64 0, .int .i64 0, .int .i64 0, .int .i64 0, .int .i64 0], false⟩), (65, ⟨.strct [(0, 3), (1, 3)], 2, 16, some (.pair (.int .i64) (.pair (.int .i64) .unit)), [.int .i64 0, .int .i64 0], false⟩), (67, ⟨.slice 51, 1, 24, some (.list (.int .u64)), [.slice none 0 0], false⟩), (71, ⟨.strct [(0, 23), (1, 3), (2, 3)], 3, 40, some (.pair (.list (.int .i64)) (.pair (.int .i64) (.pair (.int .i64) .unit))), [.slice none 0 0, .int .i64 0, .int .i64 0], false⟩), (78, ⟨.arr 9 4, 9, 9, none, [.bool false, .bool false, .bool false, .bool false, .bool false, .bool false, .bool false, .bool false, .bool false], false⟩), (79, ⟨.scalar, 1, 8, none, [.pointer none], false⟩), (81, ⟨.map 5 85, 1, 8, none, [.map none], false⟩), (85, ⟨.scalar, 1, 8, none, [.nilFunc], false⟩), (89, ⟨.strct [(0, 23), (1, 23), (2, 3), (3, 3)], 4, 64, some (.pair (.list (.int .i64)) (.pair (.list (.int .i64)) (.pair (.int .i64) (.pair (.int .i64) .unit)))), [.slice none 0 0, .slice none 0 0, .int .i64 0, .int .i64 0], false⟩), (91, ⟨.strct [(0, 22), (1, 3)], 2, 32, some (.pair (.list (.int .u8)) (.pair (.int .i64) .unit)), [.slice none 0 0, .int .i64 0], false⟩), (95, ⟨.strct [(0, 59), (7, 59)], 14, 112, none, [.int .i64 0, .int .i64 0, .int .i64 0, .int .i64 0, .int .i64 0, .int .i64 0, .int .i64 0, .int .i64 0, .int .i64 0, .int .i64 0, .int .i64 0, .int .i64 0, .int .i64 0, .int .i64 0], false⟩), (107, ⟨.scalar, 1, 8, none, [.nilFunc], false⟩), (113, ⟨.int .u64, 1, 8, some (.int .u64), [.int .u64 0], false⟩), (119, ⟨.arr 64 5, 64, 64, none, [.int .u8 0, .int .u8 0, .int .u8 0, .int .u8 0, .int .u8 0, .int .u8 0, .int .u8 0, .int .u8 0, .int .u8 0, .int .u8 0, .int .u8 0, .int .u8 0, .int .u8 0, .int .u8 0, .int .u8 0, .int .u8 0, .int .u8 0, .int .u8 0, .int .u8 0, .int .u8 0, .int .u8 0, .int .u8 0, .int .u8 0, .int .u8 0, .int .u8 0, .int .u8 0, .int .u8 0, .int .u8 0, .int .u8 0, .int .u8 0, .int .u8 0, .int .u8 0, .int .u8 0, .int .u8 0, .int .u8 0, .int .u8 0, .int .u8 0, .int .u8 0, .int .u8 0, .int .u8 0, .int .u8 0, .int .u8 0, .int .u8 0, .int .u8 0, .int .u8 0, .int .u8 0, .int .u8 0, .int .u8 0, .int .u8 0, .int .u8 0, .int .u8 0, .int .u8 0, .int .u8 0, .int .u8 0, .int .u8 0, .int .u8 0, .int .u8 0, .int .u8 0, .int .u8 0, .int .u8 0, .int .u8 0, .int .u8 0, .int .u8 0, .int .u8 0], false⟩), (121, ⟨.slice 23, 1, 24, some (.list (.list (.int .i64))), [.slice none 0 0], false⟩)]
theorem tys_ok : TOk Tryd.prog (tlook tys) := tok_of (allc ty3 (allc ty4 (allc ty5 (allc ty9 (allc ty22 (allc ty23 (allc ty51 (allc ty59 (allc ty61 (allc ty65 (allc ty67 (allc ty71 (allc ty78 (allc ty79 (allc ty81 (allc ty85 (allc ty89 (allc ty91 (allc ty95 (allc ty107 (allc ty113 (allc ty119 (allc ty121 alln)))))))))))))))))))))))
def ioF (f : FuncId) (i : Nat) : Bool := [(44, 0), (58, 1), (60, 0), (70, 0), (93, 1), (95, 0), (96, 0), (99, 1), (104, 0), (124, 0)].any fun (p : Nat × Nat) => Nat.beq p.1 f && Nat.beq p.2 i


/-! loop.example/headtrees/impl.oneRoot -/

def impl_oneRoot_an : Ann := (.seq (.leaf [0]) (.seq (.leaf [0, 3]) (.seq (.seq (.leaf [0, 3, 6, 7, 8]) (.block (.loop (.seq (.leaf [0, 3, 6, 7, 8, 9]) (.seq (.cond (.leaf [0, 3, 6, 7, 8]) (.leaf [3])) (.seq (.block (.seq (.leaf [0, 3, 5, 6, 7, 8]) (.seq (.seq (.leaf [0, 3, 5, 6, 7, 8, 19]) (.cond (.seq (.leaf [2]) (.leaf [2])) (.leaf [0, 3, 5, 6, 7, 8]))) (.seq (.leaf [0, 3, 6, 7, 8, 21]) (.cond (.leaf [0, 3, 6, 7, 8]) (.leaf [0, 3, 6, 7, 8])))))) (.leaf [0, 3, 6, 7, 8]))))))) (.seq (.leaf [2]) (.leaf [2])))))

noncomputable def impl_oneRoot_ctx : Ctx := ⟨tlook tys, olook [], ioF, 0, false, []⟩

theorem impl_oneRoot_n1_l (x840 : List Int) : Link impl_oneRoot_ctx LL (Code.seq (cq [0] (bodyOf Tryd.f72)) (cq [0,1] (bodyOf Tryd.f72))) (Ann.seq (aq [0] impl_oneRoot_an) (aq [0,1] impl_oneRoot_an)) ⟨mkE 27 0 [(0, dL x840)], []⟩ (impl_oneRoot_n1) (fun (t : Unit) => (Exit.normal, ⟨mkE 27 0 [(0, dL x840), (3, dI 0)], []⟩)) := by
  refine Link.of fun K h => ?_
  simp only [impl_oneRoot_n1, wpO_bind, wpO_cond, wpO_map, wpO_some] at h
  exact Awp.of (by kernel_rfl) h

theorem impl_oneRoot_n2_l (x840 : List Int) : Link impl_oneRoot_ctx LL (cq [0,0,1,1] (bodyOf Tryd.f72)) (aq [0,0,1,1] impl_oneRoot_an) ⟨mkE 27 0 [(0, dL x840), (3, dI 0)], []⟩ (impl_oneRoot_n2 x840) (fun (t : Int) => (Exit.normal, ⟨mkE 27 0 [(0, dL x840), (3, dI 0), (6, dL x840), (7, dI t), (8, dI 0)], []⟩)) := by
  refine Link.of fun K h => ?_
  simp only [impl_oneRoot_n2, wpO_bind, wpO_cond, wpO_map, wpO_some] at h
  exact Awp.of (by kernel_rfl) h

theorem impl_oneRoot_n3_l (x840 : List Int) (x862 : Int) (x841 : Int) (x863 : Int) : Link impl_oneRoot_ctx LL (cq [0,0,1,0,1,1] (bodyOf Tryd.f72)) (aq [0,0,1,0,1,1] impl_oneRoot_an) ⟨mkE 27 0 [(0, dL x840), (3, dI x862), (6, dL x840), (7, dI x841), (8, dI x863)], []⟩ (impl_oneRoot_n3 x840 x862 x841 x863) (Sum.elim (fun (t : Int × Int) => (Exit.normal, ⟨mkE 27 0 [(0, dL x840), (3, dI t.1), (6, dL x840), (7, dI x841), (8, dI t.2)], []⟩)) (Sum.elim (fun (t : Bool) => (Exit.ret, ⟨mkE 27 0 [(2, dB t)], []⟩)) (fun (t : Int) => ((Exit.exit 0), ⟨mkE 27 0 [(3, dI t)], []⟩)))) := by
  refine Link.of fun K h => ?_
  simp only [impl_oneRoot_n3, wpO_bind, wpO_cond, wpO_map, wpO_some] at h
  exact Awp.of (by kernel_rfl) h

def impl_oneRoot_n4_l (x840 : List Int) (x841 : Int) := (link_loop (mk := fun (s : Int × Int) => ⟨mkE 27 0 [(0, dL x840), (3, dI s.1), (6, dL x840), (7, dI x841), (8, dI s.2)], []⟩) (fin := (Sum.elim (fun (t : Bool) => (Exit.ret, ⟨mkE 27 0 [(2, dB t)], []⟩)) (fun (t : Int) => ((Exit.exit 0), ⟨mkE 27 0 [(3, dI t)], []⟩)))) (by
  rintro (t | t) f K h
  · exact h
  · exact h) (fun s => link_map (impl_oneRoot_n3_l x840 s.1 x841 s.2) (Sum.elim (fun (t : Int × Int) => Sum.inl (t.1, t.2)) (Sum.elim (fun (t : Bool) => Sum.inr (Sum.inl t)) (fun (t : Int) => Sum.inr (Sum.inr t)))) (by
  rintro (t | t | t)
  · kernel_rfl
  · kernel_rfl
  · kernel_rfl)) (0, 0))

def impl_oneRoot_n5_l (x840 : List Int) (x841 : Int) := (link_block (fin2 := (Sum.elim (fun (t : Int) => (Exit.normal, ⟨mkE 27 0 [(3, dI t)], []⟩)) (fun (t : Bool) => (Exit.ret, ⟨mkE 27 0 [(2, dB t)], []⟩)))) (id := 0) (impl_oneRoot_n4_l x840 x841) (Sum.elim (fun (t : Bool) => (Sum.inr t)) (fun (t : Int) => (Sum.inl t))) (by
  rintro (t | t) K h
  · exact Eq.mp (by kernel_rfl) h
  · exact Eq.mp (by kernel_rfl) h))

def impl_oneRoot_n6_l (x840 : List Int) := (link_seq (impl_oneRoot_n2_l x840) (fun (t : Int) => (impl_oneRoot_n5_l x840 t)))

theorem impl_oneRoot_n7_l (x862 : Int) : Link impl_oneRoot_ctx LL (cq [1,1,1] (bodyOf Tryd.f72)) (aq [1,1,1] impl_oneRoot_an) ⟨mkE 27 0 [(3, dI x862)], []⟩ (impl_oneRoot_n7 x862) (fun (t : Bool) => (Exit.ret, ⟨mkE 27 0 [(2, dB t)], []⟩)) := by
  refine Link.of fun K h => ?_
  simp only [impl_oneRoot_n7, wpO_bind, wpO_cond, wpO_map, wpO_some] at h
  exact Awp.of (by kernel_rfl) h

def impl_oneRoot_n8_l (x840 : List Int) := (link_seq2 (impl_oneRoot_n6_l x840) (fun (t : Int) => (impl_oneRoot_n7_l t)) (fun (t : Bool) => t) (by
  rintro t
  · kernel_rfl) (by
  rintro t f K h
  · exact h))

def impl_oneRoot_n9_l (x840 : List Int) := (link_group (c := (cq [0,1] (bodyOf Tryd.f72))) (a := (aq [0,1] impl_oneRoot_an)) [(cq [0] (bodyOf Tryd.f72))] [(aq [0] impl_oneRoot_an)] rfl (link_seq (impl_oneRoot_n1_l x840) (fun (t : Unit) => (impl_oneRoot_n8_l x840))))

theorem impl_oneRoot_e (x840 : List Int) {r : AV} {H' : Heap} (h : (Ans.mk _ (impl_oneRoot x840) (fun (t : Bool) => (dB t, [])) [] none).run = some (r, H')) : Awp impl_oneRoot_ctx LL (bodyOf Tryd.f72) impl_oneRoot_an ⟨mkE 27 0 [(0, dL x840)], []⟩ (Ret (tlook tys) Tryd.f72.results.toList r H') :=
  ret_of' (Link.cast (by kernel_rfl) (by kernel_rfl) (impl_oneRoot_n9_l x840)) (by unfold impl_oneRoot; kernel_rfl) (by
  intro t
  exact ret_mk [dB t] (by kernel_rfl) (by kernel_rfl) (by kernel_rfl) (by kernel_rfl)) h

def F_impl_oneRoot : Fun := fun avs H =>
  match avs, H with
  | [.dat (.list (.int .i64)) x840], [] => ⟨_, impl_oneRoot x840, fun (t : Bool) => (dB t, []), [], none⟩
  | _, _ => Ans.no

theorem impl_oneRoot_sound : Sound Tryd.prog 72 F_impl_oneRoot := by
  refine fn_sound' (C := impl_oneRoot_ctx) (c := bodyOf Tryd.f72) (cok_of tys_ok (alln) (alln) (by kernel_rfl)) Tryd.func72 (by kernel_rfl) LL impl_oneRoot_an ?_
  intro avs H r H' h
  unfold F_impl_oneRoot at h
  split at h
  · refine Awp.cast ?_ ?_ ?_ (impl_oneRoot_e _ h) <;> kernel_rfl
  · simp [Ans.no, Ans.run] at h


/-! (*loop.example/headtrees/impl.walker).up -/

def impl_walker_up_an : Ann := (.seq (.leaf [0]) (.seq (.draw [] [0, 1, 2, 3, 4, 5, 6, 7, 8, 9, 10, 11] [] [0, 3]) (.seq (.seq (.leaf [0, 3, 16]) (.cond (.seq (.leaf [2]) (.leaf [2])) (.leaf [0, 3]))) (.seq (.leaf [0]) (.seq (.leaf []) (.seq (.leaf [2]) (.leaf [2])))))))

noncomputable def impl_walker_up_ctx : Ctx := ⟨tlook tys, olook [], ioF, 1, false, []⟩

theorem impl_walker_up_n1_l (x896 : List Int) (x897 : Int) (x898 : Int) : Link impl_walker_up_ctx LL (bodyOf Tryd.f64) impl_walker_up_an ⟨mkE 28 0 [(0, .ptr 0 0)], [some (.box [dL x896, dI x897, dI x898])]⟩ (impl_walker_up_n1 x896 x897 x898) (fun (t : Bool × Int × Int) => (Exit.ret, ⟨mkE 28 0 [(2, dB t.1)], [some (.box [dL x896, dI t.2.1, dI t.2.2])]⟩)) := by
  refine Link.of fun K h => ?_
  simp only [impl_walker_up_n1, wpO_bind, wpO_cond, wpO_map, wpO_some] at h
  exact Awp.of (by kernel_rfl) h

theorem impl_walker_up_e (x896 : List Int) (x897 : Int) (x898 : Int) {r : AV} {H' : Heap} (h : (Ans.mk _ (impl_walker_up x896 x897 x898) (fun (t : Bool × Int × Int) => (dB t.1, [some (.box [dL x896, dI t.2.1, dI t.2.2])])) [] none).run = some (r, H')) : Awp impl_walker_up_ctx LL (bodyOf Tryd.f64) impl_walker_up_an ⟨mkE 28 0 [(0, .ptr 0 0)], [some (.box [dL x896, dI x897, dI x898])]⟩ (Ret (tlook tys) Tryd.f64.results.toList r H') :=
  ret_of' (impl_walker_up_n1_l x896 x897 x898) (by unfold impl_walker_up; kernel_rfl) (by
  intro t
  exact ret_mk [dB t.1] (by kernel_rfl) (by kernel_rfl) (by kernel_rfl) (by kernel_rfl)) h

def F_impl_walker_up : Fun := fun avs H =>
  match avs, H with
  | [.ptr 0 0], [some (.box [.dat (.list (.int .i64)) x896, .dat (.int .i64) x897, .dat (.int .i64) x898])] => ⟨_, impl_walker_up x896 x897 x898, fun (t : Bool × Int × Int) => (dB t.1, [some (.box [dL x896, dI t.2.1, dI t.2.2])]), [], none⟩
  | _, _ => Ans.no

theorem impl_walker_up_sound : Sound Tryd.prog 64 F_impl_walker_up := by
  refine fn_sound' (C := impl_walker_up_ctx) (c := bodyOf Tryd.f64) (cok_of tys_ok (alln) (alln) (by kernel_rfl)) Tryd.func64 (by kernel_rfl) LL impl_walker_up_an ?_
  intro avs H r H' h
  unfold F_impl_walker_up at h
  split at h
  · refine Awp.cast ?_ ?_ ?_ (impl_walker_up_e _ _ _ h) <;> kernel_rfl
  · simp [Ans.no, Ans.run] at h


/-! loop.example/headtrees/impl.stepsToRoot -/

def impl_stepsToRoot_an : Ann := (.seq (.leaf [0, 1]) (.seq (.leaf [0, 6]) (.seq (.block (.loop (.seq (.seq (.leaf [0, 6, 10]) (.cond (.leaf [0, 6]) (.leaf [6]))) (.block (.seq (.leaf [0, 6, 15]) (.cond (.seq (.leaf [4, 5]) (.leaf [4, 5])) (.leaf [0, 6]))))))) (.seq (.leaf [4, 5]) (.leaf [4, 5])))))

noncomputable def impl_stepsToRoot_ctx : Ctx := ⟨tlook tys, olook [(64, F_impl_walker_up)], ioF, 0, false, []⟩

theorem impl_stepsToRoot_n1_l (x894 : List Int) (x895 : Int) : Link impl_stepsToRoot_ctx LL (Code.seq (cq [0] (bodyOf Tryd.f73)) (cq [0,1] (bodyOf Tryd.f73))) (Ann.seq (aq [0] impl_stepsToRoot_an) (aq [0,1] impl_stepsToRoot_an)) ⟨mkE 18 0 [(0, dL x894), (1, dI x895)], []⟩ (impl_stepsToRoot_n1) (fun (t : Unit) => (Exit.normal, ⟨mkE 18 0 [(0, dL x894), (6, .ptr 0 0)], [some (.box [dL x894, dI x895, dI 0])]⟩)) := by
  refine Link.of fun K h => ?_
  simp only [impl_stepsToRoot_n1, wpO_bind, wpO_cond, wpO_map, wpO_some] at h
  exact Awp.of (by kernel_rfl) h

theorem impl_stepsToRoot_n2_l (x894 : List Int) (x932 : Int) (x933 : Int) : Link impl_stepsToRoot_ctx LL (cq [0,0,0,1,1] (bodyOf Tryd.f73)) (aq [0,0,0,1,1] impl_stepsToRoot_an) ⟨mkE 18 0 [(0, dL x894), (6, .ptr 0 0)], [some (.box [dL x894, dI x932, dI x933])]⟩ (impl_stepsToRoot_n2 x894 x932 x933) (Sum.elim (fun (t : Int × Int) => (Exit.normal, ⟨mkE 18 0 [(0, dL x894), (6, .ptr 0 0)], [some (.box [dL x894, dI t.1, dI t.2])]⟩)) (Sum.elim (fun (t : Int × Bool) => (Exit.ret, ⟨mkE 18 0 [(4, dI t.1), (5, dB t.2)], []⟩)) (fun (t : Int × Int) => ((Exit.exit 0), ⟨mkE 18 0 [(6, .ptr 0 0)], [some (.box [dL x894, dI t.1, dI t.2])]⟩)))) := by
  refine Link.of fun K h => ?_
  simp only [impl_stepsToRoot_n2, wpO_bind, wpO_cond, wpO_map, wpO_some] at h
  exact Awp.of (by kernel_rfl) h

def impl_stepsToRoot_n3_l (x894 : List Int) (x895 : Int) := (link_loop (mk := fun (s : Int × Int) => ⟨mkE 18 0 [(0, dL x894), (6, .ptr 0 0)], [some (.box [dL x894, dI s.1, dI s.2])]⟩) (fin := (Sum.elim (fun (t : Int × Bool) => (Exit.ret, ⟨mkE 18 0 [(4, dI t.1), (5, dB t.2)], []⟩)) (fun (t : Int × Int) => ((Exit.exit 0), ⟨mkE 18 0 [(6, .ptr 0 0)], [some (.box [dL x894, dI t.1, dI t.2])]⟩)))) (by
  rintro (t | t) f K h
  · exact h
  · exact h) (fun s => link_map (impl_stepsToRoot_n2_l x894 s.1 s.2) (Sum.elim (fun (t : Int × Int) => Sum.inl (t.1, t.2)) (Sum.elim (fun (t : Int × Bool) => Sum.inr (Sum.inl t)) (fun (t : Int × Int) => Sum.inr (Sum.inr t)))) (by
  rintro (t | t | t)
  · kernel_rfl
  · kernel_rfl
  · kernel_rfl)) (x895, 0))

def impl_stepsToRoot_n4_l (x894 : List Int) (x895 : Int) := (link_block (fin2 := (Sum.elim (fun (t : Int × Int) => (Exit.normal, ⟨mkE 18 0 [(6, .ptr 0 0)], [some (.box [dL x894, dI t.1, dI t.2])]⟩)) (fun (t : Int × Bool) => (Exit.ret, ⟨mkE 18 0 [(4, dI t.1), (5, dB t.2)], []⟩)))) (id := 0) (impl_stepsToRoot_n3_l x894 x895) (Sum.elim (fun (t : Int × Bool) => (Sum.inr t)) (fun (t : Int × Int) => (Sum.inl (t.1, t.2)))) (by
  rintro (t | t) K h
  · exact Eq.mp (by kernel_rfl) h
  · exact Eq.mp (by kernel_rfl) h))

theorem impl_stepsToRoot_n5_l (x894 : List Int) (x940 : Int) (x941 : Int) : Link impl_stepsToRoot_ctx LL (cq [1,1,1] (bodyOf Tryd.f73)) (aq [1,1,1] impl_stepsToRoot_an) ⟨mkE 18 0 [(6, .ptr 0 0)], [some (.box [dL x894, dI x940, dI x941])]⟩ (impl_stepsToRoot_n5 x941) (fun (t : Int × Bool) => (Exit.ret, ⟨mkE 18 0 [(4, dI t.1), (5, dB t.2)], []⟩)) := by
  refine Link.of fun K h => ?_
  simp only [impl_stepsToRoot_n5, wpO_bind, wpO_cond, wpO_map, wpO_some] at h
  exact Awp.of (by kernel_rfl) h

def impl_stepsToRoot_n6_l (x894 : List Int) (x895 : Int) := (link_seq2 (impl_stepsToRoot_n4_l x894 x895) (fun (t : Int × Int) => (impl_stepsToRoot_n5_l x894 t.1 t.2)) (fun (t : Int × Bool) => t) (by
  rintro t
  · kernel_rfl) (by
  rintro t f K h
  · exact h))

def impl_stepsToRoot_n7_l (x894 : List Int) (x895 : Int) := (link_group (c := (cq [0,1] (bodyOf Tryd.f73))) (a := (aq [0,1] impl_stepsToRoot_an)) [(cq [0] (bodyOf Tryd.f73))] [(aq [0] impl_stepsToRoot_an)] rfl (link_seq (impl_stepsToRoot_n1_l x894 x895) (fun (t : Unit) => (impl_stepsToRoot_n6_l x894 x895))))

theorem impl_stepsToRoot_e (x894 : List Int) (x895 : Int) {r : AV} {H' : Heap} (h : (Ans.mk _ (impl_stepsToRoot x894 x895) (fun (t : Int × Bool) => (.tup [dI t.1, dB t.2], [])) [] none).run = some (r, H')) : Awp impl_stepsToRoot_ctx LL (bodyOf Tryd.f73) impl_stepsToRoot_an ⟨mkE 18 0 [(0, dL x894), (1, dI x895)], []⟩ (Ret (tlook tys) Tryd.f73.results.toList r H') :=
  ret_of' (Link.cast (by kernel_rfl) (by kernel_rfl) (impl_stepsToRoot_n7_l x894 x895)) (by unfold impl_stepsToRoot; kernel_rfl) (by
  intro t
  exact ret_mk [dI t.1, dB t.2] (by kernel_rfl) (by kernel_rfl) (by kernel_rfl) (by kernel_rfl)) h

def F_impl_stepsToRoot : Fun := fun avs H =>
  match avs, H with
  | [.dat (.list (.int .i64)) x894, .dat (.int .i64) x895], [] => ⟨_, impl_stepsToRoot x894 x895, fun (t : Int × Bool) => (.tup [dI t.1, dB t.2], []), [], none⟩
  | _, _ => Ans.no

theorem impl_stepsToRoot_sound : Sound Tryd.prog 73 F_impl_stepsToRoot := by
  refine fn_sound' (C := impl_stepsToRoot_ctx) (c := bodyOf Tryd.f73) (cok_of tys_ok (allc impl_walker_up_sound alln) (allc Tryd.call64 alln) (by kernel_rfl)) Tryd.func73 (by kernel_rfl) LL impl_stepsToRoot_an ?_
  intro avs H r H' h
  unfold F_impl_stepsToRoot at h
  split at h
  · refine Awp.cast ?_ ?_ ?_ (impl_stepsToRoot_e _ _ h) <;> kernel_rfl
  · simp [Ans.no, Ans.run] at h


/-! loop.example/headtrees/impl.TreeOk -/

def impl_TreeOk_an : Ann := (.seq (.leaf [0]) (.seq (.seq (.leaf [0, 18]) (.cond (.seq (.leaf [2]) (.leaf [2])) (.leaf [0]))) (.seq (.seq (.leaf [0, 20, 21]) (.block (.loop (.seq (.leaf [0, 20, 21, 22]) (.seq (.cond (.leaf [0, 20, 21]) (.leaf [])) (.seq (.block (.seq (.leaf [0, 3, 20, 21]) (.seq (.leaf [0, 5, 20, 21]) (.seq (.leaf [0, 20, 21, 32]) (.cond (.seq (.leaf [2]) (.leaf [2])) (.leaf [0, 20, 21])))))) (.leaf [0, 20, 21]))))))) (.seq (.leaf [2]) (.leaf [2])))))

noncomputable def impl_TreeOk_ctx : Ctx := ⟨tlook tys, olook [(72, F_impl_oneRoot), (73, F_impl_stepsToRoot)], ioF, 0, false, []⟩

theorem impl_TreeOk_n1_l (x834 : List Int) : Link impl_TreeOk_ctx LL (Code.seq (cq [0] (bodyOf Tryd.f31)) (cq [0,1] (bodyOf Tryd.f31))) (Ann.seq (aq [0] impl_TreeOk_an) (aq [0,1] impl_TreeOk_an)) ⟨mkE 34 0 [(0, dL x834)], []⟩ (impl_TreeOk_n1 x834) (Sum.elim (fun (t : Unit) => (Exit.normal, ⟨mkE 34 0 [(0, dL x834)], []⟩)) (fun (t : Bool) => (Exit.ret, ⟨mkE 34 0 [(2, dB t)], []⟩))) := by
  refine Link.of fun K h => ?_
  simp only [impl_TreeOk_n1, wpO_bind, wpO_cond, wpO_map, wpO_some] at h
  exact Awp.of (by kernel_rfl) h

theorem impl_TreeOk_n2_l (x834 : List Int) : Link impl_TreeOk_ctx LL (cq [0,0,1,1] (bodyOf Tryd.f31)) (aq [0,0,1,1] impl_TreeOk_an) ⟨mkE 34 0 [(0, dL x834)], []⟩ (impl_TreeOk_n2 x834) (fun (t : Int) => (Exit.normal, ⟨mkE 34 0 [(0, dL x834), (20, dI t), (21, dI 0)], []⟩)) := by
  refine Link.of fun K h => ?_
  simp only [impl_TreeOk_n2, wpO_bind, wpO_cond, wpO_map, wpO_some] at h
  exact Awp.of (by kernel_rfl) h

theorem impl_TreeOk_n3_l (x834 : List Int) (x889 : Int) (x957 : Int) : Link impl_TreeOk_ctx LL (cq [0,0,1,0,1,1] (bodyOf Tryd.f31)) (aq [0,0,1,0,1,1] impl_TreeOk_an) ⟨mkE 34 0 [(0, dL x834), (20, dI x889), (21, dI x957)], []⟩ (impl_TreeOk_n3 x834 x889 x957) (Sum.elim (fun (t : Int) => (Exit.normal, ⟨mkE 34 0 [(0, dL x834), (20, dI x889), (21, dI t)], []⟩)) (Sum.elim (fun (t : Bool) => (Exit.ret, ⟨mkE 34 0 [(2, dB t)], []⟩)) (fun (t : Unit) => ((Exit.exit 0), ⟨mkE 34 0 [], []⟩)))) := by
  refine Link.of fun K h => ?_
  simp only [impl_TreeOk_n3, wpO_bind, wpO_cond, wpO_map, wpO_some] at h
  exact Awp.of (by kernel_rfl) h

def impl_TreeOk_n4_l (x834 : List Int) (x889 : Int) := (link_loop (mk := fun (s : Int) => ⟨mkE 34 0 [(0, dL x834), (20, dI x889), (21, dI s)], []⟩) (fin := (Sum.elim (fun (t : Bool) => (Exit.ret, ⟨mkE 34 0 [(2, dB t)], []⟩)) (fun (t : Unit) => ((Exit.exit 0), ⟨mkE 34 0 [], []⟩)))) (by
  rintro (t | t) f K h
  · exact h
  · exact h) (fun s => link_map (impl_TreeOk_n3_l x834 x889 s) (Sum.elim (fun (t : Int) => Sum.inl t) (Sum.elim (fun (t : Bool) => Sum.inr (Sum.inl t)) (fun (t : Unit) => Sum.inr (Sum.inr t)))) (by
  rintro (t | t | t)
  · kernel_rfl
  · kernel_rfl
  · kernel_rfl)) 0)

def impl_TreeOk_n5_l (x834 : List Int) (x889 : Int) := (link_block (fin2 := (Sum.elim (fun (t : Unit) => (Exit.normal, ⟨mkE 34 0 [], []⟩)) (fun (t : Bool) => (Exit.ret, ⟨mkE 34 0 [(2, dB t)], []⟩)))) (id := 0) (impl_TreeOk_n4_l x834 x889) (Sum.elim (fun (t : Bool) => (Sum.inr t)) (fun (t : Unit) => (Sum.inl ()))) (by
  rintro (t | t) K h
  · exact Eq.mp (by kernel_rfl) h
  · exact Eq.mp (by kernel_rfl) h))

def impl_TreeOk_n6_l (x834 : List Int) := (link_seq (impl_TreeOk_n2_l x834) (fun (t : Int) => (impl_TreeOk_n5_l x834 t)))

theorem impl_TreeOk_n7_l : Link impl_TreeOk_ctx LL (cq [1,1,1] (bodyOf Tryd.f31)) (aq [1,1,1] impl_TreeOk_an) ⟨mkE 34 0 [], []⟩ (impl_TreeOk_n7) (fun (t : Bool) => (Exit.ret, ⟨mkE 34 0 [(2, dB t)], []⟩)) := by
  refine Link.of fun K h => ?_
  simp only [impl_TreeOk_n7, wpO_bind, wpO_cond, wpO_map, wpO_some] at h
  exact Awp.of (by kernel_rfl) h

def impl_TreeOk_n8_l (x834 : List Int) := (link_seq2 (impl_TreeOk_n6_l x834) (fun (t : Unit) => (impl_TreeOk_n7_l)) (fun (t : Bool) => t) (by
  rintro t
  · kernel_rfl) (by
  rintro t f K h
  · exact h))

def impl_TreeOk_n9_l (x834 : List Int) := (link_group (c := (cq [0,1] (bodyOf Tryd.f31))) (a := (aq [0,1] impl_TreeOk_an)) [(cq [0] (bodyOf Tryd.f31))] [(aq [0] impl_TreeOk_an)] rfl (link_seq2 (impl_TreeOk_n1_l x834) (fun (t : Unit) => (impl_TreeOk_n8_l x834)) (fun (t : Bool) => t) (by
  rintro t
  · kernel_rfl) (by
  rintro t f K h
  · exact h)))

theorem impl_TreeOk_e (x834 : List Int) {r : AV} {H' : Heap} (h : (Ans.mk _ (impl_TreeOk x834) (fun (t : Bool) => (dB t, [])) [] none).run = some (r, H')) : Awp impl_TreeOk_ctx LL (bodyOf Tryd.f31) impl_TreeOk_an ⟨mkE 34 0 [(0, dL x834)], []⟩ (Ret (tlook tys) Tryd.f31.results.toList r H') :=
  ret_of' (Link.cast (by kernel_rfl) (by kernel_rfl) (impl_TreeOk_n9_l x834)) (by unfold impl_TreeOk; kernel_rfl) (by
  intro t
  exact ret_mk [dB t] (by kernel_rfl) (by kernel_rfl) (by kernel_rfl) (by kernel_rfl)) h

def F_impl_TreeOk : Fun := fun avs H =>
  match avs, H with
  | [.dat (.list (.int .i64)) x834], [] => ⟨_, impl_TreeOk x834, fun (t : Bool) => (dB t, []), [], none⟩
  | _, _ => Ans.no

theorem impl_TreeOk_sound : Sound Tryd.prog 31 F_impl_TreeOk := by
  refine fn_sound' (C := impl_TreeOk_ctx) (c := bodyOf Tryd.f31) (cok_of tys_ok (allc impl_oneRoot_sound (allc impl_stepsToRoot_sound alln)) (allc Tryd.call72 (allc Tryd.call73 alln)) (by kernel_rfl)) Tryd.func31 (by kernel_rfl) LL impl_TreeOk_an ?_
  intro avs H r H' h
  unfold F_impl_TreeOk at h
  split at h
  · refine Awp.cast ?_ ?_ ?_ (impl_TreeOk_e _ h) <;> kernel_rfl
  · simp [Ans.no, Ans.run] at h


/-! loop.example/headtrees/impl.only -/

def impl_only_an : Ann := (.seq (.leaf [0]) (.seq (.leaf [2]) (.leaf [2])))

noncomputable def impl_only_ctx : Ctx := ⟨tlook tys, olook [], ioF, 0, false, []⟩

theorem impl_only_n1_l (x998 : Int) : Link impl_only_ctx LL (bodyOf Tryd.f87) impl_only_an ⟨mkE 6 0 [(0, dI x998)], []⟩ (impl_only_n1 x998) (fun (t : Int) => (Exit.ret, ⟨mkE 6 0 [(2, dW t)], []⟩)) := by
  refine Link.of fun K h => ?_
  simp only [impl_only_n1, wpO_bind, wpO_cond, wpO_map, wpO_some] at h
  exact Awp.of (by kernel_rfl) h

theorem impl_only_e (x998 : Int) {r : AV} {H' : Heap} (h : (Ans.mk _ (impl_only x998) (fun (t : Int) => (dW t, [])) [] none).run = some (r, H')) : Awp impl_only_ctx LL (bodyOf Tryd.f87) impl_only_an ⟨mkE 6 0 [(0, dI x998)], []⟩ (Ret (tlook tys) Tryd.f87.results.toList r H') :=
  ret_of' (impl_only_n1_l x998) (by unfold impl_only; kernel_rfl) (by
  intro t
  exact ret_mk [dW t] (by kernel_rfl) (by kernel_rfl) (by kernel_rfl) (by kernel_rfl)) h

def F_impl_only : Fun := fun avs H =>
  match avs, H with
  | [.dat (.int .i64) x998], [] => ⟨_, impl_only x998, fun (t : Int) => (dW t, []), [], none⟩
  | _, _ => Ans.no

theorem impl_only_sound : Sound Tryd.prog 87 F_impl_only := by
  refine fn_sound' (C := impl_only_ctx) (c := bodyOf Tryd.f87) (cok_of tys_ok (alln) (alln) (by kernel_rfl)) Tryd.func87 (by kernel_rfl) LL impl_only_an ?_
  intro avs H r H' h
  unfold F_impl_only at h
  split at h
  · refine Awp.cast ?_ ?_ ?_ (impl_only_e _ h) <;> kernel_rfl
  · simp [Ans.no, Ans.run] at h


/-! loop.example/headtrees/impl.dependents -/

def impl_dependents_an : Ann := (.seq (.leaf [0, 1]) (.seq (.leaf [0, 1, 5]) (.seq (.seq (.leaf [0, 1, 5, 8, 9]) (.block (.loop (.seq (.leaf [0, 1, 5, 8, 9, 10]) (.seq (.cond (.leaf [0, 1, 5, 8, 9]) (.leaf [5])) (.seq (.block (.seq (.leaf [0, 1, 5, 6, 8, 9]) (.seq (.leaf [0, 1, 5, 6, 8, 9, 17]) (.cond (.leaf [0, 1, 5, 8, 9]) (.leaf [0, 1, 5, 8, 9]))))) (.leaf [0, 1, 5, 8, 9]))))))) (.seq (.leaf [4]) (.leaf [4])))))

noncomputable def impl_dependents_ctx : Ctx := ⟨tlook tys, olook [(87, F_impl_only)], ioF, 0, false, []⟩

theorem impl_dependents_n1_l (x989 : List Int) (x990 : Int) : Link impl_dependents_ctx LL (Code.seq (cq [0] (bodyOf Tryd.f53)) (cq [0,1] (bodyOf Tryd.f53))) (Ann.seq (aq [0] impl_dependents_an) (aq [0,1] impl_dependents_an)) ⟨mkE 25 0 [(0, dL x989), (1, dI x990)], []⟩ (impl_dependents_n1) (fun (t : Unit) => (Exit.normal, ⟨mkE 25 0 [(0, dL x989), (1, dI x990), (5, dW 0)], []⟩)) := by
  refine Link.of fun K h => ?_
  simp only [impl_dependents_n1, wpO_bind, wpO_cond, wpO_map, wpO_some] at h
  exact Awp.of (by kernel_rfl) h

theorem impl_dependents_n2_l (x989 : List Int) (x990 : Int) : Link impl_dependents_ctx LL (cq [0,0,1,1] (bodyOf Tryd.f53)) (aq [0,0,1,1] impl_dependents_an) ⟨mkE 25 0 [(0, dL x989), (1, dI x990), (5, dW 0)], []⟩ (impl_dependents_n2 x989) (fun (t : Int) => (Exit.normal, ⟨mkE 25 0 [(0, dL x989), (1, dI x990), (5, dW 0), (8, dI t), (9, dI 0)], []⟩)) := by
  refine Link.of fun K h => ?_
  simp only [impl_dependents_n2, wpO_bind, wpO_cond, wpO_map, wpO_some] at h
  exact Awp.of (by kernel_rfl) h

theorem impl_dependents_n3_l (x989 : List Int) (x990 : Int) (x1015 : Int) (x991 : Int) (x1016 : Int) : Link impl_dependents_ctx LL (cq [0,0,1,0,1,1] (bodyOf Tryd.f53)) (aq [0,0,1,0,1,1] impl_dependents_an) ⟨mkE 25 0 [(0, dL x989), (1, dI x990), (5, dW x1015), (8, dI x991), (9, dI x1016)], []⟩ (impl_dependents_n3 x989 x990 x1015 x991 x1016) (Sum.elim (fun (t : Int × Int) => (Exit.normal, ⟨mkE 25 0 [(0, dL x989), (1, dI x990), (5, dW t.1), (8, dI x991), (9, dI t.2)], []⟩)) (fun (t : Int) => ((Exit.exit 0), ⟨mkE 25 0 [(5, dW t)], []⟩))) := by
  refine Link.of fun K h => ?_
  simp only [impl_dependents_n3, wpO_bind, wpO_cond, wpO_map, wpO_some] at h
  exact Awp.of (by kernel_rfl) h

def impl_dependents_n4_l (x989 : List Int) (x990 : Int) (x991 : Int) := (link_loop (mk := fun (s : Int × Int) => ⟨mkE 25 0 [(0, dL x989), (1, dI x990), (5, dW s.1), (8, dI x991), (9, dI s.2)], []⟩) (fin := (fun (t : Int) => ((Exit.exit 0), ⟨mkE 25 0 [(5, dW t)], []⟩))) (by
  rintro t f K h
  · exact h) (fun s => link_map (impl_dependents_n3_l x989 x990 s.1 x991 s.2) (Sum.elim (fun (t : Int × Int) => Sum.inl (t.1, t.2)) (fun (t : Int) => Sum.inr t)) (by
  rintro (t | t)
  · kernel_rfl
  · kernel_rfl)) (0, 0))

def impl_dependents_n5_l (x989 : List Int) (x990 : Int) (x991 : Int) := (link_block (fin2 := (fun (t : Int) => (Exit.normal, ⟨mkE 25 0 [(5, dW t)], []⟩))) (id := 0) (impl_dependents_n4_l x989 x990 x991) (fun (t : Int) => t) (by
  rintro t K h
  · exact Eq.mp (by kernel_rfl) h))

def impl_dependents_n6_l (x989 : List Int) (x990 : Int) := (link_seq (impl_dependents_n2_l x989 x990) (fun (t : Int) => (impl_dependents_n5_l x989 x990 t)))

theorem impl_dependents_n7_l (x1015 : Int) : Link impl_dependents_ctx LL (cq [1,1,1] (bodyOf Tryd.f53)) (aq [1,1,1] impl_dependents_an) ⟨mkE 25 0 [(5, dW x1015)], []⟩ (impl_dependents_n7 x1015) (fun (t : Int) => (Exit.ret, ⟨mkE 25 0 [(4, dW t)], []⟩)) := by
  refine Link.of fun K h => ?_
  simp only [impl_dependents_n7, wpO_bind, wpO_cond, wpO_map, wpO_some] at h
  exact Awp.of (by kernel_rfl) h

def impl_dependents_n8_l (x989 : List Int) (x990 : Int) := (link_seq (impl_dependents_n6_l x989 x990) (fun (t : Int) => (impl_dependents_n7_l t)))

def impl_dependents_n9_l (x989 : List Int) (x990 : Int) := (link_group (c := (cq [0,1] (bodyOf Tryd.f53))) (a := (aq [0,1] impl_dependents_an)) [(cq [0] (bodyOf Tryd.f53))] [(aq [0] impl_dependents_an)] rfl (link_seq (impl_dependents_n1_l x989 x990) (fun (t : Unit) => (impl_dependents_n8_l x989 x990))))

theorem impl_dependents_e (x989 : List Int) (x990 : Int) {r : AV} {H' : Heap} (h : (Ans.mk _ (impl_dependents x989 x990) (fun (t : Int) => (dW t, [])) [] none).run = some (r, H')) : Awp impl_dependents_ctx LL (bodyOf Tryd.f53) impl_dependents_an ⟨mkE 25 0 [(0, dL x989), (1, dI x990)], []⟩ (Ret (tlook tys) Tryd.f53.results.toList r H') :=
  ret_of' (Link.cast (by kernel_rfl) (by kernel_rfl) (impl_dependents_n9_l x989 x990)) (by unfold impl_dependents; kernel_rfl) (by
  intro t
  exact ret_mk [dW t] (by kernel_rfl) (by kernel_rfl) (by kernel_rfl) (by kernel_rfl)) h

def F_impl_dependents : Fun := fun avs H =>
  match avs, H with
  | [.dat (.list (.int .i64)) x989, .dat (.int .i64) x990], [] => ⟨_, impl_dependents x989 x990, fun (t : Int) => (dW t, []), [], none⟩
  | _, _ => Ans.no

theorem impl_dependents_sound : Sound Tryd.prog 53 F_impl_dependents := by
  refine fn_sound' (C := impl_dependents_ctx) (c := bodyOf Tryd.f53) (cok_of tys_ok (allc impl_only_sound alln) (allc Tryd.call87 alln) (by kernel_rfl)) Tryd.func53 (by kernel_rfl) LL impl_dependents_an ?_
  intro avs H r H' h
  unfold F_impl_dependents at h
  split at h
  · refine Awp.cast ?_ ?_ ?_ (impl_dependents_e _ _ h) <;> kernel_rfl
  · simp [Ans.no, Ans.run] at h


/-! loop.example/headtrees/impl.before -/

def impl_before_an : Ann := (.seq (.leaf [0]) (.seq (.leaf [2]) (.leaf [2])))

noncomputable def impl_before_ctx : Ctx := ⟨tlook tys, olook [(87, F_impl_only)], ioF, 0, false, []⟩

theorem impl_before_n1_l (x1037 : Int) : Link impl_before_ctx LL (bodyOf Tryd.f85) impl_before_an ⟨mkE 6 0 [(0, dI x1037)], []⟩ (impl_before_n1 x1037) (fun (t : Int) => (Exit.ret, ⟨mkE 6 0 [(2, dW t)], []⟩)) := by
  refine Link.of fun K h => ?_
  simp only [impl_before_n1, wpO_bind, wpO_cond, wpO_map, wpO_some] at h
  exact Awp.of (by kernel_rfl) h

theorem impl_before_e (x1037 : Int) {r : AV} {H' : Heap} (h : (Ans.mk _ (impl_before x1037) (fun (t : Int) => (dW t, [])) [] none).run = some (r, H')) : Awp impl_before_ctx LL (bodyOf Tryd.f85) impl_before_an ⟨mkE 6 0 [(0, dI x1037)], []⟩ (Ret (tlook tys) Tryd.f85.results.toList r H') :=
  ret_of' (impl_before_n1_l x1037) (by unfold impl_before; kernel_rfl) (by
  intro t
  exact ret_mk [dW t] (by kernel_rfl) (by kernel_rfl) (by kernel_rfl) (by kernel_rfl)) h

def F_impl_before : Fun := fun avs H =>
  match avs, H with
  | [.dat (.int .i64) x1037], [] => ⟨_, impl_before x1037, fun (t : Int) => (dW t, []), [], none⟩
  | _, _ => Ans.no

theorem impl_before_sound : Sound Tryd.prog 85 F_impl_before := by
  refine fn_sound' (C := impl_before_ctx) (c := bodyOf Tryd.f85) (cok_of tys_ok (allc impl_only_sound alln) (allc Tryd.call87 alln) (by kernel_rfl)) Tryd.func85 (by kernel_rfl) LL impl_before_an ?_
  intro avs H r H' h
  unfold F_impl_before at h
  split at h
  · refine Awp.cast ?_ ?_ ?_ (impl_before_e _ h) <;> kernel_rfl
  · simp [Ans.no, Ans.run] at h


/-! loop.example/headtrees/impl.dependentsBeside -/

def impl_dependentsBeside_an : Ann := (.seq (.leaf [0, 1]) (.seq (.leaf [1, 6]) (.seq (.leaf [4, 5]) (.leaf [4, 5]))))

noncomputable def impl_dependentsBeside_ctx : Ctx := ⟨tlook tys, olook [(53, F_impl_dependents), (85, F_impl_before)], ioF, 0, false, []⟩

theorem impl_dependentsBeside_n1_l (x987 : List Int) (x988 : Int) : Link impl_dependentsBeside_ctx LL (bodyOf Tryd.f49) impl_dependentsBeside_an ⟨mkE 18 0 [(0, dL x987), (1, dI x988)], []⟩ (impl_dependentsBeside_n1 x987 x988) (fun (t : Int × Int) => (Exit.ret, ⟨mkE 18 0 [(4, dW t.1), (5, dW t.2)], []⟩)) := by
  refine Link.of fun K h => ?_
  simp only [impl_dependentsBeside_n1, wpO_bind, wpO_cond, wpO_map, wpO_some] at h
  exact Awp.of (by kernel_rfl) h

theorem impl_dependentsBeside_e (x987 : List Int) (x988 : Int) {r : AV} {H' : Heap} (h : (Ans.mk _ (impl_dependentsBeside x987 x988) (fun (t : Int × Int) => (.tup [dW t.1, dW t.2], [])) [] none).run = some (r, H')) : Awp impl_dependentsBeside_ctx LL (bodyOf Tryd.f49) impl_dependentsBeside_an ⟨mkE 18 0 [(0, dL x987), (1, dI x988)], []⟩ (Ret (tlook tys) Tryd.f49.results.toList r H') :=
  ret_of' (impl_dependentsBeside_n1_l x987 x988) (by unfold impl_dependentsBeside; kernel_rfl) (by
  intro t
  exact ret_mk [dW t.1, dW t.2] (by kernel_rfl) (by kernel_rfl) (by kernel_rfl) (by kernel_rfl)) h

def F_impl_dependentsBeside : Fun := fun avs H =>
  match avs, H with
  | [.dat (.list (.int .i64)) x987, .dat (.int .i64) x988], [] => ⟨_, impl_dependentsBeside x987 x988, fun (t : Int × Int) => (.tup [dW t.1, dW t.2], []), [], none⟩
  | _, _ => Ans.no

theorem impl_dependentsBeside_sound : Sound Tryd.prog 49 F_impl_dependentsBeside := by
  refine fn_sound' (C := impl_dependentsBeside_ctx) (c := bodyOf Tryd.f49) (cok_of tys_ok (allc impl_dependents_sound (allc impl_before_sound alln)) (allc Tryd.call53 (allc Tryd.call85 alln)) (by kernel_rfl)) Tryd.func49 (by kernel_rfl) LL impl_dependentsBeside_an ?_
  intro avs H r H' h
  unfold F_impl_dependentsBeside at h
  split at h
  · refine Awp.cast ?_ ?_ ?_ (impl_dependentsBeside_e _ _ h) <;> kernel_rfl
  · simp [Ans.no, Ans.run] at h


/-! math/bits.OnesCount64 -/

def math_bits_OnesCount64_an : Ann := (.seq (.leaf [0]) (.seq (.leaf [0]) (.seq (.leaf [0]) (.seq (.leaf [0]) (.seq (.leaf [0]) (.seq (.leaf [0]) (.seq (.leaf [0]) (.seq (.leaf [2]) (.leaf [2])))))))))

noncomputable def math_bits_OnesCount64_ctx : Ctx := ⟨tlook tys, olook [], ioF, 0, false, []⟩

theorem math_bits_OnesCount64_n1_l (x1061 : Int) : Link math_bits_OnesCount64_ctx LL (Code.seq (cq [0] (bodyOf Tryd.f117)) (cq [0,1] (bodyOf Tryd.f117))) (Ann.seq (aq [0] math_bits_OnesCount64_an) (aq [0,1] math_bits_OnesCount64_an)) ⟨mkE 35 0 [(0, dW x1061)], []⟩ (math_bits_OnesCount64_n1 x1061) (fun (t : Int) => (Exit.normal, ⟨mkE 35 0 [(0, dW t)], []⟩)) := by
  refine Link.of fun K h => ?_
  simp only [math_bits_OnesCount64_n1, wpO_bind, wpO_cond, wpO_map, wpO_some] at h
  exact Awp.of (by kernel_rfl) h

theorem math_bits_OnesCount64_n2_l (x1066 : Int) : Link math_bits_OnesCount64_ctx LL (cq [0,1,1] (bodyOf Tryd.f117)) (aq [0,1,1] math_bits_OnesCount64_an) ⟨mkE 35 0 [(0, dW x1066)], []⟩ (math_bits_OnesCount64_n2 x1066) (fun (t : Int) => (Exit.normal, ⟨mkE 35 0 [(0, dW t)], []⟩)) := by
  refine Link.of fun K h => ?_
  simp only [math_bits_OnesCount64_n2, wpO_bind, wpO_cond, wpO_map, wpO_some] at h
  exact Awp.of (by kernel_rfl) h

theorem math_bits_OnesCount64_n3_l (x1083 : Int) : Link math_bits_OnesCount64_ctx LL (cq [0,1,1,1] (bodyOf Tryd.f117)) (aq [0,1,1,1] math_bits_OnesCount64_an) ⟨mkE 35 0 [(0, dW x1083)], []⟩ (math_bits_OnesCount64_n3 x1083) (fun (t : Int) => (Exit.normal, ⟨mkE 35 0 [(0, dW t)], []⟩)) := by
  refine Link.of fun K h => ?_
  simp only [math_bits_OnesCount64_n3, wpO_bind, wpO_cond, wpO_map, wpO_some] at h
  exact Awp.of (by kernel_rfl) h

theorem math_bits_OnesCount64_n4_l (x1090 : Int) : Link math_bits_OnesCount64_ctx LL (cq [0,1,1,1,1] (bodyOf Tryd.f117)) (aq [0,1,1,1,1] math_bits_OnesCount64_an) ⟨mkE 35 0 [(0, dW x1090)], []⟩ (math_bits_OnesCount64_n4 x1090) (fun (t : Int) => (Exit.normal, ⟨mkE 35 0 [(0, dW t)], []⟩)) := by
  refine Link.of fun K h => ?_
  simp only [math_bits_OnesCount64_n4, wpO_bind, wpO_cond, wpO_map, wpO_some] at h
  exact Awp.of (by kernel_rfl) h

theorem math_bits_OnesCount64_n5_l (x1094 : Int) : Link math_bits_OnesCount64_ctx LL (cq [0,1,1,1,1,1] (bodyOf Tryd.f117)) (aq [0,1,1,1,1,1] math_bits_OnesCount64_an) ⟨mkE 35 0 [(0, dW x1094)], []⟩ (math_bits_OnesCount64_n5 x1094) (fun (t : Int) => (Exit.normal, ⟨mkE 35 0 [(0, dW t)], []⟩)) := by
  refine Link.of fun K h => ?_
  simp only [math_bits_OnesCount64_n5, wpO_bind, wpO_cond, wpO_map, wpO_some] at h
  exact Awp.of (by kernel_rfl) h

theorem math_bits_OnesCount64_n6_l (x1099 : Int) : Link math_bits_OnesCount64_ctx LL (cq [0,1,1,1,1,1,1] (bodyOf Tryd.f117)) (aq [0,1,1,1,1,1,1] math_bits_OnesCount64_an) ⟨mkE 35 0 [(0, dW x1099)], []⟩ (math_bits_OnesCount64_n6 x1099) (fun (t : Int) => (Exit.normal, ⟨mkE 35 0 [(0, dW t)], []⟩)) := by
  refine Link.of fun K h => ?_
  simp only [math_bits_OnesCount64_n6, wpO_bind, wpO_cond, wpO_map, wpO_some] at h
  exact Awp.of (by kernel_rfl) h

theorem math_bits_OnesCount64_n7_l (x1104 : Int) : Link math_bits_OnesCount64_ctx LL (cq [0,1,1,1,1,1,1,1] (bodyOf Tryd.f117)) (aq [0,1,1,1,1,1,1,1] math_bits_OnesCount64_an) ⟨mkE 35 0 [(0, dW x1104)], []⟩ (math_bits_OnesCount64_n7 x1104) (fun (t : Int) => (Exit.normal, ⟨mkE 35 0 [(2, dI t)], []⟩)) := by
  refine Link.of fun K h => ?_
  simp only [math_bits_OnesCount64_n7, wpO_bind, wpO_cond, wpO_map, wpO_some] at h
  exact Awp.of (by kernel_rfl) h

theorem math_bits_OnesCount64_n8_l (x1109 : Int) : Link math_bits_OnesCount64_ctx LL (cq [1,1,1,1,1,1,1,1] (bodyOf Tryd.f117)) (aq [1,1,1,1,1,1,1,1] math_bits_OnesCount64_an) ⟨mkE 35 0 [(2, dI x1109)], []⟩ (math_bits_OnesCount64_n8 x1109) (fun (t : Int) => (Exit.ret, ⟨mkE 35 0 [(2, dI t)], []⟩)) := by
  refine Link.of fun K h => ?_
  simp only [math_bits_OnesCount64_n8, wpO_bind, wpO_cond, wpO_map, wpO_some] at h
  exact Awp.of (by kernel_rfl) h

def math_bits_OnesCount64_n9_l (x1104 : Int) := (link_seq (math_bits_OnesCount64_n7_l x1104) (fun (t : Int) => (math_bits_OnesCount64_n8_l t)))

def math_bits_OnesCount64_n10_l (x1099 : Int) := (link_seq (math_bits_OnesCount64_n6_l x1099) (fun (t : Int) => (math_bits_OnesCount64_n9_l t)))

def math_bits_OnesCount64_n11_l (x1094 : Int) := (link_seq (math_bits_OnesCount64_n5_l x1094) (fun (t : Int) => (math_bits_OnesCount64_n10_l t)))

def math_bits_OnesCount64_n12_l (x1090 : Int) := (link_seq (math_bits_OnesCount64_n4_l x1090) (fun (t : Int) => (math_bits_OnesCount64_n11_l t)))

def math_bits_OnesCount64_n13_l (x1083 : Int) := (link_seq (math_bits_OnesCount64_n3_l x1083) (fun (t : Int) => (math_bits_OnesCount64_n12_l t)))

def math_bits_OnesCount64_n14_l (x1066 : Int) := (link_seq (math_bits_OnesCount64_n2_l x1066) (fun (t : Int) => (math_bits_OnesCount64_n13_l t)))

def math_bits_OnesCount64_n15_l (x1061 : Int) := (link_group (c := (cq [0,1] (bodyOf Tryd.f117))) (a := (aq [0,1] math_bits_OnesCount64_an)) [(cq [0] (bodyOf Tryd.f117))] [(aq [0] math_bits_OnesCount64_an)] rfl (link_seq (math_bits_OnesCount64_n1_l x1061) (fun (t : Int) => (math_bits_OnesCount64_n14_l t))))

theorem math_bits_OnesCount64_e (x1061 : Int) {r : AV} {H' : Heap} (h : (Ans.mk _ (math_bits_OnesCount64 x1061) (fun (t : Int) => (dI t, [])) [] none).run = some (r, H')) : Awp math_bits_OnesCount64_ctx LL (bodyOf Tryd.f117) math_bits_OnesCount64_an ⟨mkE 35 0 [(0, dW x1061)], []⟩ (Ret (tlook tys) Tryd.f117.results.toList r H') :=
  ret_of' (Link.cast (by kernel_rfl) (by kernel_rfl) (math_bits_OnesCount64_n15_l x1061)) (by unfold math_bits_OnesCount64; kernel_rfl) (by
  intro t
  exact ret_mk [dI t] (by kernel_rfl) (by kernel_rfl) (by kernel_rfl) (by kernel_rfl)) h

def F_math_bits_OnesCount64 : Fun := fun avs H =>
  match avs, H with
  | [.dat (.int .u64) x1061], [] => ⟨_, math_bits_OnesCount64 x1061, fun (t : Int) => (dI t, []), [], none⟩
  | _, _ => Ans.no

theorem math_bits_OnesCount64_sound : Sound Tryd.prog 117 F_math_bits_OnesCount64 := by
  refine fn_sound' (C := math_bits_OnesCount64_ctx) (c := bodyOf Tryd.f117) (cok_of tys_ok (alln) (alln) (by kernel_rfl)) Tryd.func117 (by kernel_rfl) LL math_bits_OnesCount64_an ?_
  intro avs H r H' h
  unfold F_math_bits_OnesCount64 at h
  split at h
  · refine Awp.cast ?_ ?_ ?_ (math_bits_OnesCount64_e _ h) <;> kernel_rfl
  · simp [Ans.no, Ans.run] at h


/-! math/bits.OnesCount -/

def math_bits_OnesCount_an : Ann := (.seq (.leaf [0]) (.seq (.cond (.seq (.leaf [2]) (.leaf [2])) (.leaf [0])) (.seq (.leaf [2]) (.leaf [2]))))

noncomputable def math_bits_OnesCount_ctx : Ctx := ⟨tlook tys, olook [(117, F_math_bits_OnesCount64)], ioF, 0, false, []⟩

theorem math_bits_OnesCount_n1_l (x1060 : Int) : Link math_bits_OnesCount_ctx LL (bodyOf Tryd.f86) math_bits_OnesCount_an ⟨mkE 8 0 [(0, dW x1060)], []⟩ (math_bits_OnesCount_n1 x1060) (fun (t : Int) => (Exit.ret, ⟨mkE 8 0 [(2, dI t)], []⟩)) := by
  refine Link.of fun K h => ?_
  simp only [math_bits_OnesCount_n1, wpO_bind, wpO_cond, wpO_map, wpO_some] at h
  exact Awp.of (by kernel_rfl) h

theorem math_bits_OnesCount_e (x1060 : Int) {r : AV} {H' : Heap} (h : (Ans.mk _ (math_bits_OnesCount x1060) (fun (t : Int) => (dI t, [])) [] none).run = some (r, H')) : Awp math_bits_OnesCount_ctx LL (bodyOf Tryd.f86) math_bits_OnesCount_an ⟨mkE 8 0 [(0, dW x1060)], []⟩ (Ret (tlook tys) Tryd.f86.results.toList r H') :=
  ret_of' (math_bits_OnesCount_n1_l x1060) (by unfold math_bits_OnesCount; kernel_rfl) (by
  intro t
  exact ret_mk [dI t] (by kernel_rfl) (by kernel_rfl) (by kernel_rfl) (by kernel_rfl)) h

def F_math_bits_OnesCount : Fun := fun avs H =>
  match avs, H with
  | [.dat (.int .u64) x1060], [] => ⟨_, math_bits_OnesCount x1060, fun (t : Int) => (dI t, []), [], none⟩
  | _, _ => Ans.no

theorem math_bits_OnesCount_sound : Sound Tryd.prog 86 F_math_bits_OnesCount := by
  refine fn_sound' (C := math_bits_OnesCount_ctx) (c := bodyOf Tryd.f86) (cok_of tys_ok (allc math_bits_OnesCount64_sound alln) (allc Tryd.call117 alln) (by kernel_rfl)) Tryd.func86 (by kernel_rfl) LL math_bits_OnesCount_an ?_
  intro avs H r H' h
  unfold F_math_bits_OnesCount at h
  split at h
  · refine Awp.cast ?_ ?_ ?_ (math_bits_OnesCount_e _ h) <;> kernel_rfl
  · simp [Ans.no, Ans.run] at h


/-! (loop.example/headtrees/impl.wordSet).count -/

def impl_wordSet_count_an : Ann := (.seq (.leaf [0]) (.seq (.leaf [2]) (.leaf [2])))

noncomputable def impl_wordSet_count_ctx : Ctx := ⟨tlook tys, olook [(86, F_math_bits_OnesCount)], ioF, 0, false, []⟩

theorem impl_wordSet_count_n1_l (x1059 : Int) : Link impl_wordSet_count_ctx LL (bodyOf Tryd.f50) impl_wordSet_count_an ⟨mkE 5 0 [(0, dW x1059)], []⟩ (impl_wordSet_count_n1 x1059) (fun (t : Int) => (Exit.ret, ⟨mkE 5 0 [(2, dI t)], []⟩)) := by
  refine Link.of fun K h => ?_
  simp only [impl_wordSet_count_n1, wpO_bind, wpO_cond, wpO_map, wpO_some] at h
  exact Awp.of (by kernel_rfl) h

theorem impl_wordSet_count_e (x1059 : Int) {r : AV} {H' : Heap} (h : (Ans.mk _ (impl_wordSet_count x1059) (fun (t : Int) => (dI t, [])) [] none).run = some (r, H')) : Awp impl_wordSet_count_ctx LL (bodyOf Tryd.f50) impl_wordSet_count_an ⟨mkE 5 0 [(0, dW x1059)], []⟩ (Ret (tlook tys) Tryd.f50.results.toList r H') :=
  ret_of' (impl_wordSet_count_n1_l x1059) (by unfold impl_wordSet_count; kernel_rfl) (by
  intro t
  exact ret_mk [dI t] (by kernel_rfl) (by kernel_rfl) (by kernel_rfl) (by kernel_rfl)) h

def F_impl_wordSet_count : Fun := fun avs H =>
  match avs, H with
  | [.dat (.int .u64) x1059], [] => ⟨_, impl_wordSet_count x1059, fun (t : Int) => (dI t, []), [], none⟩
  | _, _ => Ans.no

theorem impl_wordSet_count_sound : Sound Tryd.prog 50 F_impl_wordSet_count := by
  refine fn_sound' (C := impl_wordSet_count_ctx) (c := bodyOf Tryd.f50) (cok_of tys_ok (allc math_bits_OnesCount_sound alln) (allc Tryd.call86 alln) (by kernel_rfl)) Tryd.func50 (by kernel_rfl) LL impl_wordSet_count_an ?_
  intro avs H r H' h
  unfold F_impl_wordSet_count at h
  split at h
  · refine Awp.cast ?_ ?_ ?_ (impl_wordSet_count_e _ h) <;> kernel_rfl
  · simp [Ans.no, Ans.run] at h


/-! loop.example/headtrees/spec.l1In -/

def spec_l1In_an : Ann := (.seq (.leaf [0, 1, 2]) (.seq (.leaf [6]) (.leaf [6])))

noncomputable def spec_l1In_ctx : Ctx := ⟨tlook tys, olook [], ioF, 0, false, []⟩

theorem spec_l1In_n1_l (x1144 : Int) (x1145 : Int) (x1146 : Int) : Link spec_l1In_ctx LL (bodyOf Tryd.f52) spec_l1In_an ⟨mkE 15 0 [(0, dI x1144), (1, dI x1145), (2, dI x1146)], []⟩ (spec_l1In_n1 x1144 x1145 x1146) (fun (t : Bool) => (Exit.ret, ⟨mkE 15 0 [(6, dB t)], []⟩)) := by
  refine Link.of fun K h => ?_
  simp only [spec_l1In_n1, wpO_bind, wpO_cond, wpO_map, wpO_some] at h
  exact Awp.of (by kernel_rfl) h

theorem spec_l1In_e (x1144 : Int) (x1145 : Int) (x1146 : Int) {r : AV} {H' : Heap} (h : (Ans.mk _ (spec_l1In x1144 x1145 x1146) (fun (t : Bool) => (dB t, [])) [] none).run = some (r, H')) : Awp spec_l1In_ctx LL (bodyOf Tryd.f52) spec_l1In_an ⟨mkE 15 0 [(0, dI x1144), (1, dI x1145), (2, dI x1146)], []⟩ (Ret (tlook tys) Tryd.f52.results.toList r H') :=
  ret_of' (spec_l1In_n1_l x1144 x1145 x1146) (by unfold spec_l1In; kernel_rfl) (by
  intro t
  exact ret_mk [dB t] (by kernel_rfl) (by kernel_rfl) (by kernel_rfl) (by kernel_rfl)) h

def F_spec_l1In : Fun := fun avs H =>
  match avs, H with
  | [.dat (.int .i64) x1144, .dat (.int .i64) x1145, .dat (.int .i64) x1146], [] => ⟨_, spec_l1In x1144 x1145 x1146, fun (t : Bool) => (dB t, []), [], none⟩
  | _, _ => Ans.no

theorem spec_l1In_sound : Sound Tryd.prog 52 F_spec_l1In := by
  refine fn_sound' (C := spec_l1In_ctx) (c := bodyOf Tryd.f52) (cok_of tys_ok (alln) (alln) (by kernel_rfl)) Tryd.func52 (by kernel_rfl) LL spec_l1In_an ?_
  intro avs H r H' h
  unfold F_spec_l1In at h
  split at h
  · refine Awp.cast ?_ ?_ ?_ (spec_l1In_e _ _ _ h) <;> kernel_rfl
  · simp [Ans.no, Ans.run] at h


/-! loop.example/headtrees/spec.TreeOk -/

def spec_TreeOk_an : Ann := (.seq (.leaf [0]) (.seq (.leaf [0, 3]) (.seq (.seq (.leaf [0, 3, 12]) (.cond (.seq (.leaf [2]) (.leaf [2])) (.leaf [0, 3]))) (.seq (.leaf [0, 3, 4]) (.seq (.seq (.leaf [0, 3, 4, 5]) (.block (.loop (.seq (.seq (.leaf [0, 3, 4, 5, 15]) (.cond (.leaf [0, 3, 4, 5]) (.leaf [4]))) (.seq (.block (.seq (.seq (.leaf [0, 3, 4, 5, 33]) (.cond (.seq (.leaf [2]) (.leaf [2])) (.leaf [0, 3, 4, 5]))) (.seq (.seq (.leaf [0, 3, 4, 5, 38]) (.cond (.leaf [0, 3, 4, 5]) (.leaf [0, 3, 4, 5]))) (.seq (.leaf [0, 3, 4, 5, 6]) (.seq (.seq (.leaf [0, 3, 4, 5, 6, 7]) (.block (.loop (.seq (.seq (.leaf [0, 3, 4, 5, 6, 7, 49]) (.cond (.leaf [0, 3, 4, 5, 6, 7]) (.leaf [0, 3, 4, 5, 6]))) (.seq (.block (.seq (.leaf [0, 3, 4, 5, 6, 7]) (.seq (.leaf [0, 3, 4, 5, 6, 7, 60]) (.cond (.seq (.leaf [2]) (.leaf [2])) (.leaf [0, 3, 4, 5, 6, 7]))))) (.leaf [0, 3, 4, 5, 6, 7])))))) (.seq (.leaf [0, 3, 4, 5, 62]) (.cond (.seq (.leaf [2]) (.leaf [2])) (.leaf [0, 3, 4, 5])))))))) (.leaf [0, 3, 4, 5])))))) (.seq (.leaf [2]) (.leaf [2])))))))

noncomputable def spec_TreeOk_ctx : Ctx := ⟨tlook tys, olook [(52, F_spec_l1In)], ioF, 0, false, []⟩

theorem spec_TreeOk_n1_l (x1141 : List Int) : Link spec_TreeOk_ctx LL (Code.seq (cq [0] (bodyOf Tryd.f51)) (Code.seq (cq [0,1] (bodyOf Tryd.f51)) (Code.seq (cq [0,1,1] (bodyOf Tryd.f51)) (cq [0,1,1,1] (bodyOf Tryd.f51))))) (Ann.seq (aq [0] spec_TreeOk_an) (Ann.seq (aq [0,1] spec_TreeOk_an) (Ann.seq (aq [0,1,1] spec_TreeOk_an) (aq [0,1,1,1] spec_TreeOk_an)))) ⟨mkE 65 0 [(0, dL x1141)], []⟩ (spec_TreeOk_n1 x1141) (Sum.elim (fun (t : Int) => (Exit.normal, ⟨mkE 65 0 [(0, dL x1141), (3, dI t), (4, dI 0)], []⟩)) (fun (t : Bool) => (Exit.ret, ⟨mkE 65 0 [(2, dB t)], []⟩))) := by
  refine Link.of fun K h => ?_
  simp only [spec_TreeOk_n1, wpO_bind, wpO_cond, wpO_map, wpO_some] at h
  exact Awp.of (by kernel_rfl) h

theorem spec_TreeOk_n2_l (x1141 : List Int) (x1154 : Int) : Link spec_TreeOk_ctx LL (cq [0,0,1,1,1,1] (bodyOf Tryd.f51)) (aq [0,0,1,1,1,1] spec_TreeOk_an) ⟨mkE 65 0 [(0, dL x1141), (3, dI x1154), (4, dI 0)], []⟩ (spec_TreeOk_n2) (fun (t : Unit) => (Exit.normal, ⟨mkE 65 0 [(0, dL x1141), (3, dI x1154), (4, dI 0), (5, dI 0)], []⟩)) := by
  refine Link.of fun K h => ?_
  simp only [spec_TreeOk_n2, wpO_bind, wpO_cond, wpO_map, wpO_some] at h
  exact Awp.of (by kernel_rfl) h

theorem spec_TreeOk_n3_l (x1141 : List Int) (x1154 : Int) (x1221 : Int) (x1222 : Int) : Link spec_TreeOk_ctx LL (cq [0,0,0,1,0,1,1,1,1] (bodyOf Tryd.f51)) (aq [0,0,0,1,0,1,1,1,1] spec_TreeOk_an) ⟨mkE 65 0 [(0, dL x1141), (3, dI x1154), (4, dI x1221), (5, dI x1222)], []⟩ (spec_TreeOk_n3 x1154 x1221 x1222) (Sum.elim (fun (t : Unit) => (Exit.normal, ⟨mkE 65 0 [(0, dL x1141), (3, dI x1154), (4, dI x1221), (5, dI x1222)], []⟩)) (fun (t : Int) => ((Exit.exit 0), ⟨mkE 65 0 [(4, dI t)], []⟩))) := by
  refine Link.of fun K h => ?_
  simp only [spec_TreeOk_n3, wpO_bind, wpO_cond, wpO_map, wpO_some] at h
  exact Awp.of (by kernel_rfl) h

theorem spec_TreeOk_n4_l (x1141 : List Int) (x1154 : Int) (x1221 : Int) (x1222 : Int) : Link spec_TreeOk_ctx LL (Code.seq (cq [0,0,0,1,0,0,1,0,1,1,1,1] (bodyOf Tryd.f51)) (Code.seq (cq [0,1,0,0,1,0,0,1,0,1,1,1,1] (bodyOf Tryd.f51)) (cq [0,1,1,0,0,1,0,0,1,0,1,1,1,1] (bodyOf Tryd.f51)))) (Ann.seq (aq [0,0,0,1,0,0,1,0,1,1,1,1] spec_TreeOk_an) (Ann.seq (aq [0,1,0,0,1,0,0,1,0,1,1,1,1] spec_TreeOk_an) (aq [0,1,1,0,0,1,0,0,1,0,1,1,1,1] spec_TreeOk_an))) ⟨mkE 65 0 [(0, dL x1141), (3, dI x1154), (4, dI x1221), (5, dI x1222)], []⟩ (spec_TreeOk_n4 x1141 x1154 x1221 x1222) (Sum.elim (fun (t : Int × Int) => (Exit.normal, ⟨mkE 65 0 [(0, dL x1141), (3, dI x1154), (4, dI t.1), (5, dI x1222), (6, dI t.2)], []⟩)) (fun (t : Bool) => (Exit.ret, ⟨mkE 65 0 [(2, dB t)], []⟩))) := by
  refine Link.of fun K h => ?_
  simp only [spec_TreeOk_n4, wpO_bind, wpO_cond, wpO_map, wpO_some] at h
  exact Awp.of (by kernel_rfl) h

theorem spec_TreeOk_n5_l (x1141 : List Int) (x1154 : Int) (x1250 : Int) (x1222 : Int) (x1251 : Int) : Link spec_TreeOk_ctx LL (cq [0,0,1,1,1,0,0,1,0,0,1,0,1,1,1,1] (bodyOf Tryd.f51)) (aq [0,0,1,1,1,0,0,1,0,0,1,0,1,1,1,1] spec_TreeOk_an) ⟨mkE 65 0 [(0, dL x1141), (3, dI x1154), (4, dI x1250), (5, dI x1222), (6, dI x1251)], []⟩ (spec_TreeOk_n5) (fun (t : Unit) => (Exit.normal, ⟨mkE 65 0 [(0, dL x1141), (3, dI x1154), (4, dI x1250), (5, dI x1222), (6, dI x1251), (7, dI 0)], []⟩)) := by
  refine Link.of fun K h => ?_
  simp only [spec_TreeOk_n5, wpO_bind, wpO_cond, wpO_map, wpO_some] at h
  exact Awp.of (by kernel_rfl) h

theorem spec_TreeOk_n6_l (x1141 : List Int) (x1154 : Int) (x1250 : Int) (x1222 : Int) (x1267 : Int) (x1268 : Int) : Link spec_TreeOk_ctx LL (cq [0,0,1,0,1,1,1,0,0,1,0,0,1,0,1,1,1,1] (bodyOf Tryd.f51)) (aq [0,0,1,0,1,1,1,0,0,1,0,0,1,0,1,1,1,1] spec_TreeOk_an) ⟨mkE 65 0 [(0, dL x1141), (3, dI x1154), (4, dI x1250), (5, dI x1222), (6, dI x1267), (7, dI x1268)], []⟩ (spec_TreeOk_n6 x1141 x1154 x1267 x1268) (Sum.elim (fun (t : Int × Int) => (Exit.normal, ⟨mkE 65 0 [(0, dL x1141), (3, dI x1154), (4, dI x1250), (5, dI x1222), (6, dI t.1), (7, dI t.2)], []⟩)) (Sum.elim (fun (t : Bool) => (Exit.ret, ⟨mkE 65 0 [(2, dB t)], []⟩)) (fun (t : Int) => ((Exit.exit 2), ⟨mkE 65 0 [(0, dL x1141), (3, dI x1154), (4, dI x1250), (5, dI x1222), (6, dI t)], []⟩)))) := by
  refine Link.of fun K h => ?_
  simp only [spec_TreeOk_n6, wpO_bind, wpO_cond, wpO_map, wpO_some] at h
  exact Awp.of (by kernel_rfl) h

def spec_TreeOk_n7_l (x1141 : List Int) (x1154 : Int) (x1250 : Int) (x1222 : Int) (x1251 : Int) := (link_loop (mk := fun (s : Int × Int) => ⟨mkE 65 0 [(0, dL x1141), (3, dI x1154), (4, dI x1250), (5, dI x1222), (6, dI s.1), (7, dI s.2)], []⟩) (fin := (Sum.elim (fun (t : Bool) => (Exit.ret, ⟨mkE 65 0 [(2, dB t)], []⟩)) (fun (t : Int) => ((Exit.exit 2), ⟨mkE 65 0 [(0, dL x1141), (3, dI x1154), (4, dI x1250), (5, dI x1222), (6, dI t)], []⟩)))) (by
  rintro (t | t) f K h
  · exact h
  · exact h) (fun s => link_map (spec_TreeOk_n6_l x1141 x1154 x1250 x1222 s.1 s.2) (Sum.elim (fun (t : Int × Int) => Sum.inl (t.1, t.2)) (Sum.elim (fun (t : Bool) => Sum.inr (Sum.inl t)) (fun (t : Int) => Sum.inr (Sum.inr t)))) (by
  rintro (t | t | t)
  · kernel_rfl
  · kernel_rfl
  · kernel_rfl)) (x1251, 0))

def spec_TreeOk_n8_l (x1141 : List Int) (x1154 : Int) (x1250 : Int) (x1222 : Int) (x1251 : Int) := (link_block (fin2 := (Sum.elim (fun (t : Int) => (Exit.normal, ⟨mkE 65 0 [(0, dL x1141), (3, dI x1154), (4, dI x1250), (5, dI x1222), (6, dI t)], []⟩)) (fun (t : Bool) => (Exit.ret, ⟨mkE 65 0 [(2, dB t)], []⟩)))) (id := 2) (spec_TreeOk_n7_l x1141 x1154 x1250 x1222 x1251) (Sum.elim (fun (t : Bool) => (Sum.inr t)) (fun (t : Int) => (Sum.inl t))) (by
  rintro (t | t) K h
  · exact Eq.mp (by kernel_rfl) h
  · exact Eq.mp (by kernel_rfl) h))

def spec_TreeOk_n9_l (x1141 : List Int) (x1154 : Int) (x1250 : Int) (x1222 : Int) (x1251 : Int) := (link_seq (spec_TreeOk_n5_l x1141 x1154 x1250 x1222 x1251) (fun (t : Unit) => (spec_TreeOk_n8_l x1141 x1154 x1250 x1222 x1251)))

theorem spec_TreeOk_n10_l (x1141 : List Int) (x1154 : Int) (x1250 : Int) (x1222 : Int) (x1267 : Int) : Link spec_TreeOk_ctx LL (cq [1,1,1,1,0,0,1,0,0,1,0,1,1,1,1] (bodyOf Tryd.f51)) (aq [1,1,1,1,0,0,1,0,0,1,0,1,1,1,1] spec_TreeOk_an) ⟨mkE 65 0 [(0, dL x1141), (3, dI x1154), (4, dI x1250), (5, dI x1222), (6, dI x1267)], []⟩ (spec_TreeOk_n10 x1267) (Sum.elim (fun (t : Unit) => (Exit.normal, ⟨mkE 65 0 [(0, dL x1141), (3, dI x1154), (4, dI x1250), (5, dI x1222)], []⟩)) (fun (t : Bool) => (Exit.ret, ⟨mkE 65 0 [(2, dB t)], []⟩))) := by
  refine Link.of fun K h => ?_
  simp only [spec_TreeOk_n10, wpO_bind, wpO_cond, wpO_map, wpO_some] at h
  exact Awp.of (by kernel_rfl) h

def spec_TreeOk_n11_l (x1141 : List Int) (x1154 : Int) (x1250 : Int) (x1222 : Int) (x1251 : Int) := (link_seq2 (spec_TreeOk_n9_l x1141 x1154 x1250 x1222 x1251) (fun (t : Int) => (spec_TreeOk_n10_l x1141 x1154 x1250 x1222 t)) (fun (t : Bool) => (Sum.inr t)) (by
  rintro t
  · kernel_rfl) (by
  rintro t f K h
  · exact h))

def spec_TreeOk_n12_l (x1141 : List Int) (x1154 : Int) (x1221 : Int) (x1222 : Int) := (link_group (c := (cq [0,1,1,0,0,1,0,0,1,0,1,1,1,1] (bodyOf Tryd.f51))) (a := (aq [0,1,1,0,0,1,0,0,1,0,1,1,1,1] spec_TreeOk_an)) [(cq [0,0,0,1,0,0,1,0,1,1,1,1] (bodyOf Tryd.f51)), (cq [0,1,0,0,1,0,0,1,0,1,1,1,1] (bodyOf Tryd.f51))] [(aq [0,0,0,1,0,0,1,0,1,1,1,1] spec_TreeOk_an), (aq [0,1,0,0,1,0,0,1,0,1,1,1,1] spec_TreeOk_an)] rfl (link_seq2 (spec_TreeOk_n4_l x1141 x1154 x1221 x1222) (fun (t : Int × Int) => (link_map (fin2 := (Sum.elim (fun (t : Int) => (Exit.normal, ⟨mkE 65 0 [(0, dL x1141), (3, dI x1154), (4, dI t), (5, dI x1222)], []⟩)) (fun (t : Bool) => (Exit.ret, ⟨mkE 65 0 [(2, dB t)], []⟩)))) (spec_TreeOk_n11_l x1141 x1154 t.1 x1222 t.2) (Sum.elim (fun (u : Unit) => (Sum.inl t.1)) (fun (u : Bool) => (Sum.inr u))) (by
  rintro (t | t)
  · kernel_rfl
  · kernel_rfl))) (fun (t : Bool) => (Sum.inr t)) (by
  rintro t
  · kernel_rfl) (by
  rintro t f K h
  · exact h)))

def spec_TreeOk_n13_l (x1141 : List Int) (x1154 : Int) (x1221 : Int) (x1222 : Int) := (link_block (fin2 := (Sum.elim (fun (t : Int) => (Exit.normal, ⟨mkE 65 0 [(0, dL x1141), (3, dI x1154), (4, dI t), (5, dI x1222)], []⟩)) (fun (t : Bool) => (Exit.ret, ⟨mkE 65 0 [(2, dB t)], []⟩)))) (id := 1) (spec_TreeOk_n12_l x1141 x1154 x1221 x1222) (Sum.elim (fun (t : Int) => (Sum.inl t)) (fun (t : Bool) => (Sum.inr t))) (by
  rintro (t | t) K h
  · exact Eq.mp (by kernel_rfl) h
  · exact Eq.mp (by kernel_rfl) h))

theorem spec_TreeOk_n14_l (x1141 : List Int) (x1154 : Int) (x1250 : Int) (x1222 : Int) : Link spec_TreeOk_ctx LL (cq [1,1,0,0,1,0,1,1,1,1] (bodyOf Tryd.f51)) (aq [1,1,0,0,1,0,1,1,1,1] spec_TreeOk_an) ⟨mkE 65 0 [(0, dL x1141), (3, dI x1154), (4, dI x1250), (5, dI x1222)], []⟩ (spec_TreeOk_n14 x1222) (fun (t : Int) => (Exit.normal, ⟨mkE 65 0 [(0, dL x1141), (3, dI x1154), (4, dI x1250), (5, dI t)], []⟩)) := by
  refine Link.of fun K h => ?_
  simp only [spec_TreeOk_n14, wpO_bind, wpO_cond, wpO_map, wpO_some] at h
  exact Awp.of (by kernel_rfl) h

def spec_TreeOk_n15_l (x1141 : List Int) (x1154 : Int) (x1221 : Int) (x1222 : Int) := (link_seq2 (spec_TreeOk_n13_l x1141 x1154 x1221 x1222) (fun (t : Int) => (link_map (fin2 := (Sum.elim (fun (t : Int × Int) => (Exit.normal, ⟨mkE 65 0 [(0, dL x1141), (3, dI x1154), (4, dI t.1), (5, dI t.2)], []⟩)) (fun (t : Bool) => (Exit.ret, ⟨mkE 65 0 [(2, dB t)], []⟩)))) (spec_TreeOk_n14_l x1141 x1154 t x1222) (fun (u : Int) => (Sum.inl (t, u))) (by
  rintro t
  · kernel_rfl))) (fun (t : Bool) => (Sum.inr t)) (by
  rintro t
  · kernel_rfl) (by
  rintro t f K h
  · exact h))

def spec_TreeOk_n16_l (x1141 : List Int) (x1154 : Int) (x1221 : Int) (x1222 : Int) := (link_seq2 (spec_TreeOk_n3_l x1141 x1154 x1221 x1222) (fun (t : Unit) => (link_map (fin2 := (Sum.elim (fun (t : Int × Int) => (Exit.normal, ⟨mkE 65 0 [(0, dL x1141), (3, dI x1154), (4, dI t.1), (5, dI t.2)], []⟩)) (Sum.elim (fun (t : Bool) => (Exit.ret, ⟨mkE 65 0 [(2, dB t)], []⟩)) (fun (t : Int) => ((Exit.exit 0), ⟨mkE 65 0 [(4, dI t)], []⟩))))) (spec_TreeOk_n15_l x1141 x1154 x1221 x1222) (Sum.elim (fun (t : Int × Int) => (Sum.inl (t.1, t.2))) (fun (t : Bool) => (Sum.inr (Sum.inl t)))) (by
  rintro (t | t)
  · kernel_rfl
  · kernel_rfl))) (fun (t : Int) => (Sum.inr (Sum.inr t))) (by
  rintro t
  · kernel_rfl) (by
  rintro t f K h
  · exact h))

def spec_TreeOk_n17_l (x1141 : List Int) (x1154 : Int) := (link_loop (mk := fun (s : Int × Int) => ⟨mkE 65 0 [(0, dL x1141), (3, dI x1154), (4, dI s.1), (5, dI s.2)], []⟩) (fin := (Sum.elim (fun (t : Bool) => (Exit.ret, ⟨mkE 65 0 [(2, dB t)], []⟩)) (fun (t : Int) => ((Exit.exit 0), ⟨mkE 65 0 [(4, dI t)], []⟩)))) (by
  rintro (t | t) f K h
  · exact h
  · exact h) (fun s => link_map (spec_TreeOk_n16_l x1141 x1154 s.1 s.2) (Sum.elim (fun (t : Int × Int) => Sum.inl (t.1, t.2)) (Sum.elim (fun (t : Bool) => Sum.inr (Sum.inl t)) (fun (t : Int) => Sum.inr (Sum.inr t)))) (by
  rintro (t | t | t)
  · kernel_rfl
  · kernel_rfl
  · kernel_rfl)) (0, 0))

def spec_TreeOk_n18_l (x1141 : List Int) (x1154 : Int) := (link_block (fin2 := (Sum.elim (fun (t : Int) => (Exit.normal, ⟨mkE 65 0 [(4, dI t)], []⟩)) (fun (t : Bool) => (Exit.ret, ⟨mkE 65 0 [(2, dB t)], []⟩)))) (id := 0) (spec_TreeOk_n17_l x1141 x1154) (Sum.elim (fun (t : Bool) => (Sum.inr t)) (fun (t : Int) => (Sum.inl t))) (by
  rintro (t | t) K h
  · exact Eq.mp (by kernel_rfl) h
  · exact Eq.mp (by kernel_rfl) h))

def spec_TreeOk_n19_l (x1141 : List Int) (x1154 : Int) := (link_seq (spec_TreeOk_n2_l x1141 x1154) (fun (t : Unit) => (spec_TreeOk_n18_l x1141 x1154)))

theorem spec_TreeOk_n20_l (x1221 : Int) : Link spec_TreeOk_ctx LL (cq [1,1,1,1,1] (bodyOf Tryd.f51)) (aq [1,1,1,1,1] spec_TreeOk_an) ⟨mkE 65 0 [(4, dI x1221)], []⟩ (spec_TreeOk_n20 x1221) (fun (t : Bool) => (Exit.ret, ⟨mkE 65 0 [(2, dB t)], []⟩)) := by
  refine Link.of fun K h => ?_
  simp only [spec_TreeOk_n20, wpO_bind, wpO_cond, wpO_map, wpO_some] at h
  exact Awp.of (by kernel_rfl) h

def spec_TreeOk_n21_l (x1141 : List Int) (x1154 : Int) := (link_seq2 (spec_TreeOk_n19_l x1141 x1154) (fun (t : Int) => (spec_TreeOk_n20_l t)) (fun (t : Bool) => t) (by
  rintro t
  · kernel_rfl) (by
  rintro t f K h
  · exact h))

def spec_TreeOk_n22_l (x1141 : List Int) := (link_group (c := (cq [0,1,1,1] (bodyOf Tryd.f51))) (a := (aq [0,1,1,1] spec_TreeOk_an)) [(cq [0] (bodyOf Tryd.f51)), (cq [0,1] (bodyOf Tryd.f51)), (cq [0,1,1] (bodyOf Tryd.f51))] [(aq [0] spec_TreeOk_an), (aq [0,1] spec_TreeOk_an), (aq [0,1,1] spec_TreeOk_an)] rfl (link_seq2 (spec_TreeOk_n1_l x1141) (fun (t : Int) => (spec_TreeOk_n21_l x1141 t)) (fun (t : Bool) => t) (by
  rintro t
  · kernel_rfl) (by
  rintro t f K h
  · exact h)))

theorem spec_TreeOk_e (x1141 : List Int) {r : AV} {H' : Heap} (h : (Ans.mk _ (spec_TreeOk x1141) (fun (t : Bool) => (dB t, [])) [] none).run = some (r, H')) : Awp spec_TreeOk_ctx LL (bodyOf Tryd.f51) spec_TreeOk_an ⟨mkE 65 0 [(0, dL x1141)], []⟩ (Ret (tlook tys) Tryd.f51.results.toList r H') :=
  ret_of' (Link.cast (by kernel_rfl) (by kernel_rfl) (spec_TreeOk_n22_l x1141)) (by unfold spec_TreeOk; kernel_rfl) (by
  intro t
  exact ret_mk [dB t] (by kernel_rfl) (by kernel_rfl) (by kernel_rfl) (by kernel_rfl)) h

def F_spec_TreeOk : Fun := fun avs H =>
  match avs, H with
  | [.dat (.list (.int .i64)) x1141], [] => ⟨_, spec_TreeOk x1141, fun (t : Bool) => (dB t, []), [], none⟩
  | _, _ => Ans.no

theorem spec_TreeOk_sound : Sound Tryd.prog 51 F_spec_TreeOk := by
  refine fn_sound' (C := spec_TreeOk_ctx) (c := bodyOf Tryd.f51) (cok_of tys_ok (allc spec_l1In_sound alln) (allc Tryd.call52 alln) (by kernel_rfl)) Tryd.func51 (by kernel_rfl) LL spec_TreeOk_an ?_
  intro avs H r H' h
  unfold F_spec_TreeOk at h
  split at h
  · refine Awp.cast ?_ ?_ ?_ (spec_TreeOk_e _ h) <;> kernel_rfl
  · simp [Ans.no, Ans.run] at h


/-! math/bits.TrailingZeros64 -/

def math_bits_TrailingZeros64_an : Ann := (.seq (.leaf [0]) (.seq (.seq (.leaf [0, 4]) (.cond (.seq (.leaf [2]) (.leaf [2])) (.leaf [0]))) (.seq (.leaf [2]) (.leaf [2]))))

noncomputable def math_bits_TrailingZeros64_ctx : Ctx := ⟨tlook tys, olook [], ioF, 0, false, []⟩

theorem math_bits_TrailingZeros64_n1_l (x1559 : Int) : Link math_bits_TrailingZeros64_ctx LL (bodyOf Tryd.f119) math_bits_TrailingZeros64_an ⟨mkE 14 0 [(0, dW x1559)], []⟩ (math_bits_TrailingZeros64_n1 x1559) (fun (t : Int) => (Exit.ret, ⟨mkE 14 0 [(2, dI t)], []⟩)) := by
  refine Link.of fun K h => ?_
  simp only [math_bits_TrailingZeros64_n1, wpO_bind, wpO_cond, wpO_map, wpO_some] at h
  exact Awp.of (by kernel_rfl) h

theorem math_bits_TrailingZeros64_e (x1559 : Int) {r : AV} {H' : Heap} (h : (Ans.mk _ (math_bits_TrailingZeros64 x1559) (fun (t : Int) => (dI t, [])) [] none).run = some (r, H')) : Awp math_bits_TrailingZeros64_ctx LL (bodyOf Tryd.f119) math_bits_TrailingZeros64_an ⟨mkE 14 0 [(0, dW x1559)], []⟩ (Ret (tlook tys) Tryd.f119.results.toList r H') :=
  ret_of' (math_bits_TrailingZeros64_n1_l x1559) (by unfold math_bits_TrailingZeros64; kernel_rfl) (by
  intro t
  exact ret_mk [dI t] (by kernel_rfl) (by kernel_rfl) (by kernel_rfl) (by kernel_rfl)) h

def F_math_bits_TrailingZeros64 : Fun := fun avs H =>
  match avs, H with
  | [.dat (.int .u64) x1559], [] => ⟨_, math_bits_TrailingZeros64 x1559, fun (t : Int) => (dI t, []), [], none⟩
  | _, _ => Ans.no

theorem math_bits_TrailingZeros64_sound : Sound Tryd.prog 119 F_math_bits_TrailingZeros64 := by
  refine fn_sound' (C := math_bits_TrailingZeros64_ctx) (c := bodyOf Tryd.f119) (cok_of tys_ok (alln) (alln) (by kernel_rfl)) Tryd.func119 (by kernel_rfl) LL math_bits_TrailingZeros64_an ?_
  intro avs H r H' h
  unfold F_math_bits_TrailingZeros64 at h
  split at h
  · refine Awp.cast ?_ ?_ ?_ (math_bits_TrailingZeros64_e _ h) <;> kernel_rfl
  · simp [Ans.no, Ans.run] at h


/-! math/bits.TrailingZeros -/

def math_bits_TrailingZeros_an : Ann := (.seq (.leaf [0]) (.seq (.cond (.seq (.leaf [2]) (.leaf [2])) (.leaf [0])) (.seq (.leaf [2]) (.leaf [2]))))

noncomputable def math_bits_TrailingZeros_ctx : Ctx := ⟨tlook tys, olook [(119, F_math_bits_TrailingZeros64)], ioF, 0, false, []⟩

theorem math_bits_TrailingZeros_n1_l (x1558 : Int) : Link math_bits_TrailingZeros_ctx LL (bodyOf Tryd.f88) math_bits_TrailingZeros_an ⟨mkE 8 0 [(0, dW x1558)], []⟩ (math_bits_TrailingZeros_n1 x1558) (fun (t : Int) => (Exit.ret, ⟨mkE 8 0 [(2, dI t)], []⟩)) := by
  refine Link.of fun K h => ?_
  simp only [math_bits_TrailingZeros_n1, wpO_bind, wpO_cond, wpO_map, wpO_some] at h
  exact Awp.of (by kernel_rfl) h

theorem math_bits_TrailingZeros_e (x1558 : Int) {r : AV} {H' : Heap} (h : (Ans.mk _ (math_bits_TrailingZeros x1558) (fun (t : Int) => (dI t, [])) [] none).run = some (r, H')) : Awp math_bits_TrailingZeros_ctx LL (bodyOf Tryd.f88) math_bits_TrailingZeros_an ⟨mkE 8 0 [(0, dW x1558)], []⟩ (Ret (tlook tys) Tryd.f88.results.toList r H') :=
  ret_of' (math_bits_TrailingZeros_n1_l x1558) (by unfold math_bits_TrailingZeros; kernel_rfl) (by
  intro t
  exact ret_mk [dI t] (by kernel_rfl) (by kernel_rfl) (by kernel_rfl) (by kernel_rfl)) h

def F_math_bits_TrailingZeros : Fun := fun avs H =>
  match avs, H with
  | [.dat (.int .u64) x1558], [] => ⟨_, math_bits_TrailingZeros x1558, fun (t : Int) => (dI t, []), [], none⟩
  | _, _ => Ans.no

theorem math_bits_TrailingZeros_sound : Sound Tryd.prog 88 F_math_bits_TrailingZeros := by
  refine fn_sound' (C := math_bits_TrailingZeros_ctx) (c := bodyOf Tryd.f88) (cok_of tys_ok (allc math_bits_TrailingZeros64_sound alln) (allc Tryd.call119 alln) (by kernel_rfl)) Tryd.func88 (by kernel_rfl) LL math_bits_TrailingZeros_an ?_
  intro avs H r H' h
  unfold F_math_bits_TrailingZeros at h
  split at h
  · refine Awp.cast ?_ ?_ ?_ (math_bits_TrailingZeros_e _ h) <;> kernel_rfl
  · simp [Ans.no, Ans.run] at h


/-! (loop.example/headtrees/impl.wordSet).list -/

def impl_wordSet_list_an : Ann := (.seq (.leaf [0]) (.seq (.leaf [0, 3]) (.seq (.seq (.leaf [3, 4]) (.block (.loop (.seq (.seq (.leaf [3, 4, 10]) (.cond (.leaf [3, 4]) (.leaf [3]))) (.seq (.block (.leaf [3, 4])) (.leaf [3, 4])))))) (.seq (.leaf [2]) (.leaf [2])))))

noncomputable def impl_wordSet_list_ctx : Ctx := ⟨tlook tys, olook [(50, F_impl_wordSet_count), (88, F_math_bits_TrailingZeros)], ioF, 0, false, []⟩

theorem impl_wordSet_list_n1_l (x1552 : Int) : Link impl_wordSet_list_ctx LL (Code.seq (cq [0] (bodyOf Tryd.f54)) (cq [0,1] (bodyOf Tryd.f54))) (Ann.seq (aq [0] impl_wordSet_list_an) (aq [0,1] impl_wordSet_list_an)) ⟨mkE 22 0 [(0, dW x1552)], []⟩ (impl_wordSet_list_n1 x1552) (fun (t : (List Int)) => (Exit.normal, ⟨mkE 22 0 [(0, dW x1552), (3, .slc 0)], [some (sI t)]⟩)) := by
  refine Link.of fun K h => ?_
  simp only [impl_wordSet_list_n1, wpO_bind, wpO_cond, wpO_map, wpO_some] at h
  exact Awp.of (by kernel_rfl) h

theorem impl_wordSet_list_n2_l (x1552 : Int) (x1555 : List Int) : Link impl_wordSet_list_ctx LL (cq [0,0,1,1] (bodyOf Tryd.f54)) (aq [0,0,1,1] impl_wordSet_list_an) ⟨mkE 22 0 [(0, dW x1552), (3, .slc 0)], [some (sI x1555)]⟩ (impl_wordSet_list_n2) (fun (t : Unit) => (Exit.normal, ⟨mkE 22 0 [(3, .slc 0), (4, dW x1552)], [some (sI x1555)]⟩)) := by
  refine Link.of fun K h => ?_
  simp only [impl_wordSet_list_n2, wpO_bind, wpO_cond, wpO_map, wpO_some] at h
  exact Awp.of (by kernel_rfl) h

theorem impl_wordSet_list_n3_l (x1598 : Int) (x1599 : List Int) : Link impl_wordSet_list_ctx LL (cq [0,0,1,0,1,1] (bodyOf Tryd.f54)) (aq [0,0,1,0,1,1] impl_wordSet_list_an) ⟨mkE 22 0 [(3, .slc 0), (4, dW x1598)], [some (sI x1599)]⟩ (impl_wordSet_list_n3 x1598 x1599) (Sum.elim (fun (t : Int × (List Int)) => (Exit.normal, ⟨mkE 22 0 [(3, .slc 0), (4, dW t.1)], [some (sI t.2)]⟩)) (fun (t : (List Int)) => ((Exit.exit 0), ⟨mkE 22 0 [(3, .slc 0)], [some (sI t)]⟩))) := by
  refine Link.of fun K h => ?_
  simp only [impl_wordSet_list_n3, wpO_bind, wpO_cond, wpO_map, wpO_some] at h
  exact Awp.of (by kernel_rfl) h

def impl_wordSet_list_n4_l (x1552 : Int) (x1555 : List Int) := (link_loop (mk := fun (s : Int × (List Int)) => ⟨mkE 22 0 [(3, .slc 0), (4, dW s.1)], [some (sI s.2)]⟩) (fin := (fun (t : (List Int)) => ((Exit.exit 0), ⟨mkE 22 0 [(3, .slc 0)], [some (sI t)]⟩))) (by
  rintro t f K h
  · exact h) (fun s => link_map (impl_wordSet_list_n3_l s.1 s.2) (Sum.elim (fun (t : Int × (List Int)) => Sum.inl (t.1, t.2)) (fun (t : (List Int)) => Sum.inr t)) (by
  rintro (t | t)
  · kernel_rfl
  · kernel_rfl)) (x1552, x1555))

def impl_wordSet_list_n5_l (x1552 : Int) (x1555 : List Int) := (link_block (fin2 := (fun (t : (List Int)) => (Exit.normal, ⟨mkE 22 0 [(3, .slc 0)], [some (sI t)]⟩))) (id := 0) (impl_wordSet_list_n4_l x1552 x1555) (fun (t : (List Int)) => t) (by
  rintro t K h
  · exact Eq.mp (by kernel_rfl) h))

def impl_wordSet_list_n6_l (x1552 : Int) (x1555 : List Int) := (link_seq (impl_wordSet_list_n2_l x1552 x1555) (fun (t : Unit) => (impl_wordSet_list_n5_l x1552 x1555)))

theorem impl_wordSet_list_n7_l (x1599 : List Int) : Link impl_wordSet_list_ctx LL (cq [1,1,1] (bodyOf Tryd.f54)) (aq [1,1,1] impl_wordSet_list_an) ⟨mkE 22 0 [(3, .slc 0)], [some (sI x1599)]⟩ (impl_wordSet_list_n7 x1599) (fun (t : (List Int)) => (Exit.ret, ⟨mkE 22 0 [(2, .slc 0)], [some (sI t)]⟩)) := by
  refine Link.of fun K h => ?_
  simp only [impl_wordSet_list_n7, wpO_bind, wpO_cond, wpO_map, wpO_some] at h
  exact Awp.of (by kernel_rfl) h

def impl_wordSet_list_n8_l (x1552 : Int) (x1555 : List Int) := (link_seq (impl_wordSet_list_n6_l x1552 x1555) (fun (t : (List Int)) => (impl_wordSet_list_n7_l t)))

def impl_wordSet_list_n9_l (x1552 : Int) := (link_group (c := (cq [0,1] (bodyOf Tryd.f54))) (a := (aq [0,1] impl_wordSet_list_an)) [(cq [0] (bodyOf Tryd.f54))] [(aq [0] impl_wordSet_list_an)] rfl (link_seq (impl_wordSet_list_n1_l x1552) (fun (t : (List Int)) => (impl_wordSet_list_n8_l x1552 t))))

theorem impl_wordSet_list_e (x1552 : Int) {r : AV} {H' : Heap} (h : (Ans.mk _ (impl_wordSet_list x1552) (fun (t : (List Int)) => (.slc 0, [some (sI t)])) [] none).run = some (r, H')) : Awp impl_wordSet_list_ctx LL (bodyOf Tryd.f54) impl_wordSet_list_an ⟨mkE 22 0 [(0, dW x1552)], []⟩ (Ret (tlook tys) Tryd.f54.results.toList r H') :=
  ret_of' (Link.cast (by kernel_rfl) (by kernel_rfl) (impl_wordSet_list_n9_l x1552)) (by unfold impl_wordSet_list; kernel_rfl) (by
  intro t
  exact ret_mk [.slc 0] (by kernel_rfl) (by kernel_rfl) (by kernel_rfl) (by kernel_rfl)) h

def F_impl_wordSet_list : Fun := fun avs H =>
  match avs, H with
  | [.dat (.int .u64) x1552], [] => ⟨_, impl_wordSet_list x1552, fun (t : (List Int)) => (.slc 0, [some (sI t)]), [], none⟩
  | _, _ => Ans.no

theorem impl_wordSet_list_sound : Sound Tryd.prog 54 F_impl_wordSet_list := by
  refine fn_sound' (C := impl_wordSet_list_ctx) (c := bodyOf Tryd.f54) (cok_of tys_ok (allc impl_wordSet_count_sound (allc math_bits_TrailingZeros_sound alln)) (allc Tryd.call50 (allc Tryd.call88 alln)) (by kernel_rfl)) Tryd.func54 (by kernel_rfl) LL impl_wordSet_list_an ?_
  intro avs H r H' h
  unfold F_impl_wordSet_list at h
  split at h
  · refine Awp.cast ?_ ?_ ?_ (impl_wordSet_list_e _ h) <;> kernel_rfl
  · simp [Ans.no, Ans.run] at h


/-! loop.example/headtrees/impl.RootOf -/

def impl_RootOf_an : Ann := (.seq (.leaf [0]) (.seq (.seq (.leaf [0, 6]) (.cond (.seq (.leaf [2]) (.leaf [2])) (.leaf [0]))) (.seq (.leaf [3]) (.seq (.block (.loop (.seq (.seq (.leaf [3, 9]) (.cond (.leaf [3]) (.leaf [3]))) (.block (.leaf [3]))))) (.seq (.leaf [2]) (.leaf [2]))))))

noncomputable def impl_RootOf_ctx : Ctx := ⟨tlook tys, olook [(31, F_impl_TreeOk), (64, F_impl_walker_up)], ioF, 0, false, []⟩

theorem impl_RootOf_n1_l (x3172 : List Int) : Link impl_RootOf_ctx LL (Code.seq (cq [0] (bodyOf Tryd.f24)) (Code.seq (cq [0,1] (bodyOf Tryd.f24)) (cq [0,1,1] (bodyOf Tryd.f24)))) (Ann.seq (aq [0] impl_RootOf_an) (Ann.seq (aq [0,1] impl_RootOf_an) (aq [0,1,1] impl_RootOf_an))) ⟨mkE 12 0 [(0, dL x3172)], []⟩ (impl_RootOf_n1 x3172) (Sum.elim (fun (t : Unit) => (Exit.normal, ⟨mkE 12 0 [(3, .ptr 0 0)], [some (.box [dL x3172, dI 1, dI 0])]⟩)) (fun (t : Int) => (Exit.ret, ⟨mkE 12 0 [(2, dI t)], []⟩))) := by
  refine Link.of fun K h => ?_
  simp only [impl_RootOf_n1, wpO_bind, wpO_cond, wpO_map, wpO_some] at h
  exact Awp.of (by kernel_rfl) h

theorem impl_RootOf_n2_l (x3172 : List Int) (x3185 : Int) (x3186 : Int) : Link impl_RootOf_ctx LL (cq [0,0,0,1,1,1] (bodyOf Tryd.f24)) (aq [0,0,0,1,1,1] impl_RootOf_an) ⟨mkE 12 0 [(3, .ptr 0 0)], [some (.box [dL x3172, dI x3185, dI x3186])]⟩ (impl_RootOf_n2 x3172 x3185 x3186) (Sum.elim (fun (t : Int × Int) => (Exit.normal, ⟨mkE 12 0 [(3, .ptr 0 0)], [some (.box [dL x3172, dI t.1, dI t.2])]⟩)) (fun (t : Int × Int) => ((Exit.exit 0), ⟨mkE 12 0 [(3, .ptr 0 0)], [some (.box [dL x3172, dI t.1, dI t.2])]⟩))) := by
  refine Link.of fun K h => ?_
  simp only [impl_RootOf_n2, wpO_bind, wpO_cond, wpO_map, wpO_some] at h
  exact Awp.of (by kernel_rfl) h

def impl_RootOf_n3_l (x3172 : List Int) := (link_loop (mk := fun (s : Int × Int) => ⟨mkE 12 0 [(3, .ptr 0 0)], [some (.box [dL x3172, dI s.1, dI s.2])]⟩) (fin := (fun (t : Int × Int) => ((Exit.exit 0), ⟨mkE 12 0 [(3, .ptr 0 0)], [some (.box [dL x3172, dI t.1, dI t.2])]⟩))) (by
  rintro t f K h
  · exact h) (fun s => link_map (impl_RootOf_n2_l x3172 s.1 s.2) (Sum.elim (fun (t : Int × Int) => Sum.inl (t.1, t.2)) (fun (t : Int × Int) => Sum.inr t)) (by
  rintro (t | t)
  · kernel_rfl
  · kernel_rfl)) (1, 0))

def impl_RootOf_n4_l (x3172 : List Int) := (link_block (fin2 := (fun (t : Int × Int) => (Exit.normal, ⟨mkE 12 0 [(3, .ptr 0 0)], [some (.box [dL x3172, dI t.1, dI t.2])]⟩))) (id := 0) (impl_RootOf_n3_l x3172) (fun (t : Int × Int) => (t.1, t.2)) (by
  rintro t K h
  · exact Eq.mp (by kernel_rfl) h))

theorem impl_RootOf_n5_l (x3172 : List Int) (x3193 : Int) (x3194 : Int) : Link impl_RootOf_ctx LL (cq [1,1,1,1] (bodyOf Tryd.f24)) (aq [1,1,1,1] impl_RootOf_an) ⟨mkE 12 0 [(3, .ptr 0 0)], [some (.box [dL x3172, dI x3193, dI x3194])]⟩ (impl_RootOf_n5 x3193) (fun (t : Int) => (Exit.ret, ⟨mkE 12 0 [(2, dI t)], []⟩)) := by
  refine Link.of fun K h => ?_
  simp only [impl_RootOf_n5, wpO_bind, wpO_cond, wpO_map, wpO_some] at h
  exact Awp.of (by kernel_rfl) h

def impl_RootOf_n6_l (x3172 : List Int) := (link_seq (impl_RootOf_n4_l x3172) (fun (t : Int × Int) => (impl_RootOf_n5_l x3172 t.1 t.2)))

def impl_RootOf_n7_l (x3172 : List Int) := (link_group (c := (cq [0,1,1] (bodyOf Tryd.f24))) (a := (aq [0,1,1] impl_RootOf_an)) [(cq [0] (bodyOf Tryd.f24)), (cq [0,1] (bodyOf Tryd.f24))] [(aq [0] impl_RootOf_an), (aq [0,1] impl_RootOf_an)] rfl (link_seq2 (impl_RootOf_n1_l x3172) (fun (t : Unit) => (impl_RootOf_n6_l x3172)) (fun (t : Int) => t) (by
  rintro t
  · kernel_rfl) (by
  rintro t f K h
  · exact h)))

theorem impl_RootOf_e (x3172 : List Int) {r : AV} {H' : Heap} (h : (Ans.mk _ (impl_RootOf x3172) (fun (t : Int) => (dI t, [])) [] none).run = some (r, H')) : Awp impl_RootOf_ctx LL (bodyOf Tryd.f24) impl_RootOf_an ⟨mkE 12 0 [(0, dL x3172)], []⟩ (Ret (tlook tys) Tryd.f24.results.toList r H') :=
  ret_of' (Link.cast (by kernel_rfl) (by kernel_rfl) (impl_RootOf_n7_l x3172)) (by unfold impl_RootOf; kernel_rfl) (by
  intro t
  exact ret_mk [dI t] (by kernel_rfl) (by kernel_rfl) (by kernel_rfl) (by kernel_rfl)) h

def F_impl_RootOf : Fun := fun avs H =>
  match avs, H with
  | [.dat (.list (.int .i64)) x3172], [] => ⟨_, impl_RootOf x3172, fun (t : Int) => (dI t, []), [], none⟩
  | _, _ => Ans.no

theorem impl_RootOf_sound : Sound Tryd.prog 24 F_impl_RootOf := by
  refine fn_sound' (C := impl_RootOf_ctx) (c := bodyOf Tryd.f24) (cok_of tys_ok (allc impl_TreeOk_sound (allc impl_walker_up_sound alln)) (allc Tryd.call31 (allc Tryd.call64 alln)) (by kernel_rfl)) Tryd.func24 (by kernel_rfl) LL impl_RootOf_an ?_
  intro avs H r H' h
  unfold F_impl_RootOf at h
  split at h
  · refine Awp.cast ?_ ?_ ?_ (impl_RootOf_e _ h) <;> kernel_rfl
  · simp [Ans.no, Ans.run] at h


/-! loop.example/headtrees/spec.RootOf -/

def spec_RootOf_an : Ann := (.seq (.leaf [0]) (.seq (.seq (.leaf [0, 3]) (.block (.loop (.seq (.seq (.leaf [0, 3, 11]) (.cond (.leaf [0, 3]) (.leaf []))) (.seq (.block (.seq (.leaf [0, 3, 18]) (.cond (.seq (.leaf [2]) (.leaf [2])) (.leaf [0, 3])))) (.leaf [0, 3])))))) (.seq (.leaf [2]) (.leaf [2]))))

noncomputable def spec_RootOf_ctx : Ctx := ⟨tlook tys, olook [(51, F_spec_TreeOk)], ioF, 0, false, []⟩

theorem spec_RootOf_n1_l (x4097 : List Int) : Link spec_RootOf_ctx LL (cq [0] (bodyOf Tryd.f68)) (aq [0] spec_RootOf_an) ⟨mkE 21 0 [(0, dL x4097)], []⟩ (spec_RootOf_n1) (fun (t : Unit) => (Exit.normal, ⟨mkE 21 0 [(0, dL x4097)], []⟩)) := by
  refine Link.of fun K h => ?_
  simp only [spec_RootOf_n1, wpO_bind, wpO_cond, wpO_map, wpO_some] at h
  exact Awp.of (by kernel_rfl) h

theorem spec_RootOf_n2_l (x4097 : List Int) : Link spec_RootOf_ctx LL (cq [0,0,1] (bodyOf Tryd.f68)) (aq [0,0,1] spec_RootOf_an) ⟨mkE 21 0 [(0, dL x4097)], []⟩ (spec_RootOf_n2) (fun (t : Unit) => (Exit.normal, ⟨mkE 21 0 [(0, dL x4097), (3, dI 0)], []⟩)) := by
  refine Link.of fun K h => ?_
  simp only [spec_RootOf_n2, wpO_bind, wpO_cond, wpO_map, wpO_some] at h
  exact Awp.of (by kernel_rfl) h

theorem spec_RootOf_n3_l (x4097 : List Int) (x4114 : Int) : Link spec_RootOf_ctx LL (cq [0,0,1,0,1] (bodyOf Tryd.f68)) (aq [0,0,1,0,1] spec_RootOf_an) ⟨mkE 21 0 [(0, dL x4097), (3, dI x4114)], []⟩ (spec_RootOf_n3 x4097 x4114) (Sum.elim (fun (t : Int) => (Exit.normal, ⟨mkE 21 0 [(0, dL x4097), (3, dI t)], []⟩)) (Sum.elim (fun (t : Int) => (Exit.ret, ⟨mkE 21 0 [(2, dI t)], []⟩)) (fun (t : Unit) => ((Exit.exit 0), ⟨mkE 21 0 [], []⟩)))) := by
  refine Link.of fun K h => ?_
  simp only [spec_RootOf_n3, wpO_bind, wpO_cond, wpO_map, wpO_some] at h
  exact Awp.of (by kernel_rfl) h

def spec_RootOf_n4_l (x4097 : List Int) := (link_loop (mk := fun (s : Int) => ⟨mkE 21 0 [(0, dL x4097), (3, dI s)], []⟩) (fin := (Sum.elim (fun (t : Int) => (Exit.ret, ⟨mkE 21 0 [(2, dI t)], []⟩)) (fun (t : Unit) => ((Exit.exit 0), ⟨mkE 21 0 [], []⟩)))) (by
  rintro (t | t) f K h
  · exact h
  · exact h) (fun s => link_map (spec_RootOf_n3_l x4097 s) (Sum.elim (fun (t : Int) => Sum.inl t) (Sum.elim (fun (t : Int) => Sum.inr (Sum.inl t)) (fun (t : Unit) => Sum.inr (Sum.inr t)))) (by
  rintro (t | t | t)
  · kernel_rfl
  · kernel_rfl
  · kernel_rfl)) 0)

def spec_RootOf_n5_l (x4097 : List Int) := (link_block (fin2 := (Sum.elim (fun (t : Unit) => (Exit.normal, ⟨mkE 21 0 [], []⟩)) (fun (t : Int) => (Exit.ret, ⟨mkE 21 0 [(2, dI t)], []⟩)))) (id := 0) (spec_RootOf_n4_l x4097) (Sum.elim (fun (t : Int) => (Sum.inr t)) (fun (t : Unit) => (Sum.inl ()))) (by
  rintro (t | t) K h
  · exact Eq.mp (by kernel_rfl) h
  · exact Eq.mp (by kernel_rfl) h))

def spec_RootOf_n6_l (x4097 : List Int) := (link_seq (spec_RootOf_n2_l x4097) (fun (t : Unit) => (spec_RootOf_n5_l x4097)))

theorem spec_RootOf_n7_l : Link spec_RootOf_ctx LL (cq [1,1] (bodyOf Tryd.f68)) (aq [1,1] spec_RootOf_an) ⟨mkE 21 0 [], []⟩ (spec_RootOf_n7) (fun (t : Int) => (Exit.ret, ⟨mkE 21 0 [(2, dI t)], []⟩)) := by
  refine Link.of fun K h => ?_
  simp only [spec_RootOf_n7, wpO_bind, wpO_cond, wpO_map, wpO_some] at h
  exact Awp.of (by kernel_rfl) h

def spec_RootOf_n8_l (x4097 : List Int) := (link_seq2 (spec_RootOf_n6_l x4097) (fun (t : Unit) => (spec_RootOf_n7_l)) (fun (t : Int) => t) (by
  rintro t
  · kernel_rfl) (by
  rintro t f K h
  · exact h))

def spec_RootOf_n9_l (x4097 : List Int) := (link_seq (spec_RootOf_n1_l x4097) (fun (t : Unit) => (spec_RootOf_n8_l x4097)))

theorem spec_RootOf_e (x4097 : List Int) {r : AV} {H' : Heap} (h : (Ans.mk _ (spec_RootOf x4097) (fun (t : Int) => (dI t, [])) [] none).run = some (r, H')) : Awp spec_RootOf_ctx LL (bodyOf Tryd.f68) spec_RootOf_an ⟨mkE 21 0 [(0, dL x4097)], []⟩ (Ret (tlook tys) Tryd.f68.results.toList r H') :=
  ret_of' (Link.cast (by kernel_rfl) (by kernel_rfl) (spec_RootOf_n9_l x4097)) (by unfold spec_RootOf; kernel_rfl) (by
  intro t
  exact ret_mk [dI t] (by kernel_rfl) (by kernel_rfl) (by kernel_rfl) (by kernel_rfl)) h

def F_spec_RootOf : Fun := fun avs H =>
  match avs, H with
  | [.dat (.list (.int .i64)) x4097], [] => ⟨_, spec_RootOf x4097, fun (t : Int) => (dI t, []), [], none⟩
  | _, _ => Ans.no

theorem spec_RootOf_sound : Sound Tryd.prog 68 F_spec_RootOf := by
  refine fn_sound' (C := spec_RootOf_ctx) (c := bodyOf Tryd.f68) (cok_of tys_ok (allc spec_TreeOk_sound alln) (allc Tryd.call51 alln) (by kernel_rfl)) Tryd.func68 (by kernel_rfl) LL spec_RootOf_an ?_
  intro avs H r H' h
  unfold F_spec_RootOf at h
  split at h
  · refine Awp.cast ?_ ?_ ?_ (spec_RootOf_e _ h) <;> kernel_rfl
  · simp [Ans.no, Ans.run] at h


/-! loop.example/headtrees/spec.OrderOk -/

def spec_OrderOk_an : Ann := (.seq (.leaf [0, 1]) (.seq (.seq (.leaf [0, 1, 5]) (.block (.loop (.seq (.seq (.leaf [0, 1, 5, 10]) (.cond (.leaf [0, 1, 5]) (.leaf [0, 1]))) (.seq (.block (.seq (.seq (.leaf [0, 1, 5, 19]) (.cond (.seq (.leaf [4]) (.leaf [4])) (.leaf [0, 1, 5]))) (.seq (.leaf [0, 1, 5, 6]) (.block (.loop (.seq (.seq (.leaf [0, 1, 5, 6, 22]) (.cond (.leaf [0, 1, 5, 6]) (.leaf [0, 1, 5]))) (.seq (.block (.seq (.draw [] [0, 1, 2, 3, 4, 5, 6, 7, 8] [] [0, 1, 5, 6, 33]) (.cond (.seq (.leaf [4]) (.leaf [4])) (.leaf [0, 1, 5, 6])))) (.leaf [0, 1, 5, 6])))))))) (.leaf [0, 1, 5])))))) (.seq (.leaf [4]) (.leaf [4]))))

noncomputable def spec_OrderOk_ctx : Ctx := ⟨tlook tys, olook [(52, F_spec_l1In)], ioF, 0, false, []⟩

theorem spec_OrderOk_n1_l (x4798 : List Int) (x4799 : Int) : Link spec_OrderOk_ctx LL (cq [0] (bodyOf Tryd.f106)) (aq [0] spec_OrderOk_an) ⟨mkE 42 0 [(0, dL x4798), (1, dI x4799)], []⟩ (spec_OrderOk_n1) (fun (t : Unit) => (Exit.normal, ⟨mkE 42 0 [(0, dL x4798), (1, dI x4799)], []⟩)) := by
  refine Link.of fun K h => ?_
  simp only [spec_OrderOk_n1, wpO_bind, wpO_cond, wpO_map, wpO_some] at h
  exact Awp.of (by kernel_rfl) h

theorem spec_OrderOk_n2_l (x4798 : List Int) (x4799 : Int) : Link spec_OrderOk_ctx LL (cq [0,0,1] (bodyOf Tryd.f106)) (aq [0,0,1] spec_OrderOk_an) ⟨mkE 42 0 [(0, dL x4798), (1, dI x4799)], []⟩ (spec_OrderOk_n2) (fun (t : Unit) => (Exit.normal, ⟨mkE 42 0 [(0, dL x4798), (1, dI x4799), (5, dI 0)], []⟩)) := by
  refine Link.of fun K h => ?_
  simp only [spec_OrderOk_n2, wpO_bind, wpO_cond, wpO_map, wpO_some] at h
  exact Awp.of (by kernel_rfl) h

theorem spec_OrderOk_n3_l (x4798 : List Int) (x4799 : Int) (x4830 : Int) : Link spec_OrderOk_ctx LL (cq [0,0,0,1,0,1] (bodyOf Tryd.f106)) (aq [0,0,0,1,0,1] spec_OrderOk_an) ⟨mkE 42 0 [(0, dL x4798), (1, dI x4799), (5, dI x4830)], []⟩ (spec_OrderOk_n3 x4798 x4830) (Sum.elim (fun (t : Unit) => (Exit.normal, ⟨mkE 42 0 [(0, dL x4798), (1, dI x4799), (5, dI x4830)], []⟩)) (fun (t : Unit) => ((Exit.exit 0), ⟨mkE 42 0 [(0, dL x4798), (1, dI x4799)], []⟩))) := by
  refine Link.of fun K h => ?_
  simp only [spec_OrderOk_n3, wpO_bind, wpO_cond, wpO_map, wpO_some] at h
  exact Awp.of (by kernel_rfl) h

theorem spec_OrderOk_n4_l (x4798 : List Int) (x4799 : Int) (x4830 : Int) : Link spec_OrderOk_ctx LL (Code.seq (cq [0,0,0,1,0,0,1,0,1] (bodyOf Tryd.f106)) (cq [0,1,0,0,1,0,0,1,0,1] (bodyOf Tryd.f106))) (Ann.seq (aq [0,0,0,1,0,0,1,0,1] spec_OrderOk_an) (aq [0,1,0,0,1,0,0,1,0,1] spec_OrderOk_an)) ⟨mkE 42 0 [(0, dL x4798), (1, dI x4799), (5, dI x4830)], []⟩ (spec_OrderOk_n4 x4798 x4799 x4830) (Sum.elim (fun (t : Unit) => (Exit.normal, ⟨mkE 42 0 [(0, dL x4798), (1, dI x4799), (5, dI x4830), (6, dI 0)], []⟩)) (fun (t : Bool) => (Exit.ret, ⟨mkE 42 0 [(4, dB t)], []⟩))) := by
  refine Link.of fun K h => ?_
  simp only [spec_OrderOk_n4, wpO_bind, wpO_cond, wpO_map, wpO_some] at h
  exact Awp.of (by kernel_rfl) h

theorem spec_OrderOk_n5_l (x4798 : List Int) (x4799 : Int) (x4830 : Int) (x4849 : Int) : Link spec_OrderOk_ctx LL (cq [0,0,1,1,0,0,1,0,0,1,0,1] (bodyOf Tryd.f106)) (aq [0,0,1,1,0,0,1,0,0,1,0,1] spec_OrderOk_an) ⟨mkE 42 0 [(0, dL x4798), (1, dI x4799), (5, dI x4830), (6, dI x4849)], []⟩ (spec_OrderOk_n5 x4798 x4830 x4849) (Sum.elim (fun (t : Int) => (Exit.normal, ⟨mkE 42 0 [(0, dL x4798), (1, dI x4799), (5, dI x4830), (6, dI t)], []⟩)) (Sum.elim (fun (t : Bool) => (Exit.ret, ⟨mkE 42 0 [(4, dB t)], []⟩)) (fun (t : Unit) => ((Exit.exit 2), ⟨mkE 42 0 [(0, dL x4798), (1, dI x4799), (5, dI x4830)], []⟩)))) := by
  refine Link.of fun K h => ?_
  simp only [spec_OrderOk_n5, wpO_bind, wpO_cond, wpO_map, wpO_some] at h
  exact Awp.of (by kernel_rfl) h

def spec_OrderOk_n6_l (x4798 : List Int) (x4799 : Int) (x4830 : Int) := (link_loop (mk := fun (s : Int) => ⟨mkE 42 0 [(0, dL x4798), (1, dI x4799), (5, dI x4830), (6, dI s)], []⟩) (fin := (Sum.elim (fun (t : Bool) => (Exit.ret, ⟨mkE 42 0 [(4, dB t)], []⟩)) (fun (t : Unit) => ((Exit.exit 2), ⟨mkE 42 0 [(0, dL x4798), (1, dI x4799), (5, dI x4830)], []⟩)))) (by
  rintro (t | t) f K h
  · exact h
  · exact h) (fun s => link_map (spec_OrderOk_n5_l x4798 x4799 x4830 s) (Sum.elim (fun (t : Int) => Sum.inl t) (Sum.elim (fun (t : Bool) => Sum.inr (Sum.inl t)) (fun (t : Unit) => Sum.inr (Sum.inr t)))) (by
  rintro (t | t | t)
  · kernel_rfl
  · kernel_rfl
  · kernel_rfl)) 0)

def spec_OrderOk_n7_l (x4798 : List Int) (x4799 : Int) (x4830 : Int) := (link_block (fin2 := (Sum.elim (fun (t : Unit) => (Exit.normal, ⟨mkE 42 0 [(0, dL x4798), (1, dI x4799), (5, dI x4830)], []⟩)) (fun (t : Bool) => (Exit.ret, ⟨mkE 42 0 [(4, dB t)], []⟩)))) (id := 2) (spec_OrderOk_n6_l x4798 x4799 x4830) (Sum.elim (fun (t : Bool) => (Sum.inr t)) (fun (t : Unit) => (Sum.inl ()))) (by
  rintro (t | t) K h
  · exact Eq.mp (by kernel_rfl) h
  · exact Eq.mp (by kernel_rfl) h))

def spec_OrderOk_n8_l (x4798 : List Int) (x4799 : Int) (x4830 : Int) := (link_group (c := (cq [0,1,0,0,1,0,0,1,0,1] (bodyOf Tryd.f106))) (a := (aq [0,1,0,0,1,0,0,1,0,1] spec_OrderOk_an)) [(cq [0,0,0,1,0,0,1,0,1] (bodyOf Tryd.f106))] [(aq [0,0,0,1,0,0,1,0,1] spec_OrderOk_an)] rfl (link_seq2 (spec_OrderOk_n4_l x4798 x4799 x4830) (fun (t : Unit) => (spec_OrderOk_n7_l x4798 x4799 x4830)) (fun (t : Bool) => (Sum.inr t)) (by
  rintro t
  · kernel_rfl) (by
  rintro t f K h
  · exact h)))

def spec_OrderOk_n9_l (x4798 : List Int) (x4799 : Int) (x4830 : Int) := (link_block (fin2 := (Sum.elim (fun (t : Unit) => (Exit.normal, ⟨mkE 42 0 [(0, dL x4798), (1, dI x4799), (5, dI x4830)], []⟩)) (fun (t : Bool) => (Exit.ret, ⟨mkE 42 0 [(4, dB t)], []⟩)))) (id := 1) (spec_OrderOk_n8_l x4798 x4799 x4830) (Sum.elim (fun (t : Unit) => (Sum.inl ())) (fun (t : Bool) => (Sum.inr t))) (by
  rintro (t | t) K h
  · exact Eq.mp (by kernel_rfl) h
  · exact Eq.mp (by kernel_rfl) h))

theorem spec_OrderOk_n10_l (x4798 : List Int) (x4799 : Int) (x4830 : Int) : Link spec_OrderOk_ctx LL (cq [1,1,0,0,1,0,1] (bodyOf Tryd.f106)) (aq [1,1,0,0,1,0,1] spec_OrderOk_an) ⟨mkE 42 0 [(0, dL x4798), (1, dI x4799), (5, dI x4830)], []⟩ (spec_OrderOk_n10 x4830) (fun (t : Int) => (Exit.normal, ⟨mkE 42 0 [(0, dL x4798), (1, dI x4799), (5, dI t)], []⟩)) := by
  refine Link.of fun K h => ?_
  simp only [spec_OrderOk_n10, wpO_bind, wpO_cond, wpO_map, wpO_some] at h
  exact Awp.of (by kernel_rfl) h

def spec_OrderOk_n11_l (x4798 : List Int) (x4799 : Int) (x4830 : Int) := (link_seq2 (spec_OrderOk_n9_l x4798 x4799 x4830) (fun (t : Unit) => (link_map (fin2 := (Sum.elim (fun (t : Int) => (Exit.normal, ⟨mkE 42 0 [(0, dL x4798), (1, dI x4799), (5, dI t)], []⟩)) (fun (t : Bool) => (Exit.ret, ⟨mkE 42 0 [(4, dB t)], []⟩)))) (spec_OrderOk_n10_l x4798 x4799 x4830) (fun (t : Int) => (Sum.inl t)) (by
  rintro t
  · kernel_rfl))) (fun (t : Bool) => (Sum.inr t)) (by
  rintro t
  · kernel_rfl) (by
  rintro t f K h
  · exact h))

def spec_OrderOk_n12_l (x4798 : List Int) (x4799 : Int) (x4830 : Int) := (link_seq2 (spec_OrderOk_n3_l x4798 x4799 x4830) (fun (t : Unit) => (link_map (fin2 := (Sum.elim (fun (t : Int) => (Exit.normal, ⟨mkE 42 0 [(0, dL x4798), (1, dI x4799), (5, dI t)], []⟩)) (Sum.elim (fun (t : Bool) => (Exit.ret, ⟨mkE 42 0 [(4, dB t)], []⟩)) (fun (t : Unit) => ((Exit.exit 0), ⟨mkE 42 0 [(0, dL x4798), (1, dI x4799)], []⟩))))) (spec_OrderOk_n11_l x4798 x4799 x4830) (Sum.elim (fun (t : Int) => (Sum.inl t)) (fun (t : Bool) => (Sum.inr (Sum.inl t)))) (by
  rintro (t | t)
  · kernel_rfl
  · kernel_rfl))) (fun (t : Unit) => (Sum.inr (Sum.inr t))) (by
  rintro t
  · kernel_rfl) (by
  rintro t f K h
  · exact h))

def spec_OrderOk_n13_l (x4798 : List Int) (x4799 : Int) := (link_loop (mk := fun (s : Int) => ⟨mkE 42 0 [(0, dL x4798), (1, dI x4799), (5, dI s)], []⟩) (fin := (Sum.elim (fun (t : Bool) => (Exit.ret, ⟨mkE 42 0 [(4, dB t)], []⟩)) (fun (t : Unit) => ((Exit.exit 0), ⟨mkE 42 0 [(0, dL x4798), (1, dI x4799)], []⟩)))) (by
  rintro (t | t) f K h
  · exact h
  · exact h) (fun s => link_map (spec_OrderOk_n12_l x4798 x4799 s) (Sum.elim (fun (t : Int) => Sum.inl t) (Sum.elim (fun (t : Bool) => Sum.inr (Sum.inl t)) (fun (t : Unit) => Sum.inr (Sum.inr t)))) (by
  rintro (t | t | t)
  · kernel_rfl
  · kernel_rfl
  · kernel_rfl)) 0)

def spec_OrderOk_n14_l (x4798 : List Int) (x4799 : Int) := (link_block (fin2 := (Sum.elim (fun (t : Unit) => (Exit.normal, ⟨mkE 42 0 [(0, dL x4798), (1, dI x4799)], []⟩)) (fun (t : Bool) => (Exit.ret, ⟨mkE 42 0 [(4, dB t)], []⟩)))) (id := 0) (spec_OrderOk_n13_l x4798 x4799) (Sum.elim (fun (t : Bool) => (Sum.inr t)) (fun (t : Unit) => (Sum.inl ()))) (by
  rintro (t | t) K h
  · exact Eq.mp (by kernel_rfl) h
  · exact Eq.mp (by kernel_rfl) h))

def spec_OrderOk_n15_l (x4798 : List Int) (x4799 : Int) := (link_seq (spec_OrderOk_n2_l x4798 x4799) (fun (t : Unit) => (spec_OrderOk_n14_l x4798 x4799)))

theorem spec_OrderOk_n16_l (x4798 : List Int) (x4799 : Int) : Link spec_OrderOk_ctx LL (cq [1,1] (bodyOf Tryd.f106)) (aq [1,1] spec_OrderOk_an) ⟨mkE 42 0 [(0, dL x4798), (1, dI x4799)], []⟩ (spec_OrderOk_n16 x4798 x4799) (fun (t : Bool) => (Exit.ret, ⟨mkE 42 0 [(4, dB t)], []⟩)) := by
  refine Link.of fun K h => ?_
  simp only [spec_OrderOk_n16, wpO_bind, wpO_cond, wpO_map, wpO_some] at h
  exact Awp.of (by kernel_rfl) h

def spec_OrderOk_n17_l (x4798 : List Int) (x4799 : Int) := (link_seq2 (spec_OrderOk_n15_l x4798 x4799) (fun (t : Unit) => (spec_OrderOk_n16_l x4798 x4799)) (fun (t : Bool) => t) (by
  rintro t
  · kernel_rfl) (by
  rintro t f K h
  · exact h))

def spec_OrderOk_n18_l (x4798 : List Int) (x4799 : Int) := (link_seq (spec_OrderOk_n1_l x4798 x4799) (fun (t : Unit) => (spec_OrderOk_n17_l x4798 x4799)))

theorem spec_OrderOk_e (x4798 : List Int) (x4799 : Int) {r : AV} {H' : Heap} (h : (Ans.mk _ (spec_OrderOk x4798 x4799) (fun (t : Bool) => (dB t, [])) [] none).run = some (r, H')) : Awp spec_OrderOk_ctx LL (bodyOf Tryd.f106) spec_OrderOk_an ⟨mkE 42 0 [(0, dL x4798), (1, dI x4799)], []⟩ (Ret (tlook tys) Tryd.f106.results.toList r H') :=
  ret_of' (Link.cast (by kernel_rfl) (by kernel_rfl) (spec_OrderOk_n18_l x4798 x4799)) (by unfold spec_OrderOk; kernel_rfl) (by
  intro t
  exact ret_mk [dB t] (by kernel_rfl) (by kernel_rfl) (by kernel_rfl) (by kernel_rfl)) h

def F_spec_OrderOk : Fun := fun avs H =>
  match avs, H with
  | [.dat (.list (.int .i64)) x4798, .dat (.int .i64) x4799], [] => ⟨_, spec_OrderOk x4798 x4799, fun (t : Bool) => (dB t, []), [], none⟩
  | _, _ => Ans.no

theorem spec_OrderOk_sound : Sound Tryd.prog 106 F_spec_OrderOk := by
  refine fn_sound' (C := spec_OrderOk_ctx) (c := bodyOf Tryd.f106) (cok_of tys_ok (allc spec_l1In_sound alln) (allc Tryd.call52 alln) (by kernel_rfl)) Tryd.func106 (by kernel_rfl) LL spec_OrderOk_an ?_
  intro avs H r H' h
  unfold F_spec_OrderOk at h
  split at h
  · refine Awp.cast ?_ ?_ ?_ (spec_OrderOk_e _ _ h) <;> kernel_rfl
  · simp [Ans.no, Ans.run] at h


/-! loop.example/headtrees/impl.appendFlat, loop.example/headtrees/impl.appendEachFlat -/

def impl_appendFlat_an : Ann := (.seq (.leaf [0, 1, 2]) (.seq (.leaf [0, 1, 2, 7, 8]) (.seq (.leaf [0, 1, 8]) (.seq (.leaf [6]) (.leaf [6])))))

def impl_appendEachFlat_an : Ann := (.seq (.leaf [0, 1, 2]) (.seq (.seq (.leaf [0, 1, 10, 11, 12]) (.block (.loop (.seq (.leaf [0, 1, 10, 11, 12, 13]) (.seq (.cond (.leaf [0, 1, 10, 11, 12]) (.leaf [0])) (.seq (.block (.seq (.leaf [0, 1, 8, 10, 11, 12]) (.leaf [0, 1, 10, 11, 12]))) (.leaf [0, 1, 10, 11, 12]))))))) (.seq (.leaf [6]) (.leaf [6]))))

def F_impl_appendFlat_fuel (n : Nat) : Fun := fun avs H =>
  match avs, H with
  | [.slc 0, .dat (.list (.int .i64)) x5085, .dat (.int .i64) x5086], [some (.seq (.int .i64) x5087)] => ⟨_, impl_appendFlat_fuel n x5085 x5086 x5087, fun (t : (List Int)) => (.slc 0, [some (sI t)]), [0], none⟩
  | _, _ => Ans.no

def F_impl_appendEachFlat_fuel (n : Nat) : Fun := fun avs H =>
  match avs, H with
  | [.slc 0, .dat (.list (.int .i64)) x5140, .dat (.int .u64) x5141], [some (.seq (.int .i64) x5142)] => ⟨_, impl_appendEachFlat_fuel n x5140 x5141 x5142, fun (t : (List Int)) => (.slc 0, [some (sI t)]), [0], none⟩
  | _, _ => Ans.no

noncomputable def impl_appendFlat_ctx (n : Nat) : Ctx := ⟨tlook tys, olook [(49, F_impl_dependentsBeside), (104, F_impl_appendEachFlat_fuel n)], ioF, 1, false, [0]⟩

noncomputable def impl_appendEachFlat_ctx (n : Nat) : Ctx := ⟨tlook tys, olook [(54, F_impl_wordSet_list), (70, F_impl_appendFlat_fuel n)], ioF, 1, false, [0]⟩

theorem impl_appendFlat_n1_l (n : Nat) (x5085 : List Int) (x5086 : Int) (x5087 : List Int) : Link (impl_appendFlat_ctx n) LL (bodyOf Tryd.f70) impl_appendFlat_an ⟨mkE 26 0 [(0, .slc 0), (1, dL x5085), (2, dI x5086)], [some (sI x5087)]⟩ (impl_appendFlat_n1 (impl_appendFlat_fuel n) (impl_appendEachFlat_fuel n) x5085 x5086 x5087) (fun (t : (List Int)) => (Exit.ret, ⟨mkE 26 0 [(6, .slc 0)], [some (sI t)]⟩)) := by
  refine Link.of fun K h => ?_
  simp only [impl_appendFlat_n1, wpO_bind, wpO_cond, wpO_map, wpO_some] at h
  exact Awp.of (by kernel_rfl) h

theorem impl_appendFlat_e (n : Nat) (x5085 : List Int) (x5086 : Int) (x5087 : List Int) {r : AV} {H' : Heap} (h : (Ans.mk _ (impl_appendFlat_fuel (n + 1) x5085 x5086 x5087) (fun (t : (List Int)) => (.slc 0, [some (sI t)])) [0] none).run = some (r, H')) : Awp (impl_appendFlat_ctx n) LL (bodyOf Tryd.f70) impl_appendFlat_an ⟨mkE 26 0 [(0, .slc 0), (1, dL x5085), (2, dI x5086)], [some (sI x5087)]⟩ (Ret (tlook tys) Tryd.f70.results.toList r H') :=
  ret_of' (impl_appendFlat_n1_l n x5085 x5086 x5087) (by (show _ = _); kernel_rfl) (by
  intro t
  exact ret_mk [.slc 0] (by kernel_rfl) (by kernel_rfl) (by kernel_rfl) (by kernel_rfl)) h

theorem impl_appendEachFlat_n1_l (n : Nat) (x5140 : List Int) (x5141 : Int) (x5142 : List Int) : Link (impl_appendEachFlat_ctx n) LL (cq [0] (bodyOf Tryd.f104)) (aq [0] impl_appendEachFlat_an) ⟨mkE 22 0 [(0, .slc 0), (1, dL x5140), (2, dW x5141)], [some (sI x5142)]⟩ (impl_appendEachFlat_n1 (impl_appendFlat_fuel n) (impl_appendEachFlat_fuel n)) (fun (t : Unit) => (Exit.normal, ⟨mkE 22 0 [(0, .slc 0), (1, dL x5140), (2, dW x5141)], [some (sI x5142)]⟩)) := by
  refine Link.of fun K h => ?_
  simp only [impl_appendEachFlat_n1, wpO_bind, wpO_cond, wpO_map, wpO_some] at h
  exact Awp.of (by kernel_rfl) h

theorem impl_appendEachFlat_n2_l (n : Nat) (x5140 : List Int) (x5141 : Int) (x5142 : List Int) : Link (impl_appendEachFlat_ctx n) LL (cq [0,0,1] (bodyOf Tryd.f104)) (aq [0,0,1] impl_appendEachFlat_an) ⟨mkE 22 0 [(0, .slc 0), (1, dL x5140), (2, dW x5141)], [some (sI x5142)]⟩ (impl_appendEachFlat_n2 (impl_appendFlat_fuel n) (impl_appendEachFlat_fuel n) x5141) (fun (t : Int × (List Int)) => (Exit.normal, ⟨mkE 22 0 [(0, .slc 0), (1, dL x5140), (10, .slc 1), (11, dI t.1), (12, dI 0)], [some (sI x5142), some (sI t.2)]⟩)) := by
  refine Link.of fun K h => ?_
  simp only [impl_appendEachFlat_n2, wpO_bind, wpO_cond, wpO_map, wpO_some] at h
  exact Awp.of (by kernel_rfl) h

theorem impl_appendEachFlat_n3_l (n : Nat) (x5140 : List Int) (x5170 : Int) (x5182 : Int) (x5183 : List Int) (x5169 : List Int) : Link (impl_appendEachFlat_ctx n) LL (cq [0,0,1,0,1] (bodyOf Tryd.f104)) (aq [0,0,1,0,1] impl_appendEachFlat_an) ⟨mkE 22 0 [(0, .slc 0), (1, dL x5140), (10, .slc 1), (11, dI x5170), (12, dI x5182)], [some (sI x5183), some (sI x5169)]⟩ (impl_appendEachFlat_n3 (impl_appendFlat_fuel n) (impl_appendEachFlat_fuel n) x5140 x5170 x5182 x5183 x5169) (Sum.elim (fun (t : Int × (List Int)) => (Exit.normal, ⟨mkE 22 0 [(0, .slc 0), (1, dL x5140), (10, .slc 1), (11, dI x5170), (12, dI t.1)], [some (sI t.2), some (sI x5169)]⟩)) (fun (t : (List Int)) => ((Exit.exit 0), ⟨mkE 22 0 [(0, .slc 0)], [some (sI t)]⟩))) := by
  refine Link.of fun K h => ?_
  simp only [impl_appendEachFlat_n3, wpO_bind, wpO_cond, wpO_map, wpO_some] at h
  exact Awp.of (by kernel_rfl) h

def impl_appendEachFlat_n4_l (n : Nat) (x5140 : List Int) (x5170 : Int) (x5142 : List Int) (x5169 : List Int) := (link_loop (mk := fun (s : Int × (List Int)) => ⟨mkE 22 0 [(0, .slc 0), (1, dL x5140), (10, .slc 1), (11, dI x5170), (12, dI s.1)], [some (sI s.2), some (sI x5169)]⟩) (fin := (fun (t : (List Int)) => ((Exit.exit 0), ⟨mkE 22 0 [(0, .slc 0)], [some (sI t)]⟩))) (by
  rintro t f K h
  · exact h) (fun s => link_map (impl_appendEachFlat_n3_l n x5140 x5170 s.1 s.2 x5169) (Sum.elim (fun (t : Int × (List Int)) => Sum.inl (t.1, t.2)) (fun (t : (List Int)) => Sum.inr t)) (by
  rintro (t | t)
  · kernel_rfl
  · kernel_rfl)) (0, x5142))

def impl_appendEachFlat_n5_l (n : Nat) (x5140 : List Int) (x5170 : Int) (x5142 : List Int) (x5169 : List Int) := (link_block (fin2 := (fun (t : (List Int)) => (Exit.normal, ⟨mkE 22 0 [(0, .slc 0)], [some (sI t)]⟩))) (id := 0) (impl_appendEachFlat_n4_l n x5140 x5170 x5142 x5169) (fun (t : (List Int)) => t) (by
  rintro t K h
  · exact Eq.mp (by kernel_rfl) h))

def impl_appendEachFlat_n6_l (n : Nat) (x5140 : List Int) (x5141 : Int) (x5142 : List Int) := (link_seq (impl_appendEachFlat_n2_l n x5140 x5141 x5142) (fun (t : Int × (List Int)) => (impl_appendEachFlat_n5_l n x5140 t.1 x5142 t.2)))

theorem impl_appendEachFlat_n7_l (n : Nat) (x5183 : List Int) : Link (impl_appendEachFlat_ctx n) LL (cq [1,1] (bodyOf Tryd.f104)) (aq [1,1] impl_appendEachFlat_an) ⟨mkE 22 0 [(0, .slc 0)], [some (sI x5183)]⟩ (impl_appendEachFlat_n7 (impl_appendFlat_fuel n) (impl_appendEachFlat_fuel n) x5183) (fun (t : (List Int)) => (Exit.ret, ⟨mkE 22 0 [(6, .slc 0)], [some (sI t)]⟩)) := by
  refine Link.of fun K h => ?_
  simp only [impl_appendEachFlat_n7, wpO_bind, wpO_cond, wpO_map, wpO_some] at h
  exact Awp.of (by kernel_rfl) h

def impl_appendEachFlat_n8_l (n : Nat) (x5140 : List Int) (x5141 : Int) (x5142 : List Int) := (link_seq (impl_appendEachFlat_n6_l n x5140 x5141 x5142) (fun (t : (List Int)) => (impl_appendEachFlat_n7_l n t)))

def impl_appendEachFlat_n9_l (n : Nat) (x5140 : List Int) (x5141 : Int) (x5142 : List Int) := (link_seq (impl_appendEachFlat_n1_l n x5140 x5141 x5142) (fun (t : Unit) => (impl_appendEachFlat_n8_l n x5140 x5141 x5142)))

theorem impl_appendEachFlat_e (n : Nat) (x5140 : List Int) (x5141 : Int) (x5142 : List Int) {r : AV} {H' : Heap} (h : (Ans.mk _ (impl_appendEachFlat_fuel (n + 1) x5140 x5141 x5142) (fun (t : (List Int)) => (.slc 0, [some (sI t)])) [0] none).run = some (r, H')) : Awp (impl_appendEachFlat_ctx n) LL (bodyOf Tryd.f104) impl_appendEachFlat_an ⟨mkE 22 0 [(0, .slc 0), (1, dL x5140), (2, dW x5141)], [some (sI x5142)]⟩ (Ret (tlook tys) Tryd.f104.results.toList r H') :=
  ret_of' (Link.cast (by kernel_rfl) (by kernel_rfl) (impl_appendEachFlat_n9_l n x5140 x5141 x5142)) (by (show _ = _); kernel_rfl) (by
  intro t
  exact ret_mk [.slc 0] (by kernel_rfl) (by kernel_rfl) (by kernel_rfl) (by kernel_rfl)) h

theorem impl_appendFlat_step (n : Nat) (h70 : Sound Tryd.prog 70 (F_impl_appendFlat_fuel n)) (h104 : Sound Tryd.prog 104 (F_impl_appendEachFlat_fuel n)) : Sound Tryd.prog 70 (F_impl_appendFlat_fuel (n + 1)) := by
  refine fn_sound' (C := impl_appendFlat_ctx n) (c := bodyOf Tryd.f70) (cok_of tys_ok (allc impl_dependentsBeside_sound (allc h104 alln)) (allc Tryd.call49 (allc Tryd.call104 alln)) (by kernel_rfl)) Tryd.func70 (by kernel_rfl) LL impl_appendFlat_an ?_
  intro avs H r H' h
  unfold F_impl_appendFlat_fuel at h
  split at h
  · refine Awp.cast ?_ ?_ ?_ (impl_appendFlat_e n _ _ _ h) <;> kernel_rfl
  · simp [Ans.no, Ans.run] at h

theorem impl_appendFlat_null : Sound Tryd.prog 70 (F_impl_appendFlat_fuel 0) := by
  intro avs H r H' h
  unfold F_impl_appendFlat_fuel at h
  split at h
  · simp [impl_appendFlat_fuel, impl_appendFlat_knot, Ans.run] at h
  · simp [Ans.no, Ans.run] at h

theorem impl_appendEachFlat_step (n : Nat) (h70 : Sound Tryd.prog 70 (F_impl_appendFlat_fuel n)) (h104 : Sound Tryd.prog 104 (F_impl_appendEachFlat_fuel n)) : Sound Tryd.prog 104 (F_impl_appendEachFlat_fuel (n + 1)) := by
  refine fn_sound' (C := impl_appendEachFlat_ctx n) (c := bodyOf Tryd.f104) (cok_of tys_ok (allc impl_wordSet_list_sound (allc h70 alln)) (allc Tryd.call54 (allc Tryd.call70 alln)) (by kernel_rfl)) Tryd.func104 (by kernel_rfl) LL impl_appendEachFlat_an ?_
  intro avs H r H' h
  unfold F_impl_appendEachFlat_fuel at h
  split at h
  · refine Awp.cast ?_ ?_ ?_ (impl_appendEachFlat_e n _ _ _ h) <;> kernel_rfl
  · simp [Ans.no, Ans.run] at h

theorem impl_appendEachFlat_null : Sound Tryd.prog 104 (F_impl_appendEachFlat_fuel 0) := by
  intro avs H r H' h
  unfold F_impl_appendEachFlat_fuel at h
  split at h
  · simp [impl_appendEachFlat_fuel, impl_appendFlat_knot, Ans.run] at h
  · simp [Ans.no, Ans.run] at h

theorem impl_appendFlat_knot_all : ∀ n, Sound Tryd.prog 70 (F_impl_appendFlat_fuel n) ∧ Sound Tryd.prog 104 (F_impl_appendEachFlat_fuel n)
  | 0 => ⟨impl_appendFlat_null, impl_appendEachFlat_null⟩
  | n + 1 => by
    obtain ⟨h70, h104⟩ := impl_appendFlat_knot_all n
    exact ⟨impl_appendFlat_step n h70 h104, impl_appendEachFlat_step n h70 h104⟩

def F_impl_appendFlat : Fun := fun avs H =>
  match avs, H with
  | [.slc 0, .dat (.list (.int .i64)) x5085, .dat (.int .i64) x5086], [some (.seq (.int .i64) x5087)] => ⟨_, impl_appendFlat x5085 x5086 x5087, fun (t : (List Int)) => (.slc 0, [some (sI t)]), [0], none⟩
  | _, _ => Ans.no

theorem impl_appendFlat_sound : Sound Tryd.prog 70 F_impl_appendFlat := by
  have e : F_impl_appendFlat = F_impl_appendFlat_fuel RR := by
    funext avs H
    unfold F_impl_appendFlat F_impl_appendFlat_fuel
    split <;> first | rfl | (simp only [impl_appendFlat])
  rw [e]
  exact (impl_appendFlat_knot_all RR).1

def F_impl_appendEachFlat : Fun := fun avs H =>
  match avs, H with
  | [.slc 0, .dat (.list (.int .i64)) x5140, .dat (.int .u64) x5141], [some (.seq (.int .i64) x5142)] => ⟨_, impl_appendEachFlat x5140 x5141 x5142, fun (t : (List Int)) => (.slc 0, [some (sI t)]), [0], none⟩
  | _, _ => Ans.no

theorem impl_appendEachFlat_sound : Sound Tryd.prog 104 F_impl_appendEachFlat := by
  have e : F_impl_appendEachFlat = F_impl_appendEachFlat_fuel RR := by
    funext avs H
    unfold F_impl_appendEachFlat F_impl_appendEachFlat_fuel
    split <;> first | rfl | (simp only [impl_appendEachFlat])
  rw [e]
  exact (impl_appendFlat_knot_all RR).2


/-! loop.example/headtrees/impl.FlatOrder -/

def impl_FlatOrder_an : Ann := (.seq (.leaf [0]) (.seq (.seq (.leaf [0, 5]) (.cond (.seq (.leaf [2]) (.leaf [2])) (.leaf [0]))) (.seq (.draw [5, 100006] [0, 1, 3, 4, 5, 2, 6, 7] [] [2]) (.leaf [2]))))

noncomputable def impl_FlatOrder_ctx : Ctx := ⟨tlook tys, olook [(31, F_impl_TreeOk), (24, F_impl_RootOf), (70, F_impl_appendFlat)], ioF, 0, false, []⟩

theorem impl_FlatOrder_n1_l (x5068 : List Int) : Link impl_FlatOrder_ctx LL (bodyOf Tryd.f29) impl_FlatOrder_an ⟨mkE 13 0 [(0, dL x5068)], []⟩ (impl_FlatOrder_n1 x5068) (fun (t : (List Int)) => (Exit.ret, ⟨mkE 13 0 [(2, .slc 0)], [some (sI t)]⟩)) := by
  refine Link.of fun K h => ?_
  simp only [impl_FlatOrder_n1, wpO_bind, wpO_cond, wpO_map, wpO_some] at h
  exact Awp.of (by kernel_rfl) h

theorem impl_FlatOrder_e (x5068 : List Int) {r : AV} {H' : Heap} (h : (Ans.mk _ (impl_FlatOrder x5068) (fun (t : (List Int)) => (.slc 0, [some (sI t)])) [] none).run = some (r, H')) : Awp impl_FlatOrder_ctx LL (bodyOf Tryd.f29) impl_FlatOrder_an ⟨mkE 13 0 [(0, dL x5068)], []⟩ (Ret (tlook tys) Tryd.f29.results.toList r H') :=
  ret_of' (impl_FlatOrder_n1_l x5068) (by unfold impl_FlatOrder; kernel_rfl) (by
  intro t
  exact ret_mk [.slc 0] (by kernel_rfl) (by kernel_rfl) (by kernel_rfl) (by kernel_rfl)) h

def F_impl_FlatOrder : Fun := fun avs H =>
  match avs, H with
  | [.dat (.list (.int .i64)) x5068], [] => ⟨_, impl_FlatOrder x5068, fun (t : (List Int)) => (.slc 0, [some (sI t)]), [], none⟩
  | _, _ => Ans.no

theorem impl_FlatOrder_sound : Sound Tryd.prog 29 F_impl_FlatOrder := by
  refine fn_sound' (C := impl_FlatOrder_ctx) (c := bodyOf Tryd.f29) (cok_of tys_ok (allc impl_TreeOk_sound (allc impl_RootOf_sound (allc impl_appendFlat_sound alln))) (allc Tryd.call31 (allc Tryd.call24 (allc Tryd.call70 alln))) (by kernel_rfl)) Tryd.func29 (by kernel_rfl) LL impl_FlatOrder_an ?_
  intro avs H r H' h
  unfold F_impl_FlatOrder at h
  split at h
  · refine Awp.cast ?_ ?_ ?_ (impl_FlatOrder_e _ h) <;> kernel_rfl
  · simp [Ans.no, Ans.run] at h


/-! loop.example/headtrees/spec.l8Walk -/

def spec_l8Walk_an : Ann := (.seq (.leaf [0, 1]) (.seq (.leaf [0, 1, 5]) (.seq (.seq (.leaf [0, 1, 5, 6]) (.block (.loop (.seq (.seq (.leaf [0, 1, 5, 6, 11]) (.cond (.leaf [0, 1, 5, 6]) (.leaf [0, 1, 5]))) (.seq (.block (.seq (.leaf [0, 1, 5, 6, 20]) (.cond (.leaf [0, 1, 5, 6]) (.leaf [0, 1, 5, 6])))) (.leaf [0, 1, 5, 6])))))) (.seq (.leaf [0, 1, 5]) (.seq (.seq (.leaf [0, 1, 5, 7]) (.block (.loop (.seq (.seq (.leaf [0, 1, 5, 7, 35]) (.cond (.leaf [0, 1, 5, 7]) (.leaf [5]))) (.seq (.block (.seq (.leaf [0, 1, 5, 7, 44]) (.cond (.leaf [0, 1, 5, 7]) (.leaf [0, 1, 5, 7])))) (.leaf [0, 1, 5, 7])))))) (.seq (.leaf [4]) (.leaf [4])))))))

def F_spec_l8Walk_fuel (n : Nat) : Fun := fun avs H =>
  match avs, H with
  | [.dat (.list (.int .i64)) x5246, .dat (.int .i64) x5247], [] => ⟨_, spec_l8Walk_fuel n x5246 x5247, fun (t : (List Int)) => (.slc 0, [some (sI t)]), [], none⟩
  | _, _ => Ans.no

noncomputable def spec_l8Walk_ctx (n : Nat) : Ctx := ⟨tlook tys, olook [(71, F_spec_l8Walk_fuel n)], ioF, 0, false, []⟩

theorem spec_l8Walk_n1_l (n : Nat) (x5246 : List Int) (x5247 : Int) : Link (spec_l8Walk_ctx n) LL (Code.seq (cq [0] (bodyOf Tryd.f71)) (cq [0,1] (bodyOf Tryd.f71))) (Ann.seq (aq [0] spec_l8Walk_an) (aq [0,1] spec_l8Walk_an)) ⟨mkE 51 0 [(0, dL x5246), (1, dI x5247)], []⟩ (spec_l8Walk_n1 (spec_l8Walk_fuel n)) (fun (t : Unit) => (Exit.normal, ⟨mkE 51 0 [(0, dL x5246), (1, dI x5247), (5, .slc 0)], [some (sI ([] : List Int))]⟩)) := by
  refine Link.of fun K h => ?_
  simp only [spec_l8Walk_n1, wpO_bind, wpO_cond, wpO_map, wpO_some] at h
  exact Awp.of (by kernel_rfl) h

theorem spec_l8Walk_n2_l (n : Nat) (x5246 : List Int) (x5247 : Int) : Link (spec_l8Walk_ctx n) LL (cq [0,0,1,1] (bodyOf Tryd.f71)) (aq [0,0,1,1] spec_l8Walk_an) ⟨mkE 51 0 [(0, dL x5246), (1, dI x5247), (5, .slc 0)], [some (sI ([] : List Int))]⟩ (spec_l8Walk_n2 (spec_l8Walk_fuel n)) (fun (t : Unit) => (Exit.normal, ⟨mkE 51 0 [(0, dL x5246), (1, dI x5247), (5, .slc 0), (6, dI 1)], [some (sI ([] : List Int))]⟩)) := by
  refine Link.of fun K h => ?_
  simp only [spec_l8Walk_n2, wpO_bind, wpO_cond, wpO_map, wpO_some] at h
  exact Awp.of (by kernel_rfl) h

theorem spec_l8Walk_n3_l (n : Nat) (x5246 : List Int) (x5247 : Int) (x5322 : Int) (x5323 : List Int) : Link (spec_l8Walk_ctx n) LL (cq [0,0,1,0,1,1] (bodyOf Tryd.f71)) (aq [0,0,1,0,1,1] spec_l8Walk_an) ⟨mkE 51 0 [(0, dL x5246), (1, dI x5247), (5, .slc 0), (6, dI x5322)], [some (sI x5323)]⟩ (spec_l8Walk_n3 (spec_l8Walk_fuel n) x5246 x5247 x5322 x5323) (Sum.elim (fun (t : Int × (List Int)) => (Exit.normal, ⟨mkE 51 0 [(0, dL x5246), (1, dI x5247), (5, .slc 0), (6, dI t.1)], [some (sI t.2)]⟩)) (fun (t : (List Int)) => ((Exit.exit 0), ⟨mkE 51 0 [(0, dL x5246), (1, dI x5247), (5, .slc 0)], [some (sI t)]⟩))) := by
  refine Link.of fun K h => ?_
  simp only [spec_l8Walk_n3, wpO_bind, wpO_cond, wpO_map, wpO_some] at h
  exact Awp.of (by kernel_rfl) h

def spec_l8Walk_n4_l (n : Nat) (x5246 : List Int) (x5247 : Int) := (link_loop (mk := fun (s : Int × (List Int)) => ⟨mkE 51 0 [(0, dL x5246), (1, dI x5247), (5, .slc 0), (6, dI s.1)], [some (sI s.2)]⟩) (fin := (fun (t : (List Int)) => ((Exit.exit 0), ⟨mkE 51 0 [(0, dL x5246), (1, dI x5247), (5, .slc 0)], [some (sI t)]⟩))) (by
  rintro t f K h
  · exact h) (fun s => link_map (spec_l8Walk_n3_l n x5246 x5247 s.1 s.2) (Sum.elim (fun (t : Int × (List Int)) => Sum.inl (t.1, t.2)) (fun (t : (List Int)) => Sum.inr t)) (by
  rintro (t | t)
  · kernel_rfl
  · kernel_rfl)) (1, ([] : List Int)))

def spec_l8Walk_n5_l (n : Nat) (x5246 : List Int) (x5247 : Int) := (link_block (fin2 := (fun (t : (List Int)) => (Exit.normal, ⟨mkE 51 0 [(0, dL x5246), (1, dI x5247), (5, .slc 0)], [some (sI t)]⟩))) (id := 0) (spec_l8Walk_n4_l n x5246 x5247) (fun (t : (List Int)) => t) (by
  rintro t K h
  · exact Eq.mp (by kernel_rfl) h))

def spec_l8Walk_n6_l (n : Nat) (x5246 : List Int) (x5247 : Int) := (link_seq (spec_l8Walk_n2_l n x5246 x5247) (fun (t : Unit) => (spec_l8Walk_n5_l n x5246 x5247)))

theorem spec_l8Walk_n7_l (n : Nat) (x5246 : List Int) (x5247 : Int) (x5323 : List Int) : Link (spec_l8Walk_ctx n) LL (cq [0,1,1,1] (bodyOf Tryd.f71)) (aq [0,1,1,1] spec_l8Walk_an) ⟨mkE 51 0 [(0, dL x5246), (1, dI x5247), (5, .slc 0)], [some (sI x5323)]⟩ (spec_l8Walk_n7 (spec_l8Walk_fuel n) x5247 x5323) (fun (t : (List Int)) => (Exit.normal, ⟨mkE 51 0 [(0, dL x5246), (1, dI x5247), (5, .slc 0)], [some (sI t)]⟩)) := by
  refine Link.of fun K h => ?_
  simp only [spec_l8Walk_n7, wpO_bind, wpO_cond, wpO_map, wpO_some] at h
  exact Awp.of (by kernel_rfl) h

theorem spec_l8Walk_n8_l (n : Nat) (x5246 : List Int) (x5247 : Int) (x5348 : List Int) : Link (spec_l8Walk_ctx n) LL (cq [0,0,1,1,1,1] (bodyOf Tryd.f71)) (aq [0,0,1,1,1,1] spec_l8Walk_an) ⟨mkE 51 0 [(0, dL x5246), (1, dI x5247), (5, .slc 0)], [some (sI x5348)]⟩ (spec_l8Walk_n8 (spec_l8Walk_fuel n) x5247) (fun (t : Int) => (Exit.normal, ⟨mkE 51 0 [(0, dL x5246), (1, dI x5247), (5, .slc 0), (7, dI t)], [some (sI x5348)]⟩)) := by
  refine Link.of fun K h => ?_
  simp only [spec_l8Walk_n8, wpO_bind, wpO_cond, wpO_map, wpO_some] at h
  exact Awp.of (by kernel_rfl) h

theorem spec_l8Walk_n9_l (n : Nat) (x5246 : List Int) (x5247 : Int) (x5374 : Int) (x5375 : List Int) : Link (spec_l8Walk_ctx n) LL (cq [0,0,1,0,1,1,1,1] (bodyOf Tryd.f71)) (aq [0,0,1,0,1,1,1,1] spec_l8Walk_an) ⟨mkE 51 0 [(0, dL x5246), (1, dI x5247), (5, .slc 0), (7, dI x5374)], [some (sI x5375)]⟩ (spec_l8Walk_n9 (spec_l8Walk_fuel n) x5246 x5247 x5374 x5375) (Sum.elim (fun (t : Int × (List Int)) => (Exit.normal, ⟨mkE 51 0 [(0, dL x5246), (1, dI x5247), (5, .slc 0), (7, dI t.1)], [some (sI t.2)]⟩)) (fun (t : (List Int)) => ((Exit.exit 2), ⟨mkE 51 0 [(5, .slc 0)], [some (sI t)]⟩))) := by
  refine Link.of fun K h => ?_
  simp only [spec_l8Walk_n9, wpO_bind, wpO_cond, wpO_map, wpO_some] at h
  exact Awp.of (by kernel_rfl) h

def spec_l8Walk_n10_l (n : Nat) (x5246 : List Int) (x5247 : Int) (x5349 : Int) (x5348 : List Int) := (link_loop (mk := fun (s : Int × (List Int)) => ⟨mkE 51 0 [(0, dL x5246), (1, dI x5247), (5, .slc 0), (7, dI s.1)], [some (sI s.2)]⟩) (fin := (fun (t : (List Int)) => ((Exit.exit 2), ⟨mkE 51 0 [(5, .slc 0)], [some (sI t)]⟩))) (by
  rintro t f K h
  · exact h) (fun s => link_map (spec_l8Walk_n9_l n x5246 x5247 s.1 s.2) (Sum.elim (fun (t : Int × (List Int)) => Sum.inl (t.1, t.2)) (fun (t : (List Int)) => Sum.inr t)) (by
  rintro (t | t)
  · kernel_rfl
  · kernel_rfl)) (x5349, x5348))

def spec_l8Walk_n11_l (n : Nat) (x5246 : List Int) (x5247 : Int) (x5349 : Int) (x5348 : List Int) := (link_block (fin2 := (fun (t : (List Int)) => (Exit.normal, ⟨mkE 51 0 [(5, .slc 0)], [some (sI t)]⟩))) (id := 2) (spec_l8Walk_n10_l n x5246 x5247 x5349 x5348) (fun (t : (List Int)) => t) (by
  rintro t K h
  · exact Eq.mp (by kernel_rfl) h))

def spec_l8Walk_n12_l (n : Nat) (x5246 : List Int) (x5247 : Int) (x5348 : List Int) := (link_seq (spec_l8Walk_n8_l n x5246 x5247 x5348) (fun (t : Int) => (spec_l8Walk_n11_l n x5246 x5247 t x5348)))

theorem spec_l8Walk_n13_l (n : Nat) (x5375 : List Int) : Link (spec_l8Walk_ctx n) LL (cq [1,1,1,1,1] (bodyOf Tryd.f71)) (aq [1,1,1,1,1] spec_l8Walk_an) ⟨mkE 51 0 [(5, .slc 0)], [some (sI x5375)]⟩ (spec_l8Walk_n13 (spec_l8Walk_fuel n) x5375) (fun (t : (List Int)) => (Exit.ret, ⟨mkE 51 0 [(4, .slc 0)], [some (sI t)]⟩)) := by
  refine Link.of fun K h => ?_
  simp only [spec_l8Walk_n13, wpO_bind, wpO_cond, wpO_map, wpO_some] at h
  exact Awp.of (by kernel_rfl) h

def spec_l8Walk_n14_l (n : Nat) (x5246 : List Int) (x5247 : Int) (x5348 : List Int) := (link_seq (spec_l8Walk_n12_l n x5246 x5247 x5348) (fun (t : (List Int)) => (spec_l8Walk_n13_l n t)))

def spec_l8Walk_n15_l (n : Nat) (x5246 : List Int) (x5247 : Int) (x5323 : List Int) := (link_seq (spec_l8Walk_n7_l n x5246 x5247 x5323) (fun (t : (List Int)) => (spec_l8Walk_n14_l n x5246 x5247 t)))

def spec_l8Walk_n16_l (n : Nat) (x5246 : List Int) (x5247 : Int) := (link_seq (spec_l8Walk_n6_l n x5246 x5247) (fun (t : (List Int)) => (spec_l8Walk_n15_l n x5246 x5247 t)))

def spec_l8Walk_n17_l (n : Nat) (x5246 : List Int) (x5247 : Int) := (link_group (c := (cq [0,1] (bodyOf Tryd.f71))) (a := (aq [0,1] spec_l8Walk_an)) [(cq [0] (bodyOf Tryd.f71))] [(aq [0] spec_l8Walk_an)] rfl (link_seq (spec_l8Walk_n1_l n x5246 x5247) (fun (t : Unit) => (spec_l8Walk_n16_l n x5246 x5247))))

theorem spec_l8Walk_e (n : Nat) (x5246 : List Int) (x5247 : Int) {r : AV} {H' : Heap} (h : (Ans.mk _ (spec_l8Walk_fuel (n + 1) x5246 x5247) (fun (t : (List Int)) => (.slc 0, [some (sI t)])) [] none).run = some (r, H')) : Awp (spec_l8Walk_ctx n) LL (bodyOf Tryd.f71) spec_l8Walk_an ⟨mkE 51 0 [(0, dL x5246), (1, dI x5247)], []⟩ (Ret (tlook tys) Tryd.f71.results.toList r H') :=
  ret_of' (Link.cast (by kernel_rfl) (by kernel_rfl) (spec_l8Walk_n17_l n x5246 x5247)) (by (show _ = _); kernel_rfl) (by
  intro t
  exact ret_mk [.slc 0] (by kernel_rfl) (by kernel_rfl) (by kernel_rfl) (by kernel_rfl)) h

theorem spec_l8Walk_step (n : Nat) (h71 : Sound Tryd.prog 71 (F_spec_l8Walk_fuel n)) : Sound Tryd.prog 71 (F_spec_l8Walk_fuel (n + 1)) := by
  refine fn_sound' (C := spec_l8Walk_ctx n) (c := bodyOf Tryd.f71) (cok_of tys_ok (allc h71 alln) (allc Tryd.call71 alln) (by kernel_rfl)) Tryd.func71 (by kernel_rfl) LL spec_l8Walk_an ?_
  intro avs H r H' h
  unfold F_spec_l8Walk_fuel at h
  split at h
  · refine Awp.cast ?_ ?_ ?_ (spec_l8Walk_e n _ _ h) <;> kernel_rfl
  · simp [Ans.no, Ans.run] at h

theorem spec_l8Walk_null : Sound Tryd.prog 71 (F_spec_l8Walk_fuel 0) := by
  intro avs H r H' h
  unfold F_spec_l8Walk_fuel at h
  split at h
  · simp [spec_l8Walk_fuel, spec_l8Walk_knot, Ans.run] at h
  · simp [Ans.no, Ans.run] at h

theorem spec_l8Walk_knot_all : ∀ n, Sound Tryd.prog 71 (F_spec_l8Walk_fuel n)
  | 0 => spec_l8Walk_null
  | n + 1 => by
    have h71 := spec_l8Walk_knot_all n
    exact spec_l8Walk_step n h71

def F_spec_l8Walk : Fun := fun avs H =>
  match avs, H with
  | [.dat (.list (.int .i64)) x5246, .dat (.int .i64) x5247], [] => ⟨_, spec_l8Walk x5246 x5247, fun (t : (List Int)) => (.slc 0, [some (sI t)]), [], none⟩
  | _, _ => Ans.no

theorem spec_l8Walk_sound : Sound Tryd.prog 71 F_spec_l8Walk := by
  have e : F_spec_l8Walk = F_spec_l8Walk_fuel RR := by
    funext avs H
    unfold F_spec_l8Walk F_spec_l8Walk_fuel
    split <;> first | rfl | (simp only [spec_l8Walk])
  rw [e]
  exact (spec_l8Walk_knot_all RR)


/-! loop.example/headtrees/spec.FlatOrder -/

def spec_FlatOrder_an : Ann := (.seq (.leaf [0]) (.seq (.seq (.leaf [0, 5]) (.cond (.seq (.leaf [2]) (.leaf [2])) (.leaf [0]))) (.seq (.leaf [2]) (.leaf [2]))))

noncomputable def spec_FlatOrder_ctx : Ctx := ⟨tlook tys, olook [(51, F_spec_TreeOk), (68, F_spec_RootOf), (71, F_spec_l8Walk)], ioF, 0, false, []⟩

theorem spec_FlatOrder_n1_l (x5240 : List Int) : Link spec_FlatOrder_ctx LL (bodyOf Tryd.f30) spec_FlatOrder_an ⟨mkE 11 0 [(0, dL x5240)], []⟩ (spec_FlatOrder_n1 x5240) (fun (t : (List Int)) => (Exit.ret, ⟨mkE 11 0 [(2, .slc 0)], [some (sI t)]⟩)) := by
  refine Link.of fun K h => ?_
  simp only [spec_FlatOrder_n1, wpO_bind, wpO_cond, wpO_map, wpO_some] at h
  exact Awp.of (by kernel_rfl) h

theorem spec_FlatOrder_e (x5240 : List Int) {r : AV} {H' : Heap} (h : (Ans.mk _ (spec_FlatOrder x5240) (fun (t : (List Int)) => (.slc 0, [some (sI t)])) [] none).run = some (r, H')) : Awp spec_FlatOrder_ctx LL (bodyOf Tryd.f30) spec_FlatOrder_an ⟨mkE 11 0 [(0, dL x5240)], []⟩ (Ret (tlook tys) Tryd.f30.results.toList r H') :=
  ret_of' (spec_FlatOrder_n1_l x5240) (by unfold spec_FlatOrder; kernel_rfl) (by
  intro t
  exact ret_mk [.slc 0] (by kernel_rfl) (by kernel_rfl) (by kernel_rfl) (by kernel_rfl)) h

def F_spec_FlatOrder : Fun := fun avs H =>
  match avs, H with
  | [.dat (.list (.int .i64)) x5240], [] => ⟨_, spec_FlatOrder x5240, fun (t : (List Int)) => (.slc 0, [some (sI t)]), [], none⟩
  | _, _ => Ans.no

theorem spec_FlatOrder_sound : Sound Tryd.prog 30 F_spec_FlatOrder := by
  refine fn_sound' (C := spec_FlatOrder_ctx) (c := bodyOf Tryd.f30) (cok_of tys_ok (allc spec_TreeOk_sound (allc spec_RootOf_sound (allc spec_l8Walk_sound alln))) (allc Tryd.call51 (allc Tryd.call68 (allc Tryd.call71 alln))) (by kernel_rfl)) Tryd.func30 (by kernel_rfl) LL spec_FlatOrder_an ?_
  intro avs H r H' h
  unfold F_spec_FlatOrder at h
  split at h
  · refine Awp.cast ?_ ?_ ?_ (spec_FlatOrder_e _ h) <;> kernel_rfl
  · simp [Ans.no, Ans.run] at h


/-! loop.example/headtrees/impl.OrderOk -/

def impl_OrderOk_an : Ann := (.seq (.leaf [0, 1]) (.seq (.seq (.leaf [0, 1, 19]) (.cond (.seq (.leaf [4]) (.leaf [4])) (.leaf [0, 1]))) (.seq (.leaf [0, 1, 5]) (.seq (.seq (.leaf [1, 5, 20, 21, 22]) (.block (.loop (.seq (.leaf [1, 5, 20, 21, 22, 23]) (.seq (.cond (.leaf [1, 5, 20, 21, 22]) (.leaf [])) (.seq (.block (.seq (.leaf [1, 5, 7, 20, 21, 22]) (.seq (.seq (.leaf [1, 5, 7, 20, 21, 22, 37]) (.cond (.seq (.leaf [4]) (.leaf [4])) (.leaf [1, 5, 7, 20, 21, 22]))) (.leaf [1, 5, 20, 21, 22])))) (.leaf [1, 5, 20, 21, 22]))))))) (.seq (.leaf [4]) (.leaf [4]))))))

noncomputable def impl_OrderOk_ctx : Ctx := ⟨tlook tys, olook [], ioF, 0, false, []⟩

theorem impl_OrderOk_n1_l (x5438 : List Int) (x5439 : Int) : Link impl_OrderOk_ctx LL (Code.seq (cq [0] (bodyOf Tryd.f33)) (Code.seq (cq [0,1] (bodyOf Tryd.f33)) (cq [0,1,1] (bodyOf Tryd.f33)))) (Ann.seq (aq [0] impl_OrderOk_an) (Ann.seq (aq [0,1] impl_OrderOk_an) (aq [0,1,1] impl_OrderOk_an))) ⟨mkE 41 0 [(0, dL x5438), (1, dI x5439)], []⟩ (impl_OrderOk_n1 x5438 x5439) (Sum.elim (fun (t : Unit) => (Exit.normal, ⟨mkE 41 0 [(0, dL x5438), (1, dI x5439), (5, .ptr 0 0)], [some (.seq .bool (List.replicate 9 false))]⟩)) (fun (t : Bool) => (Exit.ret, ⟨mkE 41 0 [(4, dB t)], []⟩))) := by
  refine Link.of fun K h => ?_
  simp only [impl_OrderOk_n1, wpO_bind, wpO_cond, wpO_map, wpO_some] at h
  exact Awp.of (by kernel_rfl) h

theorem impl_OrderOk_n2_l (x5438 : List Int) (x5439 : Int) : Link impl_OrderOk_ctx LL (cq [0,0,1,1,1] (bodyOf Tryd.f33)) (aq [0,0,1,1,1] impl_OrderOk_an) ⟨mkE 41 0 [(0, dL x5438), (1, dI x5439), (5, .ptr 0 0)], [some (.seq .bool (List.replicate 9 false))]⟩ (impl_OrderOk_n2 x5438) (fun (t : Int) => (Exit.normal, ⟨mkE 41 0 [(1, dI x5439), (5, .ptr 0 0), (20, dL x5438), (21, dI t), (22, dI 0)], [some (.seq .bool (List.replicate 9 false))]⟩)) := by
  refine Link.of fun K h => ?_
  simp only [impl_OrderOk_n2, wpO_bind, wpO_cond, wpO_map, wpO_some] at h
  exact Awp.of (by kernel_rfl) h

theorem impl_OrderOk_n3_l (x5439 : Int) (x5438 : List Int) (x5449 : Int) (x5473 : Int) (x5474 : List Bool) : Link impl_OrderOk_ctx LL (cq [0,0,1,0,1,1,1] (bodyOf Tryd.f33)) (aq [0,0,1,0,1,1,1] impl_OrderOk_an) ⟨mkE 41 0 [(1, dI x5439), (5, .ptr 0 0), (20, dL x5438), (21, dI x5449), (22, dI x5473)], [some (.seq .bool x5474)]⟩ (impl_OrderOk_n3 x5439 x5438 x5449 x5473 x5474) (Sum.elim (fun (t : Int × (List Bool)) => (Exit.normal, ⟨mkE 41 0 [(1, dI x5439), (5, .ptr 0 0), (20, dL x5438), (21, dI x5449), (22, dI t.1)], [some (.seq .bool t.2)]⟩)) (Sum.elim (fun (t : Bool) => (Exit.ret, ⟨mkE 41 0 [(4, dB t)], []⟩)) (fun (t : Unit) => ((Exit.exit 0), ⟨mkE 41 0 [], []⟩)))) := by
  refine Link.of fun K h => ?_
  simp only [impl_OrderOk_n3, wpO_bind, wpO_cond, wpO_map, wpO_some] at h
  exact Awp.of (by kernel_rfl) h

def impl_OrderOk_n4_l (x5439 : Int) (x5438 : List Int) (x5449 : Int) := (link_loop (mk := fun (s : Int × (List Bool)) => ⟨mkE 41 0 [(1, dI x5439), (5, .ptr 0 0), (20, dL x5438), (21, dI x5449), (22, dI s.1)], [some (.seq .bool s.2)]⟩) (fin := (Sum.elim (fun (t : Bool) => (Exit.ret, ⟨mkE 41 0 [(4, dB t)], []⟩)) (fun (t : Unit) => ((Exit.exit 0), ⟨mkE 41 0 [], []⟩)))) (by
  rintro (t | t) f K h
  · exact h
  · exact h) (fun s => link_map (impl_OrderOk_n3_l x5439 x5438 x5449 s.1 s.2) (Sum.elim (fun (t : Int × (List Bool)) => Sum.inl (t.1, t.2)) (Sum.elim (fun (t : Bool) => Sum.inr (Sum.inl t)) (fun (t : Unit) => Sum.inr (Sum.inr t)))) (by
  rintro (t | t | t)
  · kernel_rfl
  · kernel_rfl
  · kernel_rfl)) (0, (List.replicate 9 false)))

def impl_OrderOk_n5_l (x5439 : Int) (x5438 : List Int) (x5449 : Int) := (link_block (fin2 := (Sum.elim (fun (t : Unit) => (Exit.normal, ⟨mkE 41 0 [], []⟩)) (fun (t : Bool) => (Exit.ret, ⟨mkE 41 0 [(4, dB t)], []⟩)))) (id := 0) (impl_OrderOk_n4_l x5439 x5438 x5449) (Sum.elim (fun (t : Bool) => (Sum.inr t)) (fun (t : Unit) => (Sum.inl ()))) (by
  rintro (t | t) K h
  · exact Eq.mp (by kernel_rfl) h
  · exact Eq.mp (by kernel_rfl) h))

def impl_OrderOk_n6_l (x5438 : List Int) (x5439 : Int) := (link_seq (impl_OrderOk_n2_l x5438 x5439) (fun (t : Int) => (impl_OrderOk_n5_l x5439 x5438 t)))

theorem impl_OrderOk_n7_l : Link impl_OrderOk_ctx LL (cq [1,1,1,1] (bodyOf Tryd.f33)) (aq [1,1,1,1] impl_OrderOk_an) ⟨mkE 41 0 [], []⟩ (impl_OrderOk_n7) (fun (t : Bool) => (Exit.ret, ⟨mkE 41 0 [(4, dB t)], []⟩)) := by
  refine Link.of fun K h => ?_
  simp only [impl_OrderOk_n7, wpO_bind, wpO_cond, wpO_map, wpO_some] at h
  exact Awp.of (by kernel_rfl) h

def impl_OrderOk_n8_l (x5438 : List Int) (x5439 : Int) := (link_seq2 (impl_OrderOk_n6_l x5438 x5439) (fun (t : Unit) => (impl_OrderOk_n7_l)) (fun (t : Bool) => t) (by
  rintro t
  · kernel_rfl) (by
  rintro t f K h
  · exact h))

def impl_OrderOk_n9_l (x5438 : List Int) (x5439 : Int) := (link_group (c := (cq [0,1,1] (bodyOf Tryd.f33))) (a := (aq [0,1,1] impl_OrderOk_an)) [(cq [0] (bodyOf Tryd.f33)), (cq [0,1] (bodyOf Tryd.f33))] [(aq [0] impl_OrderOk_an), (aq [0,1] impl_OrderOk_an)] rfl (link_seq2 (impl_OrderOk_n1_l x5438 x5439) (fun (t : Unit) => (impl_OrderOk_n8_l x5438 x5439)) (fun (t : Bool) => t) (by
  rintro t
  · kernel_rfl) (by
  rintro t f K h
  · exact h)))

theorem impl_OrderOk_e (x5438 : List Int) (x5439 : Int) {r : AV} {H' : Heap} (h : (Ans.mk _ (impl_OrderOk x5438 x5439) (fun (t : Bool) => (dB t, [])) [] none).run = some (r, H')) : Awp impl_OrderOk_ctx LL (bodyOf Tryd.f33) impl_OrderOk_an ⟨mkE 41 0 [(0, dL x5438), (1, dI x5439)], []⟩ (Ret (tlook tys) Tryd.f33.results.toList r H') :=
  ret_of' (Link.cast (by kernel_rfl) (by kernel_rfl) (impl_OrderOk_n9_l x5438 x5439)) (by unfold impl_OrderOk; kernel_rfl) (by
  intro t
  exact ret_mk [dB t] (by kernel_rfl) (by kernel_rfl) (by kernel_rfl) (by kernel_rfl)) h

def F_impl_OrderOk : Fun := fun avs H =>
  match avs, H with
  | [.dat (.list (.int .i64)) x5438, .dat (.int .i64) x5439], [] => ⟨_, impl_OrderOk x5438 x5439, fun (t : Bool) => (dB t, []), [], none⟩
  | _, _ => Ans.no

theorem impl_OrderOk_sound : Sound Tryd.prog 33 F_impl_OrderOk := by
  refine fn_sound' (C := impl_OrderOk_ctx) (c := bodyOf Tryd.f33) (cok_of tys_ok (alln) (alln) (by kernel_rfl)) Tryd.func33 (by kernel_rfl) LL impl_OrderOk_an ?_
  intro avs H r H' h
  unfold F_impl_OrderOk at h
  split at h
  · refine Awp.cast ?_ ?_ ?_ (impl_OrderOk_e _ _ h) <;> kernel_rfl
  · simp [Ans.no, Ans.run] at h


/-! slices.Grow[[]int,int] -/

def slices_Grow_int_int_an : Ann := (.seq (.leaf [0, 1]) (.seq (.seq (.leaf [0, 1, 6]) (.cond (.leaf [0, 1]) (.leaf [0, 1]))) (.seq (.seq (.leaf [0, 1]) (.seq (.leaf [0, 1, 16]) (.cond (.leaf [0]) (.leaf [0])))) (.seq (.leaf [4]) (.leafF [⟨0, 4, true, none, none⟩] [4])))))

noncomputable def slices_Grow_int_int_ctx : Ctx := ⟨tlook tys, olook [], ioF, 0, false, []⟩

theorem slices_Grow_int_int_n1_l (x5943 : Int) : Link slices_Grow_int_int_ctx LL (bodyOf Tryd.f124) slices_Grow_int_int_an ⟨mkE 27 0 [(0, .nils), (1, dI x5943)], []⟩ (slices_Grow_int_int_n1 x5943) (fun (t : Nat × (List Int)) => (Exit.ret, ⟨mkE 27 0 [(4, .win 0 0 t.1)], [some (sI t.2)]⟩)) := by
  refine Link.of fun K h => ?_
  simp only [slices_Grow_int_int_n1, wpO_bind, wpO_cond, wpO_map, wpO_some, wpO_none] at h
  exact Awp.of (by kernel_rfl) h

theorem slices_Grow_int_int_e (x5943 : Int) {r : AV} {H' : Heap} (h : (Ans.mk _ (slices_Grow_int_int x5943) (fun (t : Nat × (List Int)) => (.win 0 0 t.1, [some (sI t.2)])) [] none).run = some (r, H')) : Awp slices_Grow_int_int_ctx LL (bodyOf Tryd.f124) slices_Grow_int_int_an ⟨mkE 27 0 [(0, .nils), (1, dI x5943)], []⟩ (Ret (tlook tys) Tryd.f124.results.toList r H') :=
  ret_of' (slices_Grow_int_int_n1_l x5943) (by unfold slices_Grow_int_int; kernel_rfl) (by
  intro t
  exact ret_mk [.win 0 0 t.1] (by kernel_rfl) (by kernel_rfl) (by kernel_rfl) (by kernel_rfl)) h

def F_slices_Grow_int_int : Fun := fun avs H =>
  match avs, H with
  | [.nils, .dat (.int .i64) x5943], [] => ⟨_, slices_Grow_int_int x5943, fun (t : Nat × (List Int)) => (.win 0 0 t.1, [some (sI t.2)]), [], none⟩
  | _, _ => Ans.no

theorem slices_Grow_int_int_sound : Sound Tryd.prog 124 F_slices_Grow_int_int := by
  refine fn_sound' (C := slices_Grow_int_int_ctx) (c := bodyOf Tryd.f124) (cok_of tys_ok (alln) (alln) (by kernel_rfl)) Tryd.func124 (by kernel_rfl) LL slices_Grow_int_int_an ?_
  intro avs H r H' h
  unfold F_slices_Grow_int_int at h
  split at h
  · refine Awp.cast ?_ ?_ ?_ (slices_Grow_int_int_e _ h) <;> kernel_rfl
  · simp [Ans.no, Ans.run] at h


/-! slices.Concat[[]int,int] -/

def slices_Concat_int_int_an : Ann := (.seq (.leaf [0]) (.seq (.leaf [0, 3]) (.seq (.seq (.leaf [0, 3, 9, 10, 11]) (.block (.loop (.seq (.leaf [0, 3, 9, 10, 11, 12]) (.seq (.cond (.leaf [0, 3, 9, 10, 11]) (.leaf [0, 3])) (.seq (.block (.seq (.leaf [0, 3, 5, 9, 10, 11]) (.seq (.leaf [0, 3, 9, 10, 11]) (.seq (.leaf [0, 3, 9, 10, 11, 20]) (.cond (.leaf [0, 3, 9, 10, 11]) (.leaf [0, 3, 9, 10, 11])))))) (.leaf [0, 3, 9, 10, 11]))))))) (.seq (.leaf [0, 6]) (.seq (.seq (.leaf [6, 25, 26, 27]) (.block (.loop (.seq (.leaf [6, 25, 26, 27, 28]) (.seq (.cond (.leaf [6, 25, 26, 27]) (.leaf [6])) (.seq (.block (.seq (.leaf [6, 8, 25, 26, 27]) (.leaf [6, 25, 26, 27]))) (.leafF [⟨2, 6, true, none, none⟩] [6, 25, 26, 27]))))))) (.seq (.leaf [2]) (.leaf [2])))))))

noncomputable def slices_Concat_int_int_ctx : Ctx := ⟨tlook tys, olook [(124, F_slices_Grow_int_int)], ioF, 0, false, []⟩

theorem slices_Concat_int_int_n1_l (x5913 : List (List Int)) : Link slices_Concat_int_int_ctx LL (Code.seq (cq [0] (bodyOf Tryd.f123)) (cq [0,1] (bodyOf Tryd.f123))) (Ann.seq (aq [0] slices_Concat_int_int_an) (aq [0,1] slices_Concat_int_int_an)) ⟨mkE 36 0 [(0, .dat (.list (.list (.int .i64))) x5913)], []⟩ (slices_Concat_int_int_n1) (fun (t : Unit) => (Exit.normal, ⟨mkE 36 0 [(0, .dat (.list (.list (.int .i64))) x5913), (3, dI 0)], []⟩)) := by
  refine Link.of fun K h => ?_
  simp only [slices_Concat_int_int_n1, wpO_bind, wpO_cond, wpO_map, wpO_some] at h
  exact Awp.of (by kernel_rfl) h

theorem slices_Concat_int_int_n2_l (x5913 : List (List Int)) : Link slices_Concat_int_int_ctx LL (cq [0,0,1,1] (bodyOf Tryd.f123)) (aq [0,0,1,1] slices_Concat_int_int_an) ⟨mkE 36 0 [(0, .dat (.list (.list (.int .i64))) x5913), (3, dI 0)], []⟩ (slices_Concat_int_int_n2 x5913) (fun (t : Int) => (Exit.normal, ⟨mkE 36 0 [(0, .dat (.list (.list (.int .i64))) x5913), (3, dI 0), (9, .dat (.list (.list (.int .i64))) x5913), (10, dI t), (11, dI 0)], []⟩)) := by
  refine Link.of fun K h => ?_
  simp only [slices_Concat_int_int_n2, wpO_bind, wpO_cond, wpO_map, wpO_some] at h
  exact Awp.of (by kernel_rfl) h

theorem slices_Concat_int_int_n3_l (x5913 : List (List Int)) (x6053 : Int) (x6039 : Int) (x6054 : Int) : Link slices_Concat_int_int_ctx LL (cq [0,0,1,0,1,1] (bodyOf Tryd.f123)) (aq [0,0,1,0,1,1] slices_Concat_int_int_an) ⟨mkE 36 0 [(0, .dat (.list (.list (.int .i64))) x5913), (3, dI x6053), (9, .dat (.list (.list (.int .i64))) x5913), (10, dI x6039), (11, dI x6054)], []⟩ (slices_Concat_int_int_n3 x5913 x6053 x6039 x6054) (Sum.elim (fun (t : Int × Int) => (Exit.normal, ⟨mkE 36 0 [(0, .dat (.list (.list (.int .i64))) x5913), (3, dI t.1), (9, .dat (.list (.list (.int .i64))) x5913), (10, dI x6039), (11, dI t.2)], []⟩)) (fun (t : Int) => ((Exit.exit 0), ⟨mkE 36 0 [(0, .dat (.list (.list (.int .i64))) x5913), (3, dI t)], []⟩))) := by
  refine Link.of fun K h => ?_
  simp only [slices_Concat_int_int_n3, wpO_bind, wpO_cond, wpO_map, wpO_some, wpO_none] at h
  exact Awp.of (by kernel_rfl) h

def slices_Concat_int_int_n4_l (x5913 : List (List Int)) (x6039 : Int) := (link_loop (mk := fun (s : Int × Int) => ⟨mkE 36 0 [(0, .dat (.list (.list (.int .i64))) x5913), (3, dI s.1), (9, .dat (.list (.list (.int .i64))) x5913), (10, dI x6039), (11, dI s.2)], []⟩) (fin := (fun (t : Int) => ((Exit.exit 0), ⟨mkE 36 0 [(0, .dat (.list (.list (.int .i64))) x5913), (3, dI t)], []⟩))) (by
  rintro t f K h
  · exact h) (fun s => link_map (slices_Concat_int_int_n3_l x5913 s.1 x6039 s.2) (Sum.elim (fun (t : Int × Int) => Sum.inl (t.1, t.2)) (fun (t : Int) => Sum.inr t)) (by
  rintro (t | t)
  · kernel_rfl
  · kernel_rfl)) (0, 0))

def slices_Concat_int_int_n5_l (x5913 : List (List Int)) (x6039 : Int) := (link_block (fin2 := (fun (t : Int) => (Exit.normal, ⟨mkE 36 0 [(0, .dat (.list (.list (.int .i64))) x5913), (3, dI t)], []⟩))) (id := 0) (slices_Concat_int_int_n4_l x5913 x6039) (fun (t : Int) => t) (by
  rintro t K h
  · exact Eq.mp (by kernel_rfl) h))

def slices_Concat_int_int_n6_l (x5913 : List (List Int)) := (link_seq (slices_Concat_int_int_n2_l x5913) (fun (t : Int) => (slices_Concat_int_int_n5_l x5913 t)))

theorem slices_Concat_int_int_n7_l (x5913 : List (List Int)) (x6053 : Int) : Link slices_Concat_int_int_ctx LL (cq [0,1,1,1] (bodyOf Tryd.f123)) (aq [0,1,1,1] slices_Concat_int_int_an) ⟨mkE 36 0 [(0, .dat (.list (.list (.int .i64))) x5913), (3, dI x6053)], []⟩ (slices_Concat_int_int_n7 x6053) (fun (t : Nat × (List Int)) => (Exit.normal, ⟨mkE 36 0 [(0, .dat (.list (.list (.int .i64))) x5913), (6, .win 0 0 t.1)], [some (sI t.2)]⟩)) := by
  refine Link.of fun K h => ?_
  simp only [slices_Concat_int_int_n7, wpO_bind, wpO_cond, wpO_map, wpO_some] at h
  exact Awp.of (by kernel_rfl) h

theorem slices_Concat_int_int_n8_l (x5913 : List (List Int)) (x6069 : Nat) (x6070 : List Int) : Link slices_Concat_int_int_ctx LL (cq [0,0,1,1,1,1] (bodyOf Tryd.f123)) (aq [0,0,1,1,1,1] slices_Concat_int_int_an) ⟨mkE 36 0 [(0, .dat (.list (.list (.int .i64))) x5913), (6, .win 0 0 x6069)], [some (sI x6070)]⟩ (slices_Concat_int_int_n8 x5913) (fun (t : Int) => (Exit.normal, ⟨mkE 36 0 [(6, .win 0 0 x6069), (25, .dat (.list (.list (.int .i64))) x5913), (26, dI t), (27, dI 0)], [some (sI x6070)]⟩)) := by
  refine Link.of fun K h => ?_
  simp only [slices_Concat_int_int_n8, wpO_bind, wpO_cond, wpO_map, wpO_some] at h
  exact Awp.of (by kernel_rfl) h

theorem slices_Concat_int_int_n9_l (x6086 : Nat) (x5913 : List (List Int)) (x6071 : Int) (x6087 : Int) (x6088 : List Int) : Link slices_Concat_int_int_ctx LL (cq [0,0,1,0,1,1,1,1] (bodyOf Tryd.f123)) (aq [0,0,1,0,1,1,1,1] slices_Concat_int_int_an) ⟨mkE 36 0 [(6, .win 0 0 x6086), (25, .dat (.list (.list (.int .i64))) x5913), (26, dI x6071), (27, dI x6087)], [some (sI x6088)]⟩ (slices_Concat_int_int_n9 x6086 x5913 x6071 x6087 x6088) (Sum.elim (fun (t : Nat × Int × (List Int)) => (Exit.normal, ⟨mkE 36 0 [(6, .win 0 0 t.1), (25, .dat (.list (.list (.int .i64))) x5913), (26, dI x6071), (27, dI t.2.1)], [some (sI t.2.2)]⟩)) (fun (t : Nat × (List Int)) => ((Exit.exit 2), ⟨mkE 36 0 [(6, .win 0 0 t.1)], [some (sI t.2)]⟩))) := by
  refine Link.of fun K h => ?_
  simp only [slices_Concat_int_int_n9, wpO_bind, wpO_cond, wpO_map, wpO_some] at h
  exact Awp.of (by kernel_rfl) h

def slices_Concat_int_int_n10_l (x6069 : Nat) (x5913 : List (List Int)) (x6071 : Int) (x6070 : List Int) := (link_loop (mk := fun (s : Nat × Int × (List Int)) => ⟨mkE 36 0 [(6, .win 0 0 s.1), (25, .dat (.list (.list (.int .i64))) x5913), (26, dI x6071), (27, dI s.2.1)], [some (sI s.2.2)]⟩) (fin := (fun (t : Nat × (List Int)) => ((Exit.exit 2), ⟨mkE 36 0 [(6, .win 0 0 t.1)], [some (sI t.2)]⟩))) (by
  rintro t f K h
  · exact h) (fun s => link_map (slices_Concat_int_int_n9_l s.1 x5913 x6071 s.2.1 s.2.2) (Sum.elim (fun (t : Nat × Int × (List Int)) => Sum.inl (t.1, t.2.1, t.2.2)) (fun (t : Nat × (List Int)) => Sum.inr t)) (by
  rintro (t | t)
  · kernel_rfl
  · kernel_rfl)) (x6069, 0, x6070))

def slices_Concat_int_int_n11_l (x6069 : Nat) (x5913 : List (List Int)) (x6071 : Int) (x6070 : List Int) := (link_block (fin2 := (fun (t : Nat × (List Int)) => (Exit.normal, ⟨mkE 36 0 [(6, .win 0 0 t.1)], [some (sI t.2)]⟩))) (id := 2) (slices_Concat_int_int_n10_l x6069 x5913 x6071 x6070) (fun (t : Nat × (List Int)) => (t.1, t.2)) (by
  rintro t K h
  · exact Eq.mp (by kernel_rfl) h))

def slices_Concat_int_int_n12_l (x5913 : List (List Int)) (x6069 : Nat) (x6070 : List Int) := (link_seq (slices_Concat_int_int_n8_l x5913 x6069 x6070) (fun (t : Int) => (slices_Concat_int_int_n11_l x6069 x5913 t x6070)))

theorem slices_Concat_int_int_n13_l (x6086 : Nat) (x6088 : List Int) : Link slices_Concat_int_int_ctx LL (cq [1,1,1,1,1] (bodyOf Tryd.f123)) (aq [1,1,1,1,1] slices_Concat_int_int_an) ⟨mkE 36 0 [(6, .win 0 0 x6086)], [some (sI x6088)]⟩ (slices_Concat_int_int_n13 x6086 x6088) (fun (t : Nat × (List Int)) => (Exit.ret, ⟨mkE 36 0 [(2, .win 0 0 t.1)], [some (sI t.2)]⟩)) := by
  refine Link.of fun K h => ?_
  simp only [slices_Concat_int_int_n13, wpO_bind, wpO_cond, wpO_map, wpO_some] at h
  exact Awp.of (by kernel_rfl) h

def slices_Concat_int_int_n14_l (x5913 : List (List Int)) (x6069 : Nat) (x6070 : List Int) := (link_seq (slices_Concat_int_int_n12_l x5913 x6069 x6070) (fun (t : Nat × (List Int)) => (slices_Concat_int_int_n13_l t.1 t.2)))

def slices_Concat_int_int_n15_l (x5913 : List (List Int)) (x6053 : Int) := (link_seq (slices_Concat_int_int_n7_l x5913 x6053) (fun (t : Nat × (List Int)) => (slices_Concat_int_int_n14_l x5913 t.1 t.2)))

def slices_Concat_int_int_n16_l (x5913 : List (List Int)) := (link_seq (slices_Concat_int_int_n6_l x5913) (fun (t : Int) => (slices_Concat_int_int_n15_l x5913 t)))

def slices_Concat_int_int_n17_l (x5913 : List (List Int)) := (link_group (c := (cq [0,1] (bodyOf Tryd.f123))) (a := (aq [0,1] slices_Concat_int_int_an)) [(cq [0] (bodyOf Tryd.f123))] [(aq [0] slices_Concat_int_int_an)] rfl (link_seq (slices_Concat_int_int_n1_l x5913) (fun (t : Unit) => (slices_Concat_int_int_n16_l x5913))))

theorem slices_Concat_int_int_e (x5913 : List (List Int)) {r : AV} {H' : Heap} (h : (Ans.mk _ (slices_Concat_int_int x5913) (fun (t : Nat × (List Int)) => (.win 0 0 t.1, [some (sI t.2)])) [] none).run = some (r, H')) : Awp slices_Concat_int_int_ctx LL (bodyOf Tryd.f123) slices_Concat_int_int_an ⟨mkE 36 0 [(0, .dat (.list (.list (.int .i64))) x5913)], []⟩ (Ret (tlook tys) Tryd.f123.results.toList r H') :=
  ret_of' (Link.cast (by kernel_rfl) (by kernel_rfl) (slices_Concat_int_int_n17_l x5913)) (by unfold slices_Concat_int_int; kernel_rfl) (by
  intro t
  exact ret_mk [.win 0 0 t.1] (by kernel_rfl) (by kernel_rfl) (by kernel_rfl) (by kernel_rfl)) h

def F_slices_Concat_int_int : Fun := fun avs H =>
  match avs, H with
  | [.dat (.list (.list (.int .i64))) x5913], [] => ⟨_, slices_Concat_int_int x5913, fun (t : Nat × (List Int)) => (.win 0 0 t.1, [some (sI t.2)]), [], none⟩
  | _, _ => Ans.no

theorem slices_Concat_int_int_sound : Sound Tryd.prog 123 F_slices_Concat_int_int := by
  refine fn_sound' (C := slices_Concat_int_int_ctx) (c := bodyOf Tryd.f123) (cok_of tys_ok (allc slices_Grow_int_int_sound alln) (allc Tryd.call124 alln) (by kernel_rfl)) Tryd.func123 (by kernel_rfl) LL slices_Concat_int_int_an ?_
  intro avs H r H' h
  unfold F_slices_Concat_int_int at h
  split at h
  · refine Awp.cast ?_ ?_ ?_ (slices_Concat_int_int_e _ h) <;> kernel_rfl
  · simp [Ans.no, Ans.run] at h


/-! loop.example/headtrees/impl.merged -/

def impl_merged_an : Ann := (.seq (.leaf [0, 1]) (.seq (.leaf [0, 1, 6]) (.seq (.leaf [0, 1, 6, 7]) (.seq (.block (.loop (.seq (.seq (.leaf [0, 1, 6, 7, 21]) (.cond (.leaf [0, 1, 6, 7]) (.leaf [0, 1, 6, 7]))) (.block (.seq (.seq (.draw [] [0, 1, 2, 3, 4, 5, 6] [] [0, 1, 6, 7, 28]) (.cond (.seq (.leaf [0, 1, 6, 7]) (.seq (.leaf [0, 1, 6, 7]) (.leaf [0, 1, 6, 7]))) (.leaf [0, 1, 6, 7]))) (.seq (.leaf [0, 1, 6, 7]) (.seq (.leaf [0, 1, 6, 7]) (.leaf [0, 1, 6, 7])))))))) (.seq (.leafF [⟨3, 49, false, none, none⟩] [4, 5]) (.leaf [4, 5]))))))

noncomputable def impl_merged_ctx : Ctx := ⟨tlook tys, olook [(123, F_slices_Concat_int_int)], ioF, 0, false, []⟩

theorem impl_merged_n1_l (x5750 : List Int) (x5751 : List Int) : Link impl_merged_ctx LL (Code.seq (cq [0] (bodyOf Tryd.f121)) (Code.seq (cq [0,1] (bodyOf Tryd.f121)) (cq [0,1,1] (bodyOf Tryd.f121)))) (Ann.seq (aq [0] impl_merged_an) (Ann.seq (aq [0,1] impl_merged_an) (aq [0,1,1] impl_merged_an))) ⟨mkE 55 0 [(0, dL x5750), (1, dL x5751)], []⟩ (impl_merged_n1 x5750 x5751) (fun (t : (List Int)) => (Exit.normal, ⟨mkE 55 0 [(0, dL x5750), (1, dL x5751), (6, .slc 0), (7, dI 0)], [some (sI t)]⟩)) := by
  refine Link.of fun K h => ?_
  simp only [impl_merged_n1, wpO_bind, wpO_cond, wpO_map, wpO_some] at h
  exact Awp.of (by kernel_rfl) h

theorem impl_merged_n2_l (x5875 : List Int) (x5876 : List Int) (x5877 : Int) (x5878 : List Int) : Link impl_merged_ctx LL (cq [0,0,0,1,1,1] (bodyOf Tryd.f121)) (aq [0,0,0,1,1,1] impl_merged_an) ⟨mkE 55 0 [(0, dL x5875), (1, dL x5876), (6, .slc 0), (7, dI x5877)], [some (sI x5878)]⟩ (impl_merged_n2 x5875 x5876 x5877 x5878) (Sum.elim (fun (t : (List Int) × (List Int) × Int × (List Int)) => (Exit.normal, ⟨mkE 55 0 [(0, dL t.1), (1, dL t.2.1), (6, .slc 0), (7, dI t.2.2.1)], [some (sI t.2.2.2)]⟩)) (fun (t : (List Int) × (List Int) × Int × (List Int)) => ((Exit.exit 0), ⟨mkE 55 0 [(0, dL t.1), (1, dL t.2.1), (6, .slc 0), (7, dI t.2.2.1)], [some (sI t.2.2.2)]⟩))) := by
  refine Link.of fun K h => ?_
  simp only [impl_merged_n2, wpO_bind, wpO_cond, wpO_map, wpO_some] at h
  exact Awp.of (by kernel_rfl) h

def impl_merged_n3_l (x5750 : List Int) (x5751 : List Int) (x5841 : List Int) := (link_loop (mk := fun (s : (List Int) × (List Int) × Int × (List Int)) => ⟨mkE 55 0 [(0, dL s.1), (1, dL s.2.1), (6, .slc 0), (7, dI s.2.2.1)], [some (sI s.2.2.2)]⟩) (fin := (fun (t : (List Int) × (List Int) × Int × (List Int)) => ((Exit.exit 0), ⟨mkE 55 0 [(0, dL t.1), (1, dL t.2.1), (6, .slc 0), (7, dI t.2.2.1)], [some (sI t.2.2.2)]⟩))) (by
  rintro t f K h
  · exact h) (fun s => link_map (impl_merged_n2_l s.1 s.2.1 s.2.2.1 s.2.2.2) (Sum.elim (fun (t : (List Int) × (List Int) × Int × (List Int)) => Sum.inl (t.1, t.2.1, t.2.2.1, t.2.2.2)) (fun (t : (List Int) × (List Int) × Int × (List Int)) => Sum.inr t)) (by
  rintro (t | t)
  · kernel_rfl
  · kernel_rfl)) (x5750, x5751, 0, x5841))

def impl_merged_n4_l (x5750 : List Int) (x5751 : List Int) (x5841 : List Int) := (link_block (fin2 := (fun (t : (List Int) × (List Int) × Int × (List Int)) => (Exit.normal, ⟨mkE 55 0 [(0, dL t.1), (1, dL t.2.1), (6, .slc 0), (7, dI t.2.2.1)], [some (sI t.2.2.2)]⟩))) (id := 0) (impl_merged_n3_l x5750 x5751 x5841) (fun (t : (List Int) × (List Int) × Int × (List Int)) => (t.1, t.2.1, t.2.2.1, t.2.2.2)) (by
  rintro t K h
  · exact Eq.mp (by kernel_rfl) h))

theorem impl_merged_n5_l (x5875 : List Int) (x5876 : List Int) (x5877 : Int) (x5878 : List Int) : Link impl_merged_ctx LL (cq [1,1,1,1] (bodyOf Tryd.f121)) (aq [1,1,1,1] impl_merged_an) ⟨mkE 55 0 [(0, dL x5875), (1, dL x5876), (6, .slc 0), (7, dI x5877)], [some (sI x5878)]⟩ (impl_merged_n5 x5875 x5876 x5877 x5878) (fun (t : Nat × Int × (List Int)) => (Exit.ret, ⟨mkE 55 0 [(4, .win 0 0 t.1), (5, dI t.2.1)], [some (sI t.2.2)]⟩)) := by
  refine Link.of fun K h => ?_
  simp only [impl_merged_n5, wpO_bind, wpO_cond, wpO_map, wpO_some] at h
  exact Awp.of (by kernel_rfl) h

def impl_merged_n6_l (x5750 : List Int) (x5751 : List Int) (x5841 : List Int) := (link_seq (impl_merged_n4_l x5750 x5751 x5841) (fun (t : (List Int) × (List Int) × Int × (List Int)) => (impl_merged_n5_l t.1 t.2.1 t.2.2.1 t.2.2.2)))

def impl_merged_n7_l (x5750 : List Int) (x5751 : List Int) := (link_group (c := (cq [0,1,1] (bodyOf Tryd.f121))) (a := (aq [0,1,1] impl_merged_an)) [(cq [0] (bodyOf Tryd.f121)), (cq [0,1] (bodyOf Tryd.f121))] [(aq [0] impl_merged_an), (aq [0,1] impl_merged_an)] rfl (link_seq (impl_merged_n1_l x5750 x5751) (fun (t : (List Int)) => (impl_merged_n6_l x5750 x5751 t))))

theorem impl_merged_e (x5750 : List Int) (x5751 : List Int) {r : AV} {H' : Heap} (h : (Ans.mk _ (impl_merged x5750 x5751) (fun (t : Nat × Int × (List Int)) => (.tup [.win 0 0 t.1, dI t.2.1], [some (sI t.2.2)])) [] none).run = some (r, H')) : Awp impl_merged_ctx LL (bodyOf Tryd.f121) impl_merged_an ⟨mkE 55 0 [(0, dL x5750), (1, dL x5751)], []⟩ (Ret (tlook tys) Tryd.f121.results.toList r H') :=
  ret_of' (Link.cast (by kernel_rfl) (by kernel_rfl) (impl_merged_n7_l x5750 x5751)) (by unfold impl_merged; kernel_rfl) (by
  intro t
  exact ret_mk [.win 0 0 t.1, dI t.2.1] (by kernel_rfl) (by kernel_rfl) (by kernel_rfl) (by kernel_rfl)) h

def F_impl_merged : Fun := fun avs H =>
  match avs, H with
  | [.dat (.list (.int .i64)) x5750, .dat (.list (.int .i64)) x5751], [] => ⟨_, impl_merged x5750 x5751, fun (t : Nat × Int × (List Int)) => (.tup [.win 0 0 t.1, dI t.2.1], [some (sI t.2.2)]), [], none⟩
  | _, _ => Ans.no

theorem impl_merged_sound : Sound Tryd.prog 121 F_impl_merged := by
  refine fn_sound' (C := impl_merged_ctx) (c := bodyOf Tryd.f121) (cok_of tys_ok (allc slices_Concat_int_int_sound alln) (allc Tryd.call123 alln) (by kernel_rfl)) Tryd.func121 (by kernel_rfl) LL impl_merged_an ?_
  intro avs H r H' h
  unfold F_impl_merged at h
  split at h
  · refine Awp.cast ?_ ?_ ?_ (impl_merged_e _ _ h) <;> kernel_rfl
  · simp [Ans.no, Ans.run] at h


/-! loop.example/headtrees/impl.sorted -/

def impl_sorted_an : Ann := (.seq (.leaf [0]) (.seq (.seq (.leaf [0, 13]) (.cond (.seq (.leaf [2, 3]) (.leaf [2, 3])) (.leaf [0]))) (.seq (.leaf [0, 4]) (.seq (.leaf [0, 4, 5, 6]) (.seq (.leaf [5, 6, 7, 8]) (.seq (.leaf [6, 8, 9, 10]) (.seq (.leaf [2, 3]) (.leafF [⟨0, 2, false, none, none⟩] [2, 3]))))))))

def F_impl_sorted_fuel (n : Nat) : Fun := fun avs H =>
  match avs, H with
  | [.dat (.list (.int .i64)) x5698], [] => ⟨_, impl_sorted_fuel n x5698, fun (t : (List Int) × Int) => (.tup [dL t.1, dI t.2], []), [], none⟩
  | _, _ => Ans.no

noncomputable def impl_sorted_ctx (n : Nat) : Ctx := ⟨tlook tys, olook [(105, F_impl_sorted_fuel n), (121, F_impl_merged)], ioF, 0, false, []⟩

theorem impl_sorted_n1_l (n : Nat) (x5698 : List Int) : Link (impl_sorted_ctx n) LL (bodyOf Tryd.f105) impl_sorted_an ⟨mkE 44 0 [(0, dL x5698)], []⟩ (impl_sorted_n1 (impl_sorted_fuel n) x5698) (fun (t : (List Int) × Int) => (Exit.ret, ⟨mkE 44 0 [(2, dL t.1), (3, dI t.2)], []⟩)) := by
  refine Link.of fun K h => ?_
  simp only [impl_sorted_n1, wpO_bind, wpO_cond, wpO_map, wpO_some] at h
  exact Awp.of (by kernel_rfl) h

theorem impl_sorted_e (n : Nat) (x5698 : List Int) {r : AV} {H' : Heap} (h : (Ans.mk _ (impl_sorted_fuel (n + 1) x5698) (fun (t : (List Int) × Int) => (.tup [dL t.1, dI t.2], [])) [] none).run = some (r, H')) : Awp (impl_sorted_ctx n) LL (bodyOf Tryd.f105) impl_sorted_an ⟨mkE 44 0 [(0, dL x5698)], []⟩ (Ret (tlook tys) Tryd.f105.results.toList r H') :=
  ret_of' (impl_sorted_n1_l n x5698) (by (show _ = _); kernel_rfl) (by
  intro t
  exact ret_mk [dL t.1, dI t.2] (by kernel_rfl) (by kernel_rfl) (by kernel_rfl) (by kernel_rfl)) h

theorem impl_sorted_step (n : Nat) (h105 : Sound Tryd.prog 105 (F_impl_sorted_fuel n)) : Sound Tryd.prog 105 (F_impl_sorted_fuel (n + 1)) := by
  refine fn_sound' (C := impl_sorted_ctx n) (c := bodyOf Tryd.f105) (cok_of tys_ok (allc h105 (allc impl_merged_sound alln)) (allc Tryd.call105 (allc Tryd.call121 alln)) (by kernel_rfl)) Tryd.func105 (by kernel_rfl) LL impl_sorted_an ?_
  intro avs H r H' h
  unfold F_impl_sorted_fuel at h
  split at h
  · refine Awp.cast ?_ ?_ ?_ (impl_sorted_e n _ h) <;> kernel_rfl
  · simp [Ans.no, Ans.run] at h

theorem impl_sorted_null : Sound Tryd.prog 105 (F_impl_sorted_fuel 0) := by
  intro avs H r H' h
  unfold F_impl_sorted_fuel at h
  split at h
  · simp [impl_sorted_fuel, impl_sorted_knot, Ans.run] at h
  · simp [Ans.no, Ans.run] at h

theorem impl_sorted_knot_all : ∀ n, Sound Tryd.prog 105 (F_impl_sorted_fuel n)
  | 0 => impl_sorted_null
  | n + 1 => by
    have h105 := impl_sorted_knot_all n
    exact impl_sorted_step n h105

def F_impl_sorted : Fun := fun avs H =>
  match avs, H with
  | [.dat (.list (.int .i64)) x5698], [] => ⟨_, impl_sorted x5698, fun (t : (List Int) × Int) => (.tup [dL t.1, dI t.2], []), [], none⟩
  | _, _ => Ans.no

theorem impl_sorted_sound : Sound Tryd.prog 105 F_impl_sorted := by
  have e : F_impl_sorted = F_impl_sorted_fuel RR := by
    funext avs H
    unfold F_impl_sorted F_impl_sorted_fuel
    split <;> first | rfl | (simp only [impl_sorted])
  rw [e]
  exact (impl_sorted_knot_all RR)


/-! loop.example/headtrees/impl.CountTurned -/

def impl_CountTurned_an : Ann := (.seq (.leaf [0]) (.seq (.seq (.leaf [0, 9]) (.cond (.seq (.leaf [2]) (.leaf [2])) (.leaf [0]))) (.seq (.leaf [4]) (.seq (.leaf [2]) (.leaf [2])))))

noncomputable def impl_CountTurned_ctx : Ctx := ⟨tlook tys, olook [(33, F_impl_OrderOk), (105, F_impl_sorted)], ioF, 0, false, []⟩

theorem impl_CountTurned_n1_l (x5691 : List Int) : Link impl_CountTurned_ctx LL (bodyOf Tryd.f77) impl_CountTurned_an ⟨mkE 16 0 [(0, dL x5691)], []⟩ (impl_CountTurned_n1 x5691) (fun (t : Int) => (Exit.ret, ⟨mkE 16 0 [(2, dI t)], []⟩)) := by
  refine Link.of fun K h => ?_
  simp only [impl_CountTurned_n1, wpO_bind, wpO_cond, wpO_map, wpO_some] at h
  exact Awp.of (by kernel_rfl) h

theorem impl_CountTurned_e (x5691 : List Int) {r : AV} {H' : Heap} (h : (Ans.mk _ (impl_CountTurned x5691) (fun (t : Int) => (dI t, [])) [] none).run = some (r, H')) : Awp impl_CountTurned_ctx LL (bodyOf Tryd.f77) impl_CountTurned_an ⟨mkE 16 0 [(0, dL x5691)], []⟩ (Ret (tlook tys) Tryd.f77.results.toList r H') :=
  ret_of' (impl_CountTurned_n1_l x5691) (by unfold impl_CountTurned; kernel_rfl) (by
  intro t
  exact ret_mk [dI t] (by kernel_rfl) (by kernel_rfl) (by kernel_rfl) (by kernel_rfl)) h

def F_impl_CountTurned : Fun := fun avs H =>
  match avs, H with
  | [.dat (.list (.int .i64)) x5691], [] => ⟨_, impl_CountTurned x5691, fun (t : Int) => (dI t, []), [], none⟩
  | _, _ => Ans.no

theorem impl_CountTurned_sound : Sound Tryd.prog 77 F_impl_CountTurned := by
  refine fn_sound' (C := impl_CountTurned_ctx) (c := bodyOf Tryd.f77) (cok_of tys_ok (allc impl_OrderOk_sound (allc impl_sorted_sound alln)) (allc Tryd.call33 (allc Tryd.call105 alln)) (by kernel_rfl)) Tryd.func77 (by kernel_rfl) LL impl_CountTurned_an ?_
  intro avs H r H' h
  unfold F_impl_CountTurned at h
  split at h
  · refine Awp.cast ?_ ?_ ?_ (impl_CountTurned_e _ h) <;> kernel_rfl
  · simp [Ans.no, Ans.run] at h


/-! loop.example/headtrees/impl.ExchangesFor -/

def impl_ExchangesFor_an : Ann := (.seq (.leaf [0]) (.seq (.leaf [2]) (.leaf [2])))

noncomputable def impl_ExchangesFor_ctx : Ctx := ⟨tlook tys, olook [(29, F_impl_FlatOrder), (77, F_impl_CountTurned)], ioF, 0, false, []⟩

theorem impl_ExchangesFor_n1_l (x5689 : List Int) : Link impl_ExchangesFor_ctx LL (bodyOf Tryd.f35) impl_ExchangesFor_an ⟨mkE 6 0 [(0, dL x5689)], []⟩ (impl_ExchangesFor_n1 x5689) (fun (t : Int) => (Exit.ret, ⟨mkE 6 0 [(2, dI t)], []⟩)) := by
  refine Link.of fun K h => ?_
  simp only [impl_ExchangesFor_n1, wpO_bind, wpO_cond, wpO_map, wpO_some] at h
  exact Awp.of (by kernel_rfl) h

theorem impl_ExchangesFor_e (x5689 : List Int) {r : AV} {H' : Heap} (h : (Ans.mk _ (impl_ExchangesFor x5689) (fun (t : Int) => (dI t, [])) [] none).run = some (r, H')) : Awp impl_ExchangesFor_ctx LL (bodyOf Tryd.f35) impl_ExchangesFor_an ⟨mkE 6 0 [(0, dL x5689)], []⟩ (Ret (tlook tys) Tryd.f35.results.toList r H') :=
  ret_of' (impl_ExchangesFor_n1_l x5689) (by unfold impl_ExchangesFor; kernel_rfl) (by
  intro t
  exact ret_mk [dI t] (by kernel_rfl) (by kernel_rfl) (by kernel_rfl) (by kernel_rfl)) h

def F_impl_ExchangesFor : Fun := fun avs H =>
  match avs, H with
  | [.dat (.list (.int .i64)) x5689], [] => ⟨_, impl_ExchangesFor x5689, fun (t : Int) => (dI t, []), [], none⟩
  | _, _ => Ans.no

theorem impl_ExchangesFor_sound : Sound Tryd.prog 35 F_impl_ExchangesFor := by
  refine fn_sound' (C := impl_ExchangesFor_ctx) (c := bodyOf Tryd.f35) (cok_of tys_ok (allc impl_FlatOrder_sound (allc impl_CountTurned_sound alln)) (allc Tryd.call29 (allc Tryd.call77 alln)) (by kernel_rfl)) Tryd.func35 (by kernel_rfl) LL impl_ExchangesFor_an ?_
  intro avs H r H' h
  unfold F_impl_ExchangesFor at h
  split at h
  · refine Awp.cast ?_ ?_ ?_ (impl_ExchangesFor_e _ h) <;> kernel_rfl
  · simp [Ans.no, Ans.run] at h


/-! loop.example/headtrees/spec.CountTurned -/

def spec_CountTurned_an : Ann := (.seq (.leaf [0]) (.seq (.seq (.leaf [0, 10]) (.cond (.seq (.leaf [2]) (.leaf [2])) (.leaf [0]))) (.seq (.leaf [0, 3]) (.seq (.seq (.leaf [0, 3, 4]) (.block (.loop (.seq (.seq (.leaf [0, 3, 4, 14]) (.cond (.leaf [0, 3, 4]) (.leaf [3]))) (.seq (.block (.seq (.leaf [0, 3, 4, 5]) (.block (.loop (.seq (.seq (.leaf [0, 3, 4, 5, 19]) (.cond (.leaf [0, 3, 4, 5]) (.leaf [0, 3, 4]))) (.seq (.block (.seq (.draw [] [0, 1, 2, 3, 4, 5, 6, 7, 8] [] [0, 3, 4, 5, 30]) (.cond (.leaf [0, 3, 4, 5]) (.leaf [0, 3, 4, 5])))) (.leaf [0, 3, 4, 5]))))))) (.leaf [0, 3, 4])))))) (.seq (.leaf [2]) (.leaf [2]))))))

noncomputable def spec_CountTurned_ctx : Ctx := ⟨tlook tys, olook [(106, F_spec_OrderOk)], ioF, 0, false, []⟩

theorem spec_CountTurned_n1_l (x6360 : List Int) : Link spec_CountTurned_ctx LL (Code.seq (cq [0] (bodyOf Tryd.f78)) (Code.seq (cq [0,1] (bodyOf Tryd.f78)) (cq [0,1,1] (bodyOf Tryd.f78)))) (Ann.seq (aq [0] spec_CountTurned_an) (Ann.seq (aq [0,1] spec_CountTurned_an) (aq [0,1,1] spec_CountTurned_an))) ⟨mkE 34 0 [(0, dL x6360)], []⟩ (spec_CountTurned_n1 x6360) (Sum.elim (fun (t : Unit) => (Exit.normal, ⟨mkE 34 0 [(0, dL x6360), (3, dI 0)], []⟩)) (fun (t : Int) => (Exit.ret, ⟨mkE 34 0 [(2, dI t)], []⟩))) := by
  refine Link.of fun K h => ?_
  simp only [spec_CountTurned_n1, wpO_bind, wpO_cond, wpO_map, wpO_some] at h
  exact Awp.of (by kernel_rfl) h

theorem spec_CountTurned_n2_l (x6360 : List Int) : Link spec_CountTurned_ctx LL (cq [0,0,1,1,1] (bodyOf Tryd.f78)) (aq [0,0,1,1,1] spec_CountTurned_an) ⟨mkE 34 0 [(0, dL x6360), (3, dI 0)], []⟩ (spec_CountTurned_n2) (fun (t : Unit) => (Exit.normal, ⟨mkE 34 0 [(0, dL x6360), (3, dI 0), (4, dI 0)], []⟩)) := by
  refine Link.of fun K h => ?_
  simp only [spec_CountTurned_n2, wpO_bind, wpO_cond, wpO_map, wpO_some] at h
  exact Awp.of (by kernel_rfl) h

theorem spec_CountTurned_n3_l (x6360 : List Int) (x6402 : Int) (x6403 : Int) : Link spec_CountTurned_ctx LL (cq [0,0,0,1,0,1,1,1] (bodyOf Tryd.f78)) (aq [0,0,0,1,0,1,1,1] spec_CountTurned_an) ⟨mkE 34 0 [(0, dL x6360), (3, dI x6402), (4, dI x6403)], []⟩ (spec_CountTurned_n3 x6360 x6402 x6403) (Sum.elim (fun (t : Unit) => (Exit.normal, ⟨mkE 34 0 [(0, dL x6360), (3, dI x6402), (4, dI x6403)], []⟩)) (fun (t : Int) => ((Exit.exit 0), ⟨mkE 34 0 [(3, dI t)], []⟩))) := by
  refine Link.of fun K h => ?_
  simp only [spec_CountTurned_n3, wpO_bind, wpO_cond, wpO_map, wpO_some] at h
  exact Awp.of (by kernel_rfl) h

theorem spec_CountTurned_n4_l (x6360 : List Int) (x6402 : Int) (x6403 : Int) : Link spec_CountTurned_ctx LL (cq [0,0,0,1,0,0,1,0,1,1,1] (bodyOf Tryd.f78)) (aq [0,0,0,1,0,0,1,0,1,1,1] spec_CountTurned_an) ⟨mkE 34 0 [(0, dL x6360), (3, dI x6402), (4, dI x6403)], []⟩ (spec_CountTurned_n4) (fun (t : Unit) => (Exit.normal, ⟨mkE 34 0 [(0, dL x6360), (3, dI x6402), (4, dI x6403), (5, dI 0)], []⟩)) := by
  refine Link.of fun K h => ?_
  simp only [spec_CountTurned_n4, wpO_bind, wpO_cond, wpO_map, wpO_some] at h
  exact Awp.of (by kernel_rfl) h

theorem spec_CountTurned_n5_l (x6360 : List Int) (x6421 : Int) (x6403 : Int) (x6422 : Int) : Link spec_CountTurned_ctx LL (cq [0,0,1,0,0,1,0,0,1,0,1,1,1] (bodyOf Tryd.f78)) (aq [0,0,1,0,0,1,0,0,1,0,1,1,1] spec_CountTurned_an) ⟨mkE 34 0 [(0, dL x6360), (3, dI x6421), (4, dI x6403), (5, dI x6422)], []⟩ (spec_CountTurned_n5 x6360 x6421 x6403 x6422) (Sum.elim (fun (t : Int × Int) => (Exit.normal, ⟨mkE 34 0 [(0, dL x6360), (3, dI t.1), (4, dI x6403), (5, dI t.2)], []⟩)) (fun (t : Int) => ((Exit.exit 2), ⟨mkE 34 0 [(0, dL x6360), (3, dI t), (4, dI x6403)], []⟩))) := by
  refine Link.of fun K h => ?_
  simp only [spec_CountTurned_n5, wpO_bind, wpO_cond, wpO_map, wpO_some] at h
  exact Awp.of (by kernel_rfl) h

def spec_CountTurned_n6_l (x6360 : List Int) (x6402 : Int) (x6403 : Int) := (link_loop (mk := fun (s : Int × Int) => ⟨mkE 34 0 [(0, dL x6360), (3, dI s.1), (4, dI x6403), (5, dI s.2)], []⟩) (fin := (fun (t : Int) => ((Exit.exit 2), ⟨mkE 34 0 [(0, dL x6360), (3, dI t), (4, dI x6403)], []⟩))) (by
  rintro t f K h
  · exact h) (fun s => link_map (spec_CountTurned_n5_l x6360 s.1 x6403 s.2) (Sum.elim (fun (t : Int × Int) => Sum.inl (t.1, t.2)) (fun (t : Int) => Sum.inr t)) (by
  rintro (t | t)
  · kernel_rfl
  · kernel_rfl)) (x6402, 0))

def spec_CountTurned_n7_l (x6360 : List Int) (x6402 : Int) (x6403 : Int) := (link_block (fin2 := (fun (t : Int) => (Exit.normal, ⟨mkE 34 0 [(0, dL x6360), (3, dI t), (4, dI x6403)], []⟩))) (id := 2) (spec_CountTurned_n6_l x6360 x6402 x6403) (fun (t : Int) => t) (by
  rintro t K h
  · exact Eq.mp (by kernel_rfl) h))

def spec_CountTurned_n8_l (x6360 : List Int) (x6402 : Int) (x6403 : Int) := (link_seq (spec_CountTurned_n4_l x6360 x6402 x6403) (fun (t : Unit) => (spec_CountTurned_n7_l x6360 x6402 x6403)))

def spec_CountTurned_n9_l (x6360 : List Int) (x6402 : Int) (x6403 : Int) := (link_block (fin2 := (fun (t : Int) => (Exit.normal, ⟨mkE 34 0 [(0, dL x6360), (3, dI t), (4, dI x6403)], []⟩))) (id := 1) (spec_CountTurned_n8_l x6360 x6402 x6403) (fun (t : Int) => t) (by
  rintro t K h
  · exact Eq.mp (by kernel_rfl) h))

theorem spec_CountTurned_n10_l (x6360 : List Int) (x6421 : Int) (x6403 : Int) : Link spec_CountTurned_ctx LL (cq [1,1,0,0,1,0,1,1,1] (bodyOf Tryd.f78)) (aq [1,1,0,0,1,0,1,1,1] spec_CountTurned_an) ⟨mkE 34 0 [(0, dL x6360), (3, dI x6421), (4, dI x6403)], []⟩ (spec_CountTurned_n10 x6403) (fun (t : Int) => (Exit.normal, ⟨mkE 34 0 [(0, dL x6360), (3, dI x6421), (4, dI t)], []⟩)) := by
  refine Link.of fun K h => ?_
  simp only [spec_CountTurned_n10, wpO_bind, wpO_cond, wpO_map, wpO_some] at h
  exact Awp.of (by kernel_rfl) h

def spec_CountTurned_n11_l (x6360 : List Int) (x6402 : Int) (x6403 : Int) := (link_seq (spec_CountTurned_n9_l x6360 x6402 x6403) (fun (t : Int) => (link_map (fin2 := (fun (t : Int × Int) => (Exit.normal, ⟨mkE 34 0 [(0, dL x6360), (3, dI t.1), (4, dI t.2)], []⟩))) (spec_CountTurned_n10_l x6360 t x6403) (fun (u : Int) => (t, u)) (by
  rintro t
  · kernel_rfl))))

def spec_CountTurned_n12_l (x6360 : List Int) (x6402 : Int) (x6403 : Int) := (link_seq2 (spec_CountTurned_n3_l x6360 x6402 x6403) (fun (t : Unit) => (link_map (fin2 := (Sum.elim (fun (t : Int × Int) => (Exit.normal, ⟨mkE 34 0 [(0, dL x6360), (3, dI t.1), (4, dI t.2)], []⟩)) (fun (t : Int) => ((Exit.exit 0), ⟨mkE 34 0 [(3, dI t)], []⟩)))) (spec_CountTurned_n11_l x6360 x6402 x6403) (fun (t : Int × Int) => (Sum.inl (t.1, t.2))) (by
  rintro t
  · kernel_rfl))) (fun (t : Int) => (Sum.inr t)) (by
  rintro t
  · kernel_rfl) (by
  rintro t f K h
  · exact h))

def spec_CountTurned_n13_l (x6360 : List Int) := (link_loop (mk := fun (s : Int × Int) => ⟨mkE 34 0 [(0, dL x6360), (3, dI s.1), (4, dI s.2)], []⟩) (fin := (fun (t : Int) => ((Exit.exit 0), ⟨mkE 34 0 [(3, dI t)], []⟩))) (by
  rintro t f K h
  · exact h) (fun s => link_map (spec_CountTurned_n12_l x6360 s.1 s.2) (Sum.elim (fun (t : Int × Int) => Sum.inl (t.1, t.2)) (fun (t : Int) => Sum.inr t)) (by
  rintro (t | t)
  · kernel_rfl
  · kernel_rfl)) (0, 0))

def spec_CountTurned_n14_l (x6360 : List Int) := (link_block (fin2 := (fun (t : Int) => (Exit.normal, ⟨mkE 34 0 [(3, dI t)], []⟩))) (id := 0) (spec_CountTurned_n13_l x6360) (fun (t : Int) => t) (by
  rintro t K h
  · exact Eq.mp (by kernel_rfl) h))

def spec_CountTurned_n15_l (x6360 : List Int) := (link_seq (spec_CountTurned_n2_l x6360) (fun (t : Unit) => (spec_CountTurned_n14_l x6360)))

theorem spec_CountTurned_n16_l (x6402 : Int) : Link spec_CountTurned_ctx LL (cq [1,1,1,1] (bodyOf Tryd.f78)) (aq [1,1,1,1] spec_CountTurned_an) ⟨mkE 34 0 [(3, dI x6402)], []⟩ (spec_CountTurned_n16 x6402) (fun (t : Int) => (Exit.ret, ⟨mkE 34 0 [(2, dI t)], []⟩)) := by
  refine Link.of fun K h => ?_
  simp only [spec_CountTurned_n16, wpO_bind, wpO_cond, wpO_map, wpO_some] at h
  exact Awp.of (by kernel_rfl) h

def spec_CountTurned_n17_l (x6360 : List Int) := (link_seq (spec_CountTurned_n15_l x6360) (fun (t : Int) => (spec_CountTurned_n16_l t)))

def spec_CountTurned_n18_l (x6360 : List Int) := (link_group (c := (cq [0,1,1] (bodyOf Tryd.f78))) (a := (aq [0,1,1] spec_CountTurned_an)) [(cq [0] (bodyOf Tryd.f78)), (cq [0,1] (bodyOf Tryd.f78))] [(aq [0] spec_CountTurned_an), (aq [0,1] spec_CountTurned_an)] rfl (link_seq2 (spec_CountTurned_n1_l x6360) (fun (t : Unit) => (spec_CountTurned_n17_l x6360)) (fun (t : Int) => t) (by
  rintro t
  · kernel_rfl) (by
  rintro t f K h
  · exact h)))

theorem spec_CountTurned_e (x6360 : List Int) {r : AV} {H' : Heap} (h : (Ans.mk _ (spec_CountTurned x6360) (fun (t : Int) => (dI t, [])) [] none).run = some (r, H')) : Awp spec_CountTurned_ctx LL (bodyOf Tryd.f78) spec_CountTurned_an ⟨mkE 34 0 [(0, dL x6360)], []⟩ (Ret (tlook tys) Tryd.f78.results.toList r H') :=
  ret_of' (Link.cast (by kernel_rfl) (by kernel_rfl) (spec_CountTurned_n18_l x6360)) (by unfold spec_CountTurned; kernel_rfl) (by
  intro t
  exact ret_mk [dI t] (by kernel_rfl) (by kernel_rfl) (by kernel_rfl) (by kernel_rfl)) h

def F_spec_CountTurned : Fun := fun avs H =>
  match avs, H with
  | [.dat (.list (.int .i64)) x6360], [] => ⟨_, spec_CountTurned x6360, fun (t : Int) => (dI t, []), [], none⟩
  | _, _ => Ans.no

theorem spec_CountTurned_sound : Sound Tryd.prog 78 F_spec_CountTurned := by
  refine fn_sound' (C := spec_CountTurned_ctx) (c := bodyOf Tryd.f78) (cok_of tys_ok (allc spec_OrderOk_sound alln) (allc Tryd.call106 alln) (by kernel_rfl)) Tryd.func78 (by kernel_rfl) LL spec_CountTurned_an ?_
  intro avs H r H' h
  unfold F_spec_CountTurned at h
  split at h
  · refine Awp.cast ?_ ?_ ?_ (spec_CountTurned_e _ h) <;> kernel_rfl
  · simp [Ans.no, Ans.run] at h


/-! loop.example/headtrees/spec.ExchangesFor -/

def spec_ExchangesFor_an : Ann := (.seq (.leaf [0]) (.seq (.seq (.leaf [0, 5]) (.cond (.seq (.leaf [2]) (.leaf [2])) (.leaf [0]))) (.seq (.leaf [2]) (.leaf [2]))))

noncomputable def spec_ExchangesFor_ctx : Ctx := ⟨tlook tys, olook [(51, F_spec_TreeOk), (30, F_spec_FlatOrder), (78, F_spec_CountTurned)], ioF, 0, false, []⟩

theorem spec_ExchangesFor_n1_l (x6354 : List Int) : Link spec_ExchangesFor_ctx LL (bodyOf Tryd.f36) spec_ExchangesFor_an ⟨mkE 9 0 [(0, dL x6354)], []⟩ (spec_ExchangesFor_n1 x6354) (fun (t : Int) => (Exit.ret, ⟨mkE 9 0 [(2, dI t)], []⟩)) := by
  refine Link.of fun K h => ?_
  simp only [spec_ExchangesFor_n1, wpO_bind, wpO_cond, wpO_map, wpO_some] at h
  exact Awp.of (by kernel_rfl) h

theorem spec_ExchangesFor_e (x6354 : List Int) {r : AV} {H' : Heap} (h : (Ans.mk _ (spec_ExchangesFor x6354) (fun (t : Int) => (dI t, [])) [] none).run = some (r, H')) : Awp spec_ExchangesFor_ctx LL (bodyOf Tryd.f36) spec_ExchangesFor_an ⟨mkE 9 0 [(0, dL x6354)], []⟩ (Ret (tlook tys) Tryd.f36.results.toList r H') :=
  ret_of' (spec_ExchangesFor_n1_l x6354) (by unfold spec_ExchangesFor; kernel_rfl) (by
  intro t
  exact ret_mk [dI t] (by kernel_rfl) (by kernel_rfl) (by kernel_rfl) (by kernel_rfl)) h

def F_spec_ExchangesFor : Fun := fun avs H =>
  match avs, H with
  | [.dat (.list (.int .i64)) x6354], [] => ⟨_, spec_ExchangesFor x6354, fun (t : Int) => (dI t, []), [], none⟩
  | _, _ => Ans.no

theorem spec_ExchangesFor_sound : Sound Tryd.prog 36 F_spec_ExchangesFor := by
  refine fn_sound' (C := spec_ExchangesFor_ctx) (c := bodyOf Tryd.f36) (cok_of tys_ok (allc spec_TreeOk_sound (allc spec_FlatOrder_sound (allc spec_CountTurned_sound alln))) (allc Tryd.call51 (allc Tryd.call30 (allc Tryd.call78 alln))) (by kernel_rfl)) Tryd.func36 (by kernel_rfl) LL spec_ExchangesFor_an ?_
  intro avs H r H' h
  unfold F_spec_ExchangesFor at h
  split at h
  · refine Awp.cast ?_ ?_ ?_ (spec_ExchangesFor_e _ h) <;> kernel_rfl
  · simp [Ans.no, Ans.run] at h


/-! loop.example/headtrees/laws.toIntS -/

def laws_toIntS_an : Ann := (.seq (.leaf [0]) (.seq (.leaf [0, 3]) (.seq (.seq (.leaf [0, 3, 4]) (.block (.loop (.seq (.seq (.leaf [0, 3, 4, 11]) (.cond (.leaf [0, 3, 4]) (.leaf [3]))) (.seq (.block (.leaf [0, 3, 4])) (.leaf [0, 3, 4])))))) (.seq (.leaf [2]) (.leaf [2])))))

noncomputable def laws_toIntS_ctx : Ctx := ⟨tlook tys, olook [], ioF, 0, false, []⟩

theorem laws_toIntS_n1_l (x7834 : List Int) : Link laws_toIntS_ctx LL (Code.seq (cq [0] (bodyOf Tryd.f42)) (cq [0,1] (bodyOf Tryd.f42))) (Ann.seq (aq [0] laws_toIntS_an) (aq [0,1] laws_toIntS_an)) ⟨mkE 22 0 [(0, dL x7834)], []⟩ (laws_toIntS_n1 x7834) (fun (t : (List Int)) => (Exit.normal, ⟨mkE 22 0 [(0, dL x7834), (3, .slc 0)], [some (sI t)]⟩)) := by
  refine Link.of fun K h => ?_
  simp only [laws_toIntS_n1, wpO_bind, wpO_cond, wpO_map, wpO_some] at h
  exact Awp.of (by kernel_rfl) h

theorem laws_toIntS_n2_l (x7834 : List Int) (x7837 : List Int) : Link laws_toIntS_ctx LL (cq [0,0,1,1] (bodyOf Tryd.f42)) (aq [0,0,1,1] laws_toIntS_an) ⟨mkE 22 0 [(0, dL x7834), (3, .slc 0)], [some (sI x7837)]⟩ (laws_toIntS_n2) (fun (t : Unit) => (Exit.normal, ⟨mkE 22 0 [(0, dL x7834), (3, .slc 0), (4, dI 0)], [some (sI x7837)]⟩)) := by
  refine Link.of fun K h => ?_
  simp only [laws_toIntS_n2, wpO_bind, wpO_cond, wpO_map, wpO_some] at h
  exact Awp.of (by kernel_rfl) h

theorem laws_toIntS_n3_l (x7834 : List Int) (x7851 : Int) (x7852 : List Int) : Link laws_toIntS_ctx LL (cq [0,0,1,0,1,1] (bodyOf Tryd.f42)) (aq [0,0,1,0,1,1] laws_toIntS_an) ⟨mkE 22 0 [(0, dL x7834), (3, .slc 0), (4, dI x7851)], [some (sI x7852)]⟩ (laws_toIntS_n3 x7834 x7851 x7852) (Sum.elim (fun (t : Int × (List Int)) => (Exit.normal, ⟨mkE 22 0 [(0, dL x7834), (3, .slc 0), (4, dI t.1)], [some (sI t.2)]⟩)) (fun (t : (List Int)) => ((Exit.exit 0), ⟨mkE 22 0 [(3, .slc 0)], [some (sI t)]⟩))) := by
  refine Link.of fun K h => ?_
  simp only [laws_toIntS_n3, wpO_bind, wpO_cond, wpO_map, wpO_some] at h
  exact Awp.of (by kernel_rfl) h

def laws_toIntS_n4_l (x7834 : List Int) (x7837 : List Int) := (link_loop (mk := fun (s : Int × (List Int)) => ⟨mkE 22 0 [(0, dL x7834), (3, .slc 0), (4, dI s.1)], [some (sI s.2)]⟩) (fin := (fun (t : (List Int)) => ((Exit.exit 0), ⟨mkE 22 0 [(3, .slc 0)], [some (sI t)]⟩))) (by
  rintro t f K h
  · exact h) (fun s => link_map (laws_toIntS_n3_l x7834 s.1 s.2) (Sum.elim (fun (t : Int × (List Int)) => Sum.inl (t.1, t.2)) (fun (t : (List Int)) => Sum.inr t)) (by
  rintro (t | t)
  · kernel_rfl
  · kernel_rfl)) (0, x7837))

def laws_toIntS_n5_l (x7834 : List Int) (x7837 : List Int) := (link_block (fin2 := (fun (t : (List Int)) => (Exit.normal, ⟨mkE 22 0 [(3, .slc 0)], [some (sI t)]⟩))) (id := 0) (laws_toIntS_n4_l x7834 x7837) (fun (t : (List Int)) => t) (by
  rintro t K h
  · exact Eq.mp (by kernel_rfl) h))

def laws_toIntS_n6_l (x7834 : List Int) (x7837 : List Int) := (link_seq (laws_toIntS_n2_l x7834 x7837) (fun (t : Unit) => (laws_toIntS_n5_l x7834 x7837)))

theorem laws_toIntS_n7_l (x7852 : List Int) : Link laws_toIntS_ctx LL (cq [1,1,1] (bodyOf Tryd.f42)) (aq [1,1,1] laws_toIntS_an) ⟨mkE 22 0 [(3, .slc 0)], [some (sI x7852)]⟩ (laws_toIntS_n7 x7852) (fun (t : (List Int)) => (Exit.ret, ⟨mkE 22 0 [(2, .slc 0)], [some (sI t)]⟩)) := by
  refine Link.of fun K h => ?_
  simp only [laws_toIntS_n7, wpO_bind, wpO_cond, wpO_map, wpO_some] at h
  exact Awp.of (by kernel_rfl) h

def laws_toIntS_n8_l (x7834 : List Int) (x7837 : List Int) := (link_seq (laws_toIntS_n6_l x7834 x7837) (fun (t : (List Int)) => (laws_toIntS_n7_l t)))

def laws_toIntS_n9_l (x7834 : List Int) := (link_group (c := (cq [0,1] (bodyOf Tryd.f42))) (a := (aq [0,1] laws_toIntS_an)) [(cq [0] (bodyOf Tryd.f42))] [(aq [0] laws_toIntS_an)] rfl (link_seq (laws_toIntS_n1_l x7834) (fun (t : (List Int)) => (laws_toIntS_n8_l x7834 t))))

theorem laws_toIntS_e (x7834 : List Int) {r : AV} {H' : Heap} (h : (Ans.mk _ (laws_toIntS x7834) (fun (t : (List Int)) => (.slc 0, [some (sI t)])) [] none).run = some (r, H')) : Awp laws_toIntS_ctx LL (bodyOf Tryd.f42) laws_toIntS_an ⟨mkE 22 0 [(0, dL x7834)], []⟩ (Ret (tlook tys) Tryd.f42.results.toList r H') :=
  ret_of' (Link.cast (by kernel_rfl) (by kernel_rfl) (laws_toIntS_n9_l x7834)) (by unfold laws_toIntS; kernel_rfl) (by
  intro t
  exact ret_mk [.slc 0] (by kernel_rfl) (by kernel_rfl) (by kernel_rfl) (by kernel_rfl)) h

def F_laws_toIntS : Fun := fun avs H =>
  match avs, H with
  | [.dat (.list (.int .i64)) x7834], [] => ⟨_, laws_toIntS x7834, fun (t : (List Int)) => (.slc 0, [some (sI t)]), [], none⟩
  | _, _ => Ans.no

theorem laws_toIntS_sound : Sound Tryd.prog 42 F_laws_toIntS := by
  refine fn_sound' (C := laws_toIntS_ctx) (c := bodyOf Tryd.f42) (cok_of tys_ok (alln) (alln) (by kernel_rfl)) Tryd.func42 (by kernel_rfl) LL laws_toIntS_an ?_
  intro avs H r H' h
  unfold F_laws_toIntS at h
  split at h
  · refine Awp.cast ?_ ?_ ?_ (laws_toIntS_e _ h) <;> kernel_rfl
  · simp [Ans.no, Ans.run] at h


/-! loop.example/headtrees/laws.eqIntS -/

def laws_eqIntS_an : Ann := (.seq (.leaf [0, 1]) (.seq (.seq (.leaf [0, 1, 10]) (.cond (.seq (.leaf [4]) (.leaf [4])) (.leaf [0, 1]))) (.seq (.seq (.leaf [0, 1, 5]) (.block (.loop (.seq (.seq (.leaf [0, 1, 5, 14]) (.cond (.leaf [0, 1, 5]) (.leaf []))) (.seq (.block (.seq (.draw [] [0, 1, 2, 3, 4, 5, 6, 7, 8] [] [0, 1, 5, 25]) (.cond (.seq (.leaf [4]) (.leaf [4])) (.leaf [0, 1, 5])))) (.leaf [0, 1, 5])))))) (.seq (.leaf [4]) (.leaf [4])))))

noncomputable def laws_eqIntS_ctx : Ctx := ⟨tlook tys, olook [], ioF, 0, false, []⟩

theorem laws_eqIntS_n1_l (x7894 : List Int) (x7895 : List Int) : Link laws_eqIntS_ctx LL (Code.seq (cq [0] (bodyOf Tryd.f43)) (cq [0,1] (bodyOf Tryd.f43))) (Ann.seq (aq [0] laws_eqIntS_an) (aq [0,1] laws_eqIntS_an)) ⟨mkE 26 0 [(0, dL x7894), (1, dL x7895)], []⟩ (laws_eqIntS_n1 x7894 x7895) (Sum.elim (fun (t : Unit) => (Exit.normal, ⟨mkE 26 0 [(0, dL x7894), (1, dL x7895)], []⟩)) (fun (t : Bool) => (Exit.ret, ⟨mkE 26 0 [(4, dB t)], []⟩))) := by
  refine Link.of fun K h => ?_
  simp only [laws_eqIntS_n1, wpO_bind, wpO_cond, wpO_map, wpO_some] at h
  exact Awp.of (by kernel_rfl) h

theorem laws_eqIntS_n2_l (x7894 : List Int) (x7895 : List Int) : Link laws_eqIntS_ctx LL (cq [0,0,1,1] (bodyOf Tryd.f43)) (aq [0,0,1,1] laws_eqIntS_an) ⟨mkE 26 0 [(0, dL x7894), (1, dL x7895)], []⟩ (laws_eqIntS_n2) (fun (t : Unit) => (Exit.normal, ⟨mkE 26 0 [(0, dL x7894), (1, dL x7895), (5, dI 0)], []⟩)) := by
  refine Link.of fun K h => ?_
  simp only [laws_eqIntS_n2, wpO_bind, wpO_cond, wpO_map, wpO_some] at h
  exact Awp.of (by kernel_rfl) h

theorem laws_eqIntS_n3_l (x7894 : List Int) (x7895 : List Int) (x7912 : Int) : Link laws_eqIntS_ctx LL (cq [0,0,1,0,1,1] (bodyOf Tryd.f43)) (aq [0,0,1,0,1,1] laws_eqIntS_an) ⟨mkE 26 0 [(0, dL x7894), (1, dL x7895), (5, dI x7912)], []⟩ (laws_eqIntS_n3 x7894 x7895 x7912) (Sum.elim (fun (t : Int) => (Exit.normal, ⟨mkE 26 0 [(0, dL x7894), (1, dL x7895), (5, dI t)], []⟩)) (Sum.elim (fun (t : Bool) => (Exit.ret, ⟨mkE 26 0 [(4, dB t)], []⟩)) (fun (t : Unit) => ((Exit.exit 0), ⟨mkE 26 0 [], []⟩)))) := by
  refine Link.of fun K h => ?_
  simp only [laws_eqIntS_n3, wpO_bind, wpO_cond, wpO_map, wpO_some] at h
  exact Awp.of (by kernel_rfl) h

def laws_eqIntS_n4_l (x7894 : List Int) (x7895 : List Int) := (link_loop (mk := fun (s : Int) => ⟨mkE 26 0 [(0, dL x7894), (1, dL x7895), (5, dI s)], []⟩) (fin := (Sum.elim (fun (t : Bool) => (Exit.ret, ⟨mkE 26 0 [(4, dB t)], []⟩)) (fun (t : Unit) => ((Exit.exit 0), ⟨mkE 26 0 [], []⟩)))) (by
  rintro (t | t) f K h
  · exact h
  · exact h) (fun s => link_map (laws_eqIntS_n3_l x7894 x7895 s) (Sum.elim (fun (t : Int) => Sum.inl t) (Sum.elim (fun (t : Bool) => Sum.inr (Sum.inl t)) (fun (t : Unit) => Sum.inr (Sum.inr t)))) (by
  rintro (t | t | t)
  · kernel_rfl
  · kernel_rfl
  · kernel_rfl)) 0)

def laws_eqIntS_n5_l (x7894 : List Int) (x7895 : List Int) := (link_block (fin2 := (Sum.elim (fun (t : Unit) => (Exit.normal, ⟨mkE 26 0 [], []⟩)) (fun (t : Bool) => (Exit.ret, ⟨mkE 26 0 [(4, dB t)], []⟩)))) (id := 0) (laws_eqIntS_n4_l x7894 x7895) (Sum.elim (fun (t : Bool) => (Sum.inr t)) (fun (t : Unit) => (Sum.inl ()))) (by
  rintro (t | t) K h
  · exact Eq.mp (by kernel_rfl) h
  · exact Eq.mp (by kernel_rfl) h))

def laws_eqIntS_n6_l (x7894 : List Int) (x7895 : List Int) := (link_seq (laws_eqIntS_n2_l x7894 x7895) (fun (t : Unit) => (laws_eqIntS_n5_l x7894 x7895)))

theorem laws_eqIntS_n7_l : Link laws_eqIntS_ctx LL (cq [1,1,1] (bodyOf Tryd.f43)) (aq [1,1,1] laws_eqIntS_an) ⟨mkE 26 0 [], []⟩ (laws_eqIntS_n7) (fun (t : Bool) => (Exit.ret, ⟨mkE 26 0 [(4, dB t)], []⟩)) := by
  refine Link.of fun K h => ?_
  simp only [laws_eqIntS_n7, wpO_bind, wpO_cond, wpO_map, wpO_some] at h
  exact Awp.of (by kernel_rfl) h

def laws_eqIntS_n8_l (x7894 : List Int) (x7895 : List Int) := (link_seq2 (laws_eqIntS_n6_l x7894 x7895) (fun (t : Unit) => (laws_eqIntS_n7_l)) (fun (t : Bool) => t) (by
  rintro t
  · kernel_rfl) (by
  rintro t f K h
  · exact h))

def laws_eqIntS_n9_l (x7894 : List Int) (x7895 : List Int) := (link_group (c := (cq [0,1] (bodyOf Tryd.f43))) (a := (aq [0,1] laws_eqIntS_an)) [(cq [0] (bodyOf Tryd.f43))] [(aq [0] laws_eqIntS_an)] rfl (link_seq2 (laws_eqIntS_n1_l x7894 x7895) (fun (t : Unit) => (laws_eqIntS_n8_l x7894 x7895)) (fun (t : Bool) => t) (by
  rintro t
  · kernel_rfl) (by
  rintro t f K h
  · exact h)))

theorem laws_eqIntS_e (x7894 : List Int) (x7895 : List Int) {r : AV} {H' : Heap} (h : (Ans.mk _ (laws_eqIntS x7894 x7895) (fun (t : Bool) => (dB t, [])) [] none).run = some (r, H')) : Awp laws_eqIntS_ctx LL (bodyOf Tryd.f43) laws_eqIntS_an ⟨mkE 26 0 [(0, dL x7894), (1, dL x7895)], []⟩ (Ret (tlook tys) Tryd.f43.results.toList r H') :=
  ret_of' (Link.cast (by kernel_rfl) (by kernel_rfl) (laws_eqIntS_n9_l x7894 x7895)) (by unfold laws_eqIntS; kernel_rfl) (by
  intro t
  exact ret_mk [dB t] (by kernel_rfl) (by kernel_rfl) (by kernel_rfl) (by kernel_rfl)) h

def F_laws_eqIntS : Fun := fun avs H =>
  match avs, H with
  | [.dat (.list (.int .i64)) x7894, .dat (.list (.int .i64)) x7895], [] => ⟨_, laws_eqIntS x7894 x7895, fun (t : Bool) => (dB t, []), [], none⟩
  | _, _ => Ans.no

theorem laws_eqIntS_sound : Sound Tryd.prog 43 F_laws_eqIntS := by
  refine fn_sound' (C := laws_eqIntS_ctx) (c := bodyOf Tryd.f43) (cok_of tys_ok (alln) (alln) (by kernel_rfl)) Tryd.func43 (by kernel_rfl) LL laws_eqIntS_an ?_
  intro avs H r H' h
  unfold F_laws_eqIntS at h
  split at h
  · refine Awp.cast ?_ ?_ ?_ (laws_eqIntS_e _ _ h) <;> kernel_rfl
  · simp [Ans.no, Ans.run] at h


/-! loop.example/headtrees/laws.FnExactExchangesFor -/

def laws_FnExactExchangesFor_an : Ann := (.seq (.leaf [0]) (.seq (.seq (.leaf [0, 8]) (.cond (.seq (.leaf [2]) (.leaf [2])) (.leaf [0]))) (.seq (.leaf [0, 3]) (.seq (.leaf [0, 3, 4]) (.seq (.leaf [0, 3, 4, 5]) (.seq (.seq (.leaf [0, 4, 18]) (.cond (.seq (.leaf [2]) (.leaf [2])) (.leaf [0, 4]))) (.seq (.seq (.leaf [23]) (.cond (.seq (.leaf [2]) (.leaf [2])) (.leaf []))) (.seq (.leaf [2]) (.leaf [2])))))))))

noncomputable def laws_FnExactExchangesFor_ctx : Ctx := ⟨tlook tys, olook [(42, F_laws_toIntS), (36, F_spec_ExchangesFor), (35, F_impl_ExchangesFor), (43, F_laws_eqIntS)], ioF, 0, false, []⟩

theorem laws_FnExactExchangesFor_n1_l (x8443 : List Int) : Link laws_FnExactExchangesFor_ctx LL (bodyOf Tryd.f11) laws_FnExactExchangesFor_an ⟨mkE 24 0 [(0, dL x8443)], []⟩ (laws_FnExactExchangesFor_n1 x8443) (fun (t : Bool) => (Exit.ret, ⟨mkE 24 0 [(2, dB t)], []⟩)) := by
  refine Link.of fun K h => ?_
  simp only [laws_FnExactExchangesFor_n1, wpO_bind, wpO_cond, wpO_map, wpO_some] at h
  exact Awp.of (by kernel_rfl) h

theorem laws_FnExactExchangesFor_e (x8443 : List Int) {r : AV} {H' : Heap} (h : (Ans.mk _ (laws_FnExactExchangesFor x8443) (fun (t : Bool) => (dB t, [])) [] none).run = some (r, H')) : Awp laws_FnExactExchangesFor_ctx LL (bodyOf Tryd.f11) laws_FnExactExchangesFor_an ⟨mkE 24 0 [(0, dL x8443)], []⟩ (Ret (tlook tys) Tryd.f11.results.toList r H') :=
  ret_of' (laws_FnExactExchangesFor_n1_l x8443) (by unfold laws_FnExactExchangesFor; kernel_rfl) (by
  intro t
  exact ret_mk [dB t] (by kernel_rfl) (by kernel_rfl) (by kernel_rfl) (by kernel_rfl)) h

def F_laws_FnExactExchangesFor : Fun := fun avs H =>
  match avs, H with
  | [.dat (.list (.int .i64)) x8443], [] => ⟨_, laws_FnExactExchangesFor x8443, fun (t : Bool) => (dB t, []), [], none⟩
  | _, _ => Ans.no

theorem laws_FnExactExchangesFor_sound : Sound Tryd.prog 11 F_laws_FnExactExchangesFor := by
  refine fn_sound' (C := laws_FnExactExchangesFor_ctx) (c := bodyOf Tryd.f11) (cok_of tys_ok (allc laws_toIntS_sound (allc spec_ExchangesFor_sound (allc impl_ExchangesFor_sound (allc laws_eqIntS_sound alln)))) (allc Tryd.call42 (allc Tryd.call36 (allc Tryd.call35 (allc Tryd.call43 alln)))) (by kernel_rfl)) Tryd.func11 (by kernel_rfl) LL laws_FnExactExchangesFor_an ?_
  intro avs H r H' h
  unfold F_laws_FnExactExchangesFor at h
  split at h
  · refine Awp.cast ?_ ?_ ?_ (laws_FnExactExchangesFor_e _ h) <;> kernel_rfl
  · simp [Ans.no, Ans.run] at h


end Go.Rv
