/-
  The checked code answers as the plain functions do; written by program. Conditions: none.
-/
import Derived.Test.YtgjhjbankpdcgaaDoorGFnFlatAt
import Derived.Test.YtgjhjbankpdcgaaDoorProg
set_option linter.unusedVariables false
set_option linter.unusedSimpArgs false
set_option linter.defProp false
set_option maxRecDepth 100000
namespace Go.Rv
open Go.Proofs
theorem ty3 : TIOk Tryd.prog 3 ⟨.int .i64, 1, 8, some (.int .i64), [.int .i64 0], false⟩ := ⟨⟨infoOf (Tryd.prog.info? 3), by kernel_rfl, by kernel_rfl, by kernel_rfl, .int .i64 0, by kernel_rfl, by kernel_rfl⟩, (by kernel_rfl : Tryd.prog.underlying 3 = some (.int .i64)), no_eq⟩
theorem ty4 : TIOk Tryd.prog 4 ⟨.bool, 1, 1, some .bool, [.bool false], false⟩ := ⟨⟨infoOf (Tryd.prog.info? 4), by kernel_rfl, by kernel_rfl, by kernel_rfl, .bool false, by kernel_rfl, by kernel_rfl⟩, (by kernel_rfl : Tryd.prog.underlying 4 = some .bool), no_eq⟩
theorem ty5 : TIOk Tryd.prog 5 ⟨.int .u8, 1, 1, some (.int .u8), [.int .u8 0], false⟩ := ⟨⟨infoOf (Tryd.prog.info? 5), by kernel_rfl, by kernel_rfl, by kernel_rfl, .int .u8 0, by kernel_rfl, by kernel_rfl⟩, (by kernel_rfl : Tryd.prog.underlying 5 = some (.int .u8)), no_eq⟩
theorem ty9 : TIOk Tryd.prog 9 ⟨.str, 1, 16, some .str, [.string ByteArray.empty], false⟩ := ⟨⟨infoOf (Tryd.prog.info? 9), by kernel_rfl, by kernel_rfl, by kernel_rfl, .string ByteArray.empty, by kernel_rfl, by kernel_rfl⟩, (by kernel_rfl : Tryd.prog.underlying 9 = some .string), no_eq⟩
theorem ty22 : TIOk Tryd.prog 22 ⟨.slice 5, 1, 24, some (.list (.int .u8)), [.slice none 0 0], false⟩ := ⟨⟨infoOf (Tryd.prog.info? 22), by kernel_rfl, by kernel_rfl, by kernel_rfl, .slice none 0 0, by kernel_rfl, by kernel_rfl⟩, (by kernel_rfl : Tryd.prog.underlying 22 = some (.slice 5)), no_eq⟩
theorem ty23 : TIOk Tryd.prog 23 ⟨.slice 3, 1, 24, some (.list (.int .i64)), [.slice none 0 0], false⟩ := ⟨⟨infoOf (Tryd.prog.info? 23), by kernel_rfl, by kernel_rfl, by kernel_rfl, .slice none 0 0, by kernel_rfl, by kernel_rfl⟩, (by kernel_rfl : Tryd.prog.underlying 23 = some (.slice 3)), no_eq⟩
theorem ty51 : TIOk Tryd.prog 51 ⟨.int .u64, 1, 8, some (.int .u64), [.int .u64 0], false⟩ := ⟨⟨infoOf (Tryd.prog.info? 51), by kernel_rfl, by kernel_rfl, by kernel_rfl, .int .u64 0, by kernel_rfl, by kernel_rfl⟩, (by kernel_rfl : Tryd.prog.underlying 51 = some (.int .u64)), no_eq⟩
theorem ty59 : TIOk Tryd.prog 59 ⟨.arr 7 3, 7, 56, none, [.int .i64 0, .int .i64 0, .int .i64 0, .int .i64 0, .int .i64 0, .int .i64 0, .int .i64 0], false⟩ := ⟨⟨infoOf (Tryd.prog.info? 59), by kernel_rfl, by kernel_rfl, by kernel_rfl, .agg #[.int .i64 0, .int .i64 0, .int .i64 0, .int .i64 0, .int .i64 0, .int .i64 0, .int .i64 0], by kernel_rfl, by kernel_rfl⟩, (by kernel_rfl : Tryd.prog.underlying 59 = some (.array 7 3)), no_eq⟩
theorem ty61 : TIOk Tryd.prog 61 ⟨.strct [(0, 59), (7, 59)], 14, 112, none, [.int .i64 0, .int .i64 0, .int .i64 0, .int .i64 0, .int .i64 0, .int .i64 0, .int .i64 0, .int .i64 0, .int .i64 0, .int .i64 0, .int .i64 0, .int .i64 0, .int .i64 0, .int .i64 0], false⟩ := ⟨⟨infoOf (Tryd.prog.info? 61), by kernel_rfl, by kernel_rfl, by kernel_rfl, .agg #[.int .i64 0, .int .i64 0, .int .i64 0, .int .i64 0, .int .i64 0, .int .i64 0, .int .i64 0, .int .i64 0, .int .i64 0, .int .i64 0, .int .i64 0, .int .i64 0, .int .i64 0, .int .i64 0], by kernel_rfl, by kernel_rfl⟩, ⟨fieldsOf (Tryd.prog.underlying 61), by kernel_rfl, by kernel_rfl⟩, no_eq⟩
theorem ty65 : TIOk Tryd.prog 65 ⟨.strct [(0, 3), (1, 3)], 2, 16, some (.pair (.int .i64) (.pair (.int .i64) .unit)), [.int .i64 0, .int .i64 0], false⟩ := ⟨⟨infoOf (Tryd.prog.info? 65), by kernel_rfl, by kernel_rfl, by kernel_rfl, .agg #[.int .i64 0, .int .i64 0], by kernel_rfl, by kernel_rfl⟩, ⟨fieldsOf (Tryd.prog.underlying 65), by kernel_rfl, by kernel_rfl⟩, no_eq⟩
theorem ty67 : TIOk Tryd.prog 67 ⟨.slice 51, 1, 24, some (.list (.int .u64)), [.slice none 0 0], false⟩ := ⟨⟨infoOf (Tryd.prog.info? 67), by kernel_rfl, by kernel_rfl, by kernel_rfl, .slice none 0 0, by kernel_rfl, by kernel_rfl⟩, (by kernel_rfl : Tryd.prog.underlying 67 = some (.slice 51)), no_eq⟩
theorem ty71 : TIOk Tryd.prog 71 ⟨.strct [(0, 23), (1, 3), (2, 3)], 3, 40, some (.pair (.list (.int .i64)) (.pair (.int .i64) (.pair (.int .i64) .unit))), [.slice none 0 0, .int .i64 0, .int .i64 0], false⟩ := ⟨⟨infoOf (Tryd.prog.info? 71), by kernel_rfl, by kernel_rfl, by kernel_rfl, .agg #[.slice none 0 0, .int .i64 0, .int .i64 0], by kernel_rfl, by kernel_rfl⟩, ⟨fieldsOf (Tryd.prog.underlying 71), by kernel_rfl, by kernel_rfl⟩, no_eq⟩
theorem ty78 : TIOk Tryd.prog 78 ⟨.arr 9 4, 9, 9, none, [.bool false, .bool false, .bool false, .bool false, .bool false, .bool false, .bool false, .bool false, .bool false], false⟩ := ⟨⟨infoOf (Tryd.prog.info? 78), by kernel_rfl, by kernel_rfl, by kernel_rfl, .agg #[.bool false, .bool false, .bool false, .bool false, .bool false, .bool false, .bool false, .bool false, .bool false], by kernel_rfl, by kernel_rfl⟩, (by kernel_rfl : Tryd.prog.underlying 78 = some (.array 9 4)), no_eq⟩
theorem ty79 : TIOk Tryd.prog 79 ⟨.scalar, 1, 8, none, [.pointer none], false⟩ := ⟨⟨infoOf (Tryd.prog.info? 79), by kernel_rfl, by kernel_rfl, by kernel_rfl, .pointer none, by kernel_rfl, by kernel_rfl⟩, ⟨descOf (Tryd.prog.underlying 79), by kernel_rfl, by kernel_rfl⟩, no_eq⟩
theorem ty81 : TIOk Tryd.prog 81 ⟨.map 5 85, 1, 8, none, [.map none], false⟩ := ⟨⟨infoOf (Tryd.prog.info? 81), by kernel_rfl, by kernel_rfl, by kernel_rfl, .map none, by kernel_rfl, by kernel_rfl⟩, (by kernel_rfl : Tryd.prog.underlying 81 = some (.map 5 85)), no_eq⟩
theorem ty85 : TIOk Tryd.prog 85 ⟨.scalar, 1, 8, none, [.nilFunc], false⟩ := ⟨⟨infoOf (Tryd.prog.info? 85), by kernel_rfl, by kernel_rfl, by kernel_rfl, .nilFunc, by kernel_rfl, by kernel_rfl⟩, ⟨descOf (Tryd.prog.underlying 85), by kernel_rfl, by kernel_rfl⟩, no_eq⟩
theorem ty89 : TIOk Tryd.prog 89 ⟨.strct [(0, 23), (1, 23), (2, 3), (3, 3)], 4, 64, some (.pair (.list (.int .i64)) (.pair (.list (.int .i64)) (.pair (.int .i64) (.pair (.int .i64) .unit)))), [.slice none 0 0, .slice none 0 0, .int .i64 0, .int .i64 0], false⟩ := ⟨⟨infoOf (Tryd.prog.info? 89), by kernel_rfl, by kernel_rfl, by kernel_rfl, .agg #[.slice none 0 0, .slice none 0 0, .int .i64 0, .int .i64 0], by kernel_rfl, by kernel_rfl⟩, ⟨fieldsOf (Tryd.prog.underlying 89), by kernel_rfl, by kernel_rfl⟩, no_eq⟩
theorem ty91 : TIOk Tryd.prog 91 ⟨.strct [(0, 22), (1, 3)], 2, 32, some (.pair (.list (.int .u8)) (.pair (.int .i64) .unit)), [.slice none 0 0, .int .i64 0], false⟩ := ⟨⟨infoOf (Tryd.prog.info? 91), by kernel_rfl, by kernel_rfl, by kernel_rfl, .agg #[.slice none 0 0, .int .i64 0], by kernel_rfl, by kernel_rfl⟩, ⟨fieldsOf (Tryd.prog.underlying 91), by kernel_rfl, by kernel_rfl⟩, no_eq⟩
theorem ty95 : TIOk Tryd.prog 95 ⟨.strct [(0, 59), (7, 59)], 14, 112, none, [.int .i64 0, .int .i64 0, .int .i64 0, .int .i64 0, .int .i64 0, .int .i64 0, .int .i64 0, .int .i64 0, .int .i64 0, .int .i64 0, .int .i64 0, .int .i64 0, .int .i64 0, .int .i64 0], false⟩ := ⟨⟨infoOf (Tryd.prog.info? 95), by kernel_rfl, by kernel_rfl, by kernel_rfl, .agg #[.int .i64 0, .int .i64 0, .int .i64 0, .int .i64 0, .int .i64 0, .int .i64 0, .int .i64 0, .int .i64 0, .int .i64 0, .int .i64 0, .int .i64 0, .int .i64 0, .int .i64 0, .int .i64 0], by kernel_rfl, by kernel_rfl⟩, ⟨fieldsOf (Tryd.prog.underlying 95), by kernel_rfl, by kernel_rfl⟩, no_eq⟩
theorem ty107 : TIOk Tryd.prog 107 ⟨.scalar, 1, 8, none, [.nilFunc], false⟩ := ⟨⟨infoOf (Tryd.prog.info? 107), by kernel_rfl, by kernel_rfl, by kernel_rfl, .nilFunc, by kernel_rfl, by kernel_rfl⟩, ⟨descOf (Tryd.prog.underlying 107), by kernel_rfl, by kernel_rfl⟩, no_eq⟩
theorem ty113 : TIOk Tryd.prog 113 ⟨.int .u64, 1, 8, some (.int .u64), [.int .u64 0], false⟩ := ⟨⟨infoOf (Tryd.prog.info? 113), by kernel_rfl, by kernel_rfl, by kernel_rfl, .int .u64 0, by kernel_rfl, by kernel_rfl⟩, (by kernel_rfl : Tryd.prog.underlying 113 = some (.int .u64)), no_eq⟩
theorem ty119 : TIOk Tryd.prog 119 ⟨.arr 64 5, 64, 64, none, [.int .u8 0, .int .u8 0, .int .u8 0, .int .u8 0, .int .u8 0, .int .u8 0, .int .u8 0, .int .u8 0, .int .u8 0, .int .u8 0, .int .u8 0, .int .u8 0, .int .u8 0, .int .u8 0, .int .u8 0, .int .u8 0, .int .u8 0, .int .u8 0, .int .u8 0, .int .u8 0, .int .u8 0, .int .u8 0, .int .u8 0, .int .u8 0, .int .u8 0, .int .u8 0, .int .u8 0, .int .u8 0, .int .u8 0, .int .u8 0, .int .u8 0, .int .u8 0, .int .u8 0, .int .u8 0, .int .u8 0, .int .u8 0, .int .u8 0, .int .u8 0, .int .u8 0, .int .u8 0, .int .u8 0, .int .u8 0, .int .u8 0, .int .u8 0, .int .u8 0, .int .u8 0, .int .u8 0, .int .u8 0, .int .u8 0, .int .u8 0, .int .u8 0, .int .u8 0, .int .u8 0, .int .u8 0, .int .u8 0, .int .u8 0, .int .u8 0, .int .u8 0, .int .u8 0, .int .u8 0, .int .u8 0, .int .u8 0, .int .u8 0, .int .u8 0], false⟩ := ⟨⟨infoOf (Tryd.prog.info? 119), by kernel_rfl, by kernel_rfl, by kernel_rfl, .agg #[.int .u8 0, .int .u8 0, .int .u8 0, .int .u8 0, .int .u8 0, .int .u8 0, .int .u8 0, .int .u8 0, .int .u8 0, .int .u8 0, .int .u8 0, .int .u8 0, .int .u8 0, .int .u8 0, .int .u8 0, .int .u8 0, .int .u8 0, .int .u8 0, .int .u8 0, .int .u8 0, .int .u8 0, .int .u8 0, .int .u8 0, .int .u8 0, .int .u8 0, .int .u8 0, .int .u8 0, .int .u8 0, .int .u8 0, .int .u8 0, .int .u8 0, .int .u8 0, .int .u8 0, .int .u8 0, .int .u8 0, .int .u8 0, .int .u8 0, .int .u8 0, .int .u8 0, .int .u8 0, .int .u8 0, .int .u8 0, .int .u8 0, .int .u8 0, .int .u8 0, .int .u8 0, .int .u8 0, .int .u8 0, .int .u8 0, .int .u8 0, .int .u8 0, .int .u8 0, .int .u8 0, .int .u8 0, .int .u8 0, .int .u8 0, .int .u8 0, .int .u8 0, .int .u8 0, .int .u8 0, .int .u8 0, .int .u8 0, .int .u8 0, .int .u8 0], by kernel_rfl, by kernel_rfl⟩, (by kernel_rfl : Tryd.prog.underlying 119 = some (.array 64 5)), no_eq⟩
theorem ty121 : TIOk Tryd.prog 121 ⟨.slice 23, 1, 24, some (.list (.list (.int .i64))), [.slice none 0 0], false⟩ := ⟨⟨infoOf (Tryd.prog.info? 121), by kernel_rfl, by kernel_rfl, by kernel_rfl, .slice none 0 0, by kernel_rfl, by kernel_rfl⟩, (by kernel_rfl : Tryd.prog.underlying 121 = some (.slice 23)), no_eq⟩
def tys : List (TypeId × TI) := [(3, ⟨.int .i64, 1, 8, some (.int .i64), [.int .i64 0], false⟩), (4, ⟨.bool, 1, 1, some .bool, [.bool false], false⟩), (5, ⟨.int .u8, 1, 1, some (.int .u8), [.int .u8 0], false⟩), (9, ⟨.str, 1, 16, some .str, [.string ByteArray.empty], false⟩), (22, ⟨.slice 5, 1, 24, some (.list (.int .u8)), [.slice none 0 0], false⟩), (23, ⟨.slice 3, 1, 24, some (.list (.int .i64)), [.slice none 0 0], false⟩), (51, ⟨.int .u64, 1, 8, some (.int .u64), [.int .u64 0], false⟩), (59, ⟨.arr 7 3, 7, 56, none, [.int .i64 0, .int .i64 0, .int .i64 0, .int .i64 0, .int .i64 0, .int .i64 0, .int .i64 0], false⟩), (61, ⟨.strct [(0, 59), (7, 59)], 14, 112, none, [.int .i64 0, .int .i64 0, .int .i64 0, .int .i64 0, .int .i64 0, .int .i64 0, .int .i64 0, .int .i64 0, .int .i64 0, .int .i64 0, .int .i64 0, .int .i64 0, .int .i64 0, .int .i64 0], false⟩), (65, ⟨.strct [(0, 3), (1, 3)], 2, 16, some (.pair (.int .i64) (.pair (.int .i64) .unit)), [.int .i64 0, .int .i64 0], false⟩), (67, ⟨.slice 51, 1, 24, some (.list (.int .u64)), [.slice none 0 0], false⟩), (71, ⟨.strct [(0, 23), (1, 3), (2, 3)], 3, 40, some (.pair (.list (.int .i64)) (.pair (.int .i64) (.pair (.int .i64) .unit))), [.slice none 0 0, .int .i64 0, .int .i64 0], false⟩), (78, ⟨.arr 9 4, 9, 9, none, [.bool false, .bool false, .bool false, .bool false, .bool false, .bool false, .bool false, .bool false, .bool false], false⟩), (79, ⟨.scalar, 1, 8, none, [.pointer none], false⟩), (81, ⟨.map 5 85, 1, 8, none, [.map none], false⟩), (85, ⟨.scalar, 1, 8, none, [.nilFunc], false⟩), (89, ⟨.strct [(0, 23), (1, 23), (2, 3), (3, 3)], 4, 64, some (.pair (.list (.int .i64)) (.pair (.list (.int .i64)) (.pair (.int .i64) (.pair (.int .i64) .unit)))), [.slice none 0 0, .slice none 0 0, .int .i64 0, .int .i64 0], false⟩), (91, ⟨.strct [(0, 22), (1, 3)], 2, 32, some (.pair (.list (.int .u8)) (.pair (.int .i64) .unit)), [.slice none 0 0, .int .i64 0], false⟩), (95, ⟨.strct [(0, 59), (7, 59)], 14, 112, none, [.int .i64 0, .int .i64 0, .int .i64 0, .int .i64 0, .int .i64 0, .int .i64 0, .int .i64 0, .int .i64 0, .int .i64 0, .int .i64 0, .int .i64 0, .int .i64 0, .int .i64 0, .int .i64 0], false⟩), (107, ⟨.scalar, 1, 8, none, [.nilFunc], false⟩), (113, ⟨.int .u64, 1, 8, some (.int .u64), [.int .u64 0], false⟩), (119, ⟨.arr 64 5, 64, 64, none, [.int .u8 0, .int .u8 0, .int .u8 0, .int .u8 0, .int .u8 0, .int .u8 0, .int .u8 0, .int .u8 0, .int .u8 0, .int .u8 0, .int .u8 0, .int .u8 0, .int .u8 0, .int .u8 0, .int .u8 0, .int .u8 0, .int .u8 0, .int .u8 0, .int .u8 0, .int .u8 0, .int .u8 0, .int .u8 0, .int .u8 0, .int .u8 0, .int .u8 0, .int .u8 0, .int .u8 0, .int .u8 0, .int .u8 0, .int .u8 0, .int .u8 0, .int .u8 0, .int .u8 0, .int .u8 0, .int .u8 0, .int .u8 0, .int .u8 0, .int .u8 0, .int .u8 0, .int .u8 0, .int .u8 0, .int .u8 0, .int .u8 0, .int .u8 0, .int .u8 0, .int .u8 0, .int .u8 0, .int .u8 0, .int .u8 0, .int .u8 0, .int .u8 0, .int .u8 0, .int .u8 0, .int .u8 0, .int .u8 0, .int .u8 0, .int .u8 0, .int .u8 0, .int .u8 0, .int .u8 0, .int .u8 0, .int .u8 0, .int .u8 0, .int .u8 0], false⟩), (121, ⟨.slice 23, 1, 24, some (.list (.list (.int .i64))), [.slice none 0 0], false⟩)]
theorem tys_ok : TOk Tryd.prog (tlook tys) := tok_of (allc ty3 (allc ty4 (allc ty5 (allc ty9 (allc ty22 (allc ty23 (allc ty51 (allc ty59 (allc ty61 (allc ty65 (allc ty67 (allc ty71 (allc ty78 (allc ty79 (allc ty81 (allc ty85 (allc ty89 (allc ty91 (allc ty95 (allc ty107 (allc ty113 (allc ty119 (allc ty121 alln)))))))))))))))))))))))
def ioF (f : FuncId) (i : Nat) : Bool := [(44, 0), (58, 1), (60, 0), (70, 0), (93, 1), (95, 0), (96, 0), (99, 1), (104, 0), (124, 0)].any fun (p : Nat × Nat) => Nat.beq p.1 f && Nat.beq p.2 i


/-! loop.example/headtrees/spec.l20Open -/

def spec_l20Open_an : Ann := (.seq (.leaf [0]) (.seq (.seq (.leaf [0, 5]) (.cond (.leaf [0]) (.leaf [0]))) (.seq (.leaf [2]) (.leaf [2]))))

noncomputable def spec_l20Open_ctx : Ctx := ⟨tlook tys, olook [], ioF, 0, false, []⟩

theorem spec_l20Open_n1_l (x13 : List Int) : Link spec_l20Open_ctx LL (bodyOf Tryd.f47) spec_l20Open_an ⟨mkE 11 0 [(0, dV x13)], []⟩ (spec_l20Open_n1 x13) (fun (t : (List Int)) => (Exit.ret, ⟨mkE 11 0 [(2, .ptr 0 0)], [some (.box [dV t, dI 0])]⟩)) := by
  refine Link.of fun K h => ?_
  simp only [spec_l20Open_n1, wpO_bind, wpO_cond, wpO_map, wpO_some] at h
  exact Awp.of (by kernel_rfl) h

theorem spec_l20Open_e (x13 : List Int) {r : AV} {H' : Heap} (h : (Ans.mk _ (spec_l20Open x13) (fun (t : (List Int)) => (.ptr 0 0, [some (.box [dV t, dI 0])])) [] none).run = some (r, H')) : Awp spec_l20Open_ctx LL (bodyOf Tryd.f47) spec_l20Open_an ⟨mkE 11 0 [(0, dV x13)], []⟩ (Ret (tlook tys) Tryd.f47.results.toList r H') :=
  ret_of' (spec_l20Open_n1_l x13) (by unfold spec_l20Open; kernel_rfl) (by
  intro t
  exact ret_mk [.ptr 0 0] (by kernel_rfl) (by kernel_rfl) (by kernel_rfl) (by kernel_rfl)) h

def F_spec_l20Open : Fun := fun avs H =>
  match avs, H with
  | [.dat (.list (.int .u8)) x13], [] => ⟨_, spec_l20Open x13, fun (t : (List Int)) => (.ptr 0 0, [some (.box [dV t, dI 0])]), [], none⟩
  | _, _ => Ans.no

theorem spec_l20Open_sound : Sound Tryd.prog 47 F_spec_l20Open := by
  refine fn_sound' (C := spec_l20Open_ctx) (c := bodyOf Tryd.f47) (cok_of tys_ok (alln) (alln) (by kernel_rfl)) Tryd.func47 (by kernel_rfl) LL spec_l20Open_an ?_
  intro avs H r H' h
  unfold F_spec_l20Open at h
  split at h
  · refine Awp.cast ?_ ?_ ?_ (spec_l20Open_e _ h) <;> kernel_rfl
  · simp [Ans.no, Ans.run] at h


/-! (*loop.example/headtrees/spec.l20Rd).pick -/

def spec_l20Rd_pick_an : Ann := (.seq (.leaf [0, 1]) (.seq (.leaf [0, 1]) (.seq (.seq (.leaf [0, 1, 24]) (.cond (.seq (.leaf [4]) (.leaf [4])) (.leaf [0, 1]))) (.seq (.leaf [0, 1, 5]) (.seq (.seq (.leaf [0, 1, 5, 36]) (.cond (.seq (.leaf [4]) (.leaf [4])) (.leaf [0, 1, 5]))) (.seq (.draw [] [0, 1, 2, 3, 4, 5, 6, 7, 8, 9, 10, 11, 12, 13, 14, 15, 16, 17, 18, 19, 20, 21, 22, 23, 24, 25, 26, 27, 28, 29, 30, 31, 32, 33, 34, 35, 36, 37, 38, 39, 40, 41, 42, 43, 44, 45] [] [1, 6]) (.seq (.leaf [1, 6]) (.seq (.leaf [4]) (.leaf [4])))))))))

noncomputable def spec_l20Rd_pick_ctx : Ctx := ⟨tlook tys, olook [], ioF, 1, false, []⟩

theorem spec_l20Rd_pick_n1_l (x40 : Int) (x41 : List Int) (x42 : Int) : Link spec_l20Rd_pick_ctx LL (bodyOf Tryd.f55) spec_l20Rd_pick_an ⟨mkE 99 0 [(0, .ptr 0 0), (1, dI x40)], [some (.box [dV x41, dI x42])]⟩ (spec_l20Rd_pick_n1 x40 x41 x42) (fun (t : Int × Int) => (Exit.ret, ⟨mkE 99 0 [(4, dI t.1)], [some (.box [dV x41, dI t.2])]⟩)) := by
  refine Link.of fun K h => ?_
  simp only [spec_l20Rd_pick_n1, wpO_bind, wpO_cond, wpO_map, wpO_some] at h
  exact Awp.of (by kernel_rfl) h

theorem spec_l20Rd_pick_e (x40 : Int) (x41 : List Int) (x42 : Int) {r : AV} {H' : Heap} (h : (Ans.mk _ (spec_l20Rd_pick x40 x41 x42) (fun (t : Int × Int) => (dI t.1, [some (.box [dV x41, dI t.2])])) [] none).run = some (r, H')) : Awp spec_l20Rd_pick_ctx LL (bodyOf Tryd.f55) spec_l20Rd_pick_an ⟨mkE 99 0 [(0, .ptr 0 0), (1, dI x40)], [some (.box [dV x41, dI x42])]⟩ (Ret (tlook tys) Tryd.f55.results.toList r H') :=
  ret_of' (spec_l20Rd_pick_n1_l x40 x41 x42) (by unfold spec_l20Rd_pick; kernel_rfl) (by
  intro t
  exact ret_mk [dI t.1] (by kernel_rfl) (by kernel_rfl) (by kernel_rfl) (by kernel_rfl)) h

def F_spec_l20Rd_pick : Fun := fun avs H =>
  match avs, H with
  | [.ptr 0 0, .dat (.int .i64) x40], [some (.box [.dat (.list (.int .u8)) x41, .dat (.int .i64) x42])] => ⟨_, spec_l20Rd_pick x40 x41 x42, fun (t : Int × Int) => (dI t.1, [some (.box [dV x41, dI t.2])]), [], none⟩
  | _, _ => Ans.no

theorem spec_l20Rd_pick_sound : Sound Tryd.prog 55 F_spec_l20Rd_pick := by
  refine fn_sound' (C := spec_l20Rd_pick_ctx) (c := bodyOf Tryd.f55) (cok_of tys_ok (alln) (alln) (by kernel_rfl)) Tryd.func55 (by kernel_rfl) LL spec_l20Rd_pick_an ?_
  intro avs H r H' h
  unfold F_spec_l20Rd_pick at h
  split at h
  · refine Awp.cast ?_ ?_ ?_ (spec_l20Rd_pick_e _ _ _ h) <;> kernel_rfl
  · simp [Ans.no, Ans.run] at h


/-! loop.example/headtrees/impl.oneRoot -/

def impl_oneRoot_an : Ann := (.seq (.leaf [0]) (.seq (.leaf [0, 3]) (.seq (.seq (.leaf [0, 3, 6, 7, 8]) (.block (.loop (.seq (.leaf [0, 3, 6, 7, 8, 9]) (.seq (.cond (.leaf [0, 3, 6, 7, 8]) (.leaf [3])) (.seq (.block (.seq (.leaf [0, 3, 5, 6, 7, 8]) (.seq (.seq (.leaf [0, 3, 5, 6, 7, 8, 19]) (.cond (.seq (.leaf [2]) (.leaf [2])) (.leaf [0, 3, 5, 6, 7, 8]))) (.seq (.leaf [0, 3, 6, 7, 8, 21]) (.cond (.leaf [0, 3, 6, 7, 8]) (.leaf [0, 3, 6, 7, 8])))))) (.leaf [0, 3, 6, 7, 8]))))))) (.seq (.leaf [2]) (.leaf [2])))))

noncomputable def impl_oneRoot_ctx : Ctx := ⟨tlook tys, olook [], ioF, 0, false, []⟩

theorem impl_oneRoot_n1_l (x840 : List Int) : Link impl_oneRoot_ctx LL (Code.seq (cq [0] (bodyOf Tryd.f72)) (cq [0,1] (bodyOf Tryd.f72))) (Ann.seq (aq [0] impl_oneRoot_an) (aq [0,1] impl_oneRoot_an)) ⟨mkE 27 0 [(0, dL x840)], []⟩ (impl_oneRoot_n1) (fun (t : Unit) => (Exit.normal, ⟨mkE 27 0 [(0, dL x840), (3, dI 0)], []⟩)) := by
  refine Link.of fun K h => ?_
  simp only [impl_oneRoot_n1, wpO_bind, wpO_cond, wpO_map, wpO_some] at h
  exact Awp.of (by kernel_rfl) h

theorem impl_oneRoot_n2_l (x840 : List Int) : Link impl_oneRoot_ctx LL (cq [0,0,1,1] (bodyOf Tryd.f72)) (aq [0,0,1,1] impl_oneRoot_an) ⟨mkE 27 0 [(0, dL x840), (3, dI 0)], []⟩ (impl_oneRoot_n2 x840) (fun (t : Int) => (Exit.normal, ⟨mkE 27 0 [(0, dL x840), (3, dI 0), (6, dL x840), (7, dI t), (8, dI 0)], []⟩)) := by
  refine Link.of fun K h => ?_
  simp only [impl_oneRoot_n2, wpO_bind, wpO_cond, wpO_map, wpO_some] at h
  exact Awp.of (by kernel_rfl) h

theorem impl_oneRoot_n3_l (x840 : List Int) (x862 : Int) (x841 : Int) (x863 : Int) : Link impl_oneRoot_ctx LL (cq [0,0,1,0,1,1] (bodyOf Tryd.f72)) (aq [0,0,1,0,1,1] impl_oneRoot_an) ⟨mkE 27 0 [(0, dL x840), (3, dI x862), (6, dL x840), (7, dI x841), (8, dI x863)], []⟩ (impl_oneRoot_n3 x840 x862 x841 x863) (Sum.elim (fun (t : Int × Int) => (Exit.normal, ⟨mkE 27 0 [(0, dL x840), (3, dI t.1), (6, dL x840), (7, dI x841), (8, dI t.2)], []⟩)) (Sum.elim (fun (t : Bool) => (Exit.ret, ⟨mkE 27 0 [(2, dB t)], []⟩)) (fun (t : Int) => ((Exit.exit 0), ⟨mkE 27 0 [(3, dI t)], []⟩)))) := by
  refine Link.of fun K h => ?_
  simp only [impl_oneRoot_n3, wpO_bind, wpO_cond, wpO_map, wpO_some] at h
  exact Awp.of (by kernel_rfl) h

def impl_oneRoot_n4_l (x840 : List Int) (x841 : Int) := (link_loop (mk := fun (s : Int × Int) => ⟨mkE 27 0 [(0, dL x840), (3, dI s.1), (6, dL x840), (7, dI x841), (8, dI s.2)], []⟩) (fin := (Sum.elim (fun (t : Bool) => (Exit.ret, ⟨mkE 27 0 [(2, dB t)], []⟩)) (fun (t : Int) => ((Exit.exit 0), ⟨mkE 27 0 [(3, dI t)], []⟩)))) (by
  rintro (t | t) f K h
  · exact h
  · exact h) (fun s => link_map (impl_oneRoot_n3_l x840 s.1 x841 s.2) (Sum.elim (fun (t : Int × Int) => Sum.inl (t.1, t.2)) (Sum.elim (fun (t : Bool) => Sum.inr (Sum.inl t)) (fun (t : Int) => Sum.inr (Sum.inr t)))) (by
  rintro (t | t | t)
  · kernel_rfl
  · kernel_rfl
  · kernel_rfl)) (0, 0))

def impl_oneRoot_n5_l (x840 : List Int) (x841 : Int) := (link_block (fin2 := (Sum.elim (fun (t : Int) => (Exit.normal, ⟨mkE 27 0 [(3, dI t)], []⟩)) (fun (t : Bool) => (Exit.ret, ⟨mkE 27 0 [(2, dB t)], []⟩)))) (id := 0) (impl_oneRoot_n4_l x840 x841) (Sum.elim (fun (t : Bool) => (Sum.inr t)) (fun (t : Int) => (Sum.inl t))) (by
  rintro (t | t) K h
  · exact Eq.mp (by kernel_rfl) h
  · exact Eq.mp (by kernel_rfl) h))

def impl_oneRoot_n6_l (x840 : List Int) := (link_seq (impl_oneRoot_n2_l x840) (fun (t : Int) => (impl_oneRoot_n5_l x840 t)))

theorem impl_oneRoot_n7_l (x862 : Int) : Link impl_oneRoot_ctx LL (cq [1,1,1] (bodyOf Tryd.f72)) (aq [1,1,1] impl_oneRoot_an) ⟨mkE 27 0 [(3, dI x862)], []⟩ (impl_oneRoot_n7 x862) (fun (t : Bool) => (Exit.ret, ⟨mkE 27 0 [(2, dB t)], []⟩)) := by
  refine Link.of fun K h => ?_
  simp only [impl_oneRoot_n7, wpO_bind, wpO_cond, wpO_map, wpO_some] at h
  exact Awp.of (by kernel_rfl) h

def impl_oneRoot_n8_l (x840 : List Int) := (link_seq2 (impl_oneRoot_n6_l x840) (fun (t : Int) => (impl_oneRoot_n7_l t)) (fun (t : Bool) => t) (by
  rintro t
  · kernel_rfl) (by
  rintro t f K h
  · exact h))

def impl_oneRoot_n9_l (x840 : List Int) := (link_group (c := (cq [0,1] (bodyOf Tryd.f72))) (a := (aq [0,1] impl_oneRoot_an)) [(cq [0] (bodyOf Tryd.f72))] [(aq [0] impl_oneRoot_an)] rfl (link_seq (impl_oneRoot_n1_l x840) (fun (t : Unit) => (impl_oneRoot_n8_l x840))))

theorem impl_oneRoot_e (x840 : List Int) {r : AV} {H' : Heap} (h : (Ans.mk _ (impl_oneRoot x840) (fun (t : Bool) => (dB t, [])) [] none).run = some (r, H')) : Awp impl_oneRoot_ctx LL (bodyOf Tryd.f72) impl_oneRoot_an ⟨mkE 27 0 [(0, dL x840)], []⟩ (Ret (tlook tys) Tryd.f72.results.toList r H') :=
  ret_of' (Link.cast (by kernel_rfl) (by kernel_rfl) (impl_oneRoot_n9_l x840)) (by unfold impl_oneRoot; kernel_rfl) (by
  intro t
  exact ret_mk [dB t] (by kernel_rfl) (by kernel_rfl) (by kernel_rfl) (by kernel_rfl)) h

def F_impl_oneRoot : Fun := fun avs H =>
  match avs, H with
  | [.dat (.list (.int .i64)) x840], [] => ⟨_, impl_oneRoot x840, fun (t : Bool) => (dB t, []), [], none⟩
  | _, _ => Ans.no

theorem impl_oneRoot_sound : Sound Tryd.prog 72 F_impl_oneRoot := by
  refine fn_sound' (C := impl_oneRoot_ctx) (c := bodyOf Tryd.f72) (cok_of tys_ok (alln) (alln) (by kernel_rfl)) Tryd.func72 (by kernel_rfl) LL impl_oneRoot_an ?_
  intro avs H r H' h
  unfold F_impl_oneRoot at h
  split at h
  · refine Awp.cast ?_ ?_ ?_ (impl_oneRoot_e _ h) <;> kernel_rfl
  · simp [Ans.no, Ans.run] at h


/-! (*loop.example/headtrees/impl.walker).up -/

def impl_walker_up_an : Ann := (.seq (.leaf [0]) (.seq (.draw [] [0, 1, 2, 3, 4, 5, 6, 7, 8, 9, 10, 11] [] [0, 3]) (.seq (.seq (.leaf [0, 3, 16]) (.cond (.seq (.leaf [2]) (.leaf [2])) (.leaf [0, 3]))) (.seq (.leaf [0]) (.seq (.leaf []) (.seq (.leaf [2]) (.leaf [2])))))))

noncomputable def impl_walker_up_ctx : Ctx := ⟨tlook tys, olook [], ioF, 1, false, []⟩

theorem impl_walker_up_n1_l (x896 : List Int) (x897 : Int) (x898 : Int) : Link impl_walker_up_ctx LL (bodyOf Tryd.f64) impl_walker_up_an ⟨mkE 28 0 [(0, .ptr 0 0)], [some (.box [dL x896, dI x897, dI x898])]⟩ (impl_walker_up_n1 x896 x897 x898) (fun (t : Bool × Int × Int) => (Exit.ret, ⟨mkE 28 0 [(2, dB t.1)], [some (.box [dL x896, dI t.2.1, dI t.2.2])]⟩)) := by
  refine Link.of fun K h => ?_
  simp only [impl_walker_up_n1, wpO_bind, wpO_cond, wpO_map, wpO_some] at h
  exact Awp.of (by kernel_rfl) h

theorem impl_walker_up_e (x896 : List Int) (x897 : Int) (x898 : Int) {r : AV} {H' : Heap} (h : (Ans.mk _ (impl_walker_up x896 x897 x898) (fun (t : Bool × Int × Int) => (dB t.1, [some (.box [dL x896, dI t.2.1, dI t.2.2])])) [] none).run = some (r, H')) : Awp impl_walker_up_ctx LL (bodyOf Tryd.f64) impl_walker_up_an ⟨mkE 28 0 [(0, .ptr 0 0)], [some (.box [dL x896, dI x897, dI x898])]⟩ (Ret (tlook tys) Tryd.f64.results.toList r H') :=
  ret_of' (impl_walker_up_n1_l x896 x897 x898) (by unfold impl_walker_up; kernel_rfl) (by
  intro t
  exact ret_mk [dB t.1] (by kernel_rfl) (by kernel_rfl) (by kernel_rfl) (by kernel_rfl)) h

def F_impl_walker_up : Fun := fun avs H =>
  match avs, H with
  | [.ptr 0 0], [some (.box [.dat (.list (.int .i64)) x896, .dat (.int .i64) x897, .dat (.int .i64) x898])] => ⟨_, impl_walker_up x896 x897 x898, fun (t : Bool × Int × Int) => (dB t.1, [some (.box [dL x896, dI t.2.1, dI t.2.2])]), [], none⟩
  | _, _ => Ans.no

theorem impl_walker_up_sound : Sound Tryd.prog 64 F_impl_walker_up := by
  refine fn_sound' (C := impl_walker_up_ctx) (c := bodyOf Tryd.f64) (cok_of tys_ok (alln) (alln) (by kernel_rfl)) Tryd.func64 (by kernel_rfl) LL impl_walker_up_an ?_
  intro avs H r H' h
  unfold F_impl_walker_up at h
  split at h
  · refine Awp.cast ?_ ?_ ?_ (impl_walker_up_e _ _ _ h) <;> kernel_rfl
  · simp [Ans.no, Ans.run] at h


/-! loop.example/headtrees/impl.stepsToRoot -/

def impl_stepsToRoot_an : Ann := (.seq (.leaf [0, 1]) (.seq (.leaf [0, 6]) (.seq (.block (.loop (.seq (.seq (.leaf [0, 6, 10]) (.cond (.leaf [0, 6]) (.leaf [6]))) (.block (.seq (.leaf [0, 6, 15]) (.cond (.seq (.leaf [4, 5]) (.leaf [4, 5])) (.leaf [0, 6]))))))) (.seq (.leaf [4, 5]) (.leaf [4, 5])))))

noncomputable def impl_stepsToRoot_ctx : Ctx := ⟨tlook tys, olook [(64, F_impl_walker_up)], ioF, 0, false, []⟩

theorem impl_stepsToRoot_n1_l (x894 : List Int) (x895 : Int) : Link impl_stepsToRoot_ctx LL (Code.seq (cq [0] (bodyOf Tryd.f73)) (cq [0,1] (bodyOf Tryd.f73))) (Ann.seq (aq [0] impl_stepsToRoot_an) (aq [0,1] impl_stepsToRoot_an)) ⟨mkE 18 0 [(0, dL x894), (1, dI x895)], []⟩ (impl_stepsToRoot_n1) (fun (t : Unit) => (Exit.normal, ⟨mkE 18 0 [(0, dL x894), (6, .ptr 0 0)], [some (.box [dL x894, dI x895, dI 0])]⟩)) := by
  refine Link.of fun K h => ?_
  simp only [impl_stepsToRoot_n1, wpO_bind, wpO_cond, wpO_map, wpO_some] at h
  exact Awp.of (by kernel_rfl) h

theorem impl_stepsToRoot_n2_l (x894 : List Int) (x932 : Int) (x933 : Int) : Link impl_stepsToRoot_ctx LL (cq [0,0,0,1,1] (bodyOf Tryd.f73)) (aq [0,0,0,1,1] impl_stepsToRoot_an) ⟨mkE 18 0 [(0, dL x894), (6, .ptr 0 0)], [some (.box [dL x894, dI x932, dI x933])]⟩ (impl_stepsToRoot_n2 x894 x932 x933) (Sum.elim (fun (t : Int × Int) => (Exit.normal, ⟨mkE 18 0 [(0, dL x894), (6, .ptr 0 0)], [some (.box [dL x894, dI t.1, dI t.2])]⟩)) (Sum.elim (fun (t : Int × Bool) => (Exit.ret, ⟨mkE 18 0 [(4, dI t.1), (5, dB t.2)], []⟩)) (fun (t : Int × Int) => ((Exit.exit 0), ⟨mkE 18 0 [(6, .ptr 0 0)], [some (.box [dL x894, dI t.1, dI t.2])]⟩)))) := by
  refine Link.of fun K h => ?_
  simp only [impl_stepsToRoot_n2, wpO_bind, wpO_cond, wpO_map, wpO_some] at h
  exact Awp.of (by kernel_rfl) h

def impl_stepsToRoot_n3_l (x894 : List Int) (x895 : Int) := (link_loop (mk := fun (s : Int × Int) => ⟨mkE 18 0 [(0, dL x894), (6, .ptr 0 0)], [some (.box [dL x894, dI s.1, dI s.2])]⟩) (fin := (Sum.elim (fun (t : Int × Bool) => (Exit.ret, ⟨mkE 18 0 [(4, dI t.1), (5, dB t.2)], []⟩)) (fun (t : Int × Int) => ((Exit.exit 0), ⟨mkE 18 0 [(6, .ptr 0 0)], [some (.box [dL x894, dI t.1, dI t.2])]⟩)))) (by
  rintro (t | t) f K h
  · exact h
  · exact h) (fun s => link_map (impl_stepsToRoot_n2_l x894 s.1 s.2) (Sum.elim (fun (t : Int × Int) => Sum.inl (t.1, t.2)) (Sum.elim (fun (t : Int × Bool) => Sum.inr (Sum.inl t)) (fun (t : Int × Int) => Sum.inr (Sum.inr t)))) (by
  rintro (t | t | t)
  · kernel_rfl
  · kernel_rfl
  · kernel_rfl)) (x895, 0))

def impl_stepsToRoot_n4_l (x894 : List Int) (x895 : Int) := (link_block (fin2 := (Sum.elim (fun (t : Int × Int) => (Exit.normal, ⟨mkE 18 0 [(6, .ptr 0 0)], [some (.box [dL x894, dI t.1, dI t.2])]⟩)) (fun (t : Int × Bool) => (Exit.ret, ⟨mkE 18 0 [(4, dI t.1), (5, dB t.2)], []⟩)))) (id := 0) (impl_stepsToRoot_n3_l x894 x895) (Sum.elim (fun (t : Int × Bool) => (Sum.inr t)) (fun (t : Int × Int) => (Sum.inl (t.1, t.2)))) (by
  rintro (t | t) K h
  · exact Eq.mp (by kernel_rfl) h
  · exact Eq.mp (by kernel_rfl) h))

theorem impl_stepsToRoot_n5_l (x894 : List Int) (x940 : Int) (x941 : Int) : Link impl_stepsToRoot_ctx LL (cq [1,1,1] (bodyOf Tryd.f73)) (aq [1,1,1] impl_stepsToRoot_an) ⟨mkE 18 0 [(6, .ptr 0 0)], [some (.box [dL x894, dI x940, dI x941])]⟩ (impl_stepsToRoot_n5 x941) (fun (t : Int × Bool) => (Exit.ret, ⟨mkE 18 0 [(4, dI t.1), (5, dB t.2)], []⟩)) := by
  refine Link.of fun K h => ?_
  simp only [impl_stepsToRoot_n5, wpO_bind, wpO_cond, wpO_map, wpO_some] at h
  exact Awp.of (by kernel_rfl) h

def impl_stepsToRoot_n6_l (x894 : List Int) (x895 : Int) := (link_seq2 (impl_stepsToRoot_n4_l x894 x895) (fun (t : Int × Int) => (impl_stepsToRoot_n5_l x894 t.1 t.2)) (fun (t : Int × Bool) => t) (by
  rintro t
  · kernel_rfl) (by
  rintro t f K h
  · exact h))

def impl_stepsToRoot_n7_l (x894 : List Int) (x895 : Int) := (link_group (c := (cq [0,1] (bodyOf Tryd.f73))) (a := (aq [0,1] impl_stepsToRoot_an)) [(cq [0] (bodyOf Tryd.f73))] [(aq [0] impl_stepsToRoot_an)] rfl (link_seq (impl_stepsToRoot_n1_l x894 x895) (fun (t : Unit) => (impl_stepsToRoot_n6_l x894 x895))))

theorem impl_stepsToRoot_e (x894 : List Int) (x895 : Int) {r : AV} {H' : Heap} (h : (Ans.mk _ (impl_stepsToRoot x894 x895) (fun (t : Int × Bool) => (.tup [dI t.1, dB t.2], [])) [] none).run = some (r, H')) : Awp impl_stepsToRoot_ctx LL (bodyOf Tryd.f73) impl_stepsToRoot_an ⟨mkE 18 0 [(0, dL x894), (1, dI x895)], []⟩ (Ret (tlook tys) Tryd.f73.results.toList r H') :=
  ret_of' (Link.cast (by kernel_rfl) (by kernel_rfl) (impl_stepsToRoot_n7_l x894 x895)) (by unfold impl_stepsToRoot; kernel_rfl) (by
  intro t
  exact ret_mk [dI t.1, dB t.2] (by kernel_rfl) (by kernel_rfl) (by kernel_rfl) (by kernel_rfl)) h

def F_impl_stepsToRoot : Fun := fun avs H =>
  match avs, H with
  | [.dat (.list (.int .i64)) x894, .dat (.int .i64) x895], [] => ⟨_, impl_stepsToRoot x894 x895, fun (t : Int × Bool) => (.tup [dI t.1, dB t.2], []), [], none⟩
  | _, _ => Ans.no

theorem impl_stepsToRoot_sound : Sound Tryd.prog 73 F_impl_stepsToRoot := by
  refine fn_sound' (C := impl_stepsToRoot_ctx) (c := bodyOf Tryd.f73) (cok_of tys_ok (allc impl_walker_up_sound alln) (allc Tryd.call64 alln) (by kernel_rfl)) Tryd.func73 (by kernel_rfl) LL impl_stepsToRoot_an ?_
  intro avs H r H' h
  unfold F_impl_stepsToRoot at h
  split at h
  · refine Awp.cast ?_ ?_ ?_ (impl_stepsToRoot_e _ _ h) <;> kernel_rfl
  · simp [Ans.no, Ans.run] at h


/-! loop.example/headtrees/impl.TreeOk -/

def impl_TreeOk_an : Ann := (.seq (.leaf [0]) (.seq (.seq (.leaf [0, 18]) (.cond (.seq (.leaf [2]) (.leaf [2])) (.leaf [0]))) (.seq (.seq (.leaf [0, 20, 21]) (.block (.loop (.seq (.leaf [0, 20, 21, 22]) (.seq (.cond (.leaf [0, 20, 21]) (.leaf [])) (.seq (.block (.seq (.leaf [0, 3, 20, 21]) (.seq (.leaf [0, 5, 20, 21]) (.seq (.leaf [0, 20, 21, 32]) (.cond (.seq (.leaf [2]) (.leaf [2])) (.leaf [0, 20, 21])))))) (.leaf [0, 20, 21]))))))) (.seq (.leaf [2]) (.leaf [2])))))

noncomputable def impl_TreeOk_ctx : Ctx := ⟨tlook tys, olook [(72, F_impl_oneRoot), (73, F_impl_stepsToRoot)], ioF, 0, false, []⟩

theorem impl_TreeOk_n1_l (x834 : List Int) : Link impl_TreeOk_ctx LL (Code.seq (cq [0] (bodyOf Tryd.f31)) (cq [0,1] (bodyOf Tryd.f31))) (Ann.seq (aq [0] impl_TreeOk_an) (aq [0,1] impl_TreeOk_an)) ⟨mkE 34 0 [(0, dL x834)], []⟩ (impl_TreeOk_n1 x834) (Sum.elim (fun (t : Unit) => (Exit.normal, ⟨mkE 34 0 [(0, dL x834)], []⟩)) (fun (t : Bool) => (Exit.ret, ⟨mkE 34 0 [(2, dB t)], []⟩))) := by
  refine Link.of fun K h => ?_
  simp only [impl_TreeOk_n1, wpO_bind, wpO_cond, wpO_map, wpO_some] at h
  exact Awp.of (by kernel_rfl) h

theorem impl_TreeOk_n2_l (x834 : List Int) : Link impl_TreeOk_ctx LL (cq [0,0,1,1] (bodyOf Tryd.f31)) (aq [0,0,1,1] impl_TreeOk_an) ⟨mkE 34 0 [(0, dL x834)], []⟩ (impl_TreeOk_n2 x834) (fun (t : Int) => (Exit.normal, ⟨mkE 34 0 [(0, dL x834), (20, dI t), (21, dI 0)], []⟩)) := by
  refine Link.of fun K h => ?_
  simp only [impl_TreeOk_n2, wpO_bind, wpO_cond, wpO_map, wpO_some] at h
  exact Awp.of (by kernel_rfl) h

theorem impl_TreeOk_n3_l (x834 : List Int) (x889 : Int) (x957 : Int) : Link impl_TreeOk_ctx LL (cq [0,0,1,0,1,1] (bodyOf Tryd.f31)) (aq [0,0,1,0,1,1] impl_TreeOk_an) ⟨mkE 34 0 [(0, dL x834), (20, dI x889), (21, dI x957)], []⟩ (impl_TreeOk_n3 x834 x889 x957) (Sum.elim (fun (t : Int) => (Exit.normal, ⟨mkE 34 0 [(0, dL x834), (20, dI x889), (21, dI t)], []⟩)) (Sum.elim (fun (t : Bool) => (Exit.ret, ⟨mkE 34 0 [(2, dB t)], []⟩)) (fun (t : Unit) => ((Exit.exit 0), ⟨mkE 34 0 [], []⟩)))) := by
  refine Link.of fun K h => ?_
  simp only [impl_TreeOk_n3, wpO_bind, wpO_cond, wpO_map, wpO_some] at h
  exact Awp.of (by kernel_rfl) h

def impl_TreeOk_n4_l (x834 : List Int) (x889 : Int) := (link_loop (mk := fun (s : Int) => ⟨mkE 34 0 [(0, dL x834), (20, dI x889), (21, dI s)], []⟩) (fin := (Sum.elim (fun (t : Bool) => (Exit.ret, ⟨mkE 34 0 [(2, dB t)], []⟩)) (fun (t : Unit) => ((Exit.exit 0), ⟨mkE 34 0 [], []⟩)))) (by
  rintro (t | t) f K h
  · exact h
  · exact h) (fun s => link_map (impl_TreeOk_n3_l x834 x889 s) (Sum.elim (fun (t : Int) => Sum.inl t) (Sum.elim (fun (t : Bool) => Sum.inr (Sum.inl t)) (fun (t : Unit) => Sum.inr (Sum.inr t)))) (by
  rintro (t | t | t)
  · kernel_rfl
  · kernel_rfl
  · kernel_rfl)) 0)

def impl_TreeOk_n5_l (x834 : List Int) (x889 : Int) := (link_block (fin2 := (Sum.elim (fun (t : Unit) => (Exit.normal, ⟨mkE 34 0 [], []⟩)) (fun (t : Bool) => (Exit.ret, ⟨mkE 34 0 [(2, dB t)], []⟩)))) (id := 0) (impl_TreeOk_n4_l x834 x889) (Sum.elim (fun (t : Bool) => (Sum.inr t)) (fun (t : Unit) => (Sum.inl ()))) (by
  rintro (t | t) K h
  · exact Eq.mp (by kernel_rfl) h
  · exact Eq.mp (by kernel_rfl) h))

def impl_TreeOk_n6_l (x834 : List Int) := (link_seq (impl_TreeOk_n2_l x834) (fun (t : Int) => (impl_TreeOk_n5_l x834 t)))

theorem impl_TreeOk_n7_l : Link impl_TreeOk_ctx LL (cq [1,1,1] (bodyOf Tryd.f31)) (aq [1,1,1] impl_TreeOk_an) ⟨mkE 34 0 [], []⟩ (impl_TreeOk_n7) (fun (t : Bool) => (Exit.ret, ⟨mkE 34 0 [(2, dB t)], []⟩)) := by
  refine Link.of fun K h => ?_
  simp only [impl_TreeOk_n7, wpO_bind, wpO_cond, wpO_map, wpO_some] at h
  exact Awp.of (by kernel_rfl) h

def impl_TreeOk_n8_l (x834 : List Int) := (link_seq2 (impl_TreeOk_n6_l x834) (fun (t : Unit) => (impl_TreeOk_n7_l)) (fun (t : Bool) => t) (by
  rintro t
  · kernel_rfl) (by
  rintro t f K h
  · exact h))

def impl_TreeOk_n9_l (x834 : List Int) := (link_group (c := (cq [0,1] (bodyOf Tryd.f31))) (a := (aq [0,1] impl_TreeOk_an)) [(cq [0] (bodyOf Tryd.f31))] [(aq [0] impl_TreeOk_an)] rfl (link_seq2 (impl_TreeOk_n1_l x834) (fun (t : Unit) => (impl_TreeOk_n8_l x834)) (fun (t : Bool) => t) (by
  rintro t
  · kernel_rfl) (by
  rintro t f K h
  · exact h)))

theorem impl_TreeOk_e (x834 : List Int) {r : AV} {H' : Heap} (h : (Ans.mk _ (impl_TreeOk x834) (fun (t : Bool) => (dB t, [])) [] none).run = some (r, H')) : Awp impl_TreeOk_ctx LL (bodyOf Tryd.f31) impl_TreeOk_an ⟨mkE 34 0 [(0, dL x834)], []⟩ (Ret (tlook tys) Tryd.f31.results.toList r H') :=
  ret_of' (Link.cast (by kernel_rfl) (by kernel_rfl) (impl_TreeOk_n9_l x834)) (by unfold impl_TreeOk; kernel_rfl) (by
  intro t
  exact ret_mk [dB t] (by kernel_rfl) (by kernel_rfl) (by kernel_rfl) (by kernel_rfl)) h

def F_impl_TreeOk : Fun := fun avs H =>
  match avs, H with
  | [.dat (.list (.int .i64)) x834], [] => ⟨_, impl_TreeOk x834, fun (t : Bool) => (dB t, []), [], none⟩
  | _, _ => Ans.no

theorem impl_TreeOk_sound : Sound Tryd.prog 31 F_impl_TreeOk := by
  refine fn_sound' (C := impl_TreeOk_ctx) (c := bodyOf Tryd.f31) (cok_of tys_ok (allc impl_oneRoot_sound (allc impl_stepsToRoot_sound alln)) (allc Tryd.call72 (allc Tryd.call73 alln)) (by kernel_rfl)) Tryd.func31 (by kernel_rfl) LL impl_TreeOk_an ?_
  intro avs H r H' h
  unfold F_impl_TreeOk at h
  split at h
  · refine Awp.cast ?_ ?_ ?_ (impl_TreeOk_e _ h) <;> kernel_rfl
  · simp [Ans.no, Ans.run] at h


/-! loop.example/headtrees/impl.only -/

def impl_only_an : Ann := (.seq (.leaf [0]) (.seq (.leaf [2]) (.leaf [2])))

noncomputable def impl_only_ctx : Ctx := ⟨tlook tys, olook [], ioF, 0, false, []⟩

theorem impl_only_n1_l (x998 : Int) : Link impl_only_ctx LL (bodyOf Tryd.f87) impl_only_an ⟨mkE 6 0 [(0, dI x998)], []⟩ (impl_only_n1 x998) (fun (t : Int) => (Exit.ret, ⟨mkE 6 0 [(2, dW t)], []⟩)) := by
  refine Link.of fun K h => ?_
  simp only [impl_only_n1, wpO_bind, wpO_cond, wpO_map, wpO_some] at h
  exact Awp.of (by kernel_rfl) h

theorem impl_only_e (x998 : Int) {r : AV} {H' : Heap} (h : (Ans.mk _ (impl_only x998) (fun (t : Int) => (dW t, [])) [] none).run = some (r, H')) : Awp impl_only_ctx LL (bodyOf Tryd.f87) impl_only_an ⟨mkE 6 0 [(0, dI x998)], []⟩ (Ret (tlook tys) Tryd.f87.results.toList r H') :=
  ret_of' (impl_only_n1_l x998) (by unfold impl_only; kernel_rfl) (by
  intro t
  exact ret_mk [dW t] (by kernel_rfl) (by kernel_rfl) (by kernel_rfl) (by kernel_rfl)) h

def F_impl_only : Fun := fun avs H =>
  match avs, H with
  | [.dat (.int .i64) x998], [] => ⟨_, impl_only x998, fun (t : Int) => (dW t, []), [], none⟩
  | _, _ => Ans.no

theorem impl_only_sound : Sound Tryd.prog 87 F_impl_only := by
  refine fn_sound' (C := impl_only_ctx) (c := bodyOf Tryd.f87) (cok_of tys_ok (alln) (alln) (by kernel_rfl)) Tryd.func87 (by kernel_rfl) LL impl_only_an ?_
  intro avs H r H' h
  unfold F_impl_only at h
  split at h
  · refine Awp.cast ?_ ?_ ?_ (impl_only_e _ h) <;> kernel_rfl
  · simp [Ans.no, Ans.run] at h


/-! loop.example/headtrees/impl.dependents -/

def impl_dependents_an : Ann := (.seq (.leaf [0, 1]) (.seq (.leaf [0, 1, 5]) (.seq (.seq (.leaf [0, 1, 5, 8, 9]) (.block (.loop (.seq (.leaf [0, 1, 5, 8, 9, 10]) (.seq (.cond (.leaf [0, 1, 5, 8, 9]) (.leaf [5])) (.seq (.block (.seq (.leaf [0, 1, 5, 6, 8, 9]) (.seq (.leaf [0, 1, 5, 6, 8, 9, 17]) (.cond (.leaf [0, 1, 5, 8, 9]) (.leaf [0, 1, 5, 8, 9]))))) (.leaf [0, 1, 5, 8, 9]))))))) (.seq (.leaf [4]) (.leaf [4])))))

noncomputable def impl_dependents_ctx : Ctx := ⟨tlook tys, olook [(87, F_impl_only)], ioF, 0, false, []⟩

theorem impl_dependents_n1_l (x989 : List Int) (x990 : Int) : Link impl_dependents_ctx LL (Code.seq (cq [0] (bodyOf Tryd.f53)) (cq [0,1] (bodyOf Tryd.f53))) (Ann.seq (aq [0] impl_dependents_an) (aq [0,1] impl_dependents_an)) ⟨mkE 25 0 [(0, dL x989), (1, dI x990)], []⟩ (impl_dependents_n1) (fun (t : Unit) => (Exit.normal, ⟨mkE 25 0 [(0, dL x989), (1, dI x990), (5, dW 0)], []⟩)) := by
  refine Link.of fun K h => ?_
  simp only [impl_dependents_n1, wpO_bind, wpO_cond, wpO_map, wpO_some] at h
  exact Awp.of (by kernel_rfl) h

theorem impl_dependents_n2_l (x989 : List Int) (x990 : Int) : Link impl_dependents_ctx LL (cq [0,0,1,1] (bodyOf Tryd.f53)) (aq [0,0,1,1] impl_dependents_an) ⟨mkE 25 0 [(0, dL x989), (1, dI x990), (5, dW 0)], []⟩ (impl_dependents_n2 x989) (fun (t : Int) => (Exit.normal, ⟨mkE 25 0 [(0, dL x989), (1, dI x990), (5, dW 0), (8, dI t), (9, dI 0)], []⟩)) := by
  refine Link.of fun K h => ?_
  simp only [impl_dependents_n2, wpO_bind, wpO_cond, wpO_map, wpO_some] at h
  exact Awp.of (by kernel_rfl) h

theorem impl_dependents_n3_l (x989 : List Int) (x990 : Int) (x1015 : Int) (x991 : Int) (x1016 : Int) : Link impl_dependents_ctx LL (cq [0,0,1,0,1,1] (bodyOf Tryd.f53)) (aq [0,0,1,0,1,1] impl_dependents_an) ⟨mkE 25 0 [(0, dL x989), (1, dI x990), (5, dW x1015), (8, dI x991), (9, dI x1016)], []⟩ (impl_dependents_n3 x989 x990 x1015 x991 x1016) (Sum.elim (fun (t : Int × Int) => (Exit.normal, ⟨mkE 25 0 [(0, dL x989), (1, dI x990), (5, dW t.1), (8, dI x991), (9, dI t.2)], []⟩)) (fun (t : Int) => ((Exit.exit 0), ⟨mkE 25 0 [(5, dW t)], []⟩))) := by
  refine Link.of fun K h => ?_
  simp only [impl_dependents_n3, wpO_bind, wpO_cond, wpO_map, wpO_some] at h
  exact Awp.of (by kernel_rfl) h

def impl_dependents_n4_l (x989 : List Int) (x990 : Int) (x991 : Int) := (link_loop (mk := fun (s : Int × Int) => ⟨mkE 25 0 [(0, dL x989), (1, dI x990), (5, dW s.1), (8, dI x991), (9, dI s.2)], []⟩) (fin := (fun (t : Int) => ((Exit.exit 0), ⟨mkE 25 0 [(5, dW t)], []⟩))) (by
  rintro t f K h
  · exact h) (fun s => link_map (impl_dependents_n3_l x989 x990 s.1 x991 s.2) (Sum.elim (fun (t : Int × Int) => Sum.inl (t.1, t.2)) (fun (t : Int) => Sum.inr t)) (by
  rintro (t | t)
  · kernel_rfl
  · kernel_rfl)) (0, 0))

def impl_dependents_n5_l (x989 : List Int) (x990 : Int) (x991 : Int) := (link_block (fin2 := (fun (t : Int) => (Exit.normal, ⟨mkE 25 0 [(5, dW t)], []⟩))) (id := 0) (impl_dependents_n4_l x989 x990 x991) (fun (t : Int) => t) (by
  rintro t K h
  · exact Eq.mp (by kernel_rfl) h))

def impl_dependents_n6_l (x989 : List Int) (x990 : Int) := (link_seq (impl_dependents_n2_l x989 x990) (fun (t : Int) => (impl_dependents_n5_l x989 x990 t)))

theorem impl_dependents_n7_l (x1015 : Int) : Link impl_dependents_ctx LL (cq [1,1,1] (bodyOf Tryd.f53)) (aq [1,1,1] impl_dependents_an) ⟨mkE 25 0 [(5, dW x1015)], []⟩ (impl_dependents_n7 x1015) (fun (t : Int) => (Exit.ret, ⟨mkE 25 0 [(4, dW t)], []⟩)) := by
  refine Link.of fun K h => ?_
  simp only [impl_dependents_n7, wpO_bind, wpO_cond, wpO_map, wpO_some] at h
  exact Awp.of (by kernel_rfl) h

def impl_dependents_n8_l (x989 : List Int) (x990 : Int) := (link_seq (impl_dependents_n6_l x989 x990) (fun (t : Int) => (impl_dependents_n7_l t)))

def impl_dependents_n9_l (x989 : List Int) (x990 : Int) := (link_group (c := (cq [0,1] (bodyOf Tryd.f53))) (a := (aq [0,1] impl_dependents_an)) [(cq [0] (bodyOf Tryd.f53))] [(aq [0] impl_dependents_an)] rfl (link_seq (impl_dependents_n1_l x989 x990) (fun (t : Unit) => (impl_dependents_n8_l x989 x990))))

theorem impl_dependents_e (x989 : List Int) (x990 : Int) {r : AV} {H' : Heap} (h : (Ans.mk _ (impl_dependents x989 x990) (fun (t : Int) => (dW t, [])) [] none).run = some (r, H')) : Awp impl_dependents_ctx LL (bodyOf Tryd.f53) impl_dependents_an ⟨mkE 25 0 [(0, dL x989), (1, dI x990)], []⟩ (Ret (tlook tys) Tryd.f53.results.toList r H') :=
  ret_of' (Link.cast (by kernel_rfl) (by kernel_rfl) (impl_dependents_n9_l x989 x990)) (by unfold impl_dependents; kernel_rfl) (by
  intro t
  exact ret_mk [dW t] (by kernel_rfl) (by kernel_rfl) (by kernel_rfl) (by kernel_rfl)) h

def F_impl_dependents : Fun := fun avs H =>
  match avs, H with
  | [.dat (.list (.int .i64)) x989, .dat (.int .i64) x990], [] => ⟨_, impl_dependents x989 x990, fun (t : Int) => (dW t, []), [], none⟩
  | _, _ => Ans.no

theorem impl_dependents_sound : Sound Tryd.prog 53 F_impl_dependents := by
  refine fn_sound' (C := impl_dependents_ctx) (c := bodyOf Tryd.f53) (cok_of tys_ok (allc impl_only_sound alln) (allc Tryd.call87 alln) (by kernel_rfl)) Tryd.func53 (by kernel_rfl) LL impl_dependents_an ?_
  intro avs H r H' h
  unfold F_impl_dependents at h
  split at h
  · refine Awp.cast ?_ ?_ ?_ (impl_dependents_e _ _ h) <;> kernel_rfl
  · simp [Ans.no, Ans.run] at h


/-! loop.example/headtrees/impl.before -/

def impl_before_an : Ann := (.seq (.leaf [0]) (.seq (.leaf [2]) (.leaf [2])))

noncomputable def impl_before_ctx : Ctx := ⟨tlook tys, olook [(87, F_impl_only)], ioF, 0, false, []⟩

theorem impl_before_n1_l (x1037 : Int) : Link impl_before_ctx LL (bodyOf Tryd.f85) impl_before_an ⟨mkE 6 0 [(0, dI x1037)], []⟩ (impl_before_n1 x1037) (fun (t : Int) => (Exit.ret, ⟨mkE 6 0 [(2, dW t)], []⟩)) := by
  refine Link.of fun K h => ?_
  simp only [impl_before_n1, wpO_bind, wpO_cond, wpO_map, wpO_some] at h
  exact Awp.of (by kernel_rfl) h

theorem impl_before_e (x1037 : Int) {r : AV} {H' : Heap} (h : (Ans.mk _ (impl_before x1037) (fun (t : Int) => (dW t, [])) [] none).run = some (r, H')) : Awp impl_before_ctx LL (bodyOf Tryd.f85) impl_before_an ⟨mkE 6 0 [(0, dI x1037)], []⟩ (Ret (tlook tys) Tryd.f85.results.toList r H') :=
  ret_of' (impl_before_n1_l x1037) (by unfold impl_before; kernel_rfl) (by
  intro t
  exact ret_mk [dW t] (by kernel_rfl) (by kernel_rfl) (by kernel_rfl) (by kernel_rfl)) h

def F_impl_before : Fun := fun avs H =>
  match avs, H with
  | [.dat (.int .i64) x1037], [] => ⟨_, impl_before x1037, fun (t : Int) => (dW t, []), [], none⟩
  | _, _ => Ans.no

theorem impl_before_sound : Sound Tryd.prog 85 F_impl_before := by
  refine fn_sound' (C := impl_before_ctx) (c := bodyOf Tryd.f85) (cok_of tys_ok (allc impl_only_sound alln) (allc Tryd.call87 alln) (by kernel_rfl)) Tryd.func85 (by kernel_rfl) LL impl_before_an ?_
  intro avs H r H' h
  unfold F_impl_before at h
  split at h
  · refine Awp.cast ?_ ?_ ?_ (impl_before_e _ h) <;> kernel_rfl
  · simp [Ans.no, Ans.run] at h


/-! loop.example/headtrees/impl.dependentsBeside -/

def impl_dependentsBeside_an : Ann := (.seq (.leaf [0, 1]) (.seq (.leaf [1, 6]) (.seq (.leaf [4, 5]) (.leaf [4, 5]))))

noncomputable def impl_dependentsBeside_ctx : Ctx := ⟨tlook tys, olook [(53, F_impl_dependents), (85, F_impl_before)], ioF, 0, false, []⟩

theorem impl_dependentsBeside_n1_l (x987 : List Int) (x988 : Int) : Link impl_dependentsBeside_ctx LL (bodyOf Tryd.f49) impl_dependentsBeside_an ⟨mkE 18 0 [(0, dL x987), (1, dI x988)], []⟩ (impl_dependentsBeside_n1 x987 x988) (fun (t : Int × Int) => (Exit.ret, ⟨mkE 18 0 [(4, dW t.1), (5, dW t.2)], []⟩)) := by
  refine Link.of fun K h => ?_
  simp only [impl_dependentsBeside_n1, wpO_bind, wpO_cond, wpO_map, wpO_some] at h
  exact Awp.of (by kernel_rfl) h

theorem impl_dependentsBeside_e (x987 : List Int) (x988 : Int) {r : AV} {H' : Heap} (h : (Ans.mk _ (impl_dependentsBeside x987 x988) (fun (t : Int × Int) => (.tup [dW t.1, dW t.2], [])) [] none).run = some (r, H')) : Awp impl_dependentsBeside_ctx LL (bodyOf Tryd.f49) impl_dependentsBeside_an ⟨mkE 18 0 [(0, dL x987), (1, dI x988)], []⟩ (Ret (tlook tys) Tryd.f49.results.toList r H') :=
  ret_of' (impl_dependentsBeside_n1_l x987 x988) (by unfold impl_dependentsBeside; kernel_rfl) (by
  intro t
  exact ret_mk [dW t.1, dW t.2] (by kernel_rfl) (by kernel_rfl) (by kernel_rfl) (by kernel_rfl)) h

def F_impl_dependentsBeside : Fun := fun avs H =>
  match avs, H with
  | [.dat (.list (.int .i64)) x987, .dat (.int .i64) x988], [] => ⟨_, impl_dependentsBeside x987 x988, fun (t : Int × Int) => (.tup [dW t.1, dW t.2], []), [], none⟩
  | _, _ => Ans.no

theorem impl_dependentsBeside_sound : Sound Tryd.prog 49 F_impl_dependentsBeside := by
  refine fn_sound' (C := impl_dependentsBeside_ctx) (c := bodyOf Tryd.f49) (cok_of tys_ok (allc impl_dependents_sound (allc impl_before_sound alln)) (allc Tryd.call53 (allc Tryd.call85 alln)) (by kernel_rfl)) Tryd.func49 (by kernel_rfl) LL impl_dependentsBeside_an ?_
  intro avs H r H' h
  unfold F_impl_dependentsBeside at h
  split at h
  · refine Awp.cast ?_ ?_ ?_ (impl_dependentsBeside_e _ _ h) <;> kernel_rfl
  · simp [Ans.no, Ans.run] at h


/-! math/bits.OnesCount64 -/

def math_bits_OnesCount64_an : Ann := (.seq (.leaf [0]) (.seq (.leaf [0]) (.seq (.leaf [0]) (.seq (.leaf [0]) (.seq (.leaf [0]) (.seq (.leaf [0]) (.seq (.leaf [0]) (.seq (.leaf [2]) (.leaf [2])))))))))

noncomputable def math_bits_OnesCount64_ctx : Ctx := ⟨tlook tys, olook [], ioF, 0, false, []⟩

theorem math_bits_OnesCount64_n1_l (x1061 : Int) : Link math_bits_OnesCount64_ctx LL (Code.seq (cq [0] (bodyOf Tryd.f117)) (cq [0,1] (bodyOf Tryd.f117))) (Ann.seq (aq [0] math_bits_OnesCount64_an) (aq [0,1] math_bits_OnesCount64_an)) ⟨mkE 35 0 [(0, dW x1061)], []⟩ (math_bits_OnesCount64_n1 x1061) (fun (t : Int) => (Exit.normal, ⟨mkE 35 0 [(0, dW t)], []⟩)) := by
  refine Link.of fun K h => ?_
  simp only [math_bits_OnesCount64_n1, wpO_bind, wpO_cond, wpO_map, wpO_some] at h
  exact Awp.of (by kernel_rfl) h

theorem math_bits_OnesCount64_n2_l (x1066 : Int) : Link math_bits_OnesCount64_ctx LL (cq [0,1,1] (bodyOf Tryd.f117)) (aq [0,1,1] math_bits_OnesCount64_an) ⟨mkE 35 0 [(0, dW x1066)], []⟩ (math_bits_OnesCount64_n2 x1066) (fun (t : Int) => (Exit.normal, ⟨mkE 35 0 [(0, dW t)], []⟩)) := by
  refine Link.of fun K h => ?_
  simp only [math_bits_OnesCount64_n2, wpO_bind, wpO_cond, wpO_map, wpO_some] at h
  exact Awp.of (by kernel_rfl) h

theorem math_bits_OnesCount64_n3_l (x1083 : Int) : Link math_bits_OnesCount64_ctx LL (cq [0,1,1,1] (bodyOf Tryd.f117)) (aq [0,1,1,1] math_bits_OnesCount64_an) ⟨mkE 35 0 [(0, dW x1083)], []⟩ (math_bits_OnesCount64_n3 x1083) (fun (t : Int) => (Exit.normal, ⟨mkE 35 0 [(0, dW t)], []⟩)) := by
  refine Link.of fun K h => ?_
  simp only [math_bits_OnesCount64_n3, wpO_bind, wpO_cond, wpO_map, wpO_some] at h
  exact Awp.of (by kernel_rfl) h

theorem math_bits_OnesCount64_n4_l (x1090 : Int) : Link math_bits_OnesCount64_ctx LL (cq [0,1,1,1,1] (bodyOf Tryd.f117)) (aq [0,1,1,1,1] math_bits_OnesCount64_an) ⟨mkE 35 0 [(0, dW x1090)], []⟩ (math_bits_OnesCount64_n4 x1090) (fun (t : Int) => (Exit.normal, ⟨mkE 35 0 [(0, dW t)], []⟩)) := by
  refine Link.of fun K h => ?_
  simp only [math_bits_OnesCount64_n4, wpO_bind, wpO_cond, wpO_map, wpO_some] at h
  exact Awp.of (by kernel_rfl) h

theorem math_bits_OnesCount64_n5_l (x1094 : Int) : Link math_bits_OnesCount64_ctx LL (cq [0,1,1,1,1,1] (bodyOf Tryd.f117)) (aq [0,1,1,1,1,1] math_bits_OnesCount64_an) ⟨mkE 35 0 [(0, dW x1094)], []⟩ (math_bits_OnesCount64_n5 x1094) (fun (t : Int) => (Exit.normal, ⟨mkE 35 0 [(0, dW t)], []⟩)) := by
  refine Link.of fun K h => ?_
  simp only [math_bits_OnesCount64_n5, wpO_bind, wpO_cond, wpO_map, wpO_some] at h
  exact Awp.of (by kernel_rfl) h

theorem math_bits_OnesCount64_n6_l (x1099 : Int) : Link math_bits_OnesCount64_ctx LL (cq [0,1,1,1,1,1,1] (bodyOf Tryd.f117)) (aq [0,1,1,1,1,1,1] math_bits_OnesCount64_an) ⟨mkE 35 0 [(0, dW x1099)], []⟩ (math_bits_OnesCount64_n6 x1099) (fun (t : Int) => (Exit.normal, ⟨mkE 35 0 [(0, dW t)], []⟩)) := by
  refine Link.of fun K h => ?_
  simp only [math_bits_OnesCount64_n6, wpO_bind, wpO_cond, wpO_map, wpO_some] at h
  exact Awp.of (by kernel_rfl) h

theorem math_bits_OnesCount64_n7_l (x1104 : Int) : Link math_bits_OnesCount64_ctx LL (cq [0,1,1,1,1,1,1,1] (bodyOf Tryd.f117)) (aq [0,1,1,1,1,1,1,1] math_bits_OnesCount64_an) ⟨mkE 35 0 [(0, dW x1104)], []⟩ (math_bits_OnesCount64_n7 x1104) (fun (t : Int) => (Exit.normal, ⟨mkE 35 0 [(2, dI t)], []⟩)) := by
  refine Link.of fun K h => ?_
  simp only [math_bits_OnesCount64_n7, wpO_bind, wpO_cond, wpO_map, wpO_some] at h
  exact Awp.of (by kernel_rfl) h

theorem math_bits_OnesCount64_n8_l (x1109 : Int) : Link math_bits_OnesCount64_ctx LL (cq [1,1,1,1,1,1,1,1] (bodyOf Tryd.f117)) (aq [1,1,1,1,1,1,1,1] math_bits_OnesCount64_an) ⟨mkE 35 0 [(2, dI x1109)], []⟩ (math_bits_OnesCount64_n8 x1109) (fun (t : Int) => (Exit.ret, ⟨mkE 35 0 [(2, dI t)], []⟩)) := by
  refine Link.of fun K h => ?_
  simp only [math_bits_OnesCount64_n8, wpO_bind, wpO_cond, wpO_map, wpO_some] at h
  exact Awp.of (by kernel_rfl) h

def math_bits_OnesCount64_n9_l (x1104 : Int) := (link_seq (math_bits_OnesCount64_n7_l x1104) (fun (t : Int) => (math_bits_OnesCount64_n8_l t)))

def math_bits_OnesCount64_n10_l (x1099 : Int) := (link_seq (math_bits_OnesCount64_n6_l x1099) (fun (t : Int) => (math_bits_OnesCount64_n9_l t)))

def math_bits_OnesCount64_n11_l (x1094 : Int) := (link_seq (math_bits_OnesCount64_n5_l x1094) (fun (t : Int) => (math_bits_OnesCount64_n10_l t)))

def math_bits_OnesCount64_n12_l (x1090 : Int) := (link_seq (math_bits_OnesCount64_n4_l x1090) (fun (t : Int) => (math_bits_OnesCount64_n11_l t)))

def math_bits_OnesCount64_n13_l (x1083 : Int) := (link_seq (math_bits_OnesCount64_n3_l x1083) (fun (t : Int) => (math_bits_OnesCount64_n12_l t)))

def math_bits_OnesCount64_n14_l (x1066 : Int) := (link_seq (math_bits_OnesCount64_n2_l x1066) (fun (t : Int) => (math_bits_OnesCount64_n13_l t)))

def math_bits_OnesCount64_n15_l (x1061 : Int) := (link_group (c := (cq [0,1] (bodyOf Tryd.f117))) (a := (aq [0,1] math_bits_OnesCount64_an)) [(cq [0] (bodyOf Tryd.f117))] [(aq [0] math_bits_OnesCount64_an)] rfl (link_seq (math_bits_OnesCount64_n1_l x1061) (fun (t : Int) => (math_bits_OnesCount64_n14_l t))))

theorem math_bits_OnesCount64_e (x1061 : Int) {r : AV} {H' : Heap} (h : (Ans.mk _ (math_bits_OnesCount64 x1061) (fun (t : Int) => (dI t, [])) [] none).run = some (r, H')) : Awp math_bits_OnesCount64_ctx LL (bodyOf Tryd.f117) math_bits_OnesCount64_an ⟨mkE 35 0 [(0, dW x1061)], []⟩ (Ret (tlook tys) Tryd.f117.results.toList r H') :=
  ret_of' (Link.cast (by kernel_rfl) (by kernel_rfl) (math_bits_OnesCount64_n15_l x1061)) (by unfold math_bits_OnesCount64; kernel_rfl) (by
  intro t
  exact ret_mk [dI t] (by kernel_rfl) (by kernel_rfl) (by kernel_rfl) (by kernel_rfl)) h

def F_math_bits_OnesCount64 : Fun := fun avs H =>
  match avs, H with
  | [.dat (.int .u64) x1061], [] => ⟨_, math_bits_OnesCount64 x1061, fun (t : Int) => (dI t, []), [], none⟩
  | _, _ => Ans.no

theorem math_bits_OnesCount64_sound : Sound Tryd.prog 117 F_math_bits_OnesCount64 := by
  refine fn_sound' (C := math_bits_OnesCount64_ctx) (c := bodyOf Tryd.f117) (cok_of tys_ok (alln) (alln) (by kernel_rfl)) Tryd.func117 (by kernel_rfl) LL math_bits_OnesCount64_an ?_
  intro avs H r H' h
  unfold F_math_bits_OnesCount64 at h
  split at h
  · refine Awp.cast ?_ ?_ ?_ (math_bits_OnesCount64_e _ h) <;> kernel_rfl
  · simp [Ans.no, Ans.run] at h


/-! math/bits.OnesCount -/

def math_bits_OnesCount_an : Ann := (.seq (.leaf [0]) (.seq (.cond (.seq (.leaf [2]) (.leaf [2])) (.leaf [0])) (.seq (.leaf [2]) (.leaf [2]))))

noncomputable def math_bits_OnesCount_ctx : Ctx := ⟨tlook tys, olook [(117, F_math_bits_OnesCount64)], ioF, 0, false, []⟩

theorem math_bits_OnesCount_n1_l (x1060 : Int) : Link math_bits_OnesCount_ctx LL (bodyOf Tryd.f86) math_bits_OnesCount_an ⟨mkE 8 0 [(0, dW x1060)], []⟩ (math_bits_OnesCount_n1 x1060) (fun (t : Int) => (Exit.ret, ⟨mkE 8 0 [(2, dI t)], []⟩)) := by
  refine Link.of fun K h => ?_
  simp only [math_bits_OnesCount_n1, wpO_bind, wpO_cond, wpO_map, wpO_some] at h
  exact Awp.of (by kernel_rfl) h

theorem math_bits_OnesCount_e (x1060 : Int) {r : AV} {H' : Heap} (h : (Ans.mk _ (math_bits_OnesCount x1060) (fun (t : Int) => (dI t, [])) [] none).run = some (r, H')) : Awp math_bits_OnesCount_ctx LL (bodyOf Tryd.f86) math_bits_OnesCount_an ⟨mkE 8 0 [(0, dW x1060)], []⟩ (Ret (tlook tys) Tryd.f86.results.toList r H') :=
  ret_of' (math_bits_OnesCount_n1_l x1060) (by unfold math_bits_OnesCount; kernel_rfl) (by
  intro t
  exact ret_mk [dI t] (by kernel_rfl) (by kernel_rfl) (by kernel_rfl) (by kernel_rfl)) h

def F_math_bits_OnesCount : Fun := fun avs H =>
  match avs, H with
  | [.dat (.int .u64) x1060], [] => ⟨_, math_bits_OnesCount x1060, fun (t : Int) => (dI t, []), [], none⟩
  | _, _ => Ans.no

theorem math_bits_OnesCount_sound : Sound Tryd.prog 86 F_math_bits_OnesCount := by
  refine fn_sound' (C := math_bits_OnesCount_ctx) (c := bodyOf Tryd.f86) (cok_of tys_ok (allc math_bits_OnesCount64_sound alln) (allc Tryd.call117 alln) (by kernel_rfl)) Tryd.func86 (by kernel_rfl) LL math_bits_OnesCount_an ?_
  intro avs H r H' h
  unfold F_math_bits_OnesCount at h
  split at h
  · refine Awp.cast ?_ ?_ ?_ (math_bits_OnesCount_e _ h) <;> kernel_rfl
  · simp [Ans.no, Ans.run] at h


/-! (loop.example/headtrees/impl.wordSet).count -/

def impl_wordSet_count_an : Ann := (.seq (.leaf [0]) (.seq (.leaf [2]) (.leaf [2])))

noncomputable def impl_wordSet_count_ctx : Ctx := ⟨tlook tys, olook [(86, F_math_bits_OnesCount)], ioF, 0, false, []⟩

theorem impl_wordSet_count_n1_l (x1059 : Int) : Link impl_wordSet_count_ctx LL (bodyOf Tryd.f50) impl_wordSet_count_an ⟨mkE 5 0 [(0, dW x1059)], []⟩ (impl_wordSet_count_n1 x1059) (fun (t : Int) => (Exit.ret, ⟨mkE 5 0 [(2, dI t)], []⟩)) := by
  refine Link.of fun K h => ?_
  simp only [impl_wordSet_count_n1, wpO_bind, wpO_cond, wpO_map, wpO_some] at h
  exact Awp.of (by kernel_rfl) h

theorem impl_wordSet_count_e (x1059 : Int) {r : AV} {H' : Heap} (h : (Ans.mk _ (impl_wordSet_count x1059) (fun (t : Int) => (dI t, [])) [] none).run = some (r, H')) : Awp impl_wordSet_count_ctx LL (bodyOf Tryd.f50) impl_wordSet_count_an ⟨mkE 5 0 [(0, dW x1059)], []⟩ (Ret (tlook tys) Tryd.f50.results.toList r H') :=
  ret_of' (impl_wordSet_count_n1_l x1059) (by unfold impl_wordSet_count; kernel_rfl) (by
  intro t
  exact ret_mk [dI t] (by kernel_rfl) (by kernel_rfl) (by kernel_rfl) (by kernel_rfl)) h

def F_impl_wordSet_count : Fun := fun avs H =>
  match avs, H with
  | [.dat (.int .u64) x1059], [] => ⟨_, impl_wordSet_count x1059, fun (t : Int) => (dI t, []), [], none⟩
  | _, _ => Ans.no

theorem impl_wordSet_count_sound : Sound Tryd.prog 50 F_impl_wordSet_count := by
  refine fn_sound' (C := impl_wordSet_count_ctx) (c := bodyOf Tryd.f50) (cok_of tys_ok (allc math_bits_OnesCount_sound alln) (allc Tryd.call86 alln) (by kernel_rfl)) Tryd.func50 (by kernel_rfl) LL impl_wordSet_count_an ?_
  intro avs H r H' h
  unfold F_impl_wordSet_count at h
  split at h
  · refine Awp.cast ?_ ?_ ?_ (impl_wordSet_count_e _ h) <;> kernel_rfl
  · simp [Ans.no, Ans.run] at h


/-! loop.example/headtrees/spec.l1In -/

def spec_l1In_an : Ann := (.seq (.leaf [0, 1, 2]) (.seq (.leaf [6]) (.leaf [6])))

noncomputable def spec_l1In_ctx : Ctx := ⟨tlook tys, olook [], ioF, 0, false, []⟩

theorem spec_l1In_n1_l (x1144 : Int) (x1145 : Int) (x1146 : Int) : Link spec_l1In_ctx LL (bodyOf Tryd.f52) spec_l1In_an ⟨mkE 15 0 [(0, dI x1144), (1, dI x1145), (2, dI x1146)], []⟩ (spec_l1In_n1 x1144 x1145 x1146) (fun (t : Bool) => (Exit.ret, ⟨mkE 15 0 [(6, dB t)], []⟩)) := by
  refine Link.of fun K h => ?_
  simp only [spec_l1In_n1, wpO_bind, wpO_cond, wpO_map, wpO_some] at h
  exact Awp.of (by kernel_rfl) h

theorem spec_l1In_e (x1144 : Int) (x1145 : Int) (x1146 : Int) {r : AV} {H' : Heap} (h : (Ans.mk _ (spec_l1In x1144 x1145 x1146) (fun (t : Bool) => (dB t, [])) [] none).run = some (r, H')) : Awp spec_l1In_ctx LL (bodyOf Tryd.f52) spec_l1In_an ⟨mkE 15 0 [(0, dI x1144), (1, dI x1145), (2, dI x1146)], []⟩ (Ret (tlook tys) Tryd.f52.results.toList r H') :=
  ret_of' (spec_l1In_n1_l x1144 x1145 x1146) (by unfold spec_l1In; kernel_rfl) (by
  intro t
  exact ret_mk [dB t] (by kernel_rfl) (by kernel_rfl) (by kernel_rfl) (by kernel_rfl)) h

def F_spec_l1In : Fun := fun avs H =>
  match avs, H with
  | [.dat (.int .i64) x1144, .dat (.int .i64) x1145, .dat (.int .i64) x1146], [] => ⟨_, spec_l1In x1144 x1145 x1146, fun (t : Bool) => (dB t, []), [], none⟩
  | _, _ => Ans.no

theorem spec_l1In_sound : Sound Tryd.prog 52 F_spec_l1In := by
  refine fn_sound' (C := spec_l1In_ctx) (c := bodyOf Tryd.f52) (cok_of tys_ok (alln) (alln) (by kernel_rfl)) Tryd.func52 (by kernel_rfl) LL spec_l1In_an ?_
  intro avs H r H' h
  unfold F_spec_l1In at h
  split at h
  · refine Awp.cast ?_ ?_ ?_ (spec_l1In_e _ _ _ h) <;> kernel_rfl
  · simp [Ans.no, Ans.run] at h


/-! loop.example/headtrees/laws.alive -/

def laws_alive_an : Ann := (.seq (.leaf []) (.seq (.leaf [0]) (.leaf [0])))

noncomputable def laws_alive_ctx : Ctx := ⟨tlook tys, olook [(31, F_impl_TreeOk)], ioF, 0, false, []⟩

theorem laws_alive_n1_l : Link laws_alive_ctx LL (bodyOf Tryd.f16) laws_alive_an ⟨mkE 8 0 [], []⟩ (laws_alive_n1) (fun (t : Bool) => (Exit.ret, ⟨mkE 8 0 [(0, dB t)], []⟩)) := by
  refine Link.of fun K h => ?_
  simp only [laws_alive_n1, wpO_bind, wpO_cond, wpO_map, wpO_some] at h
  exact Awp.of (by kernel_rfl) h

theorem laws_alive_e {r : AV} {H' : Heap} (h : (Ans.mk _ (laws_alive) (fun (t : Bool) => (dB t, [])) [] none).run = some (r, H')) : Awp laws_alive_ctx LL (bodyOf Tryd.f16) laws_alive_an ⟨mkE 8 0 [], []⟩ (Ret (tlook tys) Tryd.f16.results.toList r H') :=
  ret_of' (laws_alive_n1_l) (by unfold laws_alive; kernel_rfl) (by
  intro t
  exact ret_mk [dB t] (by kernel_rfl) (by kernel_rfl) (by kernel_rfl) (by kernel_rfl)) h

def F_laws_alive : Fun := fun avs H =>
  match avs, H with
  | [], [] => ⟨_, laws_alive, fun (t : Bool) => (dB t, []), [], none⟩
  | _, _ => Ans.no

theorem laws_alive_sound : Sound Tryd.prog 16 F_laws_alive := by
  refine fn_sound' (C := laws_alive_ctx) (c := bodyOf Tryd.f16) (cok_of tys_ok (allc impl_TreeOk_sound alln) (allc Tryd.call31 alln) (by kernel_rfl)) Tryd.func16 (by kernel_rfl) LL laws_alive_an ?_
  intro avs H r H' h
  unfold F_laws_alive at h
  split at h
  · refine Awp.cast ?_ ?_ ?_ (laws_alive_e h) <;> kernel_rfl
  · simp [Ans.no, Ans.run] at h


/-! math/bits.TrailingZeros64 -/

def math_bits_TrailingZeros64_an : Ann := (.seq (.leaf [0]) (.seq (.seq (.leaf [0, 4]) (.cond (.seq (.leaf [2]) (.leaf [2])) (.leaf [0]))) (.seq (.leaf [2]) (.leaf [2]))))

noncomputable def math_bits_TrailingZeros64_ctx : Ctx := ⟨tlook tys, olook [], ioF, 0, false, []⟩

theorem math_bits_TrailingZeros64_n1_l (x1559 : Int) : Link math_bits_TrailingZeros64_ctx LL (bodyOf Tryd.f119) math_bits_TrailingZeros64_an ⟨mkE 14 0 [(0, dW x1559)], []⟩ (math_bits_TrailingZeros64_n1 x1559) (fun (t : Int) => (Exit.ret, ⟨mkE 14 0 [(2, dI t)], []⟩)) := by
  refine Link.of fun K h => ?_
  simp only [math_bits_TrailingZeros64_n1, wpO_bind, wpO_cond, wpO_map, wpO_some] at h
  exact Awp.of (by kernel_rfl) h

theorem math_bits_TrailingZeros64_e (x1559 : Int) {r : AV} {H' : Heap} (h : (Ans.mk _ (math_bits_TrailingZeros64 x1559) (fun (t : Int) => (dI t, [])) [] none).run = some (r, H')) : Awp math_bits_TrailingZeros64_ctx LL (bodyOf Tryd.f119) math_bits_TrailingZeros64_an ⟨mkE 14 0 [(0, dW x1559)], []⟩ (Ret (tlook tys) Tryd.f119.results.toList r H') :=
  ret_of' (math_bits_TrailingZeros64_n1_l x1559) (by unfold math_bits_TrailingZeros64; kernel_rfl) (by
  intro t
  exact ret_mk [dI t] (by kernel_rfl) (by kernel_rfl) (by kernel_rfl) (by kernel_rfl)) h

def F_math_bits_TrailingZeros64 : Fun := fun avs H =>
  match avs, H with
  | [.dat (.int .u64) x1559], [] => ⟨_, math_bits_TrailingZeros64 x1559, fun (t : Int) => (dI t, []), [], none⟩
  | _, _ => Ans.no

theorem math_bits_TrailingZeros64_sound : Sound Tryd.prog 119 F_math_bits_TrailingZeros64 := by
  refine fn_sound' (C := math_bits_TrailingZeros64_ctx) (c := bodyOf Tryd.f119) (cok_of tys_ok (alln) (alln) (by kernel_rfl)) Tryd.func119 (by kernel_rfl) LL math_bits_TrailingZeros64_an ?_
  intro avs H r H' h
  unfold F_math_bits_TrailingZeros64 at h
  split at h
  · refine Awp.cast ?_ ?_ ?_ (math_bits_TrailingZeros64_e _ h) <;> kernel_rfl
  · simp [Ans.no, Ans.run] at h


/-! math/bits.TrailingZeros -/

def math_bits_TrailingZeros_an : Ann := (.seq (.leaf [0]) (.seq (.cond (.seq (.leaf [2]) (.leaf [2])) (.leaf [0])) (.seq (.leaf [2]) (.leaf [2]))))

noncomputable def math_bits_TrailingZeros_ctx : Ctx := ⟨tlook tys, olook [(119, F_math_bits_TrailingZeros64)], ioF, 0, false, []⟩

theorem math_bits_TrailingZeros_n1_l (x1558 : Int) : Link math_bits_TrailingZeros_ctx LL (bodyOf Tryd.f88) math_bits_TrailingZeros_an ⟨mkE 8 0 [(0, dW x1558)], []⟩ (math_bits_TrailingZeros_n1 x1558) (fun (t : Int) => (Exit.ret, ⟨mkE 8 0 [(2, dI t)], []⟩)) := by
  refine Link.of fun K h => ?_
  simp only [math_bits_TrailingZeros_n1, wpO_bind, wpO_cond, wpO_map, wpO_some] at h
  exact Awp.of (by kernel_rfl) h

theorem math_bits_TrailingZeros_e (x1558 : Int) {r : AV} {H' : Heap} (h : (Ans.mk _ (math_bits_TrailingZeros x1558) (fun (t : Int) => (dI t, [])) [] none).run = some (r, H')) : Awp math_bits_TrailingZeros_ctx LL (bodyOf Tryd.f88) math_bits_TrailingZeros_an ⟨mkE 8 0 [(0, dW x1558)], []⟩ (Ret (tlook tys) Tryd.f88.results.toList r H') :=
  ret_of' (math_bits_TrailingZeros_n1_l x1558) (by unfold math_bits_TrailingZeros; kernel_rfl) (by
  intro t
  exact ret_mk [dI t] (by kernel_rfl) (by kernel_rfl) (by kernel_rfl) (by kernel_rfl)) h

def F_math_bits_TrailingZeros : Fun := fun avs H =>
  match avs, H with
  | [.dat (.int .u64) x1558], [] => ⟨_, math_bits_TrailingZeros x1558, fun (t : Int) => (dI t, []), [], none⟩
  | _, _ => Ans.no

theorem math_bits_TrailingZeros_sound : Sound Tryd.prog 88 F_math_bits_TrailingZeros := by
  refine fn_sound' (C := math_bits_TrailingZeros_ctx) (c := bodyOf Tryd.f88) (cok_of tys_ok (allc math_bits_TrailingZeros64_sound alln) (allc Tryd.call119 alln) (by kernel_rfl)) Tryd.func88 (by kernel_rfl) LL math_bits_TrailingZeros_an ?_
  intro avs H r H' h
  unfold F_math_bits_TrailingZeros at h
  split at h
  · refine Awp.cast ?_ ?_ ?_ (math_bits_TrailingZeros_e _ h) <;> kernel_rfl
  · simp [Ans.no, Ans.run] at h


/-! (loop.example/headtrees/impl.wordSet).list -/

def impl_wordSet_list_an : Ann := (.seq (.leaf [0]) (.seq (.leaf [0, 3]) (.seq (.seq (.leaf [3, 4]) (.block (.loop (.seq (.seq (.leaf [3, 4, 10]) (.cond (.leaf [3, 4]) (.leaf [3]))) (.seq (.block (.leaf [3, 4])) (.leaf [3, 4])))))) (.seq (.leaf [2]) (.leaf [2])))))

noncomputable def impl_wordSet_list_ctx : Ctx := ⟨tlook tys, olook [(50, F_impl_wordSet_count), (88, F_math_bits_TrailingZeros)], ioF, 0, false, []⟩

theorem impl_wordSet_list_n1_l (x1552 : Int) : Link impl_wordSet_list_ctx LL (Code.seq (cq [0] (bodyOf Tryd.f54)) (cq [0,1] (bodyOf Tryd.f54))) (Ann.seq (aq [0] impl_wordSet_list_an) (aq [0,1] impl_wordSet_list_an)) ⟨mkE 22 0 [(0, dW x1552)], []⟩ (impl_wordSet_list_n1 x1552) (fun (t : (List Int)) => (Exit.normal, ⟨mkE 22 0 [(0, dW x1552), (3, .slc 0)], [some (sI t)]⟩)) := by
  refine Link.of fun K h => ?_
  simp only [impl_wordSet_list_n1, wpO_bind, wpO_cond, wpO_map, wpO_some] at h
  exact Awp.of (by kernel_rfl) h

theorem impl_wordSet_list_n2_l (x1552 : Int) (x1555 : List Int) : Link impl_wordSet_list_ctx LL (cq [0,0,1,1] (bodyOf Tryd.f54)) (aq [0,0,1,1] impl_wordSet_list_an) ⟨mkE 22 0 [(0, dW x1552), (3, .slc 0)], [some (sI x1555)]⟩ (impl_wordSet_list_n2) (fun (t : Unit) => (Exit.normal, ⟨mkE 22 0 [(3, .slc 0), (4, dW x1552)], [some (sI x1555)]⟩)) := by
  refine Link.of fun K h => ?_
  simp only [impl_wordSet_list_n2, wpO_bind, wpO_cond, wpO_map, wpO_some] at h
  exact Awp.of (by kernel_rfl) h

theorem impl_wordSet_list_n3_l (x1598 : Int) (x1599 : List Int) : Link impl_wordSet_list_ctx LL (cq [0,0,1,0,1,1] (bodyOf Tryd.f54)) (aq [0,0,1,0,1,1] impl_wordSet_list_an) ⟨mkE 22 0 [(3, .slc 0), (4, dW x1598)], [some (sI x1599)]⟩ (impl_wordSet_list_n3 x1598 x1599) (Sum.elim (fun (t : Int × (List Int)) => (Exit.normal, ⟨mkE 22 0 [(3, .slc 0), (4, dW t.1)], [some (sI t.2)]⟩)) (fun (t : (List Int)) => ((Exit.exit 0), ⟨mkE 22 0 [(3, .slc 0)], [some (sI t)]⟩))) := by
  refine Link.of fun K h => ?_
  simp only [impl_wordSet_list_n3, wpO_bind, wpO_cond, wpO_map, wpO_some] at h
  exact Awp.of (by kernel_rfl) h

def impl_wordSet_list_n4_l (x1552 : Int) (x1555 : List Int) := (link_loop (mk := fun (s : Int × (List Int)) => ⟨mkE 22 0 [(3, .slc 0), (4, dW s.1)], [some (sI s.2)]⟩) (fin := (fun (t : (List Int)) => ((Exit.exit 0), ⟨mkE 22 0 [(3, .slc 0)], [some (sI t)]⟩))) (by
  rintro t f K h
  · exact h) (fun s => link_map (impl_wordSet_list_n3_l s.1 s.2) (Sum.elim (fun (t : Int × (List Int)) => Sum.inl (t.1, t.2)) (fun (t : (List Int)) => Sum.inr t)) (by
  rintro (t | t)
  · kernel_rfl
  · kernel_rfl)) (x1552, x1555))

def impl_wordSet_list_n5_l (x1552 : Int) (x1555 : List Int) := (link_block (fin2 := (fun (t : (List Int)) => (Exit.normal, ⟨mkE 22 0 [(3, .slc 0)], [some (sI t)]⟩))) (id := 0) (impl_wordSet_list_n4_l x1552 x1555) (fun (t : (List Int)) => t) (by
  rintro t K h
  · exact Eq.mp (by kernel_rfl) h))

def impl_wordSet_list_n6_l (x1552 : Int) (x1555 : List Int) := (link_seq (impl_wordSet_list_n2_l x1552 x1555) (fun (t : Unit) => (impl_wordSet_list_n5_l x1552 x1555)))

theorem impl_wordSet_list_n7_l (x1599 : List Int) : Link impl_wordSet_list_ctx LL (cq [1,1,1] (bodyOf Tryd.f54)) (aq [1,1,1] impl_wordSet_list_an) ⟨mkE 22 0 [(3, .slc 0)], [some (sI x1599)]⟩ (impl_wordSet_list_n7 x1599) (fun (t : (List Int)) => (Exit.ret, ⟨mkE 22 0 [(2, .slc 0)], [some (sI t)]⟩)) := by
  refine Link.of fun K h => ?_
  simp only [impl_wordSet_list_n7, wpO_bind, wpO_cond, wpO_map, wpO_some] at h
  exact Awp.of (by kernel_rfl) h

def impl_wordSet_list_n8_l (x1552 : Int) (x1555 : List Int) := (link_seq (impl_wordSet_list_n6_l x1552 x1555) (fun (t : (List Int)) => (impl_wordSet_list_n7_l t)))

def impl_wordSet_list_n9_l (x1552 : Int) := (link_group (c := (cq [0,1] (bodyOf Tryd.f54))) (a := (aq [0,1] impl_wordSet_list_an)) [(cq [0] (bodyOf Tryd.f54))] [(aq [0] impl_wordSet_list_an)] rfl (link_seq (impl_wordSet_list_n1_l x1552) (fun (t : (List Int)) => (impl_wordSet_list_n8_l x1552 t))))

theorem impl_wordSet_list_e (x1552 : Int) {r : AV} {H' : Heap} (h : (Ans.mk _ (impl_wordSet_list x1552) (fun (t : (List Int)) => (.slc 0, [some (sI t)])) [] none).run = some (r, H')) : Awp impl_wordSet_list_ctx LL (bodyOf Tryd.f54) impl_wordSet_list_an ⟨mkE 22 0 [(0, dW x1552)], []⟩ (Ret (tlook tys) Tryd.f54.results.toList r H') :=
  ret_of' (Link.cast (by kernel_rfl) (by kernel_rfl) (impl_wordSet_list_n9_l x1552)) (by unfold impl_wordSet_list; kernel_rfl) (by
  intro t
  exact ret_mk [.slc 0] (by kernel_rfl) (by kernel_rfl) (by kernel_rfl) (by kernel_rfl)) h

def F_impl_wordSet_list : Fun := fun avs H =>
  match avs, H with
  | [.dat (.int .u64) x1552], [] => ⟨_, impl_wordSet_list x1552, fun (t : (List Int)) => (.slc 0, [some (sI t)]), [], none⟩
  | _, _ => Ans.no

theorem impl_wordSet_list_sound : Sound Tryd.prog 54 F_impl_wordSet_list := by
  refine fn_sound' (C := impl_wordSet_list_ctx) (c := bodyOf Tryd.f54) (cok_of tys_ok (allc impl_wordSet_count_sound (allc math_bits_TrailingZeros_sound alln)) (allc Tryd.call50 (allc Tryd.call88 alln)) (by kernel_rfl)) Tryd.func54 (by kernel_rfl) LL impl_wordSet_list_an ?_
  intro avs H r H' h
  unfold F_impl_wordSet_list at h
  split at h
  · refine Awp.cast ?_ ?_ ?_ (impl_wordSet_list_e _ h) <;> kernel_rfl
  · simp [Ans.no, Ans.run] at h


/-! loop.example/headtrees/spec.l4Flat, loop.example/headtrees/spec.l4Rows -/

def spec_l4Flat_an : Ann := (.seq (.leaf [0]) (.seq (.leaf [0, 3]) (.seq (.seq (.leaf [0, 3, 4]) (.block (.loop (.seq (.seq (.leaf [0, 3, 4, 7]) (.cond (.leaf [0, 3, 4]) (.leaf [3]))) (.seq (.block (.leaf [0, 3, 4])) (.leaf [0, 3, 4])))))) (.seq (.leaf [2]) (.leaf [2])))))

def spec_l4Rows_an : Ann := (.seq (.leaf [0]) (.seq (.seq (.leaf [0, 6]) (.cond (.seq (.leaf [2]) (.leaf [2])) (.leaf [0]))) (.seq (.leaf [0, 3]) (.seq (.seq (.leaf [0, 3, 4]) (.block (.loop (.seq (.seq (.leaf [0, 3, 4, 9]) (.cond (.leaf [0, 3, 4]) (.leaf [3]))) (.seq (.block (.leaf [0, 3, 4])) (.leaf [0, 3, 4])))))) (.seq (.leaf [2]) (.leaf [2]))))))

def F_spec_l4Flat_fuel (n : Nat) : Fun := fun avs H =>
  match avs, H with
  | [.dat (.int .i64) x1677], [] => ⟨_, spec_l4Flat_fuel n x1677, fun (t : Int) => (dI t, []), [], none⟩
  | _, _ => Ans.no

def F_spec_l4Rows_fuel (n : Nat) : Fun := fun avs H =>
  match avs, H with
  | [.dat (.int .i64) x1725], [] => ⟨_, spec_l4Rows_fuel n x1725, fun (t : Int) => (dI t, []), [], none⟩
  | _, _ => Ans.no

noncomputable def spec_l4Flat_ctx (n : Nat) : Ctx := ⟨tlook tys, olook [(94, F_spec_l4Rows_fuel n)], ioF, 0, false, []⟩

noncomputable def spec_l4Rows_ctx (n : Nat) : Ctx := ⟨tlook tys, olook [(59, F_spec_l4Flat_fuel n), (94, F_spec_l4Rows_fuel n)], ioF, 0, false, []⟩

theorem spec_l4Flat_n1_l (n : Nat) (x1677 : Int) : Link (spec_l4Flat_ctx n) LL (Code.seq (cq [0] (bodyOf Tryd.f59)) (cq [0,1] (bodyOf Tryd.f59))) (Ann.seq (aq [0] spec_l4Flat_an) (aq [0,1] spec_l4Flat_an)) ⟨mkE 21 0 [(0, dI x1677)], []⟩ (spec_l4Flat_n1 (spec_l4Flat_fuel n) (spec_l4Rows_fuel n)) (fun (t : Unit) => (Exit.normal, ⟨mkE 21 0 [(0, dI x1677), (3, dI 0)], []⟩)) := by
  refine Link.of fun K h => ?_
  simp only [spec_l4Flat_n1, wpO_bind, wpO_cond, wpO_map, wpO_some] at h
  exact Awp.of (by kernel_rfl) h

theorem spec_l4Flat_n2_l (n : Nat) (x1677 : Int) : Link (spec_l4Flat_ctx n) LL (cq [0,0,1,1] (bodyOf Tryd.f59)) (aq [0,0,1,1] spec_l4Flat_an) ⟨mkE 21 0 [(0, dI x1677), (3, dI 0)], []⟩ (spec_l4Flat_n2 (spec_l4Flat_fuel n) (spec_l4Rows_fuel n)) (fun (t : Unit) => (Exit.normal, ⟨mkE 21 0 [(0, dI x1677), (3, dI 0), (4, dI 0)], []⟩)) := by
  refine Link.of fun K h => ?_
  simp only [spec_l4Flat_n2, wpO_bind, wpO_cond, wpO_map, wpO_some] at h
  exact Awp.of (by kernel_rfl) h

theorem spec_l4Flat_n3_l (n : Nat) (x1677 : Int) (x1780 : Int) (x1781 : Int) : Link (spec_l4Flat_ctx n) LL (cq [0,0,1,0,1,1] (bodyOf Tryd.f59)) (aq [0,0,1,0,1,1] spec_l4Flat_an) ⟨mkE 21 0 [(0, dI x1677), (3, dI x1780), (4, dI x1781)], []⟩ (spec_l4Flat_n3 (spec_l4Flat_fuel n) (spec_l4Rows_fuel n) x1677 x1780 x1781) (Sum.elim (fun (t : Int × Int) => (Exit.normal, ⟨mkE 21 0 [(0, dI x1677), (3, dI t.1), (4, dI t.2)], []⟩)) (fun (t : Int) => ((Exit.exit 0), ⟨mkE 21 0 [(3, dI t)], []⟩))) := by
  refine Link.of fun K h => ?_
  simp only [spec_l4Flat_n3, wpO_bind, wpO_cond, wpO_map, wpO_some] at h
  exact Awp.of (by kernel_rfl) h

def spec_l4Flat_n4_l (n : Nat) (x1677 : Int) := (link_loop (mk := fun (s : Int × Int) => ⟨mkE 21 0 [(0, dI x1677), (3, dI s.1), (4, dI s.2)], []⟩) (fin := (fun (t : Int) => ((Exit.exit 0), ⟨mkE 21 0 [(3, dI t)], []⟩))) (by
  rintro t f K h
  · exact h) (fun s => link_map (spec_l4Flat_n3_l n x1677 s.1 s.2) (Sum.elim (fun (t : Int × Int) => Sum.inl (t.1, t.2)) (fun (t : Int) => Sum.inr t)) (by
  rintro (t | t)
  · kernel_rfl
  · kernel_rfl)) (0, 0))

def spec_l4Flat_n5_l (n : Nat) (x1677 : Int) := (link_block (fin2 := (fun (t : Int) => (Exit.normal, ⟨mkE 21 0 [(3, dI t)], []⟩))) (id := 0) (spec_l4Flat_n4_l n x1677) (fun (t : Int) => t) (by
  rintro t K h
  · exact Eq.mp (by kernel_rfl) h))

def spec_l4Flat_n6_l (n : Nat) (x1677 : Int) := (link_seq (spec_l4Flat_n2_l n x1677) (fun (t : Unit) => (spec_l4Flat_n5_l n x1677)))

theorem spec_l4Flat_n7_l (n : Nat) (x1780 : Int) : Link (spec_l4Flat_ctx n) LL (cq [1,1,1] (bodyOf Tryd.f59)) (aq [1,1,1] spec_l4Flat_an) ⟨mkE 21 0 [(3, dI x1780)], []⟩ (spec_l4Flat_n7 (spec_l4Flat_fuel n) (spec_l4Rows_fuel n) x1780) (fun (t : Int) => (Exit.ret, ⟨mkE 21 0 [(2, dI t)], []⟩)) := by
  refine Link.of fun K h => ?_
  simp only [spec_l4Flat_n7, wpO_bind, wpO_cond, wpO_map, wpO_some] at h
  exact Awp.of (by kernel_rfl) h

def spec_l4Flat_n8_l (n : Nat) (x1677 : Int) := (link_seq (spec_l4Flat_n6_l n x1677) (fun (t : Int) => (spec_l4Flat_n7_l n t)))

def spec_l4Flat_n9_l (n : Nat) (x1677 : Int) := (link_group (c := (cq [0,1] (bodyOf Tryd.f59))) (a := (aq [0,1] spec_l4Flat_an)) [(cq [0] (bodyOf Tryd.f59))] [(aq [0] spec_l4Flat_an)] rfl (link_seq (spec_l4Flat_n1_l n x1677) (fun (t : Unit) => (spec_l4Flat_n8_l n x1677))))

theorem spec_l4Flat_e (n : Nat) (x1677 : Int) {r : AV} {H' : Heap} (h : (Ans.mk _ (spec_l4Flat_fuel (n + 1) x1677) (fun (t : Int) => (dI t, [])) [] none).run = some (r, H')) : Awp (spec_l4Flat_ctx n) LL (bodyOf Tryd.f59) spec_l4Flat_an ⟨mkE 21 0 [(0, dI x1677)], []⟩ (Ret (tlook tys) Tryd.f59.results.toList r H') :=
  ret_of' (Link.cast (by kernel_rfl) (by kernel_rfl) (spec_l4Flat_n9_l n x1677)) (by (show _ = _); kernel_rfl) (by
  intro t
  exact ret_mk [dI t] (by kernel_rfl) (by kernel_rfl) (by kernel_rfl) (by kernel_rfl)) h

theorem spec_l4Rows_n1_l (n : Nat) (x1725 : Int) : Link (spec_l4Rows_ctx n) LL (Code.seq (cq [0] (bodyOf Tryd.f94)) (Code.seq (cq [0,1] (bodyOf Tryd.f94)) (cq [0,1,1] (bodyOf Tryd.f94)))) (Ann.seq (aq [0] spec_l4Rows_an) (Ann.seq (aq [0,1] spec_l4Rows_an) (aq [0,1,1] spec_l4Rows_an))) ⟨mkE 22 0 [(0, dI x1725)], []⟩ (spec_l4Rows_n1 (spec_l4Flat_fuel n) (spec_l4Rows_fuel n) x1725) (Sum.elim (fun (t : Unit) => (Exit.normal, ⟨mkE 22 0 [(0, dI x1725), (3, dI 0)], []⟩)) (fun (t : Int) => (Exit.ret, ⟨mkE 22 0 [(2, dI t)], []⟩))) := by
  refine Link.of fun K h => ?_
  simp only [spec_l4Rows_n1, wpO_bind, wpO_cond, wpO_map, wpO_some] at h
  exact Awp.of (by kernel_rfl) h

theorem spec_l4Rows_n2_l (n : Nat) (x1725 : Int) : Link (spec_l4Rows_ctx n) LL (cq [0,0,1,1,1] (bodyOf Tryd.f94)) (aq [0,0,1,1,1] spec_l4Rows_an) ⟨mkE 22 0 [(0, dI x1725), (3, dI 0)], []⟩ (spec_l4Rows_n2 (spec_l4Flat_fuel n) (spec_l4Rows_fuel n)) (fun (t : Unit) => (Exit.normal, ⟨mkE 22 0 [(0, dI x1725), (3, dI 0), (4, dI 1)], []⟩)) := by
  refine Link.of fun K h => ?_
  simp only [spec_l4Rows_n2, wpO_bind, wpO_cond, wpO_map, wpO_some] at h
  exact Awp.of (by kernel_rfl) h

theorem spec_l4Rows_n3_l (n : Nat) (x1725 : Int) (x1749 : Int) (x1750 : Int) : Link (spec_l4Rows_ctx n) LL (cq [0,0,1,0,1,1,1] (bodyOf Tryd.f94)) (aq [0,0,1,0,1,1,1] spec_l4Rows_an) ⟨mkE 22 0 [(0, dI x1725), (3, dI x1749), (4, dI x1750)], []⟩ (spec_l4Rows_n3 (spec_l4Flat_fuel n) (spec_l4Rows_fuel n) x1725 x1749 x1750) (Sum.elim (fun (t : Int × Int) => (Exit.normal, ⟨mkE 22 0 [(0, dI x1725), (3, dI t.1), (4, dI t.2)], []⟩)) (fun (t : Int) => ((Exit.exit 0), ⟨mkE 22 0 [(3, dI t)], []⟩))) := by
  refine Link.of fun K h => ?_
  simp only [spec_l4Rows_n3, wpO_bind, wpO_cond, wpO_map, wpO_some] at h
  exact Awp.of (by kernel_rfl) h

def spec_l4Rows_n4_l (n : Nat) (x1725 : Int) := (link_loop (mk := fun (s : Int × Int) => ⟨mkE 22 0 [(0, dI x1725), (3, dI s.1), (4, dI s.2)], []⟩) (fin := (fun (t : Int) => ((Exit.exit 0), ⟨mkE 22 0 [(3, dI t)], []⟩))) (by
  rintro t f K h
  · exact h) (fun s => link_map (spec_l4Rows_n3_l n x1725 s.1 s.2) (Sum.elim (fun (t : Int × Int) => Sum.inl (t.1, t.2)) (fun (t : Int) => Sum.inr t)) (by
  rintro (t | t)
  · kernel_rfl
  · kernel_rfl)) (0, 1))

def spec_l4Rows_n5_l (n : Nat) (x1725 : Int) := (link_block (fin2 := (fun (t : Int) => (Exit.normal, ⟨mkE 22 0 [(3, dI t)], []⟩))) (id := 0) (spec_l4Rows_n4_l n x1725) (fun (t : Int) => t) (by
  rintro t K h
  · exact Eq.mp (by kernel_rfl) h))

def spec_l4Rows_n6_l (n : Nat) (x1725 : Int) := (link_seq (spec_l4Rows_n2_l n x1725) (fun (t : Unit) => (spec_l4Rows_n5_l n x1725)))

theorem spec_l4Rows_n7_l (n : Nat) (x1749 : Int) : Link (spec_l4Rows_ctx n) LL (cq [1,1,1,1] (bodyOf Tryd.f94)) (aq [1,1,1,1] spec_l4Rows_an) ⟨mkE 22 0 [(3, dI x1749)], []⟩ (spec_l4Rows_n7 (spec_l4Flat_fuel n) (spec_l4Rows_fuel n) x1749) (fun (t : Int) => (Exit.ret, ⟨mkE 22 0 [(2, dI t)], []⟩)) := by
  refine Link.of fun K h => ?_
  simp only [spec_l4Rows_n7, wpO_bind, wpO_cond, wpO_map, wpO_some] at h
  exact Awp.of (by kernel_rfl) h

def spec_l4Rows_n8_l (n : Nat) (x1725 : Int) := (link_seq (spec_l4Rows_n6_l n x1725) (fun (t : Int) => (spec_l4Rows_n7_l n t)))

def spec_l4Rows_n9_l (n : Nat) (x1725 : Int) := (link_group (c := (cq [0,1,1] (bodyOf Tryd.f94))) (a := (aq [0,1,1] spec_l4Rows_an)) [(cq [0] (bodyOf Tryd.f94)), (cq [0,1] (bodyOf Tryd.f94))] [(aq [0] spec_l4Rows_an), (aq [0,1] spec_l4Rows_an)] rfl (link_seq2 (spec_l4Rows_n1_l n x1725) (fun (t : Unit) => (spec_l4Rows_n8_l n x1725)) (fun (t : Int) => t) (by
  rintro t
  · kernel_rfl) (by
  rintro t f K h
  · exact h)))

theorem spec_l4Rows_e (n : Nat) (x1725 : Int) {r : AV} {H' : Heap} (h : (Ans.mk _ (spec_l4Rows_fuel (n + 1) x1725) (fun (t : Int) => (dI t, [])) [] none).run = some (r, H')) : Awp (spec_l4Rows_ctx n) LL (bodyOf Tryd.f94) spec_l4Rows_an ⟨mkE 22 0 [(0, dI x1725)], []⟩ (Ret (tlook tys) Tryd.f94.results.toList r H') :=
  ret_of' (Link.cast (by kernel_rfl) (by kernel_rfl) (spec_l4Rows_n9_l n x1725)) (by (show _ = _); kernel_rfl) (by
  intro t
  exact ret_mk [dI t] (by kernel_rfl) (by kernel_rfl) (by kernel_rfl) (by kernel_rfl)) h

theorem spec_l4Flat_step (n : Nat) (h59 : Sound Tryd.prog 59 (F_spec_l4Flat_fuel n)) (h94 : Sound Tryd.prog 94 (F_spec_l4Rows_fuel n)) : Sound Tryd.prog 59 (F_spec_l4Flat_fuel (n + 1)) := by
  refine fn_sound' (C := spec_l4Flat_ctx n) (c := bodyOf Tryd.f59) (cok_of tys_ok (allc h94 alln) (allc Tryd.call94 alln) (by kernel_rfl)) Tryd.func59 (by kernel_rfl) LL spec_l4Flat_an ?_
  intro avs H r H' h
  unfold F_spec_l4Flat_fuel at h
  split at h
  · refine Awp.cast ?_ ?_ ?_ (spec_l4Flat_e n _ h) <;> kernel_rfl
  · simp [Ans.no, Ans.run] at h

theorem spec_l4Flat_null : Sound Tryd.prog 59 (F_spec_l4Flat_fuel 0) := by
  intro avs H r H' h
  unfold F_spec_l4Flat_fuel at h
  split at h
  · simp [spec_l4Flat_fuel, spec_l4Flat_knot, Ans.run] at h
  · simp [Ans.no, Ans.run] at h

theorem spec_l4Rows_step (n : Nat) (h59 : Sound Tryd.prog 59 (F_spec_l4Flat_fuel n)) (h94 : Sound Tryd.prog 94 (F_spec_l4Rows_fuel n)) : Sound Tryd.prog 94 (F_spec_l4Rows_fuel (n + 1)) := by
  refine fn_sound' (C := spec_l4Rows_ctx n) (c := bodyOf Tryd.f94) (cok_of tys_ok (allc h59 (allc h94 alln)) (allc Tryd.call59 (allc Tryd.call94 alln)) (by kernel_rfl)) Tryd.func94 (by kernel_rfl) LL spec_l4Rows_an ?_
  intro avs H r H' h
  unfold F_spec_l4Rows_fuel at h
  split at h
  · refine Awp.cast ?_ ?_ ?_ (spec_l4Rows_e n _ h) <;> kernel_rfl
  · simp [Ans.no, Ans.run] at h

theorem spec_l4Rows_null : Sound Tryd.prog 94 (F_spec_l4Rows_fuel 0) := by
  intro avs H r H' h
  unfold F_spec_l4Rows_fuel at h
  split at h
  · simp [spec_l4Rows_fuel, spec_l4Flat_knot, Ans.run] at h
  · simp [Ans.no, Ans.run] at h

theorem spec_l4Flat_knot_all : ∀ n, Sound Tryd.prog 59 (F_spec_l4Flat_fuel n) ∧ Sound Tryd.prog 94 (F_spec_l4Rows_fuel n)
  | 0 => ⟨spec_l4Flat_null, spec_l4Rows_null⟩
  | n + 1 => by
    obtain ⟨h59, h94⟩ := spec_l4Flat_knot_all n
    exact ⟨spec_l4Flat_step n h59 h94, spec_l4Rows_step n h59 h94⟩

def F_spec_l4Flat : Fun := fun avs H =>
  match avs, H with
  | [.dat (.int .i64) x1677], [] => ⟨_, spec_l4Flat x1677, fun (t : Int) => (dI t, []), [], none⟩
  | _, _ => Ans.no

theorem spec_l4Flat_sound : Sound Tryd.prog 59 F_spec_l4Flat := by
  have e : F_spec_l4Flat = F_spec_l4Flat_fuel RR := by
    funext avs H
    unfold F_spec_l4Flat F_spec_l4Flat_fuel
    split <;> first | rfl | (simp only [spec_l4Flat])
  rw [e]
  exact (spec_l4Flat_knot_all RR).1

def F_spec_l4Rows : Fun := fun avs H =>
  match avs, H with
  | [.dat (.int .i64) x1725], [] => ⟨_, spec_l4Rows x1725, fun (t : Int) => (dI t, []), [], none⟩
  | _, _ => Ans.no

theorem spec_l4Rows_sound : Sound Tryd.prog 94 F_spec_l4Rows := by
  have e : F_spec_l4Rows = F_spec_l4Rows_fuel RR := by
    funext avs H
    unfold F_spec_l4Rows F_spec_l4Rows_fuel
    split <;> first | rfl | (simp only [spec_l4Rows])
  rw [e]
  exact (spec_l4Flat_knot_all RR).2


/-! loop.example/headtrees/spec.CountFlat -/

def spec_CountFlat_an : Ann := (.seq (.leaf [0]) (.seq (.seq (.leaf [0, 5]) (.cond (.seq (.leaf [2]) (.leaf [2])) (.leaf [0]))) (.seq (.leaf [2]) (.leaf [2]))))

noncomputable def spec_CountFlat_ctx : Ctx := ⟨tlook tys, olook [(52, F_spec_l1In), (59, F_spec_l4Flat)], ioF, 0, false, []⟩

theorem spec_CountFlat_n1_l (x1671 : Int) : Link spec_CountFlat_ctx LL (bodyOf Tryd.f56) spec_CountFlat_an ⟨mkE 8 0 [(0, dI x1671)], []⟩ (spec_CountFlat_n1 x1671) (fun (t : Int) => (Exit.ret, ⟨mkE 8 0 [(2, dI t)], []⟩)) := by
  refine Link.of fun K h => ?_
  simp only [spec_CountFlat_n1, wpO_bind, wpO_cond, wpO_map, wpO_some] at h
  exact Awp.of (by kernel_rfl) h

theorem spec_CountFlat_e (x1671 : Int) {r : AV} {H' : Heap} (h : (Ans.mk _ (spec_CountFlat x1671) (fun (t : Int) => (dI t, [])) [] none).run = some (r, H')) : Awp spec_CountFlat_ctx LL (bodyOf Tryd.f56) spec_CountFlat_an ⟨mkE 8 0 [(0, dI x1671)], []⟩ (Ret (tlook tys) Tryd.f56.results.toList r H') :=
  ret_of' (spec_CountFlat_n1_l x1671) (by unfold spec_CountFlat; kernel_rfl) (by
  intro t
  exact ret_mk [dI t] (by kernel_rfl) (by kernel_rfl) (by kernel_rfl) (by kernel_rfl)) h

def F_spec_CountFlat : Fun := fun avs H =>
  match avs, H with
  | [.dat (.int .i64) x1671], [] => ⟨_, spec_CountFlat x1671, fun (t : Int) => (dI t, []), [], none⟩
  | _, _ => Ans.no

theorem spec_CountFlat_sound : Sound Tryd.prog 56 F_spec_CountFlat := by
  refine fn_sound' (C := spec_CountFlat_ctx) (c := bodyOf Tryd.f56) (cok_of tys_ok (allc spec_l1In_sound (allc spec_l4Flat_sound alln)) (allc Tryd.call52 (allc Tryd.call59 alln)) (by kernel_rfl)) Tryd.func56 (by kernel_rfl) LL spec_CountFlat_an ?_
  intro avs H r H' h
  unfold F_spec_CountFlat at h
  split at h
  · refine Awp.cast ?_ ?_ ?_ (spec_CountFlat_e _ h) <;> kernel_rfl
  · simp [Ans.no, Ans.run] at h


/-! loop.example/headtrees/spec.DrawFlatAt -/

def spec_DrawFlatAt_an : Ann := (.seq (.leaf [0]) (.seq (.leaf [4]) (.seq (.leaf [4, 5]) (.seq (.leaf [2, 3]) (.leaf [2, 3])))))

noncomputable def spec_DrawFlatAt_ctx : Ctx := ⟨tlook tys, olook [(47, F_spec_l20Open), (55, F_spec_l20Rd_pick), (56, F_spec_CountFlat)], ioF, 0, false, []⟩

theorem spec_DrawFlatAt_n1_l (x1646 : List Int) : Link spec_DrawFlatAt_ctx LL (bodyOf Tryd.f18) spec_DrawFlatAt_an ⟨mkE 32 0 [(0, dV x1646)], []⟩ (spec_DrawFlatAt_n1 x1646) (fun (t : Int × Int) => (Exit.ret, ⟨mkE 32 0 [(2, dI t.1), (3, dI t.2)], []⟩)) := by
  refine Link.of fun K h => ?_
  simp only [spec_DrawFlatAt_n1, wpO_bind, wpO_cond, wpO_map, wpO_some] at h
  exact Awp.of (by kernel_rfl) h

theorem spec_DrawFlatAt_e (x1646 : List Int) {r : AV} {H' : Heap} (h : (Ans.mk _ (spec_DrawFlatAt x1646) (fun (t : Int × Int) => (.tup [dI t.1, dI t.2], [])) [] none).run = some (r, H')) : Awp spec_DrawFlatAt_ctx LL (bodyOf Tryd.f18) spec_DrawFlatAt_an ⟨mkE 32 0 [(0, dV x1646)], []⟩ (Ret (tlook tys) Tryd.f18.results.toList r H') :=
  ret_of' (spec_DrawFlatAt_n1_l x1646) (by unfold spec_DrawFlatAt; kernel_rfl) (by
  intro t
  exact ret_mk [dI t.1, dI t.2] (by kernel_rfl) (by kernel_rfl) (by kernel_rfl) (by kernel_rfl)) h

def F_spec_DrawFlatAt : Fun := fun avs H =>
  match avs, H with
  | [.dat (.list (.int .u8)) x1646], [] => ⟨_, spec_DrawFlatAt x1646, fun (t : Int × Int) => (.tup [dI t.1, dI t.2], []), [], none⟩
  | _, _ => Ans.no

theorem spec_DrawFlatAt_sound : Sound Tryd.prog 18 F_spec_DrawFlatAt := by
  refine fn_sound' (C := spec_DrawFlatAt_ctx) (c := bodyOf Tryd.f18) (cok_of tys_ok (allc spec_l20Open_sound (allc spec_l20Rd_pick_sound (allc spec_CountFlat_sound alln))) (allc Tryd.call47 (allc Tryd.call55 (allc Tryd.call56 alln))) (by kernel_rfl)) Tryd.func18 (by kernel_rfl) LL spec_DrawFlatAt_an ?_
  intro avs H r H' h
  unfold F_spec_DrawFlatAt at h
  split at h
  · refine Awp.cast ?_ ?_ ?_ (spec_DrawFlatAt_e _ h) <;> kernel_rfl
  · simp [Ans.no, Ans.run] at h


/-! (loop.example/headtrees/impl.flatCounts).aroundRoots -/

def impl_flatCounts_aroundRoots_an : Ann := (.seq (.leaf [1, 2]) (.seq (.leaf [2]) (.leaf [2])))

noncomputable def impl_flatCounts_aroundRoots_ctx : Ctx := ⟨tlook tys, olook [], ioF, 0, false, []⟩

theorem impl_flatCounts_aroundRoots_n1_l (x1878 : Int) (x1879 : Int) (x1880 : Int) (x1881 : Int) (x1882 : Int) (x1883 : Int) (x1884 : Int) (x1885 : Int) (x1886 : Int) (x1887 : Int) (x1888 : Int) (x1889 : Int) (x1890 : Int) (x1891 : Int) : Link impl_flatCounts_aroundRoots_ctx LL (bodyOf Tryd.f89) impl_flatCounts_aroundRoots_an ⟨mkE 8 0 [(0, .agg [dI x1878, dI x1879, dI x1880, dI x1881, dI x1882, dI x1883, dI x1884, dI x1885, dI x1886, dI x1887, dI x1888, dI x1889, dI x1890, dI x1891])], []⟩ (impl_flatCounts_aroundRoots_n1) (fun (t : Unit) => (Exit.ret, ⟨mkE 8 0 [(2, .ptr 0 0)], [some (.box [dI x1885, dI x1886, dI x1887, dI x1888, dI x1889, dI x1890, dI x1891, dI x1885, dI x1886, dI x1887, dI x1888, dI x1889, dI x1890, dI x1891])]⟩)) := by
  refine Link.of fun K h => ?_
  simp only [impl_flatCounts_aroundRoots_n1, wpO_bind, wpO_cond, wpO_map, wpO_some] at h
  exact Awp.of (by kernel_rfl) h

theorem impl_flatCounts_aroundRoots_e (x1878 : Int) (x1879 : Int) (x1880 : Int) (x1881 : Int) (x1882 : Int) (x1883 : Int) (x1884 : Int) (x1885 : Int) (x1886 : Int) (x1887 : Int) (x1888 : Int) (x1889 : Int) (x1890 : Int) (x1891 : Int) {r : AV} {H' : Heap} (h : (Ans.mk _ (impl_flatCounts_aroundRoots x1878 x1879 x1880 x1881 x1882 x1883 x1884 x1885 x1886 x1887 x1888 x1889 x1890 x1891) (fun (t : Unit) => (.agg [dI x1885, dI x1886, dI x1887, dI x1888, dI x1889, dI x1890, dI x1891, dI x1885, dI x1886, dI x1887, dI x1888, dI x1889, dI x1890, dI x1891], [some (.box [dI x1885, dI x1886, dI x1887, dI x1888, dI x1889, dI x1890, dI x1891, dI x1885, dI x1886, dI x1887, dI x1888, dI x1889, dI x1890, dI x1891])])) [] none).run = some (r, H')) : Awp impl_flatCounts_aroundRoots_ctx LL (bodyOf Tryd.f89) impl_flatCounts_aroundRoots_an ⟨mkE 8 0 [(0, .agg [dI x1878, dI x1879, dI x1880, dI x1881, dI x1882, dI x1883, dI x1884, dI x1885, dI x1886, dI x1887, dI x1888, dI x1889, dI x1890, dI x1891])], []⟩ (Ret (tlook tys) Tryd.f89.results.toList r H') :=
  ret_of' (impl_flatCounts_aroundRoots_n1_l x1878 x1879 x1880 x1881 x1882 x1883 x1884 x1885 x1886 x1887 x1888 x1889 x1890 x1891) (by unfold impl_flatCounts_aroundRoots; kernel_rfl) (by
  intro t
  exact ret_mk [.agg [dI x1885, dI x1886, dI x1887, dI x1888, dI x1889, dI x1890, dI x1891, dI x1885, dI x1886, dI x1887, dI x1888, dI x1889, dI x1890, dI x1891]] (by kernel_rfl) (by kernel_rfl) (by kernel_rfl) (by kernel_rfl)) h

def F_impl_flatCounts_aroundRoots : Fun := fun avs H =>
  match avs, H with
  | [.agg [.dat (.int .i64) x1878, .dat (.int .i64) x1879, .dat (.int .i64) x1880, .dat (.int .i64) x1881, .dat (.int .i64) x1882, .dat (.int .i64) x1883, .dat (.int .i64) x1884, .dat (.int .i64) x1885, .dat (.int .i64) x1886, .dat (.int .i64) x1887, .dat (.int .i64) x1888, .dat (.int .i64) x1889, .dat (.int .i64) x1890, .dat (.int .i64) x1891]], [] => ⟨_, impl_flatCounts_aroundRoots x1878 x1879 x1880 x1881 x1882 x1883 x1884 x1885 x1886 x1887 x1888 x1889 x1890 x1891, fun (t : Unit) => (.agg [dI x1885, dI x1886, dI x1887, dI x1888, dI x1889, dI x1890, dI x1891, dI x1885, dI x1886, dI x1887, dI x1888, dI x1889, dI x1890, dI x1891], [some (.box [dI x1885, dI x1886, dI x1887, dI x1888, dI x1889, dI x1890, dI x1891, dI x1885, dI x1886, dI x1887, dI x1888, dI x1889, dI x1890, dI x1891])]), [], none⟩
  | _, _ => Ans.no

theorem impl_flatCounts_aroundRoots_sound : Sound Tryd.prog 89 F_impl_flatCounts_aroundRoots := by
  refine fn_sound' (C := impl_flatCounts_aroundRoots_ctx) (c := bodyOf Tryd.f89) (cok_of tys_ok (alln) (alln) (by kernel_rfl)) Tryd.func89 (by kernel_rfl) LL impl_flatCounts_aroundRoots_an ?_
  intro avs H r H' h
  unfold F_impl_flatCounts_aroundRoots at h
  split at h
  · refine Awp.cast ?_ ?_ ?_ (impl_flatCounts_aroundRoots_e _ _ _ _ _ _ _ _ _ _ _ _ _ _ h) <;> kernel_rfl
  · simp [Ans.no, Ans.run] at h


/-! (loop.example/headtrees/impl.joins).below -/

def impl_joins_below_an : Ann := (.seq (.leaf [1, 2, 3]) (.seq (.leaf [1, 2, 3, 7]) (.seq (.seq (.leaf [1, 3, 7, 9, 10]) (.block (.loop (.seq (.leaf [1, 3, 7, 9, 10, 11]) (.seq (.cond (.leaf [1, 3, 7, 9, 10]) (.leaf [7])) (.seq (.block (.seq (.leaf [1, 3, 7, 8, 9, 10]) (.draw [] [0, 1, 2, 3, 4, 5, 6, 7, 8, 9, 10, 11, 12, 13] [] [1, 3, 7, 9, 10]))) (.leaf [1, 3, 7, 9, 10]))))))) (.seq (.leaf [6]) (.leaf [6])))))

noncomputable def impl_joins_below_ctx : Ctx := ⟨tlook tys, olook [], ioF, 0, false, []⟩

theorem impl_joins_below_n1_l (x1910 : Int) (x1911 : Int) (x1912 : Int) (x1913 : Int) (x1914 : Int) (x1915 : Int) (x1916 : Int) (x1917 : Int) (x1918 : Int) (x1919 : Int) (x1920 : Int) (x1921 : Int) (x1922 : Int) (x1923 : Int) (x1924 : Int) (x1925 : Int) : Link impl_joins_below_ctx LL (Code.seq (cq [0] (bodyOf Tryd.f120)) (cq [0,1] (bodyOf Tryd.f120))) (Ann.seq (aq [0] impl_joins_below_an) (aq [0,1] impl_joins_below_an)) ⟨mkE 28 0 [(0, .agg [dI x1910, dI x1911, dI x1912, dI x1913, dI x1914, dI x1915, dI x1916, dI x1917, dI x1918, dI x1919, dI x1920, dI x1921, dI x1922, dI x1923]), (1, dI x1924), (2, dI x1925)], []⟩ (impl_joins_below_n1) (fun (t : Unit) => (Exit.normal, ⟨mkE 28 0 [(1, dI x1924), (2, dI x1925), (3, .ptr 0 0), (7, dI 0)], [some (.box [dI x1910, dI x1911, dI x1912, dI x1913, dI x1914, dI x1915, dI x1916, dI x1917, dI x1918, dI x1919, dI x1920, dI x1921, dI x1922, dI x1923])]⟩)) := by
  refine Link.of fun K h => ?_
  simp only [impl_joins_below_n1, wpO_bind, wpO_cond, wpO_map, wpO_some] at h
  exact Awp.of (by kernel_rfl) h

theorem impl_joins_below_n2_l (x1924 : Int) (x1925 : Int) (x1910 : Int) (x1911 : Int) (x1912 : Int) (x1913 : Int) (x1914 : Int) (x1915 : Int) (x1916 : Int) (x1917 : Int) (x1918 : Int) (x1919 : Int) (x1920 : Int) (x1921 : Int) (x1922 : Int) (x1923 : Int) : Link impl_joins_below_ctx LL (cq [0,0,1,1] (bodyOf Tryd.f120)) (aq [0,0,1,1] impl_joins_below_an) ⟨mkE 28 0 [(1, dI x1924), (2, dI x1925), (3, .ptr 0 0), (7, dI 0)], [some (.box [dI x1910, dI x1911, dI x1912, dI x1913, dI x1914, dI x1915, dI x1916, dI x1917, dI x1918, dI x1919, dI x1920, dI x1921, dI x1922, dI x1923])]⟩ (impl_joins_below_n2) (fun (t : Unit) => (Exit.normal, ⟨mkE 28 0 [(1, dI x1924), (3, .ptr 0 0), (7, dI 0), (9, dI x1925), (10, dI 0)], [some (.box [dI x1910, dI x1911, dI x1912, dI x1913, dI x1914, dI x1915, dI x1916, dI x1917, dI x1918, dI x1919, dI x1920, dI x1921, dI x1922, dI x1923])]⟩)) := by
  refine Link.of fun K h => ?_
  simp only [impl_joins_below_n2, wpO_bind, wpO_cond, wpO_map, wpO_some] at h
  exact Awp.of (by kernel_rfl) h

theorem impl_joins_below_n3_l (x1924 : Int) (x1945 : Int) (x1925 : Int) (x1946 : Int) (x1910 : Int) (x1911 : Int) (x1912 : Int) (x1913 : Int) (x1914 : Int) (x1915 : Int) (x1916 : Int) (x1917 : Int) (x1918 : Int) (x1919 : Int) (x1920 : Int) (x1921 : Int) (x1922 : Int) (x1923 : Int) : Link impl_joins_below_ctx LL (cq [0,0,1,0,1,1] (bodyOf Tryd.f120)) (aq [0,0,1,0,1,1] impl_joins_below_an) ⟨mkE 28 0 [(1, dI x1924), (3, .ptr 0 0), (7, dI x1945), (9, dI x1925), (10, dI x1946)], [some (.box [dI x1910, dI x1911, dI x1912, dI x1913, dI x1914, dI x1915, dI x1916, dI x1917, dI x1918, dI x1919, dI x1920, dI x1921, dI x1922, dI x1923])]⟩ (impl_joins_below_n3 x1924 x1945 x1925 x1946 x1910 x1911 x1912 x1913 x1914 x1915 x1916 x1917 x1918 x1919 x1920 x1921 x1922 x1923) (Sum.elim (fun (t : Int × Int) => (Exit.normal, ⟨mkE 28 0 [(1, dI x1924), (3, .ptr 0 0), (7, dI t.1), (9, dI x1925), (10, dI t.2)], [some (.box [dI x1910, dI x1911, dI x1912, dI x1913, dI x1914, dI x1915, dI x1916, dI x1917, dI x1918, dI x1919, dI x1920, dI x1921, dI x1922, dI x1923])]⟩)) (fun (t : Int) => ((Exit.exit 0), ⟨mkE 28 0 [(7, dI t)], []⟩))) := by
  refine Link.of fun K h => ?_
  simp only [impl_joins_below_n3, wpO_bind, wpO_cond, wpO_map, wpO_some] at h
  exact Awp.of (by kernel_rfl) h

def impl_joins_below_n4_l (x1924 : Int) (x1925 : Int) (x1910 : Int) (x1911 : Int) (x1912 : Int) (x1913 : Int) (x1914 : Int) (x1915 : Int) (x1916 : Int) (x1917 : Int) (x1918 : Int) (x1919 : Int) (x1920 : Int) (x1921 : Int) (x1922 : Int) (x1923 : Int) := (link_loop (mk := fun (s : Int × Int) => ⟨mkE 28 0 [(1, dI x1924), (3, .ptr 0 0), (7, dI s.1), (9, dI x1925), (10, dI s.2)], [some (.box [dI x1910, dI x1911, dI x1912, dI x1913, dI x1914, dI x1915, dI x1916, dI x1917, dI x1918, dI x1919, dI x1920, dI x1921, dI x1922, dI x1923])]⟩) (fin := (fun (t : Int) => ((Exit.exit 0), ⟨mkE 28 0 [(7, dI t)], []⟩))) (by
  rintro t f K h
  · exact h) (fun s => link_map (impl_joins_below_n3_l x1924 s.1 x1925 s.2 x1910 x1911 x1912 x1913 x1914 x1915 x1916 x1917 x1918 x1919 x1920 x1921 x1922 x1923) (Sum.elim (fun (t : Int × Int) => Sum.inl (t.1, t.2)) (fun (t : Int) => Sum.inr t)) (by
  rintro (t | t)
  · kernel_rfl
  · kernel_rfl)) (0, 0))

def impl_joins_below_n5_l (x1924 : Int) (x1925 : Int) (x1910 : Int) (x1911 : Int) (x1912 : Int) (x1913 : Int) (x1914 : Int) (x1915 : Int) (x1916 : Int) (x1917 : Int) (x1918 : Int) (x1919 : Int) (x1920 : Int) (x1921 : Int) (x1922 : Int) (x1923 : Int) := (link_block (fin2 := (fun (t : Int) => (Exit.normal, ⟨mkE 28 0 [(7, dI t)], []⟩))) (id := 0) (impl_joins_below_n4_l x1924 x1925 x1910 x1911 x1912 x1913 x1914 x1915 x1916 x1917 x1918 x1919 x1920 x1921 x1922 x1923) (fun (t : Int) => t) (by
  rintro t K h
  · exact Eq.mp (by kernel_rfl) h))

def impl_joins_below_n6_l (x1924 : Int) (x1925 : Int) (x1910 : Int) (x1911 : Int) (x1912 : Int) (x1913 : Int) (x1914 : Int) (x1915 : Int) (x1916 : Int) (x1917 : Int) (x1918 : Int) (x1919 : Int) (x1920 : Int) (x1921 : Int) (x1922 : Int) (x1923 : Int) := (link_seq (impl_joins_below_n2_l x1924 x1925 x1910 x1911 x1912 x1913 x1914 x1915 x1916 x1917 x1918 x1919 x1920 x1921 x1922 x1923) (fun (t : Unit) => (impl_joins_below_n5_l x1924 x1925 x1910 x1911 x1912 x1913 x1914 x1915 x1916 x1917 x1918 x1919 x1920 x1921 x1922 x1923)))

theorem impl_joins_below_n7_l (x1945 : Int) : Link impl_joins_below_ctx LL (cq [1,1,1] (bodyOf Tryd.f120)) (aq [1,1,1] impl_joins_below_an) ⟨mkE 28 0 [(7, dI x1945)], []⟩ (impl_joins_below_n7 x1945) (fun (t : Int) => (Exit.ret, ⟨mkE 28 0 [(6, dI t)], []⟩)) := by
  refine Link.of fun K h => ?_
  simp only [impl_joins_below_n7, wpO_bind, wpO_cond, wpO_map, wpO_some] at h
  exact Awp.of (by kernel_rfl) h

def impl_joins_below_n8_l (x1924 : Int) (x1925 : Int) (x1910 : Int) (x1911 : Int) (x1912 : Int) (x1913 : Int) (x1914 : Int) (x1915 : Int) (x1916 : Int) (x1917 : Int) (x1918 : Int) (x1919 : Int) (x1920 : Int) (x1921 : Int) (x1922 : Int) (x1923 : Int) := (link_seq (impl_joins_below_n6_l x1924 x1925 x1910 x1911 x1912 x1913 x1914 x1915 x1916 x1917 x1918 x1919 x1920 x1921 x1922 x1923) (fun (t : Int) => (impl_joins_below_n7_l t)))

def impl_joins_below_n9_l (x1910 : Int) (x1911 : Int) (x1912 : Int) (x1913 : Int) (x1914 : Int) (x1915 : Int) (x1916 : Int) (x1917 : Int) (x1918 : Int) (x1919 : Int) (x1920 : Int) (x1921 : Int) (x1922 : Int) (x1923 : Int) (x1924 : Int) (x1925 : Int) := (link_group (c := (cq [0,1] (bodyOf Tryd.f120))) (a := (aq [0,1] impl_joins_below_an)) [(cq [0] (bodyOf Tryd.f120))] [(aq [0] impl_joins_below_an)] rfl (link_seq (impl_joins_below_n1_l x1910 x1911 x1912 x1913 x1914 x1915 x1916 x1917 x1918 x1919 x1920 x1921 x1922 x1923 x1924 x1925) (fun (t : Unit) => (impl_joins_below_n8_l x1924 x1925 x1910 x1911 x1912 x1913 x1914 x1915 x1916 x1917 x1918 x1919 x1920 x1921 x1922 x1923))))

theorem impl_joins_below_e (x1910 : Int) (x1911 : Int) (x1912 : Int) (x1913 : Int) (x1914 : Int) (x1915 : Int) (x1916 : Int) (x1917 : Int) (x1918 : Int) (x1919 : Int) (x1920 : Int) (x1921 : Int) (x1922 : Int) (x1923 : Int) (x1924 : Int) (x1925 : Int) {r : AV} {H' : Heap} (h : (Ans.mk _ (impl_joins_below x1910 x1911 x1912 x1913 x1914 x1915 x1916 x1917 x1918 x1919 x1920 x1921 x1922 x1923 x1924 x1925) (fun (t : Int) => (dI t, [])) [] none).run = some (r, H')) : Awp impl_joins_below_ctx LL (bodyOf Tryd.f120) impl_joins_below_an ⟨mkE 28 0 [(0, .agg [dI x1910, dI x1911, dI x1912, dI x1913, dI x1914, dI x1915, dI x1916, dI x1917, dI x1918, dI x1919, dI x1920, dI x1921, dI x1922, dI x1923]), (1, dI x1924), (2, dI x1925)], []⟩ (Ret (tlook tys) Tryd.f120.results.toList r H') :=
  ret_of' (Link.cast (by kernel_rfl) (by kernel_rfl) (impl_joins_below_n9_l x1910 x1911 x1912 x1913 x1914 x1915 x1916 x1917 x1918 x1919 x1920 x1921 x1922 x1923 x1924 x1925)) (by unfold impl_joins_below; kernel_rfl) (by
  intro t
  exact ret_mk [dI t] (by kernel_rfl) (by kernel_rfl) (by kernel_rfl) (by kernel_rfl)) h

def F_impl_joins_below : Fun := fun avs H =>
  match avs, H with
  | [.agg [.dat (.int .i64) x1910, .dat (.int .i64) x1911, .dat (.int .i64) x1912, .dat (.int .i64) x1913, .dat (.int .i64) x1914, .dat (.int .i64) x1915, .dat (.int .i64) x1916, .dat (.int .i64) x1917, .dat (.int .i64) x1918, .dat (.int .i64) x1919, .dat (.int .i64) x1920, .dat (.int .i64) x1921, .dat (.int .i64) x1922, .dat (.int .i64) x1923], .dat (.int .i64) x1924, .dat (.int .i64) x1925], [] => ⟨_, impl_joins_below x1910 x1911 x1912 x1913 x1914 x1915 x1916 x1917 x1918 x1919 x1920 x1921 x1922 x1923 x1924 x1925, fun (t : Int) => (dI t, []), [], none⟩
  | _, _ => Ans.no

theorem impl_joins_below_sound : Sound Tryd.prog 120 F_impl_joins_below := by
  refine fn_sound' (C := impl_joins_below_ctx) (c := bodyOf Tryd.f120) (cok_of tys_ok (alln) (alln) (by kernel_rfl)) Tryd.func120 (by kernel_rfl) LL impl_joins_below_an ?_
  intro avs H r H' h
  unfold F_impl_joins_below at h
  split at h
  · refine Awp.cast ?_ ?_ ?_ (impl_joins_below_e _ _ _ _ _ _ _ _ _ _ _ _ _ _ _ _ h) <;> kernel_rfl
  · simp [Ans.no, Ans.run] at h


/-! (loop.example/headtrees/impl.joins).count -/

def impl_joins_count_an : Ann := (.seq (.leaf [1, 2]) (.seq (.leaf [4]) (.leaf [4])))

noncomputable def impl_joins_count_ctx : Ctx := ⟨tlook tys, olook [(120, F_impl_joins_below)], ioF, 0, false, []⟩

theorem impl_joins_count_n1_l (x1894 : Int) (x1895 : Int) (x1896 : Int) (x1897 : Int) (x1898 : Int) (x1899 : Int) (x1900 : Int) (x1901 : Int) (x1902 : Int) (x1903 : Int) (x1904 : Int) (x1905 : Int) (x1906 : Int) (x1907 : Int) (x1908 : Int) : Link impl_joins_count_ctx LL (bodyOf Tryd.f90) impl_joins_count_an ⟨mkE 10 0 [(0, .agg [dI x1894, dI x1895, dI x1896, dI x1897, dI x1898, dI x1899, dI x1900, dI x1901, dI x1902, dI x1903, dI x1904, dI x1905, dI x1906, dI x1907]), (1, dI x1908)], []⟩ (impl_joins_count_n1 x1894 x1895 x1896 x1897 x1898 x1899 x1900 x1901 x1902 x1903 x1904 x1905 x1906 x1907 x1908) (fun (t : Int) => (Exit.ret, ⟨mkE 10 0 [(4, dI t)], []⟩)) := by
  refine Link.of fun K h => ?_
  simp only [impl_joins_count_n1, wpO_bind, wpO_cond, wpO_map, wpO_some] at h
  exact Awp.of (by kernel_rfl) h

theorem impl_joins_count_e (x1894 : Int) (x1895 : Int) (x1896 : Int) (x1897 : Int) (x1898 : Int) (x1899 : Int) (x1900 : Int) (x1901 : Int) (x1902 : Int) (x1903 : Int) (x1904 : Int) (x1905 : Int) (x1906 : Int) (x1907 : Int) (x1908 : Int) {r : AV} {H' : Heap} (h : (Ans.mk _ (impl_joins_count x1894 x1895 x1896 x1897 x1898 x1899 x1900 x1901 x1902 x1903 x1904 x1905 x1906 x1907 x1908) (fun (t : Int) => (dI t, [])) [] none).run = some (r, H')) : Awp impl_joins_count_ctx LL (bodyOf Tryd.f90) impl_joins_count_an ⟨mkE 10 0 [(0, .agg [dI x1894, dI x1895, dI x1896, dI x1897, dI x1898, dI x1899, dI x1900, dI x1901, dI x1902, dI x1903, dI x1904, dI x1905, dI x1906, dI x1907]), (1, dI x1908)], []⟩ (Ret (tlook tys) Tryd.f90.results.toList r H') :=
  ret_of' (impl_joins_count_n1_l x1894 x1895 x1896 x1897 x1898 x1899 x1900 x1901 x1902 x1903 x1904 x1905 x1906 x1907 x1908) (by unfold impl_joins_count; kernel_rfl) (by
  intro t
  exact ret_mk [dI t] (by kernel_rfl) (by kernel_rfl) (by kernel_rfl) (by kernel_rfl)) h

def F_impl_joins_count : Fun := fun avs H =>
  match avs, H with
  | [.agg [.dat (.int .i64) x1894, .dat (.int .i64) x1895, .dat (.int .i64) x1896, .dat (.int .i64) x1897, .dat (.int .i64) x1898, .dat (.int .i64) x1899, .dat (.int .i64) x1900, .dat (.int .i64) x1901, .dat (.int .i64) x1902, .dat (.int .i64) x1903, .dat (.int .i64) x1904, .dat (.int .i64) x1905, .dat (.int .i64) x1906, .dat (.int .i64) x1907], .dat (.int .i64) x1908], [] => ⟨_, impl_joins_count x1894 x1895 x1896 x1897 x1898 x1899 x1900 x1901 x1902 x1903 x1904 x1905 x1906 x1907 x1908, fun (t : Int) => (dI t, []), [], none⟩
  | _, _ => Ans.no

theorem impl_joins_count_sound : Sound Tryd.prog 90 F_impl_joins_count := by
  refine fn_sound' (C := impl_joins_count_ctx) (c := bodyOf Tryd.f90) (cok_of tys_ok (allc impl_joins_below_sound alln) (allc Tryd.call120 alln) (by kernel_rfl)) Tryd.func90 (by kernel_rfl) LL impl_joins_count_an ?_
  intro avs H r H' h
  unfold F_impl_joins_count at h
  split at h
  · refine Awp.cast ?_ ?_ ?_ (impl_joins_count_e _ _ _ _ _ _ _ _ _ _ _ _ _ _ _ h) <;> kernel_rfl
  · simp [Ans.no, Ans.run] at h


/-! (loop.example/headtrees/impl.flatCounts).inRows -/

def impl_flatCounts_inRows_an : Ann := (.seq (.leaf [1, 2]) (.seq (.leaf [2]) (.leaf [2])))

noncomputable def impl_flatCounts_inRows_ctx : Ctx := ⟨tlook tys, olook [], ioF, 0, false, []⟩

theorem impl_flatCounts_inRows_n1_l (x1986 : Int) (x1987 : Int) (x1988 : Int) (x1989 : Int) (x1990 : Int) (x1991 : Int) (x1992 : Int) (x1993 : Int) (x1994 : Int) (x1995 : Int) (x1996 : Int) (x1997 : Int) (x1998 : Int) (x1999 : Int) : Link impl_flatCounts_inRows_ctx LL (bodyOf Tryd.f91) impl_flatCounts_inRows_an ⟨mkE 8 0 [(0, .agg [dI x1986, dI x1987, dI x1988, dI x1989, dI x1990, dI x1991, dI x1992, dI x1993, dI x1994, dI x1995, dI x1996, dI x1997, dI x1998, dI x1999])], []⟩ (impl_flatCounts_inRows_n1) (fun (t : Unit) => (Exit.ret, ⟨mkE 8 0 [(2, .ptr 0 0)], [some (.box [dI x1986, dI x1987, dI x1988, dI x1989, dI x1990, dI x1991, dI x1992, dI x1993, dI x1994, dI x1995, dI x1996, dI x1997, dI x1998, dI x1999])]⟩)) := by
  refine Link.of fun K h => ?_
  simp only [impl_flatCounts_inRows_n1, wpO_bind, wpO_cond, wpO_map, wpO_some] at h
  exact Awp.of (by kernel_rfl) h

theorem impl_flatCounts_inRows_e (x1986 : Int) (x1987 : Int) (x1988 : Int) (x1989 : Int) (x1990 : Int) (x1991 : Int) (x1992 : Int) (x1993 : Int) (x1994 : Int) (x1995 : Int) (x1996 : Int) (x1997 : Int) (x1998 : Int) (x1999 : Int) {r : AV} {H' : Heap} (h : (Ans.mk _ (impl_flatCounts_inRows x1986 x1987 x1988 x1989 x1990 x1991 x1992 x1993 x1994 x1995 x1996 x1997 x1998 x1999) (fun (t : Unit) => (.agg [dI x1986, dI x1987, dI x1988, dI x1989, dI x1990, dI x1991, dI x1992, dI x1993, dI x1994, dI x1995, dI x1996, dI x1997, dI x1998, dI x1999], [some (.box [dI x1986, dI x1987, dI x1988, dI x1989, dI x1990, dI x1991, dI x1992, dI x1993, dI x1994, dI x1995, dI x1996, dI x1997, dI x1998, dI x1999])])) [] none).run = some (r, H')) : Awp impl_flatCounts_inRows_ctx LL (bodyOf Tryd.f91) impl_flatCounts_inRows_an ⟨mkE 8 0 [(0, .agg [dI x1986, dI x1987, dI x1988, dI x1989, dI x1990, dI x1991, dI x1992, dI x1993, dI x1994, dI x1995, dI x1996, dI x1997, dI x1998, dI x1999])], []⟩ (Ret (tlook tys) Tryd.f91.results.toList r H') :=
  ret_of' (impl_flatCounts_inRows_n1_l x1986 x1987 x1988 x1989 x1990 x1991 x1992 x1993 x1994 x1995 x1996 x1997 x1998 x1999) (by unfold impl_flatCounts_inRows; kernel_rfl) (by
  intro t
  exact ret_mk [.agg [dI x1986, dI x1987, dI x1988, dI x1989, dI x1990, dI x1991, dI x1992, dI x1993, dI x1994, dI x1995, dI x1996, dI x1997, dI x1998, dI x1999]] (by kernel_rfl) (by kernel_rfl) (by kernel_rfl) (by kernel_rfl)) h

def F_impl_flatCounts_inRows : Fun := fun avs H =>
  match avs, H with
  | [.agg [.dat (.int .i64) x1986, .dat (.int .i64) x1987, .dat (.int .i64) x1988, .dat (.int .i64) x1989, .dat (.int .i64) x1990, .dat (.int .i64) x1991, .dat (.int .i64) x1992, .dat (.int .i64) x1993, .dat (.int .i64) x1994, .dat (.int .i64) x1995, .dat (.int .i64) x1996, .dat (.int .i64) x1997, .dat (.int .i64) x1998, .dat (.int .i64) x1999]], [] => ⟨_, impl_flatCounts_inRows x1986 x1987 x1988 x1989 x1990 x1991 x1992 x1993 x1994 x1995 x1996 x1997 x1998 x1999, fun (t : Unit) => (.agg [dI x1986, dI x1987, dI x1988, dI x1989, dI x1990, dI x1991, dI x1992, dI x1993, dI x1994, dI x1995, dI x1996, dI x1997, dI x1998, dI x1999], [some (.box [dI x1986, dI x1987, dI x1988, dI x1989, dI x1990, dI x1991, dI x1992, dI x1993, dI x1994, dI x1995, dI x1996, dI x1997, dI x1998, dI x1999])]), [], none⟩
  | _, _ => Ans.no

theorem impl_flatCounts_inRows_sound : Sound Tryd.prog 91 F_impl_flatCounts_inRows := by
  refine fn_sound' (C := impl_flatCounts_inRows_ctx) (c := bodyOf Tryd.f91) (cok_of tys_ok (alln) (alln) (by kernel_rfl)) Tryd.func91 (by kernel_rfl) LL impl_flatCounts_inRows_an ?_
  intro avs H r H' h
  unfold F_impl_flatCounts_inRows at h
  split at h
  · refine Awp.cast ?_ ?_ ?_ (impl_flatCounts_inRows_e _ _ _ _ _ _ _ _ _ _ _ _ _ _ h) <;> kernel_rfl
  · simp [Ans.no, Ans.run] at h


/-! loop.example/headtrees/impl.countFlatParts -/

def impl_countFlatParts_an : Ann := (.seq (.leaf [0]) (.seq (.leaf [0, 1]) (.seq (.leaf [0, 1]) (.seq (.seq (.leaf [0, 1, 2]) (.block (.loop (.seq (.seq (.leaf [0, 1, 2, 6]) (.cond (.leaf [0, 1, 2]) (.leaf [0, 1]))) (.seq (.block (.seq (.leaf [0, 1, 2]) (.leaf [0, 1, 2]))) (.leaf [0, 1, 2])))))) (.seq (.leaf [0]) (.leaf [0]))))))

noncomputable def impl_countFlatParts_ctx : Ctx := ⟨tlook tys, olook [(89, F_impl_flatCounts_aroundRoots), (90, F_impl_joins_count), (91, F_impl_flatCounts_inRows)], ioF, 0, false, []⟩

theorem impl_countFlatParts_n1_l : Link impl_countFlatParts_ctx LL (Code.seq (cq [0] (bodyOf Tryd.f57)) (Code.seq (cq [0,1] (bodyOf Tryd.f57)) (cq [0,1,1] (bodyOf Tryd.f57)))) (Ann.seq (aq [0] impl_countFlatParts_an) (Ann.seq (aq [0,1] impl_countFlatParts_an) (aq [0,1,1] impl_countFlatParts_an))) ⟨mkE 25 0 [], []⟩ (impl_countFlatParts_n1) (fun (t : Int × Int × Int × Int × Int × Int × Int) => (Exit.normal, ⟨mkE 25 0 [(0, .ptr 0 0), (1, .ptr 1 0)], [some (.box [dI 0, dI 0, dI 0, dI 0, dI 0, dI 0, dI 0, dI 0, dI 0, dI 0, dI 0, dI 0, dI 0, dI 0]), some (.box [dI 0, dI 0, dI 0, dI 0, dI 0, dI 0, dI 0, dI t.1, dI t.2.1, dI t.2.2.1, dI t.2.2.2.1, dI t.2.2.2.2.1, dI t.2.2.2.2.2.1, dI t.2.2.2.2.2.2])]⟩)) := by
  refine Link.of fun K h => ?_
  simp only [impl_countFlatParts_n1, wpO_bind, wpO_cond, wpO_map, wpO_some] at h
  exact Awp.of (by kernel_rfl) h

theorem impl_countFlatParts_n2_l (x1868 : Int) (x1869 : Int) (x1870 : Int) (x1871 : Int) (x1872 : Int) (x1873 : Int) (x1874 : Int) : Link impl_countFlatParts_ctx LL (cq [0,0,1,1,1] (bodyOf Tryd.f57)) (aq [0,0,1,1,1] impl_countFlatParts_an) ⟨mkE 25 0 [(0, .ptr 0 0), (1, .ptr 1 0)], [some (.box [dI 0, dI 0, dI 0, dI 0, dI 0, dI 0, dI 0, dI 0, dI 0, dI 0, dI 0, dI 0, dI 0, dI 0]), some (.box [dI 0, dI 0, dI 0, dI 0, dI 0, dI 0, dI 0, dI x1868, dI x1869, dI x1870, dI x1871, dI x1872, dI x1873, dI x1874])]⟩ (impl_countFlatParts_n2) (fun (t : Unit) => (Exit.normal, ⟨mkE 25 0 [(0, .ptr 0 0), (1, .ptr 1 0), (2, dI 1)], [some (.box [dI 0, dI 0, dI 0, dI 0, dI 0, dI 0, dI 0, dI 0, dI 0, dI 0, dI 0, dI 0, dI 0, dI 0]), some (.box [dI 0, dI 0, dI 0, dI 0, dI 0, dI 0, dI 0, dI x1868, dI x1869, dI x1870, dI x1871, dI x1872, dI x1873, dI x1874])]⟩)) := by
  refine Link.of fun K h => ?_
  simp only [impl_countFlatParts_n2, wpO_bind, wpO_cond, wpO_map, wpO_some] at h
  exact Awp.of (by kernel_rfl) h

theorem impl_countFlatParts_n3_l (x2043 : Int) (x2044 : Int) (x2045 : Int) (x2046 : Int) (x2047 : Int) (x2048 : Int) (x2049 : Int) (x2050 : Int) (x2051 : Int) (x2052 : Int) (x2053 : Int) (x2054 : Int) (x2055 : Int) (x2056 : Int) (x2057 : Int) : Link impl_countFlatParts_ctx LL (cq [0,0,1,0,1,1,1] (bodyOf Tryd.f57)) (aq [0,0,1,0,1,1,1] impl_countFlatParts_an) ⟨mkE 25 0 [(0, .ptr 0 0), (1, .ptr 1 0), (2, dI x2043)], [some (.box [dI 0, dI 0, dI 0, dI 0, dI 0, dI 0, dI 0, dI 0, dI 0, dI 0, dI 0, dI 0, dI 0, dI 0]), some (.box [dI x2044, dI x2045, dI x2046, dI x2047, dI x2048, dI x2049, dI x2050, dI x2051, dI x2052, dI x2053, dI x2054, dI x2055, dI x2056, dI x2057])]⟩ (impl_countFlatParts_n3 x2043 x2044 x2045 x2046 x2047 x2048 x2049 x2050 x2051 x2052 x2053 x2054 x2055 x2056 x2057) (Sum.elim (fun (t : Int × Int × Int × Int × Int × Int × Int × Int × Int × Int × Int × Int × Int × Int × Int) => (Exit.normal, ⟨mkE 25 0 [(0, .ptr 0 0), (1, .ptr 1 0), (2, dI t.1)], [some (.box [dI 0, dI 0, dI 0, dI 0, dI 0, dI 0, dI 0, dI 0, dI 0, dI 0, dI 0, dI 0, dI 0, dI 0]), some (.box [dI t.2.1, dI t.2.2.1, dI t.2.2.2.1, dI t.2.2.2.2.1, dI t.2.2.2.2.2.1, dI t.2.2.2.2.2.2.1, dI t.2.2.2.2.2.2.2.1, dI t.2.2.2.2.2.2.2.2.1, dI t.2.2.2.2.2.2.2.2.2.1, dI t.2.2.2.2.2.2.2.2.2.2.1, dI t.2.2.2.2.2.2.2.2.2.2.2.1, dI t.2.2.2.2.2.2.2.2.2.2.2.2.1, dI t.2.2.2.2.2.2.2.2.2.2.2.2.2.1, dI t.2.2.2.2.2.2.2.2.2.2.2.2.2.2])]⟩)) (fun (t : Int × Int × Int × Int × Int × Int × Int × Int × Int × Int × Int × Int × Int × Int) => ((Exit.exit 0), ⟨mkE 25 0 [(0, .ptr 0 0), (1, .ptr 1 0)], [some (.box [dI 0, dI 0, dI 0, dI 0, dI 0, dI 0, dI 0, dI 0, dI 0, dI 0, dI 0, dI 0, dI 0, dI 0]), some (.box [dI t.1, dI t.2.1, dI t.2.2.1, dI t.2.2.2.1, dI t.2.2.2.2.1, dI t.2.2.2.2.2.1, dI t.2.2.2.2.2.2.1, dI t.2.2.2.2.2.2.2.1, dI t.2.2.2.2.2.2.2.2.1, dI t.2.2.2.2.2.2.2.2.2.1, dI t.2.2.2.2.2.2.2.2.2.2.1, dI t.2.2.2.2.2.2.2.2.2.2.2.1, dI t.2.2.2.2.2.2.2.2.2.2.2.2.1, dI t.2.2.2.2.2.2.2.2.2.2.2.2.2])]⟩))) := by
  refine Link.of fun K h => ?_
  simp only [impl_countFlatParts_n3, wpO_bind, wpO_cond, wpO_map, wpO_some] at h
  exact Awp.of (by kernel_rfl) h

def impl_countFlatParts_n4_l (x1868 : Int) (x1869 : Int) (x1870 : Int) (x1871 : Int) (x1872 : Int) (x1873 : Int) (x1874 : Int) := (link_loop (mk := fun (s : Int × Int × Int × Int × Int × Int × Int × Int × Int × Int × Int × Int × Int × Int × Int) => ⟨mkE 25 0 [(0, .ptr 0 0), (1, .ptr 1 0), (2, dI s.1)], [some (.box [dI 0, dI 0, dI 0, dI 0, dI 0, dI 0, dI 0, dI 0, dI 0, dI 0, dI 0, dI 0, dI 0, dI 0]), some (.box [dI s.2.1, dI s.2.2.1, dI s.2.2.2.1, dI s.2.2.2.2.1, dI s.2.2.2.2.2.1, dI s.2.2.2.2.2.2.1, dI s.2.2.2.2.2.2.2.1, dI s.2.2.2.2.2.2.2.2.1, dI s.2.2.2.2.2.2.2.2.2.1, dI s.2.2.2.2.2.2.2.2.2.2.1, dI s.2.2.2.2.2.2.2.2.2.2.2.1, dI s.2.2.2.2.2.2.2.2.2.2.2.2.1, dI s.2.2.2.2.2.2.2.2.2.2.2.2.2.1, dI s.2.2.2.2.2.2.2.2.2.2.2.2.2.2])]⟩) (fin := (fun (t : Int × Int × Int × Int × Int × Int × Int × Int × Int × Int × Int × Int × Int × Int) => ((Exit.exit 0), ⟨mkE 25 0 [(0, .ptr 0 0), (1, .ptr 1 0)], [some (.box [dI 0, dI 0, dI 0, dI 0, dI 0, dI 0, dI 0, dI 0, dI 0, dI 0, dI 0, dI 0, dI 0, dI 0]), some (.box [dI t.1, dI t.2.1, dI t.2.2.1, dI t.2.2.2.1, dI t.2.2.2.2.1, dI t.2.2.2.2.2.1, dI t.2.2.2.2.2.2.1, dI t.2.2.2.2.2.2.2.1, dI t.2.2.2.2.2.2.2.2.1, dI t.2.2.2.2.2.2.2.2.2.1, dI t.2.2.2.2.2.2.2.2.2.2.1, dI t.2.2.2.2.2.2.2.2.2.2.2.1, dI t.2.2.2.2.2.2.2.2.2.2.2.2.1, dI t.2.2.2.2.2.2.2.2.2.2.2.2.2])]⟩))) (by
  rintro t f K h
  · exact h) (fun s => link_map (impl_countFlatParts_n3_l s.1 s.2.1 s.2.2.1 s.2.2.2.1 s.2.2.2.2.1 s.2.2.2.2.2.1 s.2.2.2.2.2.2.1 s.2.2.2.2.2.2.2.1 s.2.2.2.2.2.2.2.2.1 s.2.2.2.2.2.2.2.2.2.1 s.2.2.2.2.2.2.2.2.2.2.1 s.2.2.2.2.2.2.2.2.2.2.2.1 s.2.2.2.2.2.2.2.2.2.2.2.2.1 s.2.2.2.2.2.2.2.2.2.2.2.2.2.1 s.2.2.2.2.2.2.2.2.2.2.2.2.2.2) (Sum.elim (fun (t : Int × Int × Int × Int × Int × Int × Int × Int × Int × Int × Int × Int × Int × Int × Int) => Sum.inl (t.1, t.2.1, t.2.2.1, t.2.2.2.1, t.2.2.2.2.1, t.2.2.2.2.2.1, t.2.2.2.2.2.2.1, t.2.2.2.2.2.2.2.1, t.2.2.2.2.2.2.2.2.1, t.2.2.2.2.2.2.2.2.2.1, t.2.2.2.2.2.2.2.2.2.2.1, t.2.2.2.2.2.2.2.2.2.2.2.1, t.2.2.2.2.2.2.2.2.2.2.2.2.1, t.2.2.2.2.2.2.2.2.2.2.2.2.2.1, t.2.2.2.2.2.2.2.2.2.2.2.2.2.2)) (fun (t : Int × Int × Int × Int × Int × Int × Int × Int × Int × Int × Int × Int × Int × Int) => Sum.inr t)) (by
  rintro (t | t)
  · kernel_rfl
  · kernel_rfl)) (1, 0, 0, 0, 0, 0, 0, 0, x1868, x1869, x1870, x1871, x1872, x1873, x1874))

def impl_countFlatParts_n5_l (x1868 : Int) (x1869 : Int) (x1870 : Int) (x1871 : Int) (x1872 : Int) (x1873 : Int) (x1874 : Int) := (link_block (fin2 := (fun (t : Int × Int × Int × Int × Int × Int × Int × Int × Int × Int × Int × Int × Int × Int) => (Exit.normal, ⟨mkE 25 0 [(0, .ptr 0 0), (1, .ptr 1 0)], [some (.box [dI 0, dI 0, dI 0, dI 0, dI 0, dI 0, dI 0, dI 0, dI 0, dI 0, dI 0, dI 0, dI 0, dI 0]), some (.box [dI t.1, dI t.2.1, dI t.2.2.1, dI t.2.2.2.1, dI t.2.2.2.2.1, dI t.2.2.2.2.2.1, dI t.2.2.2.2.2.2.1, dI t.2.2.2.2.2.2.2.1, dI t.2.2.2.2.2.2.2.2.1, dI t.2.2.2.2.2.2.2.2.2.1, dI t.2.2.2.2.2.2.2.2.2.2.1, dI t.2.2.2.2.2.2.2.2.2.2.2.1, dI t.2.2.2.2.2.2.2.2.2.2.2.2.1, dI t.2.2.2.2.2.2.2.2.2.2.2.2.2])]⟩))) (id := 0) (impl_countFlatParts_n4_l x1868 x1869 x1870 x1871 x1872 x1873 x1874) (fun (t : Int × Int × Int × Int × Int × Int × Int × Int × Int × Int × Int × Int × Int × Int) => (t.1, t.2.1, t.2.2.1, t.2.2.2.1, t.2.2.2.2.1, t.2.2.2.2.2.1, t.2.2.2.2.2.2.1, t.2.2.2.2.2.2.2.1, t.2.2.2.2.2.2.2.2.1, t.2.2.2.2.2.2.2.2.2.1, t.2.2.2.2.2.2.2.2.2.2.1, t.2.2.2.2.2.2.2.2.2.2.2.1, t.2.2.2.2.2.2.2.2.2.2.2.2.1, t.2.2.2.2.2.2.2.2.2.2.2.2.2)) (by
  rintro t K h
  · exact Eq.mp (by kernel_rfl) h))

def impl_countFlatParts_n6_l (x1868 : Int) (x1869 : Int) (x1870 : Int) (x1871 : Int) (x1872 : Int) (x1873 : Int) (x1874 : Int) := (link_seq (impl_countFlatParts_n2_l x1868 x1869 x1870 x1871 x1872 x1873 x1874) (fun (t : Unit) => (impl_countFlatParts_n5_l x1868 x1869 x1870 x1871 x1872 x1873 x1874)))

theorem impl_countFlatParts_n7_l (x2044 : Int) (x2045 : Int) (x2046 : Int) (x2047 : Int) (x2048 : Int) (x2049 : Int) (x2050 : Int) (x2051 : Int) (x2052 : Int) (x2053 : Int) (x2054 : Int) (x2055 : Int) (x2056 : Int) (x2057 : Int) : Link impl_countFlatParts_ctx LL (cq [1,1,1,1] (bodyOf Tryd.f57)) (aq [1,1,1,1] impl_countFlatParts_an) ⟨mkE 25 0 [(0, .ptr 0 0), (1, .ptr 1 0)], [some (.box [dI 0, dI 0, dI 0, dI 0, dI 0, dI 0, dI 0, dI 0, dI 0, dI 0, dI 0, dI 0, dI 0, dI 0]), some (.box [dI x2044, dI x2045, dI x2046, dI x2047, dI x2048, dI x2049, dI x2050, dI x2051, dI x2052, dI x2053, dI x2054, dI x2055, dI x2056, dI x2057])]⟩ (impl_countFlatParts_n7 x2044 x2045 x2046 x2047 x2048 x2049 x2050 x2051 x2052 x2053 x2054 x2055 x2056 x2057) (fun (t : Int × Int × Int × Int × Int × Int × Int × Int × Int × Int × Int × Int × Int × Int) => (Exit.ret, ⟨mkE 25 0 [(0, .ptr 0 0)], [some (.box [dI t.1, dI t.2.1, dI t.2.2.1, dI t.2.2.2.1, dI t.2.2.2.2.1, dI t.2.2.2.2.2.1, dI t.2.2.2.2.2.2.1, dI t.2.2.2.2.2.2.2.1, dI t.2.2.2.2.2.2.2.2.1, dI t.2.2.2.2.2.2.2.2.2.1, dI t.2.2.2.2.2.2.2.2.2.2.1, dI t.2.2.2.2.2.2.2.2.2.2.2.1, dI t.2.2.2.2.2.2.2.2.2.2.2.2.1, dI t.2.2.2.2.2.2.2.2.2.2.2.2.2])]⟩)) := by
  refine Link.of fun K h => ?_
  simp only [impl_countFlatParts_n7, wpO_bind, wpO_cond, wpO_map, wpO_some] at h
  exact Awp.of (by kernel_rfl) h

def impl_countFlatParts_n8_l (x1868 : Int) (x1869 : Int) (x1870 : Int) (x1871 : Int) (x1872 : Int) (x1873 : Int) (x1874 : Int) := (link_seq (impl_countFlatParts_n6_l x1868 x1869 x1870 x1871 x1872 x1873 x1874) (fun (t : Int × Int × Int × Int × Int × Int × Int × Int × Int × Int × Int × Int × Int × Int) => (impl_countFlatParts_n7_l t.1 t.2.1 t.2.2.1 t.2.2.2.1 t.2.2.2.2.1 t.2.2.2.2.2.1 t.2.2.2.2.2.2.1 t.2.2.2.2.2.2.2.1 t.2.2.2.2.2.2.2.2.1 t.2.2.2.2.2.2.2.2.2.1 t.2.2.2.2.2.2.2.2.2.2.1 t.2.2.2.2.2.2.2.2.2.2.2.1 t.2.2.2.2.2.2.2.2.2.2.2.2.1 t.2.2.2.2.2.2.2.2.2.2.2.2.2)))

def impl_countFlatParts_n9_l := (link_group (c := (cq [0,1,1] (bodyOf Tryd.f57))) (a := (aq [0,1,1] impl_countFlatParts_an)) [(cq [0] (bodyOf Tryd.f57)), (cq [0,1] (bodyOf Tryd.f57))] [(aq [0] impl_countFlatParts_an), (aq [0,1] impl_countFlatParts_an)] rfl (link_seq (impl_countFlatParts_n1_l) (fun (t : Int × Int × Int × Int × Int × Int × Int) => (impl_countFlatParts_n8_l t.1 t.2.1 t.2.2.1 t.2.2.2.1 t.2.2.2.2.1 t.2.2.2.2.2.1 t.2.2.2.2.2.2))))

theorem impl_countFlatParts_e {r : AV} {H' : Heap} (h : (Ans.mk _ (impl_countFlatParts) (fun (t : Int × Int × Int × Int × Int × Int × Int × Int × Int × Int × Int × Int × Int × Int) => (.agg [dI t.1, dI t.2.1, dI t.2.2.1, dI t.2.2.2.1, dI t.2.2.2.2.1, dI t.2.2.2.2.2.1, dI t.2.2.2.2.2.2.1, dI t.2.2.2.2.2.2.2.1, dI t.2.2.2.2.2.2.2.2.1, dI t.2.2.2.2.2.2.2.2.2.1, dI t.2.2.2.2.2.2.2.2.2.2.1, dI t.2.2.2.2.2.2.2.2.2.2.2.1, dI t.2.2.2.2.2.2.2.2.2.2.2.2.1, dI t.2.2.2.2.2.2.2.2.2.2.2.2.2], [some (.box [dI t.1, dI t.2.1, dI t.2.2.1, dI t.2.2.2.1, dI t.2.2.2.2.1, dI t.2.2.2.2.2.1, dI t.2.2.2.2.2.2.1, dI t.2.2.2.2.2.2.2.1, dI t.2.2.2.2.2.2.2.2.1, dI t.2.2.2.2.2.2.2.2.2.1, dI t.2.2.2.2.2.2.2.2.2.2.1, dI t.2.2.2.2.2.2.2.2.2.2.2.1, dI t.2.2.2.2.2.2.2.2.2.2.2.2.1, dI t.2.2.2.2.2.2.2.2.2.2.2.2.2])])) [] none).run = some (r, H')) : Awp impl_countFlatParts_ctx LL (bodyOf Tryd.f57) impl_countFlatParts_an ⟨mkE 25 0 [], []⟩ (Ret (tlook tys) Tryd.f57.results.toList r H') :=
  ret_of' (Link.cast (by kernel_rfl) (by kernel_rfl) (impl_countFlatParts_n9_l)) (by unfold impl_countFlatParts; kernel_rfl) (by
  intro t
  exact ret_mk [.agg [dI t.1, dI t.2.1, dI t.2.2.1, dI t.2.2.2.1, dI t.2.2.2.2.1, dI t.2.2.2.2.2.1, dI t.2.2.2.2.2.2.1, dI t.2.2.2.2.2.2.2.1, dI t.2.2.2.2.2.2.2.2.1, dI t.2.2.2.2.2.2.2.2.2.1, dI t.2.2.2.2.2.2.2.2.2.2.1, dI t.2.2.2.2.2.2.2.2.2.2.2.1, dI t.2.2.2.2.2.2.2.2.2.2.2.2.1, dI t.2.2.2.2.2.2.2.2.2.2.2.2.2]] (by kernel_rfl) (by kernel_rfl) (by kernel_rfl) (by kernel_rfl)) h

def F_impl_countFlatParts : Fun := fun avs H =>
  match avs, H with
  | [], [] => ⟨_, impl_countFlatParts, fun (t : Int × Int × Int × Int × Int × Int × Int × Int × Int × Int × Int × Int × Int × Int) => (.agg [dI t.1, dI t.2.1, dI t.2.2.1, dI t.2.2.2.1, dI t.2.2.2.2.1, dI t.2.2.2.2.2.1, dI t.2.2.2.2.2.2.1, dI t.2.2.2.2.2.2.2.1, dI t.2.2.2.2.2.2.2.2.1, dI t.2.2.2.2.2.2.2.2.2.1, dI t.2.2.2.2.2.2.2.2.2.2.1, dI t.2.2.2.2.2.2.2.2.2.2.2.1, dI t.2.2.2.2.2.2.2.2.2.2.2.2.1, dI t.2.2.2.2.2.2.2.2.2.2.2.2.2], [some (.box [dI t.1, dI t.2.1, dI t.2.2.1, dI t.2.2.2.1, dI t.2.2.2.2.1, dI t.2.2.2.2.2.1, dI t.2.2.2.2.2.2.1, dI t.2.2.2.2.2.2.2.1, dI t.2.2.2.2.2.2.2.2.1, dI t.2.2.2.2.2.2.2.2.2.1, dI t.2.2.2.2.2.2.2.2.2.2.1, dI t.2.2.2.2.2.2.2.2.2.2.2.1, dI t.2.2.2.2.2.2.2.2.2.2.2.2.1, dI t.2.2.2.2.2.2.2.2.2.2.2.2.2])]), [], none⟩
  | _, _ => Ans.no

theorem impl_countFlatParts_sound : Sound Tryd.prog 57 F_impl_countFlatParts := by
  refine fn_sound' (C := impl_countFlatParts_ctx) (c := bodyOf Tryd.f57) (cok_of tys_ok (allc impl_flatCounts_aroundRoots_sound (allc impl_joins_count_sound (allc impl_flatCounts_inRows_sound alln))) (allc Tryd.call89 (allc Tryd.call90 (allc Tryd.call91 alln))) (by kernel_rfl)) Tryd.func57 (by kernel_rfl) LL impl_countFlatParts_an ?_
  intro avs H r H' h
  unfold F_impl_countFlatParts at h
  split at h
  · refine Awp.cast ?_ ?_ ?_ (impl_countFlatParts_e h) <;> kernel_rfl
  · simp [Ans.no, Ans.run] at h


/-! loop.example/headtrees/impl.CountFlat -/

def impl_CountFlat_an : Ann := (.seq (.leaf [0]) (.seq (.seq (.leaf [0, 8]) (.cond (.seq (.leaf [2]) (.leaf [2])) (.leaf [0]))) (.seq (.leaf [2]) (.leaf [2]))))

noncomputable def impl_CountFlat_ctx : Ctx := ⟨tlook tys, olook [(57, F_impl_countFlatParts)], ioF, 0, false, []⟩

theorem impl_CountFlat_n1_l (x1862 : Int) : Link impl_CountFlat_ctx LL (bodyOf Tryd.f27) impl_CountFlat_an ⟨mkE 13 0 [(0, dI x1862)], []⟩ (impl_CountFlat_n1 x1862) (fun (t : Int) => (Exit.ret, ⟨mkE 13 0 [(2, dI t)], []⟩)) := by
  refine Link.of fun K h => ?_
  simp only [impl_CountFlat_n1, wpO_bind, wpO_cond, wpO_map, wpO_some] at h
  exact Awp.of (by kernel_rfl) h

theorem impl_CountFlat_e (x1862 : Int) {r : AV} {H' : Heap} (h : (Ans.mk _ (impl_CountFlat x1862) (fun (t : Int) => (dI t, [])) [] none).run = some (r, H')) : Awp impl_CountFlat_ctx LL (bodyOf Tryd.f27) impl_CountFlat_an ⟨mkE 13 0 [(0, dI x1862)], []⟩ (Ret (tlook tys) Tryd.f27.results.toList r H') :=
  ret_of' (impl_CountFlat_n1_l x1862) (by unfold impl_CountFlat; kernel_rfl) (by
  intro t
  exact ret_mk [dI t] (by kernel_rfl) (by kernel_rfl) (by kernel_rfl) (by kernel_rfl)) h

def F_impl_CountFlat : Fun := fun avs H =>
  match avs, H with
  | [.dat (.int .i64) x1862], [] => ⟨_, impl_CountFlat x1862, fun (t : Int) => (dI t, []), [], none⟩
  | _, _ => Ans.no

theorem impl_CountFlat_sound : Sound Tryd.prog 27 F_impl_CountFlat := by
  refine fn_sound' (C := impl_CountFlat_ctx) (c := bodyOf Tryd.f27) (cok_of tys_ok (allc impl_countFlatParts_sound alln) (allc Tryd.call57 alln) (by kernel_rfl)) Tryd.func27 (by kernel_rfl) LL impl_CountFlat_an ?_
  intro avs H r H' h
  unfold F_impl_CountFlat at h
  split at h
  · refine Awp.cast ?_ ?_ ?_ (impl_CountFlat_e _ h) <;> kernel_rfl
  · simp [Ans.no, Ans.run] at h


/-! (loop.example/headtrees/impl.joins).partsOf -/

def impl_joins_partsOf_an : Ann := (.seq (.leaf [1, 2, 3, 6, 7]) (.seq (.leaf [1, 2, 3, 6, 7, 8]) (.seq (.block (.loop (.seq (.seq (.leaf [1, 2, 3, 6, 7, 8, 16]) (.cond (.leaf [1, 2, 3, 6, 7, 8]) (.leaf [1, 2, 3, 6, 7, 8]))) (.block (.leaf [1, 2, 3, 6, 7, 8]))))) (.seq (.leaf [1, 2, 3, 6, 7, 8]) (.seq (.leaf [1, 2, 6, 7, 8, 9]) (.seq (.draw [] [0, 1, 2, 3, 4, 5, 6, 7, 8, 9, 10, 11, 12, 13] [] [6, 7]) (.leaf [6, 7])))))))

noncomputable def impl_joins_partsOf_ctx : Ctx := ⟨tlook tys, olook [(120, F_impl_joins_below)], ioF, 0, false, []⟩

theorem impl_joins_partsOf_n1_l (x2205 : Int) (x2206 : Int) (x2207 : Int) (x2208 : Int) (x2209 : Int) (x2210 : Int) (x2211 : Int) (x2212 : Int) (x2213 : Int) (x2214 : Int) (x2215 : Int) (x2216 : Int) (x2217 : Int) (x2218 : Int) (x2219 : Int) (x2220 : Int) : Link impl_joins_partsOf_ctx LL (Code.seq (cq [0] (bodyOf Tryd.f92)) (cq [0,1] (bodyOf Tryd.f92))) (Ann.seq (aq [0] impl_joins_partsOf_an) (aq [0,1] impl_joins_partsOf_an)) ⟨mkE 43 0 [(0, .agg [dI x2205, dI x2206, dI x2207, dI x2208, dI x2209, dI x2210, dI x2211, dI x2212, dI x2213, dI x2214, dI x2215, dI x2216, dI x2217, dI x2218]), (1, dI x2219), (2, dI x2220)], []⟩ (impl_joins_partsOf_n1) (fun (t : Unit) => (Exit.normal, ⟨mkE 43 0 [(1, dI x2219), (2, dI x2220), (3, .ptr 0 0), (6, .ptr 1 0), (7, .ptr 2 0), (8, dI 0)], [some (.box [dI x2205, dI x2206, dI x2207, dI x2208, dI x2209, dI x2210, dI x2211, dI x2212, dI x2213, dI x2214, dI x2215, dI x2216, dI x2217, dI x2218]), some (.box [dI 0, dI 0]), some (.box [dI 0, dI 0])]⟩)) := by
  refine Link.of fun K h => ?_
  simp only [impl_joins_partsOf_n1, wpO_bind, wpO_cond, wpO_map, wpO_some] at h
  exact Awp.of (by kernel_rfl) h

theorem impl_joins_partsOf_n2_l (x2219 : Int) (x2220 : Int) (x2228 : Int) (x2205 : Int) (x2206 : Int) (x2207 : Int) (x2208 : Int) (x2209 : Int) (x2210 : Int) (x2211 : Int) (x2212 : Int) (x2213 : Int) (x2214 : Int) (x2215 : Int) (x2216 : Int) (x2217 : Int) (x2218 : Int) : Link impl_joins_partsOf_ctx LL (cq [0,0,0,1,1] (bodyOf Tryd.f92)) (aq [0,0,0,1,1] impl_joins_partsOf_an) ⟨mkE 43 0 [(1, dI x2219), (2, dI x2220), (3, .ptr 0 0), (6, .ptr 1 0), (7, .ptr 2 0), (8, dI x2228)], [some (.box [dI x2205, dI x2206, dI x2207, dI x2208, dI x2209, dI x2210, dI x2211, dI x2212, dI x2213, dI x2214, dI x2215, dI x2216, dI x2217, dI x2218]), some (.box [dI 0, dI 0]), some (.box [dI 0, dI 0])]⟩ (impl_joins_partsOf_n2 x2219 x2220 x2228 x2205 x2206 x2207 x2208 x2209 x2210 x2211 x2212 x2213 x2214 x2215 x2216 x2217 x2218) (Sum.elim (fun (t : Int) => (Exit.normal, ⟨mkE 43 0 [(1, dI x2219), (2, dI x2220), (3, .ptr 0 0), (6, .ptr 1 0), (7, .ptr 2 0), (8, dI t)], [some (.box [dI x2205, dI x2206, dI x2207, dI x2208, dI x2209, dI x2210, dI x2211, dI x2212, dI x2213, dI x2214, dI x2215, dI x2216, dI x2217, dI x2218]), some (.box [dI 0, dI 0]), some (.box [dI 0, dI 0])]⟩)) (fun (t : Int) => ((Exit.exit 0), ⟨mkE 43 0 [(1, dI x2219), (2, dI x2220), (3, .ptr 0 0), (6, .ptr 1 0), (7, .ptr 2 0), (8, dI t)], [some (.box [dI x2205, dI x2206, dI x2207, dI x2208, dI x2209, dI x2210, dI x2211, dI x2212, dI x2213, dI x2214, dI x2215, dI x2216, dI x2217, dI x2218]), some (.box [dI 0, dI 0]), some (.box [dI 0, dI 0])]⟩))) := by
  refine Link.of fun K h => ?_
  simp only [impl_joins_partsOf_n2, wpO_bind, wpO_cond, wpO_map, wpO_some] at h
  exact Awp.of (by kernel_rfl) h

def impl_joins_partsOf_n3_l (x2219 : Int) (x2220 : Int) (x2205 : Int) (x2206 : Int) (x2207 : Int) (x2208 : Int) (x2209 : Int) (x2210 : Int) (x2211 : Int) (x2212 : Int) (x2213 : Int) (x2214 : Int) (x2215 : Int) (x2216 : Int) (x2217 : Int) (x2218 : Int) := (link_loop (mk := fun (s : Int) => ⟨mkE 43 0 [(1, dI x2219), (2, dI x2220), (3, .ptr 0 0), (6, .ptr 1 0), (7, .ptr 2 0), (8, dI s)], [some (.box [dI x2205, dI x2206, dI x2207, dI x2208, dI x2209, dI x2210, dI x2211, dI x2212, dI x2213, dI x2214, dI x2215, dI x2216, dI x2217, dI x2218]), some (.box [dI 0, dI 0]), some (.box [dI 0, dI 0])]⟩) (fin := (fun (t : Int) => ((Exit.exit 0), ⟨mkE 43 0 [(1, dI x2219), (2, dI x2220), (3, .ptr 0 0), (6, .ptr 1 0), (7, .ptr 2 0), (8, dI t)], [some (.box [dI x2205, dI x2206, dI x2207, dI x2208, dI x2209, dI x2210, dI x2211, dI x2212, dI x2213, dI x2214, dI x2215, dI x2216, dI x2217, dI x2218]), some (.box [dI 0, dI 0]), some (.box [dI 0, dI 0])]⟩))) (by
  rintro t f K h
  · exact h) (fun s => link_map (impl_joins_partsOf_n2_l x2219 x2220 s x2205 x2206 x2207 x2208 x2209 x2210 x2211 x2212 x2213 x2214 x2215 x2216 x2217 x2218) (Sum.elim (fun (t : Int) => Sum.inl t) (fun (t : Int) => Sum.inr t)) (by
  rintro (t | t)
  · kernel_rfl
  · kernel_rfl)) 0)

def impl_joins_partsOf_n4_l (x2219 : Int) (x2220 : Int) (x2205 : Int) (x2206 : Int) (x2207 : Int) (x2208 : Int) (x2209 : Int) (x2210 : Int) (x2211 : Int) (x2212 : Int) (x2213 : Int) (x2214 : Int) (x2215 : Int) (x2216 : Int) (x2217 : Int) (x2218 : Int) := (link_block (fin2 := (fun (t : Int) => (Exit.normal, ⟨mkE 43 0 [(1, dI x2219), (2, dI x2220), (3, .ptr 0 0), (6, .ptr 1 0), (7, .ptr 2 0), (8, dI t)], [some (.box [dI x2205, dI x2206, dI x2207, dI x2208, dI x2209, dI x2210, dI x2211, dI x2212, dI x2213, dI x2214, dI x2215, dI x2216, dI x2217, dI x2218]), some (.box [dI 0, dI 0]), some (.box [dI 0, dI 0])]⟩))) (id := 0) (impl_joins_partsOf_n3_l x2219 x2220 x2205 x2206 x2207 x2208 x2209 x2210 x2211 x2212 x2213 x2214 x2215 x2216 x2217 x2218) (fun (t : Int) => t) (by
  rintro t K h
  · exact Eq.mp (by kernel_rfl) h))

theorem impl_joins_partsOf_n5_l (x2219 : Int) (x2220 : Int) (x2228 : Int) (x2205 : Int) (x2206 : Int) (x2207 : Int) (x2208 : Int) (x2209 : Int) (x2210 : Int) (x2211 : Int) (x2212 : Int) (x2213 : Int) (x2214 : Int) (x2215 : Int) (x2216 : Int) (x2217 : Int) (x2218 : Int) : Link impl_joins_partsOf_ctx LL (cq [1,1,1] (bodyOf Tryd.f92)) (aq [1,1,1] impl_joins_partsOf_an) ⟨mkE 43 0 [(1, dI x2219), (2, dI x2220), (3, .ptr 0 0), (6, .ptr 1 0), (7, .ptr 2 0), (8, dI x2228)], [some (.box [dI x2205, dI x2206, dI x2207, dI x2208, dI x2209, dI x2210, dI x2211, dI x2212, dI x2213, dI x2214, dI x2215, dI x2216, dI x2217, dI x2218]), some (.box [dI 0, dI 0]), some (.box [dI 0, dI 0])]⟩ (impl_joins_partsOf_n5 x2219 x2220 x2228 x2205 x2206 x2207 x2208 x2209 x2210 x2211 x2212 x2213 x2214 x2215 x2216 x2217 x2218) (fun (t : Int × Int × Int × Int) => (Exit.ret, ⟨mkE 43 0 [(6, .ptr 0 0), (7, .ptr 1 0)], [some (.box [dI t.1, dI t.2.1]), some (.box [dI t.2.2.1, dI t.2.2.2])]⟩)) := by
  refine Link.of fun K h => ?_
  simp only [impl_joins_partsOf_n5, wpO_bind, wpO_cond, wpO_map, wpO_some] at h
  exact Awp.of (by kernel_rfl) h

def impl_joins_partsOf_n6_l (x2219 : Int) (x2220 : Int) (x2205 : Int) (x2206 : Int) (x2207 : Int) (x2208 : Int) (x2209 : Int) (x2210 : Int) (x2211 : Int) (x2212 : Int) (x2213 : Int) (x2214 : Int) (x2215 : Int) (x2216 : Int) (x2217 : Int) (x2218 : Int) := (link_seq (impl_joins_partsOf_n4_l x2219 x2220 x2205 x2206 x2207 x2208 x2209 x2210 x2211 x2212 x2213 x2214 x2215 x2216 x2217 x2218) (fun (t : Int) => (impl_joins_partsOf_n5_l x2219 x2220 t x2205 x2206 x2207 x2208 x2209 x2210 x2211 x2212 x2213 x2214 x2215 x2216 x2217 x2218)))

def impl_joins_partsOf_n7_l (x2205 : Int) (x2206 : Int) (x2207 : Int) (x2208 : Int) (x2209 : Int) (x2210 : Int) (x2211 : Int) (x2212 : Int) (x2213 : Int) (x2214 : Int) (x2215 : Int) (x2216 : Int) (x2217 : Int) (x2218 : Int) (x2219 : Int) (x2220 : Int) := (link_group (c := (cq [0,1] (bodyOf Tryd.f92))) (a := (aq [0,1] impl_joins_partsOf_an)) [(cq [0] (bodyOf Tryd.f92))] [(aq [0] impl_joins_partsOf_an)] rfl (link_seq (impl_joins_partsOf_n1_l x2205 x2206 x2207 x2208 x2209 x2210 x2211 x2212 x2213 x2214 x2215 x2216 x2217 x2218 x2219 x2220) (fun (t : Unit) => (impl_joins_partsOf_n6_l x2219 x2220 x2205 x2206 x2207 x2208 x2209 x2210 x2211 x2212 x2213 x2214 x2215 x2216 x2217 x2218))))

theorem impl_joins_partsOf_e (x2205 : Int) (x2206 : Int) (x2207 : Int) (x2208 : Int) (x2209 : Int) (x2210 : Int) (x2211 : Int) (x2212 : Int) (x2213 : Int) (x2214 : Int) (x2215 : Int) (x2216 : Int) (x2217 : Int) (x2218 : Int) (x2219 : Int) (x2220 : Int) {r : AV} {H' : Heap} (h : (Ans.mk _ (impl_joins_partsOf x2205 x2206 x2207 x2208 x2209 x2210 x2211 x2212 x2213 x2214 x2215 x2216 x2217 x2218 x2219 x2220) (fun (t : Int × Int × Int × Int) => (.tup [.agg [dI t.1, dI t.2.1], .agg [dI t.2.2.1, dI t.2.2.2]], [some (.box [dI t.1, dI t.2.1]), some (.box [dI t.2.2.1, dI t.2.2.2])])) [] none).run = some (r, H')) : Awp impl_joins_partsOf_ctx LL (bodyOf Tryd.f92) impl_joins_partsOf_an ⟨mkE 43 0 [(0, .agg [dI x2205, dI x2206, dI x2207, dI x2208, dI x2209, dI x2210, dI x2211, dI x2212, dI x2213, dI x2214, dI x2215, dI x2216, dI x2217, dI x2218]), (1, dI x2219), (2, dI x2220)], []⟩ (Ret (tlook tys) Tryd.f92.results.toList r H') :=
  ret_of' (Link.cast (by kernel_rfl) (by kernel_rfl) (impl_joins_partsOf_n7_l x2205 x2206 x2207 x2208 x2209 x2210 x2211 x2212 x2213 x2214 x2215 x2216 x2217 x2218 x2219 x2220)) (by unfold impl_joins_partsOf; kernel_rfl) (by
  intro t
  exact ret_mk [.agg [dI t.1, dI t.2.1], .agg [dI t.2.2.1, dI t.2.2.2]] (by kernel_rfl) (by kernel_rfl) (by kernel_rfl) (by kernel_rfl)) h

def F_impl_joins_partsOf : Fun := fun avs H =>
  match avs, H with
  | [.agg [.dat (.int .i64) x2205, .dat (.int .i64) x2206, .dat (.int .i64) x2207, .dat (.int .i64) x2208, .dat (.int .i64) x2209, .dat (.int .i64) x2210, .dat (.int .i64) x2211, .dat (.int .i64) x2212, .dat (.int .i64) x2213, .dat (.int .i64) x2214, .dat (.int .i64) x2215, .dat (.int .i64) x2216, .dat (.int .i64) x2217, .dat (.int .i64) x2218], .dat (.int .i64) x2219, .dat (.int .i64) x2220], [] => ⟨_, impl_joins_partsOf x2205 x2206 x2207 x2208 x2209 x2210 x2211 x2212 x2213 x2214 x2215 x2216 x2217 x2218 x2219 x2220, fun (t : Int × Int × Int × Int) => (.tup [.agg [dI t.1, dI t.2.1], .agg [dI t.2.2.1, dI t.2.2.2]], [some (.box [dI t.1, dI t.2.1]), some (.box [dI t.2.2.1, dI t.2.2.2])]), [], none⟩
  | _, _ => Ans.no

theorem impl_joins_partsOf_sound : Sound Tryd.prog 92 F_impl_joins_partsOf := by
  refine fn_sound' (C := impl_joins_partsOf_ctx) (c := bodyOf Tryd.f92) (cok_of tys_ok (allc impl_joins_below_sound alln) (allc Tryd.call120 alln) (by kernel_rfl)) Tryd.func92 (by kernel_rfl) LL impl_joins_partsOf_an ?_
  intro avs H r H' h
  unfold F_impl_joins_partsOf at h
  split at h
  · refine Awp.cast ?_ ?_ ?_ (impl_joins_partsOf_e _ _ _ _ _ _ _ _ _ _ _ _ _ _ _ _ h) <;> kernel_rfl
  · simp [Ans.no, Ans.run] at h


/-! (loop.example/headtrees/impl.flatCounts).tellTree, (loop.example/headtrees/impl.flatCounts).tellRow -/

def impl_flatCounts_tellTree_an : Ann := (.seq (.leaf [1, 2, 4, 5, 8]) (.seq (.draw [1, 7] [0, 2, 3, 4, 5, 6, 1, 7, 8, 9, 10, 11, 12, 13, 14] [] [1, 2, 4, 5, 10, 11]) (.seq (.leaf [1, 2, 4, 5, 10, 11, 12]) (.seq (.leaf [1, 2, 5, 10, 11, 12]) (.seq (.leaf [1, 5, 11, 12]) (.leaf []))))))

def impl_flatCounts_tellRow_an : Ann := (.seq (.leaf [1, 2, 4, 5, 8]) (.seq (.seq (.leaf [1, 2, 4, 5, 8, 14]) (.cond (.leaf []) (.leaf [1, 2, 4, 5, 8]))) (.seq (.draw [1, 6] [0, 2, 3, 4, 5, 1, 6, 7, 8, 9, 10, 11, 12, 13] [] [1, 2, 4, 5, 10, 11]) (.seq (.leaf [1, 2, 4, 5, 10, 11]) (.leaf [])))))

def F_impl_flatCounts_tellTree_fuel (n : Nat) : Fun := fun avs H =>
  match avs, H with
  | [.agg [.dat (.int .i64) x2184, .dat (.int .i64) x2185, .dat (.int .i64) x2186, .dat (.int .i64) x2187, .dat (.int .i64) x2188, .dat (.int .i64) x2189, .dat (.int .i64) x2190, .dat (.int .i64) x2191, .dat (.int .i64) x2192, .dat (.int .i64) x2193, .dat (.int .i64) x2194, .dat (.int .i64) x2195, .dat (.int .i64) x2196, .dat (.int .i64) x2197], .slc 0, .dat (.int .i64) x2198, .agg [.dat (.int .i64) x2199, .dat (.int .i64) x2200], .dat (.int .i64) x2201], [some (.seq (.int .i64) x2202)] => ⟨_, impl_flatCounts_tellTree_fuel n x2184 x2185 x2186 x2187 x2188 x2189 x2190 x2191 x2192 x2193 x2194 x2195 x2196 x2197 x2198 x2199 x2200 x2201 x2202, fun (t : (List Int)) => (.tup [], [some (sI t)]), [], none⟩
  | _, _ => Ans.no

def F_impl_flatCounts_tellRow_fuel (n : Nat) : Fun := fun avs H =>
  match avs, H with
  | [.agg [.dat (.int .i64) x2395, .dat (.int .i64) x2396, .dat (.int .i64) x2397, .dat (.int .i64) x2398, .dat (.int .i64) x2399, .dat (.int .i64) x2400, .dat (.int .i64) x2401, .dat (.int .i64) x2402, .dat (.int .i64) x2403, .dat (.int .i64) x2404, .dat (.int .i64) x2405, .dat (.int .i64) x2406, .dat (.int .i64) x2407, .dat (.int .i64) x2408], .slc 0, .dat (.int .i64) x2409, .agg [.dat (.int .i64) x2410, .dat (.int .i64) x2411], .dat (.int .i64) x2412], [some (.seq (.int .i64) x2413)] => ⟨_, impl_flatCounts_tellRow_fuel n x2395 x2396 x2397 x2398 x2399 x2400 x2401 x2402 x2403 x2404 x2405 x2406 x2407 x2408 x2409 x2410 x2411 x2412 x2413, fun (t : (List Int)) => (.tup [], [some (sI t)]), [], none⟩
  | _, _ => Ans.no

noncomputable def impl_flatCounts_tellTree_ctx (n : Nat) : Ctx := ⟨tlook tys, olook [(89, F_impl_flatCounts_aroundRoots), (92, F_impl_joins_partsOf), (93, F_impl_flatCounts_tellRow_fuel n)], ioF, 1, false, []⟩

noncomputable def impl_flatCounts_tellRow_ctx (n : Nat) : Ctx := ⟨tlook tys, olook [(91, F_impl_flatCounts_inRows), (92, F_impl_joins_partsOf), (58, F_impl_flatCounts_tellTree_fuel n), (93, F_impl_flatCounts_tellRow_fuel n)], ioF, 1, false, []⟩

theorem impl_flatCounts_tellTree_n1_l (n : Nat) (x2184 : Int) (x2185 : Int) (x2186 : Int) (x2187 : Int) (x2188 : Int) (x2189 : Int) (x2190 : Int) (x2191 : Int) (x2192 : Int) (x2193 : Int) (x2194 : Int) (x2195 : Int) (x2196 : Int) (x2197 : Int) (x2198 : Int) (x2199 : Int) (x2200 : Int) (x2201 : Int) (x2202 : List Int) : Link (impl_flatCounts_tellTree_ctx n) LL (bodyOf Tryd.f58) impl_flatCounts_tellTree_an ⟨mkE 46 0 [(0, .agg [dI x2184, dI x2185, dI x2186, dI x2187, dI x2188, dI x2189, dI x2190, dI x2191, dI x2192, dI x2193, dI x2194, dI x2195, dI x2196, dI x2197]), (1, .slc 0), (2, dI x2198), (3, .agg [dI x2199, dI x2200]), (4, dI x2201)], [some (sI x2202)]⟩ (impl_flatCounts_tellTree_n1 (impl_flatCounts_tellTree_fuel n) (impl_flatCounts_tellRow_fuel n) x2184 x2185 x2186 x2187 x2188 x2189 x2190 x2191 x2192 x2193 x2194 x2195 x2196 x2197 x2198 x2199 x2200 x2201 x2202) (fun (t : (List Int)) => (Exit.normal, ⟨mkE 46 0 [], [some (sI t)]⟩)) := by
  refine Link.of fun K h => ?_
  simp only [impl_flatCounts_tellTree_n1, wpO_bind, wpO_cond, wpO_map, wpO_some] at h
  exact Awp.of (by kernel_rfl) h

theorem impl_flatCounts_tellTree_e (n : Nat) (x2184 : Int) (x2185 : Int) (x2186 : Int) (x2187 : Int) (x2188 : Int) (x2189 : Int) (x2190 : Int) (x2191 : Int) (x2192 : Int) (x2193 : Int) (x2194 : Int) (x2195 : Int) (x2196 : Int) (x2197 : Int) (x2198 : Int) (x2199 : Int) (x2200 : Int) (x2201 : Int) (x2202 : List Int) {r : AV} {H' : Heap} (h : (Ans.mk _ (impl_flatCounts_tellTree_fuel (n + 1) x2184 x2185 x2186 x2187 x2188 x2189 x2190 x2191 x2192 x2193 x2194 x2195 x2196 x2197 x2198 x2199 x2200 x2201 x2202) (fun (t : (List Int)) => (.tup [], [some (sI t)])) [] none).run = some (r, H')) : Awp (impl_flatCounts_tellTree_ctx n) LL (bodyOf Tryd.f58) impl_flatCounts_tellTree_an ⟨mkE 46 0 [(0, .agg [dI x2184, dI x2185, dI x2186, dI x2187, dI x2188, dI x2189, dI x2190, dI x2191, dI x2192, dI x2193, dI x2194, dI x2195, dI x2196, dI x2197]), (1, .slc 0), (2, dI x2198), (3, .agg [dI x2199, dI x2200]), (4, dI x2201)], [some (sI x2202)]⟩ (Ret (tlook tys) Tryd.f58.results.toList r H') :=
  ret_of (impl_flatCounts_tellTree_n1_l n x2184 x2185 x2186 x2187 x2188 x2189 x2190 x2191 x2192 x2193 x2194 x2195 x2196 x2197 x2198 x2199 x2200 x2201 x2202) (fun (t : (List Int)) => t) (by (show _ = _); kernel_rfl) (by
  rintro t
  · exact ret_mk [] (by kernel_rfl) (by kernel_rfl) (by kernel_rfl) (by kernel_rfl)) h

theorem impl_flatCounts_tellRow_n1_l (n : Nat) (x2395 : Int) (x2396 : Int) (x2397 : Int) (x2398 : Int) (x2399 : Int) (x2400 : Int) (x2401 : Int) (x2402 : Int) (x2403 : Int) (x2404 : Int) (x2405 : Int) (x2406 : Int) (x2407 : Int) (x2408 : Int) (x2409 : Int) (x2410 : Int) (x2411 : Int) (x2412 : Int) (x2413 : List Int) : Link (impl_flatCounts_tellRow_ctx n) LL (bodyOf Tryd.f93) impl_flatCounts_tellRow_an ⟨mkE 40 0 [(0, .agg [dI x2395, dI x2396, dI x2397, dI x2398, dI x2399, dI x2400, dI x2401, dI x2402, dI x2403, dI x2404, dI x2405, dI x2406, dI x2407, dI x2408]), (1, .slc 0), (2, dI x2409), (3, .agg [dI x2410, dI x2411]), (4, dI x2412)], [some (sI x2413)]⟩ (impl_flatCounts_tellRow_n1 (impl_flatCounts_tellTree_fuel n) (impl_flatCounts_tellRow_fuel n) x2395 x2396 x2397 x2398 x2399 x2400 x2401 x2402 x2403 x2404 x2405 x2406 x2407 x2408 x2409 x2410 x2411 x2412 x2413) (Sum.elim (fun (t : (List Int)) => (Exit.normal, ⟨mkE 40 0 [], [some (sI t)]⟩)) (fun (t : (List Int)) => (Exit.ret, ⟨mkE 40 0 [], [some (sI t)]⟩))) := by
  refine Link.of fun K h => ?_
  simp only [impl_flatCounts_tellRow_n1, wpO_bind, wpO_cond, wpO_map, wpO_some] at h
  exact Awp.of (by kernel_rfl) h

theorem impl_flatCounts_tellRow_e (n : Nat) (x2395 : Int) (x2396 : Int) (x2397 : Int) (x2398 : Int) (x2399 : Int) (x2400 : Int) (x2401 : Int) (x2402 : Int) (x2403 : Int) (x2404 : Int) (x2405 : Int) (x2406 : Int) (x2407 : Int) (x2408 : Int) (x2409 : Int) (x2410 : Int) (x2411 : Int) (x2412 : Int) (x2413 : List Int) {r : AV} {H' : Heap} (h : (Ans.mk _ (impl_flatCounts_tellRow_fuel (n + 1) x2395 x2396 x2397 x2398 x2399 x2400 x2401 x2402 x2403 x2404 x2405 x2406 x2407 x2408 x2409 x2410 x2411 x2412 x2413) (fun (t : (List Int)) => (.tup [], [some (sI t)])) [] none).run = some (r, H')) : Awp (impl_flatCounts_tellRow_ctx n) LL (bodyOf Tryd.f93) impl_flatCounts_tellRow_an ⟨mkE 40 0 [(0, .agg [dI x2395, dI x2396, dI x2397, dI x2398, dI x2399, dI x2400, dI x2401, dI x2402, dI x2403, dI x2404, dI x2405, dI x2406, dI x2407, dI x2408]), (1, .slc 0), (2, dI x2409), (3, .agg [dI x2410, dI x2411]), (4, dI x2412)], [some (sI x2413)]⟩ (Ret (tlook tys) Tryd.f93.results.toList r H') :=
  ret_of (impl_flatCounts_tellRow_n1_l n x2395 x2396 x2397 x2398 x2399 x2400 x2401 x2402 x2403 x2404 x2405 x2406 x2407 x2408 x2409 x2410 x2411 x2412 x2413) (Sum.elim (fun (t : (List Int)) => t) (fun (t : (List Int)) => t)) (by (show _ = _); kernel_rfl) (by
  rintro (t | t)
  · exact ret_mk [] (by kernel_rfl) (by kernel_rfl) (by kernel_rfl) (by kernel_rfl)
  · exact ret_mk [] (by kernel_rfl) (by kernel_rfl) (by kernel_rfl) (by kernel_rfl)) h

theorem impl_flatCounts_tellTree_step (n : Nat) (h58 : Sound Tryd.prog 58 (F_impl_flatCounts_tellTree_fuel n)) (h93 : Sound Tryd.prog 93 (F_impl_flatCounts_tellRow_fuel n)) : Sound Tryd.prog 58 (F_impl_flatCounts_tellTree_fuel (n + 1)) := by
  refine fn_sound' (C := impl_flatCounts_tellTree_ctx n) (c := bodyOf Tryd.f58) (cok_of tys_ok (allc impl_flatCounts_aroundRoots_sound (allc impl_joins_partsOf_sound (allc h93 alln))) (allc Tryd.call89 (allc Tryd.call92 (allc Tryd.call93 alln))) (by kernel_rfl)) Tryd.func58 (by kernel_rfl) LL impl_flatCounts_tellTree_an ?_
  intro avs H r H' h
  unfold F_impl_flatCounts_tellTree_fuel at h
  split at h
  · refine Awp.cast ?_ ?_ ?_ (impl_flatCounts_tellTree_e n _ _ _ _ _ _ _ _ _ _ _ _ _ _ _ _ _ _ _ h) <;> kernel_rfl
  · simp [Ans.no, Ans.run] at h

theorem impl_flatCounts_tellTree_null : Sound Tryd.prog 58 (F_impl_flatCounts_tellTree_fuel 0) := by
  intro avs H r H' h
  unfold F_impl_flatCounts_tellTree_fuel at h
  split at h
  · simp [impl_flatCounts_tellTree_fuel, impl_flatCounts_tellTree_knot, Ans.run] at h
  · simp [Ans.no, Ans.run] at h

theorem impl_flatCounts_tellRow_step (n : Nat) (h58 : Sound Tryd.prog 58 (F_impl_flatCounts_tellTree_fuel n)) (h93 : Sound Tryd.prog 93 (F_impl_flatCounts_tellRow_fuel n)) : Sound Tryd.prog 93 (F_impl_flatCounts_tellRow_fuel (n + 1)) := by
  refine fn_sound' (C := impl_flatCounts_tellRow_ctx n) (c := bodyOf Tryd.f93) (cok_of tys_ok (allc impl_flatCounts_inRows_sound (allc impl_joins_partsOf_sound (allc h58 (allc h93 alln)))) (allc Tryd.call91 (allc Tryd.call92 (allc Tryd.call58 (allc Tryd.call93 alln)))) (by kernel_rfl)) Tryd.func93 (by kernel_rfl) LL impl_flatCounts_tellRow_an ?_
  intro avs H r H' h
  unfold F_impl_flatCounts_tellRow_fuel at h
  split at h
  · refine Awp.cast ?_ ?_ ?_ (impl_flatCounts_tellRow_e n _ _ _ _ _ _ _ _ _ _ _ _ _ _ _ _ _ _ _ h) <;> kernel_rfl
  · simp [Ans.no, Ans.run] at h

theorem impl_flatCounts_tellRow_null : Sound Tryd.prog 93 (F_impl_flatCounts_tellRow_fuel 0) := by
  intro avs H r H' h
  unfold F_impl_flatCounts_tellRow_fuel at h
  split at h
  · simp [impl_flatCounts_tellRow_fuel, impl_flatCounts_tellTree_knot, Ans.run] at h
  · simp [Ans.no, Ans.run] at h

theorem impl_flatCounts_tellTree_knot_all : ∀ n, Sound Tryd.prog 58 (F_impl_flatCounts_tellTree_fuel n) ∧ Sound Tryd.prog 93 (F_impl_flatCounts_tellRow_fuel n)
  | 0 => ⟨impl_flatCounts_tellTree_null, impl_flatCounts_tellRow_null⟩
  | n + 1 => by
    obtain ⟨h58, h93⟩ := impl_flatCounts_tellTree_knot_all n
    exact ⟨impl_flatCounts_tellTree_step n h58 h93, impl_flatCounts_tellRow_step n h58 h93⟩

def F_impl_flatCounts_tellTree : Fun := fun avs H =>
  match avs, H with
  | [.agg [.dat (.int .i64) x2184, .dat (.int .i64) x2185, .dat (.int .i64) x2186, .dat (.int .i64) x2187, .dat (.int .i64) x2188, .dat (.int .i64) x2189, .dat (.int .i64) x2190, .dat (.int .i64) x2191, .dat (.int .i64) x2192, .dat (.int .i64) x2193, .dat (.int .i64) x2194, .dat (.int .i64) x2195, .dat (.int .i64) x2196, .dat (.int .i64) x2197], .slc 0, .dat (.int .i64) x2198, .agg [.dat (.int .i64) x2199, .dat (.int .i64) x2200], .dat (.int .i64) x2201], [some (.seq (.int .i64) x2202)] => ⟨_, impl_flatCounts_tellTree x2184 x2185 x2186 x2187 x2188 x2189 x2190 x2191 x2192 x2193 x2194 x2195 x2196 x2197 x2198 x2199 x2200 x2201 x2202, fun (t : (List Int)) => (.tup [], [some (sI t)]), [], none⟩
  | _, _ => Ans.no

theorem impl_flatCounts_tellTree_sound : Sound Tryd.prog 58 F_impl_flatCounts_tellTree := by
  have e : F_impl_flatCounts_tellTree = F_impl_flatCounts_tellTree_fuel RR := by
    funext avs H
    unfold F_impl_flatCounts_tellTree F_impl_flatCounts_tellTree_fuel
    split <;> first | rfl | (simp only [impl_flatCounts_tellTree])
  rw [e]
  exact (impl_flatCounts_tellTree_knot_all RR).1

def F_impl_flatCounts_tellRow : Fun := fun avs H =>
  match avs, H with
  | [.agg [.dat (.int .i64) x2395, .dat (.int .i64) x2396, .dat (.int .i64) x2397, .dat (.int .i64) x2398, .dat (.int .i64) x2399, .dat (.int .i64) x2400, .dat (.int .i64) x2401, .dat (.int .i64) x2402, .dat (.int .i64) x2403, .dat (.int .i64) x2404, .dat (.int .i64) x2405, .dat (.int .i64) x2406, .dat (.int .i64) x2407, .dat (.int .i64) x2408], .slc 0, .dat (.int .i64) x2409, .agg [.dat (.int .i64) x2410, .dat (.int .i64) x2411], .dat (.int .i64) x2412], [some (.seq (.int .i64) x2413)] => ⟨_, impl_flatCounts_tellRow x2395 x2396 x2397 x2398 x2399 x2400 x2401 x2402 x2403 x2404 x2405 x2406 x2407 x2408 x2409 x2410 x2411 x2412 x2413, fun (t : (List Int)) => (.tup [], [some (sI t)]), [], none⟩
  | _, _ => Ans.no

theorem impl_flatCounts_tellRow_sound : Sound Tryd.prog 93 F_impl_flatCounts_tellRow := by
  have e : F_impl_flatCounts_tellRow = F_impl_flatCounts_tellRow_fuel RR := by
    funext avs H
    unfold F_impl_flatCounts_tellRow F_impl_flatCounts_tellRow_fuel
    split <;> first | rfl | (simp only [impl_flatCounts_tellRow])
  rw [e]
  exact (impl_flatCounts_tellTree_knot_all RR).2


/-! loop.example/headtrees/impl.FlatAt -/

def impl_FlatAt_an : Ann := (.seq (.leaf [0, 1]) (.seq (.seq (.leaf [0, 1, 14]) (.cond (.seq (.leaf [4, 5]) (.leaf [4, 5])) (.leaf [0, 1]))) (.seq (.leaf [0, 1, 6]) (.seq (.leaf [6]) (.seq (.leaf [4, 5]) (.leaf [4, 5]))))))

noncomputable def impl_FlatAt_ctx : Ctx := ⟨tlook tys, olook [(27, F_impl_CountFlat), (57, F_impl_countFlatParts), (58, F_impl_flatCounts_tellTree)], ioF, 0, false, []⟩

theorem impl_FlatAt_n1_l (x1859 : Int) (x1860 : Int) : Link impl_FlatAt_ctx LL (bodyOf Tryd.f19) impl_FlatAt_an ⟨mkE 24 0 [(0, dI x1859), (1, dI x1860)], []⟩ (impl_FlatAt_n1 x1859 x1860) (fun (t : Bool × (List Int)) => (Exit.ret, ⟨mkE 24 0 [(4, .slc 0), (5, dB t.1)], [some (sI t.2)]⟩)) := by
  refine Link.of fun K h => ?_
  simp only [impl_FlatAt_n1, wpO_bind, wpO_cond, wpO_map, wpO_some] at h
  exact Awp.of (by kernel_rfl) h

theorem impl_FlatAt_e (x1859 : Int) (x1860 : Int) {r : AV} {H' : Heap} (h : (Ans.mk _ (impl_FlatAt x1859 x1860) (fun (t : Bool × (List Int)) => (.tup [.slc 0, dB t.1], [some (sI t.2)])) [] none).run = some (r, H')) : Awp impl_FlatAt_ctx LL (bodyOf Tryd.f19) impl_FlatAt_an ⟨mkE 24 0 [(0, dI x1859), (1, dI x1860)], []⟩ (Ret (tlook tys) Tryd.f19.results.toList r H') :=
  ret_of' (impl_FlatAt_n1_l x1859 x1860) (by unfold impl_FlatAt; kernel_rfl) (by
  intro t
  exact ret_mk [.slc 0, dB t.1] (by kernel_rfl) (by kernel_rfl) (by kernel_rfl) (by kernel_rfl)) h

def F_impl_FlatAt : Fun := fun avs H =>
  match avs, H with
  | [.dat (.int .i64) x1859, .dat (.int .i64) x1860], [] => ⟨_, impl_FlatAt x1859 x1860, fun (t : Bool × (List Int)) => (.tup [.slc 0, dB t.1], [some (sI t.2)]), [], none⟩
  | _, _ => Ans.no

theorem impl_FlatAt_sound : Sound Tryd.prog 19 F_impl_FlatAt := by
  refine fn_sound' (C := impl_FlatAt_ctx) (c := bodyOf Tryd.f19) (cok_of tys_ok (allc impl_CountFlat_sound (allc impl_countFlatParts_sound (allc impl_flatCounts_tellTree_sound alln))) (allc Tryd.call27 (allc Tryd.call57 (allc Tryd.call58 alln))) (by kernel_rfl)) Tryd.func19 (by kernel_rfl) LL impl_FlatAt_an ?_
  intro avs H r H' h
  unfold F_impl_FlatAt at h
  split at h
  · refine Awp.cast ?_ ?_ ?_ (impl_FlatAt_e _ _ h) <;> kernel_rfl
  · simp [Ans.no, Ans.run] at h


/-! loop.example/headtrees/spec.l4Tree, loop.example/headtrees/spec.l4Row -/

def spec_l4Tree_an : Ann := (.seq (.leaf [0, 1, 2, 3, 4, 10]) (.block (.loop (.seq (.seq (.leaf [0, 1, 2, 3, 4, 10, 16]) (.cond (.leaf [0, 1, 2, 3, 4, 10]) (.leaf []))) (.seq (.block (.seq (.leaf [0, 1, 2, 3, 4, 10, 11]) (.seq (.leaf [0, 1, 2, 3, 4, 10, 11, 12]) (.seq (.seq (.leaf [0, 1, 2, 3, 4, 10, 11, 12, 31]) (.cond (.seq (.leaf [0, 1, 2, 4, 10, 11]) (.seq (.leaf [0, 2, 4, 10, 11]) (.seq (.leaf []) (.leaf [])))) (.leaf [0, 1, 2, 3, 4, 10, 12]))) (.leaf [0, 1, 2, 3, 4, 10]))))) (.leaf [0, 1, 2, 3, 4, 10]))))))

def spec_l4Row_an : Ann := (.seq (.leaf [0, 1, 2, 3, 4, 10]) (.block (.loop (.seq (.seq (.leaf [0, 1, 2, 3, 4, 10, 16]) (.cond (.leaf [0, 1, 2, 3, 4, 10]) (.leaf []))) (.seq (.block (.seq (.leaf [0, 1, 2, 3, 4, 10, 11]) (.seq (.leaf [0, 1, 2, 3, 4, 10, 11, 12]) (.seq (.seq (.leaf [0, 1, 2, 3, 4, 10, 11, 12, 32]) (.cond (.seq (.leaf [0, 2, 3, 4, 10, 11]) (.seq (.leaf []) (.leaf []))) (.leaf [0, 1, 2, 3, 4, 10, 12]))) (.leaf [0, 1, 2, 3, 4, 10]))))) (.leaf [0, 1, 2, 3, 4, 10]))))))

def F_spec_l4Tree_fuel (n : Nat) : Fun := fun avs H =>
  match avs, H with
  | [.slc 0, .dat (.int .i64) x2588, .dat (.int .i64) x2589, .dat (.int .i64) x2590, .dat (.int .i64) x2591], [some (.seq (.int .i64) x2592)] => ⟨_, spec_l4Tree_fuel n x2588 x2589 x2590 x2591 x2592, fun (t : (List Int)) => (.tup [], [some (sI t)]), [], none⟩
  | _, _ => Ans.no

def F_spec_l4Row_fuel (n : Nat) : Fun := fun avs H =>
  match avs, H with
  | [.slc 0, .dat (.int .i64) x2778, .dat (.int .i64) x2779, .dat (.int .i64) x2780, .dat (.int .i64) x2781], [some (.seq (.int .i64) x2782)] => ⟨_, spec_l4Row_fuel n x2778 x2779 x2780 x2781 x2782, fun (t : (List Int)) => (.tup [], [some (sI t)]), [], none⟩
  | _, _ => Ans.no

noncomputable def spec_l4Tree_ctx (n : Nat) : Ctx := ⟨tlook tys, olook [(94, F_spec_l4Rows), (95, F_spec_l4Row_fuel n)], ioF, 1, false, []⟩

noncomputable def spec_l4Row_ctx (n : Nat) : Ctx := ⟨tlook tys, olook [(94, F_spec_l4Rows), (59, F_spec_l4Flat), (60, F_spec_l4Tree_fuel n), (95, F_spec_l4Row_fuel n)], ioF, 1, false, []⟩

theorem spec_l4Tree_n1_l (n : Nat) (x2588 : Int) (x2589 : Int) (x2590 : Int) (x2591 : Int) (x2592 : List Int) : Link (spec_l4Tree_ctx n) LL (cq [0] (bodyOf Tryd.f60)) (aq [0] spec_l4Tree_an) ⟨mkE 58 0 [(0, .slc 0), (1, dI x2588), (2, dI x2589), (3, dI x2590), (4, dI x2591)], [some (sI x2592)]⟩ (spec_l4Tree_n1 (spec_l4Tree_fuel n) (spec_l4Row_fuel n)) (fun (t : Unit) => (Exit.normal, ⟨mkE 58 0 [(0, .slc 0), (1, dI x2588), (2, dI x2589), (3, dI x2590), (4, dI x2591), (10, dI x2588)], [some (sI x2592)]⟩)) := by
  refine Link.of fun K h => ?_
  simp only [spec_l4Tree_n1, wpO_bind, wpO_cond, wpO_map, wpO_some] at h
  exact Awp.of (by kernel_rfl) h

theorem spec_l4Tree_n2_l (n : Nat) (x2588 : Int) (x2589 : Int) (x2590 : Int) (x2990 : Int) (x2991 : Int) (x2592 : List Int) : Link (spec_l4Tree_ctx n) LL (cq [0,0,1] (bodyOf Tryd.f60)) (aq [0,0,1] spec_l4Tree_an) ⟨mkE 58 0 [(0, .slc 0), (1, dI x2588), (2, dI x2589), (3, dI x2590), (4, dI x2990), (10, dI x2991)], [some (sI x2592)]⟩ (spec_l4Tree_n2 (spec_l4Tree_fuel n) (spec_l4Row_fuel n) x2588 x2589 x2590 x2990 x2991 x2592) (Sum.elim (fun (t : Int × Int) => (Exit.normal, ⟨mkE 58 0 [(0, .slc 0), (1, dI x2588), (2, dI x2589), (3, dI x2590), (4, dI t.1), (10, dI t.2)], [some (sI x2592)]⟩)) (Sum.elim (fun (t : (List Int)) => (Exit.ret, ⟨mkE 58 0 [], [some (sI t)]⟩)) (fun (t : Unit) => ((Exit.exit 0), ⟨mkE 58 0 [], [some (sI x2592)]⟩)))) := by
  refine Link.of fun K h => ?_
  simp only [spec_l4Tree_n2, wpO_bind, wpO_cond, wpO_map, wpO_some] at h
  exact Awp.of (by kernel_rfl) h

def spec_l4Tree_n3_l (n : Nat) (x2588 : Int) (x2589 : Int) (x2590 : Int) (x2591 : Int) (x2592 : List Int) := (link_loop (mk := fun (s : Int × Int) => ⟨mkE 58 0 [(0, .slc 0), (1, dI x2588), (2, dI x2589), (3, dI x2590), (4, dI s.1), (10, dI s.2)], [some (sI x2592)]⟩) (fin := (Sum.elim (fun (t : (List Int)) => (Exit.ret, ⟨mkE 58 0 [], [some (sI t)]⟩)) (fun (t : Unit) => ((Exit.exit 0), ⟨mkE 58 0 [], [some (sI x2592)]⟩)))) (by
  rintro (t | t) f K h
  · exact h
  · exact h) (fun s => link_map (spec_l4Tree_n2_l n x2588 x2589 x2590 s.1 s.2 x2592) (Sum.elim (fun (t : Int × Int) => Sum.inl (t.1, t.2)) (Sum.elim (fun (t : (List Int)) => Sum.inr (Sum.inl t)) (fun (t : Unit) => Sum.inr (Sum.inr t)))) (by
  rintro (t | t | t)
  · kernel_rfl
  · kernel_rfl
  · kernel_rfl)) (x2591, x2588))

def spec_l4Tree_n4_l (n : Nat) (x2588 : Int) (x2589 : Int) (x2590 : Int) (x2591 : Int) (x2592 : List Int) := (link_block (fin2 := (Sum.elim (fun (t : Unit) => (Exit.normal, ⟨mkE 58 0 [], [some (sI x2592)]⟩)) (fun (t : (List Int)) => (Exit.ret, ⟨mkE 58 0 [], [some (sI t)]⟩)))) (id := 0) (spec_l4Tree_n3_l n x2588 x2589 x2590 x2591 x2592) (Sum.elim (fun (t : (List Int)) => (Sum.inr t)) (fun (t : Unit) => (Sum.inl ()))) (by
  rintro (t | t) K h
  · exact Eq.mp (by kernel_rfl) h
  · exact Eq.mp (by kernel_rfl) h))

def spec_l4Tree_n5_l (n : Nat) (x2588 : Int) (x2589 : Int) (x2590 : Int) (x2591 : Int) (x2592 : List Int) := (link_seq (spec_l4Tree_n1_l n x2588 x2589 x2590 x2591 x2592) (fun (t : Unit) => (spec_l4Tree_n4_l n x2588 x2589 x2590 x2591 x2592)))

theorem spec_l4Tree_e (n : Nat) (x2588 : Int) (x2589 : Int) (x2590 : Int) (x2591 : Int) (x2592 : List Int) {r : AV} {H' : Heap} (h : (Ans.mk _ (spec_l4Tree_fuel (n + 1) x2588 x2589 x2590 x2591 x2592) (fun (t : (List Int)) => (.tup [], [some (sI t)])) [] none).run = some (r, H')) : Awp (spec_l4Tree_ctx n) LL (bodyOf Tryd.f60) spec_l4Tree_an ⟨mkE 58 0 [(0, .slc 0), (1, dI x2588), (2, dI x2589), (3, dI x2590), (4, dI x2591)], [some (sI x2592)]⟩ (Ret (tlook tys) Tryd.f60.results.toList r H') :=
  ret_of (Link.cast (by kernel_rfl) (by kernel_rfl) (spec_l4Tree_n5_l n x2588 x2589 x2590 x2591 x2592)) (Sum.elim (fun (t : Unit) => x2592) (fun (t : (List Int)) => t)) (by (show _ = _); kernel_rfl) (by
  rintro (t | t)
  · exact ret_mk [] (by kernel_rfl) (by kernel_rfl) (by kernel_rfl) (by kernel_rfl)
  · exact ret_mk [] (by kernel_rfl) (by kernel_rfl) (by kernel_rfl) (by kernel_rfl)) h

theorem spec_l4Row_n1_l (n : Nat) (x2778 : Int) (x2779 : Int) (x2780 : Int) (x2781 : Int) (x2782 : List Int) : Link (spec_l4Row_ctx n) LL (cq [0] (bodyOf Tryd.f95)) (aq [0] spec_l4Row_an) ⟨mkE 53 0 [(0, .slc 0), (1, dI x2778), (2, dI x2779), (3, dI x2780), (4, dI x2781)], [some (sI x2782)]⟩ (spec_l4Row_n1 (spec_l4Tree_fuel n) (spec_l4Row_fuel n)) (fun (t : Unit) => (Exit.normal, ⟨mkE 53 0 [(0, .slc 0), (1, dI x2778), (2, dI x2779), (3, dI x2780), (4, dI x2781), (10, dI x2778)], [some (sI x2782)]⟩)) := by
  refine Link.of fun K h => ?_
  simp only [spec_l4Row_n1, wpO_bind, wpO_cond, wpO_map, wpO_some] at h
  exact Awp.of (by kernel_rfl) h

theorem spec_l4Row_n2_l (n : Nat) (x2778 : Int) (x2779 : Int) (x2780 : Int) (x2934 : Int) (x2935 : Int) (x2782 : List Int) : Link (spec_l4Row_ctx n) LL (cq [0,0,1] (bodyOf Tryd.f95)) (aq [0,0,1] spec_l4Row_an) ⟨mkE 53 0 [(0, .slc 0), (1, dI x2778), (2, dI x2779), (3, dI x2780), (4, dI x2934), (10, dI x2935)], [some (sI x2782)]⟩ (spec_l4Row_n2 (spec_l4Tree_fuel n) (spec_l4Row_fuel n) x2778 x2779 x2780 x2934 x2935 x2782) (Sum.elim (fun (t : Int × Int) => (Exit.normal, ⟨mkE 53 0 [(0, .slc 0), (1, dI x2778), (2, dI x2779), (3, dI x2780), (4, dI t.1), (10, dI t.2)], [some (sI x2782)]⟩)) (Sum.elim (fun (t : (List Int)) => (Exit.ret, ⟨mkE 53 0 [], [some (sI t)]⟩)) (fun (t : Unit) => ((Exit.exit 0), ⟨mkE 53 0 [], [some (sI x2782)]⟩)))) := by
  refine Link.of fun K h => ?_
  simp only [spec_l4Row_n2, wpO_bind, wpO_cond, wpO_map, wpO_some] at h
  exact Awp.of (by kernel_rfl) h

def spec_l4Row_n3_l (n : Nat) (x2778 : Int) (x2779 : Int) (x2780 : Int) (x2781 : Int) (x2782 : List Int) := (link_loop (mk := fun (s : Int × Int) => ⟨mkE 53 0 [(0, .slc 0), (1, dI x2778), (2, dI x2779), (3, dI x2780), (4, dI s.1), (10, dI s.2)], [some (sI x2782)]⟩) (fin := (Sum.elim (fun (t : (List Int)) => (Exit.ret, ⟨mkE 53 0 [], [some (sI t)]⟩)) (fun (t : Unit) => ((Exit.exit 0), ⟨mkE 53 0 [], [some (sI x2782)]⟩)))) (by
  rintro (t | t) f K h
  · exact h
  · exact h) (fun s => link_map (spec_l4Row_n2_l n x2778 x2779 x2780 s.1 s.2 x2782) (Sum.elim (fun (t : Int × Int) => Sum.inl (t.1, t.2)) (Sum.elim (fun (t : (List Int)) => Sum.inr (Sum.inl t)) (fun (t : Unit) => Sum.inr (Sum.inr t)))) (by
  rintro (t | t | t)
  · kernel_rfl
  · kernel_rfl
  · kernel_rfl)) (x2781, x2778))

def spec_l4Row_n4_l (n : Nat) (x2778 : Int) (x2779 : Int) (x2780 : Int) (x2781 : Int) (x2782 : List Int) := (link_block (fin2 := (Sum.elim (fun (t : Unit) => (Exit.normal, ⟨mkE 53 0 [], [some (sI x2782)]⟩)) (fun (t : (List Int)) => (Exit.ret, ⟨mkE 53 0 [], [some (sI t)]⟩)))) (id := 0) (spec_l4Row_n3_l n x2778 x2779 x2780 x2781 x2782) (Sum.elim (fun (t : (List Int)) => (Sum.inr t)) (fun (t : Unit) => (Sum.inl ()))) (by
  rintro (t | t) K h
  · exact Eq.mp (by kernel_rfl) h
  · exact Eq.mp (by kernel_rfl) h))

def spec_l4Row_n5_l (n : Nat) (x2778 : Int) (x2779 : Int) (x2780 : Int) (x2781 : Int) (x2782 : List Int) := (link_seq (spec_l4Row_n1_l n x2778 x2779 x2780 x2781 x2782) (fun (t : Unit) => (spec_l4Row_n4_l n x2778 x2779 x2780 x2781 x2782)))

theorem spec_l4Row_e (n : Nat) (x2778 : Int) (x2779 : Int) (x2780 : Int) (x2781 : Int) (x2782 : List Int) {r : AV} {H' : Heap} (h : (Ans.mk _ (spec_l4Row_fuel (n + 1) x2778 x2779 x2780 x2781 x2782) (fun (t : (List Int)) => (.tup [], [some (sI t)])) [] none).run = some (r, H')) : Awp (spec_l4Row_ctx n) LL (bodyOf Tryd.f95) spec_l4Row_an ⟨mkE 53 0 [(0, .slc 0), (1, dI x2778), (2, dI x2779), (3, dI x2780), (4, dI x2781)], [some (sI x2782)]⟩ (Ret (tlook tys) Tryd.f95.results.toList r H') :=
  ret_of (Link.cast (by kernel_rfl) (by kernel_rfl) (spec_l4Row_n5_l n x2778 x2779 x2780 x2781 x2782)) (Sum.elim (fun (t : Unit) => x2782) (fun (t : (List Int)) => t)) (by (show _ = _); kernel_rfl) (by
  rintro (t | t)
  · exact ret_mk [] (by kernel_rfl) (by kernel_rfl) (by kernel_rfl) (by kernel_rfl)
  · exact ret_mk [] (by kernel_rfl) (by kernel_rfl) (by kernel_rfl) (by kernel_rfl)) h

theorem spec_l4Tree_step (n : Nat) (h60 : Sound Tryd.prog 60 (F_spec_l4Tree_fuel n)) (h95 : Sound Tryd.prog 95 (F_spec_l4Row_fuel n)) : Sound Tryd.prog 60 (F_spec_l4Tree_fuel (n + 1)) := by
  refine fn_sound' (C := spec_l4Tree_ctx n) (c := bodyOf Tryd.f60) (cok_of tys_ok (allc spec_l4Rows_sound (allc h95 alln)) (allc Tryd.call94 (allc Tryd.call95 alln)) (by kernel_rfl)) Tryd.func60 (by kernel_rfl) LL spec_l4Tree_an ?_
  intro avs H r H' h
  unfold F_spec_l4Tree_fuel at h
  split at h
  · refine Awp.cast ?_ ?_ ?_ (spec_l4Tree_e n _ _ _ _ _ h) <;> kernel_rfl
  · simp [Ans.no, Ans.run] at h

theorem spec_l4Tree_null : Sound Tryd.prog 60 (F_spec_l4Tree_fuel 0) := by
  intro avs H r H' h
  unfold F_spec_l4Tree_fuel at h
  split at h
  · simp [spec_l4Tree_fuel, spec_l4Tree_knot, Ans.run] at h
  · simp [Ans.no, Ans.run] at h

theorem spec_l4Row_step (n : Nat) (h60 : Sound Tryd.prog 60 (F_spec_l4Tree_fuel n)) (h95 : Sound Tryd.prog 95 (F_spec_l4Row_fuel n)) : Sound Tryd.prog 95 (F_spec_l4Row_fuel (n + 1)) := by
  refine fn_sound' (C := spec_l4Row_ctx n) (c := bodyOf Tryd.f95) (cok_of tys_ok (allc spec_l4Rows_sound (allc spec_l4Flat_sound (allc h60 (allc h95 alln)))) (allc Tryd.call94 (allc Tryd.call59 (allc Tryd.call60 (allc Tryd.call95 alln)))) (by kernel_rfl)) Tryd.func95 (by kernel_rfl) LL spec_l4Row_an ?_
  intro avs H r H' h
  unfold F_spec_l4Row_fuel at h
  split at h
  · refine Awp.cast ?_ ?_ ?_ (spec_l4Row_e n _ _ _ _ _ h) <;> kernel_rfl
  · simp [Ans.no, Ans.run] at h

theorem spec_l4Row_null : Sound Tryd.prog 95 (F_spec_l4Row_fuel 0) := by
  intro avs H r H' h
  unfold F_spec_l4Row_fuel at h
  split at h
  · simp [spec_l4Row_fuel, spec_l4Tree_knot, Ans.run] at h
  · simp [Ans.no, Ans.run] at h

theorem spec_l4Tree_knot_all : ∀ n, Sound Tryd.prog 60 (F_spec_l4Tree_fuel n) ∧ Sound Tryd.prog 95 (F_spec_l4Row_fuel n)
  | 0 => ⟨spec_l4Tree_null, spec_l4Row_null⟩
  | n + 1 => by
    obtain ⟨h60, h95⟩ := spec_l4Tree_knot_all n
    exact ⟨spec_l4Tree_step n h60 h95, spec_l4Row_step n h60 h95⟩

def F_spec_l4Tree : Fun := fun avs H =>
  match avs, H with
  | [.slc 0, .dat (.int .i64) x2588, .dat (.int .i64) x2589, .dat (.int .i64) x2590, .dat (.int .i64) x2591], [some (.seq (.int .i64) x2592)] => ⟨_, spec_l4Tree x2588 x2589 x2590 x2591 x2592, fun (t : (List Int)) => (.tup [], [some (sI t)]), [], none⟩
  | _, _ => Ans.no

theorem spec_l4Tree_sound : Sound Tryd.prog 60 F_spec_l4Tree := by
  have e : F_spec_l4Tree = F_spec_l4Tree_fuel RR := by
    funext avs H
    unfold F_spec_l4Tree F_spec_l4Tree_fuel
    split <;> first | rfl | (simp only [spec_l4Tree])
  rw [e]
  exact (spec_l4Tree_knot_all RR).1

def F_spec_l4Row : Fun := fun avs H =>
  match avs, H with
  | [.slc 0, .dat (.int .i64) x2778, .dat (.int .i64) x2779, .dat (.int .i64) x2780, .dat (.int .i64) x2781], [some (.seq (.int .i64) x2782)] => ⟨_, spec_l4Row x2778 x2779 x2780 x2781 x2782, fun (t : (List Int)) => (.tup [], [some (sI t)]), [], none⟩
  | _, _ => Ans.no

theorem spec_l4Row_sound : Sound Tryd.prog 95 F_spec_l4Row := by
  have e : F_spec_l4Row = F_spec_l4Row_fuel RR := by
    funext avs H
    unfold F_spec_l4Row F_spec_l4Row_fuel
    split <;> first | rfl | (simp only [spec_l4Row])
  rw [e]
  exact (spec_l4Tree_knot_all RR).2


/-! loop.example/headtrees/spec.FlatAt -/

def spec_FlatAt_an : Ann := (.seq (.leaf [0, 1]) (.seq (.seq (.leaf [0, 1, 17]) (.cond (.seq (.leaf [4, 5]) (.leaf [4, 5])) (.leaf [0, 1]))) (.seq (.leaf [0, 1, 6]) (.seq (.leaf [6]) (.seq (.leaf [4, 5]) (.leaf [4, 5]))))))

noncomputable def spec_FlatAt_ctx : Ctx := ⟨tlook tys, olook [(52, F_spec_l1In), (59, F_spec_l4Flat), (60, F_spec_l4Tree)], ioF, 0, false, []⟩

theorem spec_FlatAt_n1_l (x2564 : Int) (x2565 : Int) : Link spec_FlatAt_ctx LL (bodyOf Tryd.f20) spec_FlatAt_an ⟨mkE 26 0 [(0, dI x2564), (1, dI x2565)], []⟩ (spec_FlatAt_n1 x2564 x2565) (fun (t : Bool × (List Int)) => (Exit.ret, ⟨mkE 26 0 [(4, .slc 0), (5, dB t.1)], [some (sI t.2)]⟩)) := by
  refine Link.of fun K h => ?_
  simp only [spec_FlatAt_n1, wpO_bind, wpO_cond, wpO_map, wpO_some] at h
  exact Awp.of (by kernel_rfl) h

theorem spec_FlatAt_e (x2564 : Int) (x2565 : Int) {r : AV} {H' : Heap} (h : (Ans.mk _ (spec_FlatAt x2564 x2565) (fun (t : Bool × (List Int)) => (.tup [.slc 0, dB t.1], [some (sI t.2)])) [] none).run = some (r, H')) : Awp spec_FlatAt_ctx LL (bodyOf Tryd.f20) spec_FlatAt_an ⟨mkE 26 0 [(0, dI x2564), (1, dI x2565)], []⟩ (Ret (tlook tys) Tryd.f20.results.toList r H') :=
  ret_of' (spec_FlatAt_n1_l x2564 x2565) (by unfold spec_FlatAt; kernel_rfl) (by
  intro t
  exact ret_mk [.slc 0, dB t.1] (by kernel_rfl) (by kernel_rfl) (by kernel_rfl) (by kernel_rfl)) h

def F_spec_FlatAt : Fun := fun avs H =>
  match avs, H with
  | [.dat (.int .i64) x2564, .dat (.int .i64) x2565], [] => ⟨_, spec_FlatAt x2564 x2565, fun (t : Bool × (List Int)) => (.tup [.slc 0, dB t.1], [some (sI t.2)]), [], none⟩
  | _, _ => Ans.no

theorem spec_FlatAt_sound : Sound Tryd.prog 20 F_spec_FlatAt := by
  refine fn_sound' (C := spec_FlatAt_ctx) (c := bodyOf Tryd.f20) (cok_of tys_ok (allc spec_l1In_sound (allc spec_l4Flat_sound (allc spec_l4Tree_sound alln))) (allc Tryd.call52 (allc Tryd.call59 (allc Tryd.call60 alln))) (by kernel_rfl)) Tryd.func20 (by kernel_rfl) LL spec_FlatAt_an ?_
  intro avs H r H' h
  unfold F_spec_FlatAt at h
  split at h
  · refine Awp.cast ?_ ?_ ?_ (spec_FlatAt_e _ _ h) <;> kernel_rfl
  · simp [Ans.no, Ans.run] at h


/-! loop.example/headtrees/laws.sameInts -/

def laws_sameInts_an : Ann := (.seq (.leaf [0, 1]) (.seq (.seq (.leaf [0, 1, 10]) (.cond (.seq (.leaf [4]) (.leaf [4])) (.leaf [0, 1]))) (.seq (.seq (.leaf [0, 1, 5]) (.block (.loop (.seq (.seq (.leaf [0, 1, 5, 14]) (.cond (.leaf [0, 1, 5]) (.leaf []))) (.seq (.block (.seq (.draw [] [0, 1, 2, 3, 4, 5, 6, 7, 8] [] [0, 1, 5, 25]) (.cond (.seq (.leaf [4]) (.leaf [4])) (.leaf [0, 1, 5])))) (.leaf [0, 1, 5])))))) (.seq (.leaf [4]) (.leaf [4])))))

noncomputable def laws_sameInts_ctx : Ctx := ⟨tlook tys, olook [], ioF, 0, false, []⟩

theorem laws_sameInts_n1_l (x3064 : List Int) (x3065 : List Int) : Link laws_sameInts_ctx LL (Code.seq (cq [0] (bodyOf Tryd.f21)) (cq [0,1] (bodyOf Tryd.f21))) (Ann.seq (aq [0] laws_sameInts_an) (aq [0,1] laws_sameInts_an)) ⟨mkE 26 0 [(0, dL x3064), (1, dL x3065)], []⟩ (laws_sameInts_n1 x3064 x3065) (Sum.elim (fun (t : Unit) => (Exit.normal, ⟨mkE 26 0 [(0, dL x3064), (1, dL x3065)], []⟩)) (fun (t : Bool) => (Exit.ret, ⟨mkE 26 0 [(4, dB t)], []⟩))) := by
  refine Link.of fun K h => ?_
  simp only [laws_sameInts_n1, wpO_bind, wpO_cond, wpO_map, wpO_some] at h
  exact Awp.of (by kernel_rfl) h

theorem laws_sameInts_n2_l (x3064 : List Int) (x3065 : List Int) : Link laws_sameInts_ctx LL (cq [0,0,1,1] (bodyOf Tryd.f21)) (aq [0,0,1,1] laws_sameInts_an) ⟨mkE 26 0 [(0, dL x3064), (1, dL x3065)], []⟩ (laws_sameInts_n2) (fun (t : Unit) => (Exit.normal, ⟨mkE 26 0 [(0, dL x3064), (1, dL x3065), (5, dI 0)], []⟩)) := by
  refine Link.of fun K h => ?_
  simp only [laws_sameInts_n2, wpO_bind, wpO_cond, wpO_map, wpO_some] at h
  exact Awp.of (by kernel_rfl) h

theorem laws_sameInts_n3_l (x3064 : List Int) (x3065 : List Int) (x3082 : Int) : Link laws_sameInts_ctx LL (cq [0,0,1,0,1,1] (bodyOf Tryd.f21)) (aq [0,0,1,0,1,1] laws_sameInts_an) ⟨mkE 26 0 [(0, dL x3064), (1, dL x3065), (5, dI x3082)], []⟩ (laws_sameInts_n3 x3064 x3065 x3082) (Sum.elim (fun (t : Int) => (Exit.normal, ⟨mkE 26 0 [(0, dL x3064), (1, dL x3065), (5, dI t)], []⟩)) (Sum.elim (fun (t : Bool) => (Exit.ret, ⟨mkE 26 0 [(4, dB t)], []⟩)) (fun (t : Unit) => ((Exit.exit 0), ⟨mkE 26 0 [], []⟩)))) := by
  refine Link.of fun K h => ?_
  simp only [laws_sameInts_n3, wpO_bind, wpO_cond, wpO_map, wpO_some] at h
  exact Awp.of (by kernel_rfl) h

def laws_sameInts_n4_l (x3064 : List Int) (x3065 : List Int) := (link_loop (mk := fun (s : Int) => ⟨mkE 26 0 [(0, dL x3064), (1, dL x3065), (5, dI s)], []⟩) (fin := (Sum.elim (fun (t : Bool) => (Exit.ret, ⟨mkE 26 0 [(4, dB t)], []⟩)) (fun (t : Unit) => ((Exit.exit 0), ⟨mkE 26 0 [], []⟩)))) (by
  rintro (t | t) f K h
  · exact h
  · exact h) (fun s => link_map (laws_sameInts_n3_l x3064 x3065 s) (Sum.elim (fun (t : Int) => Sum.inl t) (Sum.elim (fun (t : Bool) => Sum.inr (Sum.inl t)) (fun (t : Unit) => Sum.inr (Sum.inr t)))) (by
  rintro (t | t | t)
  · kernel_rfl
  · kernel_rfl
  · kernel_rfl)) 0)

def laws_sameInts_n5_l (x3064 : List Int) (x3065 : List Int) := (link_block (fin2 := (Sum.elim (fun (t : Unit) => (Exit.normal, ⟨mkE 26 0 [], []⟩)) (fun (t : Bool) => (Exit.ret, ⟨mkE 26 0 [(4, dB t)], []⟩)))) (id := 0) (laws_sameInts_n4_l x3064 x3065) (Sum.elim (fun (t : Bool) => (Sum.inr t)) (fun (t : Unit) => (Sum.inl ()))) (by
  rintro (t | t) K h
  · exact Eq.mp (by kernel_rfl) h
  · exact Eq.mp (by kernel_rfl) h))

def laws_sameInts_n6_l (x3064 : List Int) (x3065 : List Int) := (link_seq (laws_sameInts_n2_l x3064 x3065) (fun (t : Unit) => (laws_sameInts_n5_l x3064 x3065)))

theorem laws_sameInts_n7_l : Link laws_sameInts_ctx LL (cq [1,1,1] (bodyOf Tryd.f21)) (aq [1,1,1] laws_sameInts_an) ⟨mkE 26 0 [], []⟩ (laws_sameInts_n7) (fun (t : Bool) => (Exit.ret, ⟨mkE 26 0 [(4, dB t)], []⟩)) := by
  refine Link.of fun K h => ?_
  simp only [laws_sameInts_n7, wpO_bind, wpO_cond, wpO_map, wpO_some] at h
  exact Awp.of (by kernel_rfl) h

def laws_sameInts_n8_l (x3064 : List Int) (x3065 : List Int) := (link_seq2 (laws_sameInts_n6_l x3064 x3065) (fun (t : Unit) => (laws_sameInts_n7_l)) (fun (t : Bool) => t) (by
  rintro t
  · kernel_rfl) (by
  rintro t f K h
  · exact h))

def laws_sameInts_n9_l (x3064 : List Int) (x3065 : List Int) := (link_group (c := (cq [0,1] (bodyOf Tryd.f21))) (a := (aq [0,1] laws_sameInts_an)) [(cq [0] (bodyOf Tryd.f21))] [(aq [0] laws_sameInts_an)] rfl (link_seq2 (laws_sameInts_n1_l x3064 x3065) (fun (t : Unit) => (laws_sameInts_n8_l x3064 x3065)) (fun (t : Bool) => t) (by
  rintro t
  · kernel_rfl) (by
  rintro t f K h
  · exact h)))

theorem laws_sameInts_e (x3064 : List Int) (x3065 : List Int) {r : AV} {H' : Heap} (h : (Ans.mk _ (laws_sameInts x3064 x3065) (fun (t : Bool) => (dB t, [])) [] none).run = some (r, H')) : Awp laws_sameInts_ctx LL (bodyOf Tryd.f21) laws_sameInts_an ⟨mkE 26 0 [(0, dL x3064), (1, dL x3065)], []⟩ (Ret (tlook tys) Tryd.f21.results.toList r H') :=
  ret_of' (Link.cast (by kernel_rfl) (by kernel_rfl) (laws_sameInts_n9_l x3064 x3065)) (by unfold laws_sameInts; kernel_rfl) (by
  intro t
  exact ret_mk [dB t] (by kernel_rfl) (by kernel_rfl) (by kernel_rfl) (by kernel_rfl)) h

def F_laws_sameInts : Fun := fun avs H =>
  match avs, H with
  | [.dat (.list (.int .i64)) x3064, .dat (.list (.int .i64)) x3065], [] => ⟨_, laws_sameInts x3064 x3065, fun (t : Bool) => (dB t, []), [], none⟩
  | _, _ => Ans.no

theorem laws_sameInts_sound : Sound Tryd.prog 21 F_laws_sameInts := by
  refine fn_sound' (C := laws_sameInts_ctx) (c := bodyOf Tryd.f21) (cok_of tys_ok (alln) (alln) (by kernel_rfl)) Tryd.func21 (by kernel_rfl) LL laws_sameInts_an ?_
  intro avs H r H' h
  unfold F_laws_sameInts at h
  split at h
  · refine Awp.cast ?_ ?_ ?_ (laws_sameInts_e _ _ h) <;> kernel_rfl
  · simp [Ans.no, Ans.run] at h


/-! loop.example/headtrees/impl.RootOf -/

def impl_RootOf_an : Ann := (.seq (.leaf [0]) (.seq (.seq (.leaf [0, 6]) (.cond (.seq (.leaf [2]) (.leaf [2])) (.leaf [0]))) (.seq (.leaf [3]) (.seq (.block (.loop (.seq (.seq (.leaf [3, 9]) (.cond (.leaf [3]) (.leaf [3]))) (.block (.leaf [3]))))) (.seq (.leaf [2]) (.leaf [2]))))))

noncomputable def impl_RootOf_ctx : Ctx := ⟨tlook tys, olook [(31, F_impl_TreeOk), (64, F_impl_walker_up)], ioF, 0, false, []⟩

theorem impl_RootOf_n1_l (x3172 : List Int) : Link impl_RootOf_ctx LL (Code.seq (cq [0] (bodyOf Tryd.f24)) (Code.seq (cq [0,1] (bodyOf Tryd.f24)) (cq [0,1,1] (bodyOf Tryd.f24)))) (Ann.seq (aq [0] impl_RootOf_an) (Ann.seq (aq [0,1] impl_RootOf_an) (aq [0,1,1] impl_RootOf_an))) ⟨mkE 12 0 [(0, dL x3172)], []⟩ (impl_RootOf_n1 x3172) (Sum.elim (fun (t : Unit) => (Exit.normal, ⟨mkE 12 0 [(3, .ptr 0 0)], [some (.box [dL x3172, dI 1, dI 0])]⟩)) (fun (t : Int) => (Exit.ret, ⟨mkE 12 0 [(2, dI t)], []⟩))) := by
  refine Link.of fun K h => ?_
  simp only [impl_RootOf_n1, wpO_bind, wpO_cond, wpO_map, wpO_some] at h
  exact Awp.of (by kernel_rfl) h

theorem impl_RootOf_n2_l (x3172 : List Int) (x3185 : Int) (x3186 : Int) : Link impl_RootOf_ctx LL (cq [0,0,0,1,1,1] (bodyOf Tryd.f24)) (aq [0,0,0,1,1,1] impl_RootOf_an) ⟨mkE 12 0 [(3, .ptr 0 0)], [some (.box [dL x3172, dI x3185, dI x3186])]⟩ (impl_RootOf_n2 x3172 x3185 x3186) (Sum.elim (fun (t : Int × Int) => (Exit.normal, ⟨mkE 12 0 [(3, .ptr 0 0)], [some (.box [dL x3172, dI t.1, dI t.2])]⟩)) (fun (t : Int × Int) => ((Exit.exit 0), ⟨mkE 12 0 [(3, .ptr 0 0)], [some (.box [dL x3172, dI t.1, dI t.2])]⟩))) := by
  refine Link.of fun K h => ?_
  simp only [impl_RootOf_n2, wpO_bind, wpO_cond, wpO_map, wpO_some] at h
  exact Awp.of (by kernel_rfl) h

def impl_RootOf_n3_l (x3172 : List Int) := (link_loop (mk := fun (s : Int × Int) => ⟨mkE 12 0 [(3, .ptr 0 0)], [some (.box [dL x3172, dI s.1, dI s.2])]⟩) (fin := (fun (t : Int × Int) => ((Exit.exit 0), ⟨mkE 12 0 [(3, .ptr 0 0)], [some (.box [dL x3172, dI t.1, dI t.2])]⟩))) (by
  rintro t f K h
  · exact h) (fun s => link_map (impl_RootOf_n2_l x3172 s.1 s.2) (Sum.elim (fun (t : Int × Int) => Sum.inl (t.1, t.2)) (fun (t : Int × Int) => Sum.inr t)) (by
  rintro (t | t)
  · kernel_rfl
  · kernel_rfl)) (1, 0))

def impl_RootOf_n4_l (x3172 : List Int) := (link_block (fin2 := (fun (t : Int × Int) => (Exit.normal, ⟨mkE 12 0 [(3, .ptr 0 0)], [some (.box [dL x3172, dI t.1, dI t.2])]⟩))) (id := 0) (impl_RootOf_n3_l x3172) (fun (t : Int × Int) => (t.1, t.2)) (by
  rintro t K h
  · exact Eq.mp (by kernel_rfl) h))

theorem impl_RootOf_n5_l (x3172 : List Int) (x3193 : Int) (x3194 : Int) : Link impl_RootOf_ctx LL (cq [1,1,1,1] (bodyOf Tryd.f24)) (aq [1,1,1,1] impl_RootOf_an) ⟨mkE 12 0 [(3, .ptr 0 0)], [some (.box [dL x3172, dI x3193, dI x3194])]⟩ (impl_RootOf_n5 x3193) (fun (t : Int) => (Exit.ret, ⟨mkE 12 0 [(2, dI t)], []⟩)) := by
  refine Link.of fun K h => ?_
  simp only [impl_RootOf_n5, wpO_bind, wpO_cond, wpO_map, wpO_some] at h
  exact Awp.of (by kernel_rfl) h

def impl_RootOf_n6_l (x3172 : List Int) := (link_seq (impl_RootOf_n4_l x3172) (fun (t : Int × Int) => (impl_RootOf_n5_l x3172 t.1 t.2)))

def impl_RootOf_n7_l (x3172 : List Int) := (link_group (c := (cq [0,1,1] (bodyOf Tryd.f24))) (a := (aq [0,1,1] impl_RootOf_an)) [(cq [0] (bodyOf Tryd.f24)), (cq [0,1] (bodyOf Tryd.f24))] [(aq [0] impl_RootOf_an), (aq [0,1] impl_RootOf_an)] rfl (link_seq2 (impl_RootOf_n1_l x3172) (fun (t : Unit) => (impl_RootOf_n6_l x3172)) (fun (t : Int) => t) (by
  rintro t
  · kernel_rfl) (by
  rintro t f K h
  · exact h)))

theorem impl_RootOf_e (x3172 : List Int) {r : AV} {H' : Heap} (h : (Ans.mk _ (impl_RootOf x3172) (fun (t : Int) => (dI t, [])) [] none).run = some (r, H')) : Awp impl_RootOf_ctx LL (bodyOf Tryd.f24) impl_RootOf_an ⟨mkE 12 0 [(0, dL x3172)], []⟩ (Ret (tlook tys) Tryd.f24.results.toList r H') :=
  ret_of' (Link.cast (by kernel_rfl) (by kernel_rfl) (impl_RootOf_n7_l x3172)) (by unfold impl_RootOf; kernel_rfl) (by
  intro t
  exact ret_mk [dI t] (by kernel_rfl) (by kernel_rfl) (by kernel_rfl) (by kernel_rfl)) h

def F_impl_RootOf : Fun := fun avs H =>
  match avs, H with
  | [.dat (.list (.int .i64)) x3172], [] => ⟨_, impl_RootOf x3172, fun (t : Int) => (dI t, []), [], none⟩
  | _, _ => Ans.no

theorem impl_RootOf_sound : Sound Tryd.prog 24 F_impl_RootOf := by
  refine fn_sound' (C := impl_RootOf_ctx) (c := bodyOf Tryd.f24) (cok_of tys_ok (allc impl_TreeOk_sound (allc impl_walker_up_sound alln)) (allc Tryd.call31 (allc Tryd.call64 alln)) (by kernel_rfl)) Tryd.func24 (by kernel_rfl) LL impl_RootOf_an ?_
  intro avs H r H' h
  unfold F_impl_RootOf at h
  split at h
  · refine Awp.cast ?_ ?_ ?_ (impl_RootOf_e _ h) <;> kernel_rfl
  · simp [Ans.no, Ans.run] at h


/-! loop.example/headtrees/impl.fillYields -/

def impl_fillYields_an : Ann := (.seq (.leaf [0, 1, 2]) (.seq (.leaf [0, 1, 2, 7]) (.seq (.seq (.leaf [0, 1, 2, 7, 15, 16, 17]) (.block (.loop (.seq (.leaf [0, 1, 2, 7, 15, 16, 17, 18]) (.seq (.cond (.leaf [0, 1, 2, 7, 15, 16, 17]) (.leaf [0, 2, 7])) (.seq (.block (.seq (.leaf [0, 1, 2, 7, 9, 15, 16, 17]) (.leaf [0, 1, 2, 7, 15, 16, 17]))) (.leaf [0, 1, 2, 7, 15, 16, 17]))))))) (.seq (.leaf [7]) (.seq (.leaf [6]) (.leaf [6]))))))

def F_impl_fillYields_fuel (n : Nat) : Fun := fun avs H =>
  match avs, H with
  | [.slc 0, .dat (.list (.int .i64)) x3197, .dat (.int .i64) x3198], [some (.seq (.int .u64) x3199)] => ⟨_, impl_fillYields_fuel n x3197 x3198 x3199, fun (t : Int × (List Int)) => (dW t.1, [some (.seq (.int .u64) t.2)]), [], none⟩
  | _, _ => Ans.no

noncomputable def impl_fillYields_ctx (n : Nat) : Ctx := ⟨tlook tys, olook [(87, F_impl_only), (53, F_impl_dependents), (54, F_impl_wordSet_list), (96, F_impl_fillYields_fuel n)], ioF, 1, false, []⟩

theorem impl_fillYields_n1_l (n : Nat) (x3197 : List Int) (x3198 : Int) (x3199 : List Int) : Link (impl_fillYields_ctx n) LL (Code.seq (cq [0] (bodyOf Tryd.f96)) (cq [0,1] (bodyOf Tryd.f96))) (Ann.seq (aq [0] impl_fillYields_an) (aq [0,1] impl_fillYields_an)) ⟨mkE 34 0 [(0, .slc 0), (1, dL x3197), (2, dI x3198)], [some (.seq (.int .u64) x3199)]⟩ (impl_fillYields_n1 (impl_fillYields_fuel n) x3198) (fun (t : Int) => (Exit.normal, ⟨mkE 34 0 [(0, .slc 0), (1, dL x3197), (2, dI x3198), (7, dW t)], [some (.seq (.int .u64) x3199)]⟩)) := by
  refine Link.of fun K h => ?_
  simp only [impl_fillYields_n1, wpO_bind, wpO_cond, wpO_map, wpO_some] at h
  exact Awp.of (by kernel_rfl) h

theorem impl_fillYields_n2_l (n : Nat) (x3197 : List Int) (x3198 : Int) (x3218 : Int) (x3199 : List Int) : Link (impl_fillYields_ctx n) LL (cq [0,0,1,1] (bodyOf Tryd.f96)) (aq [0,0,1,1] impl_fillYields_an) ⟨mkE 34 0 [(0, .slc 0), (1, dL x3197), (2, dI x3198), (7, dW x3218)], [some (.seq (.int .u64) x3199)]⟩ (impl_fillYields_n2 (impl_fillYields_fuel n) x3197 x3198) (fun (t : Int × (List Int)) => (Exit.normal, ⟨mkE 34 0 [(0, .slc 0), (1, dL x3197), (2, dI x3198), (7, dW x3218), (15, .slc 1), (16, dI t.1), (17, dI 0)], [some (.seq (.int .u64) x3199), some (sI t.2)]⟩)) := by
  refine Link.of fun K h => ?_
  simp only [impl_fillYields_n2, wpO_bind, wpO_cond, wpO_map, wpO_some] at h
  exact Awp.of (by kernel_rfl) h

theorem impl_fillYields_n3_l (n : Nat) (x3197 : List Int) (x3198 : Int) (x3239 : Int) (x3221 : Int) (x3240 : Int) (x3241 : List Int) (x3220 : List Int) : Link (impl_fillYields_ctx n) LL (cq [0,0,1,0,1,1] (bodyOf Tryd.f96)) (aq [0,0,1,0,1,1] impl_fillYields_an) ⟨mkE 34 0 [(0, .slc 0), (1, dL x3197), (2, dI x3198), (7, dW x3239), (15, .slc 1), (16, dI x3221), (17, dI x3240)], [some (.seq (.int .u64) x3241), some (sI x3220)]⟩ (impl_fillYields_n3 (impl_fillYields_fuel n) x3197 x3239 x3221 x3240 x3241 x3220) (Sum.elim (fun (t : Int × Int × (List Int)) => (Exit.normal, ⟨mkE 34 0 [(0, .slc 0), (1, dL x3197), (2, dI x3198), (7, dW t.1), (15, .slc 1), (16, dI x3221), (17, dI t.2.1)], [some (.seq (.int .u64) t.2.2), some (sI x3220)]⟩)) (fun (t : Int × (List Int)) => ((Exit.exit 0), ⟨mkE 34 0 [(0, .slc 0), (2, dI x3198), (7, dW t.1)], [some (.seq (.int .u64) t.2)]⟩))) := by
  refine Link.of fun K h => ?_
  simp only [impl_fillYields_n3, wpO_bind, wpO_cond, wpO_map, wpO_some] at h
  exact Awp.of (by kernel_rfl) h

def impl_fillYields_n4_l (n : Nat) (x3197 : List Int) (x3198 : Int) (x3218 : Int) (x3221 : Int) (x3199 : List Int) (x3220 : List Int) := (link_loop (mk := fun (s : Int × Int × (List Int)) => ⟨mkE 34 0 [(0, .slc 0), (1, dL x3197), (2, dI x3198), (7, dW s.1), (15, .slc 1), (16, dI x3221), (17, dI s.2.1)], [some (.seq (.int .u64) s.2.2), some (sI x3220)]⟩) (fin := (fun (t : Int × (List Int)) => ((Exit.exit 0), ⟨mkE 34 0 [(0, .slc 0), (2, dI x3198), (7, dW t.1)], [some (.seq (.int .u64) t.2)]⟩))) (by
  rintro t f K h
  · exact h) (fun s => link_map (impl_fillYields_n3_l n x3197 x3198 s.1 x3221 s.2.1 s.2.2 x3220) (Sum.elim (fun (t : Int × Int × (List Int)) => Sum.inl (t.1, t.2.1, t.2.2)) (fun (t : Int × (List Int)) => Sum.inr t)) (by
  rintro (t | t)
  · kernel_rfl
  · kernel_rfl)) (x3218, 0, x3199))

def impl_fillYields_n5_l (n : Nat) (x3197 : List Int) (x3198 : Int) (x3218 : Int) (x3221 : Int) (x3199 : List Int) (x3220 : List Int) := (link_block (fin2 := (fun (t : Int × (List Int)) => (Exit.normal, ⟨mkE 34 0 [(0, .slc 0), (2, dI x3198), (7, dW t.1)], [some (.seq (.int .u64) t.2)]⟩))) (id := 0) (impl_fillYields_n4_l n x3197 x3198 x3218 x3221 x3199 x3220) (fun (t : Int × (List Int)) => (t.1, t.2)) (by
  rintro t K h
  · exact Eq.mp (by kernel_rfl) h))

def impl_fillYields_n6_l (n : Nat) (x3197 : List Int) (x3198 : Int) (x3218 : Int) (x3199 : List Int) := (link_seq (impl_fillYields_n2_l n x3197 x3198 x3218 x3199) (fun (t : Int × (List Int)) => (impl_fillYields_n5_l n x3197 x3198 x3218 t.1 x3199 t.2)))

theorem impl_fillYields_n7_l (n : Nat) (x3198 : Int) (x3239 : Int) (x3241 : List Int) : Link (impl_fillYields_ctx n) LL (cq [1,1,1] (bodyOf Tryd.f96)) (aq [1,1,1] impl_fillYields_an) ⟨mkE 34 0 [(0, .slc 0), (2, dI x3198), (7, dW x3239)], [some (.seq (.int .u64) x3241)]⟩ (impl_fillYields_n7 (impl_fillYields_fuel n) x3198 x3239 x3241) (fun (t : Int × (List Int)) => (Exit.ret, ⟨mkE 34 0 [(6, dW t.1)], [some (.seq (.int .u64) t.2)]⟩)) := by
  refine Link.of fun K h => ?_
  simp only [impl_fillYields_n7, wpO_bind, wpO_cond, wpO_map, wpO_some] at h
  exact Awp.of (by kernel_rfl) h

def impl_fillYields_n8_l (n : Nat) (x3197 : List Int) (x3198 : Int) (x3218 : Int) (x3199 : List Int) := (link_seq (impl_fillYields_n6_l n x3197 x3198 x3218 x3199) (fun (t : Int × (List Int)) => (impl_fillYields_n7_l n x3198 t.1 t.2)))

def impl_fillYields_n9_l (n : Nat) (x3197 : List Int) (x3198 : Int) (x3199 : List Int) := (link_group (c := (cq [0,1] (bodyOf Tryd.f96))) (a := (aq [0,1] impl_fillYields_an)) [(cq [0] (bodyOf Tryd.f96))] [(aq [0] impl_fillYields_an)] rfl (link_seq (impl_fillYields_n1_l n x3197 x3198 x3199) (fun (t : Int) => (impl_fillYields_n8_l n x3197 x3198 t x3199))))

theorem impl_fillYields_e (n : Nat) (x3197 : List Int) (x3198 : Int) (x3199 : List Int) {r : AV} {H' : Heap} (h : (Ans.mk _ (impl_fillYields_fuel (n + 1) x3197 x3198 x3199) (fun (t : Int × (List Int)) => (dW t.1, [some (.seq (.int .u64) t.2)])) [] none).run = some (r, H')) : Awp (impl_fillYields_ctx n) LL (bodyOf Tryd.f96) impl_fillYields_an ⟨mkE 34 0 [(0, .slc 0), (1, dL x3197), (2, dI x3198)], [some (.seq (.int .u64) x3199)]⟩ (Ret (tlook tys) Tryd.f96.results.toList r H') :=
  ret_of' (Link.cast (by kernel_rfl) (by kernel_rfl) (impl_fillYields_n9_l n x3197 x3198 x3199)) (by (show _ = _); kernel_rfl) (by
  intro t
  exact ret_mk [dW t.1] (by kernel_rfl) (by kernel_rfl) (by kernel_rfl) (by kernel_rfl)) h

theorem impl_fillYields_step (n : Nat) (h96 : Sound Tryd.prog 96 (F_impl_fillYields_fuel n)) : Sound Tryd.prog 96 (F_impl_fillYields_fuel (n + 1)) := by
  refine fn_sound' (C := impl_fillYields_ctx n) (c := bodyOf Tryd.f96) (cok_of tys_ok (allc impl_only_sound (allc impl_dependents_sound (allc impl_wordSet_list_sound (allc h96 alln)))) (allc Tryd.call87 (allc Tryd.call53 (allc Tryd.call54 (allc Tryd.call96 alln)))) (by kernel_rfl)) Tryd.func96 (by kernel_rfl) LL impl_fillYields_an ?_
  intro avs H r H' h
  unfold F_impl_fillYields_fuel at h
  split at h
  · refine Awp.cast ?_ ?_ ?_ (impl_fillYields_e n _ _ _ h) <;> kernel_rfl
  · simp [Ans.no, Ans.run] at h

theorem impl_fillYields_null : Sound Tryd.prog 96 (F_impl_fillYields_fuel 0) := by
  intro avs H r H' h
  unfold F_impl_fillYields_fuel at h
  split at h
  · simp [impl_fillYields_fuel, impl_fillYields_knot, Ans.run] at h
  · simp [Ans.no, Ans.run] at h

theorem impl_fillYields_knot_all : ∀ n, Sound Tryd.prog 96 (F_impl_fillYields_fuel n)
  | 0 => impl_fillYields_null
  | n + 1 => by
    have h96 := impl_fillYields_knot_all n
    exact impl_fillYields_step n h96

def F_impl_fillYields : Fun := fun avs H =>
  match avs, H with
  | [.slc 0, .dat (.list (.int .i64)) x3197, .dat (.int .i64) x3198], [some (.seq (.int .u64) x3199)] => ⟨_, impl_fillYields x3197 x3198 x3199, fun (t : Int × (List Int)) => (dW t.1, [some (.seq (.int .u64) t.2)]), [], none⟩
  | _, _ => Ans.no

theorem impl_fillYields_sound : Sound Tryd.prog 96 F_impl_fillYields := by
  have e : F_impl_fillYields = F_impl_fillYields_fuel RR := by
    funext avs H
    unfold F_impl_fillYields F_impl_fillYields_fuel
    split <;> first | rfl | (simp only [impl_fillYields])
  rw [e]
  exact (impl_fillYields_knot_all RR)


/-! loop.example/headtrees/impl.yieldsOf -/

def impl_yieldsOf_an : Ann := (.seq (.leaf [0]) (.seq (.leaf [0, 3]) (.seq (.leaf [3]) (.seq (.leaf [2]) (.leaf [2])))))

noncomputable def impl_yieldsOf_ctx : Ctx := ⟨tlook tys, olook [(24, F_impl_RootOf), (96, F_impl_fillYields)], ioF, 0, false, []⟩

theorem impl_yieldsOf_n1_l (x3165 : List Int) : Link impl_yieldsOf_ctx LL (bodyOf Tryd.f61) impl_yieldsOf_an ⟨mkE 13 0 [(0, dL x3165)], []⟩ (impl_yieldsOf_n1 x3165) (fun (t : (List Int)) => (Exit.ret, ⟨mkE 13 0 [(2, .slc 0)], [some (.seq (.int .u64) t)]⟩)) := by
  refine Link.of fun K h => ?_
  simp only [impl_yieldsOf_n1, wpO_bind, wpO_cond, wpO_map, wpO_some] at h
  exact Awp.of (by kernel_rfl) h

theorem impl_yieldsOf_e (x3165 : List Int) {r : AV} {H' : Heap} (h : (Ans.mk _ (impl_yieldsOf x3165) (fun (t : (List Int)) => (.slc 0, [some (.seq (.int .u64) t)])) [] none).run = some (r, H')) : Awp impl_yieldsOf_ctx LL (bodyOf Tryd.f61) impl_yieldsOf_an ⟨mkE 13 0 [(0, dL x3165)], []⟩ (Ret (tlook tys) Tryd.f61.results.toList r H') :=
  ret_of' (impl_yieldsOf_n1_l x3165) (by unfold impl_yieldsOf; kernel_rfl) (by
  intro t
  exact ret_mk [.slc 0] (by kernel_rfl) (by kernel_rfl) (by kernel_rfl) (by kernel_rfl)) h

def F_impl_yieldsOf : Fun := fun avs H =>
  match avs, H with
  | [.dat (.list (.int .i64)) x3165], [] => ⟨_, impl_yieldsOf x3165, fun (t : (List Int)) => (.slc 0, [some (.seq (.int .u64) t)]), [], none⟩
  | _, _ => Ans.no

theorem impl_yieldsOf_sound : Sound Tryd.prog 61 F_impl_yieldsOf := by
  refine fn_sound' (C := impl_yieldsOf_ctx) (c := bodyOf Tryd.f61) (cok_of tys_ok (allc impl_RootOf_sound (allc impl_fillYields_sound alln)) (allc Tryd.call24 (allc Tryd.call96 alln)) (by kernel_rfl)) Tryd.func61 (by kernel_rfl) LL impl_yieldsOf_an ?_
  intro avs H r H' h
  unfold F_impl_yieldsOf at h
  split at h
  · refine Awp.cast ?_ ?_ ?_ (impl_yieldsOf_e _ h) <;> kernel_rfl
  · simp [Ans.no, Ans.run] at h


/-! (loop.example/headtrees/impl.wordSet).isRow -/

def impl_wordSet_isRow_an : Ann := (.seq (.leaf [0]) (.seq (.leaf [0, 3]) (.seq (.leaf [2]) (.leaf [2]))))

noncomputable def impl_wordSet_isRow_ctx : Ctx := ⟨tlook tys, olook [], ioF, 0, false, []⟩

theorem impl_wordSet_isRow_n1_l (x3292 : Int) : Link impl_wordSet_isRow_ctx LL (bodyOf Tryd.f62) impl_wordSet_isRow_an ⟨mkE 14 0 [(0, dW x3292)], []⟩ (impl_wordSet_isRow_n1 x3292) (fun (t : Bool) => (Exit.ret, ⟨mkE 14 0 [(2, dB t)], []⟩)) := by
  refine Link.of fun K h => ?_
  simp only [impl_wordSet_isRow_n1, wpO_bind, wpO_cond, wpO_map, wpO_some] at h
  exact Awp.of (by kernel_rfl) h

theorem impl_wordSet_isRow_e (x3292 : Int) {r : AV} {H' : Heap} (h : (Ans.mk _ (impl_wordSet_isRow x3292) (fun (t : Bool) => (dB t, [])) [] none).run = some (r, H')) : Awp impl_wordSet_isRow_ctx LL (bodyOf Tryd.f62) impl_wordSet_isRow_an ⟨mkE 14 0 [(0, dW x3292)], []⟩ (Ret (tlook tys) Tryd.f62.results.toList r H') :=
  ret_of' (impl_wordSet_isRow_n1_l x3292) (by unfold impl_wordSet_isRow; kernel_rfl) (by
  intro t
  exact ret_mk [dB t] (by kernel_rfl) (by kernel_rfl) (by kernel_rfl) (by kernel_rfl)) h

def F_impl_wordSet_isRow : Fun := fun avs H =>
  match avs, H with
  | [.dat (.int .u64) x3292], [] => ⟨_, impl_wordSet_isRow x3292, fun (t : Bool) => (dB t, []), [], none⟩
  | _, _ => Ans.no

theorem impl_wordSet_isRow_sound : Sound Tryd.prog 62 F_impl_wordSet_isRow := by
  refine fn_sound' (C := impl_wordSet_isRow_ctx) (c := bodyOf Tryd.f62) (cok_of tys_ok (alln) (alln) (by kernel_rfl)) Tryd.func62 (by kernel_rfl) LL impl_wordSet_isRow_an ?_
  intro avs H r H' h
  unfold F_impl_wordSet_isRow at h
  split at h
  · refine Awp.cast ?_ ?_ ?_ (impl_wordSet_isRow_e _ h) <;> kernel_rfl
  · simp [Ans.no, Ans.run] at h


/-! loop.example/headtrees/impl.FlatOk -/

def impl_FlatOk_an : Ann := (.seq (.leaf [0]) (.seq (.seq (.leaf [0, 7]) (.cond (.seq (.leaf [2]) (.leaf [2])) (.leaf [0]))) (.seq (.seq (.leaf [9, 10, 11]) (.block (.loop (.seq (.leaf [9, 10, 11, 12]) (.seq (.cond (.leaf [9, 10, 11]) (.leaf [])) (.seq (.block (.seq (.leaf [4, 9, 10, 11]) (.seq (.leaf [9, 10, 11, 17]) (.cond (.seq (.leaf [2]) (.leaf [2])) (.leaf [9, 10, 11]))))) (.leaf [9, 10, 11]))))))) (.seq (.leaf [2]) (.leaf [2])))))

noncomputable def impl_FlatOk_ctx : Ctx := ⟨tlook tys, olook [(31, F_impl_TreeOk), (61, F_impl_yieldsOf), (62, F_impl_wordSet_isRow)], ioF, 0, false, []⟩

theorem impl_FlatOk_n1_l (x3162 : List Int) : Link impl_FlatOk_ctx LL (Code.seq (cq [0] (bodyOf Tryd.f22)) (cq [0,1] (bodyOf Tryd.f22))) (Ann.seq (aq [0] impl_FlatOk_an) (aq [0,1] impl_FlatOk_an)) ⟨mkE 19 0 [(0, dL x3162)], []⟩ (impl_FlatOk_n1 x3162) (Sum.elim (fun (t : Unit) => (Exit.normal, ⟨mkE 19 0 [(0, dL x3162)], []⟩)) (fun (t : Bool) => (Exit.ret, ⟨mkE 19 0 [(2, dB t)], []⟩))) := by
  refine Link.of fun K h => ?_
  simp only [impl_FlatOk_n1, wpO_bind, wpO_cond, wpO_map, wpO_some] at h
  exact Awp.of (by kernel_rfl) h

theorem impl_FlatOk_n2_l (x3162 : List Int) : Link impl_FlatOk_ctx LL (cq [0,0,1,1] (bodyOf Tryd.f22)) (aq [0,0,1,1] impl_FlatOk_an) ⟨mkE 19 0 [(0, dL x3162)], []⟩ (impl_FlatOk_n2 x3162) (fun (t : Int × (List Int)) => (Exit.normal, ⟨mkE 19 0 [(9, .slc 0), (10, dI t.1), (11, dI 0)], [some (.seq (.int .u64) t.2)]⟩)) := by
  refine Link.of fun K h => ?_
  simp only [impl_FlatOk_n2, wpO_bind, wpO_cond, wpO_map, wpO_some] at h
  exact Awp.of (by kernel_rfl) h

theorem impl_FlatOk_n3_l (x3286 : Int) (x3313 : Int) (x3285 : List Int) : Link impl_FlatOk_ctx LL (cq [0,0,1,0,1,1] (bodyOf Tryd.f22)) (aq [0,0,1,0,1,1] impl_FlatOk_an) ⟨mkE 19 0 [(9, .slc 0), (10, dI x3286), (11, dI x3313)], [some (.seq (.int .u64) x3285)]⟩ (impl_FlatOk_n3 x3286 x3313 x3285) (Sum.elim (fun (t : Int) => (Exit.normal, ⟨mkE 19 0 [(9, .slc 0), (10, dI x3286), (11, dI t)], [some (.seq (.int .u64) x3285)]⟩)) (Sum.elim (fun (t : Bool) => (Exit.ret, ⟨mkE 19 0 [(2, dB t)], []⟩)) (fun (t : Unit) => ((Exit.exit 0), ⟨mkE 19 0 [], []⟩)))) := by
  refine Link.of fun K h => ?_
  simp only [impl_FlatOk_n3, wpO_bind, wpO_cond, wpO_map, wpO_some] at h
  exact Awp.of (by kernel_rfl) h

def impl_FlatOk_n4_l (x3286 : Int) (x3285 : List Int) := (link_loop (mk := fun (s : Int) => ⟨mkE 19 0 [(9, .slc 0), (10, dI x3286), (11, dI s)], [some (.seq (.int .u64) x3285)]⟩) (fin := (Sum.elim (fun (t : Bool) => (Exit.ret, ⟨mkE 19 0 [(2, dB t)], []⟩)) (fun (t : Unit) => ((Exit.exit 0), ⟨mkE 19 0 [], []⟩)))) (by
  rintro (t | t) f K h
  · exact h
  · exact h) (fun s => link_map (impl_FlatOk_n3_l x3286 s x3285) (Sum.elim (fun (t : Int) => Sum.inl t) (Sum.elim (fun (t : Bool) => Sum.inr (Sum.inl t)) (fun (t : Unit) => Sum.inr (Sum.inr t)))) (by
  rintro (t | t | t)
  · kernel_rfl
  · kernel_rfl
  · kernel_rfl)) 0)

def impl_FlatOk_n5_l (x3286 : Int) (x3285 : List Int) := (link_block (fin2 := (Sum.elim (fun (t : Unit) => (Exit.normal, ⟨mkE 19 0 [], []⟩)) (fun (t : Bool) => (Exit.ret, ⟨mkE 19 0 [(2, dB t)], []⟩)))) (id := 0) (impl_FlatOk_n4_l x3286 x3285) (Sum.elim (fun (t : Bool) => (Sum.inr t)) (fun (t : Unit) => (Sum.inl ()))) (by
  rintro (t | t) K h
  · exact Eq.mp (by kernel_rfl) h
  · exact Eq.mp (by kernel_rfl) h))

def impl_FlatOk_n6_l (x3162 : List Int) := (link_seq (impl_FlatOk_n2_l x3162) (fun (t : Int × (List Int)) => (impl_FlatOk_n5_l t.1 t.2)))

theorem impl_FlatOk_n7_l : Link impl_FlatOk_ctx LL (cq [1,1,1] (bodyOf Tryd.f22)) (aq [1,1,1] impl_FlatOk_an) ⟨mkE 19 0 [], []⟩ (impl_FlatOk_n7) (fun (t : Bool) => (Exit.ret, ⟨mkE 19 0 [(2, dB t)], []⟩)) := by
  refine Link.of fun K h => ?_
  simp only [impl_FlatOk_n7, wpO_bind, wpO_cond, wpO_map, wpO_some] at h
  exact Awp.of (by kernel_rfl) h

def impl_FlatOk_n8_l (x3162 : List Int) := (link_seq2 (impl_FlatOk_n6_l x3162) (fun (t : Unit) => (impl_FlatOk_n7_l)) (fun (t : Bool) => t) (by
  rintro t
  · kernel_rfl) (by
  rintro t f K h
  · exact h))

def impl_FlatOk_n9_l (x3162 : List Int) := (link_group (c := (cq [0,1] (bodyOf Tryd.f22))) (a := (aq [0,1] impl_FlatOk_an)) [(cq [0] (bodyOf Tryd.f22))] [(aq [0] impl_FlatOk_an)] rfl (link_seq2 (impl_FlatOk_n1_l x3162) (fun (t : Unit) => (impl_FlatOk_n8_l x3162)) (fun (t : Bool) => t) (by
  rintro t
  · kernel_rfl) (by
  rintro t f K h
  · exact h)))

theorem impl_FlatOk_e (x3162 : List Int) {r : AV} {H' : Heap} (h : (Ans.mk _ (impl_FlatOk x3162) (fun (t : Bool) => (dB t, [])) [] none).run = some (r, H')) : Awp impl_FlatOk_ctx LL (bodyOf Tryd.f22) impl_FlatOk_an ⟨mkE 19 0 [(0, dL x3162)], []⟩ (Ret (tlook tys) Tryd.f22.results.toList r H') :=
  ret_of' (Link.cast (by kernel_rfl) (by kernel_rfl) (impl_FlatOk_n9_l x3162)) (by unfold impl_FlatOk; kernel_rfl) (by
  intro t
  exact ret_mk [dB t] (by kernel_rfl) (by kernel_rfl) (by kernel_rfl) (by kernel_rfl)) h

def F_impl_FlatOk : Fun := fun avs H =>
  match avs, H with
  | [.dat (.list (.int .i64)) x3162], [] => ⟨_, impl_FlatOk x3162, fun (t : Bool) => (dB t, []), [], none⟩
  | _, _ => Ans.no

theorem impl_FlatOk_sound : Sound Tryd.prog 22 F_impl_FlatOk := by
  refine fn_sound' (C := impl_FlatOk_ctx) (c := bodyOf Tryd.f22) (cok_of tys_ok (allc impl_TreeOk_sound (allc impl_yieldsOf_sound (allc impl_wordSet_isRow_sound alln))) (allc Tryd.call31 (allc Tryd.call61 (allc Tryd.call62 alln))) (by kernel_rfl)) Tryd.func22 (by kernel_rfl) LL impl_FlatOk_an ?_
  intro avs H r H' h
  unfold F_impl_FlatOk at h
  split at h
  · refine Awp.cast ?_ ?_ ?_ (impl_FlatOk_e _ h) <;> kernel_rfl
  · simp [Ans.no, Ans.run] at h


/-! (loop.example/headtrees/impl.joins).numberOf -/

def impl_joins_numberOf_an : Ann := (.seq (.leaf [3, 4, 5]) (.seq (.draw [8] [0, 1, 2, 3, 4, 5, 6, 7, 9, 10, 11, 12, 13, 14, 15, 16, 18, 19, 8, 17, 20, 21] [] [6]) (.leaf [6])))

noncomputable def impl_joins_numberOf_ctx : Ctx := ⟨tlook tys, olook [(120, F_impl_joins_below)], ioF, 0, false, []⟩

theorem impl_joins_numberOf_n1_l (x3423 : Int) (x3424 : Int) (x3425 : Int) (x3426 : Int) (x3427 : Int) (x3428 : Int) (x3429 : Int) (x3430 : Int) (x3431 : Int) (x3432 : Int) (x3433 : Int) (x3434 : Int) (x3435 : Int) (x3436 : Int) (x3437 : Int) (x3438 : Int) (x3439 : Int) (x3440 : Int) : Link impl_joins_numberOf_ctx LL (bodyOf Tryd.f98) impl_joins_numberOf_an ⟨mkE 28 0 [(0, .agg [dI x3423, dI x3424, dI x3425, dI x3426, dI x3427, dI x3428, dI x3429, dI x3430, dI x3431, dI x3432, dI x3433, dI x3434, dI x3435, dI x3436]), (1, .agg [dI x3437, dI x3438]), (2, .agg [dI x3439, dI x3440])], []⟩ (impl_joins_numberOf_n1 x3423 x3424 x3425 x3426 x3427 x3428 x3429 x3430 x3431 x3432 x3433 x3434 x3435 x3436 x3437 x3438 x3439 x3440) (fun (t : Int) => (Exit.ret, ⟨mkE 28 0 [(6, dI t)], []⟩)) := by
  refine Link.of fun K h => ?_
  simp only [impl_joins_numberOf_n1, wpO_bind, wpO_cond, wpO_map, wpO_some] at h
  exact Awp.of (by kernel_rfl) h

theorem impl_joins_numberOf_e (x3423 : Int) (x3424 : Int) (x3425 : Int) (x3426 : Int) (x3427 : Int) (x3428 : Int) (x3429 : Int) (x3430 : Int) (x3431 : Int) (x3432 : Int) (x3433 : Int) (x3434 : Int) (x3435 : Int) (x3436 : Int) (x3437 : Int) (x3438 : Int) (x3439 : Int) (x3440 : Int) {r : AV} {H' : Heap} (h : (Ans.mk _ (impl_joins_numberOf x3423 x3424 x3425 x3426 x3427 x3428 x3429 x3430 x3431 x3432 x3433 x3434 x3435 x3436 x3437 x3438 x3439 x3440) (fun (t : Int) => (dI t, [])) [] none).run = some (r, H')) : Awp impl_joins_numberOf_ctx LL (bodyOf Tryd.f98) impl_joins_numberOf_an ⟨mkE 28 0 [(0, .agg [dI x3423, dI x3424, dI x3425, dI x3426, dI x3427, dI x3428, dI x3429, dI x3430, dI x3431, dI x3432, dI x3433, dI x3434, dI x3435, dI x3436]), (1, .agg [dI x3437, dI x3438]), (2, .agg [dI x3439, dI x3440])], []⟩ (Ret (tlook tys) Tryd.f98.results.toList r H') :=
  ret_of' (impl_joins_numberOf_n1_l x3423 x3424 x3425 x3426 x3427 x3428 x3429 x3430 x3431 x3432 x3433 x3434 x3435 x3436 x3437 x3438 x3439 x3440) (by unfold impl_joins_numberOf; kernel_rfl) (by
  intro t
  exact ret_mk [dI t] (by kernel_rfl) (by kernel_rfl) (by kernel_rfl) (by kernel_rfl)) h

def F_impl_joins_numberOf : Fun := fun avs H =>
  match avs, H with
  | [.agg [.dat (.int .i64) x3423, .dat (.int .i64) x3424, .dat (.int .i64) x3425, .dat (.int .i64) x3426, .dat (.int .i64) x3427, .dat (.int .i64) x3428, .dat (.int .i64) x3429, .dat (.int .i64) x3430, .dat (.int .i64) x3431, .dat (.int .i64) x3432, .dat (.int .i64) x3433, .dat (.int .i64) x3434, .dat (.int .i64) x3435, .dat (.int .i64) x3436], .agg [.dat (.int .i64) x3437, .dat (.int .i64) x3438], .agg [.dat (.int .i64) x3439, .dat (.int .i64) x3440]], [] => ⟨_, impl_joins_numberOf x3423 x3424 x3425 x3426 x3427 x3428 x3429 x3430 x3431 x3432 x3433 x3434 x3435 x3436 x3437 x3438 x3439 x3440, fun (t : Int) => (dI t, []), [], none⟩
  | _, _ => Ans.no

theorem impl_joins_numberOf_sound : Sound Tryd.prog 98 F_impl_joins_numberOf := by
  refine fn_sound' (C := impl_joins_numberOf_ctx) (c := bodyOf Tryd.f98) (cok_of tys_ok (allc impl_joins_below_sound alln) (allc Tryd.call120 alln) (by kernel_rfl)) Tryd.func98 (by kernel_rfl) LL impl_joins_numberOf_an ?_
  intro avs H r H' h
  unfold F_impl_joins_numberOf at h
  split at h
  · refine Awp.cast ?_ ?_ ?_ (impl_joins_numberOf_e _ _ _ _ _ _ _ _ _ _ _ _ _ _ _ _ _ _ h) <;> kernel_rfl
  · simp [Ans.no, Ans.run] at h


/-! (loop.example/headtrees/impl.flatCounts).numberOfTree, (loop.example/headtrees/impl.flatCounts).numberOfRow -/

def impl_flatCounts_numberOfTree_an : Ann := (.seq (.leaf [1, 2, 3, 6]) (.seq (.leaf [1, 3, 6, 7, 8]) (.seq (.draw [3, 4] [0, 1, 2, 3, 4, 5, 6] [] [1, 3, 6, 8, 9]) (.seq (.draw [3, 4] [0, 1, 2, 3, 4, 5, 6] [] [3, 6, 9, 10]) (.seq (.draw [7, 10] [0, 1, 2, 3, 4, 5, 6, 8, 9, 7, 10, 11, 12] [] [6]) (.leaf [6]))))))

def impl_flatCounts_numberOfRow_an : Ann := (.seq (.leaf [1, 2, 3, 6]) (.seq (.seq (.leaf [1, 2, 3, 6, 11]) (.cond (.seq (.leaf [6]) (.leaf [6])) (.leaf [1, 2, 3, 6]))) (.seq (.draw [5] [0, 1, 2, 3, 4, 5, 6, 7] [] [1, 2, 3, 6, 7]) (.seq (.draw [4] [0, 1, 2, 3, 4, 5, 6] [] [3, 6, 7, 8]) (.seq (.draw [6, 9] [0, 1, 2, 3, 4, 5, 7, 8, 6, 9, 10, 11] [] [6]) (.leaf [6]))))))

def F_impl_flatCounts_numberOfTree_fuel (n : Nat) : Fun := fun avs H =>
  match avs, H with
  | [.agg [.dat (.int .i64) x3356, .dat (.int .i64) x3357, .dat (.int .i64) x3358, .dat (.int .i64) x3359, .dat (.int .i64) x3360, .dat (.int .i64) x3361, .dat (.int .i64) x3362, .dat (.int .i64) x3363, .dat (.int .i64) x3364, .dat (.int .i64) x3365, .dat (.int .i64) x3366, .dat (.int .i64) x3367, .dat (.int .i64) x3368, .dat (.int .i64) x3369], .dat (.list (.int .i64)) x3370, .dat (.int .i64) x3371], [] => ⟨_, impl_flatCounts_numberOfTree_fuel n x3356 x3357 x3358 x3359 x3360 x3361 x3362 x3363 x3364 x3365 x3366 x3367 x3368 x3369 x3370 x3371, fun (t : Int × Int) => (.agg [dI t.1, dI t.2], [some (.box [dI t.1, dI t.2])]), [], none⟩
  | _, _ => Ans.no

def F_impl_flatCounts_numberOfRow_fuel (n : Nat) : Fun := fun avs H =>
  match avs, H with
  | [.agg [.dat (.int .i64) x3474, .dat (.int .i64) x3475, .dat (.int .i64) x3476, .dat (.int .i64) x3477, .dat (.int .i64) x3478, .dat (.int .i64) x3479, .dat (.int .i64) x3480, .dat (.int .i64) x3481, .dat (.int .i64) x3482, .dat (.int .i64) x3483, .dat (.int .i64) x3484, .dat (.int .i64) x3485, .dat (.int .i64) x3486, .dat (.int .i64) x3487], .dat (.list (.int .i64)) x3488, .dat (.list (.int .i64)) x3489], [] => ⟨_, impl_flatCounts_numberOfRow_fuel n x3474 x3475 x3476 x3477 x3478 x3479 x3480 x3481 x3482 x3483 x3484 x3485 x3486 x3487 x3488 x3489, fun (t : Int × Int) => (.agg [dI t.1, dI t.2], [some (.box [dI t.1, dI t.2])]), [], none⟩
  | _, _ => Ans.no

noncomputable def impl_flatCounts_numberOfTree_ctx (n : Nat) : Ctx := ⟨tlook tys, olook [(49, F_impl_dependentsBeside), (54, F_impl_wordSet_list), (97, F_impl_flatCounts_numberOfRow_fuel n), (89, F_impl_flatCounts_aroundRoots), (98, F_impl_joins_numberOf)], ioF, 0, false, []⟩

noncomputable def impl_flatCounts_numberOfRow_ctx (n : Nat) : Ctx := ⟨tlook tys, olook [(63, F_impl_flatCounts_numberOfTree_fuel n), (97, F_impl_flatCounts_numberOfRow_fuel n), (91, F_impl_flatCounts_inRows), (98, F_impl_joins_numberOf)], ioF, 0, false, []⟩

theorem impl_flatCounts_numberOfTree_n1_l (n : Nat) (x3356 : Int) (x3357 : Int) (x3358 : Int) (x3359 : Int) (x3360 : Int) (x3361 : Int) (x3362 : Int) (x3363 : Int) (x3364 : Int) (x3365 : Int) (x3366 : Int) (x3367 : Int) (x3368 : Int) (x3369 : Int) (x3370 : List Int) (x3371 : Int) : Link (impl_flatCounts_numberOfTree_ctx n) LL (bodyOf Tryd.f63) impl_flatCounts_numberOfTree_an ⟨mkE 39 0 [(0, .agg [dI x3356, dI x3357, dI x3358, dI x3359, dI x3360, dI x3361, dI x3362, dI x3363, dI x3364, dI x3365, dI x3366, dI x3367, dI x3368, dI x3369]), (1, dL x3370), (2, dI x3371)], []⟩ (impl_flatCounts_numberOfTree_n1 (impl_flatCounts_numberOfTree_fuel n) (impl_flatCounts_numberOfRow_fuel n) x3356 x3357 x3358 x3359 x3360 x3361 x3362 x3363 x3364 x3365 x3366 x3367 x3368 x3369 x3370 x3371) (fun (t : Int × Int) => (Exit.ret, ⟨mkE 39 0 [(6, .ptr 0 0)], [some (.box [dI t.1, dI t.2])]⟩)) := by
  refine Link.of fun K h => ?_
  simp only [impl_flatCounts_numberOfTree_n1, wpO_bind, wpO_cond, wpO_map, wpO_some] at h
  exact Awp.of (by kernel_rfl) h

theorem impl_flatCounts_numberOfTree_e (n : Nat) (x3356 : Int) (x3357 : Int) (x3358 : Int) (x3359 : Int) (x3360 : Int) (x3361 : Int) (x3362 : Int) (x3363 : Int) (x3364 : Int) (x3365 : Int) (x3366 : Int) (x3367 : Int) (x3368 : Int) (x3369 : Int) (x3370 : List Int) (x3371 : Int) {r : AV} {H' : Heap} (h : (Ans.mk _ (impl_flatCounts_numberOfTree_fuel (n + 1) x3356 x3357 x3358 x3359 x3360 x3361 x3362 x3363 x3364 x3365 x3366 x3367 x3368 x3369 x3370 x3371) (fun (t : Int × Int) => (.agg [dI t.1, dI t.2], [some (.box [dI t.1, dI t.2])])) [] none).run = some (r, H')) : Awp (impl_flatCounts_numberOfTree_ctx n) LL (bodyOf Tryd.f63) impl_flatCounts_numberOfTree_an ⟨mkE 39 0 [(0, .agg [dI x3356, dI x3357, dI x3358, dI x3359, dI x3360, dI x3361, dI x3362, dI x3363, dI x3364, dI x3365, dI x3366, dI x3367, dI x3368, dI x3369]), (1, dL x3370), (2, dI x3371)], []⟩ (Ret (tlook tys) Tryd.f63.results.toList r H') :=
  ret_of' (impl_flatCounts_numberOfTree_n1_l n x3356 x3357 x3358 x3359 x3360 x3361 x3362 x3363 x3364 x3365 x3366 x3367 x3368 x3369 x3370 x3371) (by (show _ = _); kernel_rfl) (by
  intro t
  exact ret_mk [.agg [dI t.1, dI t.2]] (by kernel_rfl) (by kernel_rfl) (by kernel_rfl) (by kernel_rfl)) h

theorem impl_flatCounts_numberOfRow_n1_l (n : Nat) (x3474 : Int) (x3475 : Int) (x3476 : Int) (x3477 : Int) (x3478 : Int) (x3479 : Int) (x3480 : Int) (x3481 : Int) (x3482 : Int) (x3483 : Int) (x3484 : Int) (x3485 : Int) (x3486 : Int) (x3487 : Int) (x3488 : List Int) (x3489 : List Int) : Link (impl_flatCounts_numberOfRow_ctx n) LL (bodyOf Tryd.f97) impl_flatCounts_numberOfRow_an ⟨mkE 35 0 [(0, .agg [dI x3474, dI x3475, dI x3476, dI x3477, dI x3478, dI x3479, dI x3480, dI x3481, dI x3482, dI x3483, dI x3484, dI x3485, dI x3486, dI x3487]), (1, dL x3488), (2, dL x3489)], []⟩ (impl_flatCounts_numberOfRow_n1 (impl_flatCounts_numberOfTree_fuel n) (impl_flatCounts_numberOfRow_fuel n) x3474 x3475 x3476 x3477 x3478 x3479 x3480 x3481 x3482 x3483 x3484 x3485 x3486 x3487 x3488 x3489) (fun (t : Int × Int) => (Exit.ret, ⟨mkE 35 0 [(6, .ptr 0 0)], [some (.box [dI t.1, dI t.2])]⟩)) := by
  refine Link.of fun K h => ?_
  simp only [impl_flatCounts_numberOfRow_n1, wpO_bind, wpO_cond, wpO_map, wpO_some] at h
  exact Awp.of (by kernel_rfl) h

theorem impl_flatCounts_numberOfRow_e (n : Nat) (x3474 : Int) (x3475 : Int) (x3476 : Int) (x3477 : Int) (x3478 : Int) (x3479 : Int) (x3480 : Int) (x3481 : Int) (x3482 : Int) (x3483 : Int) (x3484 : Int) (x3485 : Int) (x3486 : Int) (x3487 : Int) (x3488 : List Int) (x3489 : List Int) {r : AV} {H' : Heap} (h : (Ans.mk _ (impl_flatCounts_numberOfRow_fuel (n + 1) x3474 x3475 x3476 x3477 x3478 x3479 x3480 x3481 x3482 x3483 x3484 x3485 x3486 x3487 x3488 x3489) (fun (t : Int × Int) => (.agg [dI t.1, dI t.2], [some (.box [dI t.1, dI t.2])])) [] none).run = some (r, H')) : Awp (impl_flatCounts_numberOfRow_ctx n) LL (bodyOf Tryd.f97) impl_flatCounts_numberOfRow_an ⟨mkE 35 0 [(0, .agg [dI x3474, dI x3475, dI x3476, dI x3477, dI x3478, dI x3479, dI x3480, dI x3481, dI x3482, dI x3483, dI x3484, dI x3485, dI x3486, dI x3487]), (1, dL x3488), (2, dL x3489)], []⟩ (Ret (tlook tys) Tryd.f97.results.toList r H') :=
  ret_of' (impl_flatCounts_numberOfRow_n1_l n x3474 x3475 x3476 x3477 x3478 x3479 x3480 x3481 x3482 x3483 x3484 x3485 x3486 x3487 x3488 x3489) (by (show _ = _); kernel_rfl) (by
  intro t
  exact ret_mk [.agg [dI t.1, dI t.2]] (by kernel_rfl) (by kernel_rfl) (by kernel_rfl) (by kernel_rfl)) h

theorem impl_flatCounts_numberOfTree_step (n : Nat) (h63 : Sound Tryd.prog 63 (F_impl_flatCounts_numberOfTree_fuel n)) (h97 : Sound Tryd.prog 97 (F_impl_flatCounts_numberOfRow_fuel n)) : Sound Tryd.prog 63 (F_impl_flatCounts_numberOfTree_fuel (n + 1)) := by
  refine fn_sound' (C := impl_flatCounts_numberOfTree_ctx n) (c := bodyOf Tryd.f63) (cok_of tys_ok (allc impl_dependentsBeside_sound (allc impl_wordSet_list_sound (allc h97 (allc impl_flatCounts_aroundRoots_sound (allc impl_joins_numberOf_sound alln))))) (allc Tryd.call49 (allc Tryd.call54 (allc Tryd.call97 (allc Tryd.call89 (allc Tryd.call98 alln))))) (by kernel_rfl)) Tryd.func63 (by kernel_rfl) LL impl_flatCounts_numberOfTree_an ?_
  intro avs H r H' h
  unfold F_impl_flatCounts_numberOfTree_fuel at h
  split at h
  · refine Awp.cast ?_ ?_ ?_ (impl_flatCounts_numberOfTree_e n _ _ _ _ _ _ _ _ _ _ _ _ _ _ _ _ h) <;> kernel_rfl
  · simp [Ans.no, Ans.run] at h

theorem impl_flatCounts_numberOfTree_null : Sound Tryd.prog 63 (F_impl_flatCounts_numberOfTree_fuel 0) := by
  intro avs H r H' h
  unfold F_impl_flatCounts_numberOfTree_fuel at h
  split at h
  · simp [impl_flatCounts_numberOfTree_fuel, impl_flatCounts_numberOfTree_knot, Ans.run] at h
  · simp [Ans.no, Ans.run] at h

theorem impl_flatCounts_numberOfRow_step (n : Nat) (h63 : Sound Tryd.prog 63 (F_impl_flatCounts_numberOfTree_fuel n)) (h97 : Sound Tryd.prog 97 (F_impl_flatCounts_numberOfRow_fuel n)) : Sound Tryd.prog 97 (F_impl_flatCounts_numberOfRow_fuel (n + 1)) := by
  refine fn_sound' (C := impl_flatCounts_numberOfRow_ctx n) (c := bodyOf Tryd.f97) (cok_of tys_ok (allc h63 (allc h97 (allc impl_flatCounts_inRows_sound (allc impl_joins_numberOf_sound alln)))) (allc Tryd.call63 (allc Tryd.call97 (allc Tryd.call91 (allc Tryd.call98 alln)))) (by kernel_rfl)) Tryd.func97 (by kernel_rfl) LL impl_flatCounts_numberOfRow_an ?_
  intro avs H r H' h
  unfold F_impl_flatCounts_numberOfRow_fuel at h
  split at h
  · refine Awp.cast ?_ ?_ ?_ (impl_flatCounts_numberOfRow_e n _ _ _ _ _ _ _ _ _ _ _ _ _ _ _ _ h) <;> kernel_rfl
  · simp [Ans.no, Ans.run] at h

theorem impl_flatCounts_numberOfRow_null : Sound Tryd.prog 97 (F_impl_flatCounts_numberOfRow_fuel 0) := by
  intro avs H r H' h
  unfold F_impl_flatCounts_numberOfRow_fuel at h
  split at h
  · simp [impl_flatCounts_numberOfRow_fuel, impl_flatCounts_numberOfTree_knot, Ans.run] at h
  · simp [Ans.no, Ans.run] at h

theorem impl_flatCounts_numberOfTree_knot_all : ∀ n, Sound Tryd.prog 63 (F_impl_flatCounts_numberOfTree_fuel n) ∧ Sound Tryd.prog 97 (F_impl_flatCounts_numberOfRow_fuel n)
  | 0 => ⟨impl_flatCounts_numberOfTree_null, impl_flatCounts_numberOfRow_null⟩
  | n + 1 => by
    obtain ⟨h63, h97⟩ := impl_flatCounts_numberOfTree_knot_all n
    exact ⟨impl_flatCounts_numberOfTree_step n h63 h97, impl_flatCounts_numberOfRow_step n h63 h97⟩

def F_impl_flatCounts_numberOfTree : Fun := fun avs H =>
  match avs, H with
  | [.agg [.dat (.int .i64) x3356, .dat (.int .i64) x3357, .dat (.int .i64) x3358, .dat (.int .i64) x3359, .dat (.int .i64) x3360, .dat (.int .i64) x3361, .dat (.int .i64) x3362, .dat (.int .i64) x3363, .dat (.int .i64) x3364, .dat (.int .i64) x3365, .dat (.int .i64) x3366, .dat (.int .i64) x3367, .dat (.int .i64) x3368, .dat (.int .i64) x3369], .dat (.list (.int .i64)) x3370, .dat (.int .i64) x3371], [] => ⟨_, impl_flatCounts_numberOfTree x3356 x3357 x3358 x3359 x3360 x3361 x3362 x3363 x3364 x3365 x3366 x3367 x3368 x3369 x3370 x3371, fun (t : Int × Int) => (.agg [dI t.1, dI t.2], [some (.box [dI t.1, dI t.2])]), [], none⟩
  | _, _ => Ans.no

theorem impl_flatCounts_numberOfTree_sound : Sound Tryd.prog 63 F_impl_flatCounts_numberOfTree := by
  have e : F_impl_flatCounts_numberOfTree = F_impl_flatCounts_numberOfTree_fuel RR := by
    funext avs H
    unfold F_impl_flatCounts_numberOfTree F_impl_flatCounts_numberOfTree_fuel
    split <;> first | rfl | (simp only [impl_flatCounts_numberOfTree])
  rw [e]
  exact (impl_flatCounts_numberOfTree_knot_all RR).1

def F_impl_flatCounts_numberOfRow : Fun := fun avs H =>
  match avs, H with
  | [.agg [.dat (.int .i64) x3474, .dat (.int .i64) x3475, .dat (.int .i64) x3476, .dat (.int .i64) x3477, .dat (.int .i64) x3478, .dat (.int .i64) x3479, .dat (.int .i64) x3480, .dat (.int .i64) x3481, .dat (.int .i64) x3482, .dat (.int .i64) x3483, .dat (.int .i64) x3484, .dat (.int .i64) x3485, .dat (.int .i64) x3486, .dat (.int .i64) x3487], .dat (.list (.int .i64)) x3488, .dat (.list (.int .i64)) x3489], [] => ⟨_, impl_flatCounts_numberOfRow x3474 x3475 x3476 x3477 x3478 x3479 x3480 x3481 x3482 x3483 x3484 x3485 x3486 x3487 x3488 x3489, fun (t : Int × Int) => (.agg [dI t.1, dI t.2], [some (.box [dI t.1, dI t.2])]), [], none⟩
  | _, _ => Ans.no

theorem impl_flatCounts_numberOfRow_sound : Sound Tryd.prog 97 F_impl_flatCounts_numberOfRow := by
  have e : F_impl_flatCounts_numberOfRow = F_impl_flatCounts_numberOfRow_fuel RR := by
    funext avs H
    unfold F_impl_flatCounts_numberOfRow F_impl_flatCounts_numberOfRow_fuel
    split <;> first | rfl | (simp only [impl_flatCounts_numberOfRow])
  rw [e]
  exact (impl_flatCounts_numberOfTree_knot_all RR).2


/-! loop.example/headtrees/impl.PlaceOf -/

def impl_PlaceOf_an : Ann := (.seq (.leaf [0]) (.seq (.seq (.leaf [0, 10]) (.cond (.seq (.leaf [2]) (.leaf [2])) (.leaf [0]))) (.seq (.leaf [2]) (.leaf [2]))))

noncomputable def impl_PlaceOf_ctx : Ctx := ⟨tlook tys, olook [(22, F_impl_FlatOk), (57, F_impl_countFlatParts), (24, F_impl_RootOf), (63, F_impl_flatCounts_numberOfTree)], ioF, 0, false, []⟩

theorem impl_PlaceOf_n1_l (x3331 : List Int) : Link impl_PlaceOf_ctx LL (bodyOf Tryd.f23) impl_PlaceOf_an ⟨mkE 17 0 [(0, dL x3331)], []⟩ (impl_PlaceOf_n1 x3331) (fun (t : Int) => (Exit.ret, ⟨mkE 17 0 [(2, dI t)], []⟩)) := by
  refine Link.of fun K h => ?_
  simp only [impl_PlaceOf_n1, wpO_bind, wpO_cond, wpO_map, wpO_some] at h
  exact Awp.of (by kernel_rfl) h

theorem impl_PlaceOf_e (x3331 : List Int) {r : AV} {H' : Heap} (h : (Ans.mk _ (impl_PlaceOf x3331) (fun (t : Int) => (dI t, [])) [] none).run = some (r, H')) : Awp impl_PlaceOf_ctx LL (bodyOf Tryd.f23) impl_PlaceOf_an ⟨mkE 17 0 [(0, dL x3331)], []⟩ (Ret (tlook tys) Tryd.f23.results.toList r H') :=
  ret_of' (impl_PlaceOf_n1_l x3331) (by unfold impl_PlaceOf; kernel_rfl) (by
  intro t
  exact ret_mk [dI t] (by kernel_rfl) (by kernel_rfl) (by kernel_rfl) (by kernel_rfl)) h

def F_impl_PlaceOf : Fun := fun avs H =>
  match avs, H with
  | [.dat (.list (.int .i64)) x3331], [] => ⟨_, impl_PlaceOf x3331, fun (t : Int) => (dI t, []), [], none⟩
  | _, _ => Ans.no

theorem impl_PlaceOf_sound : Sound Tryd.prog 23 F_impl_PlaceOf := by
  refine fn_sound' (C := impl_PlaceOf_ctx) (c := bodyOf Tryd.f23) (cok_of tys_ok (allc impl_FlatOk_sound (allc impl_countFlatParts_sound (allc impl_RootOf_sound (allc impl_flatCounts_numberOfTree_sound alln)))) (allc Tryd.call22 (allc Tryd.call57 (allc Tryd.call24 (allc Tryd.call63 alln)))) (by kernel_rfl)) Tryd.func23 (by kernel_rfl) LL impl_PlaceOf_an ?_
  intro avs H r H' h
  unfold F_impl_PlaceOf at h
  split at h
  · refine Awp.cast ?_ ?_ ?_ (impl_PlaceOf_e _ h) <;> kernel_rfl
  · simp [Ans.no, Ans.run] at h


/-! loop.example/headtrees/laws.FnFlatAt -/

def laws_FnFlatAt_an : Ann := (.seq (.leaf [0]) (.seq (.seq (.leaf [0, 13]) (.cond (.seq (.leaf [2]) (.leaf [2])) (.leaf [0]))) (.seq (.leaf [3, 4]) (.seq (.leaf [3, 4, 5, 6]) (.seq (.leaf [3, 4, 5, 6, 7, 8]) (.seq (.seq (.leaf [3, 4, 5, 6, 39]) (.cond (.seq (.leaf [2]) (.leaf [2])) (.leaf [3, 4, 5, 6]))) (.seq (.seq (.leaf [3, 4, 5, 41]) (.cond (.seq (.leaf [2]) (.leaf [2])) (.leaf [3, 4, 5]))) (.seq (.leaf [3, 4, 5, 9, 10]) (.seq (.leaf [2]) (.leaf [2]))))))))))

noncomputable def laws_FnFlatAt_ctx : Ctx := ⟨tlook tys, olook [(18, F_spec_DrawFlatAt), (19, F_impl_FlatAt), (20, F_spec_FlatAt), (21, F_laws_sameInts), (16, F_laws_alive), (22, F_impl_FlatOk), (23, F_impl_PlaceOf), (24, F_impl_RootOf)], ioF, 0, false, []⟩

theorem laws_FnFlatAt_n1_l (x1641 : List Int) : Link laws_FnFlatAt_ctx LL (bodyOf Tryd.f4) laws_FnFlatAt_an ⟨mkE 80 0 [(0, dV x1641)], []⟩ (laws_FnFlatAt_n1 x1641) (fun (t : Bool) => (Exit.ret, ⟨mkE 80 0 [(2, dB t)], []⟩)) := by
  refine Link.of fun K h => ?_
  simp only [laws_FnFlatAt_n1, wpO_bind, wpO_cond, wpO_map, wpO_some] at h
  exact Awp.of (by kernel_rfl) h

theorem laws_FnFlatAt_e (x1641 : List Int) {r : AV} {H' : Heap} (h : (Ans.mk _ (laws_FnFlatAt x1641) (fun (t : Bool) => (dB t, [])) [] none).run = some (r, H')) : Awp laws_FnFlatAt_ctx LL (bodyOf Tryd.f4) laws_FnFlatAt_an ⟨mkE 80 0 [(0, dV x1641)], []⟩ (Ret (tlook tys) Tryd.f4.results.toList r H') :=
  ret_of' (laws_FnFlatAt_n1_l x1641) (by unfold laws_FnFlatAt; kernel_rfl) (by
  intro t
  exact ret_mk [dB t] (by kernel_rfl) (by kernel_rfl) (by kernel_rfl) (by kernel_rfl)) h

def F_laws_FnFlatAt : Fun := fun avs H =>
  match avs, H with
  | [.dat (.list (.int .u8)) x1641], [] => ⟨_, laws_FnFlatAt x1641, fun (t : Bool) => (dB t, []), [], none⟩
  | _, _ => Ans.no

theorem laws_FnFlatAt_sound : Sound Tryd.prog 4 F_laws_FnFlatAt := by
  refine fn_sound' (C := laws_FnFlatAt_ctx) (c := bodyOf Tryd.f4) (cok_of tys_ok (allc spec_DrawFlatAt_sound (allc impl_FlatAt_sound (allc spec_FlatAt_sound (allc laws_sameInts_sound (allc laws_alive_sound (allc impl_FlatOk_sound (allc impl_PlaceOf_sound (allc impl_RootOf_sound alln)))))))) (allc Tryd.call18 (allc Tryd.call19 (allc Tryd.call20 (allc Tryd.call21 (allc Tryd.call16 (allc Tryd.call22 (allc Tryd.call23 (allc Tryd.call24 alln)))))))) (by kernel_rfl)) Tryd.func4 (by kernel_rfl) LL laws_FnFlatAt_an ?_
  intro avs H r H' h
  unfold F_laws_FnFlatAt at h
  split at h
  · refine Awp.cast ?_ ?_ ?_ (laws_FnFlatAt_e _ h) <;> kernel_rfl
  · simp [Ans.no, Ans.run] at h


end Go.Rv
