/-
  The checked code answers as the plain functions do; written by program. Conditions: none.
-/
import Derived.Test.YtgjhjbankpdcgaaDoorGFnSidesOf
import Derived.Test.YtgjhjbankpdcgaaDoorProg
set_option linter.unusedVariables false
set_option linter.unusedSimpArgs false
set_option linter.defProp false
set_option maxRecDepth 100000
namespace Go.Rv
open Go.Proofs
theorem ty3 : TIOk Tryd.prog 3 ⟨.int .i64, 1, 8, some (.int .i64), [.int .i64 0], false⟩ := ⟨⟨infoOf (Tryd.prog.info? 3), by kernel_rfl, by kernel_rfl, by kernel_rfl, .int .i64 0, by kernel_rfl, by kernel_rfl⟩, (by kernel_rfl : Tryd.prog.underlying 3 = some (.int .i64)), no_eq⟩
theorem ty4 : TIOk Tryd.prog 4 ⟨.bool, 1, 1, some .bool, [.bool false], false⟩ := ⟨⟨infoOf (Tryd.prog.info? 4), by kernel_rfl, by kernel_rfl, by kernel_rfl, .bool false, by kernel_rfl, by kernel_rfl⟩, (by kernel_rfl : Tryd.prog.underlying 4 = some .bool), no_eq⟩
theorem ty5 : TIOk Tryd.prog 5 ⟨.int .u8, 1, 1, some (.int .u8), [.int .u8 0], false⟩ := ⟨⟨infoOf (Tryd.prog.info? 5), by kernel_rfl, by kernel_rfl, by kernel_rfl, .int .u8 0, by kernel_rfl, by kernel_rfl⟩, (by kernel_rfl : Tryd.prog.underlying 5 = some (.int .u8)), no_eq⟩
theorem ty9 : TIOk Tryd.prog 9 ⟨.str, 1, 16, some .str, [.string ByteArray.empty], false⟩ := ⟨⟨infoOf (Tryd.prog.info? 9), by kernel_rfl, by kernel_rfl, by kernel_rfl, .string ByteArray.empty, by kernel_rfl, by kernel_rfl⟩, (by kernel_rfl : Tryd.prog.underlying 9 = some .string), no_eq⟩
theorem ty22 : TIOk Tryd.prog 22 ⟨.slice 5, 1, 24, some (.list (.int .u8)), [.slice none 0 0], false⟩ := ⟨⟨infoOf (Tryd.prog.info? 22), by kernel_rfl, by kernel_rfl, by kernel_rfl, .slice none 0 0, by kernel_rfl, by kernel_rfl⟩, (by kernel_rfl : Tryd.prog.underlying 22 = some (.slice 5)), no_eq⟩
theorem ty23 : TIOk Tryd.prog 23 ⟨.slice 3, 1, 24, some (.list (.int .i64)), [.slice none 0 0], false⟩ := ⟨⟨infoOf (Tryd.prog.info? 23), by kernel_rfl, by kernel_rfl, by kernel_rfl, .slice none 0 0, by kernel_rfl, by kernel_rfl⟩, (by kernel_rfl : Tryd.prog.underlying 23 = some (.slice 3)), no_eq⟩
theorem ty51 : TIOk Tryd.prog 51 ⟨.int .u64, 1, 8, some (.int .u64), [.int .u64 0], false⟩ := ⟨⟨infoOf (Tryd.prog.info? 51), by kernel_rfl, by kernel_rfl, by kernel_rfl, .int .u64 0, by kernel_rfl, by kernel_rfl⟩, (by kernel_rfl : Tryd.prog.underlying 51 = some (.int .u64)), no_eq⟩
theorem ty59 : TIOk Tryd.prog 59 ⟨.arr 7 3, 7, 56, none, [.int .i64 0, .int .i64 0, .int .i64 0, .int .i64 0, .int .i64 0, .int .i64 0, .int .i64 0], false⟩ := ⟨⟨infoOf (Tryd.prog.info? 59), by kernel_rfl, by kernel_rfl, by kernel_rfl, .agg #[.int .i64 0, .int .i64 0, .int .i64 0, .int .i64 0, .int .i64 0, .int .i64 0, .int .i64 0], by kernel_rfl, by kernel_rfl⟩, (by kernel_rfl : Tryd.prog.underlying 59 = some (.array 7 3)), no_eq⟩
theorem ty61 : TIOk Tryd.prog 61 ⟨.strct [(0, 59), (7, 59)], 14, 112, none, [.int .i64 0, .int .i64 0, .int .i64 0, .int .i64 0, .int .i64 0, .int .i64 0, .int .i64 0, .int .i64 0, .int .i64 0, .int .i64 0, .int .i64 0, .int .i64 0, .int .i64 0, .int .i64 0], false⟩ := ⟨⟨infoOf (Tryd.prog.info? 61), by kernel_rfl, by kernel_rfl, by kernel_rfl, .agg #[.int .i64 0, .int .i64 0, .int .i64 0, .int .i64 0, .int .i64 0, .int .i64 0, .int .i64 0, .int .i64 0, .int .i64 0, .int .i64 0, .int .i64 0, .int .i64 0, .int .i64 0, .int .i64 0], by kernel_rfl, by kernel_rfl⟩, ⟨fieldsOf (Tryd.prog.underlying 61), by kernel_rfl, by kernel_rfl⟩, no_eq⟩
theorem ty65 : TIOk Tryd.prog 65 ⟨.strct [(0, 3), (1, 3)], 2, 16, some (.pair (.int .i64) (.pair (.int .i64) .unit)), [.int .i64 0, .int .i64 0], false⟩ := ⟨⟨infoOf (Tryd.prog.info? 65), by kernel_rfl, by kernel_rfl, by kernel_rfl, .agg #[.int .i64 0, .int .i64 0], by kernel_rfl, by kernel_rfl⟩, ⟨fieldsOf (Tryd.prog.underlying 65), by kernel_rfl, by kernel_rfl⟩, no_eq⟩
theorem ty67 : TIOk Tryd.prog 67 ⟨.slice 51, 1, 24, some (.list (.int .u64)), [.slice none 0 0], false⟩ := ⟨⟨infoOf (Tryd.prog.info? 67), by kernel_rfl, by kernel_rfl, by kernel_rfl, .slice none 0 0, by kernel_rfl, by kernel_rfl⟩, (by kernel_rfl : Tryd.prog.underlying 67 = some (.slice 51)), no_eq⟩
theorem ty71 : TIOk Tryd.prog 71 ⟨.strct [(0, 23), (1, 3), (2, 3)], 3, 40, some (.pair (.list (.int .i64)) (.pair (.int .i64) (.pair (.int .i64) .unit))), [.slice none 0 0, .int .i64 0, .int .i64 0], false⟩ := ⟨⟨infoOf (Tryd.prog.info? 71), by kernel_rfl, by kernel_rfl, by kernel_rfl, .agg #[.slice none 0 0, .int .i64 0, .int .i64 0], by kernel_rfl, by kernel_rfl⟩, ⟨fieldsOf (Tryd.prog.underlying 71), by kernel_rfl, by kernel_rfl⟩, no_eq⟩
theorem ty78 : TIOk Tryd.prog 78 ⟨.arr 9 4, 9, 9, none, [.bool false, .bool false, .bool false, .bool false, .bool false, .bool false, .bool false, .bool false, .bool false], false⟩ := ⟨⟨infoOf (Tryd.prog.info? 78), by kernel_rfl, by kernel_rfl, by kernel_rfl, .agg #[.bool false, .bool false, .bool false, .bool false, .bool false, .bool false, .bool false, .bool false, .bool false], by kernel_rfl, by kernel_rfl⟩, (by kernel_rfl : Tryd.prog.underlying 78 = some (.array 9 4)), no_eq⟩
theorem ty79 : TIOk Tryd.prog 79 ⟨.scalar, 1, 8, none, [.pointer none], false⟩ := ⟨⟨infoOf (Tryd.prog.info? 79), by kernel_rfl, by kernel_rfl, by kernel_rfl, .pointer none, by kernel_rfl, by kernel_rfl⟩, ⟨descOf (Tryd.prog.underlying 79), by kernel_rfl, by kernel_rfl⟩, no_eq⟩
theorem ty81 : TIOk Tryd.prog 81 ⟨.map 5 85, 1, 8, none, [.map none], false⟩ := ⟨⟨infoOf (Tryd.prog.info? 81), by kernel_rfl, by kernel_rfl, by kernel_rfl, .map none, by kernel_rfl, by kernel_rfl⟩, (by kernel_rfl : Tryd.prog.underlying 81 = some (.map 5 85)), no_eq⟩
theorem ty85 : TIOk Tryd.prog 85 ⟨.scalar, 1, 8, none, [.nilFunc], false⟩ := ⟨⟨infoOf (Tryd.prog.info? 85), by kernel_rfl, by kernel_rfl, by kernel_rfl, .nilFunc, by kernel_rfl, by kernel_rfl⟩, ⟨descOf (Tryd.prog.underlying 85), by kernel_rfl, by kernel_rfl⟩, no_eq⟩
theorem ty89 : TIOk Tryd.prog 89 ⟨.strct [(0, 23), (1, 23), (2, 3), (3, 3)], 4, 64, some (.pair (.list (.int .i64)) (.pair (.list (.int .i64)) (.pair (.int .i64) (.pair (.int .i64) .unit)))), [.slice none 0 0, .slice none 0 0, .int .i64 0, .int .i64 0], false⟩ := ⟨⟨infoOf (Tryd.prog.info? 89), by kernel_rfl, by kernel_rfl, by kernel_rfl, .agg #[.slice none 0 0, .slice none 0 0, .int .i64 0, .int .i64 0], by kernel_rfl, by kernel_rfl⟩, ⟨fieldsOf (Tryd.prog.underlying 89), by kernel_rfl, by kernel_rfl⟩, no_eq⟩
theorem ty91 : TIOk Tryd.prog 91 ⟨.strct [(0, 22), (1, 3)], 2, 32, some (.pair (.list (.int .u8)) (.pair (.int .i64) .unit)), [.slice none 0 0, .int .i64 0], false⟩ := ⟨⟨infoOf (Tryd.prog.info? 91), by kernel_rfl, by kernel_rfl, by kernel_rfl, .agg #[.slice none 0 0, .int .i64 0], by kernel_rfl, by kernel_rfl⟩, ⟨fieldsOf (Tryd.prog.underlying 91), by kernel_rfl, by kernel_rfl⟩, no_eq⟩
theorem ty95 : TIOk Tryd.prog 95 ⟨.strct [(0, 59), (7, 59)], 14, 112, none, [.int .i64 0, .int .i64 0, .int .i64 0, .int .i64 0, .int .i64 0, .int .i64 0, .int .i64 0, .int .i64 0, .int .i64 0, .int .i64 0, .int .i64 0, .int .i64 0, .int .i64 0, .int .i64 0], false⟩ := ⟨⟨infoOf (Tryd.prog.info? 95), by kernel_rfl, by kernel_rfl, by kernel_rfl, .agg #[.int .i64 0, .int .i64 0, .int .i64 0, .int .i64 0, .int .i64 0, .int .i64 0, .int .i64 0, .int .i64 0, .int .i64 0, .int .i64 0, .int .i64 0, .int .i64 0, .int .i64 0, .int .i64 0], by kernel_rfl, by kernel_rfl⟩, ⟨fieldsOf (Tryd.prog.underlying 95), by kernel_rfl, by kernel_rfl⟩, no_eq⟩
theorem ty107 : TIOk Tryd.prog 107 ⟨.scalar, 1, 8, none, [.nilFunc], false⟩ := ⟨⟨infoOf (Tryd.prog.info? 107), by kernel_rfl, by kernel_rfl, by kernel_rfl, .nilFunc, by kernel_rfl, by kernel_rfl⟩, ⟨descOf (Tryd.prog.underlying 107), by kernel_rfl, by kernel_rfl⟩, no_eq⟩
theorem ty113 : TIOk Tryd.prog 113 ⟨.int .u64, 1, 8, some (.int .u64), [.int .u64 0], false⟩ := ⟨⟨infoOf (Tryd.prog.info? 113), by kernel_rfl, by kernel_rfl, by kernel_rfl, .int .u64 0, by kernel_rfl, by kernel_rfl⟩, (by kernel_rfl : Tryd.prog.underlying 113 = some (.int .u64)), no_eq⟩
theorem ty119 : TIOk Tryd.prog 119 ⟨.arr 64 5, 64, 64, none, [.int .u8 0, .int .u8 0, .int .u8 0, .int .u8 0, .int .u8 0, .int .u8 0, .int .u8 0, .int .u8 0, .int .u8 0, .int .u8 0, .int .u8 0, .int .u8 0, .int .u8 0, .int .u8 0, .int .u8 0, .int .u8 0, .int .u8 0, .int .u8 0, .int .u8 0, .int .u8 0, .int .u8 0, .int .u8 0, .int .u8 0, .int .u8 0, .int .u8 0, .int .u8 0, .int .u8 0, .int .u8 0, .int .u8 0, .int .u8 0, .int .u8 0, .int .u8 0, .int .u8 0, .int .u8 0, .int .u8 0, .int .u8 0, .int .u8 0, .int .u8 0, .int .u8 0, .int .u8 0, .int .u8 0, .int .u8 0, .int .u8 0, .int .u8 0, .int .u8 0, .int .u8 0, .int .u8 0, .int .u8 0, .int .u8 0, .int .u8 0, .int .u8 0, .int .u8 0, .int .u8 0, .int .u8 0, .int .u8 0, .int .u8 0, .int .u8 0, .int .u8 0, .int .u8 0, .int .u8 0, .int .u8 0, .int .u8 0, .int .u8 0, .int .u8 0], false⟩ := ⟨⟨infoOf (Tryd.prog.info? 119), by kernel_rfl, by kernel_rfl, by kernel_rfl, .agg #[.int .u8 0, .int .u8 0, .int .u8 0, .int .u8 0, .int .u8 0, .int .u8 0, .int .u8 0, .int .u8 0, .int .u8 0, .int .u8 0, .int .u8 0, .int .u8 0, .int .u8 0, .int .u8 0, .int .u8 0, .int .u8 0, .int .u8 0, .int .u8 0, .int .u8 0, .int .u8 0, .int .u8 0, .int .u8 0, .int .u8 0, .int .u8 0, .int .u8 0, .int .u8 0, .int .u8 0, .int .u8 0, .int .u8 0, .int .u8 0, .int .u8 0, .int .u8 0, .int .u8 0, .int .u8 0, .int .u8 0, .int .u8 0, .int .u8 0, .int .u8 0, .int .u8 0, .int .u8 0, .int .u8 0, .int .u8 0, .int .u8 0, .int .u8 0, .int .u8 0, .int .u8 0, .int .u8 0, .int .u8 0, .int .u8 0, .int .u8 0, .int .u8 0, .int .u8 0, .int .u8 0, .int .u8 0, .int .u8 0, .int .u8 0, .int .u8 0, .int .u8 0, .int .u8 0, .int .u8 0, .int .u8 0, .int .u8 0, .int .u8 0, .int .u8 0], by kernel_rfl, by kernel_rfl⟩, (by kernel_rfl : Tryd.prog.underlying 119 = some (.array 64 5)), no_eq⟩
theorem ty121 : TIOk Tryd.prog 121 ⟨.slice 23, 1, 24, some (.list (.list (.int .i64))), [.slice none 0 0], false⟩ := ⟨⟨infoOf (Tryd.prog.info? 121), by kernel_rfl, by kernel_rfl, by kernel_rfl, .slice none 0 0, by kernel_rfl, by kernel_rfl⟩, (by kernel_rfl : Tryd.prog.underlying 121 = some (.slice 23)), no_eq⟩
def tys : List (TypeId × TI) := [(3, ⟨.int .i64, 1, 8, some (.int .i64), [.int .i64 0], false⟩), (4, ⟨.bool, 1, 1, some .bool, [.bool false], false⟩), (5, ⟨.int .u8, 1, 1, some (.int .u8), [.int .u8 0], false⟩), (9, ⟨.str, 1, 16, some .str, [.string ByteArray.empty], false⟩), (22, ⟨.slice 5, 1, 24, some (.list (.int .u8)), [.slice none 0 0], false⟩), (23, ⟨.slice 3, 1, 24, some (.list (.int .i64)), [.slice none 0 0], false⟩), (51, ⟨.int .u64, 1, 8, some (.int .u64), [.int .u64 0], false⟩), (59, ⟨.arr 7 3, 7, 56, none, [.int .i64 0, .int .i64 0, .int .i64 0, .int .i64 0, .int .i64 0, .int .i64 0, .int .i64 0], false⟩), (61, ⟨.strct [(0, 59), (7, 59)], 14, 112, none, [.int .i64 0, .int .i64 0, .int .i64 0, .int .i64 0, .int .i64 0, .int .i64 0, .int .i64 0, .int .i64 0, .int .i64 0, .int .i64 0, .int .i64 0, .int .i64 0, .int .i64 0, .int .i64 0], false⟩), (65, ⟨.strct [(0, 3), (1, 3)], 2, 16, some (.pair (.int .i64) (.pair (.int .i64) .unit)), [.int .i64 0, .int .i64 0], false⟩), (67, ⟨.slice 51, 1, 24, some (.list (.int .u64)), [.slice none 0 0], false⟩), (71, ⟨.strct [(0, 23), (1, 3), (2, 3)], 3, 40, some (.pair (.list (.int .i64)) (.pair (.int .i64) (.pair (.int .i64) .unit))), [.slice none 0 0, .int .i64 0, .int .i64 0], false⟩), (78, ⟨.arr 9 4, 9, 9, none, [.bool false, .bool false, .bool false, .bool false, .bool false, .bool false, .bool false, .bool false, .bool false], false⟩), (79, ⟨.scalar, 1, 8, none, [.pointer none], false⟩), (81, ⟨.map 5 85, 1, 8, none, [.map none], false⟩), (85, ⟨.scalar, 1, 8, none, [.nilFunc], false⟩), (89, ⟨.strct [(0, 23), (1, 23), (2, 3), (3, 3)], 4, 64, some (.pair (.list (.int .i64)) (.pair (.list (.int .i64)) (.pair (.int .i64) (.pair (.int .i64) .unit)))), [.slice none 0 0, .slice none 0 0, .int .i64 0, .int .i64 0], false⟩), (91, ⟨.strct [(0, 22), (1, 3)], 2, 32, some (.pair (.list (.int .u8)) (.pair (.int .i64) .unit)), [.slice none 0 0, .int .i64 0], false⟩), (95, ⟨.strct [(0, 59), (7, 59)], 14, 112, none, [.int .i64 0, .int .i64 0, .int .i64 0, .int .i64 0, .int .i64 0, .int .i64 0, .int .i64 0, .int .i64 0, .int .i64 0, .int .i64 0, .int .i64 0, .int .i64 0, .int .i64 0, .int .i64 0], false⟩), (107, ⟨.scalar, 1, 8, none, [.nilFunc], false⟩), (113, ⟨.int .u64, 1, 8, some (.int .u64), [.int .u64 0], false⟩), (119, ⟨.arr 64 5, 64, 64, none, [.int .u8 0, .int .u8 0, .int .u8 0, .int .u8 0, .int .u8 0, .int .u8 0, .int .u8 0, .int .u8 0, .int .u8 0, .int .u8 0, .int .u8 0, .int .u8 0, .int .u8 0, .int .u8 0, .int .u8 0, .int .u8 0, .int .u8 0, .int .u8 0, .int .u8 0, .int .u8 0, .int .u8 0, .int .u8 0, .int .u8 0, .int .u8 0, .int .u8 0, .int .u8 0, .int .u8 0, .int .u8 0, .int .u8 0, .int .u8 0, .int .u8 0, .int .u8 0, .int .u8 0, .int .u8 0, .int .u8 0, .int .u8 0, .int .u8 0, .int .u8 0, .int .u8 0, .int .u8 0, .int .u8 0, .int .u8 0, .int .u8 0, .int .u8 0, .int .u8 0, .int .u8 0, .int .u8 0, .int .u8 0, .int .u8 0, .int .u8 0, .int .u8 0, .int .u8 0, .int .u8 0, .int .u8 0, .int .u8 0, .int .u8 0, .int .u8 0, .int .u8 0, .int .u8 0, .int .u8 0, .int .u8 0, .int .u8 0, .int .u8 0, .int .u8 0], false⟩), (121, ⟨.slice 23, 1, 24, some (.list (.list (.int .i64))), [.slice none 0 0], false⟩)]
theorem tys_ok : TOk Tryd.prog (tlook tys) := tok_of (allc ty3 (allc ty4 (allc ty5 (allc ty9 (allc ty22 (allc ty23 (allc ty51 (allc ty59 (allc ty61 (allc ty65 (allc ty67 (allc ty71 (allc ty78 (allc ty79 (allc ty81 (allc ty85 (allc ty89 (allc ty91 (allc ty95 (allc ty107 (allc ty113 (allc ty119 (allc ty121 alln)))))))))))))))))))))))
def ioF (f : FuncId) (i : Nat) : Bool := [(44, 0), (58, 1), (60, 0), (70, 0), (93, 1), (95, 0), (96, 0), (99, 1), (104, 0), (124, 0)].any fun (p : Nat × Nat) => Nat.beq p.1 f && Nat.beq p.2 i


/-! loop.example/headtrees/spec.l20Open -/

def spec_l20Open_an : Ann := (.seq (.leaf [0]) (.seq (.seq (.leaf [0, 5]) (.cond (.leaf [0]) (.leaf [0]))) (.seq (.leaf [2]) (.leaf [2]))))

noncomputable def spec_l20Open_ctx : Ctx := ⟨tlook tys, olook [], ioF, 0, false, []⟩

theorem spec_l20Open_n1_l (x13 : List Int) : Link spec_l20Open_ctx LL (bodyOf Tryd.f47) spec_l20Open_an ⟨mkE 11 0 [(0, dV x13)], []⟩ (spec_l20Open_n1 x13) (fun (t : (List Int)) => (Exit.ret, ⟨mkE 11 0 [(2, .ptr 0 0)], [some (.box [dV t, dI 0])]⟩)) := by
  refine Link.of fun K h => ?_
  simp only [spec_l20Open_n1, wpO_bind, wpO_cond, wpO_map, wpO_some] at h
  exact Awp.of (by kernel_rfl) h

theorem spec_l20Open_e (x13 : List Int) {r : AV} {H' : Heap} (h : (Ans.mk _ (spec_l20Open x13) (fun (t : (List Int)) => (.ptr 0 0, [some (.box [dV t, dI 0])])) [] none).run = some (r, H')) : Awp spec_l20Open_ctx LL (bodyOf Tryd.f47) spec_l20Open_an ⟨mkE 11 0 [(0, dV x13)], []⟩ (Ret (tlook tys) Tryd.f47.results.toList r H') :=
  ret_of' (spec_l20Open_n1_l x13) (by unfold spec_l20Open; kernel_rfl) (by
  intro t
  exact ret_mk [.ptr 0 0] (by kernel_rfl) (by kernel_rfl) (by kernel_rfl) (by kernel_rfl)) h

def F_spec_l20Open : Fun := fun avs H =>
  match avs, H with
  | [.dat (.list (.int .u8)) x13], [] => ⟨_, spec_l20Open x13, fun (t : (List Int)) => (.ptr 0 0, [some (.box [dV t, dI 0])]), [], none⟩
  | _, _ => Ans.no

theorem spec_l20Open_sound : Sound Tryd.prog 47 F_spec_l20Open := by
  refine fn_sound' (C := spec_l20Open_ctx) (c := bodyOf Tryd.f47) (cok_of tys_ok (alln) (alln) (by kernel_rfl)) Tryd.func47 (by kernel_rfl) LL spec_l20Open_an ?_
  intro avs H r H' h
  unfold F_spec_l20Open at h
  split at h
  · refine Awp.cast ?_ ?_ ?_ (spec_l20Open_e _ h) <;> kernel_rfl
  · simp [Ans.no, Ans.run] at h


/-! (*loop.example/headtrees/spec.l20Rd).pick -/

def spec_l20Rd_pick_an : Ann := (.seq (.leaf [0, 1]) (.seq (.leaf [0, 1]) (.seq (.seq (.leaf [0, 1, 24]) (.cond (.seq (.leaf [4]) (.leaf [4])) (.leaf [0, 1]))) (.seq (.leaf [0, 1, 5]) (.seq (.seq (.leaf [0, 1, 5, 36]) (.cond (.seq (.leaf [4]) (.leaf [4])) (.leaf [0, 1, 5]))) (.seq (.draw [] [0, 1, 2, 3, 4, 5, 6, 7, 8, 9, 10, 11, 12, 13, 14, 15, 16, 17, 18, 19, 20, 21, 22, 23, 24, 25, 26, 27, 28, 29, 30, 31, 32, 33, 34, 35, 36, 37, 38, 39, 40, 41, 42, 43, 44, 45] [] [1, 6]) (.seq (.leaf [1, 6]) (.seq (.leaf [4]) (.leaf [4])))))))))

noncomputable def spec_l20Rd_pick_ctx : Ctx := ⟨tlook tys, olook [], ioF, 1, false, []⟩

theorem spec_l20Rd_pick_n1_l (x40 : Int) (x41 : List Int) (x42 : Int) : Link spec_l20Rd_pick_ctx LL (bodyOf Tryd.f55) spec_l20Rd_pick_an ⟨mkE 99 0 [(0, .ptr 0 0), (1, dI x40)], [some (.box [dV x41, dI x42])]⟩ (spec_l20Rd_pick_n1 x40 x41 x42) (fun (t : Int × Int) => (Exit.ret, ⟨mkE 99 0 [(4, dI t.1)], [some (.box [dV x41, dI t.2])]⟩)) := by
  refine Link.of fun K h => ?_
  simp only [spec_l20Rd_pick_n1, wpO_bind, wpO_cond, wpO_map, wpO_some] at h
  exact Awp.of (by kernel_rfl) h

theorem spec_l20Rd_pick_e (x40 : Int) (x41 : List Int) (x42 : Int) {r : AV} {H' : Heap} (h : (Ans.mk _ (spec_l20Rd_pick x40 x41 x42) (fun (t : Int × Int) => (dI t.1, [some (.box [dV x41, dI t.2])])) [] none).run = some (r, H')) : Awp spec_l20Rd_pick_ctx LL (bodyOf Tryd.f55) spec_l20Rd_pick_an ⟨mkE 99 0 [(0, .ptr 0 0), (1, dI x40)], [some (.box [dV x41, dI x42])]⟩ (Ret (tlook tys) Tryd.f55.results.toList r H') :=
  ret_of' (spec_l20Rd_pick_n1_l x40 x41 x42) (by unfold spec_l20Rd_pick; kernel_rfl) (by
  intro t
  exact ret_mk [dI t.1] (by kernel_rfl) (by kernel_rfl) (by kernel_rfl) (by kernel_rfl)) h

def F_spec_l20Rd_pick : Fun := fun avs H =>
  match avs, H with
  | [.ptr 0 0, .dat (.int .i64) x40], [some (.box [.dat (.list (.int .u8)) x41, .dat (.int .i64) x42])] => ⟨_, spec_l20Rd_pick x40 x41 x42, fun (t : Int × Int) => (dI t.1, [some (.box [dV x41, dI t.2])]), [], none⟩
  | _, _ => Ans.no

theorem spec_l20Rd_pick_sound : Sound Tryd.prog 55 F_spec_l20Rd_pick := by
  refine fn_sound' (C := spec_l20Rd_pick_ctx) (c := bodyOf Tryd.f55) (cok_of tys_ok (alln) (alln) (by kernel_rfl)) Tryd.func55 (by kernel_rfl) LL spec_l20Rd_pick_an ?_
  intro avs H r H' h
  unfold F_spec_l20Rd_pick at h
  split at h
  · refine Awp.cast ?_ ?_ ?_ (spec_l20Rd_pick_e _ _ _ h) <;> kernel_rfl
  · simp [Ans.no, Ans.run] at h


/-! loop.example/headtrees/spec.l20Order -/

def spec_l20Order_an : Ann := (.seq (.leaf [0, 1]) (.seq (.leaf [0, 1, 5]) (.seq (.leaf [0, 1, 5, 6]) (.seq (.seq (.leaf [0, 1, 5, 6, 7]) (.block (.loop (.seq (.seq (.leaf [0, 1, 5, 6, 7, 15]) (.cond (.leaf [0, 1, 5, 6, 7]) (.leaf [5]))) (.seq (.block (.seq (.leaf [0, 1, 5, 6, 7, 8]) (.seq (.seq (.leaf [0, 1, 5, 6, 7, 8, 26]) (.cond (.leaf [0, 1, 5, 6, 7, 8]) (.leaf [0, 1, 5, 6, 7, 8]))) (.seq (.leaf [0, 1, 5, 6, 7, 8, 9]) (.seq (.leaf [0, 1, 5, 6, 7, 8, 9]) (.leaf [0, 1, 5, 6, 7])))))) (.leaf [0, 1, 5, 6, 7])))))) (.seq (.leaf [4]) (.leaf [4]))))))

noncomputable def spec_l20Order_ctx : Ctx := ⟨tlook tys, olook [(55, F_spec_l20Rd_pick)], ioF, 1, false, []⟩

theorem spec_l20Order_n1_l (x203 : Int) (x204 : List Int) (x205 : Int) : Link spec_l20Order_ctx LL (Code.seq (cq [0] (bodyOf Tryd.f103)) (Code.seq (cq [0,1] (bodyOf Tryd.f103)) (cq [0,1,1] (bodyOf Tryd.f103)))) (Ann.seq (aq [0] spec_l20Order_an) (Ann.seq (aq [0,1] spec_l20Order_an) (aq [0,1,1] spec_l20Order_an))) ⟨mkE 45 0 [(0, .ptr 0 0), (1, dI x203)], [some (.box [dV x204, dI x205])]⟩ (spec_l20Order_n1 x204 x205) (fun (t : Int × Int) => (Exit.normal, ⟨mkE 45 0 [(0, .ptr 0 0), (1, dI x203), (5, .slc 1), (6, dI t.1)], [some (.box [dV x204, dI t.2]), some (sI ([] : List Int))]⟩)) := by
  refine Link.of fun K h => ?_
  simp only [spec_l20Order_n1, wpO_bind, wpO_cond, wpO_map, wpO_some] at h
  exact Awp.of (by kernel_rfl) h

theorem spec_l20Order_n2_l (x203 : Int) (x208 : Int) (x204 : List Int) (x209 : Int) : Link spec_l20Order_ctx LL (cq [0,0,1,1,1] (bodyOf Tryd.f103)) (aq [0,0,1,1,1] spec_l20Order_an) ⟨mkE 45 0 [(0, .ptr 0 0), (1, dI x203), (5, .slc 1), (6, dI x208)], [some (.box [dV x204, dI x209]), some (sI ([] : List Int))]⟩ (spec_l20Order_n2) (fun (t : Unit) => (Exit.normal, ⟨mkE 45 0 [(0, .ptr 0 0), (1, dI x203), (5, .slc 1), (6, dI x208), (7, dI 1)], [some (.box [dV x204, dI x209]), some (sI ([] : List Int))]⟩)) := by
  refine Link.of fun K h => ?_
  simp only [spec_l20Order_n2, wpO_bind, wpO_cond, wpO_map, wpO_some] at h
  exact Awp.of (by kernel_rfl) h

theorem spec_l20Order_n3_l (x203 : Int) (x208 : Int) (x351 : Int) (x204 : List Int) (x352 : Int) (x353 : List Int) : Link spec_l20Order_ctx LL (cq [0,0,1,0,1,1,1] (bodyOf Tryd.f103)) (aq [0,0,1,0,1,1,1] spec_l20Order_an) ⟨mkE 45 0 [(0, .ptr 0 0), (1, dI x203), (5, .slc 1), (6, dI x208), (7, dI x351)], [some (.box [dV x204, dI x352]), some (sI x353)]⟩ (spec_l20Order_n3 x203 x208 x351 x204 x352 x353) (Sum.elim (fun (t : Int × Int × (List Int)) => (Exit.normal, ⟨mkE 45 0 [(0, .ptr 0 0), (1, dI x203), (5, .slc 1), (6, dI x208), (7, dI t.1)], [some (.box [dV x204, dI t.2.1]), some (sI t.2.2)]⟩)) (fun (t : Int × (List Int)) => ((Exit.exit 0), ⟨mkE 45 0 [(5, .slc 1)], [some (.box [dV x204, dI t.1]), some (sI t.2)]⟩))) := by
  refine Link.of fun K h => ?_
  simp only [spec_l20Order_n3, wpO_bind, wpO_cond, wpO_map, wpO_some] at h
  exact Awp.of (by kernel_rfl) h

def spec_l20Order_n4_l (x203 : Int) (x208 : Int) (x204 : List Int) (x209 : Int) := (link_loop (mk := fun (s : Int × Int × (List Int)) => ⟨mkE 45 0 [(0, .ptr 0 0), (1, dI x203), (5, .slc 1), (6, dI x208), (7, dI s.1)], [some (.box [dV x204, dI s.2.1]), some (sI s.2.2)]⟩) (fin := (fun (t : Int × (List Int)) => ((Exit.exit 0), ⟨mkE 45 0 [(5, .slc 1)], [some (.box [dV x204, dI t.1]), some (sI t.2)]⟩))) (by
  rintro t f K h
  · exact h) (fun s => link_map (spec_l20Order_n3_l x203 x208 s.1 x204 s.2.1 s.2.2) (Sum.elim (fun (t : Int × Int × (List Int)) => Sum.inl (t.1, t.2.1, t.2.2)) (fun (t : Int × (List Int)) => Sum.inr t)) (by
  rintro (t | t)
  · kernel_rfl
  · kernel_rfl)) (1, x209, ([] : List Int)))

def spec_l20Order_n5_l (x203 : Int) (x208 : Int) (x204 : List Int) (x209 : Int) := (link_block (fin2 := (fun (t : Int × (List Int)) => (Exit.normal, ⟨mkE 45 0 [(5, .slc 1)], [some (.box [dV x204, dI t.1]), some (sI t.2)]⟩))) (id := 0) (spec_l20Order_n4_l x203 x208 x204 x209) (fun (t : Int × (List Int)) => (t.1, t.2)) (by
  rintro t K h
  · exact Eq.mp (by kernel_rfl) h))

def spec_l20Order_n6_l (x203 : Int) (x208 : Int) (x204 : List Int) (x209 : Int) := (link_seq (spec_l20Order_n2_l x203 x208 x204 x209) (fun (t : Unit) => (spec_l20Order_n5_l x203 x208 x204 x209)))

theorem spec_l20Order_n7_l (x204 : List Int) (x352 : Int) (x353 : List Int) : Link spec_l20Order_ctx LL (cq [1,1,1,1] (bodyOf Tryd.f103)) (aq [1,1,1,1] spec_l20Order_an) ⟨mkE 45 0 [(5, .slc 1)], [some (.box [dV x204, dI x352]), some (sI x353)]⟩ (spec_l20Order_n7 x352 x353) (fun (t : Int × (List Int)) => (Exit.ret, ⟨mkE 45 0 [(4, .slc 1)], [some (.box [dV x204, dI t.1]), some (sI t.2)]⟩)) := by
  refine Link.of fun K h => ?_
  simp only [spec_l20Order_n7, wpO_bind, wpO_cond, wpO_map, wpO_some] at h
  exact Awp.of (by kernel_rfl) h

def spec_l20Order_n8_l (x203 : Int) (x208 : Int) (x204 : List Int) (x209 : Int) := (link_seq (spec_l20Order_n6_l x203 x208 x204 x209) (fun (t : Int × (List Int)) => (spec_l20Order_n7_l x204 t.1 t.2)))

def spec_l20Order_n9_l (x203 : Int) (x204 : List Int) (x205 : Int) := (link_group (c := (cq [0,1,1] (bodyOf Tryd.f103))) (a := (aq [0,1,1] spec_l20Order_an)) [(cq [0] (bodyOf Tryd.f103)), (cq [0,1] (bodyOf Tryd.f103))] [(aq [0] spec_l20Order_an), (aq [0,1] spec_l20Order_an)] rfl (link_seq (spec_l20Order_n1_l x203 x204 x205) (fun (t : Int × Int) => (spec_l20Order_n8_l x203 t.1 x204 t.2))))

theorem spec_l20Order_e (x203 : Int) (x204 : List Int) (x205 : Int) {r : AV} {H' : Heap} (h : (Ans.mk _ (spec_l20Order x203 x204 x205) (fun (t : Int × (List Int)) => (.slc 1, [some (.box [dV x204, dI t.1]), some (sI t.2)])) [] none).run = some (r, H')) : Awp spec_l20Order_ctx LL (bodyOf Tryd.f103) spec_l20Order_an ⟨mkE 45 0 [(0, .ptr 0 0), (1, dI x203)], [some (.box [dV x204, dI x205])]⟩ (Ret (tlook tys) Tryd.f103.results.toList r H') :=
  ret_of' (Link.cast (by kernel_rfl) (by kernel_rfl) (spec_l20Order_n9_l x203 x204 x205)) (by unfold spec_l20Order; kernel_rfl) (by
  intro t
  exact ret_mk [.slc 1] (by kernel_rfl) (by kernel_rfl) (by kernel_rfl) (by kernel_rfl)) h

def F_spec_l20Order : Fun := fun avs H =>
  match avs, H with
  | [.ptr 0 0, .dat (.int .i64) x203], [some (.box [.dat (.list (.int .u8)) x204, .dat (.int .i64) x205])] => ⟨_, spec_l20Order x203 x204 x205, fun (t : Int × (List Int)) => (.slc 1, [some (.box [dV x204, dI t.1]), some (sI t.2)]), [], none⟩
  | _, _ => Ans.no

theorem spec_l20Order_sound : Sound Tryd.prog 103 F_spec_l20Order := by
  refine fn_sound' (C := spec_l20Order_ctx) (c := bodyOf Tryd.f103) (cok_of tys_ok (allc spec_l20Rd_pick_sound alln) (allc Tryd.call55 alln) (by kernel_rfl)) Tryd.func103 (by kernel_rfl) LL spec_l20Order_an ?_
  intro avs H r H' h
  unfold F_spec_l20Order at h
  split at h
  · refine Awp.cast ?_ ?_ ?_ (spec_l20Order_e _ _ _ h) <;> kernel_rfl
  · simp [Ans.no, Ans.run] at h


/-! (*loop.example/headtrees/spec.l20Rd).odd -/

def spec_l20Rd_odd_an : Ann := (.seq (.leaf [0, 1]) (.seq (.leaf [4]) (.leaf [4])))

noncomputable def spec_l20Rd_odd_ctx : Ctx := ⟨tlook tys, olook [(55, F_spec_l20Rd_pick)], ioF, 1, false, []⟩

theorem spec_l20Rd_odd_n1_l (x660 : Int) (x661 : List Int) (x662 : Int) : Link spec_l20Rd_odd_ctx LL (bodyOf Tryd.f115) spec_l20Rd_odd_an ⟨mkE 15 0 [(0, .ptr 0 0), (1, dI x660)], [some (.box [dV x661, dI x662])]⟩ (spec_l20Rd_odd_n1 x660 x661 x662) (fun (t : Bool × Int) => (Exit.ret, ⟨mkE 15 0 [(4, dB t.1)], [some (.box [dV x661, dI t.2])]⟩)) := by
  refine Link.of fun K h => ?_
  simp only [spec_l20Rd_odd_n1, wpO_bind, wpO_cond, wpO_map, wpO_some] at h
  exact Awp.of (by kernel_rfl) h

theorem spec_l20Rd_odd_e (x660 : Int) (x661 : List Int) (x662 : Int) {r : AV} {H' : Heap} (h : (Ans.mk _ (spec_l20Rd_odd x660 x661 x662) (fun (t : Bool × Int) => (dB t.1, [some (.box [dV x661, dI t.2])])) [] none).run = some (r, H')) : Awp spec_l20Rd_odd_ctx LL (bodyOf Tryd.f115) spec_l20Rd_odd_an ⟨mkE 15 0 [(0, .ptr 0 0), (1, dI x660)], [some (.box [dV x661, dI x662])]⟩ (Ret (tlook tys) Tryd.f115.results.toList r H') :=
  ret_of' (spec_l20Rd_odd_n1_l x660 x661 x662) (by unfold spec_l20Rd_odd; kernel_rfl) (by
  intro t
  exact ret_mk [dB t.1] (by kernel_rfl) (by kernel_rfl) (by kernel_rfl) (by kernel_rfl)) h

def F_spec_l20Rd_odd : Fun := fun avs H =>
  match avs, H with
  | [.ptr 0 0, .dat (.int .i64) x660], [some (.box [.dat (.list (.int .u8)) x661, .dat (.int .i64) x662])] => ⟨_, spec_l20Rd_odd x660 x661 x662, fun (t : Bool × Int) => (dB t.1, [some (.box [dV x661, dI t.2])]), [], none⟩
  | _, _ => Ans.no

theorem spec_l20Rd_odd_sound : Sound Tryd.prog 115 F_spec_l20Rd_odd := by
  refine fn_sound' (C := spec_l20Rd_odd_ctx) (c := bodyOf Tryd.f115) (cok_of tys_ok (allc spec_l20Rd_pick_sound alln) (allc Tryd.call55 alln) (by kernel_rfl)) Tryd.func115 (by kernel_rfl) LL spec_l20Rd_odd_an ?_
  intro avs H r H' h
  unfold F_spec_l20Rd_odd at h
  split at h
  · refine Awp.cast ?_ ?_ ?_ (spec_l20Rd_odd_e _ _ _ h) <;> kernel_rfl
  · simp [Ans.no, Ans.run] at h


/-! loop.example/headtrees/spec.l20Tree -/

def spec_l20Tree_an : Ann := (.seq (.leaf [0, 1]) (.seq (.leaf [0, 1, 5]) (.seq (.leaf [0, 1, 5, 6]) (.seq (.leaf [0, 1, 5, 6, 7]) (.seq (.leaf [0, 1, 5, 6, 7, 8]) (.seq (.seq (.leaf [0, 1, 5, 6, 7, 8, 9]) (.block (.loop (.seq (.seq (.leaf [0, 1, 5, 6, 7, 8, 9, 23]) (.cond (.leaf [0, 1, 5, 6, 7, 8, 9]) (.leaf [0, 1, 5, 7]))) (.seq (.block (.seq (.leaf [0, 1, 5, 6, 7, 8, 9, 10]) (.seq (.seq (.leaf [0, 1, 5, 6, 7, 8, 9, 10, 35]) (.cond (.leaf [0, 1, 5, 6, 7, 8, 9, 10]) (.leaf [0, 1, 5, 6, 7, 8, 9, 10]))) (.draw [] [0, 1, 2, 3, 4, 5, 6, 7, 8, 9, 10, 11] [] [0, 1, 5, 6, 7, 8, 9])))) (.leaf [0, 1, 5, 6, 7, 8, 9])))))) (.seq (.seq (.leaf [0, 5, 7, 51]) (.cond (.seq (.leaf [0, 5, 7, 53]) (.block (.seq (.leaf [0, 5, 7, 53, 63]) (.cond (.seq (.leaf [4]) (.leaf [4])) (.seq (.leaf [0, 5, 7, 53, 66]) (.cond (.seq (.leaf [4]) (.leaf [4])) (.seq (.leaf [0, 5, 7, 69]) (.cond (.seq (.leaf [7]) (.seq (.leaf [4]) (.leaf [4]))) (.leaf [7]))))))))) (.leaf [7]))) (.seq (.leaf [4]) (.leaf [4])))))))))

noncomputable def spec_l20Tree_ctx : Ctx := ⟨tlook tys, olook [(55, F_spec_l20Rd_pick), (103, F_spec_l20Order), (115, F_spec_l20Rd_odd)], ioF, 1, false, []⟩

theorem spec_l20Tree_n1_l (x36 : Int) (x37 : List Int) (x38 : Int) : Link spec_l20Tree_ctx LL (Code.seq (cq [0] (bodyOf Tryd.f84)) (Code.seq (cq [0,1] (bodyOf Tryd.f84)) (Code.seq (cq [0,1,1] (bodyOf Tryd.f84)) (Code.seq (cq [0,1,1,1] (bodyOf Tryd.f84)) (cq [0,1,1,1,1] (bodyOf Tryd.f84)))))) (Ann.seq (aq [0] spec_l20Tree_an) (Ann.seq (aq [0,1] spec_l20Tree_an) (Ann.seq (aq [0,1,1] spec_l20Tree_an) (Ann.seq (aq [0,1,1,1] spec_l20Tree_an) (aq [0,1,1,1,1] spec_l20Tree_an))))) ⟨mkE 80 0 [(0, .ptr 0 0), (1, dI x36)], [some (.box [dV x37, dI x38])]⟩ (spec_l20Tree_n1 x37 x38) (fun (t : Int × Int × Int × (List Int) × (List Int)) => (Exit.normal, ⟨mkE 80 0 [(0, .ptr 0 0), (1, dI x36), (5, dI t.1), (6, .slc 1), (7, .slc 2), (8, dI t.2.1)], [some (.box [dV x37, dI t.2.2.1]), some (sI t.2.2.2.1), some (sI t.2.2.2.2)]⟩)) := by
  refine Link.of fun K h => ?_
  simp only [spec_l20Tree_n1, wpO_bind, wpO_cond, wpO_map, wpO_some] at h
  exact Awp.of (by kernel_rfl) h

theorem spec_l20Tree_n2_l (x36 : Int) (x510 : Int) (x517 : Int) (x37 : List Int) (x518 : Int) (x513 : List Int) (x515 : List Int) : Link spec_l20Tree_ctx LL (cq [0,0,1,1,1,1,1] (bodyOf Tryd.f84)) (aq [0,0,1,1,1,1,1] spec_l20Tree_an) ⟨mkE 80 0 [(0, .ptr 0 0), (1, dI x36), (5, dI x510), (6, .slc 1), (7, .slc 2), (8, dI x517)], [some (.box [dV x37, dI x518]), some (sI x513), some (sI x515)]⟩ (spec_l20Tree_n2) (fun (t : Unit) => (Exit.normal, ⟨mkE 80 0 [(0, .ptr 0 0), (1, dI x36), (5, dI x510), (6, .slc 1), (7, .slc 2), (8, dI x517), (9, dI 1)], [some (.box [dV x37, dI x518]), some (sI x513), some (sI x515)]⟩)) := by
  refine Link.of fun K h => ?_
  simp only [spec_l20Tree_n2, wpO_bind, wpO_cond, wpO_map, wpO_some] at h
  exact Awp.of (by kernel_rfl) h

theorem spec_l20Tree_n3_l (x36 : Int) (x510 : Int) (x517 : Int) (x588 : Int) (x37 : List Int) (x589 : Int) (x513 : List Int) (x590 : List Int) : Link spec_l20Tree_ctx LL (cq [0,0,1,0,1,1,1,1,1] (bodyOf Tryd.f84)) (aq [0,0,1,0,1,1,1,1,1] spec_l20Tree_an) ⟨mkE 80 0 [(0, .ptr 0 0), (1, dI x36), (5, dI x510), (6, .slc 1), (7, .slc 2), (8, dI x517), (9, dI x588)], [some (.box [dV x37, dI x589]), some (sI x513), some (sI x590)]⟩ (spec_l20Tree_n3 x510 x517 x588 x37 x589 x513 x590) (Sum.elim (fun (t : Int × Int × (List Int)) => (Exit.normal, ⟨mkE 80 0 [(0, .ptr 0 0), (1, dI x36), (5, dI x510), (6, .slc 1), (7, .slc 2), (8, dI x517), (9, dI t.1)], [some (.box [dV x37, dI t.2.1]), some (sI x513), some (sI t.2.2)]⟩)) (fun (t : Int × (List Int)) => ((Exit.exit 0), ⟨mkE 80 0 [(0, .ptr 0 0), (1, dI x36), (5, dI x510), (7, .slc 1)], [some (.box [dV x37, dI t.1]), some (sI t.2)]⟩))) := by
  refine Link.of fun K h => ?_
  simp only [spec_l20Tree_n3, wpO_bind, wpO_cond, wpO_map, wpO_some] at h
  exact Awp.of (by kernel_rfl) h

def spec_l20Tree_n4_l (x36 : Int) (x510 : Int) (x517 : Int) (x37 : List Int) (x518 : Int) (x513 : List Int) (x515 : List Int) := (link_loop (mk := fun (s : Int × Int × (List Int)) => ⟨mkE 80 0 [(0, .ptr 0 0), (1, dI x36), (5, dI x510), (6, .slc 1), (7, .slc 2), (8, dI x517), (9, dI s.1)], [some (.box [dV x37, dI s.2.1]), some (sI x513), some (sI s.2.2)]⟩) (fin := (fun (t : Int × (List Int)) => ((Exit.exit 0), ⟨mkE 80 0 [(0, .ptr 0 0), (1, dI x36), (5, dI x510), (7, .slc 1)], [some (.box [dV x37, dI t.1]), some (sI t.2)]⟩))) (by
  rintro t f K h
  · exact h) (fun s => link_map (spec_l20Tree_n3_l x36 x510 x517 s.1 x37 s.2.1 x513 s.2.2) (Sum.elim (fun (t : Int × Int × (List Int)) => Sum.inl (t.1, t.2.1, t.2.2)) (fun (t : Int × (List Int)) => Sum.inr t)) (by
  rintro (t | t)
  · kernel_rfl
  · kernel_rfl)) (1, x518, x515))

def spec_l20Tree_n5_l (x36 : Int) (x510 : Int) (x517 : Int) (x37 : List Int) (x518 : Int) (x513 : List Int) (x515 : List Int) := (link_block (fin2 := (fun (t : Int × (List Int)) => (Exit.normal, ⟨mkE 80 0 [(0, .ptr 0 0), (1, dI x36), (5, dI x510), (7, .slc 1)], [some (.box [dV x37, dI t.1]), some (sI t.2)]⟩))) (id := 0) (spec_l20Tree_n4_l x36 x510 x517 x37 x518 x513 x515) (fun (t : Int × (List Int)) => (t.1, t.2)) (by
  rintro t K h
  · exact Eq.mp (by kernel_rfl) h))

def spec_l20Tree_n6_l (x36 : Int) (x510 : Int) (x517 : Int) (x37 : List Int) (x518 : Int) (x513 : List Int) (x515 : List Int) := (link_seq (spec_l20Tree_n2_l x36 x510 x517 x37 x518 x513 x515) (fun (t : Unit) => (spec_l20Tree_n5_l x36 x510 x517 x37 x518 x513 x515)))

theorem spec_l20Tree_n7_l (x36 : Int) (x510 : Int) (x37 : List Int) (x589 : Int) (x590 : List Int) : Link spec_l20Tree_ctx LL (cq [1,1,1,1,1,1] (bodyOf Tryd.f84)) (aq [1,1,1,1,1,1] spec_l20Tree_an) ⟨mkE 80 0 [(0, .ptr 0 0), (1, dI x36), (5, dI x510), (7, .slc 1)], [some (.box [dV x37, dI x589]), some (sI x590)]⟩ (spec_l20Tree_n7 x36 x510 x37 x589 x590) (fun (t : Int × (List Int)) => (Exit.ret, ⟨mkE 80 0 [(4, .slc 1)], [some (.box [dV x37, dI t.1]), some (sI t.2)]⟩)) := by
  refine Link.of fun K h => ?_
  simp only [spec_l20Tree_n7, wpO_bind, wpO_cond, wpO_map, wpO_some] at h
  exact Awp.of (by kernel_rfl) h

def spec_l20Tree_n8_l (x36 : Int) (x510 : Int) (x517 : Int) (x37 : List Int) (x518 : Int) (x513 : List Int) (x515 : List Int) := (link_seq (spec_l20Tree_n6_l x36 x510 x517 x37 x518 x513 x515) (fun (t : Int × (List Int)) => (spec_l20Tree_n7_l x36 x510 x37 t.1 t.2)))

def spec_l20Tree_n9_l (x36 : Int) (x37 : List Int) (x38 : Int) := (link_group (c := (cq [0,1,1,1,1] (bodyOf Tryd.f84))) (a := (aq [0,1,1,1,1] spec_l20Tree_an)) [(cq [0] (bodyOf Tryd.f84)), (cq [0,1] (bodyOf Tryd.f84)), (cq [0,1,1] (bodyOf Tryd.f84)), (cq [0,1,1,1] (bodyOf Tryd.f84))] [(aq [0] spec_l20Tree_an), (aq [0,1] spec_l20Tree_an), (aq [0,1,1] spec_l20Tree_an), (aq [0,1,1,1] spec_l20Tree_an)] rfl (link_seq (spec_l20Tree_n1_l x36 x37 x38) (fun (t : Int × Int × Int × (List Int) × (List Int)) => (spec_l20Tree_n8_l x36 t.1 t.2.1 x37 t.2.2.1 t.2.2.2.1 t.2.2.2.2))))

theorem spec_l20Tree_e (x36 : Int) (x37 : List Int) (x38 : Int) {r : AV} {H' : Heap} (h : (Ans.mk _ (spec_l20Tree x36 x37 x38) (fun (t : Int × (List Int)) => (.slc 1, [some (.box [dV x37, dI t.1]), some (sI t.2)])) [] none).run = some (r, H')) : Awp spec_l20Tree_ctx LL (bodyOf Tryd.f84) spec_l20Tree_an ⟨mkE 80 0 [(0, .ptr 0 0), (1, dI x36)], [some (.box [dV x37, dI x38])]⟩ (Ret (tlook tys) Tryd.f84.results.toList r H') :=
  ret_of' (Link.cast (by kernel_rfl) (by kernel_rfl) (spec_l20Tree_n9_l x36 x37 x38)) (by unfold spec_l20Tree; kernel_rfl) (by
  intro t
  exact ret_mk [.slc 1] (by kernel_rfl) (by kernel_rfl) (by kernel_rfl) (by kernel_rfl)) h

def F_spec_l20Tree : Fun := fun avs H =>
  match avs, H with
  | [.ptr 0 0, .dat (.int .i64) x36], [some (.box [.dat (.list (.int .u8)) x37, .dat (.int .i64) x38])] => ⟨_, spec_l20Tree x36 x37 x38, fun (t : Int × (List Int)) => (.slc 1, [some (.box [dV x37, dI t.1]), some (sI t.2)]), [], none⟩
  | _, _ => Ans.no

theorem spec_l20Tree_sound : Sound Tryd.prog 84 F_spec_l20Tree := by
  refine fn_sound' (C := spec_l20Tree_ctx) (c := bodyOf Tryd.f84) (cok_of tys_ok (allc spec_l20Rd_pick_sound (allc spec_l20Order_sound (allc spec_l20Rd_odd_sound alln))) (allc Tryd.call55 (allc Tryd.call103 (allc Tryd.call115 alln))) (by kernel_rfl)) Tryd.func84 (by kernel_rfl) LL spec_l20Tree_an ?_
  intro avs H r H' h
  unfold F_spec_l20Tree at h
  split at h
  · refine Awp.cast ?_ ?_ ?_ (spec_l20Tree_e _ _ _ h) <;> kernel_rfl
  · simp [Ans.no, Ans.run] at h


/-! loop.example/headtrees/spec.l20Word -/

def spec_l20Word_an : Ann := (.seq (.leaf [0]) (.seq (.leaf [0, 4]) (.seq (.leaf [2, 3]) (.leaf [2, 3]))))

noncomputable def spec_l20Word_ctx : Ctx := ⟨tlook tys, olook [(84, F_spec_l20Tree), (55, F_spec_l20Rd_pick)], ioF, 1, false, []⟩

theorem spec_l20Word_n1_l (x33 : List Int) (x34 : Int) : Link spec_l20Word_ctx LL (bodyOf Tryd.f46) spec_l20Word_an ⟨mkE 24 0 [(0, .ptr 0 0)], [some (.box [dV x33, dI x34])]⟩ (spec_l20Word_n1 x33 x34) (fun (t : Int × Int × (List Int)) => (Exit.ret, ⟨mkE 24 0 [(2, .slc 1), (3, dI t.1)], [some (.box [dV x33, dI t.2.1]), some (sI t.2.2)]⟩)) := by
  refine Link.of fun K h => ?_
  simp only [spec_l20Word_n1, wpO_bind, wpO_cond, wpO_map, wpO_some] at h
  exact Awp.of (by kernel_rfl) h

theorem spec_l20Word_e (x33 : List Int) (x34 : Int) {r : AV} {H' : Heap} (h : (Ans.mk _ (spec_l20Word x33 x34) (fun (t : Int × Int × (List Int)) => (.tup [.slc 1, dI t.1], [some (.box [dV x33, dI t.2.1]), some (sI t.2.2)])) [] none).run = some (r, H')) : Awp spec_l20Word_ctx LL (bodyOf Tryd.f46) spec_l20Word_an ⟨mkE 24 0 [(0, .ptr 0 0)], [some (.box [dV x33, dI x34])]⟩ (Ret (tlook tys) Tryd.f46.results.toList r H') :=
  ret_of' (spec_l20Word_n1_l x33 x34) (by unfold spec_l20Word; kernel_rfl) (by
  intro t
  exact ret_mk [.slc 1, dI t.1] (by kernel_rfl) (by kernel_rfl) (by kernel_rfl) (by kernel_rfl)) h

def F_spec_l20Word : Fun := fun avs H =>
  match avs, H with
  | [.ptr 0 0], [some (.box [.dat (.list (.int .u8)) x33, .dat (.int .i64) x34])] => ⟨_, spec_l20Word x33 x34, fun (t : Int × Int × (List Int)) => (.tup [.slc 1, dI t.1], [some (.box [dV x33, dI t.2.1]), some (sI t.2.2)]), [], none⟩
  | _, _ => Ans.no

theorem spec_l20Word_sound : Sound Tryd.prog 46 F_spec_l20Word := by
  refine fn_sound' (C := spec_l20Word_ctx) (c := bodyOf Tryd.f46) (cok_of tys_ok (allc spec_l20Tree_sound (allc spec_l20Rd_pick_sound alln)) (allc Tryd.call84 (allc Tryd.call55 alln)) (by kernel_rfl)) Tryd.func46 (by kernel_rfl) LL spec_l20Word_an ?_
  intro avs H r H' h
  unfold F_spec_l20Word at h
  split at h
  · refine Awp.cast ?_ ?_ ?_ (spec_l20Word_e _ _ h) <;> kernel_rfl
  · simp [Ans.no, Ans.run] at h


/-! loop.example/headtrees/spec.DrawSidesOf -/

def spec_DrawSidesOf_an : Ann := (.seq (.leaf [0]) (.seq (.leaf [2, 3]) (.leaf [2, 3])))

noncomputable def spec_DrawSidesOf_ctx : Ctx := ⟨tlook tys, olook [(47, F_spec_l20Open), (46, F_spec_l20Word)], ioF, 0, false, []⟩

theorem spec_DrawSidesOf_n1_l (x10 : List Int) : Link spec_DrawSidesOf_ctx LL (bodyOf Tryd.f13) spec_DrawSidesOf_an ⟨mkE 9 0 [(0, dV x10)], []⟩ (spec_DrawSidesOf_n1 x10) (fun (t : Int × (List Int)) => (Exit.ret, ⟨mkE 9 0 [(2, .slc 0), (3, dI t.1)], [some (sI t.2)]⟩)) := by
  refine Link.of fun K h => ?_
  simp only [spec_DrawSidesOf_n1, wpO_bind, wpO_cond, wpO_map, wpO_some] at h
  exact Awp.of (by kernel_rfl) h

theorem spec_DrawSidesOf_e (x10 : List Int) {r : AV} {H' : Heap} (h : (Ans.mk _ (spec_DrawSidesOf x10) (fun (t : Int × (List Int)) => (.tup [.slc 0, dI t.1], [some (sI t.2)])) [] none).run = some (r, H')) : Awp spec_DrawSidesOf_ctx LL (bodyOf Tryd.f13) spec_DrawSidesOf_an ⟨mkE 9 0 [(0, dV x10)], []⟩ (Ret (tlook tys) Tryd.f13.results.toList r H') :=
  ret_of' (spec_DrawSidesOf_n1_l x10) (by unfold spec_DrawSidesOf; kernel_rfl) (by
  intro t
  exact ret_mk [.slc 0, dI t.1] (by kernel_rfl) (by kernel_rfl) (by kernel_rfl) (by kernel_rfl)) h

def F_spec_DrawSidesOf : Fun := fun avs H =>
  match avs, H with
  | [.dat (.list (.int .u8)) x10], [] => ⟨_, spec_DrawSidesOf x10, fun (t : Int × (List Int)) => (.tup [.slc 0, dI t.1], [some (sI t.2)]), [], none⟩
  | _, _ => Ans.no

theorem spec_DrawSidesOf_sound : Sound Tryd.prog 13 F_spec_DrawSidesOf := by
  refine fn_sound' (C := spec_DrawSidesOf_ctx) (c := bodyOf Tryd.f13) (cok_of tys_ok (allc spec_l20Open_sound (allc spec_l20Word_sound alln)) (allc Tryd.call47 (allc Tryd.call46 alln)) (by kernel_rfl)) Tryd.func13 (by kernel_rfl) LL spec_DrawSidesOf_an ?_
  intro avs H r H' h
  unfold F_spec_DrawSidesOf at h
  split at h
  · refine Awp.cast ?_ ?_ ?_ (spec_DrawSidesOf_e _ h) <;> kernel_rfl
  · simp [Ans.no, Ans.run] at h


/-! loop.example/headtrees/impl.oneRoot -/

def impl_oneRoot_an : Ann := (.seq (.leaf [0]) (.seq (.leaf [0, 3]) (.seq (.seq (.leaf [0, 3, 6, 7, 8]) (.block (.loop (.seq (.leaf [0, 3, 6, 7, 8, 9]) (.seq (.cond (.leaf [0, 3, 6, 7, 8]) (.leaf [3])) (.seq (.block (.seq (.leaf [0, 3, 5, 6, 7, 8]) (.seq (.seq (.leaf [0, 3, 5, 6, 7, 8, 19]) (.cond (.seq (.leaf [2]) (.leaf [2])) (.leaf [0, 3, 5, 6, 7, 8]))) (.seq (.leaf [0, 3, 6, 7, 8, 21]) (.cond (.leaf [0, 3, 6, 7, 8]) (.leaf [0, 3, 6, 7, 8])))))) (.leaf [0, 3, 6, 7, 8]))))))) (.seq (.leaf [2]) (.leaf [2])))))

noncomputable def impl_oneRoot_ctx : Ctx := ⟨tlook tys, olook [], ioF, 0, false, []⟩

theorem impl_oneRoot_n1_l (x840 : List Int) : Link impl_oneRoot_ctx LL (Code.seq (cq [0] (bodyOf Tryd.f72)) (cq [0,1] (bodyOf Tryd.f72))) (Ann.seq (aq [0] impl_oneRoot_an) (aq [0,1] impl_oneRoot_an)) ⟨mkE 27 0 [(0, dL x840)], []⟩ (impl_oneRoot_n1) (fun (t : Unit) => (Exit.normal, ⟨mkE 27 0 [(0, dL x840), (3, dI 0)], []⟩)) := by
  refine Link.of fun K h => ?_
  simp only [impl_oneRoot_n1, wpO_bind, wpO_cond, wpO_map, wpO_some] at h
  exact Awp.of (by kernel_rfl) h

theorem impl_oneRoot_n2_l (x840 : List Int) : Link impl_oneRoot_ctx LL (cq [0,0,1,1] (bodyOf Tryd.f72)) (aq [0,0,1,1] impl_oneRoot_an) ⟨mkE 27 0 [(0, dL x840), (3, dI 0)], []⟩ (impl_oneRoot_n2 x840) (fun (t : Int) => (Exit.normal, ⟨mkE 27 0 [(0, dL x840), (3, dI 0), (6, dL x840), (7, dI t), (8, dI 0)], []⟩)) := by
  refine Link.of fun K h => ?_
  simp only [impl_oneRoot_n2, wpO_bind, wpO_cond, wpO_map, wpO_some] at h
  exact Awp.of (by kernel_rfl) h

theorem impl_oneRoot_n3_l (x840 : List Int) (x862 : Int) (x841 : Int) (x863 : Int) : Link impl_oneRoot_ctx LL (cq [0,0,1,0,1,1] (bodyOf Tryd.f72)) (aq [0,0,1,0,1,1] impl_oneRoot_an) ⟨mkE 27 0 [(0, dL x840), (3, dI x862), (6, dL x840), (7, dI x841), (8, dI x863)], []⟩ (impl_oneRoot_n3 x840 x862 x841 x863) (Sum.elim (fun (t : Int × Int) => (Exit.normal, ⟨mkE 27 0 [(0, dL x840), (3, dI t.1), (6, dL x840), (7, dI x841), (8, dI t.2)], []⟩)) (Sum.elim (fun (t : Bool) => (Exit.ret, ⟨mkE 27 0 [(2, dB t)], []⟩)) (fun (t : Int) => ((Exit.exit 0), ⟨mkE 27 0 [(3, dI t)], []⟩)))) := by
  refine Link.of fun K h => ?_
  simp only [impl_oneRoot_n3, wpO_bind, wpO_cond, wpO_map, wpO_some] at h
  exact Awp.of (by kernel_rfl) h

def impl_oneRoot_n4_l (x840 : List Int) (x841 : Int) := (link_loop (mk := fun (s : Int × Int) => ⟨mkE 27 0 [(0, dL x840), (3, dI s.1), (6, dL x840), (7, dI x841), (8, dI s.2)], []⟩) (fin := (Sum.elim (fun (t : Bool) => (Exit.ret, ⟨mkE 27 0 [(2, dB t)], []⟩)) (fun (t : Int) => ((Exit.exit 0), ⟨mkE 27 0 [(3, dI t)], []⟩)))) (by
  rintro (t | t) f K h
  · exact h
  · exact h) (fun s => link_map (impl_oneRoot_n3_l x840 s.1 x841 s.2) (Sum.elim (fun (t : Int × Int) => Sum.inl (t.1, t.2)) (Sum.elim (fun (t : Bool) => Sum.inr (Sum.inl t)) (fun (t : Int) => Sum.inr (Sum.inr t)))) (by
  rintro (t | t | t)
  · kernel_rfl
  · kernel_rfl
  · kernel_rfl)) (0, 0))

def impl_oneRoot_n5_l (x840 : List Int) (x841 : Int) := (link_block (fin2 := (Sum.elim (fun (t : Int) => (Exit.normal, ⟨mkE 27 0 [(3, dI t)], []⟩)) (fun (t : Bool) => (Exit.ret, ⟨mkE 27 0 [(2, dB t)], []⟩)))) (id := 0) (impl_oneRoot_n4_l x840 x841) (Sum.elim (fun (t : Bool) => (Sum.inr t)) (fun (t : Int) => (Sum.inl t))) (by
  rintro (t | t) K h
  · exact Eq.mp (by kernel_rfl) h
  · exact Eq.mp (by kernel_rfl) h))

def impl_oneRoot_n6_l (x840 : List Int) := (link_seq (impl_oneRoot_n2_l x840) (fun (t : Int) => (impl_oneRoot_n5_l x840 t)))

theorem impl_oneRoot_n7_l (x862 : Int) : Link impl_oneRoot_ctx LL (cq [1,1,1] (bodyOf Tryd.f72)) (aq [1,1,1] impl_oneRoot_an) ⟨mkE 27 0 [(3, dI x862)], []⟩ (impl_oneRoot_n7 x862) (fun (t : Bool) => (Exit.ret, ⟨mkE 27 0 [(2, dB t)], []⟩)) := by
  refine Link.of fun K h => ?_
  simp only [impl_oneRoot_n7, wpO_bind, wpO_cond, wpO_map, wpO_some] at h
  exact Awp.of (by kernel_rfl) h

def impl_oneRoot_n8_l (x840 : List Int) := (link_seq2 (impl_oneRoot_n6_l x840) (fun (t : Int) => (impl_oneRoot_n7_l t)) (fun (t : Bool) => t) (by
  rintro t
  · kernel_rfl) (by
  rintro t f K h
  · exact h))

def impl_oneRoot_n9_l (x840 : List Int) := (link_group (c := (cq [0,1] (bodyOf Tryd.f72))) (a := (aq [0,1] impl_oneRoot_an)) [(cq [0] (bodyOf Tryd.f72))] [(aq [0] impl_oneRoot_an)] rfl (link_seq (impl_oneRoot_n1_l x840) (fun (t : Unit) => (impl_oneRoot_n8_l x840))))

theorem impl_oneRoot_e (x840 : List Int) {r : AV} {H' : Heap} (h : (Ans.mk _ (impl_oneRoot x840) (fun (t : Bool) => (dB t, [])) [] none).run = some (r, H')) : Awp impl_oneRoot_ctx LL (bodyOf Tryd.f72) impl_oneRoot_an ⟨mkE 27 0 [(0, dL x840)], []⟩ (Ret (tlook tys) Tryd.f72.results.toList r H') :=
  ret_of' (Link.cast (by kernel_rfl) (by kernel_rfl) (impl_oneRoot_n9_l x840)) (by unfold impl_oneRoot; kernel_rfl) (by
  intro t
  exact ret_mk [dB t] (by kernel_rfl) (by kernel_rfl) (by kernel_rfl) (by kernel_rfl)) h

def F_impl_oneRoot : Fun := fun avs H =>
  match avs, H with
  | [.dat (.list (.int .i64)) x840], [] => ⟨_, impl_oneRoot x840, fun (t : Bool) => (dB t, []), [], none⟩
  | _, _ => Ans.no

theorem impl_oneRoot_sound : Sound Tryd.prog 72 F_impl_oneRoot := by
  refine fn_sound' (C := impl_oneRoot_ctx) (c := bodyOf Tryd.f72) (cok_of tys_ok (alln) (alln) (by kernel_rfl)) Tryd.func72 (by kernel_rfl) LL impl_oneRoot_an ?_
  intro avs H r H' h
  unfold F_impl_oneRoot at h
  split at h
  · refine Awp.cast ?_ ?_ ?_ (impl_oneRoot_e _ h) <;> kernel_rfl
  · simp [Ans.no, Ans.run] at h


/-! (*loop.example/headtrees/impl.walker).up -/

def impl_walker_up_an : Ann := (.seq (.leaf [0]) (.seq (.draw [] [0, 1, 2, 3, 4, 5, 6, 7, 8, 9, 10, 11] [] [0, 3]) (.seq (.seq (.leaf [0, 3, 16]) (.cond (.seq (.leaf [2]) (.leaf [2])) (.leaf [0, 3]))) (.seq (.leaf [0]) (.seq (.leaf []) (.seq (.leaf [2]) (.leaf [2])))))))

noncomputable def impl_walker_up_ctx : Ctx := ⟨tlook tys, olook [], ioF, 1, false, []⟩

theorem impl_walker_up_n1_l (x896 : List Int) (x897 : Int) (x898 : Int) : Link impl_walker_up_ctx LL (bodyOf Tryd.f64) impl_walker_up_an ⟨mkE 28 0 [(0, .ptr 0 0)], [some (.box [dL x896, dI x897, dI x898])]⟩ (impl_walker_up_n1 x896 x897 x898) (fun (t : Bool × Int × Int) => (Exit.ret, ⟨mkE 28 0 [(2, dB t.1)], [some (.box [dL x896, dI t.2.1, dI t.2.2])]⟩)) := by
  refine Link.of fun K h => ?_
  simp only [impl_walker_up_n1, wpO_bind, wpO_cond, wpO_map, wpO_some] at h
  exact Awp.of (by kernel_rfl) h

theorem impl_walker_up_e (x896 : List Int) (x897 : Int) (x898 : Int) {r : AV} {H' : Heap} (h : (Ans.mk _ (impl_walker_up x896 x897 x898) (fun (t : Bool × Int × Int) => (dB t.1, [some (.box [dL x896, dI t.2.1, dI t.2.2])])) [] none).run = some (r, H')) : Awp impl_walker_up_ctx LL (bodyOf Tryd.f64) impl_walker_up_an ⟨mkE 28 0 [(0, .ptr 0 0)], [some (.box [dL x896, dI x897, dI x898])]⟩ (Ret (tlook tys) Tryd.f64.results.toList r H') :=
  ret_of' (impl_walker_up_n1_l x896 x897 x898) (by unfold impl_walker_up; kernel_rfl) (by
  intro t
  exact ret_mk [dB t.1] (by kernel_rfl) (by kernel_rfl) (by kernel_rfl) (by kernel_rfl)) h

def F_impl_walker_up : Fun := fun avs H =>
  match avs, H with
  | [.ptr 0 0], [some (.box [.dat (.list (.int .i64)) x896, .dat (.int .i64) x897, .dat (.int .i64) x898])] => ⟨_, impl_walker_up x896 x897 x898, fun (t : Bool × Int × Int) => (dB t.1, [some (.box [dL x896, dI t.2.1, dI t.2.2])]), [], none⟩
  | _, _ => Ans.no

theorem impl_walker_up_sound : Sound Tryd.prog 64 F_impl_walker_up := by
  refine fn_sound' (C := impl_walker_up_ctx) (c := bodyOf Tryd.f64) (cok_of tys_ok (alln) (alln) (by kernel_rfl)) Tryd.func64 (by kernel_rfl) LL impl_walker_up_an ?_
  intro avs H r H' h
  unfold F_impl_walker_up at h
  split at h
  · refine Awp.cast ?_ ?_ ?_ (impl_walker_up_e _ _ _ h) <;> kernel_rfl
  · simp [Ans.no, Ans.run] at h


/-! loop.example/headtrees/impl.stepsToRoot -/

def impl_stepsToRoot_an : Ann := (.seq (.leaf [0, 1]) (.seq (.leaf [0, 6]) (.seq (.block (.loop (.seq (.seq (.leaf [0, 6, 10]) (.cond (.leaf [0, 6]) (.leaf [6]))) (.block (.seq (.leaf [0, 6, 15]) (.cond (.seq (.leaf [4, 5]) (.leaf [4, 5])) (.leaf [0, 6]))))))) (.seq (.leaf [4, 5]) (.leaf [4, 5])))))

noncomputable def impl_stepsToRoot_ctx : Ctx := ⟨tlook tys, olook [(64, F_impl_walker_up)], ioF, 0, false, []⟩

theorem impl_stepsToRoot_n1_l (x894 : List Int) (x895 : Int) : Link impl_stepsToRoot_ctx LL (Code.seq (cq [0] (bodyOf Tryd.f73)) (cq [0,1] (bodyOf Tryd.f73))) (Ann.seq (aq [0] impl_stepsToRoot_an) (aq [0,1] impl_stepsToRoot_an)) ⟨mkE 18 0 [(0, dL x894), (1, dI x895)], []⟩ (impl_stepsToRoot_n1) (fun (t : Unit) => (Exit.normal, ⟨mkE 18 0 [(0, dL x894), (6, .ptr 0 0)], [some (.box [dL x894, dI x895, dI 0])]⟩)) := by
  refine Link.of fun K h => ?_
  simp only [impl_stepsToRoot_n1, wpO_bind, wpO_cond, wpO_map, wpO_some] at h
  exact Awp.of (by kernel_rfl) h

theorem impl_stepsToRoot_n2_l (x894 : List Int) (x932 : Int) (x933 : Int) : Link impl_stepsToRoot_ctx LL (cq [0,0,0,1,1] (bodyOf Tryd.f73)) (aq [0,0,0,1,1] impl_stepsToRoot_an) ⟨mkE 18 0 [(0, dL x894), (6, .ptr 0 0)], [some (.box [dL x894, dI x932, dI x933])]⟩ (impl_stepsToRoot_n2 x894 x932 x933) (Sum.elim (fun (t : Int × Int) => (Exit.normal, ⟨mkE 18 0 [(0, dL x894), (6, .ptr 0 0)], [some (.box [dL x894, dI t.1, dI t.2])]⟩)) (Sum.elim (fun (t : Int × Bool) => (Exit.ret, ⟨mkE 18 0 [(4, dI t.1), (5, dB t.2)], []⟩)) (fun (t : Int × Int) => ((Exit.exit 0), ⟨mkE 18 0 [(6, .ptr 0 0)], [some (.box [dL x894, dI t.1, dI t.2])]⟩)))) := by
  refine Link.of fun K h => ?_
  simp only [impl_stepsToRoot_n2, wpO_bind, wpO_cond, wpO_map, wpO_some] at h
  exact Awp.of (by kernel_rfl) h

def impl_stepsToRoot_n3_l (x894 : List Int) (x895 : Int) := (link_loop (mk := fun (s : Int × Int) => ⟨mkE 18 0 [(0, dL x894), (6, .ptr 0 0)], [some (.box [dL x894, dI s.1, dI s.2])]⟩) (fin := (Sum.elim (fun (t : Int × Bool) => (Exit.ret, ⟨mkE 18 0 [(4, dI t.1), (5, dB t.2)], []⟩)) (fun (t : Int × Int) => ((Exit.exit 0), ⟨mkE 18 0 [(6, .ptr 0 0)], [some (.box [dL x894, dI t.1, dI t.2])]⟩)))) (by
  rintro (t | t) f K h
  · exact h
  · exact h) (fun s => link_map (impl_stepsToRoot_n2_l x894 s.1 s.2) (Sum.elim (fun (t : Int × Int) => Sum.inl (t.1, t.2)) (Sum.elim (fun (t : Int × Bool) => Sum.inr (Sum.inl t)) (fun (t : Int × Int) => Sum.inr (Sum.inr t)))) (by
  rintro (t | t | t)
  · kernel_rfl
  · kernel_rfl
  · kernel_rfl)) (x895, 0))

def impl_stepsToRoot_n4_l (x894 : List Int) (x895 : Int) := (link_block (fin2 := (Sum.elim (fun (t : Int × Int) => (Exit.normal, ⟨mkE 18 0 [(6, .ptr 0 0)], [some (.box [dL x894, dI t.1, dI t.2])]⟩)) (fun (t : Int × Bool) => (Exit.ret, ⟨mkE 18 0 [(4, dI t.1), (5, dB t.2)], []⟩)))) (id := 0) (impl_stepsToRoot_n3_l x894 x895) (Sum.elim (fun (t : Int × Bool) => (Sum.inr t)) (fun (t : Int × Int) => (Sum.inl (t.1, t.2)))) (by
  rintro (t | t) K h
  · exact Eq.mp (by kernel_rfl) h
  · exact Eq.mp (by kernel_rfl) h))

theorem impl_stepsToRoot_n5_l (x894 : List Int) (x940 : Int) (x941 : Int) : Link impl_stepsToRoot_ctx LL (cq [1,1,1] (bodyOf Tryd.f73)) (aq [1,1,1] impl_stepsToRoot_an) ⟨mkE 18 0 [(6, .ptr 0 0)], [some (.box [dL x894, dI x940, dI x941])]⟩ (impl_stepsToRoot_n5 x941) (fun (t : Int × Bool) => (Exit.ret, ⟨mkE 18 0 [(4, dI t.1), (5, dB t.2)], []⟩)) := by
  refine Link.of fun K h => ?_
  simp only [impl_stepsToRoot_n5, wpO_bind, wpO_cond, wpO_map, wpO_some] at h
  exact Awp.of (by kernel_rfl) h

def impl_stepsToRoot_n6_l (x894 : List Int) (x895 : Int) := (link_seq2 (impl_stepsToRoot_n4_l x894 x895) (fun (t : Int × Int) => (impl_stepsToRoot_n5_l x894 t.1 t.2)) (fun (t : Int × Bool) => t) (by
  rintro t
  · kernel_rfl) (by
  rintro t f K h
  · exact h))

def impl_stepsToRoot_n7_l (x894 : List Int) (x895 : Int) := (link_group (c := (cq [0,1] (bodyOf Tryd.f73))) (a := (aq [0,1] impl_stepsToRoot_an)) [(cq [0] (bodyOf Tryd.f73))] [(aq [0] impl_stepsToRoot_an)] rfl (link_seq (impl_stepsToRoot_n1_l x894 x895) (fun (t : Unit) => (impl_stepsToRoot_n6_l x894 x895))))

theorem impl_stepsToRoot_e (x894 : List Int) (x895 : Int) {r : AV} {H' : Heap} (h : (Ans.mk _ (impl_stepsToRoot x894 x895) (fun (t : Int × Bool) => (.tup [dI t.1, dB t.2], [])) [] none).run = some (r, H')) : Awp impl_stepsToRoot_ctx LL (bodyOf Tryd.f73) impl_stepsToRoot_an ⟨mkE 18 0 [(0, dL x894), (1, dI x895)], []⟩ (Ret (tlook tys) Tryd.f73.results.toList r H') :=
  ret_of' (Link.cast (by kernel_rfl) (by kernel_rfl) (impl_stepsToRoot_n7_l x894 x895)) (by unfold impl_stepsToRoot; kernel_rfl) (by
  intro t
  exact ret_mk [dI t.1, dB t.2] (by kernel_rfl) (by kernel_rfl) (by kernel_rfl) (by kernel_rfl)) h

def F_impl_stepsToRoot : Fun := fun avs H =>
  match avs, H with
  | [.dat (.list (.int .i64)) x894, .dat (.int .i64) x895], [] => ⟨_, impl_stepsToRoot x894 x895, fun (t : Int × Bool) => (.tup [dI t.1, dB t.2], []), [], none⟩
  | _, _ => Ans.no

theorem impl_stepsToRoot_sound : Sound Tryd.prog 73 F_impl_stepsToRoot := by
  refine fn_sound' (C := impl_stepsToRoot_ctx) (c := bodyOf Tryd.f73) (cok_of tys_ok (allc impl_walker_up_sound alln) (allc Tryd.call64 alln) (by kernel_rfl)) Tryd.func73 (by kernel_rfl) LL impl_stepsToRoot_an ?_
  intro avs H r H' h
  unfold F_impl_stepsToRoot at h
  split at h
  · refine Awp.cast ?_ ?_ ?_ (impl_stepsToRoot_e _ _ h) <;> kernel_rfl
  · simp [Ans.no, Ans.run] at h


/-! loop.example/headtrees/impl.TreeOk -/

def impl_TreeOk_an : Ann := (.seq (.leaf [0]) (.seq (.seq (.leaf [0, 18]) (.cond (.seq (.leaf [2]) (.leaf [2])) (.leaf [0]))) (.seq (.seq (.leaf [0, 20, 21]) (.block (.loop (.seq (.leaf [0, 20, 21, 22]) (.seq (.cond (.leaf [0, 20, 21]) (.leaf [])) (.seq (.block (.seq (.leaf [0, 3, 20, 21]) (.seq (.leaf [0, 5, 20, 21]) (.seq (.leaf [0, 20, 21, 32]) (.cond (.seq (.leaf [2]) (.leaf [2])) (.leaf [0, 20, 21])))))) (.leaf [0, 20, 21]))))))) (.seq (.leaf [2]) (.leaf [2])))))

noncomputable def impl_TreeOk_ctx : Ctx := ⟨tlook tys, olook [(72, F_impl_oneRoot), (73, F_impl_stepsToRoot)], ioF, 0, false, []⟩

theorem impl_TreeOk_n1_l (x834 : List Int) : Link impl_TreeOk_ctx LL (Code.seq (cq [0] (bodyOf Tryd.f31)) (cq [0,1] (bodyOf Tryd.f31))) (Ann.seq (aq [0] impl_TreeOk_an) (aq [0,1] impl_TreeOk_an)) ⟨mkE 34 0 [(0, dL x834)], []⟩ (impl_TreeOk_n1 x834) (Sum.elim (fun (t : Unit) => (Exit.normal, ⟨mkE 34 0 [(0, dL x834)], []⟩)) (fun (t : Bool) => (Exit.ret, ⟨mkE 34 0 [(2, dB t)], []⟩))) := by
  refine Link.of fun K h => ?_
  simp only [impl_TreeOk_n1, wpO_bind, wpO_cond, wpO_map, wpO_some] at h
  exact Awp.of (by kernel_rfl) h

theorem impl_TreeOk_n2_l (x834 : List Int) : Link impl_TreeOk_ctx LL (cq [0,0,1,1] (bodyOf Tryd.f31)) (aq [0,0,1,1] impl_TreeOk_an) ⟨mkE 34 0 [(0, dL x834)], []⟩ (impl_TreeOk_n2 x834) (fun (t : Int) => (Exit.normal, ⟨mkE 34 0 [(0, dL x834), (20, dI t), (21, dI 0)], []⟩)) := by
  refine Link.of fun K h => ?_
  simp only [impl_TreeOk_n2, wpO_bind, wpO_cond, wpO_map, wpO_some] at h
  exact Awp.of (by kernel_rfl) h

theorem impl_TreeOk_n3_l (x834 : List Int) (x889 : Int) (x957 : Int) : Link impl_TreeOk_ctx LL (cq [0,0,1,0,1,1] (bodyOf Tryd.f31)) (aq [0,0,1,0,1,1] impl_TreeOk_an) ⟨mkE 34 0 [(0, dL x834), (20, dI x889), (21, dI x957)], []⟩ (impl_TreeOk_n3 x834 x889 x957) (Sum.elim (fun (t : Int) => (Exit.normal, ⟨mkE 34 0 [(0, dL x834), (20, dI x889), (21, dI t)], []⟩)) (Sum.elim (fun (t : Bool) => (Exit.ret, ⟨mkE 34 0 [(2, dB t)], []⟩)) (fun (t : Unit) => ((Exit.exit 0), ⟨mkE 34 0 [], []⟩)))) := by
  refine Link.of fun K h => ?_
  simp only [impl_TreeOk_n3, wpO_bind, wpO_cond, wpO_map, wpO_some] at h
  exact Awp.of (by kernel_rfl) h

def impl_TreeOk_n4_l (x834 : List Int) (x889 : Int) := (link_loop (mk := fun (s : Int) => ⟨mkE 34 0 [(0, dL x834), (20, dI x889), (21, dI s)], []⟩) (fin := (Sum.elim (fun (t : Bool) => (Exit.ret, ⟨mkE 34 0 [(2, dB t)], []⟩)) (fun (t : Unit) => ((Exit.exit 0), ⟨mkE 34 0 [], []⟩)))) (by
  rintro (t | t) f K h
  · exact h
  · exact h) (fun s => link_map (impl_TreeOk_n3_l x834 x889 s) (Sum.elim (fun (t : Int) => Sum.inl t) (Sum.elim (fun (t : Bool) => Sum.inr (Sum.inl t)) (fun (t : Unit) => Sum.inr (Sum.inr t)))) (by
  rintro (t | t | t)
  · kernel_rfl
  · kernel_rfl
  · kernel_rfl)) 0)

def impl_TreeOk_n5_l (x834 : List Int) (x889 : Int) := (link_block (fin2 := (Sum.elim (fun (t : Unit) => (Exit.normal, ⟨mkE 34 0 [], []⟩)) (fun (t : Bool) => (Exit.ret, ⟨mkE 34 0 [(2, dB t)], []⟩)))) (id := 0) (impl_TreeOk_n4_l x834 x889) (Sum.elim (fun (t : Bool) => (Sum.inr t)) (fun (t : Unit) => (Sum.inl ()))) (by
  rintro (t | t) K h
  · exact Eq.mp (by kernel_rfl) h
  · exact Eq.mp (by kernel_rfl) h))

def impl_TreeOk_n6_l (x834 : List Int) := (link_seq (impl_TreeOk_n2_l x834) (fun (t : Int) => (impl_TreeOk_n5_l x834 t)))

theorem impl_TreeOk_n7_l : Link impl_TreeOk_ctx LL (cq [1,1,1] (bodyOf Tryd.f31)) (aq [1,1,1] impl_TreeOk_an) ⟨mkE 34 0 [], []⟩ (impl_TreeOk_n7) (fun (t : Bool) => (Exit.ret, ⟨mkE 34 0 [(2, dB t)], []⟩)) := by
  refine Link.of fun K h => ?_
  simp only [impl_TreeOk_n7, wpO_bind, wpO_cond, wpO_map, wpO_some] at h
  exact Awp.of (by kernel_rfl) h

def impl_TreeOk_n8_l (x834 : List Int) := (link_seq2 (impl_TreeOk_n6_l x834) (fun (t : Unit) => (impl_TreeOk_n7_l)) (fun (t : Bool) => t) (by
  rintro t
  · kernel_rfl) (by
  rintro t f K h
  · exact h))

def impl_TreeOk_n9_l (x834 : List Int) := (link_group (c := (cq [0,1] (bodyOf Tryd.f31))) (a := (aq [0,1] impl_TreeOk_an)) [(cq [0] (bodyOf Tryd.f31))] [(aq [0] impl_TreeOk_an)] rfl (link_seq2 (impl_TreeOk_n1_l x834) (fun (t : Unit) => (impl_TreeOk_n8_l x834)) (fun (t : Bool) => t) (by
  rintro t
  · kernel_rfl) (by
  rintro t f K h
  · exact h)))

theorem impl_TreeOk_e (x834 : List Int) {r : AV} {H' : Heap} (h : (Ans.mk _ (impl_TreeOk x834) (fun (t : Bool) => (dB t, [])) [] none).run = some (r, H')) : Awp impl_TreeOk_ctx LL (bodyOf Tryd.f31) impl_TreeOk_an ⟨mkE 34 0 [(0, dL x834)], []⟩ (Ret (tlook tys) Tryd.f31.results.toList r H') :=
  ret_of' (Link.cast (by kernel_rfl) (by kernel_rfl) (impl_TreeOk_n9_l x834)) (by unfold impl_TreeOk; kernel_rfl) (by
  intro t
  exact ret_mk [dB t] (by kernel_rfl) (by kernel_rfl) (by kernel_rfl) (by kernel_rfl)) h

def F_impl_TreeOk : Fun := fun avs H =>
  match avs, H with
  | [.dat (.list (.int .i64)) x834], [] => ⟨_, impl_TreeOk x834, fun (t : Bool) => (dB t, []), [], none⟩
  | _, _ => Ans.no

theorem impl_TreeOk_sound : Sound Tryd.prog 31 F_impl_TreeOk := by
  refine fn_sound' (C := impl_TreeOk_ctx) (c := bodyOf Tryd.f31) (cok_of tys_ok (allc impl_oneRoot_sound (allc impl_stepsToRoot_sound alln)) (allc Tryd.call72 (allc Tryd.call73 alln)) (by kernel_rfl)) Tryd.func31 (by kernel_rfl) LL impl_TreeOk_an ?_
  intro avs H r H' h
  unfold F_impl_TreeOk at h
  split at h
  · refine Awp.cast ?_ ?_ ?_ (impl_TreeOk_e _ h) <;> kernel_rfl
  · simp [Ans.no, Ans.run] at h


/-! loop.example/headtrees/impl.wordOk -/

def impl_wordOk_an : Ann := (.seq (.leaf [0, 1]) (.seq (.leaf [4]) (.leaf [4])))

noncomputable def impl_wordOk_ctx : Ctx := ⟨tlook tys, olook [(31, F_impl_TreeOk)], ioF, 0, false, []⟩

theorem impl_wordOk_n1_l (x832 : List Int) (x833 : Int) : Link impl_wordOk_ctx LL (bodyOf Tryd.f48) impl_wordOk_an ⟨mkE 17 0 [(0, dL x832), (1, dI x833)], []⟩ (impl_wordOk_n1 x832 x833) (fun (t : Bool) => (Exit.ret, ⟨mkE 17 0 [(4, dB t)], []⟩)) := by
  refine Link.of fun K h => ?_
  simp only [impl_wordOk_n1, wpO_bind, wpO_cond, wpO_map, wpO_some] at h
  exact Awp.of (by kernel_rfl) h

theorem impl_wordOk_e (x832 : List Int) (x833 : Int) {r : AV} {H' : Heap} (h : (Ans.mk _ (impl_wordOk x832 x833) (fun (t : Bool) => (dB t, [])) [] none).run = some (r, H')) : Awp impl_wordOk_ctx LL (bodyOf Tryd.f48) impl_wordOk_an ⟨mkE 17 0 [(0, dL x832), (1, dI x833)], []⟩ (Ret (tlook tys) Tryd.f48.results.toList r H') :=
  ret_of' (impl_wordOk_n1_l x832 x833) (by unfold impl_wordOk; kernel_rfl) (by
  intro t
  exact ret_mk [dB t] (by kernel_rfl) (by kernel_rfl) (by kernel_rfl) (by kernel_rfl)) h

def F_impl_wordOk : Fun := fun avs H =>
  match avs, H with
  | [.dat (.list (.int .i64)) x832, .dat (.int .i64) x833], [] => ⟨_, impl_wordOk x832 x833, fun (t : Bool) => (dB t, []), [], none⟩
  | _, _ => Ans.no

theorem impl_wordOk_sound : Sound Tryd.prog 48 F_impl_wordOk := by
  refine fn_sound' (C := impl_wordOk_ctx) (c := bodyOf Tryd.f48) (cok_of tys_ok (allc impl_TreeOk_sound alln) (allc Tryd.call31 alln) (by kernel_rfl)) Tryd.func48 (by kernel_rfl) LL impl_wordOk_an ?_
  intro avs H r H' h
  unfold F_impl_wordOk at h
  split at h
  · refine Awp.cast ?_ ?_ ?_ (impl_wordOk_e _ _ h) <;> kernel_rfl
  · simp [Ans.no, Ans.run] at h


/-! loop.example/headtrees/impl.only -/

def impl_only_an : Ann := (.seq (.leaf [0]) (.seq (.leaf [2]) (.leaf [2])))

noncomputable def impl_only_ctx : Ctx := ⟨tlook tys, olook [], ioF, 0, false, []⟩

theorem impl_only_n1_l (x998 : Int) : Link impl_only_ctx LL (bodyOf Tryd.f87) impl_only_an ⟨mkE 6 0 [(0, dI x998)], []⟩ (impl_only_n1 x998) (fun (t : Int) => (Exit.ret, ⟨mkE 6 0 [(2, dW t)], []⟩)) := by
  refine Link.of fun K h => ?_
  simp only [impl_only_n1, wpO_bind, wpO_cond, wpO_map, wpO_some] at h
  exact Awp.of (by kernel_rfl) h

theorem impl_only_e (x998 : Int) {r : AV} {H' : Heap} (h : (Ans.mk _ (impl_only x998) (fun (t : Int) => (dW t, [])) [] none).run = some (r, H')) : Awp impl_only_ctx LL (bodyOf Tryd.f87) impl_only_an ⟨mkE 6 0 [(0, dI x998)], []⟩ (Ret (tlook tys) Tryd.f87.results.toList r H') :=
  ret_of' (impl_only_n1_l x998) (by unfold impl_only; kernel_rfl) (by
  intro t
  exact ret_mk [dW t] (by kernel_rfl) (by kernel_rfl) (by kernel_rfl) (by kernel_rfl)) h

def F_impl_only : Fun := fun avs H =>
  match avs, H with
  | [.dat (.int .i64) x998], [] => ⟨_, impl_only x998, fun (t : Int) => (dW t, []), [], none⟩
  | _, _ => Ans.no

theorem impl_only_sound : Sound Tryd.prog 87 F_impl_only := by
  refine fn_sound' (C := impl_only_ctx) (c := bodyOf Tryd.f87) (cok_of tys_ok (alln) (alln) (by kernel_rfl)) Tryd.func87 (by kernel_rfl) LL impl_only_an ?_
  intro avs H r H' h
  unfold F_impl_only at h
  split at h
  · refine Awp.cast ?_ ?_ ?_ (impl_only_e _ h) <;> kernel_rfl
  · simp [Ans.no, Ans.run] at h


/-! loop.example/headtrees/impl.dependents -/

def impl_dependents_an : Ann := (.seq (.leaf [0, 1]) (.seq (.leaf [0, 1, 5]) (.seq (.seq (.leaf [0, 1, 5, 8, 9]) (.block (.loop (.seq (.leaf [0, 1, 5, 8, 9, 10]) (.seq (.cond (.leaf [0, 1, 5, 8, 9]) (.leaf [5])) (.seq (.block (.seq (.leaf [0, 1, 5, 6, 8, 9]) (.seq (.leaf [0, 1, 5, 6, 8, 9, 17]) (.cond (.leaf [0, 1, 5, 8, 9]) (.leaf [0, 1, 5, 8, 9]))))) (.leaf [0, 1, 5, 8, 9]))))))) (.seq (.leaf [4]) (.leaf [4])))))

noncomputable def impl_dependents_ctx : Ctx := ⟨tlook tys, olook [(87, F_impl_only)], ioF, 0, false, []⟩

theorem impl_dependents_n1_l (x989 : List Int) (x990 : Int) : Link impl_dependents_ctx LL (Code.seq (cq [0] (bodyOf Tryd.f53)) (cq [0,1] (bodyOf Tryd.f53))) (Ann.seq (aq [0] impl_dependents_an) (aq [0,1] impl_dependents_an)) ⟨mkE 25 0 [(0, dL x989), (1, dI x990)], []⟩ (impl_dependents_n1) (fun (t : Unit) => (Exit.normal, ⟨mkE 25 0 [(0, dL x989), (1, dI x990), (5, dW 0)], []⟩)) := by
  refine Link.of fun K h => ?_
  simp only [impl_dependents_n1, wpO_bind, wpO_cond, wpO_map, wpO_some] at h
  exact Awp.of (by kernel_rfl) h

theorem impl_dependents_n2_l (x989 : List Int) (x990 : Int) : Link impl_dependents_ctx LL (cq [0,0,1,1] (bodyOf Tryd.f53)) (aq [0,0,1,1] impl_dependents_an) ⟨mkE 25 0 [(0, dL x989), (1, dI x990), (5, dW 0)], []⟩ (impl_dependents_n2 x989) (fun (t : Int) => (Exit.normal, ⟨mkE 25 0 [(0, dL x989), (1, dI x990), (5, dW 0), (8, dI t), (9, dI 0)], []⟩)) := by
  refine Link.of fun K h => ?_
  simp only [impl_dependents_n2, wpO_bind, wpO_cond, wpO_map, wpO_some] at h
  exact Awp.of (by kernel_rfl) h

theorem impl_dependents_n3_l (x989 : List Int) (x990 : Int) (x1015 : Int) (x991 : Int) (x1016 : Int) : Link impl_dependents_ctx LL (cq [0,0,1,0,1,1] (bodyOf Tryd.f53)) (aq [0,0,1,0,1,1] impl_dependents_an) ⟨mkE 25 0 [(0, dL x989), (1, dI x990), (5, dW x1015), (8, dI x991), (9, dI x1016)], []⟩ (impl_dependents_n3 x989 x990 x1015 x991 x1016) (Sum.elim (fun (t : Int × Int) => (Exit.normal, ⟨mkE 25 0 [(0, dL x989), (1, dI x990), (5, dW t.1), (8, dI x991), (9, dI t.2)], []⟩)) (fun (t : Int) => ((Exit.exit 0), ⟨mkE 25 0 [(5, dW t)], []⟩))) := by
  refine Link.of fun K h => ?_
  simp only [impl_dependents_n3, wpO_bind, wpO_cond, wpO_map, wpO_some] at h
  exact Awp.of (by kernel_rfl) h

def impl_dependents_n4_l (x989 : List Int) (x990 : Int) (x991 : Int) := (link_loop (mk := fun (s : Int × Int) => ⟨mkE 25 0 [(0, dL x989), (1, dI x990), (5, dW s.1), (8, dI x991), (9, dI s.2)], []⟩) (fin := (fun (t : Int) => ((Exit.exit 0), ⟨mkE 25 0 [(5, dW t)], []⟩))) (by
  rintro t f K h
  · exact h) (fun s => link_map (impl_dependents_n3_l x989 x990 s.1 x991 s.2) (Sum.elim (fun (t : Int × Int) => Sum.inl (t.1, t.2)) (fun (t : Int) => Sum.inr t)) (by
  rintro (t | t)
  · kernel_rfl
  · kernel_rfl)) (0, 0))

def impl_dependents_n5_l (x989 : List Int) (x990 : Int) (x991 : Int) := (link_block (fin2 := (fun (t : Int) => (Exit.normal, ⟨mkE 25 0 [(5, dW t)], []⟩))) (id := 0) (impl_dependents_n4_l x989 x990 x991) (fun (t : Int) => t) (by
  rintro t K h
  · exact Eq.mp (by kernel_rfl) h))

def impl_dependents_n6_l (x989 : List Int) (x990 : Int) := (link_seq (impl_dependents_n2_l x989 x990) (fun (t : Int) => (impl_dependents_n5_l x989 x990 t)))

theorem impl_dependents_n7_l (x1015 : Int) : Link impl_dependents_ctx LL (cq [1,1,1] (bodyOf Tryd.f53)) (aq [1,1,1] impl_dependents_an) ⟨mkE 25 0 [(5, dW x1015)], []⟩ (impl_dependents_n7 x1015) (fun (t : Int) => (Exit.ret, ⟨mkE 25 0 [(4, dW t)], []⟩)) := by
  refine Link.of fun K h => ?_
  simp only [impl_dependents_n7, wpO_bind, wpO_cond, wpO_map, wpO_some] at h
  exact Awp.of (by kernel_rfl) h

def impl_dependents_n8_l (x989 : List Int) (x990 : Int) := (link_seq (impl_dependents_n6_l x989 x990) (fun (t : Int) => (impl_dependents_n7_l t)))

def impl_dependents_n9_l (x989 : List Int) (x990 : Int) := (link_group (c := (cq [0,1] (bodyOf Tryd.f53))) (a := (aq [0,1] impl_dependents_an)) [(cq [0] (bodyOf Tryd.f53))] [(aq [0] impl_dependents_an)] rfl (link_seq (impl_dependents_n1_l x989 x990) (fun (t : Unit) => (impl_dependents_n8_l x989 x990))))

theorem impl_dependents_e (x989 : List Int) (x990 : Int) {r : AV} {H' : Heap} (h : (Ans.mk _ (impl_dependents x989 x990) (fun (t : Int) => (dW t, [])) [] none).run = some (r, H')) : Awp impl_dependents_ctx LL (bodyOf Tryd.f53) impl_dependents_an ⟨mkE 25 0 [(0, dL x989), (1, dI x990)], []⟩ (Ret (tlook tys) Tryd.f53.results.toList r H') :=
  ret_of' (Link.cast (by kernel_rfl) (by kernel_rfl) (impl_dependents_n9_l x989 x990)) (by unfold impl_dependents; kernel_rfl) (by
  intro t
  exact ret_mk [dW t] (by kernel_rfl) (by kernel_rfl) (by kernel_rfl) (by kernel_rfl)) h

def F_impl_dependents : Fun := fun avs H =>
  match avs, H with
  | [.dat (.list (.int .i64)) x989, .dat (.int .i64) x990], [] => ⟨_, impl_dependents x989 x990, fun (t : Int) => (dW t, []), [], none⟩
  | _, _ => Ans.no

theorem impl_dependents_sound : Sound Tryd.prog 53 F_impl_dependents := by
  refine fn_sound' (C := impl_dependents_ctx) (c := bodyOf Tryd.f53) (cok_of tys_ok (allc impl_only_sound alln) (allc Tryd.call87 alln) (by kernel_rfl)) Tryd.func53 (by kernel_rfl) LL impl_dependents_an ?_
  intro avs H r H' h
  unfold F_impl_dependents at h
  split at h
  · refine Awp.cast ?_ ?_ ?_ (impl_dependents_e _ _ h) <;> kernel_rfl
  · simp [Ans.no, Ans.run] at h


/-! loop.example/headtrees/impl.before -/

def impl_before_an : Ann := (.seq (.leaf [0]) (.seq (.leaf [2]) (.leaf [2])))

noncomputable def impl_before_ctx : Ctx := ⟨tlook tys, olook [(87, F_impl_only)], ioF, 0, false, []⟩

theorem impl_before_n1_l (x1037 : Int) : Link impl_before_ctx LL (bodyOf Tryd.f85) impl_before_an ⟨mkE 6 0 [(0, dI x1037)], []⟩ (impl_before_n1 x1037) (fun (t : Int) => (Exit.ret, ⟨mkE 6 0 [(2, dW t)], []⟩)) := by
  refine Link.of fun K h => ?_
  simp only [impl_before_n1, wpO_bind, wpO_cond, wpO_map, wpO_some] at h
  exact Awp.of (by kernel_rfl) h

theorem impl_before_e (x1037 : Int) {r : AV} {H' : Heap} (h : (Ans.mk _ (impl_before x1037) (fun (t : Int) => (dW t, [])) [] none).run = some (r, H')) : Awp impl_before_ctx LL (bodyOf Tryd.f85) impl_before_an ⟨mkE 6 0 [(0, dI x1037)], []⟩ (Ret (tlook tys) Tryd.f85.results.toList r H') :=
  ret_of' (impl_before_n1_l x1037) (by unfold impl_before; kernel_rfl) (by
  intro t
  exact ret_mk [dW t] (by kernel_rfl) (by kernel_rfl) (by kernel_rfl) (by kernel_rfl)) h

def F_impl_before : Fun := fun avs H =>
  match avs, H with
  | [.dat (.int .i64) x1037], [] => ⟨_, impl_before x1037, fun (t : Int) => (dW t, []), [], none⟩
  | _, _ => Ans.no

theorem impl_before_sound : Sound Tryd.prog 85 F_impl_before := by
  refine fn_sound' (C := impl_before_ctx) (c := bodyOf Tryd.f85) (cok_of tys_ok (allc impl_only_sound alln) (allc Tryd.call87 alln) (by kernel_rfl)) Tryd.func85 (by kernel_rfl) LL impl_before_an ?_
  intro avs H r H' h
  unfold F_impl_before at h
  split at h
  · refine Awp.cast ?_ ?_ ?_ (impl_before_e _ h) <;> kernel_rfl
  · simp [Ans.no, Ans.run] at h


/-! loop.example/headtrees/impl.dependentsBeside -/

def impl_dependentsBeside_an : Ann := (.seq (.leaf [0, 1]) (.seq (.leaf [1, 6]) (.seq (.leaf [4, 5]) (.leaf [4, 5]))))

noncomputable def impl_dependentsBeside_ctx : Ctx := ⟨tlook tys, olook [(53, F_impl_dependents), (85, F_impl_before)], ioF, 0, false, []⟩

theorem impl_dependentsBeside_n1_l (x987 : List Int) (x988 : Int) : Link impl_dependentsBeside_ctx LL (bodyOf Tryd.f49) impl_dependentsBeside_an ⟨mkE 18 0 [(0, dL x987), (1, dI x988)], []⟩ (impl_dependentsBeside_n1 x987 x988) (fun (t : Int × Int) => (Exit.ret, ⟨mkE 18 0 [(4, dW t.1), (5, dW t.2)], []⟩)) := by
  refine Link.of fun K h => ?_
  simp only [impl_dependentsBeside_n1, wpO_bind, wpO_cond, wpO_map, wpO_some] at h
  exact Awp.of (by kernel_rfl) h

theorem impl_dependentsBeside_e (x987 : List Int) (x988 : Int) {r : AV} {H' : Heap} (h : (Ans.mk _ (impl_dependentsBeside x987 x988) (fun (t : Int × Int) => (.tup [dW t.1, dW t.2], [])) [] none).run = some (r, H')) : Awp impl_dependentsBeside_ctx LL (bodyOf Tryd.f49) impl_dependentsBeside_an ⟨mkE 18 0 [(0, dL x987), (1, dI x988)], []⟩ (Ret (tlook tys) Tryd.f49.results.toList r H') :=
  ret_of' (impl_dependentsBeside_n1_l x987 x988) (by unfold impl_dependentsBeside; kernel_rfl) (by
  intro t
  exact ret_mk [dW t.1, dW t.2] (by kernel_rfl) (by kernel_rfl) (by kernel_rfl) (by kernel_rfl)) h

def F_impl_dependentsBeside : Fun := fun avs H =>
  match avs, H with
  | [.dat (.list (.int .i64)) x987, .dat (.int .i64) x988], [] => ⟨_, impl_dependentsBeside x987 x988, fun (t : Int × Int) => (.tup [dW t.1, dW t.2], []), [], none⟩
  | _, _ => Ans.no

theorem impl_dependentsBeside_sound : Sound Tryd.prog 49 F_impl_dependentsBeside := by
  refine fn_sound' (C := impl_dependentsBeside_ctx) (c := bodyOf Tryd.f49) (cok_of tys_ok (allc impl_dependents_sound (allc impl_before_sound alln)) (allc Tryd.call53 (allc Tryd.call85 alln)) (by kernel_rfl)) Tryd.func49 (by kernel_rfl) LL impl_dependentsBeside_an ?_
  intro avs H r H' h
  unfold F_impl_dependentsBeside at h
  split at h
  · refine Awp.cast ?_ ?_ ?_ (impl_dependentsBeside_e _ _ h) <;> kernel_rfl
  · simp [Ans.no, Ans.run] at h


/-! math/bits.OnesCount64 -/

def math_bits_OnesCount64_an : Ann := (.seq (.leaf [0]) (.seq (.leaf [0]) (.seq (.leaf [0]) (.seq (.leaf [0]) (.seq (.leaf [0]) (.seq (.leaf [0]) (.seq (.leaf [0]) (.seq (.leaf [2]) (.leaf [2])))))))))

noncomputable def math_bits_OnesCount64_ctx : Ctx := ⟨tlook tys, olook [], ioF, 0, false, []⟩

theorem math_bits_OnesCount64_n1_l (x1061 : Int) : Link math_bits_OnesCount64_ctx LL (Code.seq (cq [0] (bodyOf Tryd.f117)) (cq [0,1] (bodyOf Tryd.f117))) (Ann.seq (aq [0] math_bits_OnesCount64_an) (aq [0,1] math_bits_OnesCount64_an)) ⟨mkE 35 0 [(0, dW x1061)], []⟩ (math_bits_OnesCount64_n1 x1061) (fun (t : Int) => (Exit.normal, ⟨mkE 35 0 [(0, dW t)], []⟩)) := by
  refine Link.of fun K h => ?_
  simp only [math_bits_OnesCount64_n1, wpO_bind, wpO_cond, wpO_map, wpO_some] at h
  exact Awp.of (by kernel_rfl) h

theorem math_bits_OnesCount64_n2_l (x1066 : Int) : Link math_bits_OnesCount64_ctx LL (cq [0,1,1] (bodyOf Tryd.f117)) (aq [0,1,1] math_bits_OnesCount64_an) ⟨mkE 35 0 [(0, dW x1066)], []⟩ (math_bits_OnesCount64_n2 x1066) (fun (t : Int) => (Exit.normal, ⟨mkE 35 0 [(0, dW t)], []⟩)) := by
  refine Link.of fun K h => ?_
  simp only [math_bits_OnesCount64_n2, wpO_bind, wpO_cond, wpO_map, wpO_some] at h
  exact Awp.of (by kernel_rfl) h

theorem math_bits_OnesCount64_n3_l (x1083 : Int) : Link math_bits_OnesCount64_ctx LL (cq [0,1,1,1] (bodyOf Tryd.f117)) (aq [0,1,1,1] math_bits_OnesCount64_an) ⟨mkE 35 0 [(0, dW x1083)], []⟩ (math_bits_OnesCount64_n3 x1083) (fun (t : Int) => (Exit.normal, ⟨mkE 35 0 [(0, dW t)], []⟩)) := by
  refine Link.of fun K h => ?_
  simp only [math_bits_OnesCount64_n3, wpO_bind, wpO_cond, wpO_map, wpO_some] at h
  exact Awp.of (by kernel_rfl) h

theorem math_bits_OnesCount64_n4_l (x1090 : Int) : Link math_bits_OnesCount64_ctx LL (cq [0,1,1,1,1] (bodyOf Tryd.f117)) (aq [0,1,1,1,1] math_bits_OnesCount64_an) ⟨mkE 35 0 [(0, dW x1090)], []⟩ (math_bits_OnesCount64_n4 x1090) (fun (t : Int) => (Exit.normal, ⟨mkE 35 0 [(0, dW t)], []⟩)) := by
  refine Link.of fun K h => ?_
  simp only [math_bits_OnesCount64_n4, wpO_bind, wpO_cond, wpO_map, wpO_some] at h
  exact Awp.of (by kernel_rfl) h

theorem math_bits_OnesCount64_n5_l (x1094 : Int) : Link math_bits_OnesCount64_ctx LL (cq [0,1,1,1,1,1] (bodyOf Tryd.f117)) (aq [0,1,1,1,1,1] math_bits_OnesCount64_an) ⟨mkE 35 0 [(0, dW x1094)], []⟩ (math_bits_OnesCount64_n5 x1094) (fun (t : Int) => (Exit.normal, ⟨mkE 35 0 [(0, dW t)], []⟩)) := by
  refine Link.of fun K h => ?_
  simp only [math_bits_OnesCount64_n5, wpO_bind, wpO_cond, wpO_map, wpO_some] at h
  exact Awp.of (by kernel_rfl) h

theorem math_bits_OnesCount64_n6_l (x1099 : Int) : Link math_bits_OnesCount64_ctx LL (cq [0,1,1,1,1,1,1] (bodyOf Tryd.f117)) (aq [0,1,1,1,1,1,1] math_bits_OnesCount64_an) ⟨mkE 35 0 [(0, dW x1099)], []⟩ (math_bits_OnesCount64_n6 x1099) (fun (t : Int) => (Exit.normal, ⟨mkE 35 0 [(0, dW t)], []⟩)) := by
  refine Link.of fun K h => ?_
  simp only [math_bits_OnesCount64_n6, wpO_bind, wpO_cond, wpO_map, wpO_some] at h
  exact Awp.of (by kernel_rfl) h

theorem math_bits_OnesCount64_n7_l (x1104 : Int) : Link math_bits_OnesCount64_ctx LL (cq [0,1,1,1,1,1,1,1] (bodyOf Tryd.f117)) (aq [0,1,1,1,1,1,1,1] math_bits_OnesCount64_an) ⟨mkE 35 0 [(0, dW x1104)], []⟩ (math_bits_OnesCount64_n7 x1104) (fun (t : Int) => (Exit.normal, ⟨mkE 35 0 [(2, dI t)], []⟩)) := by
  refine Link.of fun K h => ?_
  simp only [math_bits_OnesCount64_n7, wpO_bind, wpO_cond, wpO_map, wpO_some] at h
  exact Awp.of (by kernel_rfl) h

theorem math_bits_OnesCount64_n8_l (x1109 : Int) : Link math_bits_OnesCount64_ctx LL (cq [1,1,1,1,1,1,1,1] (bodyOf Tryd.f117)) (aq [1,1,1,1,1,1,1,1] math_bits_OnesCount64_an) ⟨mkE 35 0 [(2, dI x1109)], []⟩ (math_bits_OnesCount64_n8 x1109) (fun (t : Int) => (Exit.ret, ⟨mkE 35 0 [(2, dI t)], []⟩)) := by
  refine Link.of fun K h => ?_
  simp only [math_bits_OnesCount64_n8, wpO_bind, wpO_cond, wpO_map, wpO_some] at h
  exact Awp.of (by kernel_rfl) h

def math_bits_OnesCount64_n9_l (x1104 : Int) := (link_seq (math_bits_OnesCount64_n7_l x1104) (fun (t : Int) => (math_bits_OnesCount64_n8_l t)))

def math_bits_OnesCount64_n10_l (x1099 : Int) := (link_seq (math_bits_OnesCount64_n6_l x1099) (fun (t : Int) => (math_bits_OnesCount64_n9_l t)))

def math_bits_OnesCount64_n11_l (x1094 : Int) := (link_seq (math_bits_OnesCount64_n5_l x1094) (fun (t : Int) => (math_bits_OnesCount64_n10_l t)))

def math_bits_OnesCount64_n12_l (x1090 : Int) := (link_seq (math_bits_OnesCount64_n4_l x1090) (fun (t : Int) => (math_bits_OnesCount64_n11_l t)))

def math_bits_OnesCount64_n13_l (x1083 : Int) := (link_seq (math_bits_OnesCount64_n3_l x1083) (fun (t : Int) => (math_bits_OnesCount64_n12_l t)))

def math_bits_OnesCount64_n14_l (x1066 : Int) := (link_seq (math_bits_OnesCount64_n2_l x1066) (fun (t : Int) => (math_bits_OnesCount64_n13_l t)))

def math_bits_OnesCount64_n15_l (x1061 : Int) := (link_group (c := (cq [0,1] (bodyOf Tryd.f117))) (a := (aq [0,1] math_bits_OnesCount64_an)) [(cq [0] (bodyOf Tryd.f117))] [(aq [0] math_bits_OnesCount64_an)] rfl (link_seq (math_bits_OnesCount64_n1_l x1061) (fun (t : Int) => (math_bits_OnesCount64_n14_l t))))

theorem math_bits_OnesCount64_e (x1061 : Int) {r : AV} {H' : Heap} (h : (Ans.mk _ (math_bits_OnesCount64 x1061) (fun (t : Int) => (dI t, [])) [] none).run = some (r, H')) : Awp math_bits_OnesCount64_ctx LL (bodyOf Tryd.f117) math_bits_OnesCount64_an ⟨mkE 35 0 [(0, dW x1061)], []⟩ (Ret (tlook tys) Tryd.f117.results.toList r H') :=
  ret_of' (Link.cast (by kernel_rfl) (by kernel_rfl) (math_bits_OnesCount64_n15_l x1061)) (by unfold math_bits_OnesCount64; kernel_rfl) (by
  intro t
  exact ret_mk [dI t] (by kernel_rfl) (by kernel_rfl) (by kernel_rfl) (by kernel_rfl)) h

def F_math_bits_OnesCount64 : Fun := fun avs H =>
  match avs, H with
  | [.dat (.int .u64) x1061], [] => ⟨_, math_bits_OnesCount64 x1061, fun (t : Int) => (dI t, []), [], none⟩
  | _, _ => Ans.no

theorem math_bits_OnesCount64_sound : Sound Tryd.prog 117 F_math_bits_OnesCount64 := by
  refine fn_sound' (C := math_bits_OnesCount64_ctx) (c := bodyOf Tryd.f117) (cok_of tys_ok (alln) (alln) (by kernel_rfl)) Tryd.func117 (by kernel_rfl) LL math_bits_OnesCount64_an ?_
  intro avs H r H' h
  unfold F_math_bits_OnesCount64 at h
  split at h
  · refine Awp.cast ?_ ?_ ?_ (math_bits_OnesCount64_e _ h) <;> kernel_rfl
  · simp [Ans.no, Ans.run] at h


/-! math/bits.OnesCount -/

def math_bits_OnesCount_an : Ann := (.seq (.leaf [0]) (.seq (.cond (.seq (.leaf [2]) (.leaf [2])) (.leaf [0])) (.seq (.leaf [2]) (.leaf [2]))))

noncomputable def math_bits_OnesCount_ctx : Ctx := ⟨tlook tys, olook [(117, F_math_bits_OnesCount64)], ioF, 0, false, []⟩

theorem math_bits_OnesCount_n1_l (x1060 : Int) : Link math_bits_OnesCount_ctx LL (bodyOf Tryd.f86) math_bits_OnesCount_an ⟨mkE 8 0 [(0, dW x1060)], []⟩ (math_bits_OnesCount_n1 x1060) (fun (t : Int) => (Exit.ret, ⟨mkE 8 0 [(2, dI t)], []⟩)) := by
  refine Link.of fun K h => ?_
  simp only [math_bits_OnesCount_n1, wpO_bind, wpO_cond, wpO_map, wpO_some] at h
  exact Awp.of (by kernel_rfl) h

theorem math_bits_OnesCount_e (x1060 : Int) {r : AV} {H' : Heap} (h : (Ans.mk _ (math_bits_OnesCount x1060) (fun (t : Int) => (dI t, [])) [] none).run = some (r, H')) : Awp math_bits_OnesCount_ctx LL (bodyOf Tryd.f86) math_bits_OnesCount_an ⟨mkE 8 0 [(0, dW x1060)], []⟩ (Ret (tlook tys) Tryd.f86.results.toList r H') :=
  ret_of' (math_bits_OnesCount_n1_l x1060) (by unfold math_bits_OnesCount; kernel_rfl) (by
  intro t
  exact ret_mk [dI t] (by kernel_rfl) (by kernel_rfl) (by kernel_rfl) (by kernel_rfl)) h

def F_math_bits_OnesCount : Fun := fun avs H =>
  match avs, H with
  | [.dat (.int .u64) x1060], [] => ⟨_, math_bits_OnesCount x1060, fun (t : Int) => (dI t, []), [], none⟩
  | _, _ => Ans.no

theorem math_bits_OnesCount_sound : Sound Tryd.prog 86 F_math_bits_OnesCount := by
  refine fn_sound' (C := math_bits_OnesCount_ctx) (c := bodyOf Tryd.f86) (cok_of tys_ok (allc math_bits_OnesCount64_sound alln) (allc Tryd.call117 alln) (by kernel_rfl)) Tryd.func86 (by kernel_rfl) LL math_bits_OnesCount_an ?_
  intro avs H r H' h
  unfold F_math_bits_OnesCount at h
  split at h
  · refine Awp.cast ?_ ?_ ?_ (math_bits_OnesCount_e _ h) <;> kernel_rfl
  · simp [Ans.no, Ans.run] at h


/-! (loop.example/headtrees/impl.wordSet).count -/

def impl_wordSet_count_an : Ann := (.seq (.leaf [0]) (.seq (.leaf [2]) (.leaf [2])))

noncomputable def impl_wordSet_count_ctx : Ctx := ⟨tlook tys, olook [(86, F_math_bits_OnesCount)], ioF, 0, false, []⟩

theorem impl_wordSet_count_n1_l (x1059 : Int) : Link impl_wordSet_count_ctx LL (bodyOf Tryd.f50) impl_wordSet_count_an ⟨mkE 5 0 [(0, dW x1059)], []⟩ (impl_wordSet_count_n1 x1059) (fun (t : Int) => (Exit.ret, ⟨mkE 5 0 [(2, dI t)], []⟩)) := by
  refine Link.of fun K h => ?_
  simp only [impl_wordSet_count_n1, wpO_bind, wpO_cond, wpO_map, wpO_some] at h
  exact Awp.of (by kernel_rfl) h

theorem impl_wordSet_count_e (x1059 : Int) {r : AV} {H' : Heap} (h : (Ans.mk _ (impl_wordSet_count x1059) (fun (t : Int) => (dI t, [])) [] none).run = some (r, H')) : Awp impl_wordSet_count_ctx LL (bodyOf Tryd.f50) impl_wordSet_count_an ⟨mkE 5 0 [(0, dW x1059)], []⟩ (Ret (tlook tys) Tryd.f50.results.toList r H') :=
  ret_of' (impl_wordSet_count_n1_l x1059) (by unfold impl_wordSet_count; kernel_rfl) (by
  intro t
  exact ret_mk [dI t] (by kernel_rfl) (by kernel_rfl) (by kernel_rfl) (by kernel_rfl)) h

def F_impl_wordSet_count : Fun := fun avs H =>
  match avs, H with
  | [.dat (.int .u64) x1059], [] => ⟨_, impl_wordSet_count x1059, fun (t : Int) => (dI t, []), [], none⟩
  | _, _ => Ans.no

theorem impl_wordSet_count_sound : Sound Tryd.prog 50 F_impl_wordSet_count := by
  refine fn_sound' (C := impl_wordSet_count_ctx) (c := bodyOf Tryd.f50) (cok_of tys_ok (allc math_bits_OnesCount_sound alln) (allc Tryd.call86 alln) (by kernel_rfl)) Tryd.func50 (by kernel_rfl) LL impl_wordSet_count_an ?_
  intro avs H r H' h
  unfold F_impl_wordSet_count at h
  split at h
  · refine Awp.cast ?_ ?_ ?_ (impl_wordSet_count_e _ h) <;> kernel_rfl
  · simp [Ans.no, Ans.run] at h


/-! loop.example/headtrees/impl.SidesOf -/

def impl_SidesOf_an : Ann := (.seq (.leaf [0, 1]) (.seq (.seq (.leaf [0, 1, 12]) (.cond (.seq (.leaf [4, 5, 6]) (.leaf [4, 5, 6])) (.leaf [0, 1]))) (.seq (.leaf [7, 8]) (.seq (.leaf [4, 5, 6]) (.leaf [4, 5, 6])))))

noncomputable def impl_SidesOf_ctx : Ctx := ⟨tlook tys, olook [(48, F_impl_wordOk), (49, F_impl_dependentsBeside), (50, F_impl_wordSet_count)], ioF, 0, false, []⟩

theorem impl_SidesOf_n1_l (x830 : List Int) (x831 : Int) : Link impl_SidesOf_ctx LL (bodyOf Tryd.f14) impl_SidesOf_an ⟨mkE 23 0 [(0, dL x830), (1, dI x831)], []⟩ (impl_SidesOf_n1 x830 x831) (fun (t : Int × Int × Bool) => (Exit.ret, ⟨mkE 23 0 [(4, dI t.1), (5, dI t.2.1), (6, dB t.2.2)], []⟩)) := by
  refine Link.of fun K h => ?_
  simp only [impl_SidesOf_n1, wpO_bind, wpO_cond, wpO_map, wpO_some] at h
  exact Awp.of (by kernel_rfl) h

theorem impl_SidesOf_e (x830 : List Int) (x831 : Int) {r : AV} {H' : Heap} (h : (Ans.mk _ (impl_SidesOf x830 x831) (fun (t : Int × Int × Bool) => (.tup [dI t.1, dI t.2.1, dB t.2.2], [])) [] none).run = some (r, H')) : Awp impl_SidesOf_ctx LL (bodyOf Tryd.f14) impl_SidesOf_an ⟨mkE 23 0 [(0, dL x830), (1, dI x831)], []⟩ (Ret (tlook tys) Tryd.f14.results.toList r H') :=
  ret_of' (impl_SidesOf_n1_l x830 x831) (by unfold impl_SidesOf; kernel_rfl) (by
  intro t
  exact ret_mk [dI t.1, dI t.2.1, dB t.2.2] (by kernel_rfl) (by kernel_rfl) (by kernel_rfl) (by kernel_rfl)) h

def F_impl_SidesOf : Fun := fun avs H =>
  match avs, H with
  | [.dat (.list (.int .i64)) x830, .dat (.int .i64) x831], [] => ⟨_, impl_SidesOf x830 x831, fun (t : Int × Int × Bool) => (.tup [dI t.1, dI t.2.1, dB t.2.2], []), [], none⟩
  | _, _ => Ans.no

theorem impl_SidesOf_sound : Sound Tryd.prog 14 F_impl_SidesOf := by
  refine fn_sound' (C := impl_SidesOf_ctx) (c := bodyOf Tryd.f14) (cok_of tys_ok (allc impl_wordOk_sound (allc impl_dependentsBeside_sound (allc impl_wordSet_count_sound alln))) (allc Tryd.call48 (allc Tryd.call49 (allc Tryd.call50 alln))) (by kernel_rfl)) Tryd.func14 (by kernel_rfl) LL impl_SidesOf_an ?_
  intro avs H r H' h
  unfold F_impl_SidesOf at h
  split at h
  · refine Awp.cast ?_ ?_ ?_ (impl_SidesOf_e _ _ h) <;> kernel_rfl
  · simp [Ans.no, Ans.run] at h


/-! loop.example/headtrees/spec.l1In -/

def spec_l1In_an : Ann := (.seq (.leaf [0, 1, 2]) (.seq (.leaf [6]) (.leaf [6])))

noncomputable def spec_l1In_ctx : Ctx := ⟨tlook tys, olook [], ioF, 0, false, []⟩

theorem spec_l1In_n1_l (x1144 : Int) (x1145 : Int) (x1146 : Int) : Link spec_l1In_ctx LL (bodyOf Tryd.f52) spec_l1In_an ⟨mkE 15 0 [(0, dI x1144), (1, dI x1145), (2, dI x1146)], []⟩ (spec_l1In_n1 x1144 x1145 x1146) (fun (t : Bool) => (Exit.ret, ⟨mkE 15 0 [(6, dB t)], []⟩)) := by
  refine Link.of fun K h => ?_
  simp only [spec_l1In_n1, wpO_bind, wpO_cond, wpO_map, wpO_some] at h
  exact Awp.of (by kernel_rfl) h

theorem spec_l1In_e (x1144 : Int) (x1145 : Int) (x1146 : Int) {r : AV} {H' : Heap} (h : (Ans.mk _ (spec_l1In x1144 x1145 x1146) (fun (t : Bool) => (dB t, [])) [] none).run = some (r, H')) : Awp spec_l1In_ctx LL (bodyOf Tryd.f52) spec_l1In_an ⟨mkE 15 0 [(0, dI x1144), (1, dI x1145), (2, dI x1146)], []⟩ (Ret (tlook tys) Tryd.f52.results.toList r H') :=
  ret_of' (spec_l1In_n1_l x1144 x1145 x1146) (by unfold spec_l1In; kernel_rfl) (by
  intro t
  exact ret_mk [dB t] (by kernel_rfl) (by kernel_rfl) (by kernel_rfl) (by kernel_rfl)) h

def F_spec_l1In : Fun := fun avs H =>
  match avs, H with
  | [.dat (.int .i64) x1144, .dat (.int .i64) x1145, .dat (.int .i64) x1146], [] => ⟨_, spec_l1In x1144 x1145 x1146, fun (t : Bool) => (dB t, []), [], none⟩
  | _, _ => Ans.no

theorem spec_l1In_sound : Sound Tryd.prog 52 F_spec_l1In := by
  refine fn_sound' (C := spec_l1In_ctx) (c := bodyOf Tryd.f52) (cok_of tys_ok (alln) (alln) (by kernel_rfl)) Tryd.func52 (by kernel_rfl) LL spec_l1In_an ?_
  intro avs H r H' h
  unfold F_spec_l1In at h
  split at h
  · refine Awp.cast ?_ ?_ ?_ (spec_l1In_e _ _ _ h) <;> kernel_rfl
  · simp [Ans.no, Ans.run] at h


/-! loop.example/headtrees/spec.TreeOk -/

def spec_TreeOk_an : Ann := (.seq (.leaf [0]) (.seq (.leaf [0, 3]) (.seq (.seq (.leaf [0, 3, 12]) (.cond (.seq (.leaf [2]) (.leaf [2])) (.leaf [0, 3]))) (.seq (.leaf [0, 3, 4]) (.seq (.seq (.leaf [0, 3, 4, 5]) (.block (.loop (.seq (.seq (.leaf [0, 3, 4, 5, 15]) (.cond (.leaf [0, 3, 4, 5]) (.leaf [4]))) (.seq (.block (.seq (.seq (.leaf [0, 3, 4, 5, 33]) (.cond (.seq (.leaf [2]) (.leaf [2])) (.leaf [0, 3, 4, 5]))) (.seq (.seq (.leaf [0, 3, 4, 5, 38]) (.cond (.leaf [0, 3, 4, 5]) (.leaf [0, 3, 4, 5]))) (.seq (.leaf [0, 3, 4, 5, 6]) (.seq (.seq (.leaf [0, 3, 4, 5, 6, 7]) (.block (.loop (.seq (.seq (.leaf [0, 3, 4, 5, 6, 7, 49]) (.cond (.leaf [0, 3, 4, 5, 6, 7]) (.leaf [0, 3, 4, 5, 6]))) (.seq (.block (.seq (.leaf [0, 3, 4, 5, 6, 7]) (.seq (.leaf [0, 3, 4, 5, 6, 7, 60]) (.cond (.seq (.leaf [2]) (.leaf [2])) (.leaf [0, 3, 4, 5, 6, 7]))))) (.leaf [0, 3, 4, 5, 6, 7])))))) (.seq (.leaf [0, 3, 4, 5, 62]) (.cond (.seq (.leaf [2]) (.leaf [2])) (.leaf [0, 3, 4, 5])))))))) (.leaf [0, 3, 4, 5])))))) (.seq (.leaf [2]) (.leaf [2])))))))

noncomputable def spec_TreeOk_ctx : Ctx := ⟨tlook tys, olook [(52, F_spec_l1In)], ioF, 0, false, []⟩

theorem spec_TreeOk_n1_l (x1141 : List Int) : Link spec_TreeOk_ctx LL (Code.seq (cq [0] (bodyOf Tryd.f51)) (Code.seq (cq [0,1] (bodyOf Tryd.f51)) (Code.seq (cq [0,1,1] (bodyOf Tryd.f51)) (cq [0,1,1,1] (bodyOf Tryd.f51))))) (Ann.seq (aq [0] spec_TreeOk_an) (Ann.seq (aq [0,1] spec_TreeOk_an) (Ann.seq (aq [0,1,1] spec_TreeOk_an) (aq [0,1,1,1] spec_TreeOk_an)))) ⟨mkE 65 0 [(0, dL x1141)], []⟩ (spec_TreeOk_n1 x1141) (Sum.elim (fun (t : Int) => (Exit.normal, ⟨mkE 65 0 [(0, dL x1141), (3, dI t), (4, dI 0)], []⟩)) (fun (t : Bool) => (Exit.ret, ⟨mkE 65 0 [(2, dB t)], []⟩))) := by
  refine Link.of fun K h => ?_
  simp only [spec_TreeOk_n1, wpO_bind, wpO_cond, wpO_map, wpO_some] at h
  exact Awp.of (by kernel_rfl) h

theorem spec_TreeOk_n2_l (x1141 : List Int) (x1154 : Int) : Link spec_TreeOk_ctx LL (cq [0,0,1,1,1,1] (bodyOf Tryd.f51)) (aq [0,0,1,1,1,1] spec_TreeOk_an) ⟨mkE 65 0 [(0, dL x1141), (3, dI x1154), (4, dI 0)], []⟩ (spec_TreeOk_n2) (fun (t : Unit) => (Exit.normal, ⟨mkE 65 0 [(0, dL x1141), (3, dI x1154), (4, dI 0), (5, dI 0)], []⟩)) := by
  refine Link.of fun K h => ?_
  simp only [spec_TreeOk_n2, wpO_bind, wpO_cond, wpO_map, wpO_some] at h
  exact Awp.of (by kernel_rfl) h

theorem spec_TreeOk_n3_l (x1141 : List Int) (x1154 : Int) (x1221 : Int) (x1222 : Int) : Link spec_TreeOk_ctx LL (cq [0,0,0,1,0,1,1,1,1] (bodyOf Tryd.f51)) (aq [0,0,0,1,0,1,1,1,1] spec_TreeOk_an) ⟨mkE 65 0 [(0, dL x1141), (3, dI x1154), (4, dI x1221), (5, dI x1222)], []⟩ (spec_TreeOk_n3 x1154 x1221 x1222) (Sum.elim (fun (t : Unit) => (Exit.normal, ⟨mkE 65 0 [(0, dL x1141), (3, dI x1154), (4, dI x1221), (5, dI x1222)], []⟩)) (fun (t : Int) => ((Exit.exit 0), ⟨mkE 65 0 [(4, dI t)], []⟩))) := by
  refine Link.of fun K h => ?_
  simp only [spec_TreeOk_n3, wpO_bind, wpO_cond, wpO_map, wpO_some] at h
  exact Awp.of (by kernel_rfl) h

theorem spec_TreeOk_n4_l (x1141 : List Int) (x1154 : Int) (x1221 : Int) (x1222 : Int) : Link spec_TreeOk_ctx LL (Code.seq (cq [0,0,0,1,0,0,1,0,1,1,1,1] (bodyOf Tryd.f51)) (Code.seq (cq [0,1,0,0,1,0,0,1,0,1,1,1,1] (bodyOf Tryd.f51)) (cq [0,1,1,0,0,1,0,0,1,0,1,1,1,1] (bodyOf Tryd.f51)))) (Ann.seq (aq [0,0,0,1,0,0,1,0,1,1,1,1] spec_TreeOk_an) (Ann.seq (aq [0,1,0,0,1,0,0,1,0,1,1,1,1] spec_TreeOk_an) (aq [0,1,1,0,0,1,0,0,1,0,1,1,1,1] spec_TreeOk_an))) ⟨mkE 65 0 [(0, dL x1141), (3, dI x1154), (4, dI x1221), (5, dI x1222)], []⟩ (spec_TreeOk_n4 x1141 x1154 x1221 x1222) (Sum.elim (fun (t : Int × Int) => (Exit.normal, ⟨mkE 65 0 [(0, dL x1141), (3, dI x1154), (4, dI t.1), (5, dI x1222), (6, dI t.2)], []⟩)) (fun (t : Bool) => (Exit.ret, ⟨mkE 65 0 [(2, dB t)], []⟩))) := by
  refine Link.of fun K h => ?_
  simp only [spec_TreeOk_n4, wpO_bind, wpO_cond, wpO_map, wpO_some] at h
  exact Awp.of (by kernel_rfl) h

theorem spec_TreeOk_n5_l (x1141 : List Int) (x1154 : Int) (x1250 : Int) (x1222 : Int) (x1251 : Int) : Link spec_TreeOk_ctx LL (cq [0,0,1,1,1,0,0,1,0,0,1,0,1,1,1,1] (bodyOf Tryd.f51)) (aq [0,0,1,1,1,0,0,1,0,0,1,0,1,1,1,1] spec_TreeOk_an) ⟨mkE 65 0 [(0, dL x1141), (3, dI x1154), (4, dI x1250), (5, dI x1222), (6, dI x1251)], []⟩ (spec_TreeOk_n5) (fun (t : Unit) => (Exit.normal, ⟨mkE 65 0 [(0, dL x1141), (3, dI x1154), (4, dI x1250), (5, dI x1222), (6, dI x1251), (7, dI 0)], []⟩)) := by
  refine Link.of fun K h => ?_
  simp only [spec_TreeOk_n5, wpO_bind, wpO_cond, wpO_map, wpO_some] at h
  exact Awp.of (by kernel_rfl) h

theorem spec_TreeOk_n6_l (x1141 : List Int) (x1154 : Int) (x1250 : Int) (x1222 : Int) (x1267 : Int) (x1268 : Int) : Link spec_TreeOk_ctx LL (cq [0,0,1,0,1,1,1,0,0,1,0,0,1,0,1,1,1,1] (bodyOf Tryd.f51)) (aq [0,0,1,0,1,1,1,0,0,1,0,0,1,0,1,1,1,1] spec_TreeOk_an) ⟨mkE 65 0 [(0, dL x1141), (3, dI x1154), (4, dI x1250), (5, dI x1222), (6, dI x1267), (7, dI x1268)], []⟩ (spec_TreeOk_n6 x1141 x1154 x1267 x1268) (Sum.elim (fun (t : Int × Int) => (Exit.normal, ⟨mkE 65 0 [(0, dL x1141), (3, dI x1154), (4, dI x1250), (5, dI x1222), (6, dI t.1), (7, dI t.2)], []⟩)) (Sum.elim (fun (t : Bool) => (Exit.ret, ⟨mkE 65 0 [(2, dB t)], []⟩)) (fun (t : Int) => ((Exit.exit 2), ⟨mkE 65 0 [(0, dL x1141), (3, dI x1154), (4, dI x1250), (5, dI x1222), (6, dI t)], []⟩)))) := by
  refine Link.of fun K h => ?_
  simp only [spec_TreeOk_n6, wpO_bind, wpO_cond, wpO_map, wpO_some] at h
  exact Awp.of (by kernel_rfl) h

def spec_TreeOk_n7_l (x1141 : List Int) (x1154 : Int) (x1250 : Int) (x1222 : Int) (x1251 : Int) := (link_loop (mk := fun (s : Int × Int) => ⟨mkE 65 0 [(0, dL x1141), (3, dI x1154), (4, dI x1250), (5, dI x1222), (6, dI s.1), (7, dI s.2)], []⟩) (fin := (Sum.elim (fun (t : Bool) => (Exit.ret, ⟨mkE 65 0 [(2, dB t)], []⟩)) (fun (t : Int) => ((Exit.exit 2), ⟨mkE 65 0 [(0, dL x1141), (3, dI x1154), (4, dI x1250), (5, dI x1222), (6, dI t)], []⟩)))) (by
  rintro (t | t) f K h
  · exact h
  · exact h) (fun s => link_map (spec_TreeOk_n6_l x1141 x1154 x1250 x1222 s.1 s.2) (Sum.elim (fun (t : Int × Int) => Sum.inl (t.1, t.2)) (Sum.elim (fun (t : Bool) => Sum.inr (Sum.inl t)) (fun (t : Int) => Sum.inr (Sum.inr t)))) (by
  rintro (t | t | t)
  · kernel_rfl
  · kernel_rfl
  · kernel_rfl)) (x1251, 0))

def spec_TreeOk_n8_l (x1141 : List Int) (x1154 : Int) (x1250 : Int) (x1222 : Int) (x1251 : Int) := (link_block (fin2 := (Sum.elim (fun (t : Int) => (Exit.normal, ⟨mkE 65 0 [(0, dL x1141), (3, dI x1154), (4, dI x1250), (5, dI x1222), (6, dI t)], []⟩)) (fun (t : Bool) => (Exit.ret, ⟨mkE 65 0 [(2, dB t)], []⟩)))) (id := 2) (spec_TreeOk_n7_l x1141 x1154 x1250 x1222 x1251) (Sum.elim (fun (t : Bool) => (Sum.inr t)) (fun (t : Int) => (Sum.inl t))) (by
  rintro (t | t) K h
  · exact Eq.mp (by kernel_rfl) h
  · exact Eq.mp (by kernel_rfl) h))

def spec_TreeOk_n9_l (x1141 : List Int) (x1154 : Int) (x1250 : Int) (x1222 : Int) (x1251 : Int) := (link_seq (spec_TreeOk_n5_l x1141 x1154 x1250 x1222 x1251) (fun (t : Unit) => (spec_TreeOk_n8_l x1141 x1154 x1250 x1222 x1251)))

theorem spec_TreeOk_n10_l (x1141 : List Int) (x1154 : Int) (x1250 : Int) (x1222 : Int) (x1267 : Int) : Link spec_TreeOk_ctx LL (cq [1,1,1,1,0,0,1,0,0,1,0,1,1,1,1] (bodyOf Tryd.f51)) (aq [1,1,1,1,0,0,1,0,0,1,0,1,1,1,1] spec_TreeOk_an) ⟨mkE 65 0 [(0, dL x1141), (3, dI x1154), (4, dI x1250), (5, dI x1222), (6, dI x1267)], []⟩ (spec_TreeOk_n10 x1267) (Sum.elim (fun (t : Unit) => (Exit.normal, ⟨mkE 65 0 [(0, dL x1141), (3, dI x1154), (4, dI x1250), (5, dI x1222)], []⟩)) (fun (t : Bool) => (Exit.ret, ⟨mkE 65 0 [(2, dB t)], []⟩))) := by
  refine Link.of fun K h => ?_
  simp only [spec_TreeOk_n10, wpO_bind, wpO_cond, wpO_map, wpO_some] at h
  exact Awp.of (by kernel_rfl) h

def spec_TreeOk_n11_l (x1141 : List Int) (x1154 : Int) (x1250 : Int) (x1222 : Int) (x1251 : Int) := (link_seq2 (spec_TreeOk_n9_l x1141 x1154 x1250 x1222 x1251) (fun (t : Int) => (spec_TreeOk_n10_l x1141 x1154 x1250 x1222 t)) (fun (t : Bool) => (Sum.inr t)) (by
  rintro t
  · kernel_rfl) (by
  rintro t f K h
  · exact h))

def spec_TreeOk_n12_l (x1141 : List Int) (x1154 : Int) (x1221 : Int) (x1222 : Int) := (link_group (c := (cq [0,1,1,0,0,1,0,0,1,0,1,1,1,1] (bodyOf Tryd.f51))) (a := (aq [0,1,1,0,0,1,0,0,1,0,1,1,1,1] spec_TreeOk_an)) [(cq [0,0,0,1,0,0,1,0,1,1,1,1] (bodyOf Tryd.f51)), (cq [0,1,0,0,1,0,0,1,0,1,1,1,1] (bodyOf Tryd.f51))] [(aq [0,0,0,1,0,0,1,0,1,1,1,1] spec_TreeOk_an), (aq [0,1,0,0,1,0,0,1,0,1,1,1,1] spec_TreeOk_an)] rfl (link_seq2 (spec_TreeOk_n4_l x1141 x1154 x1221 x1222) (fun (t : Int × Int) => (link_map (fin2 := (Sum.elim (fun (t : Int) => (Exit.normal, ⟨mkE 65 0 [(0, dL x1141), (3, dI x1154), (4, dI t), (5, dI x1222)], []⟩)) (fun (t : Bool) => (Exit.ret, ⟨mkE 65 0 [(2, dB t)], []⟩)))) (spec_TreeOk_n11_l x1141 x1154 t.1 x1222 t.2) (Sum.elim (fun (u : Unit) => (Sum.inl t.1)) (fun (u : Bool) => (Sum.inr u))) (by
  rintro (t | t)
  · kernel_rfl
  · kernel_rfl))) (fun (t : Bool) => (Sum.inr t)) (by
  rintro t
  · kernel_rfl) (by
  rintro t f K h
  · exact h)))

def spec_TreeOk_n13_l (x1141 : List Int) (x1154 : Int) (x1221 : Int) (x1222 : Int) := (link_block (fin2 := (Sum.elim (fun (t : Int) => (Exit.normal, ⟨mkE 65 0 [(0, dL x1141), (3, dI x1154), (4, dI t), (5, dI x1222)], []⟩)) (fun (t : Bool) => (Exit.ret, ⟨mkE 65 0 [(2, dB t)], []⟩)))) (id := 1) (spec_TreeOk_n12_l x1141 x1154 x1221 x1222) (Sum.elim (fun (t : Int) => (Sum.inl t)) (fun (t : Bool) => (Sum.inr t))) (by
  rintro (t | t) K h
  · exact Eq.mp (by kernel_rfl) h
  · exact Eq.mp (by kernel_rfl) h))

theorem spec_TreeOk_n14_l (x1141 : List Int) (x1154 : Int) (x1250 : Int) (x1222 : Int) : Link spec_TreeOk_ctx LL (cq [1,1,0,0,1,0,1,1,1,1] (bodyOf Tryd.f51)) (aq [1,1,0,0,1,0,1,1,1,1] spec_TreeOk_an) ⟨mkE 65 0 [(0, dL x1141), (3, dI x1154), (4, dI x1250), (5, dI x1222)], []⟩ (spec_TreeOk_n14 x1222) (fun (t : Int) => (Exit.normal, ⟨mkE 65 0 [(0, dL x1141), (3, dI x1154), (4, dI x1250), (5, dI t)], []⟩)) := by
  refine Link.of fun K h => ?_
  simp only [spec_TreeOk_n14, wpO_bind, wpO_cond, wpO_map, wpO_some] at h
  exact Awp.of (by kernel_rfl) h

def spec_TreeOk_n15_l (x1141 : List Int) (x1154 : Int) (x1221 : Int) (x1222 : Int) := (link_seq2 (spec_TreeOk_n13_l x1141 x1154 x1221 x1222) (fun (t : Int) => (link_map (fin2 := (Sum.elim (fun (t : Int × Int) => (Exit.normal, ⟨mkE 65 0 [(0, dL x1141), (3, dI x1154), (4, dI t.1), (5, dI t.2)], []⟩)) (fun (t : Bool) => (Exit.ret, ⟨mkE 65 0 [(2, dB t)], []⟩)))) (spec_TreeOk_n14_l x1141 x1154 t x1222) (fun (u : Int) => (Sum.inl (t, u))) (by
  rintro t
  · kernel_rfl))) (fun (t : Bool) => (Sum.inr t)) (by
  rintro t
  · kernel_rfl) (by
  rintro t f K h
  · exact h))

def spec_TreeOk_n16_l (x1141 : List Int) (x1154 : Int) (x1221 : Int) (x1222 : Int) := (link_seq2 (spec_TreeOk_n3_l x1141 x1154 x1221 x1222) (fun (t : Unit) => (link_map (fin2 := (Sum.elim (fun (t : Int × Int) => (Exit.normal, ⟨mkE 65 0 [(0, dL x1141), (3, dI x1154), (4, dI t.1), (5, dI t.2)], []⟩)) (Sum.elim (fun (t : Bool) => (Exit.ret, ⟨mkE 65 0 [(2, dB t)], []⟩)) (fun (t : Int) => ((Exit.exit 0), ⟨mkE 65 0 [(4, dI t)], []⟩))))) (spec_TreeOk_n15_l x1141 x1154 x1221 x1222) (Sum.elim (fun (t : Int × Int) => (Sum.inl (t.1, t.2))) (fun (t : Bool) => (Sum.inr (Sum.inl t)))) (by
  rintro (t | t)
  · kernel_rfl
  · kernel_rfl))) (fun (t : Int) => (Sum.inr (Sum.inr t))) (by
  rintro t
  · kernel_rfl) (by
  rintro t f K h
  · exact h))

def spec_TreeOk_n17_l (x1141 : List Int) (x1154 : Int) := (link_loop (mk := fun (s : Int × Int) => ⟨mkE 65 0 [(0, dL x1141), (3, dI x1154), (4, dI s.1), (5, dI s.2)], []⟩) (fin := (Sum.elim (fun (t : Bool) => (Exit.ret, ⟨mkE 65 0 [(2, dB t)], []⟩)) (fun (t : Int) => ((Exit.exit 0), ⟨mkE 65 0 [(4, dI t)], []⟩)))) (by
  rintro (t | t) f K h
  · exact h
  · exact h) (fun s => link_map (spec_TreeOk_n16_l x1141 x1154 s.1 s.2) (Sum.elim (fun (t : Int × Int) => Sum.inl (t.1, t.2)) (Sum.elim (fun (t : Bool) => Sum.inr (Sum.inl t)) (fun (t : Int) => Sum.inr (Sum.inr t)))) (by
  rintro (t | t | t)
  · kernel_rfl
  · kernel_rfl
  · kernel_rfl)) (0, 0))

def spec_TreeOk_n18_l (x1141 : List Int) (x1154 : Int) := (link_block (fin2 := (Sum.elim (fun (t : Int) => (Exit.normal, ⟨mkE 65 0 [(4, dI t)], []⟩)) (fun (t : Bool) => (Exit.ret, ⟨mkE 65 0 [(2, dB t)], []⟩)))) (id := 0) (spec_TreeOk_n17_l x1141 x1154) (Sum.elim (fun (t : Bool) => (Sum.inr t)) (fun (t : Int) => (Sum.inl t))) (by
  rintro (t | t) K h
  · exact Eq.mp (by kernel_rfl) h
  · exact Eq.mp (by kernel_rfl) h))

def spec_TreeOk_n19_l (x1141 : List Int) (x1154 : Int) := (link_seq (spec_TreeOk_n2_l x1141 x1154) (fun (t : Unit) => (spec_TreeOk_n18_l x1141 x1154)))

theorem spec_TreeOk_n20_l (x1221 : Int) : Link spec_TreeOk_ctx LL (cq [1,1,1,1,1] (bodyOf Tryd.f51)) (aq [1,1,1,1,1] spec_TreeOk_an) ⟨mkE 65 0 [(4, dI x1221)], []⟩ (spec_TreeOk_n20 x1221) (fun (t : Bool) => (Exit.ret, ⟨mkE 65 0 [(2, dB t)], []⟩)) := by
  refine Link.of fun K h => ?_
  simp only [spec_TreeOk_n20, wpO_bind, wpO_cond, wpO_map, wpO_some] at h
  exact Awp.of (by kernel_rfl) h

def spec_TreeOk_n21_l (x1141 : List Int) (x1154 : Int) := (link_seq2 (spec_TreeOk_n19_l x1141 x1154) (fun (t : Int) => (spec_TreeOk_n20_l t)) (fun (t : Bool) => t) (by
  rintro t
  · kernel_rfl) (by
  rintro t f K h
  · exact h))

def spec_TreeOk_n22_l (x1141 : List Int) := (link_group (c := (cq [0,1,1,1] (bodyOf Tryd.f51))) (a := (aq [0,1,1,1] spec_TreeOk_an)) [(cq [0] (bodyOf Tryd.f51)), (cq [0,1] (bodyOf Tryd.f51)), (cq [0,1,1] (bodyOf Tryd.f51))] [(aq [0] spec_TreeOk_an), (aq [0,1] spec_TreeOk_an), (aq [0,1,1] spec_TreeOk_an)] rfl (link_seq2 (spec_TreeOk_n1_l x1141) (fun (t : Int) => (spec_TreeOk_n21_l x1141 t)) (fun (t : Bool) => t) (by
  rintro t
  · kernel_rfl) (by
  rintro t f K h
  · exact h)))

theorem spec_TreeOk_e (x1141 : List Int) {r : AV} {H' : Heap} (h : (Ans.mk _ (spec_TreeOk x1141) (fun (t : Bool) => (dB t, [])) [] none).run = some (r, H')) : Awp spec_TreeOk_ctx LL (bodyOf Tryd.f51) spec_TreeOk_an ⟨mkE 65 0 [(0, dL x1141)], []⟩ (Ret (tlook tys) Tryd.f51.results.toList r H') :=
  ret_of' (Link.cast (by kernel_rfl) (by kernel_rfl) (spec_TreeOk_n22_l x1141)) (by unfold spec_TreeOk; kernel_rfl) (by
  intro t
  exact ret_mk [dB t] (by kernel_rfl) (by kernel_rfl) (by kernel_rfl) (by kernel_rfl)) h

def F_spec_TreeOk : Fun := fun avs H =>
  match avs, H with
  | [.dat (.list (.int .i64)) x1141], [] => ⟨_, spec_TreeOk x1141, fun (t : Bool) => (dB t, []), [], none⟩
  | _, _ => Ans.no

theorem spec_TreeOk_sound : Sound Tryd.prog 51 F_spec_TreeOk := by
  refine fn_sound' (C := spec_TreeOk_ctx) (c := bodyOf Tryd.f51) (cok_of tys_ok (allc spec_l1In_sound alln) (allc Tryd.call52 alln) (by kernel_rfl)) Tryd.func51 (by kernel_rfl) LL spec_TreeOk_an ?_
  intro avs H r H' h
  unfold F_spec_TreeOk at h
  split at h
  · refine Awp.cast ?_ ?_ ?_ (spec_TreeOk_e _ h) <;> kernel_rfl
  · simp [Ans.no, Ans.run] at h


/-! loop.example/headtrees/spec.SidesOf -/

def spec_SidesOf_an : Ann := (.seq (.leaf [0, 1]) (.seq (.seq (.leaf [0, 1, 19]) (.cond (.seq (.leaf [4, 5, 6]) (.leaf [4, 5, 6])) (.leaf [0, 1]))) (.seq (.leaf [0, 1, 7]) (.seq (.leaf [0, 1, 7, 8]) (.seq (.seq (.leaf [0, 1, 7, 8, 9]) (.block (.loop (.seq (.seq (.leaf [0, 1, 7, 8, 9, 23]) (.cond (.leaf [0, 1, 7, 8, 9]) (.leaf [7, 8]))) (.seq (.block (.seq (.seq (.leaf [0, 1, 7, 8, 9, 37]) (.cond (.leaf [0, 1, 7, 8, 9]) (.leaf [0, 1, 7, 8, 9]))) (.seq (.leaf [0, 1, 7, 8, 9, 51]) (.cond (.leaf [0, 1, 7, 8, 9]) (.leaf [0, 1, 7, 8, 9]))))) (.leaf [0, 1, 7, 8, 9])))))) (.seq (.leaf [4, 5, 6]) (.leaf [4, 5, 6])))))))

noncomputable def spec_SidesOf_ctx : Ctx := ⟨tlook tys, olook [(51, F_spec_TreeOk), (52, F_spec_l1In)], ioF, 0, false, []⟩

theorem spec_SidesOf_n1_l (x1139 : List Int) (x1140 : Int) : Link spec_SidesOf_ctx LL (Code.seq (cq [0] (bodyOf Tryd.f15)) (Code.seq (cq [0,1] (bodyOf Tryd.f15)) (Code.seq (cq [0,1,1] (bodyOf Tryd.f15)) (cq [0,1,1,1] (bodyOf Tryd.f15))))) (Ann.seq (aq [0] spec_SidesOf_an) (Ann.seq (aq [0,1] spec_SidesOf_an) (Ann.seq (aq [0,1,1] spec_SidesOf_an) (aq [0,1,1,1] spec_SidesOf_an)))) ⟨mkE 56 0 [(0, dL x1139), (1, dI x1140)], []⟩ (spec_SidesOf_n1 x1139 x1140) (Sum.elim (fun (t : Unit) => (Exit.normal, ⟨mkE 56 0 [(0, dL x1139), (1, dI x1140), (7, dI 0), (8, dI 0)], []⟩)) (fun (t : Int × Int × Bool) => (Exit.ret, ⟨mkE 56 0 [(4, dI t.1), (5, dI t.2.1), (6, dB t.2.2)], []⟩))) := by
  refine Link.of fun K h => ?_
  simp only [spec_SidesOf_n1, wpO_bind, wpO_cond, wpO_map, wpO_some] at h
  exact Awp.of (by kernel_rfl) h

theorem spec_SidesOf_n2_l (x1139 : List Int) (x1140 : Int) : Link spec_SidesOf_ctx LL (cq [0,0,1,1,1,1] (bodyOf Tryd.f15)) (aq [0,0,1,1,1,1] spec_SidesOf_an) ⟨mkE 56 0 [(0, dL x1139), (1, dI x1140), (7, dI 0), (8, dI 0)], []⟩ (spec_SidesOf_n2) (fun (t : Unit) => (Exit.normal, ⟨mkE 56 0 [(0, dL x1139), (1, dI x1140), (7, dI 0), (8, dI 0), (9, dI 0)], []⟩)) := by
  refine Link.of fun K h => ?_
  simp only [spec_SidesOf_n2, wpO_bind, wpO_cond, wpO_map, wpO_some] at h
  exact Awp.of (by kernel_rfl) h

theorem spec_SidesOf_n3_l (x1139 : List Int) (x1140 : Int) (x1363 : Int) (x1364 : Int) (x1365 : Int) : Link spec_SidesOf_ctx LL (cq [0,0,1,0,1,1,1,1] (bodyOf Tryd.f15)) (aq [0,0,1,0,1,1,1,1] spec_SidesOf_an) ⟨mkE 56 0 [(0, dL x1139), (1, dI x1140), (7, dI x1363), (8, dI x1364), (9, dI x1365)], []⟩ (spec_SidesOf_n3 x1139 x1140 x1363 x1364 x1365) (Sum.elim (fun (t : Int × Int × Int) => (Exit.normal, ⟨mkE 56 0 [(0, dL x1139), (1, dI x1140), (7, dI t.1), (8, dI t.2.1), (9, dI t.2.2)], []⟩)) (fun (t : Int × Int) => ((Exit.exit 0), ⟨mkE 56 0 [(7, dI t.1), (8, dI t.2)], []⟩))) := by
  refine Link.of fun K h => ?_
  simp only [spec_SidesOf_n3, wpO_bind, wpO_cond, wpO_map, wpO_some] at h
  exact Awp.of (by kernel_rfl) h

def spec_SidesOf_n4_l (x1139 : List Int) (x1140 : Int) := (link_loop (mk := fun (s : Int × Int × Int) => ⟨mkE 56 0 [(0, dL x1139), (1, dI x1140), (7, dI s.1), (8, dI s.2.1), (9, dI s.2.2)], []⟩) (fin := (fun (t : Int × Int) => ((Exit.exit 0), ⟨mkE 56 0 [(7, dI t.1), (8, dI t.2)], []⟩))) (by
  rintro t f K h
  · exact h) (fun s => link_map (spec_SidesOf_n3_l x1139 x1140 s.1 s.2.1 s.2.2) (Sum.elim (fun (t : Int × Int × Int) => Sum.inl (t.1, t.2.1, t.2.2)) (fun (t : Int × Int) => Sum.inr t)) (by
  rintro (t | t)
  · kernel_rfl
  · kernel_rfl)) (0, 0, 0))

def spec_SidesOf_n5_l (x1139 : List Int) (x1140 : Int) := (link_block (fin2 := (fun (t : Int × Int) => (Exit.normal, ⟨mkE 56 0 [(7, dI t.1), (8, dI t.2)], []⟩))) (id := 0) (spec_SidesOf_n4_l x1139 x1140) (fun (t : Int × Int) => (t.1, t.2)) (by
  rintro t K h
  · exact Eq.mp (by kernel_rfl) h))

def spec_SidesOf_n6_l (x1139 : List Int) (x1140 : Int) := (link_seq (spec_SidesOf_n2_l x1139 x1140) (fun (t : Unit) => (spec_SidesOf_n5_l x1139 x1140)))

theorem spec_SidesOf_n7_l (x1363 : Int) (x1364 : Int) : Link spec_SidesOf_ctx LL (cq [1,1,1,1,1] (bodyOf Tryd.f15)) (aq [1,1,1,1,1] spec_SidesOf_an) ⟨mkE 56 0 [(7, dI x1363), (8, dI x1364)], []⟩ (spec_SidesOf_n7 x1363 x1364) (fun (t : Int × Int × Bool) => (Exit.ret, ⟨mkE 56 0 [(4, dI t.1), (5, dI t.2.1), (6, dB t.2.2)], []⟩)) := by
  refine Link.of fun K h => ?_
  simp only [spec_SidesOf_n7, wpO_bind, wpO_cond, wpO_map, wpO_some] at h
  exact Awp.of (by kernel_rfl) h

def spec_SidesOf_n8_l (x1139 : List Int) (x1140 : Int) := (link_seq (spec_SidesOf_n6_l x1139 x1140) (fun (t : Int × Int) => (spec_SidesOf_n7_l t.1 t.2)))

def spec_SidesOf_n9_l (x1139 : List Int) (x1140 : Int) := (link_group (c := (cq [0,1,1,1] (bodyOf Tryd.f15))) (a := (aq [0,1,1,1] spec_SidesOf_an)) [(cq [0] (bodyOf Tryd.f15)), (cq [0,1] (bodyOf Tryd.f15)), (cq [0,1,1] (bodyOf Tryd.f15))] [(aq [0] spec_SidesOf_an), (aq [0,1] spec_SidesOf_an), (aq [0,1,1] spec_SidesOf_an)] rfl (link_seq2 (spec_SidesOf_n1_l x1139 x1140) (fun (t : Unit) => (spec_SidesOf_n8_l x1139 x1140)) (fun (t : Int × Int × Bool) => t) (by
  rintro t
  · kernel_rfl) (by
  rintro t f K h
  · exact h)))

theorem spec_SidesOf_e (x1139 : List Int) (x1140 : Int) {r : AV} {H' : Heap} (h : (Ans.mk _ (spec_SidesOf x1139 x1140) (fun (t : Int × Int × Bool) => (.tup [dI t.1, dI t.2.1, dB t.2.2], [])) [] none).run = some (r, H')) : Awp spec_SidesOf_ctx LL (bodyOf Tryd.f15) spec_SidesOf_an ⟨mkE 56 0 [(0, dL x1139), (1, dI x1140)], []⟩ (Ret (tlook tys) Tryd.f15.results.toList r H') :=
  ret_of' (Link.cast (by kernel_rfl) (by kernel_rfl) (spec_SidesOf_n9_l x1139 x1140)) (by unfold spec_SidesOf; kernel_rfl) (by
  intro t
  exact ret_mk [dI t.1, dI t.2.1, dB t.2.2] (by kernel_rfl) (by kernel_rfl) (by kernel_rfl) (by kernel_rfl)) h

def F_spec_SidesOf : Fun := fun avs H =>
  match avs, H with
  | [.dat (.list (.int .i64)) x1139, .dat (.int .i64) x1140], [] => ⟨_, spec_SidesOf x1139 x1140, fun (t : Int × Int × Bool) => (.tup [dI t.1, dI t.2.1, dB t.2.2], []), [], none⟩
  | _, _ => Ans.no

theorem spec_SidesOf_sound : Sound Tryd.prog 15 F_spec_SidesOf := by
  refine fn_sound' (C := spec_SidesOf_ctx) (c := bodyOf Tryd.f15) (cok_of tys_ok (allc spec_TreeOk_sound (allc spec_l1In_sound alln)) (allc Tryd.call51 (allc Tryd.call52 alln)) (by kernel_rfl)) Tryd.func15 (by kernel_rfl) LL spec_SidesOf_an ?_
  intro avs H r H' h
  unfold F_spec_SidesOf at h
  split at h
  · refine Awp.cast ?_ ?_ ?_ (spec_SidesOf_e _ _ h) <;> kernel_rfl
  · simp [Ans.no, Ans.run] at h


/-! loop.example/headtrees/laws.alive -/

def laws_alive_an : Ann := (.seq (.leaf []) (.seq (.leaf [0]) (.leaf [0])))

noncomputable def laws_alive_ctx : Ctx := ⟨tlook tys, olook [(31, F_impl_TreeOk)], ioF, 0, false, []⟩

theorem laws_alive_n1_l : Link laws_alive_ctx LL (bodyOf Tryd.f16) laws_alive_an ⟨mkE 8 0 [], []⟩ (laws_alive_n1) (fun (t : Bool) => (Exit.ret, ⟨mkE 8 0 [(0, dB t)], []⟩)) := by
  refine Link.of fun K h => ?_
  simp only [laws_alive_n1, wpO_bind, wpO_cond, wpO_map, wpO_some] at h
  exact Awp.of (by kernel_rfl) h

theorem laws_alive_e {r : AV} {H' : Heap} (h : (Ans.mk _ (laws_alive) (fun (t : Bool) => (dB t, [])) [] none).run = some (r, H')) : Awp laws_alive_ctx LL (bodyOf Tryd.f16) laws_alive_an ⟨mkE 8 0 [], []⟩ (Ret (tlook tys) Tryd.f16.results.toList r H') :=
  ret_of' (laws_alive_n1_l) (by unfold laws_alive; kernel_rfl) (by
  intro t
  exact ret_mk [dB t] (by kernel_rfl) (by kernel_rfl) (by kernel_rfl) (by kernel_rfl)) h

def F_laws_alive : Fun := fun avs H =>
  match avs, H with
  | [], [] => ⟨_, laws_alive, fun (t : Bool) => (dB t, []), [], none⟩
  | _, _ => Ans.no

theorem laws_alive_sound : Sound Tryd.prog 16 F_laws_alive := by
  refine fn_sound' (C := laws_alive_ctx) (c := bodyOf Tryd.f16) (cok_of tys_ok (allc impl_TreeOk_sound alln) (allc Tryd.call31 alln) (by kernel_rfl)) Tryd.func16 (by kernel_rfl) LL laws_alive_an ?_
  intro avs H r H' h
  unfold F_laws_alive at h
  split at h
  · refine Awp.cast ?_ ?_ ?_ (laws_alive_e h) <;> kernel_rfl
  · simp [Ans.no, Ans.run] at h


/-! math/bits.TrailingZeros64 -/

def math_bits_TrailingZeros64_an : Ann := (.seq (.leaf [0]) (.seq (.seq (.leaf [0, 4]) (.cond (.seq (.leaf [2]) (.leaf [2])) (.leaf [0]))) (.seq (.leaf [2]) (.leaf [2]))))

noncomputable def math_bits_TrailingZeros64_ctx : Ctx := ⟨tlook tys, olook [], ioF, 0, false, []⟩

theorem math_bits_TrailingZeros64_n1_l (x1559 : Int) : Link math_bits_TrailingZeros64_ctx LL (bodyOf Tryd.f119) math_bits_TrailingZeros64_an ⟨mkE 14 0 [(0, dW x1559)], []⟩ (math_bits_TrailingZeros64_n1 x1559) (fun (t : Int) => (Exit.ret, ⟨mkE 14 0 [(2, dI t)], []⟩)) := by
  refine Link.of fun K h => ?_
  simp only [math_bits_TrailingZeros64_n1, wpO_bind, wpO_cond, wpO_map, wpO_some] at h
  exact Awp.of (by kernel_rfl) h

theorem math_bits_TrailingZeros64_e (x1559 : Int) {r : AV} {H' : Heap} (h : (Ans.mk _ (math_bits_TrailingZeros64 x1559) (fun (t : Int) => (dI t, [])) [] none).run = some (r, H')) : Awp math_bits_TrailingZeros64_ctx LL (bodyOf Tryd.f119) math_bits_TrailingZeros64_an ⟨mkE 14 0 [(0, dW x1559)], []⟩ (Ret (tlook tys) Tryd.f119.results.toList r H') :=
  ret_of' (math_bits_TrailingZeros64_n1_l x1559) (by unfold math_bits_TrailingZeros64; kernel_rfl) (by
  intro t
  exact ret_mk [dI t] (by kernel_rfl) (by kernel_rfl) (by kernel_rfl) (by kernel_rfl)) h

def F_math_bits_TrailingZeros64 : Fun := fun avs H =>
  match avs, H with
  | [.dat (.int .u64) x1559], [] => ⟨_, math_bits_TrailingZeros64 x1559, fun (t : Int) => (dI t, []), [], none⟩
  | _, _ => Ans.no

theorem math_bits_TrailingZeros64_sound : Sound Tryd.prog 119 F_math_bits_TrailingZeros64 := by
  refine fn_sound' (C := math_bits_TrailingZeros64_ctx) (c := bodyOf Tryd.f119) (cok_of tys_ok (alln) (alln) (by kernel_rfl)) Tryd.func119 (by kernel_rfl) LL math_bits_TrailingZeros64_an ?_
  intro avs H r H' h
  unfold F_math_bits_TrailingZeros64 at h
  split at h
  · refine Awp.cast ?_ ?_ ?_ (math_bits_TrailingZeros64_e _ h) <;> kernel_rfl
  · simp [Ans.no, Ans.run] at h


/-! math/bits.TrailingZeros -/

def math_bits_TrailingZeros_an : Ann := (.seq (.leaf [0]) (.seq (.cond (.seq (.leaf [2]) (.leaf [2])) (.leaf [0])) (.seq (.leaf [2]) (.leaf [2]))))

noncomputable def math_bits_TrailingZeros_ctx : Ctx := ⟨tlook tys, olook [(119, F_math_bits_TrailingZeros64)], ioF, 0, false, []⟩

theorem math_bits_TrailingZeros_n1_l (x1558 : Int) : Link math_bits_TrailingZeros_ctx LL (bodyOf Tryd.f88) math_bits_TrailingZeros_an ⟨mkE 8 0 [(0, dW x1558)], []⟩ (math_bits_TrailingZeros_n1 x1558) (fun (t : Int) => (Exit.ret, ⟨mkE 8 0 [(2, dI t)], []⟩)) := by
  refine Link.of fun K h => ?_
  simp only [math_bits_TrailingZeros_n1, wpO_bind, wpO_cond, wpO_map, wpO_some] at h
  exact Awp.of (by kernel_rfl) h

theorem math_bits_TrailingZeros_e (x1558 : Int) {r : AV} {H' : Heap} (h : (Ans.mk _ (math_bits_TrailingZeros x1558) (fun (t : Int) => (dI t, [])) [] none).run = some (r, H')) : Awp math_bits_TrailingZeros_ctx LL (bodyOf Tryd.f88) math_bits_TrailingZeros_an ⟨mkE 8 0 [(0, dW x1558)], []⟩ (Ret (tlook tys) Tryd.f88.results.toList r H') :=
  ret_of' (math_bits_TrailingZeros_n1_l x1558) (by unfold math_bits_TrailingZeros; kernel_rfl) (by
  intro t
  exact ret_mk [dI t] (by kernel_rfl) (by kernel_rfl) (by kernel_rfl) (by kernel_rfl)) h

def F_math_bits_TrailingZeros : Fun := fun avs H =>
  match avs, H with
  | [.dat (.int .u64) x1558], [] => ⟨_, math_bits_TrailingZeros x1558, fun (t : Int) => (dI t, []), [], none⟩
  | _, _ => Ans.no

theorem math_bits_TrailingZeros_sound : Sound Tryd.prog 88 F_math_bits_TrailingZeros := by
  refine fn_sound' (C := math_bits_TrailingZeros_ctx) (c := bodyOf Tryd.f88) (cok_of tys_ok (allc math_bits_TrailingZeros64_sound alln) (allc Tryd.call119 alln) (by kernel_rfl)) Tryd.func88 (by kernel_rfl) LL math_bits_TrailingZeros_an ?_
  intro avs H r H' h
  unfold F_math_bits_TrailingZeros at h
  split at h
  · refine Awp.cast ?_ ?_ ?_ (math_bits_TrailingZeros_e _ h) <;> kernel_rfl
  · simp [Ans.no, Ans.run] at h


/-! (loop.example/headtrees/impl.wordSet).list -/

def impl_wordSet_list_an : Ann := (.seq (.leaf [0]) (.seq (.leaf [0, 3]) (.seq (.seq (.leaf [3, 4]) (.block (.loop (.seq (.seq (.leaf [3, 4, 10]) (.cond (.leaf [3, 4]) (.leaf [3]))) (.seq (.block (.leaf [3, 4])) (.leaf [3, 4])))))) (.seq (.leaf [2]) (.leaf [2])))))

noncomputable def impl_wordSet_list_ctx : Ctx := ⟨tlook tys, olook [(50, F_impl_wordSet_count), (88, F_math_bits_TrailingZeros)], ioF, 0, false, []⟩

theorem impl_wordSet_list_n1_l (x1552 : Int) : Link impl_wordSet_list_ctx LL (Code.seq (cq [0] (bodyOf Tryd.f54)) (cq [0,1] (bodyOf Tryd.f54))) (Ann.seq (aq [0] impl_wordSet_list_an) (aq [0,1] impl_wordSet_list_an)) ⟨mkE 22 0 [(0, dW x1552)], []⟩ (impl_wordSet_list_n1 x1552) (fun (t : (List Int)) => (Exit.normal, ⟨mkE 22 0 [(0, dW x1552), (3, .slc 0)], [some (sI t)]⟩)) := by
  refine Link.of fun K h => ?_
  simp only [impl_wordSet_list_n1, wpO_bind, wpO_cond, wpO_map, wpO_some] at h
  exact Awp.of (by kernel_rfl) h

theorem impl_wordSet_list_n2_l (x1552 : Int) (x1555 : List Int) : Link impl_wordSet_list_ctx LL (cq [0,0,1,1] (bodyOf Tryd.f54)) (aq [0,0,1,1] impl_wordSet_list_an) ⟨mkE 22 0 [(0, dW x1552), (3, .slc 0)], [some (sI x1555)]⟩ (impl_wordSet_list_n2) (fun (t : Unit) => (Exit.normal, ⟨mkE 22 0 [(3, .slc 0), (4, dW x1552)], [some (sI x1555)]⟩)) := by
  refine Link.of fun K h => ?_
  simp only [impl_wordSet_list_n2, wpO_bind, wpO_cond, wpO_map, wpO_some] at h
  exact Awp.of (by kernel_rfl) h

theorem impl_wordSet_list_n3_l (x1598 : Int) (x1599 : List Int) : Link impl_wordSet_list_ctx LL (cq [0,0,1,0,1,1] (bodyOf Tryd.f54)) (aq [0,0,1,0,1,1] impl_wordSet_list_an) ⟨mkE 22 0 [(3, .slc 0), (4, dW x1598)], [some (sI x1599)]⟩ (impl_wordSet_list_n3 x1598 x1599) (Sum.elim (fun (t : Int × (List Int)) => (Exit.normal, ⟨mkE 22 0 [(3, .slc 0), (4, dW t.1)], [some (sI t.2)]⟩)) (fun (t : (List Int)) => ((Exit.exit 0), ⟨mkE 22 0 [(3, .slc 0)], [some (sI t)]⟩))) := by
  refine Link.of fun K h => ?_
  simp only [impl_wordSet_list_n3, wpO_bind, wpO_cond, wpO_map, wpO_some] at h
  exact Awp.of (by kernel_rfl) h

def impl_wordSet_list_n4_l (x1552 : Int) (x1555 : List Int) := (link_loop (mk := fun (s : Int × (List Int)) => ⟨mkE 22 0 [(3, .slc 0), (4, dW s.1)], [some (sI s.2)]⟩) (fin := (fun (t : (List Int)) => ((Exit.exit 0), ⟨mkE 22 0 [(3, .slc 0)], [some (sI t)]⟩))) (by
  rintro t f K h
  · exact h) (fun s => link_map (impl_wordSet_list_n3_l s.1 s.2) (Sum.elim (fun (t : Int × (List Int)) => Sum.inl (t.1, t.2)) (fun (t : (List Int)) => Sum.inr t)) (by
  rintro (t | t)
  · kernel_rfl
  · kernel_rfl)) (x1552, x1555))

def impl_wordSet_list_n5_l (x1552 : Int) (x1555 : List Int) := (link_block (fin2 := (fun (t : (List Int)) => (Exit.normal, ⟨mkE 22 0 [(3, .slc 0)], [some (sI t)]⟩))) (id := 0) (impl_wordSet_list_n4_l x1552 x1555) (fun (t : (List Int)) => t) (by
  rintro t K h
  · exact Eq.mp (by kernel_rfl) h))

def impl_wordSet_list_n6_l (x1552 : Int) (x1555 : List Int) := (link_seq (impl_wordSet_list_n2_l x1552 x1555) (fun (t : Unit) => (impl_wordSet_list_n5_l x1552 x1555)))

theorem impl_wordSet_list_n7_l (x1599 : List Int) : Link impl_wordSet_list_ctx LL (cq [1,1,1] (bodyOf Tryd.f54)) (aq [1,1,1] impl_wordSet_list_an) ⟨mkE 22 0 [(3, .slc 0)], [some (sI x1599)]⟩ (impl_wordSet_list_n7 x1599) (fun (t : (List Int)) => (Exit.ret, ⟨mkE 22 0 [(2, .slc 0)], [some (sI t)]⟩)) := by
  refine Link.of fun K h => ?_
  simp only [impl_wordSet_list_n7, wpO_bind, wpO_cond, wpO_map, wpO_some] at h
  exact Awp.of (by kernel_rfl) h

def impl_wordSet_list_n8_l (x1552 : Int) (x1555 : List Int) := (link_seq (impl_wordSet_list_n6_l x1552 x1555) (fun (t : (List Int)) => (impl_wordSet_list_n7_l t)))

def impl_wordSet_list_n9_l (x1552 : Int) := (link_group (c := (cq [0,1] (bodyOf Tryd.f54))) (a := (aq [0,1] impl_wordSet_list_an)) [(cq [0] (bodyOf Tryd.f54))] [(aq [0] impl_wordSet_list_an)] rfl (link_seq (impl_wordSet_list_n1_l x1552) (fun (t : (List Int)) => (impl_wordSet_list_n8_l x1552 t))))

theorem impl_wordSet_list_e (x1552 : Int) {r : AV} {H' : Heap} (h : (Ans.mk _ (impl_wordSet_list x1552) (fun (t : (List Int)) => (.slc 0, [some (sI t)])) [] none).run = some (r, H')) : Awp impl_wordSet_list_ctx LL (bodyOf Tryd.f54) impl_wordSet_list_an ⟨mkE 22 0 [(0, dW x1552)], []⟩ (Ret (tlook tys) Tryd.f54.results.toList r H') :=
  ret_of' (Link.cast (by kernel_rfl) (by kernel_rfl) (impl_wordSet_list_n9_l x1552)) (by unfold impl_wordSet_list; kernel_rfl) (by
  intro t
  exact ret_mk [.slc 0] (by kernel_rfl) (by kernel_rfl) (by kernel_rfl) (by kernel_rfl)) h

def F_impl_wordSet_list : Fun := fun avs H =>
  match avs, H with
  | [.dat (.int .u64) x1552], [] => ⟨_, impl_wordSet_list x1552, fun (t : (List Int)) => (.slc 0, [some (sI t)]), [], none⟩
  | _, _ => Ans.no

theorem impl_wordSet_list_sound : Sound Tryd.prog 54 F_impl_wordSet_list := by
  refine fn_sound' (C := impl_wordSet_list_ctx) (c := bodyOf Tryd.f54) (cok_of tys_ok (allc impl_wordSet_count_sound (allc math_bits_TrailingZeros_sound alln)) (allc Tryd.call50 (allc Tryd.call88 alln)) (by kernel_rfl)) Tryd.func54 (by kernel_rfl) LL impl_wordSet_list_an ?_
  intro avs H r H' h
  unfold F_impl_wordSet_list at h
  split at h
  · refine Awp.cast ?_ ?_ ?_ (impl_wordSet_list_e _ h) <;> kernel_rfl
  · simp [Ans.no, Ans.run] at h


/-! loop.example/headtrees/impl.DependsOf -/

def impl_DependsOf_an : Ann := (.seq (.leaf [0, 1]) (.seq (.seq (.leaf [0, 1, 17]) (.cond (.seq (.leaf [4]) (.leaf [4])) (.leaf [0, 1]))) (.seq (.leaf [4]) (.leaf [4]))))

noncomputable def impl_DependsOf_ctx : Ctx := ⟨tlook tys, olook [(31, F_impl_TreeOk), (53, F_impl_dependents), (54, F_impl_wordSet_list)], ioF, 0, false, []⟩

theorem impl_DependsOf_n1_l (x1539 : List Int) (x1540 : Int) : Link impl_DependsOf_ctx LL (bodyOf Tryd.f17) impl_DependsOf_an ⟨mkE 22 0 [(0, dL x1539), (1, dI x1540)], []⟩ (impl_DependsOf_n1 x1539 x1540) (fun (t : (List Int)) => (Exit.ret, ⟨mkE 22 0 [(4, .slc 0)], [some (sI t)]⟩)) := by
  refine Link.of fun K h => ?_
  simp only [impl_DependsOf_n1, wpO_bind, wpO_cond, wpO_map, wpO_some] at h
  exact Awp.of (by kernel_rfl) h

theorem impl_DependsOf_e (x1539 : List Int) (x1540 : Int) {r : AV} {H' : Heap} (h : (Ans.mk _ (impl_DependsOf x1539 x1540) (fun (t : (List Int)) => (.slc 0, [some (sI t)])) [] none).run = some (r, H')) : Awp impl_DependsOf_ctx LL (bodyOf Tryd.f17) impl_DependsOf_an ⟨mkE 22 0 [(0, dL x1539), (1, dI x1540)], []⟩ (Ret (tlook tys) Tryd.f17.results.toList r H') :=
  ret_of' (impl_DependsOf_n1_l x1539 x1540) (by unfold impl_DependsOf; kernel_rfl) (by
  intro t
  exact ret_mk [.slc 0] (by kernel_rfl) (by kernel_rfl) (by kernel_rfl) (by kernel_rfl)) h

def F_impl_DependsOf : Fun := fun avs H =>
  match avs, H with
  | [.dat (.list (.int .i64)) x1539, .dat (.int .i64) x1540], [] => ⟨_, impl_DependsOf x1539 x1540, fun (t : (List Int)) => (.slc 0, [some (sI t)]), [], none⟩
  | _, _ => Ans.no

theorem impl_DependsOf_sound : Sound Tryd.prog 17 F_impl_DependsOf := by
  refine fn_sound' (C := impl_DependsOf_ctx) (c := bodyOf Tryd.f17) (cok_of tys_ok (allc impl_TreeOk_sound (allc impl_dependents_sound (allc impl_wordSet_list_sound alln))) (allc Tryd.call31 (allc Tryd.call53 (allc Tryd.call54 alln))) (by kernel_rfl)) Tryd.func17 (by kernel_rfl) LL impl_DependsOf_an ?_
  intro avs H r H' h
  unfold F_impl_DependsOf at h
  split at h
  · refine Awp.cast ?_ ?_ ?_ (impl_DependsOf_e _ _ h) <;> kernel_rfl
  · simp [Ans.no, Ans.run] at h


/-! loop.example/headtrees/laws.FnSidesOf -/

def laws_FnSidesOf_an : Ann := (.seq (.leaf [0]) (.seq (.seq (.leaf [0, 18]) (.cond (.seq (.leaf [2]) (.leaf [2])) (.leaf [0]))) (.seq (.leaf [3, 4]) (.seq (.leaf [3, 4, 5, 6, 7]) (.seq (.leaf [3, 4, 5, 6, 7, 8, 9, 10]) (.seq (.seq (.leaf [3, 4, 5, 6, 7, 50]) (.cond (.seq (.leaf [2]) (.leaf [2])) (.leaf [3, 4, 5, 6, 7]))) (.seq (.seq (.leaf [3, 4, 5, 6, 52]) (.cond (.seq (.leaf [2]) (.leaf [2])) (.leaf [3, 4, 5, 6]))) (.seq (.leaf [3, 4, 5, 6, 11]) (.seq (.seq (.leaf [3, 4, 5, 6, 11, 12]) (.block (.loop (.seq (.seq (.leaf [3, 4, 5, 6, 11, 12, 65]) (.cond (.leaf [3, 4, 5, 6, 11, 12]) (.leaf [3, 4, 5, 6, 11]))) (.seq (.block (.seq (.leaf [3, 4, 5, 6, 11, 12, 13, 14]) (.leaf [3, 4, 5, 6, 11, 12]))) (.leaf [3, 4, 5, 6, 11, 12])))))) (.seq (.leaf [2]) (.leaf [2])))))))))))

noncomputable def laws_FnSidesOf_ctx : Ctx := ⟨tlook tys, olook [(13, F_spec_DrawSidesOf), (14, F_impl_SidesOf), (15, F_spec_SidesOf), (16, F_laws_alive), (17, F_impl_DependsOf)], ioF, 0, false, []⟩

theorem laws_FnSidesOf_n1_l (x2 : List Int) : Link laws_FnSidesOf_ctx LL (Code.seq (cq [0] (bodyOf Tryd.f3)) (Code.seq (cq [0,1] (bodyOf Tryd.f3)) (Code.seq (cq [0,1,1] (bodyOf Tryd.f3)) (Code.seq (cq [0,1,1,1] (bodyOf Tryd.f3)) (Code.seq (cq [0,1,1,1,1] (bodyOf Tryd.f3)) (Code.seq (cq [0,1,1,1,1,1] (bodyOf Tryd.f3)) (Code.seq (cq [0,1,1,1,1,1,1] (bodyOf Tryd.f3)) (cq [0,1,1,1,1,1,1,1] (bodyOf Tryd.f3))))))))) (Ann.seq (aq [0] laws_FnSidesOf_an) (Ann.seq (aq [0,1] laws_FnSidesOf_an) (Ann.seq (aq [0,1,1] laws_FnSidesOf_an) (Ann.seq (aq [0,1,1,1] laws_FnSidesOf_an) (Ann.seq (aq [0,1,1,1,1] laws_FnSidesOf_an) (Ann.seq (aq [0,1,1,1,1,1] laws_FnSidesOf_an) (Ann.seq (aq [0,1,1,1,1,1,1] laws_FnSidesOf_an) (aq [0,1,1,1,1,1,1,1] laws_FnSidesOf_an)))))))) ⟨mkE 95 0 [(0, dV x2)], []⟩ (laws_FnSidesOf_n1 x2) (Sum.elim (fun (t : Int × Int × Int × (List Int)) => (Exit.normal, ⟨mkE 95 0 [(3, .slc 0), (4, dI t.1), (5, dI t.2.1), (6, dI t.2.2.1), (11, dI 0)], [some (sI t.2.2.2)]⟩)) (fun (t : Bool) => (Exit.ret, ⟨mkE 95 0 [(2, dB t)], []⟩))) := by
  refine Link.of fun K h => ?_
  simp only [laws_FnSidesOf_n1, wpO_bind, wpO_cond, wpO_map, wpO_some] at h
  exact Awp.of (by kernel_rfl) h

theorem laws_FnSidesOf_n2_l (x1481 : Int) (x1484 : Int) (x1485 : Int) (x1482 : List Int) : Link laws_FnSidesOf_ctx LL (cq [0,0,1,1,1,1,1,1,1,1] (bodyOf Tryd.f3)) (aq [0,0,1,1,1,1,1,1,1,1] laws_FnSidesOf_an) ⟨mkE 95 0 [(3, .slc 0), (4, dI x1481), (5, dI x1484), (6, dI x1485), (11, dI 0)], [some (sI x1482)]⟩ (laws_FnSidesOf_n2) (fun (t : Unit) => (Exit.normal, ⟨mkE 95 0 [(3, .slc 0), (4, dI x1481), (5, dI x1484), (6, dI x1485), (11, dI 0), (12, dI 1)], [some (sI x1482)]⟩)) := by
  refine Link.of fun K h => ?_
  simp only [laws_FnSidesOf_n2, wpO_bind, wpO_cond, wpO_map, wpO_some] at h
  exact Awp.of (by kernel_rfl) h

theorem laws_FnSidesOf_n3_l (x1481 : Int) (x1484 : Int) (x1485 : Int) (x1517 : Int) (x1518 : Int) (x1482 : List Int) : Link laws_FnSidesOf_ctx LL (cq [0,0,1,0,1,1,1,1,1,1,1,1] (bodyOf Tryd.f3)) (aq [0,0,1,0,1,1,1,1,1,1,1,1] laws_FnSidesOf_an) ⟨mkE 95 0 [(3, .slc 0), (4, dI x1481), (5, dI x1484), (6, dI x1485), (11, dI x1517), (12, dI x1518)], [some (sI x1482)]⟩ (laws_FnSidesOf_n3 x1517 x1518 x1482) (Sum.elim (fun (t : Int × Int) => (Exit.normal, ⟨mkE 95 0 [(3, .slc 0), (4, dI x1481), (5, dI x1484), (6, dI x1485), (11, dI t.1), (12, dI t.2)], [some (sI x1482)]⟩)) (fun (t : Int) => ((Exit.exit 0), ⟨mkE 95 0 [(3, .slc 0), (4, dI x1481), (5, dI x1484), (6, dI x1485), (11, dI t)], [some (sI x1482)]⟩))) := by
  refine Link.of fun K h => ?_
  simp only [laws_FnSidesOf_n3, wpO_bind, wpO_cond, wpO_map, wpO_some] at h
  exact Awp.of (by kernel_rfl) h

def laws_FnSidesOf_n4_l (x1481 : Int) (x1484 : Int) (x1485 : Int) (x1482 : List Int) := (link_loop (mk := fun (s : Int × Int) => ⟨mkE 95 0 [(3, .slc 0), (4, dI x1481), (5, dI x1484), (6, dI x1485), (11, dI s.1), (12, dI s.2)], [some (sI x1482)]⟩) (fin := (fun (t : Int) => ((Exit.exit 0), ⟨mkE 95 0 [(3, .slc 0), (4, dI x1481), (5, dI x1484), (6, dI x1485), (11, dI t)], [some (sI x1482)]⟩))) (by
  rintro t f K h
  · exact h) (fun s => link_map (laws_FnSidesOf_n3_l x1481 x1484 x1485 s.1 s.2 x1482) (Sum.elim (fun (t : Int × Int) => Sum.inl (t.1, t.2)) (fun (t : Int) => Sum.inr t)) (by
  rintro (t | t)
  · kernel_rfl
  · kernel_rfl)) (0, 1))

def laws_FnSidesOf_n5_l (x1481 : Int) (x1484 : Int) (x1485 : Int) (x1482 : List Int) := (link_block (fin2 := (fun (t : Int) => (Exit.normal, ⟨mkE 95 0 [(3, .slc 0), (4, dI x1481), (5, dI x1484), (6, dI x1485), (11, dI t)], [some (sI x1482)]⟩))) (id := 0) (laws_FnSidesOf_n4_l x1481 x1484 x1485 x1482) (fun (t : Int) => t) (by
  rintro t K h
  · exact Eq.mp (by kernel_rfl) h))

def laws_FnSidesOf_n6_l (x1481 : Int) (x1484 : Int) (x1485 : Int) (x1482 : List Int) := (link_seq (laws_FnSidesOf_n2_l x1481 x1484 x1485 x1482) (fun (t : Unit) => (laws_FnSidesOf_n5_l x1481 x1484 x1485 x1482)))

theorem laws_FnSidesOf_n7_l (x1481 : Int) (x1484 : Int) (x1485 : Int) (x1517 : Int) (x1482 : List Int) : Link laws_FnSidesOf_ctx LL (cq [1,1,1,1,1,1,1,1,1] (bodyOf Tryd.f3)) (aq [1,1,1,1,1,1,1,1,1] laws_FnSidesOf_an) ⟨mkE 95 0 [(3, .slc 0), (4, dI x1481), (5, dI x1484), (6, dI x1485), (11, dI x1517)], [some (sI x1482)]⟩ (laws_FnSidesOf_n7 x1481 x1484 x1485 x1517 x1482) (fun (t : Bool) => (Exit.ret, ⟨mkE 95 0 [(2, dB t)], []⟩)) := by
  refine Link.of fun K h => ?_
  simp only [laws_FnSidesOf_n7, wpO_bind, wpO_cond, wpO_map, wpO_some] at h
  exact Awp.of (by kernel_rfl) h

def laws_FnSidesOf_n8_l (x1481 : Int) (x1484 : Int) (x1485 : Int) (x1482 : List Int) := (link_seq (laws_FnSidesOf_n6_l x1481 x1484 x1485 x1482) (fun (t : Int) => (laws_FnSidesOf_n7_l x1481 x1484 x1485 t x1482)))

def laws_FnSidesOf_n9_l (x2 : List Int) := (link_group (c := (cq [0,1,1,1,1,1,1,1] (bodyOf Tryd.f3))) (a := (aq [0,1,1,1,1,1,1,1] laws_FnSidesOf_an)) [(cq [0] (bodyOf Tryd.f3)), (cq [0,1] (bodyOf Tryd.f3)), (cq [0,1,1] (bodyOf Tryd.f3)), (cq [0,1,1,1] (bodyOf Tryd.f3)), (cq [0,1,1,1,1] (bodyOf Tryd.f3)), (cq [0,1,1,1,1,1] (bodyOf Tryd.f3)), (cq [0,1,1,1,1,1,1] (bodyOf Tryd.f3))] [(aq [0] laws_FnSidesOf_an), (aq [0,1] laws_FnSidesOf_an), (aq [0,1,1] laws_FnSidesOf_an), (aq [0,1,1,1] laws_FnSidesOf_an), (aq [0,1,1,1,1] laws_FnSidesOf_an), (aq [0,1,1,1,1,1] laws_FnSidesOf_an), (aq [0,1,1,1,1,1,1] laws_FnSidesOf_an)] rfl (link_seq2 (laws_FnSidesOf_n1_l x2) (fun (t : Int × Int × Int × (List Int)) => (laws_FnSidesOf_n8_l t.1 t.2.1 t.2.2.1 t.2.2.2)) (fun (t : Bool) => t) (by
  rintro t
  · kernel_rfl) (by
  rintro t f K h
  · exact h)))

theorem laws_FnSidesOf_e (x2 : List Int) {r : AV} {H' : Heap} (h : (Ans.mk _ (laws_FnSidesOf x2) (fun (t : Bool) => (dB t, [])) [] none).run = some (r, H')) : Awp laws_FnSidesOf_ctx LL (bodyOf Tryd.f3) laws_FnSidesOf_an ⟨mkE 95 0 [(0, dV x2)], []⟩ (Ret (tlook tys) Tryd.f3.results.toList r H') :=
  ret_of' (Link.cast (by kernel_rfl) (by kernel_rfl) (laws_FnSidesOf_n9_l x2)) (by unfold laws_FnSidesOf; kernel_rfl) (by
  intro t
  exact ret_mk [dB t] (by kernel_rfl) (by kernel_rfl) (by kernel_rfl) (by kernel_rfl)) h

def F_laws_FnSidesOf : Fun := fun avs H =>
  match avs, H with
  | [.dat (.list (.int .u8)) x2], [] => ⟨_, laws_FnSidesOf x2, fun (t : Bool) => (dB t, []), [], none⟩
  | _, _ => Ans.no

theorem laws_FnSidesOf_sound : Sound Tryd.prog 3 F_laws_FnSidesOf := by
  refine fn_sound' (C := laws_FnSidesOf_ctx) (c := bodyOf Tryd.f3) (cok_of tys_ok (allc spec_DrawSidesOf_sound (allc impl_SidesOf_sound (allc spec_SidesOf_sound (allc laws_alive_sound (allc impl_DependsOf_sound alln))))) (allc Tryd.call13 (allc Tryd.call14 (allc Tryd.call15 (allc Tryd.call16 (allc Tryd.call17 alln))))) (by kernel_rfl)) Tryd.func3 (by kernel_rfl) LL laws_FnSidesOf_an ?_
  intro avs H r H' h
  unfold F_laws_FnSidesOf at h
  split at h
  · refine Awp.cast ?_ ?_ ?_ (laws_FnSidesOf_e _ h) <;> kernel_rfl
  · simp [Ans.no, Ans.run] at h


end Go.Rv
