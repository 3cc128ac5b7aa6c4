/-
  The checked code answers as the plain functions do; written by program. Conditions: none.
-/
import Derived.Test.YteefjoepogdgpaaGFnScoresOk
import Derived.Test.YteefjoepogdgpaaProg
set_option linter.unusedVariables false
set_option linter.unusedSimpArgs false
set_option linter.defProp false
set_option maxRecDepth 100000
namespace Go.Rv
open Go.Proofs
theorem ty3 : TIOk Try.prog 3 ⟨.int .i64, 1, 8, some (.int .i64), [.int .i64 0], false⟩ := ⟨⟨infoOf (Try.prog.info? 3), by kernel_rfl, by kernel_rfl, by kernel_rfl, .int .i64 0, by kernel_rfl, by kernel_rfl⟩, (by kernel_rfl : Try.prog.underlying 3 = some (.int .i64)), no_eq⟩
theorem ty4 : TIOk Try.prog 4 ⟨.bool, 1, 1, some .bool, [.bool false], false⟩ := ⟨⟨infoOf (Try.prog.info? 4), by kernel_rfl, by kernel_rfl, by kernel_rfl, .bool false, by kernel_rfl, by kernel_rfl⟩, (by kernel_rfl : Try.prog.underlying 4 = some .bool), no_eq⟩
theorem ty5 : TIOk Try.prog 5 ⟨.int .u8, 1, 1, some (.int .u8), [.int .u8 0], false⟩ := ⟨⟨infoOf (Try.prog.info? 5), by kernel_rfl, by kernel_rfl, by kernel_rfl, .int .u8 0, by kernel_rfl, by kernel_rfl⟩, (by kernel_rfl : Try.prog.underlying 5 = some (.int .u8)), no_eq⟩
theorem ty22 : TIOk Try.prog 22 ⟨.slice 5, 1, 24, some (.list (.int .u8)), [.slice none 0 0], false⟩ := ⟨⟨infoOf (Try.prog.info? 22), by kernel_rfl, by kernel_rfl, by kernel_rfl, .slice none 0 0, by kernel_rfl, by kernel_rfl⟩, (by kernel_rfl : Try.prog.underlying 22 = some (.slice 5)), no_eq⟩
theorem ty23 : TIOk Try.prog 23 ⟨.slice 26, 1, 24, some (.list (.list (.int .i64))), [.slice none 0 0], false⟩ := ⟨⟨infoOf (Try.prog.info? 23), by kernel_rfl, by kernel_rfl, by kernel_rfl, .slice none 0 0, by kernel_rfl, by kernel_rfl⟩, (by kernel_rfl : Try.prog.underlying 23 = some (.slice 26)), no_eq⟩
theorem ty26 : TIOk Try.prog 26 ⟨.slice 3, 1, 24, some (.list (.int .i64)), [.slice none 0 0], false⟩ := ⟨⟨infoOf (Try.prog.info? 26), by kernel_rfl, by kernel_rfl, by kernel_rfl, .slice none 0 0, by kernel_rfl, by kernel_rfl⟩, (by kernel_rfl : Try.prog.underlying 26 = some (.slice 3)), no_eq⟩
theorem ty55 : TIOk Try.prog 55 ⟨.strct [(0, 23), (1, 26), (2, 26), (3, 3)], 4, 80, some (.pair (.list (.list (.int .i64))) (.pair (.list (.int .i64)) (.pair (.list (.int .i64)) (.pair (.int .i64) .unit)))), [.slice none 0 0, .slice none 0 0, .slice none 0 0, .int .i64 0], false⟩ := ⟨⟨infoOf (Try.prog.info? 55), by kernel_rfl, by kernel_rfl, by kernel_rfl, .agg #[.slice none 0 0, .slice none 0 0, .slice none 0 0, .int .i64 0], by kernel_rfl, by kernel_rfl⟩, ⟨fieldsOf (Try.prog.underlying 55), by kernel_rfl, by kernel_rfl⟩, no_eq⟩
theorem ty56 : TIOk Try.prog 56 ⟨.scalar, 1, 8, none, [.pointer none], false⟩ := ⟨⟨infoOf (Try.prog.info? 56), by kernel_rfl, by kernel_rfl, by kernel_rfl, .pointer none, by kernel_rfl, by kernel_rfl⟩, ⟨descOf (Try.prog.underlying 56), by kernel_rfl, by kernel_rfl⟩, no_eq⟩
theorem ty60 : TIOk Try.prog 60 ⟨.strct [(0, 3), (1, 3)], 2, 16, some (.pair (.int .i64) (.pair (.int .i64) .unit)), [.int .i64 0, .int .i64 0], false⟩ := ⟨⟨infoOf (Try.prog.info? 60), by kernel_rfl, by kernel_rfl, by kernel_rfl, .agg #[.int .i64 0, .int .i64 0], by kernel_rfl, by kernel_rfl⟩, ⟨fieldsOf (Try.prog.underlying 60), by kernel_rfl, by kernel_rfl⟩, no_eq⟩
theorem ty61 : TIOk Try.prog 61 ⟨.arr 6 60, 12, 96, none, [.int .i64 0, .int .i64 0, .int .i64 0, .int .i64 0, .int .i64 0, .int .i64 0, .int .i64 0, .int .i64 0, .int .i64 0, .int .i64 0, .int .i64 0, .int .i64 0], false⟩ := ⟨⟨infoOf (Try.prog.info? 61), by kernel_rfl, by kernel_rfl, by kernel_rfl, .agg #[.int .i64 0, .int .i64 0, .int .i64 0, .int .i64 0, .int .i64 0, .int .i64 0, .int .i64 0, .int .i64 0, .int .i64 0, .int .i64 0, .int .i64 0, .int .i64 0], by kernel_rfl, by kernel_rfl⟩, (by kernel_rfl : Try.prog.underlying 61 = some (.array 6 60)), no_eq⟩
theorem ty64 : TIOk Try.prog 64 ⟨.arr 7 3, 7, 56, none, [.int .i64 0, .int .i64 0, .int .i64 0, .int .i64 0, .int .i64 0, .int .i64 0, .int .i64 0], false⟩ := ⟨⟨infoOf (Try.prog.info? 64), by kernel_rfl, by kernel_rfl, by kernel_rfl, .agg #[.int .i64 0, .int .i64 0, .int .i64 0, .int .i64 0, .int .i64 0, .int .i64 0, .int .i64 0], by kernel_rfl, by kernel_rfl⟩, (by kernel_rfl : Try.prog.underlying 64 = some (.array 7 3)), no_eq⟩
theorem ty66 : TIOk Try.prog 66 ⟨.strct [(0, 64), (7, 64)], 14, 112, none, [.int .i64 0, .int .i64 0, .int .i64 0, .int .i64 0, .int .i64 0, .int .i64 0, .int .i64 0, .int .i64 0, .int .i64 0, .int .i64 0, .int .i64 0, .int .i64 0, .int .i64 0, .int .i64 0], false⟩ := ⟨⟨infoOf (Try.prog.info? 66), by kernel_rfl, by kernel_rfl, by kernel_rfl, .agg #[.int .i64 0, .int .i64 0, .int .i64 0, .int .i64 0, .int .i64 0, .int .i64 0, .int .i64 0, .int .i64 0, .int .i64 0, .int .i64 0, .int .i64 0, .int .i64 0, .int .i64 0, .int .i64 0], by kernel_rfl, by kernel_rfl⟩, ⟨fieldsOf (Try.prog.underlying 66), by kernel_rfl, by kernel_rfl⟩, no_eq⟩
theorem ty70 : TIOk Try.prog 70 ⟨.strct [(0, 3), (1, 3)], 2, 16, some (.pair (.int .i64) (.pair (.int .i64) .unit)), [.int .i64 0, .int .i64 0], false⟩ := ⟨⟨infoOf (Try.prog.info? 70), by kernel_rfl, by kernel_rfl, by kernel_rfl, .agg #[.int .i64 0, .int .i64 0], by kernel_rfl, by kernel_rfl⟩, ⟨fieldsOf (Try.prog.underlying 70), by kernel_rfl, by kernel_rfl⟩, no_eq⟩
theorem ty74 : TIOk Try.prog 74 ⟨.strct [(0, 22), (1, 3)], 2, 32, some (.pair (.list (.int .u8)) (.pair (.int .i64) .unit)), [.slice none 0 0, .int .i64 0], false⟩ := ⟨⟨infoOf (Try.prog.info? 74), by kernel_rfl, by kernel_rfl, by kernel_rfl, .agg #[.slice none 0 0, .int .i64 0], by kernel_rfl, by kernel_rfl⟩, ⟨fieldsOf (Try.prog.underlying 74), by kernel_rfl, by kernel_rfl⟩, no_eq⟩
theorem ty80 : TIOk Try.prog 80 ⟨.arr 6 61, 72, 576, none, [.int .i64 0, .int .i64 0, .int .i64 0, .int .i64 0, .int .i64 0, .int .i64 0, .int .i64 0, .int .i64 0, .int .i64 0, .int .i64 0, .int .i64 0, .int .i64 0, .int .i64 0, .int .i64 0, .int .i64 0, .int .i64 0, .int .i64 0, .int .i64 0, .int .i64 0, .int .i64 0, .int .i64 0, .int .i64 0, .int .i64 0, .int .i64 0, .int .i64 0, .int .i64 0, .int .i64 0, .int .i64 0, .int .i64 0, .int .i64 0, .int .i64 0, .int .i64 0, .int .i64 0, .int .i64 0, .int .i64 0, .int .i64 0, .int .i64 0, .int .i64 0, .int .i64 0, .int .i64 0, .int .i64 0, .int .i64 0, .int .i64 0, .int .i64 0, .int .i64 0, .int .i64 0, .int .i64 0, .int .i64 0, .int .i64 0, .int .i64 0, .int .i64 0, .int .i64 0, .int .i64 0, .int .i64 0, .int .i64 0, .int .i64 0, .int .i64 0, .int .i64 0, .int .i64 0, .int .i64 0, .int .i64 0, .int .i64 0, .int .i64 0, .int .i64 0, .int .i64 0, .int .i64 0, .int .i64 0, .int .i64 0, .int .i64 0, .int .i64 0, .int .i64 0, .int .i64 0], false⟩ := ⟨⟨infoOf (Try.prog.info? 80), by kernel_rfl, by kernel_rfl, by kernel_rfl, .agg #[.int .i64 0, .int .i64 0, .int .i64 0, .int .i64 0, .int .i64 0, .int .i64 0, .int .i64 0, .int .i64 0, .int .i64 0, .int .i64 0, .int .i64 0, .int .i64 0, .int .i64 0, .int .i64 0, .int .i64 0, .int .i64 0, .int .i64 0, .int .i64 0, .int .i64 0, .int .i64 0, .int .i64 0, .int .i64 0, .int .i64 0, .int .i64 0, .int .i64 0, .int .i64 0, .int .i64 0, .int .i64 0, .int .i64 0, .int .i64 0, .int .i64 0, .int .i64 0, .int .i64 0, .int .i64 0, .int .i64 0, .int .i64 0, .int .i64 0, .int .i64 0, .int .i64 0, .int .i64 0, .int .i64 0, .int .i64 0, .int .i64 0, .int .i64 0, .int .i64 0, .int .i64 0, .int .i64 0, .int .i64 0, .int .i64 0, .int .i64 0, .int .i64 0, .int .i64 0, .int .i64 0, .int .i64 0, .int .i64 0, .int .i64 0, .int .i64 0, .int .i64 0, .int .i64 0, .int .i64 0, .int .i64 0, .int .i64 0, .int .i64 0, .int .i64 0, .int .i64 0, .int .i64 0, .int .i64 0, .int .i64 0, .int .i64 0, .int .i64 0, .int .i64 0, .int .i64 0], by kernel_rfl, by kernel_rfl⟩, (by kernel_rfl : Try.prog.underlying 80 = some (.array 6 61)), no_eq⟩
theorem ty83 : TIOk Try.prog 83 ⟨.strct [(0, 64), (7, 64)], 14, 112, none, [.int .i64 0, .int .i64 0, .int .i64 0, .int .i64 0, .int .i64 0, .int .i64 0, .int .i64 0, .int .i64 0, .int .i64 0, .int .i64 0, .int .i64 0, .int .i64 0, .int .i64 0, .int .i64 0], false⟩ := ⟨⟨infoOf (Try.prog.info? 83), by kernel_rfl, by kernel_rfl, by kernel_rfl, .agg #[.int .i64 0, .int .i64 0, .int .i64 0, .int .i64 0, .int .i64 0, .int .i64 0, .int .i64 0, .int .i64 0, .int .i64 0, .int .i64 0, .int .i64 0, .int .i64 0, .int .i64 0, .int .i64 0], by kernel_rfl, by kernel_rfl⟩, ⟨fieldsOf (Try.prog.underlying 83), by kernel_rfl, by kernel_rfl⟩, no_eq⟩
theorem ty88 : TIOk Try.prog 88 ⟨.strct [(0, 26), (1, 3), (2, 3)], 3, 40, some (.pair (.list (.int .i64)) (.pair (.int .i64) (.pair (.int .i64) .unit))), [.slice none 0 0, .int .i64 0, .int .i64 0], false⟩ := ⟨⟨infoOf (Try.prog.info? 88), by kernel_rfl, by kernel_rfl, by kernel_rfl, .agg #[.slice none 0 0, .int .i64 0, .int .i64 0], by kernel_rfl, by kernel_rfl⟩, ⟨fieldsOf (Try.prog.underlying 88), by kernel_rfl, by kernel_rfl⟩, no_eq⟩
def tys : List (TypeId × TI) := [(3, ⟨.int .i64, 1, 8, some (.int .i64), [.int .i64 0], false⟩), (4, ⟨.bool, 1, 1, some .bool, [.bool false], false⟩), (5, ⟨.int .u8, 1, 1, some (.int .u8), [.int .u8 0], false⟩), (22, ⟨.slice 5, 1, 24, some (.list (.int .u8)), [.slice none 0 0], false⟩), (23, ⟨.slice 26, 1, 24, some (.list (.list (.int .i64))), [.slice none 0 0], false⟩), (26, ⟨.slice 3, 1, 24, some (.list (.int .i64)), [.slice none 0 0], false⟩), (55, ⟨.strct [(0, 23), (1, 26), (2, 26), (3, 3)], 4, 80, some (.pair (.list (.list (.int .i64))) (.pair (.list (.int .i64)) (.pair (.list (.int .i64)) (.pair (.int .i64) .unit)))), [.slice none 0 0, .slice none 0 0, .slice none 0 0, .int .i64 0], false⟩), (56, ⟨.scalar, 1, 8, none, [.pointer none], false⟩), (60, ⟨.strct [(0, 3), (1, 3)], 2, 16, some (.pair (.int .i64) (.pair (.int .i64) .unit)), [.int .i64 0, .int .i64 0], false⟩), (61, ⟨.arr 6 60, 12, 96, none, [.int .i64 0, .int .i64 0, .int .i64 0, .int .i64 0, .int .i64 0, .int .i64 0, .int .i64 0, .int .i64 0, .int .i64 0, .int .i64 0, .int .i64 0, .int .i64 0], false⟩), (64, ⟨.arr 7 3, 7, 56, none, [.int .i64 0, .int .i64 0, .int .i64 0, .int .i64 0, .int .i64 0, .int .i64 0, .int .i64 0], false⟩), (66, ⟨.strct [(0, 64), (7, 64)], 14, 112, none, [.int .i64 0, .int .i64 0, .int .i64 0, .int .i64 0, .int .i64 0, .int .i64 0, .int .i64 0, .int .i64 0, .int .i64 0, .int .i64 0, .int .i64 0, .int .i64 0, .int .i64 0, .int .i64 0], false⟩), (70, ⟨.strct [(0, 3), (1, 3)], 2, 16, some (.pair (.int .i64) (.pair (.int .i64) .unit)), [.int .i64 0, .int .i64 0], false⟩), (74, ⟨.strct [(0, 22), (1, 3)], 2, 32, some (.pair (.list (.int .u8)) (.pair (.int .i64) .unit)), [.slice none 0 0, .int .i64 0], false⟩), (80, ⟨.arr 6 61, 72, 576, none, [.int .i64 0, .int .i64 0, .int .i64 0, .int .i64 0, .int .i64 0, .int .i64 0, .int .i64 0, .int .i64 0, .int .i64 0, .int .i64 0, .int .i64 0, .int .i64 0, .int .i64 0, .int .i64 0, .int .i64 0, .int .i64 0, .int .i64 0, .int .i64 0, .int .i64 0, .int .i64 0, .int .i64 0, .int .i64 0, .int .i64 0, .int .i64 0, .int .i64 0, .int .i64 0, .int .i64 0, .int .i64 0, .int .i64 0, .int .i64 0, .int .i64 0, .int .i64 0, .int .i64 0, .int .i64 0, .int .i64 0, .int .i64 0, .int .i64 0, .int .i64 0, .int .i64 0, .int .i64 0, .int .i64 0, .int .i64 0, .int .i64 0, .int .i64 0, .int .i64 0, .int .i64 0, .int .i64 0, .int .i64 0, .int .i64 0, .int .i64 0, .int .i64 0, .int .i64 0, .int .i64 0, .int .i64 0, .int .i64 0, .int .i64 0, .int .i64 0, .int .i64 0, .int .i64 0, .int .i64 0, .int .i64 0, .int .i64 0, .int .i64 0, .int .i64 0, .int .i64 0, .int .i64 0, .int .i64 0, .int .i64 0, .int .i64 0, .int .i64 0, .int .i64 0, .int .i64 0], false⟩), (83, ⟨.strct [(0, 64), (7, 64)], 14, 112, none, [.int .i64 0, .int .i64 0, .int .i64 0, .int .i64 0, .int .i64 0, .int .i64 0, .int .i64 0, .int .i64 0, .int .i64 0, .int .i64 0, .int .i64 0, .int .i64 0, .int .i64 0, .int .i64 0], false⟩), (88, ⟨.strct [(0, 26), (1, 3), (2, 3)], 3, 40, some (.pair (.list (.int .i64)) (.pair (.int .i64) (.pair (.int .i64) .unit))), [.slice none 0 0, .int .i64 0, .int .i64 0], false⟩)]
theorem tys_ok : TOk Try.prog (tlook tys) := tok_of (allc ty3 (allc ty4 (allc ty5 (allc ty22 (allc ty23 (allc ty26 (allc ty55 (allc ty56 (allc ty60 (allc ty61 (allc ty64 (allc ty66 (allc ty70 (allc ty74 (allc ty80 (allc ty83 (allc ty88 alln)))))))))))))))))
def ioF (f : FuncId) (i : Nat) : Bool := [(35, 0), (50, 1), (56, 0), (70, 1), (46, 1002), (64, 1000)].any fun (p : Nat × Nat) => Nat.beq p.1 f && Nat.beq p.2 i


/-! loop.example/headtrees/spec.l20Open -/

def spec_l20Open_an : Ann := (.seq (.leaf [0]) (.seq (.seq (.leaf [0, 5]) (.cond (.leaf [0]) (.leaf [0]))) (.seq (.leaf [2]) (.leaf [2]))))

noncomputable def spec_l20Open_ctx : Ctx := ⟨tlook tys, olook [], ioF, 0, false, []⟩

theorem spec_l20Open_n1_l (x16521 : List Int) : Link spec_l20Open_ctx LL (bodyOf Try.f38) spec_l20Open_an ⟨mkE 11 0 [(0, dV x16521)], []⟩ (spec_l20Open_n1 x16521) (fun (t : (List Int)) => (Exit.ret, ⟨mkE 11 0 [(2, .ptr 0 0)], [some (.box [dV t, dI 0])]⟩)) := by
  refine Link.of fun K h => ?_
  simp only [spec_l20Open_n1, wpO_bind, wpO_cond, wpO_map, wpO_some] at h
  exact Awp.of (by kernel_rfl) h

theorem spec_l20Open_e (x16521 : List Int) {r : AV} {H' : Heap} (h : (Ans.mk _ (spec_l20Open x16521) (fun (t : (List Int)) => (.ptr 0 0, [some (.box [dV t, dI 0])])) [] none).run = some (r, H')) : Awp spec_l20Open_ctx LL (bodyOf Try.f38) spec_l20Open_an ⟨mkE 11 0 [(0, dV x16521)], []⟩ (Ret (tlook tys) Try.f38.results.toList r H') :=
  ret_of' (spec_l20Open_n1_l x16521) (by unfold spec_l20Open; kernel_rfl) (by
  intro t
  exact ret_mk [.ptr 0 0] (by kernel_rfl) (by kernel_rfl) (by kernel_rfl) (by kernel_rfl)) h

def F_spec_l20Open : Fun := fun avs H =>
  match avs, H with
  | [.dat (.list (.int .u8)) x16521], [] => ⟨_, spec_l20Open x16521, fun (t : (List Int)) => (.ptr 0 0, [some (.box [dV t, dI 0])]), [], none⟩
  | _, _ => Ans.no

theorem spec_l20Open_sound : Sound Try.prog 38 F_spec_l20Open := by
  refine fn_sound' (C := spec_l20Open_ctx) (c := bodyOf Try.f38) (cok_of tys_ok (alln) (alln) (by kernel_rfl)) Try.func38 (by kernel_rfl) LL spec_l20Open_an ?_
  intro avs H r H' h
  unfold F_spec_l20Open at h
  split at h
  · refine Awp.cast ?_ ?_ ?_ (spec_l20Open_e _ h) <;> kernel_rfl
  · simp [Ans.no, Ans.run] at h


/-! (*loop.example/headtrees/spec.l20Rd).pick -/

def spec_l20Rd_pick_an : Ann := (.seq (.leaf [0, 1]) (.seq (.leaf [0, 1]) (.seq (.seq (.leaf [0, 1, 24]) (.cond (.seq (.leaf [4]) (.leaf [4])) (.leaf [0, 1]))) (.seq (.leaf [0, 1, 5]) (.seq (.seq (.leaf [0, 1, 5, 36]) (.cond (.seq (.leaf [4]) (.leaf [4])) (.leaf [0, 1, 5]))) (.seq (.draw [] [0, 1, 2, 3, 4, 5, 6, 7, 8, 9, 10, 11, 12, 13, 14, 15, 16, 17, 18, 19, 20, 21, 22, 23, 24, 25, 26, 27, 28, 29, 30, 31, 32, 33, 34, 35, 36, 37, 38, 39, 40, 41, 42, 43, 44, 45] [] [1, 6]) (.seq (.leaf [1, 6]) (.seq (.leaf [4]) (.leaf [4])))))))))

noncomputable def spec_l20Rd_pick_ctx : Ctx := ⟨tlook tys, olook [], ioF, 1, false, []⟩

theorem spec_l20Rd_pick_n1_l (x16542 : Int) (x16543 : List Int) (x16544 : Int) : Link spec_l20Rd_pick_ctx LL (bodyOf Try.f51) spec_l20Rd_pick_an ⟨mkE 99 0 [(0, .ptr 0 0), (1, dI x16542)], [some (.box [dV x16543, dI x16544])]⟩ (spec_l20Rd_pick_n1 x16542 x16543 x16544) (fun (t : Int × Int) => (Exit.ret, ⟨mkE 99 0 [(4, dI t.1)], [some (.box [dV x16543, dI t.2])]⟩)) := by
  refine Link.of fun K h => ?_
  simp only [spec_l20Rd_pick_n1, wpO_bind, wpO_cond, wpO_map, wpO_some] at h
  exact Awp.of (by kernel_rfl) h

theorem spec_l20Rd_pick_e (x16542 : Int) (x16543 : List Int) (x16544 : Int) {r : AV} {H' : Heap} (h : (Ans.mk _ (spec_l20Rd_pick x16542 x16543 x16544) (fun (t : Int × Int) => (dI t.1, [some (.box [dV x16543, dI t.2])])) [] none).run = some (r, H')) : Awp spec_l20Rd_pick_ctx LL (bodyOf Try.f51) spec_l20Rd_pick_an ⟨mkE 99 0 [(0, .ptr 0 0), (1, dI x16542)], [some (.box [dV x16543, dI x16544])]⟩ (Ret (tlook tys) Try.f51.results.toList r H') :=
  ret_of' (spec_l20Rd_pick_n1_l x16542 x16543 x16544) (by unfold spec_l20Rd_pick; kernel_rfl) (by
  intro t
  exact ret_mk [dI t.1] (by kernel_rfl) (by kernel_rfl) (by kernel_rfl) (by kernel_rfl)) h

def F_spec_l20Rd_pick : Fun := fun avs H =>
  match avs, H with
  | [.ptr 0 0, .dat (.int .i64) x16542], [some (.box [.dat (.list (.int .u8)) x16543, .dat (.int .i64) x16544])] => ⟨_, spec_l20Rd_pick x16542 x16543 x16544, fun (t : Int × Int) => (dI t.1, [some (.box [dV x16543, dI t.2])]), [], none⟩
  | _, _ => Ans.no

theorem spec_l20Rd_pick_sound : Sound Try.prog 51 F_spec_l20Rd_pick := by
  refine fn_sound' (C := spec_l20Rd_pick_ctx) (c := bodyOf Try.f51) (cok_of tys_ok (alln) (alln) (by kernel_rfl)) Try.func51 (by kernel_rfl) LL spec_l20Rd_pick_an ?_
  intro avs H r H' h
  unfold F_spec_l20Rd_pick at h
  split at h
  · refine Awp.cast ?_ ?_ ?_ (spec_l20Rd_pick_e _ _ _ h) <;> kernel_rfl
  · simp [Ans.no, Ans.run] at h


/-! (*loop.example/headtrees/spec.l20Rd).odd -/

def spec_l20Rd_odd_an : Ann := (.seq (.leaf [0, 1]) (.seq (.leaf [4]) (.leaf [4])))

noncomputable def spec_l20Rd_odd_ctx : Ctx := ⟨tlook tys, olook [(51, F_spec_l20Rd_pick)], ioF, 1, false, []⟩

theorem spec_l20Rd_odd_n1_l (x16818 : Int) (x16819 : List Int) (x16820 : Int) : Link spec_l20Rd_odd_ctx LL (bodyOf Try.f58) spec_l20Rd_odd_an ⟨mkE 15 0 [(0, .ptr 0 0), (1, dI x16818)], [some (.box [dV x16819, dI x16820])]⟩ (spec_l20Rd_odd_n1 x16818 x16819 x16820) (fun (t : Bool × Int) => (Exit.ret, ⟨mkE 15 0 [(4, dB t.1)], [some (.box [dV x16819, dI t.2])]⟩)) := by
  refine Link.of fun K h => ?_
  simp only [spec_l20Rd_odd_n1, wpO_bind, wpO_cond, wpO_map, wpO_some] at h
  exact Awp.of (by kernel_rfl) h

theorem spec_l20Rd_odd_e (x16818 : Int) (x16819 : List Int) (x16820 : Int) {r : AV} {H' : Heap} (h : (Ans.mk _ (spec_l20Rd_odd x16818 x16819 x16820) (fun (t : Bool × Int) => (dB t.1, [some (.box [dV x16819, dI t.2])])) [] none).run = some (r, H')) : Awp spec_l20Rd_odd_ctx LL (bodyOf Try.f58) spec_l20Rd_odd_an ⟨mkE 15 0 [(0, .ptr 0 0), (1, dI x16818)], [some (.box [dV x16819, dI x16820])]⟩ (Ret (tlook tys) Try.f58.results.toList r H') :=
  ret_of' (spec_l20Rd_odd_n1_l x16818 x16819 x16820) (by unfold spec_l20Rd_odd; kernel_rfl) (by
  intro t
  exact ret_mk [dB t.1] (by kernel_rfl) (by kernel_rfl) (by kernel_rfl) (by kernel_rfl)) h

def F_spec_l20Rd_odd : Fun := fun avs H =>
  match avs, H with
  | [.ptr 0 0, .dat (.int .i64) x16818], [some (.box [.dat (.list (.int .u8)) x16819, .dat (.int .i64) x16820])] => ⟨_, spec_l20Rd_odd x16818 x16819 x16820, fun (t : Bool × Int) => (dB t.1, [some (.box [dV x16819, dI t.2])]), [], none⟩
  | _, _ => Ans.no

theorem spec_l20Rd_odd_sound : Sound Try.prog 58 F_spec_l20Rd_odd := by
  refine fn_sound' (C := spec_l20Rd_odd_ctx) (c := bodyOf Try.f58) (cok_of tys_ok (allc spec_l20Rd_pick_sound alln) (allc Try.call51 alln) (by kernel_rfl)) Try.func58 (by kernel_rfl) LL spec_l20Rd_odd_an ?_
  intro avs H r H' h
  unfold F_spec_l20Rd_odd at h
  split at h
  · refine Awp.cast ?_ ?_ ?_ (spec_l20Rd_odd_e _ _ _ h) <;> kernel_rfl
  · simp [Ans.no, Ans.run] at h


/-! loop.example/headtrees/spec.l20Scores -/

def spec_l20Scores_an : Ann := (.seq (.leaf [0, 1]) (.seq (.leaf [0, 1, 5]) (.seq (.leaf [0, 1, 5, 6]) (.seq (.leaf [0, 1, 5, 6, 7]) (.seq (.seq (.leaf [0, 1, 5, 6, 7, 8]) (.block (.loop (.seq (.seq (.leaf [0, 1, 5, 6, 7, 8, 26]) (.cond (.leaf [0, 1, 5, 6, 7, 8]) (.leaf [0, 1, 7]))) (.seq (.block (.seq (.leaf [0, 1, 5, 6, 7, 8, 9]) (.seq (.seq (.leaf [0, 1, 5, 6, 7, 8, 9, 10]) (.block (.loop (.seq (.seq (.leaf [0, 1, 5, 6, 7, 8, 9, 10, 32]) (.cond (.leaf [0, 1, 5, 6, 7, 8, 9, 10]) (.leaf [0, 1, 5, 6, 7, 8, 9]))) (.seq (.block (.leaf [0, 1, 5, 6, 7, 8, 9, 10])) (.leaf [0, 1, 5, 6, 7, 8, 9, 10])))))) (.leaf [0, 1, 5, 6, 7, 8])))) (.leaf [0, 1, 5, 6, 7, 8])))))) (.seq (.seq (.leaf [0, 7, 47]) (.cond (.seq (.leaf [7, 49]) (.block (.seq (.leaf [7, 49, 54]) (.cond (.seq (.leaf [4]) (.leaf [4])) (.seq (.leaf [7, 57]) (.cond (.leaf [7]) (.leafF [⟨5, 7, true, some 0, none⟩] [7]))))))) (.leaf [7]))) (.seq (.leaf [4]) (.leaf [4]))))))))

noncomputable def spec_l20Scores_ctx : Ctx := ⟨tlook tys, olook [(51, F_spec_l20Rd_pick), (58, F_spec_l20Rd_odd)], ioF, 1, true, []⟩

theorem spec_l20Scores_n1_l (x16539 : Int) (x16540 : List Int) (x16541 : Int) : Link spec_l20Scores_ctx LL (Code.seq (cq [0] (bodyOf Try.f37)) (Code.seq (cq [0,1] (bodyOf Try.f37)) (Code.seq (cq [0,1,1] (bodyOf Try.f37)) (cq [0,1,1,1] (bodyOf Try.f37))))) (Ann.seq (aq [0] spec_l20Scores_an) (Ann.seq (aq [0,1] spec_l20Scores_an) (Ann.seq (aq [0,1,1] spec_l20Scores_an) (aq [0,1,1,1] spec_l20Scores_an)))) ⟨mkE 66 0 [(0, .ptr 0 0), (1, dI x16539)], [some (.box [dV x16540, dI x16541])]⟩ (spec_l20Scores_n1 x16540 x16541) (fun (t : Int × Int × Int) => (Exit.normal, ⟨mkE 66 0 [(0, .ptr 0 0), (1, dI x16539), (5, dI t.1), (6, dI t.2.1), (7, .slc 1)], [some (.box [dV x16540, dI t.2.2]), some (.nest (.int .i64) ([] : List (List Int)) 0 [])]⟩)) := by
  refine Link.of fun K h => ?_
  simp only [spec_l20Scores_n1, wpO_bind, wpO_cond, wpO_map, wpO_some] at h
  exact Awp.of (by kernel_rfl) h

theorem spec_l20Scores_n2_l (x16539 : Int) (x16891 : Int) (x16897 : Int) (x16540 : List Int) (x16895 : Int) : Link spec_l20Scores_ctx LL (cq [0,0,1,1,1,1] (bodyOf Try.f37)) (aq [0,0,1,1,1,1] spec_l20Scores_an) ⟨mkE 66 0 [(0, .ptr 0 0), (1, dI x16539), (5, dI x16891), (6, dI x16897), (7, .slc 1)], [some (.box [dV x16540, dI x16895]), some (.nest (.int .i64) ([] : List (List Int)) 0 [])]⟩ (spec_l20Scores_n2) (fun (t : Unit) => (Exit.normal, ⟨mkE 66 0 [(0, .ptr 0 0), (1, dI x16539), (5, dI x16891), (6, dI x16897), (7, .slc 1), (8, dI 0)], [some (.box [dV x16540, dI x16895]), some (.nest (.int .i64) ([] : List (List Int)) 0 [])]⟩)) := by
  refine Link.of fun K h => ?_
  simp only [spec_l20Scores_n2, wpO_bind, wpO_cond, wpO_map, wpO_some] at h
  exact Awp.of (by kernel_rfl) h

theorem spec_l20Scores_n3_l (x16539 : Int) (x16891 : Int) (x16897 : Int) (x16941 : Int) (x16540 : List Int) (x16942 : Int) (x16943 : List (List Int)) : Link spec_l20Scores_ctx LL (cq [0,0,0,1,0,1,1,1,1] (bodyOf Try.f37)) (aq [0,0,0,1,0,1,1,1,1] spec_l20Scores_an) ⟨mkE 66 0 [(0, .ptr 0 0), (1, dI x16539), (5, dI x16891), (6, dI x16897), (7, .slc 1), (8, dI x16941)], [some (.box [dV x16540, dI x16942]), some (.nest (.int .i64) x16943 0 [])]⟩ (spec_l20Scores_n3 x16891 x16941 x16942 x16943) (Sum.elim (fun (t : Unit) => (Exit.normal, ⟨mkE 66 0 [(0, .ptr 0 0), (1, dI x16539), (5, dI x16891), (6, dI x16897), (7, .slc 1), (8, dI x16941)], [some (.box [dV x16540, dI x16942]), some (.nest (.int .i64) x16943 0 [])]⟩)) (fun (t : Int × (List (List Int))) => ((Exit.exit 0), ⟨mkE 66 0 [(0, .ptr 0 0), (1, dI x16539), (7, .slc 1)], [some (.box [dV x16540, dI t.1]), some (.nest (.int .i64) t.2 0 [])]⟩))) := by
  refine Link.of fun K h => ?_
  simp only [spec_l20Scores_n3, wpO_bind, wpO_cond, wpO_map, wpO_some] at h
  exact Awp.of (by kernel_rfl) h

theorem spec_l20Scores_n4_l (x16539 : Int) (x16891 : Int) (x16897 : Int) (x16941 : Int) (x16540 : List Int) (x16942 : Int) (x16943 : List (List Int)) : Link spec_l20Scores_ctx LL (cq [0,0,0,1,0,0,1,0,1,1,1,1] (bodyOf Try.f37)) (aq [0,0,0,1,0,0,1,0,1,1,1,1] spec_l20Scores_an) ⟨mkE 66 0 [(0, .ptr 0 0), (1, dI x16539), (5, dI x16891), (6, dI x16897), (7, .slc 1), (8, dI x16941)], [some (.box [dV x16540, dI x16942]), some (.nest (.int .i64) x16943 0 [])]⟩ (spec_l20Scores_n4) (fun (t : Unit) => (Exit.normal, ⟨mkE 66 0 [(0, .ptr 0 0), (1, dI x16539), (5, dI x16891), (6, dI x16897), (7, .slc 1), (8, dI x16941), (9, .slc 2)], [some (.box [dV x16540, dI x16942]), some (.nest (.int .i64) x16943 0 []), some (sI ([] : List Int))]⟩)) := by
  refine Link.of fun K h => ?_
  simp only [spec_l20Scores_n4, wpO_bind, wpO_cond, wpO_map, wpO_some] at h
  exact Awp.of (by kernel_rfl) h

theorem spec_l20Scores_n5_l (x16539 : Int) (x16891 : Int) (x16897 : Int) (x16941 : Int) (x16540 : List Int) (x16942 : Int) (x16943 : List (List Int)) : Link spec_l20Scores_ctx LL (cq [0,0,1,0,0,1,0,0,1,0,1,1,1,1] (bodyOf Try.f37)) (aq [0,0,1,0,0,1,0,0,1,0,1,1,1,1] spec_l20Scores_an) ⟨mkE 66 0 [(0, .ptr 0 0), (1, dI x16539), (5, dI x16891), (6, dI x16897), (7, .slc 1), (8, dI x16941), (9, .slc 2)], [some (.box [dV x16540, dI x16942]), some (.nest (.int .i64) x16943 0 []), some (sI ([] : List Int))]⟩ (spec_l20Scores_n5) (fun (t : Unit) => (Exit.normal, ⟨mkE 66 0 [(0, .ptr 0 0), (1, dI x16539), (5, dI x16891), (6, dI x16897), (7, .slc 1), (8, dI x16941), (9, .slc 2), (10, dI 0)], [some (.box [dV x16540, dI x16942]), some (.nest (.int .i64) x16943 0 []), some (sI ([] : List Int))]⟩)) := by
  refine Link.of fun K h => ?_
  simp only [spec_l20Scores_n5, wpO_bind, wpO_cond, wpO_map, wpO_some] at h
  exact Awp.of (by kernel_rfl) h

theorem spec_l20Scores_n6_l (x16539 : Int) (x16891 : Int) (x16897 : Int) (x16941 : Int) (x16963 : Int) (x16540 : List Int) (x16964 : Int) (x16943 : List (List Int)) (x16965 : List Int) : Link spec_l20Scores_ctx LL (cq [0,0,1,0,1,0,0,1,0,0,1,0,1,1,1,1] (bodyOf Try.f37)) (aq [0,0,1,0,1,0,0,1,0,0,1,0,1,1,1,1] spec_l20Scores_an) ⟨mkE 66 0 [(0, .ptr 0 0), (1, dI x16539), (5, dI x16891), (6, dI x16897), (7, .slc 1), (8, dI x16941), (9, .slc 2), (10, dI x16963)], [some (.box [dV x16540, dI x16964]), some (.nest (.int .i64) x16943 0 []), some (sI x16965)]⟩ (spec_l20Scores_n6 x16891 x16897 x16963 x16540 x16964 x16965) (Sum.elim (fun (t : Int × Int × (List Int)) => (Exit.normal, ⟨mkE 66 0 [(0, .ptr 0 0), (1, dI x16539), (5, dI x16891), (6, dI x16897), (7, .slc 1), (8, dI x16941), (9, .slc 2), (10, dI t.1)], [some (.box [dV x16540, dI t.2.1]), some (.nest (.int .i64) x16943 0 []), some (sI t.2.2)]⟩)) (fun (t : Int × (List Int)) => ((Exit.exit 2), ⟨mkE 66 0 [(0, .ptr 0 0), (1, dI x16539), (5, dI x16891), (6, dI x16897), (7, .slc 1), (8, dI x16941), (9, .slc 2)], [some (.box [dV x16540, dI t.1]), some (.nest (.int .i64) x16943 0 []), some (sI t.2)]⟩))) := by
  refine Link.of fun K h => ?_
  simp only [spec_l20Scores_n6, wpO_bind, wpO_cond, wpO_map, wpO_some] at h
  exact Awp.of (by kernel_rfl) h

def spec_l20Scores_n7_l (x16539 : Int) (x16891 : Int) (x16897 : Int) (x16941 : Int) (x16540 : List Int) (x16942 : Int) (x16943 : List (List Int)) := (link_loop (mk := fun (s : Int × Int × (List Int)) => ⟨mkE 66 0 [(0, .ptr 0 0), (1, dI x16539), (5, dI x16891), (6, dI x16897), (7, .slc 1), (8, dI x16941), (9, .slc 2), (10, dI s.1)], [some (.box [dV x16540, dI s.2.1]), some (.nest (.int .i64) x16943 0 []), some (sI s.2.2)]⟩) (fin := (fun (t : Int × (List Int)) => ((Exit.exit 2), ⟨mkE 66 0 [(0, .ptr 0 0), (1, dI x16539), (5, dI x16891), (6, dI x16897), (7, .slc 1), (8, dI x16941), (9, .slc 2)], [some (.box [dV x16540, dI t.1]), some (.nest (.int .i64) x16943 0 []), some (sI t.2)]⟩))) (by
  rintro t f K h
  · exact h) (fun s => link_map (spec_l20Scores_n6_l x16539 x16891 x16897 x16941 s.1 x16540 s.2.1 x16943 s.2.2) (Sum.elim (fun (t : Int × Int × (List Int)) => Sum.inl (t.1, t.2.1, t.2.2)) (fun (t : Int × (List Int)) => Sum.inr t)) (by
  rintro (t | t)
  · kernel_rfl
  · kernel_rfl)) (0, x16942, ([] : List Int)))

def spec_l20Scores_n8_l (x16539 : Int) (x16891 : Int) (x16897 : Int) (x16941 : Int) (x16540 : List Int) (x16942 : Int) (x16943 : List (List Int)) := (link_block (fin2 := (fun (t : Int × (List Int)) => (Exit.normal, ⟨mkE 66 0 [(0, .ptr 0 0), (1, dI x16539), (5, dI x16891), (6, dI x16897), (7, .slc 1), (8, dI x16941), (9, .slc 2)], [some (.box [dV x16540, dI t.1]), some (.nest (.int .i64) x16943 0 []), some (sI t.2)]⟩))) (id := 2) (spec_l20Scores_n7_l x16539 x16891 x16897 x16941 x16540 x16942 x16943) (fun (t : Int × (List Int)) => (t.1, t.2)) (by
  rintro t K h
  · exact Eq.mp (by kernel_rfl) h))

def spec_l20Scores_n9_l (x16539 : Int) (x16891 : Int) (x16897 : Int) (x16941 : Int) (x16540 : List Int) (x16942 : Int) (x16943 : List (List Int)) := (link_seq (spec_l20Scores_n5_l x16539 x16891 x16897 x16941 x16540 x16942 x16943) (fun (t : Unit) => (spec_l20Scores_n8_l x16539 x16891 x16897 x16941 x16540 x16942 x16943)))

theorem spec_l20Scores_n10_l (x16539 : Int) (x16891 : Int) (x16897 : Int) (x16941 : Int) (x16540 : List Int) (x16964 : Int) (x16943 : List (List Int)) (x16965 : List Int) : Link spec_l20Scores_ctx LL (cq [1,1,0,0,1,0,0,1,0,1,1,1,1] (bodyOf Try.f37)) (aq [1,1,0,0,1,0,0,1,0,1,1,1,1] spec_l20Scores_an) ⟨mkE 66 0 [(0, .ptr 0 0), (1, dI x16539), (5, dI x16891), (6, dI x16897), (7, .slc 1), (8, dI x16941), (9, .slc 2)], [some (.box [dV x16540, dI x16964]), some (.nest (.int .i64) x16943 0 []), some (sI x16965)]⟩ (spec_l20Scores_n10 x16943 x16965) (fun (t : (List (List Int))) => (Exit.normal, ⟨mkE 66 0 [(0, .ptr 0 0), (1, dI x16539), (5, dI x16891), (6, dI x16897), (7, .slc 1), (8, dI x16941)], [some (.box [dV x16540, dI x16964]), some (.nest (.int .i64) t 0 [])]⟩)) := by
  refine Link.of fun K h => ?_
  simp only [spec_l20Scores_n10, wpO_bind, wpO_cond, wpO_map, wpO_some] at h
  exact Awp.of (by kernel_rfl) h

def spec_l20Scores_n11_l (x16539 : Int) (x16891 : Int) (x16897 : Int) (x16941 : Int) (x16540 : List Int) (x16942 : Int) (x16943 : List (List Int)) := (link_seq (spec_l20Scores_n9_l x16539 x16891 x16897 x16941 x16540 x16942 x16943) (fun (t : Int × (List Int)) => (link_map (fin2 := (fun (t : Int × (List (List Int))) => (Exit.normal, ⟨mkE 66 0 [(0, .ptr 0 0), (1, dI x16539), (5, dI x16891), (6, dI x16897), (7, .slc 1), (8, dI x16941)], [some (.box [dV x16540, dI t.1]), some (.nest (.int .i64) t.2 0 [])]⟩))) (spec_l20Scores_n10_l x16539 x16891 x16897 x16941 x16540 t.1 x16943 t.2) (fun (u : (List (List Int))) => (t.1, u)) (by
  rintro t
  · kernel_rfl))))

def spec_l20Scores_n12_l (x16539 : Int) (x16891 : Int) (x16897 : Int) (x16941 : Int) (x16540 : List Int) (x16942 : Int) (x16943 : List (List Int)) := (link_seq (spec_l20Scores_n4_l x16539 x16891 x16897 x16941 x16540 x16942 x16943) (fun (t : Unit) => (spec_l20Scores_n11_l x16539 x16891 x16897 x16941 x16540 x16942 x16943)))

def spec_l20Scores_n13_l (x16539 : Int) (x16891 : Int) (x16897 : Int) (x16941 : Int) (x16540 : List Int) (x16942 : Int) (x16943 : List (List Int)) := (link_block (fin2 := (fun (t : Int × (List (List Int))) => (Exit.normal, ⟨mkE 66 0 [(0, .ptr 0 0), (1, dI x16539), (5, dI x16891), (6, dI x16897), (7, .slc 1), (8, dI x16941)], [some (.box [dV x16540, dI t.1]), some (.nest (.int .i64) t.2 0 [])]⟩))) (id := 1) (spec_l20Scores_n12_l x16539 x16891 x16897 x16941 x16540 x16942 x16943) (fun (t : Int × (List (List Int))) => (t.1, t.2)) (by
  rintro t K h
  · exact Eq.mp (by kernel_rfl) h))

theorem spec_l20Scores_n14_l (x16539 : Int) (x16891 : Int) (x16897 : Int) (x16941 : Int) (x16540 : List Int) (x16964 : Int) (x16985 : List (List Int)) : Link spec_l20Scores_ctx LL (cq [1,1,0,0,1,0,1,1,1,1] (bodyOf Try.f37)) (aq [1,1,0,0,1,0,1,1,1,1] spec_l20Scores_an) ⟨mkE 66 0 [(0, .ptr 0 0), (1, dI x16539), (5, dI x16891), (6, dI x16897), (7, .slc 1), (8, dI x16941)], [some (.box [dV x16540, dI x16964]), some (.nest (.int .i64) x16985 0 [])]⟩ (spec_l20Scores_n14 x16941) (fun (t : Int) => (Exit.normal, ⟨mkE 66 0 [(0, .ptr 0 0), (1, dI x16539), (5, dI x16891), (6, dI x16897), (7, .slc 1), (8, dI t)], [some (.box [dV x16540, dI x16964]), some (.nest (.int .i64) x16985 0 [])]⟩)) := by
  refine Link.of fun K h => ?_
  simp only [spec_l20Scores_n14, wpO_bind, wpO_cond, wpO_map, wpO_some] at h
  exact Awp.of (by kernel_rfl) h

def spec_l20Scores_n15_l (x16539 : Int) (x16891 : Int) (x16897 : Int) (x16941 : Int) (x16540 : List Int) (x16942 : Int) (x16943 : List (List Int)) := (link_seq (spec_l20Scores_n13_l x16539 x16891 x16897 x16941 x16540 x16942 x16943) (fun (t : Int × (List (List Int))) => (link_map (fin2 := (fun (t : Int × Int × (List (List Int))) => (Exit.normal, ⟨mkE 66 0 [(0, .ptr 0 0), (1, dI x16539), (5, dI x16891), (6, dI x16897), (7, .slc 1), (8, dI t.1)], [some (.box [dV x16540, dI t.2.1]), some (.nest (.int .i64) t.2.2 0 [])]⟩))) (spec_l20Scores_n14_l x16539 x16891 x16897 x16941 x16540 t.1 t.2) (fun (u : Int) => (u, t.1, t.2)) (by
  rintro t
  · kernel_rfl))))

def spec_l20Scores_n16_l (x16539 : Int) (x16891 : Int) (x16897 : Int) (x16941 : Int) (x16540 : List Int) (x16942 : Int) (x16943 : List (List Int)) := (link_seq2 (spec_l20Scores_n3_l x16539 x16891 x16897 x16941 x16540 x16942 x16943) (fun (t : Unit) => (link_map (fin2 := (Sum.elim (fun (t : Int × Int × (List (List Int))) => (Exit.normal, ⟨mkE 66 0 [(0, .ptr 0 0), (1, dI x16539), (5, dI x16891), (6, dI x16897), (7, .slc 1), (8, dI t.1)], [some (.box [dV x16540, dI t.2.1]), some (.nest (.int .i64) t.2.2 0 [])]⟩)) (fun (t : Int × (List (List Int))) => ((Exit.exit 0), ⟨mkE 66 0 [(0, .ptr 0 0), (1, dI x16539), (7, .slc 1)], [some (.box [dV x16540, dI t.1]), some (.nest (.int .i64) t.2 0 [])]⟩)))) (spec_l20Scores_n15_l x16539 x16891 x16897 x16941 x16540 x16942 x16943) (fun (t : Int × Int × (List (List Int))) => (Sum.inl (t.1, t.2.1, t.2.2))) (by
  rintro t
  · kernel_rfl))) (fun (t : Int × (List (List Int))) => (Sum.inr t)) (by
  rintro t
  · kernel_rfl) (by
  rintro t f K h
  · exact h))

def spec_l20Scores_n17_l (x16539 : Int) (x16891 : Int) (x16897 : Int) (x16540 : List Int) (x16895 : Int) := (link_loop (mk := fun (s : Int × Int × (List (List Int))) => ⟨mkE 66 0 [(0, .ptr 0 0), (1, dI x16539), (5, dI x16891), (6, dI x16897), (7, .slc 1), (8, dI s.1)], [some (.box [dV x16540, dI s.2.1]), some (.nest (.int .i64) s.2.2 0 [])]⟩) (fin := (fun (t : Int × (List (List Int))) => ((Exit.exit 0), ⟨mkE 66 0 [(0, .ptr 0 0), (1, dI x16539), (7, .slc 1)], [some (.box [dV x16540, dI t.1]), some (.nest (.int .i64) t.2 0 [])]⟩))) (by
  rintro t f K h
  · exact h) (fun s => link_map (spec_l20Scores_n16_l x16539 x16891 x16897 s.1 x16540 s.2.1 s.2.2) (Sum.elim (fun (t : Int × Int × (List (List Int))) => Sum.inl (t.1, t.2.1, t.2.2)) (fun (t : Int × (List (List Int))) => Sum.inr t)) (by
  rintro (t | t)
  · kernel_rfl
  · kernel_rfl)) (0, x16895, ([] : List (List Int))))

def spec_l20Scores_n18_l (x16539 : Int) (x16891 : Int) (x16897 : Int) (x16540 : List Int) (x16895 : Int) := (link_block (fin2 := (fun (t : Int × (List (List Int))) => (Exit.normal, ⟨mkE 66 0 [(0, .ptr 0 0), (1, dI x16539), (7, .slc 1)], [some (.box [dV x16540, dI t.1]), some (.nest (.int .i64) t.2 0 [])]⟩))) (id := 0) (spec_l20Scores_n17_l x16539 x16891 x16897 x16540 x16895) (fun (t : Int × (List (List Int))) => (t.1, t.2)) (by
  rintro t K h
  · exact Eq.mp (by kernel_rfl) h))

def spec_l20Scores_n19_l (x16539 : Int) (x16891 : Int) (x16897 : Int) (x16540 : List Int) (x16895 : Int) := (link_seq (spec_l20Scores_n2_l x16539 x16891 x16897 x16540 x16895) (fun (t : Unit) => (spec_l20Scores_n18_l x16539 x16891 x16897 x16540 x16895)))

theorem spec_l20Scores_n20_l (x16539 : Int) (x16540 : List Int) (x16942 : Int) (x16943 : List (List Int)) : Link spec_l20Scores_ctx LL (cq [1,1,1,1,1] (bodyOf Try.f37)) (aq [1,1,1,1,1] spec_l20Scores_an) ⟨mkE 66 0 [(0, .ptr 0 0), (1, dI x16539), (7, .slc 1)], [some (.box [dV x16540, dI x16942]), some (.nest (.int .i64) x16943 0 [])]⟩ (spec_l20Scores_n20 x16539 x16540 x16942 x16943) (fun (t : Int × (List (List Int))) => (Exit.ret, ⟨mkE 66 0 [(4, .slc 1)], [some (.box [dV x16540, dI t.1]), some (.nest (.int .i64) t.2 0 [])]⟩)) := by
  refine Link.of fun K h => ?_
  simp only [spec_l20Scores_n20, wpO_bind, wpO_cond, wpO_map, wpO_some] at h
  exact Awp.of (by kernel_rfl) h

def spec_l20Scores_n21_l (x16539 : Int) (x16891 : Int) (x16897 : Int) (x16540 : List Int) (x16895 : Int) := (link_seq (spec_l20Scores_n19_l x16539 x16891 x16897 x16540 x16895) (fun (t : Int × (List (List Int))) => (spec_l20Scores_n20_l x16539 x16540 t.1 t.2)))

def spec_l20Scores_n22_l (x16539 : Int) (x16540 : List Int) (x16541 : Int) := (link_group (c := (cq [0,1,1,1] (bodyOf Try.f37))) (a := (aq [0,1,1,1] spec_l20Scores_an)) [(cq [0] (bodyOf Try.f37)), (cq [0,1] (bodyOf Try.f37)), (cq [0,1,1] (bodyOf Try.f37))] [(aq [0] spec_l20Scores_an), (aq [0,1] spec_l20Scores_an), (aq [0,1,1] spec_l20Scores_an)] rfl (link_seq (spec_l20Scores_n1_l x16539 x16540 x16541) (fun (t : Int × Int × Int) => (spec_l20Scores_n21_l x16539 t.1 t.2.1 x16540 t.2.2))))

theorem spec_l20Scores_e (x16539 : Int) (x16540 : List Int) (x16541 : Int) {r : AV} {H' : Heap} (h : (Ans.mk _ (spec_l20Scores x16539 x16540 x16541) (fun (t : Int × (List (List Int))) => (.slc 1, [some (.box [dV x16540, dI t.1]), some (.nest (.int .i64) t.2 0 [])])) [] none).run = some (r, H')) : Awp spec_l20Scores_ctx LL (bodyOf Try.f37) spec_l20Scores_an ⟨mkE 66 0 [(0, .ptr 0 0), (1, dI x16539)], [some (.box [dV x16540, dI x16541])]⟩ (Ret (tlook tys) Try.f37.results.toList r H') :=
  ret_of' (Link.cast (by kernel_rfl) (by kernel_rfl) (spec_l20Scores_n22_l x16539 x16540 x16541)) (by unfold spec_l20Scores; kernel_rfl) (by
  intro t
  exact ret_mk [.slc 1] (by kernel_rfl) (by kernel_rfl) (by kernel_rfl) (by kernel_rfl)) h

def F_spec_l20Scores : Fun := fun avs H =>
  match avs, H with
  | [.ptr 0 0, .dat (.int .i64) x16539], [some (.box [.dat (.list (.int .u8)) x16540, .dat (.int .i64) x16541])] => ⟨_, spec_l20Scores x16539 x16540 x16541, fun (t : Int × (List (List Int))) => (.slc 1, [some (.box [dV x16540, dI t.1]), some (.nest (.int .i64) t.2 0 [])]), [], none⟩
  | _, _ => Ans.no

theorem spec_l20Scores_sound : Sound Try.prog 37 F_spec_l20Scores := by
  refine fn_sound' (C := spec_l20Scores_ctx) (c := bodyOf Try.f37) (cok_of tys_ok (allc spec_l20Rd_pick_sound (allc spec_l20Rd_odd_sound alln)) (allc Try.call51 (allc Try.call58 alln)) (by kernel_rfl)) Try.func37 (by kernel_rfl) LL spec_l20Scores_an ?_
  intro avs H r H' h
  unfold F_spec_l20Scores at h
  split at h
  · refine Awp.cast ?_ ?_ ?_ (spec_l20Scores_e _ _ _ h) <;> kernel_rfl
  · simp [Ans.no, Ans.run] at h


/-! loop.example/headtrees/spec.DrawScoresOk -/

def spec_DrawScoresOk_an : Ann := (.seq (.leaf [0]) (.seq (.leaf [2]) (.leaf [2])))

noncomputable def spec_DrawScoresOk_ctx : Ctx := ⟨tlook tys, olook [(38, F_spec_l20Open), (37, F_spec_l20Scores)], ioF, 0, true, []⟩

theorem spec_DrawScoresOk_n1_l (x16520 : List Int) : Link spec_DrawScoresOk_ctx LL (bodyOf Try.f12) spec_DrawScoresOk_an ⟨mkE 6 0 [(0, dV x16520)], []⟩ (spec_DrawScoresOk_n1 x16520) (fun (t : (List (List Int))) => (Exit.ret, ⟨mkE 6 0 [(2, .slc 0)], [some (.nest (.int .i64) t 0 [])]⟩)) := by
  refine Link.of fun K h => ?_
  simp only [spec_DrawScoresOk_n1, wpO_bind, wpO_cond, wpO_map, wpO_some] at h
  exact Awp.of (by kernel_rfl) h

theorem spec_DrawScoresOk_e (x16520 : List Int) {r : AV} {H' : Heap} (h : (Ans.mk _ (spec_DrawScoresOk x16520) (fun (t : (List (List Int))) => (.slc 0, [some (.nest (.int .i64) t 0 [])])) [] none).run = some (r, H')) : Awp spec_DrawScoresOk_ctx LL (bodyOf Try.f12) spec_DrawScoresOk_an ⟨mkE 6 0 [(0, dV x16520)], []⟩ (Ret (tlook tys) Try.f12.results.toList r H') :=
  ret_of' (spec_DrawScoresOk_n1_l x16520) (by unfold spec_DrawScoresOk; kernel_rfl) (by
  intro t
  exact ret_mk [.slc 0] (by kernel_rfl) (by kernel_rfl) (by kernel_rfl) (by kernel_rfl)) h

def F_spec_DrawScoresOk : Fun := fun avs H =>
  match avs, H with
  | [.dat (.list (.int .u8)) x16520], [] => ⟨_, spec_DrawScoresOk x16520, fun (t : (List (List Int))) => (.slc 0, [some (.nest (.int .i64) t 0 [])]), [], none⟩
  | _, _ => Ans.no

theorem spec_DrawScoresOk_sound : Sound Try.prog 12 F_spec_DrawScoresOk := by
  refine fn_sound' (C := spec_DrawScoresOk_ctx) (c := bodyOf Try.f12) (cok_of tys_ok (allc spec_l20Open_sound (allc spec_l20Scores_sound alln)) (allc Try.call38 (allc Try.call37 alln)) (by kernel_rfl)) Try.func12 (by kernel_rfl) LL spec_DrawScoresOk_an ?_
  intro avs H r H' h
  unfold F_spec_DrawScoresOk at h
  split at h
  · refine Awp.cast ?_ ?_ ?_ (spec_DrawScoresOk_e _ h) <;> kernel_rfl
  · simp [Ans.no, Ans.run] at h


/-! slices.Min[[]int,int] -/

def slices_Min_int_int_an : Ann := (.seq (.leaf [0]) (.seq (.seq (.leaf [0, 7]) (.cond (.leaf [0]) (.leaf [0]))) (.seq (.leaf [0, 3]) (.seq (.seq (.leaf [0, 3, 4]) (.block (.loop (.seq (.seq (.leaf [0, 3, 4, 15]) (.cond (.leaf [0, 3, 4]) (.leaf [3]))) (.seq (.block (.leaf [0, 3, 4])) (.leaf [0, 3, 4])))))) (.seq (.leaf [2]) (.leaf [2]))))))

noncomputable def slices_Min_int_int_ctx : Ctx := ⟨tlook tys, olook [], ioF, 0, false, []⟩

theorem slices_Min_int_int_n1_l (x17091 : List Int) : Link slices_Min_int_int_ctx LL (Code.seq (cq [0] (bodyOf Try.f59)) (Code.seq (cq [0,1] (bodyOf Try.f59)) (cq [0,1,1] (bodyOf Try.f59)))) (Ann.seq (aq [0] slices_Min_int_int_an) (Ann.seq (aq [0,1] slices_Min_int_int_an) (aq [0,1,1] slices_Min_int_int_an))) ⟨mkE 25 0 [(0, dL x17091)], []⟩ (slices_Min_int_int_n1 x17091) (fun (t : Int) => (Exit.normal, ⟨mkE 25 0 [(0, dL x17091), (3, dI t)], []⟩)) := by
  refine Link.of fun K h => ?_
  simp only [slices_Min_int_int_n1, wpO_bind, wpO_cond, wpO_map, wpO_some, wpO_none] at h
  exact Awp.of (by kernel_rfl) h

theorem slices_Min_int_int_n2_l (x17091 : List Int) (x17096 : Int) : Link slices_Min_int_int_ctx LL (cq [0,0,1,1,1] (bodyOf Try.f59)) (aq [0,0,1,1,1] slices_Min_int_int_an) ⟨mkE 25 0 [(0, dL x17091), (3, dI x17096)], []⟩ (slices_Min_int_int_n2) (fun (t : Unit) => (Exit.normal, ⟨mkE 25 0 [(0, dL x17091), (3, dI x17096), (4, dI 1)], []⟩)) := by
  refine Link.of fun K h => ?_
  simp only [slices_Min_int_int_n2, wpO_bind, wpO_cond, wpO_map, wpO_some] at h
  exact Awp.of (by kernel_rfl) h

theorem slices_Min_int_int_n3_l (x17091 : List Int) (x17108 : Int) (x17109 : Int) : Link slices_Min_int_int_ctx LL (cq [0,0,1,0,1,1,1] (bodyOf Try.f59)) (aq [0,0,1,0,1,1,1] slices_Min_int_int_an) ⟨mkE 25 0 [(0, dL x17091), (3, dI x17108), (4, dI x17109)], []⟩ (slices_Min_int_int_n3 x17091 x17108 x17109) (Sum.elim (fun (t : Int × Int) => (Exit.normal, ⟨mkE 25 0 [(0, dL x17091), (3, dI t.1), (4, dI t.2)], []⟩)) (fun (t : Int) => ((Exit.exit 0), ⟨mkE 25 0 [(3, dI t)], []⟩))) := by
  refine Link.of fun K h => ?_
  simp only [slices_Min_int_int_n3, wpO_bind, wpO_cond, wpO_map, wpO_some] at h
  exact Awp.of (by kernel_rfl) h

def slices_Min_int_int_n4_l (x17091 : List Int) (x17096 : Int) := (link_loop (mk := fun (s : Int × Int) => ⟨mkE 25 0 [(0, dL x17091), (3, dI s.1), (4, dI s.2)], []⟩) (fin := (fun (t : Int) => ((Exit.exit 0), ⟨mkE 25 0 [(3, dI t)], []⟩))) (by
  rintro t f K h
  · exact h) (fun s => link_map (slices_Min_int_int_n3_l x17091 s.1 s.2) (Sum.elim (fun (t : Int × Int) => Sum.inl (t.1, t.2)) (fun (t : Int) => Sum.inr t)) (by
  rintro (t | t)
  · kernel_rfl
  · kernel_rfl)) (x17096, 1))

def slices_Min_int_int_n5_l (x17091 : List Int) (x17096 : Int) := (link_block (fin2 := (fun (t : Int) => (Exit.normal, ⟨mkE 25 0 [(3, dI t)], []⟩))) (id := 0) (slices_Min_int_int_n4_l x17091 x17096) (fun (t : Int) => t) (by
  rintro t K h
  · exact Eq.mp (by kernel_rfl) h))

def slices_Min_int_int_n6_l (x17091 : List Int) (x17096 : Int) := (link_seq (slices_Min_int_int_n2_l x17091 x17096) (fun (t : Unit) => (slices_Min_int_int_n5_l x17091 x17096)))

theorem slices_Min_int_int_n7_l (x17108 : Int) : Link slices_Min_int_int_ctx LL (cq [1,1,1,1] (bodyOf Try.f59)) (aq [1,1,1,1] slices_Min_int_int_an) ⟨mkE 25 0 [(3, dI x17108)], []⟩ (slices_Min_int_int_n7 x17108) (fun (t : Int) => (Exit.ret, ⟨mkE 25 0 [(2, dI t)], []⟩)) := by
  refine Link.of fun K h => ?_
  simp only [slices_Min_int_int_n7, wpO_bind, wpO_cond, wpO_map, wpO_some] at h
  exact Awp.of (by kernel_rfl) h

def slices_Min_int_int_n8_l (x17091 : List Int) (x17096 : Int) := (link_seq (slices_Min_int_int_n6_l x17091 x17096) (fun (t : Int) => (slices_Min_int_int_n7_l t)))

def slices_Min_int_int_n9_l (x17091 : List Int) := (link_group (c := (cq [0,1,1] (bodyOf Try.f59))) (a := (aq [0,1,1] slices_Min_int_int_an)) [(cq [0] (bodyOf Try.f59)), (cq [0,1] (bodyOf Try.f59))] [(aq [0] slices_Min_int_int_an), (aq [0,1] slices_Min_int_int_an)] rfl (link_seq (slices_Min_int_int_n1_l x17091) (fun (t : Int) => (slices_Min_int_int_n8_l x17091 t))))

theorem slices_Min_int_int_e (x17091 : List Int) {r : AV} {H' : Heap} (h : (Ans.mk _ (slices_Min_int_int x17091) (fun (t : Int) => (dI t, [])) [] none).run = some (r, H')) : Awp slices_Min_int_int_ctx LL (bodyOf Try.f59) slices_Min_int_int_an ⟨mkE 25 0 [(0, dL x17091)], []⟩ (Ret (tlook tys) Try.f59.results.toList r H') :=
  ret_of' (Link.cast (by kernel_rfl) (by kernel_rfl) (slices_Min_int_int_n9_l x17091)) (by unfold slices_Min_int_int; kernel_rfl) (by
  intro t
  exact ret_mk [dI t] (by kernel_rfl) (by kernel_rfl) (by kernel_rfl) (by kernel_rfl)) h

def F_slices_Min_int_int : Fun := fun avs H =>
  match avs, H with
  | [.dat (.list (.int .i64)) x17091], [] => ⟨_, slices_Min_int_int x17091, fun (t : Int) => (dI t, []), [], none⟩
  | _, _ => Ans.no

theorem slices_Min_int_int_sound : Sound Try.prog 59 F_slices_Min_int_int := by
  refine fn_sound' (C := slices_Min_int_int_ctx) (c := bodyOf Try.f59) (cok_of tys_ok (alln) (alln) (by kernel_rfl)) Try.func59 (by kernel_rfl) LL slices_Min_int_int_an ?_
  intro avs H r H' h
  unfold F_slices_Min_int_int at h
  split at h
  · refine Awp.cast ?_ ?_ ?_ (slices_Min_int_int_e _ h) <;> kernel_rfl
  · simp [Ans.no, Ans.run] at h


/-! slices.Max[[]int,int] -/

def slices_Max_int_int_an : Ann := (.seq (.leaf [0]) (.seq (.seq (.leaf [0, 7]) (.cond (.leaf [0]) (.leaf [0]))) (.seq (.leaf [0, 3]) (.seq (.seq (.leaf [0, 3, 4]) (.block (.loop (.seq (.seq (.leaf [0, 3, 4, 15]) (.cond (.leaf [0, 3, 4]) (.leaf [3]))) (.seq (.block (.leaf [0, 3, 4])) (.leaf [0, 3, 4])))))) (.seq (.leaf [2]) (.leaf [2]))))))

noncomputable def slices_Max_int_int_ctx : Ctx := ⟨tlook tys, olook [], ioF, 0, false, []⟩

theorem slices_Max_int_int_n1_l (x17123 : List Int) : Link slices_Max_int_int_ctx LL (Code.seq (cq [0] (bodyOf Try.f60)) (Code.seq (cq [0,1] (bodyOf Try.f60)) (cq [0,1,1] (bodyOf Try.f60)))) (Ann.seq (aq [0] slices_Max_int_int_an) (Ann.seq (aq [0,1] slices_Max_int_int_an) (aq [0,1,1] slices_Max_int_int_an))) ⟨mkE 25 0 [(0, dL x17123)], []⟩ (slices_Max_int_int_n1 x17123) (fun (t : Int) => (Exit.normal, ⟨mkE 25 0 [(0, dL x17123), (3, dI t)], []⟩)) := by
  refine Link.of fun K h => ?_
  simp only [slices_Max_int_int_n1, wpO_bind, wpO_cond, wpO_map, wpO_some, wpO_none] at h
  exact Awp.of (by kernel_rfl) h

theorem slices_Max_int_int_n2_l (x17123 : List Int) (x17128 : Int) : Link slices_Max_int_int_ctx LL (cq [0,0,1,1,1] (bodyOf Try.f60)) (aq [0,0,1,1,1] slices_Max_int_int_an) ⟨mkE 25 0 [(0, dL x17123), (3, dI x17128)], []⟩ (slices_Max_int_int_n2) (fun (t : Unit) => (Exit.normal, ⟨mkE 25 0 [(0, dL x17123), (3, dI x17128), (4, dI 1)], []⟩)) := by
  refine Link.of fun K h => ?_
  simp only [slices_Max_int_int_n2, wpO_bind, wpO_cond, wpO_map, wpO_some] at h
  exact Awp.of (by kernel_rfl) h

theorem slices_Max_int_int_n3_l (x17123 : List Int) (x17140 : Int) (x17141 : Int) : Link slices_Max_int_int_ctx LL (cq [0,0,1,0,1,1,1] (bodyOf Try.f60)) (aq [0,0,1,0,1,1,1] slices_Max_int_int_an) ⟨mkE 25 0 [(0, dL x17123), (3, dI x17140), (4, dI x17141)], []⟩ (slices_Max_int_int_n3 x17123 x17140 x17141) (Sum.elim (fun (t : Int × Int) => (Exit.normal, ⟨mkE 25 0 [(0, dL x17123), (3, dI t.1), (4, dI t.2)], []⟩)) (fun (t : Int) => ((Exit.exit 0), ⟨mkE 25 0 [(3, dI t)], []⟩))) := by
  refine Link.of fun K h => ?_
  simp only [slices_Max_int_int_n3, wpO_bind, wpO_cond, wpO_map, wpO_some] at h
  exact Awp.of (by kernel_rfl) h

def slices_Max_int_int_n4_l (x17123 : List Int) (x17128 : Int) := (link_loop (mk := fun (s : Int × Int) => ⟨mkE 25 0 [(0, dL x17123), (3, dI s.1), (4, dI s.2)], []⟩) (fin := (fun (t : Int) => ((Exit.exit 0), ⟨mkE 25 0 [(3, dI t)], []⟩))) (by
  rintro t f K h
  · exact h) (fun s => link_map (slices_Max_int_int_n3_l x17123 s.1 s.2) (Sum.elim (fun (t : Int × Int) => Sum.inl (t.1, t.2)) (fun (t : Int) => Sum.inr t)) (by
  rintro (t | t)
  · kernel_rfl
  · kernel_rfl)) (x17128, 1))

def slices_Max_int_int_n5_l (x17123 : List Int) (x17128 : Int) := (link_block (fin2 := (fun (t : Int) => (Exit.normal, ⟨mkE 25 0 [(3, dI t)], []⟩))) (id := 0) (slices_Max_int_int_n4_l x17123 x17128) (fun (t : Int) => t) (by
  rintro t K h
  · exact Eq.mp (by kernel_rfl) h))

def slices_Max_int_int_n6_l (x17123 : List Int) (x17128 : Int) := (link_seq (slices_Max_int_int_n2_l x17123 x17128) (fun (t : Unit) => (slices_Max_int_int_n5_l x17123 x17128)))

theorem slices_Max_int_int_n7_l (x17140 : Int) : Link slices_Max_int_int_ctx LL (cq [1,1,1,1] (bodyOf Try.f60)) (aq [1,1,1,1] slices_Max_int_int_an) ⟨mkE 25 0 [(3, dI x17140)], []⟩ (slices_Max_int_int_n7 x17140) (fun (t : Int) => (Exit.ret, ⟨mkE 25 0 [(2, dI t)], []⟩)) := by
  refine Link.of fun K h => ?_
  simp only [slices_Max_int_int_n7, wpO_bind, wpO_cond, wpO_map, wpO_some] at h
  exact Awp.of (by kernel_rfl) h

def slices_Max_int_int_n8_l (x17123 : List Int) (x17128 : Int) := (link_seq (slices_Max_int_int_n6_l x17123 x17128) (fun (t : Int) => (slices_Max_int_int_n7_l t)))

def slices_Max_int_int_n9_l (x17123 : List Int) := (link_group (c := (cq [0,1,1] (bodyOf Try.f60))) (a := (aq [0,1,1] slices_Max_int_int_an)) [(cq [0] (bodyOf Try.f60)), (cq [0,1] (bodyOf Try.f60))] [(aq [0] slices_Max_int_int_an), (aq [0,1] slices_Max_int_int_an)] rfl (link_seq (slices_Max_int_int_n1_l x17123) (fun (t : Int) => (slices_Max_int_int_n8_l x17123 t))))

theorem slices_Max_int_int_e (x17123 : List Int) {r : AV} {H' : Heap} (h : (Ans.mk _ (slices_Max_int_int x17123) (fun (t : Int) => (dI t, [])) [] none).run = some (r, H')) : Awp slices_Max_int_int_ctx LL (bodyOf Try.f60) slices_Max_int_int_an ⟨mkE 25 0 [(0, dL x17123)], []⟩ (Ret (tlook tys) Try.f60.results.toList r H') :=
  ret_of' (Link.cast (by kernel_rfl) (by kernel_rfl) (slices_Max_int_int_n9_l x17123)) (by unfold slices_Max_int_int; kernel_rfl) (by
  intro t
  exact ret_mk [dI t] (by kernel_rfl) (by kernel_rfl) (by kernel_rfl) (by kernel_rfl)) h

def F_slices_Max_int_int : Fun := fun avs H =>
  match avs, H with
  | [.dat (.list (.int .i64)) x17123], [] => ⟨_, slices_Max_int_int x17123, fun (t : Int) => (dI t, []), [], none⟩
  | _, _ => Ans.no

theorem slices_Max_int_int_sound : Sound Try.prog 60 F_slices_Max_int_int := by
  refine fn_sound' (C := slices_Max_int_int_ctx) (c := bodyOf Try.f60) (cok_of tys_ok (alln) (alln) (by kernel_rfl)) Try.func60 (by kernel_rfl) LL slices_Max_int_int_an ?_
  intro avs H r H' h
  unfold F_slices_Max_int_int at h
  split at h
  · refine Awp.cast ?_ ?_ ?_ (slices_Max_int_int_e _ h) <;> kernel_rfl
  · simp [Ans.no, Ans.run] at h


/-! loop.example/headtrees/impl.scoreRowOk -/

def impl_scoreRowOk_an : Ann := (.seq (.leaf [0, 1]) (.seq (.leaf [4]) (.leaf [4])))

noncomputable def impl_scoreRowOk_ctx : Ctx := ⟨tlook tys, olook [(59, F_slices_Min_int_int), (60, F_slices_Max_int_int)], ioF, 0, false, []⟩

theorem impl_scoreRowOk_n1_l (x17086 : List Int) (x17087 : Int) : Link impl_scoreRowOk_ctx LL (bodyOf Try.f39) impl_scoreRowOk_an ⟨mkE 20 0 [(0, dL x17086), (1, dI x17087)], []⟩ (impl_scoreRowOk_n1 x17086 x17087) (fun (t : Bool) => (Exit.ret, ⟨mkE 20 0 [(4, dB t)], []⟩)) := by
  refine Link.of fun K h => ?_
  simp only [impl_scoreRowOk_n1, wpO_bind, wpO_cond, wpO_map, wpO_some] at h
  exact Awp.of (by kernel_rfl) h

theorem impl_scoreRowOk_e (x17086 : List Int) (x17087 : Int) {r : AV} {H' : Heap} (h : (Ans.mk _ (impl_scoreRowOk x17086 x17087) (fun (t : Bool) => (dB t, [])) [] none).run = some (r, H')) : Awp impl_scoreRowOk_ctx LL (bodyOf Try.f39) impl_scoreRowOk_an ⟨mkE 20 0 [(0, dL x17086), (1, dI x17087)], []⟩ (Ret (tlook tys) Try.f39.results.toList r H') :=
  ret_of' (impl_scoreRowOk_n1_l x17086 x17087) (by unfold impl_scoreRowOk; kernel_rfl) (by
  intro t
  exact ret_mk [dB t] (by kernel_rfl) (by kernel_rfl) (by kernel_rfl) (by kernel_rfl)) h

def F_impl_scoreRowOk : Fun := fun avs H =>
  match avs, H with
  | [.dat (.list (.int .i64)) x17086, .dat (.int .i64) x17087], [] => ⟨_, impl_scoreRowOk x17086 x17087, fun (t : Bool) => (dB t, []), [], none⟩
  | _, _ => Ans.no

theorem impl_scoreRowOk_sound : Sound Try.prog 39 F_impl_scoreRowOk := by
  refine fn_sound' (C := impl_scoreRowOk_ctx) (c := bodyOf Try.f39) (cok_of tys_ok (allc slices_Min_int_int_sound (allc slices_Max_int_int_sound alln)) (allc Try.call59 (allc Try.call60 alln)) (by kernel_rfl)) Try.func39 (by kernel_rfl) LL impl_scoreRowOk_an ?_
  intro avs H r H' h
  unfold F_impl_scoreRowOk at h
  split at h
  · refine Awp.cast ?_ ?_ ?_ (impl_scoreRowOk_e _ _ h) <;> kernel_rfl
  · simp [Ans.no, Ans.run] at h


/-! loop.example/headtrees/impl.ScoresOk -/

def impl_ScoresOk_an : Ann := (.seq (.leaf [0]) (.seq (.seq (.leaf [0, 12]) (.cond (.seq (.leaf [2]) (.leaf [2])) (.leaf [0]))) (.seq (.seq (.leaf [0, 13, 14, 15]) (.block (.loop (.seq (.leaf [0, 13, 14, 15, 16]) (.seq (.cond (.leaf [0, 13, 14, 15]) (.leaf [])) (.seq (.block (.seq (.leaf [0, 4, 13, 14, 15]) (.seq (.leaf [0, 13, 14, 15, 23]) (.cond (.seq (.leaf [2]) (.leaf [2])) (.leaf [0, 13, 14, 15]))))) (.leaf [0, 13, 14, 15]))))))) (.seq (.leaf [2]) (.leaf [2])))))

noncomputable def impl_ScoresOk_ctx : Ctx := ⟨tlook tys, olook [(39, F_impl_scoreRowOk)], ioF, 0, false, []⟩

theorem impl_ScoresOk_n1_l (x17075 : List (List Int)) : Link impl_ScoresOk_ctx LL (Code.seq (cq [0] (bodyOf Try.f13)) (cq [0,1] (bodyOf Try.f13))) (Ann.seq (aq [0] impl_ScoresOk_an) (aq [0,1] impl_ScoresOk_an)) ⟨mkE 25 0 [(0, .dat (.list (.list (.int .i64))) x17075)], []⟩ (impl_ScoresOk_n1 x17075) (Sum.elim (fun (t : Unit) => (Exit.normal, ⟨mkE 25 0 [(0, .dat (.list (.list (.int .i64))) x17075)], []⟩)) (fun (t : Bool) => (Exit.ret, ⟨mkE 25 0 [(2, dB t)], []⟩))) := by
  refine Link.of fun K h => ?_
  simp only [impl_ScoresOk_n1, wpO_bind, wpO_cond, wpO_map, wpO_some] at h
  exact Awp.of (by kernel_rfl) h

theorem impl_ScoresOk_n2_l (x17075 : List (List Int)) : Link impl_ScoresOk_ctx LL (cq [0,0,1,1] (bodyOf Try.f13)) (aq [0,0,1,1] impl_ScoresOk_an) ⟨mkE 25 0 [(0, .dat (.list (.list (.int .i64))) x17075)], []⟩ (impl_ScoresOk_n2 x17075) (fun (t : Int) => (Exit.normal, ⟨mkE 25 0 [(0, .dat (.list (.list (.int .i64))) x17075), (13, .dat (.list (.list (.int .i64))) x17075), (14, dI t), (15, dI 0)], []⟩)) := by
  refine Link.of fun K h => ?_
  simp only [impl_ScoresOk_n2, wpO_bind, wpO_cond, wpO_map, wpO_some] at h
  exact Awp.of (by kernel_rfl) h

theorem impl_ScoresOk_n3_l (x17075 : List (List Int)) (x17080 : Int) (x17171 : Int) : Link impl_ScoresOk_ctx LL (cq [0,0,1,0,1,1] (bodyOf Try.f13)) (aq [0,0,1,0,1,1] impl_ScoresOk_an) ⟨mkE 25 0 [(0, .dat (.list (.list (.int .i64))) x17075), (13, .dat (.list (.list (.int .i64))) x17075), (14, dI x17080), (15, dI x17171)], []⟩ (impl_ScoresOk_n3 x17075 x17080 x17171) (Sum.elim (fun (t : Int) => (Exit.normal, ⟨mkE 25 0 [(0, .dat (.list (.list (.int .i64))) x17075), (13, .dat (.list (.list (.int .i64))) x17075), (14, dI x17080), (15, dI t)], []⟩)) (Sum.elim (fun (t : Bool) => (Exit.ret, ⟨mkE 25 0 [(2, dB t)], []⟩)) (fun (t : Unit) => ((Exit.exit 0), ⟨mkE 25 0 [], []⟩)))) := by
  refine Link.of fun K h => ?_
  simp only [impl_ScoresOk_n3, wpO_bind, wpO_cond, wpO_map, wpO_some] at h
  exact Awp.of (by kernel_rfl) h

def impl_ScoresOk_n4_l (x17075 : List (List Int)) (x17080 : Int) := (link_loop (mk := fun (s : Int) => ⟨mkE 25 0 [(0, .dat (.list (.list (.int .i64))) x17075), (13, .dat (.list (.list (.int .i64))) x17075), (14, dI x17080), (15, dI s)], []⟩) (fin := (Sum.elim (fun (t : Bool) => (Exit.ret, ⟨mkE 25 0 [(2, dB t)], []⟩)) (fun (t : Unit) => ((Exit.exit 0), ⟨mkE 25 0 [], []⟩)))) (by
  rintro (t | t) f K h
  · exact h
  · exact h) (fun s => link_map (impl_ScoresOk_n3_l x17075 x17080 s) (Sum.elim (fun (t : Int) => Sum.inl t) (Sum.elim (fun (t : Bool) => Sum.inr (Sum.inl t)) (fun (t : Unit) => Sum.inr (Sum.inr t)))) (by
  rintro (t | t | t)
  · kernel_rfl
  · kernel_rfl
  · kernel_rfl)) 0)

def impl_ScoresOk_n5_l (x17075 : List (List Int)) (x17080 : Int) := (link_block (fin2 := (Sum.elim (fun (t : Unit) => (Exit.normal, ⟨mkE 25 0 [], []⟩)) (fun (t : Bool) => (Exit.ret, ⟨mkE 25 0 [(2, dB t)], []⟩)))) (id := 0) (impl_ScoresOk_n4_l x17075 x17080) (Sum.elim (fun (t : Bool) => (Sum.inr t)) (fun (t : Unit) => (Sum.inl ()))) (by
  rintro (t | t) K h
  · exact Eq.mp (by kernel_rfl) h
  · exact Eq.mp (by kernel_rfl) h))

def impl_ScoresOk_n6_l (x17075 : List (List Int)) := (link_seq (impl_ScoresOk_n2_l x17075) (fun (t : Int) => (impl_ScoresOk_n5_l x17075 t)))

theorem impl_ScoresOk_n7_l : Link impl_ScoresOk_ctx LL (cq [1,1,1] (bodyOf Try.f13)) (aq [1,1,1] impl_ScoresOk_an) ⟨mkE 25 0 [], []⟩ (impl_ScoresOk_n7) (fun (t : Bool) => (Exit.ret, ⟨mkE 25 0 [(2, dB t)], []⟩)) := by
  refine Link.of fun K h => ?_
  simp only [impl_ScoresOk_n7, wpO_bind, wpO_cond, wpO_map, wpO_some] at h
  exact Awp.of (by kernel_rfl) h

def impl_ScoresOk_n8_l (x17075 : List (List Int)) := (link_seq2 (impl_ScoresOk_n6_l x17075) (fun (t : Unit) => (impl_ScoresOk_n7_l)) (fun (t : Bool) => t) (by
  rintro t
  · kernel_rfl) (by
  rintro t f K h
  · exact h))

def impl_ScoresOk_n9_l (x17075 : List (List Int)) := (link_group (c := (cq [0,1] (bodyOf Try.f13))) (a := (aq [0,1] impl_ScoresOk_an)) [(cq [0] (bodyOf Try.f13))] [(aq [0] impl_ScoresOk_an)] rfl (link_seq2 (impl_ScoresOk_n1_l x17075) (fun (t : Unit) => (impl_ScoresOk_n8_l x17075)) (fun (t : Bool) => t) (by
  rintro t
  · kernel_rfl) (by
  rintro t f K h
  · exact h)))

theorem impl_ScoresOk_e (x17075 : List (List Int)) {r : AV} {H' : Heap} (h : (Ans.mk _ (impl_ScoresOk x17075) (fun (t : Bool) => (dB t, [])) [] none).run = some (r, H')) : Awp impl_ScoresOk_ctx LL (bodyOf Try.f13) impl_ScoresOk_an ⟨mkE 25 0 [(0, .dat (.list (.list (.int .i64))) x17075)], []⟩ (Ret (tlook tys) Try.f13.results.toList r H') :=
  ret_of' (Link.cast (by kernel_rfl) (by kernel_rfl) (impl_ScoresOk_n9_l x17075)) (by unfold impl_ScoresOk; kernel_rfl) (by
  intro t
  exact ret_mk [dB t] (by kernel_rfl) (by kernel_rfl) (by kernel_rfl) (by kernel_rfl)) h

def F_impl_ScoresOk : Fun := fun avs H =>
  match avs, H with
  | [.dat (.list (.list (.int .i64))) x17075], [] => ⟨_, impl_ScoresOk x17075, fun (t : Bool) => (dB t, []), [], none⟩
  | _, _ => Ans.no

theorem impl_ScoresOk_sound : Sound Try.prog 13 F_impl_ScoresOk := by
  refine fn_sound' (C := impl_ScoresOk_ctx) (c := bodyOf Try.f13) (cok_of tys_ok (allc impl_scoreRowOk_sound alln) (allc Try.call39 alln) (by kernel_rfl)) Try.func13 (by kernel_rfl) LL impl_ScoresOk_an ?_
  intro avs H r H' h
  unfold F_impl_ScoresOk at h
  split at h
  · refine Awp.cast ?_ ?_ ?_ (impl_ScoresOk_e _ h) <;> kernel_rfl
  · simp [Ans.no, Ans.run] at h


/-! loop.example/headtrees/spec.l1In -/

def spec_l1In_an : Ann := (.seq (.leaf [0, 1, 2]) (.seq (.leaf [6]) (.leaf [6])))

noncomputable def spec_l1In_ctx : Ctx := ⟨tlook tys, olook [], ioF, 0, false, []⟩

theorem spec_l1In_n1_l (x17212 : Int) (x17213 : Int) (x17214 : Int) : Link spec_l1In_ctx LL (bodyOf Try.f40) spec_l1In_an ⟨mkE 15 0 [(0, dI x17212), (1, dI x17213), (2, dI x17214)], []⟩ (spec_l1In_n1 x17212 x17213 x17214) (fun (t : Bool) => (Exit.ret, ⟨mkE 15 0 [(6, dB t)], []⟩)) := by
  refine Link.of fun K h => ?_
  simp only [spec_l1In_n1, wpO_bind, wpO_cond, wpO_map, wpO_some] at h
  exact Awp.of (by kernel_rfl) h

theorem spec_l1In_e (x17212 : Int) (x17213 : Int) (x17214 : Int) {r : AV} {H' : Heap} (h : (Ans.mk _ (spec_l1In x17212 x17213 x17214) (fun (t : Bool) => (dB t, [])) [] none).run = some (r, H')) : Awp spec_l1In_ctx LL (bodyOf Try.f40) spec_l1In_an ⟨mkE 15 0 [(0, dI x17212), (1, dI x17213), (2, dI x17214)], []⟩ (Ret (tlook tys) Try.f40.results.toList r H') :=
  ret_of' (spec_l1In_n1_l x17212 x17213 x17214) (by unfold spec_l1In; kernel_rfl) (by
  intro t
  exact ret_mk [dB t] (by kernel_rfl) (by kernel_rfl) (by kernel_rfl) (by kernel_rfl)) h

def F_spec_l1In : Fun := fun avs H =>
  match avs, H with
  | [.dat (.int .i64) x17212, .dat (.int .i64) x17213, .dat (.int .i64) x17214], [] => ⟨_, spec_l1In x17212 x17213 x17214, fun (t : Bool) => (dB t, []), [], none⟩
  | _, _ => Ans.no

theorem spec_l1In_sound : Sound Try.prog 40 F_spec_l1In := by
  refine fn_sound' (C := spec_l1In_ctx) (c := bodyOf Try.f40) (cok_of tys_ok (alln) (alln) (by kernel_rfl)) Try.func40 (by kernel_rfl) LL spec_l1In_an ?_
  intro avs H r H' h
  unfold F_spec_l1In at h
  split at h
  · refine Awp.cast ?_ ?_ ?_ (spec_l1In_e _ _ _ h) <;> kernel_rfl
  · simp [Ans.no, Ans.run] at h


/-! loop.example/headtrees/spec.ScoresOk -/

def spec_ScoresOk_an : Ann := (.seq (.leaf [0]) (.seq (.seq (.leaf [0, 3]) (.block (.loop (.seq (.seq (.leaf [0, 3, 8]) (.cond (.leaf [0, 3]) (.leaf [0]))) (.seq (.block (.seq (.seq (.leaf [0, 3, 19]) (.cond (.seq (.leaf [2]) (.leaf [2])) (.leaf [0, 3]))) (.seq (.leaf [0, 3, 4]) (.block (.loop (.seq (.seq (.leaf [0, 3, 4, 26]) (.cond (.leaf [0, 3, 4]) (.leaf [0, 3]))) (.seq (.block (.seq (.leaf [0, 3, 4, 37]) (.cond (.seq (.leaf [2]) (.leaf [2])) (.leaf [0, 3, 4])))) (.leaf [0, 3, 4])))))))) (.leaf [0, 3])))))) (.seq (.leaf [2]) (.leaf [2]))))

noncomputable def spec_ScoresOk_ctx : Ctx := ⟨tlook tys, olook [(40, F_spec_l1In)], ioF, 0, false, []⟩

theorem spec_ScoresOk_n1_l (x17191 : List (List Int)) : Link spec_ScoresOk_ctx LL (cq [0] (bodyOf Try.f14)) (aq [0] spec_ScoresOk_an) ⟨mkE 41 0 [(0, .dat (.list (.list (.int .i64))) x17191)], []⟩ (spec_ScoresOk_n1) (fun (t : Unit) => (Exit.normal, ⟨mkE 41 0 [(0, .dat (.list (.list (.int .i64))) x17191)], []⟩)) := by
  refine Link.of fun K h => ?_
  simp only [spec_ScoresOk_n1, wpO_bind, wpO_cond, wpO_map, wpO_some] at h
  exact Awp.of (by kernel_rfl) h

theorem spec_ScoresOk_n2_l (x17191 : List (List Int)) : Link spec_ScoresOk_ctx LL (cq [0,0,1] (bodyOf Try.f14)) (aq [0,0,1] spec_ScoresOk_an) ⟨mkE 41 0 [(0, .dat (.list (.list (.int .i64))) x17191)], []⟩ (spec_ScoresOk_n2) (fun (t : Unit) => (Exit.normal, ⟨mkE 41 0 [(0, .dat (.list (.list (.int .i64))) x17191), (3, dI 0)], []⟩)) := by
  refine Link.of fun K h => ?_
  simp only [spec_ScoresOk_n2, wpO_bind, wpO_cond, wpO_map, wpO_some] at h
  exact Awp.of (by kernel_rfl) h

theorem spec_ScoresOk_n3_l (x17191 : List (List Int)) (x17250 : Int) : Link spec_ScoresOk_ctx LL (cq [0,0,0,1,0,1] (bodyOf Try.f14)) (aq [0,0,0,1,0,1] spec_ScoresOk_an) ⟨mkE 41 0 [(0, .dat (.list (.list (.int .i64))) x17191), (3, dI x17250)], []⟩ (spec_ScoresOk_n3 x17191 x17250) (Sum.elim (fun (t : Unit) => (Exit.normal, ⟨mkE 41 0 [(0, .dat (.list (.list (.int .i64))) x17191), (3, dI x17250)], []⟩)) (fun (t : Unit) => ((Exit.exit 0), ⟨mkE 41 0 [(0, .dat (.list (.list (.int .i64))) x17191)], []⟩))) := by
  refine Link.of fun K h => ?_
  simp only [spec_ScoresOk_n3, wpO_bind, wpO_cond, wpO_map, wpO_some] at h
  exact Awp.of (by kernel_rfl) h

theorem spec_ScoresOk_n4_l (x17191 : List (List Int)) (x17250 : Int) : Link spec_ScoresOk_ctx LL (Code.seq (cq [0,0,0,1,0,0,1,0,1] (bodyOf Try.f14)) (cq [0,1,0,0,1,0,0,1,0,1] (bodyOf Try.f14))) (Ann.seq (aq [0,0,0,1,0,0,1,0,1] spec_ScoresOk_an) (aq [0,1,0,0,1,0,0,1,0,1] spec_ScoresOk_an)) ⟨mkE 41 0 [(0, .dat (.list (.list (.int .i64))) x17191), (3, dI x17250)], []⟩ (spec_ScoresOk_n4 x17191 x17250) (Sum.elim (fun (t : Unit) => (Exit.normal, ⟨mkE 41 0 [(0, .dat (.list (.list (.int .i64))) x17191), (3, dI x17250), (4, dI 0)], []⟩)) (fun (t : Bool) => (Exit.ret, ⟨mkE 41 0 [(2, dB t)], []⟩))) := by
  refine Link.of fun K h => ?_
  simp only [spec_ScoresOk_n4, wpO_bind, wpO_cond, wpO_map, wpO_some] at h
  exact Awp.of (by kernel_rfl) h

theorem spec_ScoresOk_n5_l (x17191 : List (List Int)) (x17250 : Int) (x17281 : Int) : Link spec_ScoresOk_ctx LL (cq [0,0,1,1,0,0,1,0,0,1,0,1] (bodyOf Try.f14)) (aq [0,0,1,1,0,0,1,0,0,1,0,1] spec_ScoresOk_an) ⟨mkE 41 0 [(0, .dat (.list (.list (.int .i64))) x17191), (3, dI x17250), (4, dI x17281)], []⟩ (spec_ScoresOk_n5 x17191 x17250 x17281) (Sum.elim (fun (t : Int) => (Exit.normal, ⟨mkE 41 0 [(0, .dat (.list (.list (.int .i64))) x17191), (3, dI x17250), (4, dI t)], []⟩)) (Sum.elim (fun (t : Bool) => (Exit.ret, ⟨mkE 41 0 [(2, dB t)], []⟩)) (fun (t : Unit) => ((Exit.exit 2), ⟨mkE 41 0 [(0, .dat (.list (.list (.int .i64))) x17191), (3, dI x17250)], []⟩)))) := by
  refine Link.of fun K h => ?_
  simp only [spec_ScoresOk_n5, wpO_bind, wpO_cond, wpO_map, wpO_some] at h
  exact Awp.of (by kernel_rfl) h

def spec_ScoresOk_n6_l (x17191 : List (List Int)) (x17250 : Int) := (link_loop (mk := fun (s : Int) => ⟨mkE 41 0 [(0, .dat (.list (.list (.int .i64))) x17191), (3, dI x17250), (4, dI s)], []⟩) (fin := (Sum.elim (fun (t : Bool) => (Exit.ret, ⟨mkE 41 0 [(2, dB t)], []⟩)) (fun (t : Unit) => ((Exit.exit 2), ⟨mkE 41 0 [(0, .dat (.list (.list (.int .i64))) x17191), (3, dI x17250)], []⟩)))) (by
  rintro (t | t) f K h
  · exact h
  · exact h) (fun s => link_map (spec_ScoresOk_n5_l x17191 x17250 s) (Sum.elim (fun (t : Int) => Sum.inl t) (Sum.elim (fun (t : Bool) => Sum.inr (Sum.inl t)) (fun (t : Unit) => Sum.inr (Sum.inr t)))) (by
  rintro (t | t | t)
  · kernel_rfl
  · kernel_rfl
  · kernel_rfl)) 0)

def spec_ScoresOk_n7_l (x17191 : List (List Int)) (x17250 : Int) := (link_block (fin2 := (Sum.elim (fun (t : Unit) => (Exit.normal, ⟨mkE 41 0 [(0, .dat (.list (.list (.int .i64))) x17191), (3, dI x17250)], []⟩)) (fun (t : Bool) => (Exit.ret, ⟨mkE 41 0 [(2, dB t)], []⟩)))) (id := 2) (spec_ScoresOk_n6_l x17191 x17250) (Sum.elim (fun (t : Bool) => (Sum.inr t)) (fun (t : Unit) => (Sum.inl ()))) (by
  rintro (t | t) K h
  · exact Eq.mp (by kernel_rfl) h
  · exact Eq.mp (by kernel_rfl) h))

def spec_ScoresOk_n8_l (x17191 : List (List Int)) (x17250 : Int) := (link_group (c := (cq [0,1,0,0,1,0,0,1,0,1] (bodyOf Try.f14))) (a := (aq [0,1,0,0,1,0,0,1,0,1] spec_ScoresOk_an)) [(cq [0,0,0,1,0,0,1,0,1] (bodyOf Try.f14))] [(aq [0,0,0,1,0,0,1,0,1] spec_ScoresOk_an)] rfl (link_seq2 (spec_ScoresOk_n4_l x17191 x17250) (fun (t : Unit) => (spec_ScoresOk_n7_l x17191 x17250)) (fun (t : Bool) => (Sum.inr t)) (by
  rintro t
  · kernel_rfl) (by
  rintro t f K h
  · exact h)))

def spec_ScoresOk_n9_l (x17191 : List (List Int)) (x17250 : Int) := (link_block (fin2 := (Sum.elim (fun (t : Unit) => (Exit.normal, ⟨mkE 41 0 [(0, .dat (.list (.list (.int .i64))) x17191), (3, dI x17250)], []⟩)) (fun (t : Bool) => (Exit.ret, ⟨mkE 41 0 [(2, dB t)], []⟩)))) (id := 1) (spec_ScoresOk_n8_l x17191 x17250) (Sum.elim (fun (t : Unit) => (Sum.inl ())) (fun (t : Bool) => (Sum.inr t))) (by
  rintro (t | t) K h
  · exact Eq.mp (by kernel_rfl) h
  · exact Eq.mp (by kernel_rfl) h))

theorem spec_ScoresOk_n10_l (x17191 : List (List Int)) (x17250 : Int) : Link spec_ScoresOk_ctx LL (cq [1,1,0,0,1,0,1] (bodyOf Try.f14)) (aq [1,1,0,0,1,0,1] spec_ScoresOk_an) ⟨mkE 41 0 [(0, .dat (.list (.list (.int .i64))) x17191), (3, dI x17250)], []⟩ (spec_ScoresOk_n10 x17250) (fun (t : Int) => (Exit.normal, ⟨mkE 41 0 [(0, .dat (.list (.list (.int .i64))) x17191), (3, dI t)], []⟩)) := by
  refine Link.of fun K h => ?_
  simp only [spec_ScoresOk_n10, wpO_bind, wpO_cond, wpO_map, wpO_some] at h
  exact Awp.of (by kernel_rfl) h

def spec_ScoresOk_n11_l (x17191 : List (List Int)) (x17250 : Int) := (link_seq2 (spec_ScoresOk_n9_l x17191 x17250) (fun (t : Unit) => (link_map (fin2 := (Sum.elim (fun (t : Int) => (Exit.normal, ⟨mkE 41 0 [(0, .dat (.list (.list (.int .i64))) x17191), (3, dI t)], []⟩)) (fun (t : Bool) => (Exit.ret, ⟨mkE 41 0 [(2, dB t)], []⟩)))) (spec_ScoresOk_n10_l x17191 x17250) (fun (t : Int) => (Sum.inl t)) (by
  rintro t
  · kernel_rfl))) (fun (t : Bool) => (Sum.inr t)) (by
  rintro t
  · kernel_rfl) (by
  rintro t f K h
  · exact h))

def spec_ScoresOk_n12_l (x17191 : List (List Int)) (x17250 : Int) := (link_seq2 (spec_ScoresOk_n3_l x17191 x17250) (fun (t : Unit) => (link_map (fin2 := (Sum.elim (fun (t : Int) => (Exit.normal, ⟨mkE 41 0 [(0, .dat (.list (.list (.int .i64))) x17191), (3, dI t)], []⟩)) (Sum.elim (fun (t : Bool) => (Exit.ret, ⟨mkE 41 0 [(2, dB t)], []⟩)) (fun (t : Unit) => ((Exit.exit 0), ⟨mkE 41 0 [(0, .dat (.list (.list (.int .i64))) x17191)], []⟩))))) (spec_ScoresOk_n11_l x17191 x17250) (Sum.elim (fun (t : Int) => (Sum.inl t)) (fun (t : Bool) => (Sum.inr (Sum.inl t)))) (by
  rintro (t | t)
  · kernel_rfl
  · kernel_rfl))) (fun (t : Unit) => (Sum.inr (Sum.inr t))) (by
  rintro t
  · kernel_rfl) (by
  rintro t f K h
  · exact h))

def spec_ScoresOk_n13_l (x17191 : List (List Int)) := (link_loop (mk := fun (s : Int) => ⟨mkE 41 0 [(0, .dat (.list (.list (.int .i64))) x17191), (3, dI s)], []⟩) (fin := (Sum.elim (fun (t : Bool) => (Exit.ret, ⟨mkE 41 0 [(2, dB t)], []⟩)) (fun (t : Unit) => ((Exit.exit 0), ⟨mkE 41 0 [(0, .dat (.list (.list (.int .i64))) x17191)], []⟩)))) (by
  rintro (t | t) f K h
  · exact h
  · exact h) (fun s => link_map (spec_ScoresOk_n12_l x17191 s) (Sum.elim (fun (t : Int) => Sum.inl t) (Sum.elim (fun (t : Bool) => Sum.inr (Sum.inl t)) (fun (t : Unit) => Sum.inr (Sum.inr t)))) (by
  rintro (t | t | t)
  · kernel_rfl
  · kernel_rfl
  · kernel_rfl)) 0)

def spec_ScoresOk_n14_l (x17191 : List (List Int)) := (link_block (fin2 := (Sum.elim (fun (t : Unit) => (Exit.normal, ⟨mkE 41 0 [(0, .dat (.list (.list (.int .i64))) x17191)], []⟩)) (fun (t : Bool) => (Exit.ret, ⟨mkE 41 0 [(2, dB t)], []⟩)))) (id := 0) (spec_ScoresOk_n13_l x17191) (Sum.elim (fun (t : Bool) => (Sum.inr t)) (fun (t : Unit) => (Sum.inl ()))) (by
  rintro (t | t) K h
  · exact Eq.mp (by kernel_rfl) h
  · exact Eq.mp (by kernel_rfl) h))

def spec_ScoresOk_n15_l (x17191 : List (List Int)) := (link_seq (spec_ScoresOk_n2_l x17191) (fun (t : Unit) => (spec_ScoresOk_n14_l x17191)))

theorem spec_ScoresOk_n16_l (x17191 : List (List Int)) : Link spec_ScoresOk_ctx LL (cq [1,1] (bodyOf Try.f14)) (aq [1,1] spec_ScoresOk_an) ⟨mkE 41 0 [(0, .dat (.list (.list (.int .i64))) x17191)], []⟩ (spec_ScoresOk_n16 x17191) (fun (t : Bool) => (Exit.ret, ⟨mkE 41 0 [(2, dB t)], []⟩)) := by
  refine Link.of fun K h => ?_
  simp only [spec_ScoresOk_n16, wpO_bind, wpO_cond, wpO_map, wpO_some] at h
  exact Awp.of (by kernel_rfl) h

def spec_ScoresOk_n17_l (x17191 : List (List Int)) := (link_seq2 (spec_ScoresOk_n15_l x17191) (fun (t : Unit) => (spec_ScoresOk_n16_l x17191)) (fun (t : Bool) => t) (by
  rintro t
  · kernel_rfl) (by
  rintro t f K h
  · exact h))

def spec_ScoresOk_n18_l (x17191 : List (List Int)) := (link_seq (spec_ScoresOk_n1_l x17191) (fun (t : Unit) => (spec_ScoresOk_n17_l x17191)))

theorem spec_ScoresOk_e (x17191 : List (List Int)) {r : AV} {H' : Heap} (h : (Ans.mk _ (spec_ScoresOk x17191) (fun (t : Bool) => (dB t, [])) [] none).run = some (r, H')) : Awp spec_ScoresOk_ctx LL (bodyOf Try.f14) spec_ScoresOk_an ⟨mkE 41 0 [(0, .dat (.list (.list (.int .i64))) x17191)], []⟩ (Ret (tlook tys) Try.f14.results.toList r H') :=
  ret_of' (Link.cast (by kernel_rfl) (by kernel_rfl) (spec_ScoresOk_n18_l x17191)) (by unfold spec_ScoresOk; kernel_rfl) (by
  intro t
  exact ret_mk [dB t] (by kernel_rfl) (by kernel_rfl) (by kernel_rfl) (by kernel_rfl)) h

def F_spec_ScoresOk : Fun := fun avs H =>
  match avs, H with
  | [.dat (.list (.list (.int .i64))) x17191], [] => ⟨_, spec_ScoresOk x17191, fun (t : Bool) => (dB t, []), [], none⟩
  | _, _ => Ans.no

theorem spec_ScoresOk_sound : Sound Try.prog 14 F_spec_ScoresOk := by
  refine fn_sound' (C := spec_ScoresOk_ctx) (c := bodyOf Try.f14) (cok_of tys_ok (allc spec_l1In_sound alln) (allc Try.call40 alln) (by kernel_rfl)) Try.func14 (by kernel_rfl) LL spec_ScoresOk_an ?_
  intro avs H r H' h
  unfold F_spec_ScoresOk at h
  split at h
  · refine Awp.cast ?_ ?_ ?_ (spec_ScoresOk_e _ h) <;> kernel_rfl
  · simp [Ans.no, Ans.run] at h


/-! loop.example/headtrees/impl.oneRoot -/

def impl_oneRoot_an : Ann := (.seq (.leaf [0]) (.seq (.leaf [0, 3]) (.seq (.seq (.leaf [0, 3, 6, 7, 8]) (.block (.loop (.seq (.leaf [0, 3, 6, 7, 8, 9]) (.seq (.cond (.leaf [0, 3, 6, 7, 8]) (.leaf [3])) (.seq (.block (.seq (.leaf [0, 3, 5, 6, 7, 8]) (.seq (.seq (.leaf [0, 3, 5, 6, 7, 8, 19]) (.cond (.seq (.leaf [2]) (.leaf [2])) (.leaf [0, 3, 5, 6, 7, 8]))) (.seq (.leaf [0, 3, 6, 7, 8, 21]) (.cond (.leaf [0, 3, 6, 7, 8]) (.leaf [0, 3, 6, 7, 8])))))) (.leaf [0, 3, 6, 7, 8]))))))) (.seq (.leaf [2]) (.leaf [2])))))

noncomputable def impl_oneRoot_ctx : Ctx := ⟨tlook tys, olook [], ioF, 0, false, []⟩

theorem impl_oneRoot_n1_l (x17431 : List Int) : Link impl_oneRoot_ctx LL (Code.seq (cq [0] (bodyOf Try.f61)) (cq [0,1] (bodyOf Try.f61))) (Ann.seq (aq [0] impl_oneRoot_an) (aq [0,1] impl_oneRoot_an)) ⟨mkE 27 0 [(0, dL x17431)], []⟩ (impl_oneRoot_n1) (fun (t : Unit) => (Exit.normal, ⟨mkE 27 0 [(0, dL x17431), (3, dI 0)], []⟩)) := by
  refine Link.of fun K h => ?_
  simp only [impl_oneRoot_n1, wpO_bind, wpO_cond, wpO_map, wpO_some] at h
  exact Awp.of (by kernel_rfl) h

theorem impl_oneRoot_n2_l (x17431 : List Int) : Link impl_oneRoot_ctx LL (cq [0,0,1,1] (bodyOf Try.f61)) (aq [0,0,1,1] impl_oneRoot_an) ⟨mkE 27 0 [(0, dL x17431), (3, dI 0)], []⟩ (impl_oneRoot_n2 x17431) (fun (t : Int) => (Exit.normal, ⟨mkE 27 0 [(0, dL x17431), (3, dI 0), (6, dL x17431), (7, dI t), (8, dI 0)], []⟩)) := by
  refine Link.of fun K h => ?_
  simp only [impl_oneRoot_n2, wpO_bind, wpO_cond, wpO_map, wpO_some] at h
  exact Awp.of (by kernel_rfl) h

theorem impl_oneRoot_n3_l (x17431 : List Int) (x17453 : Int) (x17432 : Int) (x17454 : Int) : Link impl_oneRoot_ctx LL (cq [0,0,1,0,1,1] (bodyOf Try.f61)) (aq [0,0,1,0,1,1] impl_oneRoot_an) ⟨mkE 27 0 [(0, dL x17431), (3, dI x17453), (6, dL x17431), (7, dI x17432), (8, dI x17454)], []⟩ (impl_oneRoot_n3 x17431 x17453 x17432 x17454) (Sum.elim (fun (t : Int × Int) => (Exit.normal, ⟨mkE 27 0 [(0, dL x17431), (3, dI t.1), (6, dL x17431), (7, dI x17432), (8, dI t.2)], []⟩)) (Sum.elim (fun (t : Bool) => (Exit.ret, ⟨mkE 27 0 [(2, dB t)], []⟩)) (fun (t : Int) => ((Exit.exit 0), ⟨mkE 27 0 [(3, dI t)], []⟩)))) := by
  refine Link.of fun K h => ?_
  simp only [impl_oneRoot_n3, wpO_bind, wpO_cond, wpO_map, wpO_some] at h
  exact Awp.of (by kernel_rfl) h

def impl_oneRoot_n4_l (x17431 : List Int) (x17432 : Int) := (link_loop (mk := fun (s : Int × Int) => ⟨mkE 27 0 [(0, dL x17431), (3, dI s.1), (6, dL x17431), (7, dI x17432), (8, dI s.2)], []⟩) (fin := (Sum.elim (fun (t : Bool) => (Exit.ret, ⟨mkE 27 0 [(2, dB t)], []⟩)) (fun (t : Int) => ((Exit.exit 0), ⟨mkE 27 0 [(3, dI t)], []⟩)))) (by
  rintro (t | t) f K h
  · exact h
  · exact h) (fun s => link_map (impl_oneRoot_n3_l x17431 s.1 x17432 s.2) (Sum.elim (fun (t : Int × Int) => Sum.inl (t.1, t.2)) (Sum.elim (fun (t : Bool) => Sum.inr (Sum.inl t)) (fun (t : Int) => Sum.inr (Sum.inr t)))) (by
  rintro (t | t | t)
  · kernel_rfl
  · kernel_rfl
  · kernel_rfl)) (0, 0))

def impl_oneRoot_n5_l (x17431 : List Int) (x17432 : Int) := (link_block (fin2 := (Sum.elim (fun (t : Int) => (Exit.normal, ⟨mkE 27 0 [(3, dI t)], []⟩)) (fun (t : Bool) => (Exit.ret, ⟨mkE 27 0 [(2, dB t)], []⟩)))) (id := 0) (impl_oneRoot_n4_l x17431 x17432) (Sum.elim (fun (t : Bool) => (Sum.inr t)) (fun (t : Int) => (Sum.inl t))) (by
  rintro (t | t) K h
  · exact Eq.mp (by kernel_rfl) h
  · exact Eq.mp (by kernel_rfl) h))

def impl_oneRoot_n6_l (x17431 : List Int) := (link_seq (impl_oneRoot_n2_l x17431) (fun (t : Int) => (impl_oneRoot_n5_l x17431 t)))

theorem impl_oneRoot_n7_l (x17453 : Int) : Link impl_oneRoot_ctx LL (cq [1,1,1] (bodyOf Try.f61)) (aq [1,1,1] impl_oneRoot_an) ⟨mkE 27 0 [(3, dI x17453)], []⟩ (impl_oneRoot_n7 x17453) (fun (t : Bool) => (Exit.ret, ⟨mkE 27 0 [(2, dB t)], []⟩)) := by
  refine Link.of fun K h => ?_
  simp only [impl_oneRoot_n7, wpO_bind, wpO_cond, wpO_map, wpO_some] at h
  exact Awp.of (by kernel_rfl) h

def impl_oneRoot_n8_l (x17431 : List Int) := (link_seq2 (impl_oneRoot_n6_l x17431) (fun (t : Int) => (impl_oneRoot_n7_l t)) (fun (t : Bool) => t) (by
  rintro t
  · kernel_rfl) (by
  rintro t f K h
  · exact h))

def impl_oneRoot_n9_l (x17431 : List Int) := (link_group (c := (cq [0,1] (bodyOf Try.f61))) (a := (aq [0,1] impl_oneRoot_an)) [(cq [0] (bodyOf Try.f61))] [(aq [0] impl_oneRoot_an)] rfl (link_seq (impl_oneRoot_n1_l x17431) (fun (t : Unit) => (impl_oneRoot_n8_l x17431))))

theorem impl_oneRoot_e (x17431 : List Int) {r : AV} {H' : Heap} (h : (Ans.mk _ (impl_oneRoot x17431) (fun (t : Bool) => (dB t, [])) [] none).run = some (r, H')) : Awp impl_oneRoot_ctx LL (bodyOf Try.f61) impl_oneRoot_an ⟨mkE 27 0 [(0, dL x17431)], []⟩ (Ret (tlook tys) Try.f61.results.toList r H') :=
  ret_of' (Link.cast (by kernel_rfl) (by kernel_rfl) (impl_oneRoot_n9_l x17431)) (by unfold impl_oneRoot; kernel_rfl) (by
  intro t
  exact ret_mk [dB t] (by kernel_rfl) (by kernel_rfl) (by kernel_rfl) (by kernel_rfl)) h

def F_impl_oneRoot : Fun := fun avs H =>
  match avs, H with
  | [.dat (.list (.int .i64)) x17431], [] => ⟨_, impl_oneRoot x17431, fun (t : Bool) => (dB t, []), [], none⟩
  | _, _ => Ans.no

theorem impl_oneRoot_sound : Sound Try.prog 61 F_impl_oneRoot := by
  refine fn_sound' (C := impl_oneRoot_ctx) (c := bodyOf Try.f61) (cok_of tys_ok (alln) (alln) (by kernel_rfl)) Try.func61 (by kernel_rfl) LL impl_oneRoot_an ?_
  intro avs H r H' h
  unfold F_impl_oneRoot at h
  split at h
  · refine Awp.cast ?_ ?_ ?_ (impl_oneRoot_e _ h) <;> kernel_rfl
  · simp [Ans.no, Ans.run] at h


/-! (*loop.example/headtrees/impl.walker).up -/

def impl_walker_up_an : Ann := (.seq (.leaf [0]) (.seq (.draw [] [0, 1, 2, 3, 4, 5, 6, 7, 8, 9, 10, 11] [] [0, 3]) (.seq (.seq (.leaf [0, 3, 16]) (.cond (.seq (.leaf [2]) (.leaf [2])) (.leaf [0, 3]))) (.seq (.leaf [0]) (.seq (.leaf []) (.seq (.leaf [2]) (.leaf [2])))))))

noncomputable def impl_walker_up_ctx : Ctx := ⟨tlook tys, olook [], ioF, 1, false, []⟩

theorem impl_walker_up_n1_l (x17487 : List Int) (x17488 : Int) (x17489 : Int) : Link impl_walker_up_ctx LL (bodyOf Try.f71) impl_walker_up_an ⟨mkE 28 0 [(0, .ptr 0 0)], [some (.box [dL x17487, dI x17488, dI x17489])]⟩ (impl_walker_up_n1 x17487 x17488 x17489) (fun (t : Bool × Int × Int) => (Exit.ret, ⟨mkE 28 0 [(2, dB t.1)], [some (.box [dL x17487, dI t.2.1, dI t.2.2])]⟩)) := by
  refine Link.of fun K h => ?_
  simp only [impl_walker_up_n1, wpO_bind, wpO_cond, wpO_map, wpO_some] at h
  exact Awp.of (by kernel_rfl) h

theorem impl_walker_up_e (x17487 : List Int) (x17488 : Int) (x17489 : Int) {r : AV} {H' : Heap} (h : (Ans.mk _ (impl_walker_up x17487 x17488 x17489) (fun (t : Bool × Int × Int) => (dB t.1, [some (.box [dL x17487, dI t.2.1, dI t.2.2])])) [] none).run = some (r, H')) : Awp impl_walker_up_ctx LL (bodyOf Try.f71) impl_walker_up_an ⟨mkE 28 0 [(0, .ptr 0 0)], [some (.box [dL x17487, dI x17488, dI x17489])]⟩ (Ret (tlook tys) Try.f71.results.toList r H') :=
  ret_of' (impl_walker_up_n1_l x17487 x17488 x17489) (by unfold impl_walker_up; kernel_rfl) (by
  intro t
  exact ret_mk [dB t.1] (by kernel_rfl) (by kernel_rfl) (by kernel_rfl) (by kernel_rfl)) h

def F_impl_walker_up : Fun := fun avs H =>
  match avs, H with
  | [.ptr 0 0], [some (.box [.dat (.list (.int .i64)) x17487, .dat (.int .i64) x17488, .dat (.int .i64) x17489])] => ⟨_, impl_walker_up x17487 x17488 x17489, fun (t : Bool × Int × Int) => (dB t.1, [some (.box [dL x17487, dI t.2.1, dI t.2.2])]), [], none⟩
  | _, _ => Ans.no

theorem impl_walker_up_sound : Sound Try.prog 71 F_impl_walker_up := by
  refine fn_sound' (C := impl_walker_up_ctx) (c := bodyOf Try.f71) (cok_of tys_ok (alln) (alln) (by kernel_rfl)) Try.func71 (by kernel_rfl) LL impl_walker_up_an ?_
  intro avs H r H' h
  unfold F_impl_walker_up at h
  split at h
  · refine Awp.cast ?_ ?_ ?_ (impl_walker_up_e _ _ _ h) <;> kernel_rfl
  · simp [Ans.no, Ans.run] at h


/-! loop.example/headtrees/impl.stepsToRoot -/

def impl_stepsToRoot_an : Ann := (.seq (.leaf [0, 1]) (.seq (.leaf [0, 6]) (.seq (.block (.loop (.seq (.seq (.leaf [0, 6, 10]) (.cond (.leaf [0, 6]) (.leaf [6]))) (.block (.seq (.leaf [0, 6, 15]) (.cond (.seq (.leaf [4, 5]) (.leaf [4, 5])) (.leaf [0, 6]))))))) (.seq (.leaf [4, 5]) (.leaf [4, 5])))))

noncomputable def impl_stepsToRoot_ctx : Ctx := ⟨tlook tys, olook [(71, F_impl_walker_up)], ioF, 0, false, []⟩

theorem impl_stepsToRoot_n1_l (x17485 : List Int) (x17486 : Int) : Link impl_stepsToRoot_ctx LL (Code.seq (cq [0] (bodyOf Try.f62)) (cq [0,1] (bodyOf Try.f62))) (Ann.seq (aq [0] impl_stepsToRoot_an) (aq [0,1] impl_stepsToRoot_an)) ⟨mkE 18 0 [(0, dL x17485), (1, dI x17486)], []⟩ (impl_stepsToRoot_n1) (fun (t : Unit) => (Exit.normal, ⟨mkE 18 0 [(0, dL x17485), (6, .ptr 0 0)], [some (.box [dL x17485, dI x17486, dI 0])]⟩)) := by
  refine Link.of fun K h => ?_
  simp only [impl_stepsToRoot_n1, wpO_bind, wpO_cond, wpO_map, wpO_some] at h
  exact Awp.of (by kernel_rfl) h

theorem impl_stepsToRoot_n2_l (x17485 : List Int) (x17523 : Int) (x17524 : Int) : Link impl_stepsToRoot_ctx LL (cq [0,0,0,1,1] (bodyOf Try.f62)) (aq [0,0,0,1,1] impl_stepsToRoot_an) ⟨mkE 18 0 [(0, dL x17485), (6, .ptr 0 0)], [some (.box [dL x17485, dI x17523, dI x17524])]⟩ (impl_stepsToRoot_n2 x17485 x17523 x17524) (Sum.elim (fun (t : Int × Int) => (Exit.normal, ⟨mkE 18 0 [(0, dL x17485), (6, .ptr 0 0)], [some (.box [dL x17485, dI t.1, dI t.2])]⟩)) (Sum.elim (fun (t : Int × Bool) => (Exit.ret, ⟨mkE 18 0 [(4, dI t.1), (5, dB t.2)], []⟩)) (fun (t : Int × Int) => ((Exit.exit 0), ⟨mkE 18 0 [(6, .ptr 0 0)], [some (.box [dL x17485, dI t.1, dI t.2])]⟩)))) := by
  refine Link.of fun K h => ?_
  simp only [impl_stepsToRoot_n2, wpO_bind, wpO_cond, wpO_map, wpO_some] at h
  exact Awp.of (by kernel_rfl) h

def impl_stepsToRoot_n3_l (x17485 : List Int) (x17486 : Int) := (link_loop (mk := fun (s : Int × Int) => ⟨mkE 18 0 [(0, dL x17485), (6, .ptr 0 0)], [some (.box [dL x17485, dI s.1, dI s.2])]⟩) (fin := (Sum.elim (fun (t : Int × Bool) => (Exit.ret, ⟨mkE 18 0 [(4, dI t.1), (5, dB t.2)], []⟩)) (fun (t : Int × Int) => ((Exit.exit 0), ⟨mkE 18 0 [(6, .ptr 0 0)], [some (.box [dL x17485, dI t.1, dI t.2])]⟩)))) (by
  rintro (t | t) f K h
  · exact h
  · exact h) (fun s => link_map (impl_stepsToRoot_n2_l x17485 s.1 s.2) (Sum.elim (fun (t : Int × Int) => Sum.inl (t.1, t.2)) (Sum.elim (fun (t : Int × Bool) => Sum.inr (Sum.inl t)) (fun (t : Int × Int) => Sum.inr (Sum.inr t)))) (by
  rintro (t | t | t)
  · kernel_rfl
  · kernel_rfl
  · kernel_rfl)) (x17486, 0))

def impl_stepsToRoot_n4_l (x17485 : List Int) (x17486 : Int) := (link_block (fin2 := (Sum.elim (fun (t : Int × Int) => (Exit.normal, ⟨mkE 18 0 [(6, .ptr 0 0)], [some (.box [dL x17485, dI t.1, dI t.2])]⟩)) (fun (t : Int × Bool) => (Exit.ret, ⟨mkE 18 0 [(4, dI t.1), (5, dB t.2)], []⟩)))) (id := 0) (impl_stepsToRoot_n3_l x17485 x17486) (Sum.elim (fun (t : Int × Bool) => (Sum.inr t)) (fun (t : Int × Int) => (Sum.inl (t.1, t.2)))) (by
  rintro (t | t) K h
  · exact Eq.mp (by kernel_rfl) h
  · exact Eq.mp (by kernel_rfl) h))

theorem impl_stepsToRoot_n5_l (x17485 : List Int) (x17531 : Int) (x17532 : Int) : Link impl_stepsToRoot_ctx LL (cq [1,1,1] (bodyOf Try.f62)) (aq [1,1,1] impl_stepsToRoot_an) ⟨mkE 18 0 [(6, .ptr 0 0)], [some (.box [dL x17485, dI x17531, dI x17532])]⟩ (impl_stepsToRoot_n5 x17532) (fun (t : Int × Bool) => (Exit.ret, ⟨mkE 18 0 [(4, dI t.1), (5, dB t.2)], []⟩)) := by
  refine Link.of fun K h => ?_
  simp only [impl_stepsToRoot_n5, wpO_bind, wpO_cond, wpO_map, wpO_some] at h
  exact Awp.of (by kernel_rfl) h

def impl_stepsToRoot_n6_l (x17485 : List Int) (x17486 : Int) := (link_seq2 (impl_stepsToRoot_n4_l x17485 x17486) (fun (t : Int × Int) => (impl_stepsToRoot_n5_l x17485 t.1 t.2)) (fun (t : Int × Bool) => t) (by
  rintro t
  · kernel_rfl) (by
  rintro t f K h
  · exact h))

def impl_stepsToRoot_n7_l (x17485 : List Int) (x17486 : Int) := (link_group (c := (cq [0,1] (bodyOf Try.f62))) (a := (aq [0,1] impl_stepsToRoot_an)) [(cq [0] (bodyOf Try.f62))] [(aq [0] impl_stepsToRoot_an)] rfl (link_seq (impl_stepsToRoot_n1_l x17485 x17486) (fun (t : Unit) => (impl_stepsToRoot_n6_l x17485 x17486))))

theorem impl_stepsToRoot_e (x17485 : List Int) (x17486 : Int) {r : AV} {H' : Heap} (h : (Ans.mk _ (impl_stepsToRoot x17485 x17486) (fun (t : Int × Bool) => (.tup [dI t.1, dB t.2], [])) [] none).run = some (r, H')) : Awp impl_stepsToRoot_ctx LL (bodyOf Try.f62) impl_stepsToRoot_an ⟨mkE 18 0 [(0, dL x17485), (1, dI x17486)], []⟩ (Ret (tlook tys) Try.f62.results.toList r H') :=
  ret_of' (Link.cast (by kernel_rfl) (by kernel_rfl) (impl_stepsToRoot_n7_l x17485 x17486)) (by unfold impl_stepsToRoot; kernel_rfl) (by
  intro t
  exact ret_mk [dI t.1, dB t.2] (by kernel_rfl) (by kernel_rfl) (by kernel_rfl) (by kernel_rfl)) h

def F_impl_stepsToRoot : Fun := fun avs H =>
  match avs, H with
  | [.dat (.list (.int .i64)) x17485, .dat (.int .i64) x17486], [] => ⟨_, impl_stepsToRoot x17485 x17486, fun (t : Int × Bool) => (.tup [dI t.1, dB t.2], []), [], none⟩
  | _, _ => Ans.no

theorem impl_stepsToRoot_sound : Sound Try.prog 62 F_impl_stepsToRoot := by
  refine fn_sound' (C := impl_stepsToRoot_ctx) (c := bodyOf Try.f62) (cok_of tys_ok (allc impl_walker_up_sound alln) (allc Try.call71 alln) (by kernel_rfl)) Try.func62 (by kernel_rfl) LL impl_stepsToRoot_an ?_
  intro avs H r H' h
  unfold F_impl_stepsToRoot at h
  split at h
  · refine Awp.cast ?_ ?_ ?_ (impl_stepsToRoot_e _ _ h) <;> kernel_rfl
  · simp [Ans.no, Ans.run] at h


/-! loop.example/headtrees/impl.TreeOk -/

def impl_TreeOk_an : Ann := (.seq (.leaf [0]) (.seq (.seq (.leaf [0, 18]) (.cond (.seq (.leaf [2]) (.leaf [2])) (.leaf [0]))) (.seq (.seq (.leaf [0, 20, 21]) (.block (.loop (.seq (.leaf [0, 20, 21, 22]) (.seq (.cond (.leaf [0, 20, 21]) (.leaf [])) (.seq (.block (.seq (.leaf [0, 3, 20, 21]) (.seq (.leaf [0, 5, 20, 21]) (.seq (.leaf [0, 20, 21, 32]) (.cond (.seq (.leaf [2]) (.leaf [2])) (.leaf [0, 20, 21])))))) (.leaf [0, 20, 21]))))))) (.seq (.leaf [2]) (.leaf [2])))))

noncomputable def impl_TreeOk_ctx : Ctx := ⟨tlook tys, olook [(61, F_impl_oneRoot), (62, F_impl_stepsToRoot)], ioF, 0, false, []⟩

theorem impl_TreeOk_n1_l (x17426 : List Int) : Link impl_TreeOk_ctx LL (Code.seq (cq [0] (bodyOf Try.f41)) (cq [0,1] (bodyOf Try.f41))) (Ann.seq (aq [0] impl_TreeOk_an) (aq [0,1] impl_TreeOk_an)) ⟨mkE 34 0 [(0, dL x17426)], []⟩ (impl_TreeOk_n1 x17426) (Sum.elim (fun (t : Unit) => (Exit.normal, ⟨mkE 34 0 [(0, dL x17426)], []⟩)) (fun (t : Bool) => (Exit.ret, ⟨mkE 34 0 [(2, dB t)], []⟩))) := by
  refine Link.of fun K h => ?_
  simp only [impl_TreeOk_n1, wpO_bind, wpO_cond, wpO_map, wpO_some] at h
  exact Awp.of (by kernel_rfl) h

theorem impl_TreeOk_n2_l (x17426 : List Int) : Link impl_TreeOk_ctx LL (cq [0,0,1,1] (bodyOf Try.f41)) (aq [0,0,1,1] impl_TreeOk_an) ⟨mkE 34 0 [(0, dL x17426)], []⟩ (impl_TreeOk_n2 x17426) (fun (t : Int) => (Exit.normal, ⟨mkE 34 0 [(0, dL x17426), (20, dI t), (21, dI 0)], []⟩)) := by
  refine Link.of fun K h => ?_
  simp only [impl_TreeOk_n2, wpO_bind, wpO_cond, wpO_map, wpO_some] at h
  exact Awp.of (by kernel_rfl) h

theorem impl_TreeOk_n3_l (x17426 : List Int) (x17480 : Int) (x17548 : Int) : Link impl_TreeOk_ctx LL (cq [0,0,1,0,1,1] (bodyOf Try.f41)) (aq [0,0,1,0,1,1] impl_TreeOk_an) ⟨mkE 34 0 [(0, dL x17426), (20, dI x17480), (21, dI x17548)], []⟩ (impl_TreeOk_n3 x17426 x17480 x17548) (Sum.elim (fun (t : Int) => (Exit.normal, ⟨mkE 34 0 [(0, dL x17426), (20, dI x17480), (21, dI t)], []⟩)) (Sum.elim (fun (t : Bool) => (Exit.ret, ⟨mkE 34 0 [(2, dB t)], []⟩)) (fun (t : Unit) => ((Exit.exit 0), ⟨mkE 34 0 [], []⟩)))) := by
  refine Link.of fun K h => ?_
  simp only [impl_TreeOk_n3, wpO_bind, wpO_cond, wpO_map, wpO_some] at h
  exact Awp.of (by kernel_rfl) h

def impl_TreeOk_n4_l (x17426 : List Int) (x17480 : Int) := (link_loop (mk := fun (s : Int) => ⟨mkE 34 0 [(0, dL x17426), (20, dI x17480), (21, dI s)], []⟩) (fin := (Sum.elim (fun (t : Bool) => (Exit.ret, ⟨mkE 34 0 [(2, dB t)], []⟩)) (fun (t : Unit) => ((Exit.exit 0), ⟨mkE 34 0 [], []⟩)))) (by
  rintro (t | t) f K h
  · exact h
  · exact h) (fun s => link_map (impl_TreeOk_n3_l x17426 x17480 s) (Sum.elim (fun (t : Int) => Sum.inl t) (Sum.elim (fun (t : Bool) => Sum.inr (Sum.inl t)) (fun (t : Unit) => Sum.inr (Sum.inr t)))) (by
  rintro (t | t | t)
  · kernel_rfl
  · kernel_rfl
  · kernel_rfl)) 0)

def impl_TreeOk_n5_l (x17426 : List Int) (x17480 : Int) := (link_block (fin2 := (Sum.elim (fun (t : Unit) => (Exit.normal, ⟨mkE 34 0 [], []⟩)) (fun (t : Bool) => (Exit.ret, ⟨mkE 34 0 [(2, dB t)], []⟩)))) (id := 0) (impl_TreeOk_n4_l x17426 x17480) (Sum.elim (fun (t : Bool) => (Sum.inr t)) (fun (t : Unit) => (Sum.inl ()))) (by
  rintro (t | t) K h
  · exact Eq.mp (by kernel_rfl) h
  · exact Eq.mp (by kernel_rfl) h))

def impl_TreeOk_n6_l (x17426 : List Int) := (link_seq (impl_TreeOk_n2_l x17426) (fun (t : Int) => (impl_TreeOk_n5_l x17426 t)))

theorem impl_TreeOk_n7_l : Link impl_TreeOk_ctx LL (cq [1,1,1] (bodyOf Try.f41)) (aq [1,1,1] impl_TreeOk_an) ⟨mkE 34 0 [], []⟩ (impl_TreeOk_n7) (fun (t : Bool) => (Exit.ret, ⟨mkE 34 0 [(2, dB t)], []⟩)) := by
  refine Link.of fun K h => ?_
  simp only [impl_TreeOk_n7, wpO_bind, wpO_cond, wpO_map, wpO_some] at h
  exact Awp.of (by kernel_rfl) h

def impl_TreeOk_n8_l (x17426 : List Int) := (link_seq2 (impl_TreeOk_n6_l x17426) (fun (t : Unit) => (impl_TreeOk_n7_l)) (fun (t : Bool) => t) (by
  rintro t
  · kernel_rfl) (by
  rintro t f K h
  · exact h))

def impl_TreeOk_n9_l (x17426 : List Int) := (link_group (c := (cq [0,1] (bodyOf Try.f41))) (a := (aq [0,1] impl_TreeOk_an)) [(cq [0] (bodyOf Try.f41))] [(aq [0] impl_TreeOk_an)] rfl (link_seq2 (impl_TreeOk_n1_l x17426) (fun (t : Unit) => (impl_TreeOk_n8_l x17426)) (fun (t : Bool) => t) (by
  rintro t
  · kernel_rfl) (by
  rintro t f K h
  · exact h)))

theorem impl_TreeOk_e (x17426 : List Int) {r : AV} {H' : Heap} (h : (Ans.mk _ (impl_TreeOk x17426) (fun (t : Bool) => (dB t, [])) [] none).run = some (r, H')) : Awp impl_TreeOk_ctx LL (bodyOf Try.f41) impl_TreeOk_an ⟨mkE 34 0 [(0, dL x17426)], []⟩ (Ret (tlook tys) Try.f41.results.toList r H') :=
  ret_of' (Link.cast (by kernel_rfl) (by kernel_rfl) (impl_TreeOk_n9_l x17426)) (by unfold impl_TreeOk; kernel_rfl) (by
  intro t
  exact ret_mk [dB t] (by kernel_rfl) (by kernel_rfl) (by kernel_rfl) (by kernel_rfl)) h

def F_impl_TreeOk : Fun := fun avs H =>
  match avs, H with
  | [.dat (.list (.int .i64)) x17426], [] => ⟨_, impl_TreeOk x17426, fun (t : Bool) => (dB t, []), [], none⟩
  | _, _ => Ans.no

theorem impl_TreeOk_sound : Sound Try.prog 41 F_impl_TreeOk := by
  refine fn_sound' (C := impl_TreeOk_ctx) (c := bodyOf Try.f41) (cok_of tys_ok (allc impl_oneRoot_sound (allc impl_stepsToRoot_sound alln)) (allc Try.call61 (allc Try.call62 alln)) (by kernel_rfl)) Try.func41 (by kernel_rfl) LL impl_TreeOk_an ?_
  intro avs H r H' h
  unfold F_impl_TreeOk at h
  split at h
  · refine Awp.cast ?_ ?_ ?_ (impl_TreeOk_e _ h) <;> kernel_rfl
  · simp [Ans.no, Ans.run] at h


/-! loop.example/headtrees/laws.alive -/

def laws_alive_an : Ann := (.seq (.leaf []) (.seq (.leaf [0]) (.leaf [0])))

noncomputable def laws_alive_ctx : Ctx := ⟨tlook tys, olook [(41, F_impl_TreeOk)], ioF, 0, false, []⟩

theorem laws_alive_n1_l : Link laws_alive_ctx LL (bodyOf Try.f15) laws_alive_an ⟨mkE 8 0 [], []⟩ (laws_alive_n1) (fun (t : Bool) => (Exit.ret, ⟨mkE 8 0 [(0, dB t)], []⟩)) := by
  refine Link.of fun K h => ?_
  simp only [laws_alive_n1, wpO_bind, wpO_cond, wpO_map, wpO_some] at h
  exact Awp.of (by kernel_rfl) h

theorem laws_alive_e {r : AV} {H' : Heap} (h : (Ans.mk _ (laws_alive) (fun (t : Bool) => (dB t, [])) [] none).run = some (r, H')) : Awp laws_alive_ctx LL (bodyOf Try.f15) laws_alive_an ⟨mkE 8 0 [], []⟩ (Ret (tlook tys) Try.f15.results.toList r H') :=
  ret_of' (laws_alive_n1_l) (by unfold laws_alive; kernel_rfl) (by
  intro t
  exact ret_mk [dB t] (by kernel_rfl) (by kernel_rfl) (by kernel_rfl) (by kernel_rfl)) h

def F_laws_alive : Fun := fun avs H =>
  match avs, H with
  | [], [] => ⟨_, laws_alive, fun (t : Bool) => (dB t, []), [], none⟩
  | _, _ => Ans.no

theorem laws_alive_sound : Sound Try.prog 15 F_laws_alive := by
  refine fn_sound' (C := laws_alive_ctx) (c := bodyOf Try.f15) (cok_of tys_ok (allc impl_TreeOk_sound alln) (allc Try.call41 alln) (by kernel_rfl)) Try.func15 (by kernel_rfl) LL laws_alive_an ?_
  intro avs H r H' h
  unfold F_laws_alive at h
  split at h
  · refine Awp.cast ?_ ?_ ?_ (laws_alive_e h) <;> kernel_rfl
  · simp [Ans.no, Ans.run] at h


/-! loop.example/headtrees/laws.FnScoresOk -/

def laws_FnScoresOk_an : Ann := (.seq (.leaf [0]) (.seq (.seq (.leaf [0, 7]) (.cond (.seq (.leaf [2]) (.leaf [2])) (.leaf [0]))) (.seq (.leaf [3]) (.seq (.leaf [3, 4]) (.seq (.seq (.leaf [15]) (.cond (.seq (.leaf [2]) (.leaf [2])) (.leaf []))) (.seq (.leafF [⟨1, 16, false, none, none⟩, ⟨5, 20, false, none, none⟩, ⟨15, 30, false, none, none⟩] [2]) (.leaf [2])))))))

noncomputable def laws_FnScoresOk_ctx : Ctx := ⟨tlook tys, olook [(12, F_spec_DrawScoresOk), (13, F_impl_ScoresOk), (14, F_spec_ScoresOk), (15, F_laws_alive)], ioF, 0, false, []⟩

theorem laws_FnScoresOk_n1_l (x16515 : List Int) : Link laws_FnScoresOk_ctx LL (bodyOf Try.f3) laws_FnScoresOk_an ⟨mkE 38 0 [(0, dV x16515)], []⟩ (laws_FnScoresOk_n1 x16515) (fun (t : Bool) => (Exit.ret, ⟨mkE 38 0 [(2, dB t)], []⟩)) := by
  refine Link.of fun K h => ?_
  simp only [laws_FnScoresOk_n1, wpO_bind, wpO_cond, wpO_map, wpO_some] at h
  exact Awp.of (by kernel_rfl) h

theorem laws_FnScoresOk_e (x16515 : List Int) {r : AV} {H' : Heap} (h : (Ans.mk _ (laws_FnScoresOk x16515) (fun (t : Bool) => (dB t, [])) [] none).run = some (r, H')) : Awp laws_FnScoresOk_ctx LL (bodyOf Try.f3) laws_FnScoresOk_an ⟨mkE 38 0 [(0, dV x16515)], []⟩ (Ret (tlook tys) Try.f3.results.toList r H') :=
  ret_of' (laws_FnScoresOk_n1_l x16515) (by unfold laws_FnScoresOk; kernel_rfl) (by
  intro t
  exact ret_mk [dB t] (by kernel_rfl) (by kernel_rfl) (by kernel_rfl) (by kernel_rfl)) h

def F_laws_FnScoresOk : Fun := fun avs H =>
  match avs, H with
  | [.dat (.list (.int .u8)) x16515], [] => ⟨_, laws_FnScoresOk x16515, fun (t : Bool) => (dB t, []), [], none⟩
  | _, _ => Ans.no

theorem laws_FnScoresOk_sound : Sound Try.prog 3 F_laws_FnScoresOk := by
  refine fn_sound' (C := laws_FnScoresOk_ctx) (c := bodyOf Try.f3) (cok_of tys_ok (allc spec_DrawScoresOk_sound (allc impl_ScoresOk_sound (allc spec_ScoresOk_sound (allc laws_alive_sound alln)))) (allc Try.call12 (allc Try.call13 (allc Try.call14 (allc Try.call15 alln)))) (by kernel_rfl)) Try.func3 (by kernel_rfl) LL laws_FnScoresOk_an ?_
  intro avs H r H' h
  unfold F_laws_FnScoresOk at h
  split at h
  · refine Awp.cast ?_ ?_ ?_ (laws_FnScoresOk_e _ h) <;> kernel_rfl
  · simp [Ans.no, Ans.run] at h


end Go.Rv
