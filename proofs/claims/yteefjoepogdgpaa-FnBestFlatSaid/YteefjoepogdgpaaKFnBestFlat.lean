/-
  The checked code answers as the plain functions do; written by program. Conditions: none.
-/
import Derived.Test.YteefjoepogdgpaaGFnBestFlat
import Derived.Test.YteefjoepogdgpaaProg
set_option linter.unusedVariables false
set_option linter.unusedSimpArgs false
set_option linter.defProp false
set_option maxRecDepth 100000
namespace Go.Rv
open Go.Proofs
theorem ty3 : TIOk Try.prog 3 ⟨.int .i64, 1, 8, some (.int .i64), [.int .i64 0], false⟩ := ⟨⟨infoOf (Try.prog.info? 3), by kernel_rfl, by kernel_rfl, by kernel_rfl, .int .i64 0, by kernel_rfl, by kernel_rfl⟩, (by kernel_rfl : Try.prog.underlying 3 = some (.int .i64)), no_eq⟩
theorem ty4 : TIOk Try.prog 4 ⟨.bool, 1, 1, some .bool, [.bool false], false⟩ := ⟨⟨infoOf (Try.prog.info? 4), by kernel_rfl, by kernel_rfl, by kernel_rfl, .bool false, by kernel_rfl, by kernel_rfl⟩, (by kernel_rfl : Try.prog.underlying 4 = some .bool), no_eq⟩
theorem ty5 : TIOk Try.prog 5 ⟨.int .u8, 1, 1, some (.int .u8), [.int .u8 0], false⟩ := ⟨⟨infoOf (Try.prog.info? 5), by kernel_rfl, by kernel_rfl, by kernel_rfl, .int .u8 0, by kernel_rfl, by kernel_rfl⟩, (by kernel_rfl : Try.prog.underlying 5 = some (.int .u8)), no_eq⟩
theorem ty22 : TIOk Try.prog 22 ⟨.slice 5, 1, 24, some (.list (.int .u8)), [.slice none 0 0], false⟩ := ⟨⟨infoOf (Try.prog.info? 22), by kernel_rfl, by kernel_rfl, by kernel_rfl, .slice none 0 0, by kernel_rfl, by kernel_rfl⟩, (by kernel_rfl : Try.prog.underlying 22 = some (.slice 5)), no_eq⟩
theorem ty23 : TIOk Try.prog 23 ⟨.slice 26, 1, 24, some (.list (.list (.int .i64))), [.slice none 0 0], false⟩ := ⟨⟨infoOf (Try.prog.info? 23), by kernel_rfl, by kernel_rfl, by kernel_rfl, .slice none 0 0, by kernel_rfl, by kernel_rfl⟩, (by kernel_rfl : Try.prog.underlying 23 = some (.slice 26)), no_eq⟩
theorem ty26 : TIOk Try.prog 26 ⟨.slice 3, 1, 24, some (.list (.int .i64)), [.slice none 0 0], false⟩ := ⟨⟨infoOf (Try.prog.info? 26), by kernel_rfl, by kernel_rfl, by kernel_rfl, .slice none 0 0, by kernel_rfl, by kernel_rfl⟩, (by kernel_rfl : Try.prog.underlying 26 = some (.slice 3)), no_eq⟩
theorem ty55 : TIOk Try.prog 55 ⟨.strct [(0, 23), (1, 26), (2, 26), (3, 3)], 4, 80, some (.pair (.list (.list (.int .i64))) (.pair (.list (.int .i64)) (.pair (.list (.int .i64)) (.pair (.int .i64) .unit)))), [.slice none 0 0, .slice none 0 0, .slice none 0 0, .int .i64 0], false⟩ := ⟨⟨infoOf (Try.prog.info? 55), by kernel_rfl, by kernel_rfl, by kernel_rfl, .agg #[.slice none 0 0, .slice none 0 0, .slice none 0 0, .int .i64 0], by kernel_rfl, by kernel_rfl⟩, ⟨fieldsOf (Try.prog.underlying 55), by kernel_rfl, by kernel_rfl⟩, no_eq⟩
theorem ty56 : TIOk Try.prog 56 ⟨.scalar, 1, 8, none, [.pointer none], false⟩ := ⟨⟨infoOf (Try.prog.info? 56), by kernel_rfl, by kernel_rfl, by kernel_rfl, .pointer none, by kernel_rfl, by kernel_rfl⟩, ⟨descOf (Try.prog.underlying 56), by kernel_rfl, by kernel_rfl⟩, no_eq⟩
theorem ty60 : TIOk Try.prog 60 ⟨.strct [(0, 3), (1, 3)], 2, 16, some (.pair (.int .i64) (.pair (.int .i64) .unit)), [.int .i64 0, .int .i64 0], false⟩ := ⟨⟨infoOf (Try.prog.info? 60), by kernel_rfl, by kernel_rfl, by kernel_rfl, .agg #[.int .i64 0, .int .i64 0], by kernel_rfl, by kernel_rfl⟩, ⟨fieldsOf (Try.prog.underlying 60), by kernel_rfl, by kernel_rfl⟩, no_eq⟩
theorem ty61 : TIOk Try.prog 61 ⟨.arr 6 60, 12, 96, none, [.int .i64 0, .int .i64 0, .int .i64 0, .int .i64 0, .int .i64 0, .int .i64 0, .int .i64 0, .int .i64 0, .int .i64 0, .int .i64 0, .int .i64 0, .int .i64 0], false⟩ := ⟨⟨infoOf (Try.prog.info? 61), by kernel_rfl, by kernel_rfl, by kernel_rfl, .agg #[.int .i64 0, .int .i64 0, .int .i64 0, .int .i64 0, .int .i64 0, .int .i64 0, .int .i64 0, .int .i64 0, .int .i64 0, .int .i64 0, .int .i64 0, .int .i64 0], by kernel_rfl, by kernel_rfl⟩, (by kernel_rfl : Try.prog.underlying 61 = some (.array 6 60)), no_eq⟩
theorem ty64 : TIOk Try.prog 64 ⟨.arr 7 3, 7, 56, none, [.int .i64 0, .int .i64 0, .int .i64 0, .int .i64 0, .int .i64 0, .int .i64 0, .int .i64 0], false⟩ := ⟨⟨infoOf (Try.prog.info? 64), by kernel_rfl, by kernel_rfl, by kernel_rfl, .agg #[.int .i64 0, .int .i64 0, .int .i64 0, .int .i64 0, .int .i64 0, .int .i64 0, .int .i64 0], by kernel_rfl, by kernel_rfl⟩, (by kernel_rfl : Try.prog.underlying 64 = some (.array 7 3)), no_eq⟩
theorem ty66 : TIOk Try.prog 66 ⟨.strct [(0, 64), (7, 64)], 14, 112, none, [.int .i64 0, .int .i64 0, .int .i64 0, .int .i64 0, .int .i64 0, .int .i64 0, .int .i64 0, .int .i64 0, .int .i64 0, .int .i64 0, .int .i64 0, .int .i64 0, .int .i64 0, .int .i64 0], false⟩ := ⟨⟨infoOf (Try.prog.info? 66), by kernel_rfl, by kernel_rfl, by kernel_rfl, .agg #[.int .i64 0, .int .i64 0, .int .i64 0, .int .i64 0, .int .i64 0, .int .i64 0, .int .i64 0, .int .i64 0, .int .i64 0, .int .i64 0, .int .i64 0, .int .i64 0, .int .i64 0, .int .i64 0], by kernel_rfl, by kernel_rfl⟩, ⟨fieldsOf (Try.prog.underlying 66), by kernel_rfl, by kernel_rfl⟩, no_eq⟩
theorem ty70 : TIOk Try.prog 70 ⟨.strct [(0, 3), (1, 3)], 2, 16, some (.pair (.int .i64) (.pair (.int .i64) .unit)), [.int .i64 0, .int .i64 0], false⟩ := ⟨⟨infoOf (Try.prog.info? 70), by kernel_rfl, by kernel_rfl, by kernel_rfl, .agg #[.int .i64 0, .int .i64 0], by kernel_rfl, by kernel_rfl⟩, ⟨fieldsOf (Try.prog.underlying 70), by kernel_rfl, by kernel_rfl⟩, no_eq⟩
theorem ty74 : TIOk Try.prog 74 ⟨.strct [(0, 22), (1, 3)], 2, 32, some (.pair (.list (.int .u8)) (.pair (.int .i64) .unit)), [.slice none 0 0, .int .i64 0], false⟩ := ⟨⟨infoOf (Try.prog.info? 74), by kernel_rfl, by kernel_rfl, by kernel_rfl, .agg #[.slice none 0 0, .int .i64 0], by kernel_rfl, by kernel_rfl⟩, ⟨fieldsOf (Try.prog.underlying 74), by kernel_rfl, by kernel_rfl⟩, no_eq⟩
theorem ty80 : TIOk Try.prog 80 ⟨.arr 6 61, 72, 576, none, [.int .i64 0, .int .i64 0, .int .i64 0, .int .i64 0, .int .i64 0, .int .i64 0, .int .i64 0, .int .i64 0, .int .i64 0, .int .i64 0, .int .i64 0, .int .i64 0, .int .i64 0, .int .i64 0, .int .i64 0, .int .i64 0, .int .i64 0, .int .i64 0, .int .i64 0, .int .i64 0, .int .i64 0, .int .i64 0, .int .i64 0, .int .i64 0, .int .i64 0, .int .i64 0, .int .i64 0, .int .i64 0, .int .i64 0, .int .i64 0, .int .i64 0, .int .i64 0, .int .i64 0, .int .i64 0, .int .i64 0, .int .i64 0, .int .i64 0, .int .i64 0, .int .i64 0, .int .i64 0, .int .i64 0, .int .i64 0, .int .i64 0, .int .i64 0, .int .i64 0, .int .i64 0, .int .i64 0, .int .i64 0, .int .i64 0, .int .i64 0, .int .i64 0, .int .i64 0, .int .i64 0, .int .i64 0, .int .i64 0, .int .i64 0, .int .i64 0, .int .i64 0, .int .i64 0, .int .i64 0, .int .i64 0, .int .i64 0, .int .i64 0, .int .i64 0, .int .i64 0, .int .i64 0, .int .i64 0, .int .i64 0, .int .i64 0, .int .i64 0, .int .i64 0, .int .i64 0], false⟩ := ⟨⟨infoOf (Try.prog.info? 80), by kernel_rfl, by kernel_rfl, by kernel_rfl, .agg #[.int .i64 0, .int .i64 0, .int .i64 0, .int .i64 0, .int .i64 0, .int .i64 0, .int .i64 0, .int .i64 0, .int .i64 0, .int .i64 0, .int .i64 0, .int .i64 0, .int .i64 0, .int .i64 0, .int .i64 0, .int .i64 0, .int .i64 0, .int .i64 0, .int .i64 0, .int .i64 0, .int .i64 0, .int .i64 0, .int .i64 0, .int .i64 0, .int .i64 0, .int .i64 0, .int .i64 0, .int .i64 0, .int .i64 0, .int .i64 0, .int .i64 0, .int .i64 0, .int .i64 0, .int .i64 0, .int .i64 0, .int .i64 0, .int .i64 0, .int .i64 0, .int .i64 0, .int .i64 0, .int .i64 0, .int .i64 0, .int .i64 0, .int .i64 0, .int .i64 0, .int .i64 0, .int .i64 0, .int .i64 0, .int .i64 0, .int .i64 0, .int .i64 0, .int .i64 0, .int .i64 0, .int .i64 0, .int .i64 0, .int .i64 0, .int .i64 0, .int .i64 0, .int .i64 0, .int .i64 0, .int .i64 0, .int .i64 0, .int .i64 0, .int .i64 0, .int .i64 0, .int .i64 0, .int .i64 0, .int .i64 0, .int .i64 0, .int .i64 0, .int .i64 0, .int .i64 0], by kernel_rfl, by kernel_rfl⟩, (by kernel_rfl : Try.prog.underlying 80 = some (.array 6 61)), no_eq⟩
theorem ty83 : TIOk Try.prog 83 ⟨.strct [(0, 64), (7, 64)], 14, 112, none, [.int .i64 0, .int .i64 0, .int .i64 0, .int .i64 0, .int .i64 0, .int .i64 0, .int .i64 0, .int .i64 0, .int .i64 0, .int .i64 0, .int .i64 0, .int .i64 0, .int .i64 0, .int .i64 0], false⟩ := ⟨⟨infoOf (Try.prog.info? 83), by kernel_rfl, by kernel_rfl, by kernel_rfl, .agg #[.int .i64 0, .int .i64 0, .int .i64 0, .int .i64 0, .int .i64 0, .int .i64 0, .int .i64 0, .int .i64 0, .int .i64 0, .int .i64 0, .int .i64 0, .int .i64 0, .int .i64 0, .int .i64 0], by kernel_rfl, by kernel_rfl⟩, ⟨fieldsOf (Try.prog.underlying 83), by kernel_rfl, by kernel_rfl⟩, no_eq⟩
theorem ty88 : TIOk Try.prog 88 ⟨.strct [(0, 26), (1, 3), (2, 3)], 3, 40, some (.pair (.list (.int .i64)) (.pair (.int .i64) (.pair (.int .i64) .unit))), [.slice none 0 0, .int .i64 0, .int .i64 0], false⟩ := ⟨⟨infoOf (Try.prog.info? 88), by kernel_rfl, by kernel_rfl, by kernel_rfl, .agg #[.slice none 0 0, .int .i64 0, .int .i64 0], by kernel_rfl, by kernel_rfl⟩, ⟨fieldsOf (Try.prog.underlying 88), by kernel_rfl, by kernel_rfl⟩, no_eq⟩
def tys : List (TypeId × TI) := [(3, ⟨.int .i64, 1, 8, some (.int .i64), [.int .i64 0], false⟩), (4, ⟨.bool, 1, 1, some .bool, [.bool false], false⟩), (5, ⟨.int .u8, 1, 1, some (.int .u8), [.int .u8 0], false⟩), (22, ⟨.slice 5, 1, 24, some (.list (.int .u8)), [.slice none 0 0], false⟩), (23, ⟨.slice 26, 1, 24, some (.list (.list (.int .i64))), [.slice none 0 0], false⟩), (26, ⟨.slice 3, 1, 24, some (.list (.int .i64)), [.slice none 0 0], false⟩), (55, ⟨.strct [(0, 23), (1, 26), (2, 26), (3, 3)], 4, 80, some (.pair (.list (.list (.int .i64))) (.pair (.list (.int .i64)) (.pair (.list (.int .i64)) (.pair (.int .i64) .unit)))), [.slice none 0 0, .slice none 0 0, .slice none 0 0, .int .i64 0], false⟩), (56, ⟨.scalar, 1, 8, none, [.pointer none], false⟩), (60, ⟨.strct [(0, 3), (1, 3)], 2, 16, some (.pair (.int .i64) (.pair (.int .i64) .unit)), [.int .i64 0, .int .i64 0], false⟩), (61, ⟨.arr 6 60, 12, 96, none, [.int .i64 0, .int .i64 0, .int .i64 0, .int .i64 0, .int .i64 0, .int .i64 0, .int .i64 0, .int .i64 0, .int .i64 0, .int .i64 0, .int .i64 0, .int .i64 0], false⟩), (64, ⟨.arr 7 3, 7, 56, none, [.int .i64 0, .int .i64 0, .int .i64 0, .int .i64 0, .int .i64 0, .int .i64 0, .int .i64 0], false⟩), (66, ⟨.strct [(0, 64), (7, 64)], 14, 112, none, [.int .i64 0, .int .i64 0, .int .i64 0, .int .i64 0, .int .i64 0, .int .i64 0, .int .i64 0, .int .i64 0, .int .i64 0, .int .i64 0, .int .i64 0, .int .i64 0, .int .i64 0, .int .i64 0], false⟩), (70, ⟨.strct [(0, 3), (1, 3)], 2, 16, some (.pair (.int .i64) (.pair (.int .i64) .unit)), [.int .i64 0, .int .i64 0], false⟩), (74, ⟨.strct [(0, 22), (1, 3)], 2, 32, some (.pair (.list (.int .u8)) (.pair (.int .i64) .unit)), [.slice none 0 0, .int .i64 0], false⟩), (80, ⟨.arr 6 61, 72, 576, none, [.int .i64 0, .int .i64 0, .int .i64 0, .int .i64 0, .int .i64 0, .int .i64 0, .int .i64 0, .int .i64 0, .int .i64 0, .int .i64 0, .int .i64 0, .int .i64 0, .int .i64 0, .int .i64 0, .int .i64 0, .int .i64 0, .int .i64 0, .int .i64 0, .int .i64 0, .int .i64 0, .int .i64 0, .int .i64 0, .int .i64 0, .int .i64 0, .int .i64 0, .int .i64 0, .int .i64 0, .int .i64 0, .int .i64 0, .int .i64 0, .int .i64 0, .int .i64 0, .int .i64 0, .int .i64 0, .int .i64 0, .int .i64 0, .int .i64 0, .int .i64 0, .int .i64 0, .int .i64 0, .int .i64 0, .int .i64 0, .int .i64 0, .int .i64 0, .int .i64 0, .int .i64 0, .int .i64 0, .int .i64 0, .int .i64 0, .int .i64 0, .int .i64 0, .int .i64 0, .int .i64 0, .int .i64 0, .int .i64 0, .int .i64 0, .int .i64 0, .int .i64 0, .int .i64 0, .int .i64 0, .int .i64 0, .int .i64 0, .int .i64 0, .int .i64 0, .int .i64 0, .int .i64 0, .int .i64 0, .int .i64 0, .int .i64 0, .int .i64 0, .int .i64 0, .int .i64 0], false⟩), (83, ⟨.strct [(0, 64), (7, 64)], 14, 112, none, [.int .i64 0, .int .i64 0, .int .i64 0, .int .i64 0, .int .i64 0, .int .i64 0, .int .i64 0, .int .i64 0, .int .i64 0, .int .i64 0, .int .i64 0, .int .i64 0, .int .i64 0, .int .i64 0], false⟩), (88, ⟨.strct [(0, 26), (1, 3), (2, 3)], 3, 40, some (.pair (.list (.int .i64)) (.pair (.int .i64) (.pair (.int .i64) .unit))), [.slice none 0 0, .int .i64 0, .int .i64 0], false⟩)]
theorem tys_ok : TOk Try.prog (tlook tys) := tok_of (allc ty3 (allc ty4 (allc ty5 (allc ty22 (allc ty23 (allc ty26 (allc ty55 (allc ty56 (allc ty60 (allc ty61 (allc ty64 (allc ty66 (allc ty70 (allc ty74 (allc ty80 (allc ty83 (allc ty88 alln)))))))))))))))))
def ioF (f : FuncId) (i : Nat) : Bool := [(35, 0), (50, 1), (56, 0), (70, 1), (46, 1002), (64, 1000)].any fun (p : Nat × Nat) => Nat.beq p.1 f && Nat.beq p.2 i


/-! loop.example/headtrees/spec.l20Open -/

def spec_l20Open_an : Ann := (.seq (.leaf [0]) (.seq (.seq (.leaf [0, 5]) (.cond (.leaf [0]) (.leaf [0]))) (.seq (.leaf [2]) (.leaf [2]))))

noncomputable def spec_l20Open_ctx : Ctx := ⟨tlook tys, olook [], ioF, 0, false, []⟩

theorem spec_l20Open_n1_l (x16521 : List Int) : Link spec_l20Open_ctx LL (bodyOf Try.f38) spec_l20Open_an ⟨mkE 11 0 [(0, dV x16521)], []⟩ (spec_l20Open_n1 x16521) (fun (t : (List Int)) => (Exit.ret, ⟨mkE 11 0 [(2, .ptr 0 0)], [some (.box [dV t, dI 0])]⟩)) := by
  refine Link.of fun K h => ?_
  simp only [spec_l20Open_n1, wpO_bind, wpO_cond, wpO_map, wpO_some] at h
  exact Awp.of (by kernel_rfl) h

theorem spec_l20Open_e (x16521 : List Int) {r : AV} {H' : Heap} (h : (Ans.mk _ (spec_l20Open x16521) (fun (t : (List Int)) => (.ptr 0 0, [some (.box [dV t, dI 0])])) [] none).run = some (r, H')) : Awp spec_l20Open_ctx LL (bodyOf Try.f38) spec_l20Open_an ⟨mkE 11 0 [(0, dV x16521)], []⟩ (Ret (tlook tys) Try.f38.results.toList r H') :=
  ret_of' (spec_l20Open_n1_l x16521) (by unfold spec_l20Open; kernel_rfl) (by
  intro t
  exact ret_mk [.ptr 0 0] (by kernel_rfl) (by kernel_rfl) (by kernel_rfl) (by kernel_rfl)) h

def F_spec_l20Open : Fun := fun avs H =>
  match avs, H with
  | [.dat (.list (.int .u8)) x16521], [] => ⟨_, spec_l20Open x16521, fun (t : (List Int)) => (.ptr 0 0, [some (.box [dV t, dI 0])]), [], none⟩
  | _, _ => Ans.no

theorem spec_l20Open_sound : Sound Try.prog 38 F_spec_l20Open := by
  refine fn_sound' (C := spec_l20Open_ctx) (c := bodyOf Try.f38) (cok_of tys_ok (alln) (alln) (by kernel_rfl)) Try.func38 (by kernel_rfl) LL spec_l20Open_an ?_
  intro avs H r H' h
  unfold F_spec_l20Open at h
  split at h
  · refine Awp.cast ?_ ?_ ?_ (spec_l20Open_e _ h) <;> kernel_rfl
  · simp [Ans.no, Ans.run] at h


/-! (*loop.example/headtrees/spec.l20Rd).pick -/

def spec_l20Rd_pick_an : Ann := (.seq (.leaf [0, 1]) (.seq (.leaf [0, 1]) (.seq (.seq (.leaf [0, 1, 24]) (.cond (.seq (.leaf [4]) (.leaf [4])) (.leaf [0, 1]))) (.seq (.leaf [0, 1, 5]) (.seq (.seq (.leaf [0, 1, 5, 36]) (.cond (.seq (.leaf [4]) (.leaf [4])) (.leaf [0, 1, 5]))) (.seq (.draw [] [0, 1, 2, 3, 4, 5, 6, 7, 8, 9, 10, 11, 12, 13, 14, 15, 16, 17, 18, 19, 20, 21, 22, 23, 24, 25, 26, 27, 28, 29, 30, 31, 32, 33, 34, 35, 36, 37, 38, 39, 40, 41, 42, 43, 44, 45] [] [1, 6]) (.seq (.leaf [1, 6]) (.seq (.leaf [4]) (.leaf [4])))))))))

noncomputable def spec_l20Rd_pick_ctx : Ctx := ⟨tlook tys, olook [], ioF, 1, false, []⟩

theorem spec_l20Rd_pick_n1_l (x16542 : Int) (x16543 : List Int) (x16544 : Int) : Link spec_l20Rd_pick_ctx LL (bodyOf Try.f51) spec_l20Rd_pick_an ⟨mkE 99 0 [(0, .ptr 0 0), (1, dI x16542)], [some (.box [dV x16543, dI x16544])]⟩ (spec_l20Rd_pick_n1 x16542 x16543 x16544) (fun (t : Int × Int) => (Exit.ret, ⟨mkE 99 0 [(4, dI t.1)], [some (.box [dV x16543, dI t.2])]⟩)) := by
  refine Link.of fun K h => ?_
  simp only [spec_l20Rd_pick_n1, wpO_bind, wpO_cond, wpO_map, wpO_some] at h
  exact Awp.of (by kernel_rfl) h

theorem spec_l20Rd_pick_e (x16542 : Int) (x16543 : List Int) (x16544 : Int) {r : AV} {H' : Heap} (h : (Ans.mk _ (spec_l20Rd_pick x16542 x16543 x16544) (fun (t : Int × Int) => (dI t.1, [some (.box [dV x16543, dI t.2])])) [] none).run = some (r, H')) : Awp spec_l20Rd_pick_ctx LL (bodyOf Try.f51) spec_l20Rd_pick_an ⟨mkE 99 0 [(0, .ptr 0 0), (1, dI x16542)], [some (.box [dV x16543, dI x16544])]⟩ (Ret (tlook tys) Try.f51.results.toList r H') :=
  ret_of' (spec_l20Rd_pick_n1_l x16542 x16543 x16544) (by unfold spec_l20Rd_pick; kernel_rfl) (by
  intro t
  exact ret_mk [dI t.1] (by kernel_rfl) (by kernel_rfl) (by kernel_rfl) (by kernel_rfl)) h

def F_spec_l20Rd_pick : Fun := fun avs H =>
  match avs, H with
  | [.ptr 0 0, .dat (.int .i64) x16542], [some (.box [.dat (.list (.int .u8)) x16543, .dat (.int .i64) x16544])] => ⟨_, spec_l20Rd_pick x16542 x16543 x16544, fun (t : Int × Int) => (dI t.1, [some (.box [dV x16543, dI t.2])]), [], none⟩
  | _, _ => Ans.no

theorem spec_l20Rd_pick_sound : Sound Try.prog 51 F_spec_l20Rd_pick := by
  refine fn_sound' (C := spec_l20Rd_pick_ctx) (c := bodyOf Try.f51) (cok_of tys_ok (alln) (alln) (by kernel_rfl)) Try.func51 (by kernel_rfl) LL spec_l20Rd_pick_an ?_
  intro avs H r H' h
  unfold F_spec_l20Rd_pick at h
  split at h
  · refine Awp.cast ?_ ?_ ?_ (spec_l20Rd_pick_e _ _ _ h) <;> kernel_rfl
  · simp [Ans.no, Ans.run] at h


/-! (*loop.example/headtrees/spec.l20Rd).odd -/

def spec_l20Rd_odd_an : Ann := (.seq (.leaf [0, 1]) (.seq (.leaf [4]) (.leaf [4])))

noncomputable def spec_l20Rd_odd_ctx : Ctx := ⟨tlook tys, olook [(51, F_spec_l20Rd_pick)], ioF, 1, false, []⟩

theorem spec_l20Rd_odd_n1_l (x16818 : Int) (x16819 : List Int) (x16820 : Int) : Link spec_l20Rd_odd_ctx LL (bodyOf Try.f58) spec_l20Rd_odd_an ⟨mkE 15 0 [(0, .ptr 0 0), (1, dI x16818)], [some (.box [dV x16819, dI x16820])]⟩ (spec_l20Rd_odd_n1 x16818 x16819 x16820) (fun (t : Bool × Int) => (Exit.ret, ⟨mkE 15 0 [(4, dB t.1)], [some (.box [dV x16819, dI t.2])]⟩)) := by
  refine Link.of fun K h => ?_
  simp only [spec_l20Rd_odd_n1, wpO_bind, wpO_cond, wpO_map, wpO_some] at h
  exact Awp.of (by kernel_rfl) h

theorem spec_l20Rd_odd_e (x16818 : Int) (x16819 : List Int) (x16820 : Int) {r : AV} {H' : Heap} (h : (Ans.mk _ (spec_l20Rd_odd x16818 x16819 x16820) (fun (t : Bool × Int) => (dB t.1, [some (.box [dV x16819, dI t.2])])) [] none).run = some (r, H')) : Awp spec_l20Rd_odd_ctx LL (bodyOf Try.f58) spec_l20Rd_odd_an ⟨mkE 15 0 [(0, .ptr 0 0), (1, dI x16818)], [some (.box [dV x16819, dI x16820])]⟩ (Ret (tlook tys) Try.f58.results.toList r H') :=
  ret_of' (spec_l20Rd_odd_n1_l x16818 x16819 x16820) (by unfold spec_l20Rd_odd; kernel_rfl) (by
  intro t
  exact ret_mk [dB t.1] (by kernel_rfl) (by kernel_rfl) (by kernel_rfl) (by kernel_rfl)) h

def F_spec_l20Rd_odd : Fun := fun avs H =>
  match avs, H with
  | [.ptr 0 0, .dat (.int .i64) x16818], [some (.box [.dat (.list (.int .u8)) x16819, .dat (.int .i64) x16820])] => ⟨_, spec_l20Rd_odd x16818 x16819 x16820, fun (t : Bool × Int) => (dB t.1, [some (.box [dV x16819, dI t.2])]), [], none⟩
  | _, _ => Ans.no

theorem spec_l20Rd_odd_sound : Sound Try.prog 58 F_spec_l20Rd_odd := by
  refine fn_sound' (C := spec_l20Rd_odd_ctx) (c := bodyOf Try.f58) (cok_of tys_ok (allc spec_l20Rd_pick_sound alln) (allc Try.call51 alln) (by kernel_rfl)) Try.func58 (by kernel_rfl) LL spec_l20Rd_odd_an ?_
  intro avs H r H' h
  unfold F_spec_l20Rd_odd at h
  split at h
  · refine Awp.cast ?_ ?_ ?_ (spec_l20Rd_odd_e _ _ _ h) <;> kernel_rfl
  · simp [Ans.no, Ans.run] at h


/-! loop.example/headtrees/spec.l20Scores -/

def spec_l20Scores_an : Ann := (.seq (.leaf [0, 1]) (.seq (.leaf [0, 1, 5]) (.seq (.leaf [0, 1, 5, 6]) (.seq (.leaf [0, 1, 5, 6, 7]) (.seq (.seq (.leaf [0, 1, 5, 6, 7, 8]) (.block (.loop (.seq (.seq (.leaf [0, 1, 5, 6, 7, 8, 26]) (.cond (.leaf [0, 1, 5, 6, 7, 8]) (.leaf [0, 1, 7]))) (.seq (.block (.seq (.leaf [0, 1, 5, 6, 7, 8, 9]) (.seq (.seq (.leaf [0, 1, 5, 6, 7, 8, 9, 10]) (.block (.loop (.seq (.seq (.leaf [0, 1, 5, 6, 7, 8, 9, 10, 32]) (.cond (.leaf [0, 1, 5, 6, 7, 8, 9, 10]) (.leaf [0, 1, 5, 6, 7, 8, 9]))) (.seq (.block (.leaf [0, 1, 5, 6, 7, 8, 9, 10])) (.leaf [0, 1, 5, 6, 7, 8, 9, 10])))))) (.leaf [0, 1, 5, 6, 7, 8])))) (.leaf [0, 1, 5, 6, 7, 8])))))) (.seq (.seq (.leaf [0, 7, 47]) (.cond (.seq (.leaf [7, 49]) (.block (.seq (.leaf [7, 49, 54]) (.cond (.seq (.leaf [4]) (.leaf [4])) (.seq (.leaf [7, 57]) (.cond (.leaf [7]) (.leafF [⟨5, 7, true, some 0, none⟩] [7]))))))) (.leaf [7]))) (.seq (.leaf [4]) (.leaf [4]))))))))

noncomputable def spec_l20Scores_ctx : Ctx := ⟨tlook tys, olook [(51, F_spec_l20Rd_pick), (58, F_spec_l20Rd_odd)], ioF, 1, true, []⟩

theorem spec_l20Scores_n1_l (x16539 : Int) (x16540 : List Int) (x16541 : Int) : Link spec_l20Scores_ctx LL (Code.seq (cq [0] (bodyOf Try.f37)) (Code.seq (cq [0,1] (bodyOf Try.f37)) (Code.seq (cq [0,1,1] (bodyOf Try.f37)) (cq [0,1,1,1] (bodyOf Try.f37))))) (Ann.seq (aq [0] spec_l20Scores_an) (Ann.seq (aq [0,1] spec_l20Scores_an) (Ann.seq (aq [0,1,1] spec_l20Scores_an) (aq [0,1,1,1] spec_l20Scores_an)))) ⟨mkE 66 0 [(0, .ptr 0 0), (1, dI x16539)], [some (.box [dV x16540, dI x16541])]⟩ (spec_l20Scores_n1 x16540 x16541) (fun (t : Int × Int × Int) => (Exit.normal, ⟨mkE 66 0 [(0, .ptr 0 0), (1, dI x16539), (5, dI t.1), (6, dI t.2.1), (7, .slc 1)], [some (.box [dV x16540, dI t.2.2]), some (.nest (.int .i64) ([] : List (List Int)) 0 [])]⟩)) := by
  refine Link.of fun K h => ?_
  simp only [spec_l20Scores_n1, wpO_bind, wpO_cond, wpO_map, wpO_some] at h
  exact Awp.of (by kernel_rfl) h

theorem spec_l20Scores_n2_l (x16539 : Int) (x16891 : Int) (x16897 : Int) (x16540 : List Int) (x16895 : Int) : Link spec_l20Scores_ctx LL (cq [0,0,1,1,1,1] (bodyOf Try.f37)) (aq [0,0,1,1,1,1] spec_l20Scores_an) ⟨mkE 66 0 [(0, .ptr 0 0), (1, dI x16539), (5, dI x16891), (6, dI x16897), (7, .slc 1)], [some (.box [dV x16540, dI x16895]), some (.nest (.int .i64) ([] : List (List Int)) 0 [])]⟩ (spec_l20Scores_n2) (fun (t : Unit) => (Exit.normal, ⟨mkE 66 0 [(0, .ptr 0 0), (1, dI x16539), (5, dI x16891), (6, dI x16897), (7, .slc 1), (8, dI 0)], [some (.box [dV x16540, dI x16895]), some (.nest (.int .i64) ([] : List (List Int)) 0 [])]⟩)) := by
  refine Link.of fun K h => ?_
  simp only [spec_l20Scores_n2, wpO_bind, wpO_cond, wpO_map, wpO_some] at h
  exact Awp.of (by kernel_rfl) h

theorem spec_l20Scores_n3_l (x16539 : Int) (x16891 : Int) (x16897 : Int) (x16941 : Int) (x16540 : List Int) (x16942 : Int) (x16943 : List (List Int)) : Link spec_l20Scores_ctx LL (cq [0,0,0,1,0,1,1,1,1] (bodyOf Try.f37)) (aq [0,0,0,1,0,1,1,1,1] spec_l20Scores_an) ⟨mkE 66 0 [(0, .ptr 0 0), (1, dI x16539), (5, dI x16891), (6, dI x16897), (7, .slc 1), (8, dI x16941)], [some (.box [dV x16540, dI x16942]), some (.nest (.int .i64) x16943 0 [])]⟩ (spec_l20Scores_n3 x16891 x16941 x16942 x16943) (Sum.elim (fun (t : Unit) => (Exit.normal, ⟨mkE 66 0 [(0, .ptr 0 0), (1, dI x16539), (5, dI x16891), (6, dI x16897), (7, .slc 1), (8, dI x16941)], [some (.box [dV x16540, dI x16942]), some (.nest (.int .i64) x16943 0 [])]⟩)) (fun (t : Int × (List (List Int))) => ((Exit.exit 0), ⟨mkE 66 0 [(0, .ptr 0 0), (1, dI x16539), (7, .slc 1)], [some (.box [dV x16540, dI t.1]), some (.nest (.int .i64) t.2 0 [])]⟩))) := by
  refine Link.of fun K h => ?_
  simp only [spec_l20Scores_n3, wpO_bind, wpO_cond, wpO_map, wpO_some] at h
  exact Awp.of (by kernel_rfl) h

theorem spec_l20Scores_n4_l (x16539 : Int) (x16891 : Int) (x16897 : Int) (x16941 : Int) (x16540 : List Int) (x16942 : Int) (x16943 : List (List Int)) : Link spec_l20Scores_ctx LL (cq [0,0,0,1,0,0,1,0,1,1,1,1] (bodyOf Try.f37)) (aq [0,0,0,1,0,0,1,0,1,1,1,1] spec_l20Scores_an) ⟨mkE 66 0 [(0, .ptr 0 0), (1, dI x16539), (5, dI x16891), (6, dI x16897), (7, .slc 1), (8, dI x16941)], [some (.box [dV x16540, dI x16942]), some (.nest (.int .i64) x16943 0 [])]⟩ (spec_l20Scores_n4) (fun (t : Unit) => (Exit.normal, ⟨mkE 66 0 [(0, .ptr 0 0), (1, dI x16539), (5, dI x16891), (6, dI x16897), (7, .slc 1), (8, dI x16941), (9, .slc 2)], [some (.box [dV x16540, dI x16942]), some (.nest (.int .i64) x16943 0 []), some (sI ([] : List Int))]⟩)) := by
  refine Link.of fun K h => ?_
  simp only [spec_l20Scores_n4, wpO_bind, wpO_cond, wpO_map, wpO_some] at h
  exact Awp.of (by kernel_rfl) h

theorem spec_l20Scores_n5_l (x16539 : Int) (x16891 : Int) (x16897 : Int) (x16941 : Int) (x16540 : List Int) (x16942 : Int) (x16943 : List (List Int)) : Link spec_l20Scores_ctx LL (cq [0,0,1,0,0,1,0,0,1,0,1,1,1,1] (bodyOf Try.f37)) (aq [0,0,1,0,0,1,0,0,1,0,1,1,1,1] spec_l20Scores_an) ⟨mkE 66 0 [(0, .ptr 0 0), (1, dI x16539), (5, dI x16891), (6, dI x16897), (7, .slc 1), (8, dI x16941), (9, .slc 2)], [some (.box [dV x16540, dI x16942]), some (.nest (.int .i64) x16943 0 []), some (sI ([] : List Int))]⟩ (spec_l20Scores_n5) (fun (t : Unit) => (Exit.normal, ⟨mkE 66 0 [(0, .ptr 0 0), (1, dI x16539), (5, dI x16891), (6, dI x16897), (7, .slc 1), (8, dI x16941), (9, .slc 2), (10, dI 0)], [some (.box [dV x16540, dI x16942]), some (.nest (.int .i64) x16943 0 []), some (sI ([] : List Int))]⟩)) := by
  refine Link.of fun K h => ?_
  simp only [spec_l20Scores_n5, wpO_bind, wpO_cond, wpO_map, wpO_some] at h
  exact Awp.of (by kernel_rfl) h

theorem spec_l20Scores_n6_l (x16539 : Int) (x16891 : Int) (x16897 : Int) (x16941 : Int) (x16963 : Int) (x16540 : List Int) (x16964 : Int) (x16943 : List (List Int)) (x16965 : List Int) : Link spec_l20Scores_ctx LL (cq [0,0,1,0,1,0,0,1,0,0,1,0,1,1,1,1] (bodyOf Try.f37)) (aq [0,0,1,0,1,0,0,1,0,0,1,0,1,1,1,1] spec_l20Scores_an) ⟨mkE 66 0 [(0, .ptr 0 0), (1, dI x16539), (5, dI x16891), (6, dI x16897), (7, .slc 1), (8, dI x16941), (9, .slc 2), (10, dI x16963)], [some (.box [dV x16540, dI x16964]), some (.nest (.int .i64) x16943 0 []), some (sI x16965)]⟩ (spec_l20Scores_n6 x16891 x16897 x16963 x16540 x16964 x16965) (Sum.elim (fun (t : Int × Int × (List Int)) => (Exit.normal, ⟨mkE 66 0 [(0, .ptr 0 0), (1, dI x16539), (5, dI x16891), (6, dI x16897), (7, .slc 1), (8, dI x16941), (9, .slc 2), (10, dI t.1)], [some (.box [dV x16540, dI t.2.1]), some (.nest (.int .i64) x16943 0 []), some (sI t.2.2)]⟩)) (fun (t : Int × (List Int)) => ((Exit.exit 2), ⟨mkE 66 0 [(0, .ptr 0 0), (1, dI x16539), (5, dI x16891), (6, dI x16897), (7, .slc 1), (8, dI x16941), (9, .slc 2)], [some (.box [dV x16540, dI t.1]), some (.nest (.int .i64) x16943 0 []), some (sI t.2)]⟩))) := by
  refine Link.of fun K h => ?_
  simp only [spec_l20Scores_n6, wpO_bind, wpO_cond, wpO_map, wpO_some] at h
  exact Awp.of (by kernel_rfl) h

def spec_l20Scores_n7_l (x16539 : Int) (x16891 : Int) (x16897 : Int) (x16941 : Int) (x16540 : List Int) (x16942 : Int) (x16943 : List (List Int)) := (link_loop (mk := fun (s : Int × Int × (List Int)) => ⟨mkE 66 0 [(0, .ptr 0 0), (1, dI x16539), (5, dI x16891), (6, dI x16897), (7, .slc 1), (8, dI x16941), (9, .slc 2), (10, dI s.1)], [some (.box [dV x16540, dI s.2.1]), some (.nest (.int .i64) x16943 0 []), some (sI s.2.2)]⟩) (fin := (fun (t : Int × (List Int)) => ((Exit.exit 2), ⟨mkE 66 0 [(0, .ptr 0 0), (1, dI x16539), (5, dI x16891), (6, dI x16897), (7, .slc 1), (8, dI x16941), (9, .slc 2)], [some (.box [dV x16540, dI t.1]), some (.nest (.int .i64) x16943 0 []), some (sI t.2)]⟩))) (by
  rintro t f K h
  · exact h) (fun s => link_map (spec_l20Scores_n6_l x16539 x16891 x16897 x16941 s.1 x16540 s.2.1 x16943 s.2.2) (Sum.elim (fun (t : Int × Int × (List Int)) => Sum.inl (t.1, t.2.1, t.2.2)) (fun (t : Int × (List Int)) => Sum.inr t)) (by
  rintro (t | t)
  · kernel_rfl
  · kernel_rfl)) (0, x16942, ([] : List Int)))

def spec_l20Scores_n8_l (x16539 : Int) (x16891 : Int) (x16897 : Int) (x16941 : Int) (x16540 : List Int) (x16942 : Int) (x16943 : List (List Int)) := (link_block (fin2 := (fun (t : Int × (List Int)) => (Exit.normal, ⟨mkE 66 0 [(0, .ptr 0 0), (1, dI x16539), (5, dI x16891), (6, dI x16897), (7, .slc 1), (8, dI x16941), (9, .slc 2)], [some (.box [dV x16540, dI t.1]), some (.nest (.int .i64) x16943 0 []), some (sI t.2)]⟩))) (id := 2) (spec_l20Scores_n7_l x16539 x16891 x16897 x16941 x16540 x16942 x16943) (fun (t : Int × (List Int)) => (t.1, t.2)) (by
  rintro t K h
  · exact Eq.mp (by kernel_rfl) h))

def spec_l20Scores_n9_l (x16539 : Int) (x16891 : Int) (x16897 : Int) (x16941 : Int) (x16540 : List Int) (x16942 : Int) (x16943 : List (List Int)) := (link_seq (spec_l20Scores_n5_l x16539 x16891 x16897 x16941 x16540 x16942 x16943) (fun (t : Unit) => (spec_l20Scores_n8_l x16539 x16891 x16897 x16941 x16540 x16942 x16943)))

theorem spec_l20Scores_n10_l (x16539 : Int) (x16891 : Int) (x16897 : Int) (x16941 : Int) (x16540 : List Int) (x16964 : Int) (x16943 : List (List Int)) (x16965 : List Int) : Link spec_l20Scores_ctx LL (cq [1,1,0,0,1,0,0,1,0,1,1,1,1] (bodyOf Try.f37)) (aq [1,1,0,0,1,0,0,1,0,1,1,1,1] spec_l20Scores_an) ⟨mkE 66 0 [(0, .ptr 0 0), (1, dI x16539), (5, dI x16891), (6, dI x16897), (7, .slc 1), (8, dI x16941), (9, .slc 2)], [some (.box [dV x16540, dI x16964]), some (.nest (.int .i64) x16943 0 []), some (sI x16965)]⟩ (spec_l20Scores_n10 x16943 x16965) (fun (t : (List (List Int))) => (Exit.normal, ⟨mkE 66 0 [(0, .ptr 0 0), (1, dI x16539), (5, dI x16891), (6, dI x16897), (7, .slc 1), (8, dI x16941)], [some (.box [dV x16540, dI x16964]), some (.nest (.int .i64) t 0 [])]⟩)) := by
  refine Link.of fun K h => ?_
  simp only [spec_l20Scores_n10, wpO_bind, wpO_cond, wpO_map, wpO_some] at h
  exact Awp.of (by kernel_rfl) h

def spec_l20Scores_n11_l (x16539 : Int) (x16891 : Int) (x16897 : Int) (x16941 : Int) (x16540 : List Int) (x16942 : Int) (x16943 : List (List Int)) := (link_seq (spec_l20Scores_n9_l x16539 x16891 x16897 x16941 x16540 x16942 x16943) (fun (t : Int × (List Int)) => (link_map (fin2 := (fun (t : Int × (List (List Int))) => (Exit.normal, ⟨mkE 66 0 [(0, .ptr 0 0), (1, dI x16539), (5, dI x16891), (6, dI x16897), (7, .slc 1), (8, dI x16941)], [some (.box [dV x16540, dI t.1]), some (.nest (.int .i64) t.2 0 [])]⟩))) (spec_l20Scores_n10_l x16539 x16891 x16897 x16941 x16540 t.1 x16943 t.2) (fun (u : (List (List Int))) => (t.1, u)) (by
  rintro t
  · kernel_rfl))))

def spec_l20Scores_n12_l (x16539 : Int) (x16891 : Int) (x16897 : Int) (x16941 : Int) (x16540 : List Int) (x16942 : Int) (x16943 : List (List Int)) := (link_seq (spec_l20Scores_n4_l x16539 x16891 x16897 x16941 x16540 x16942 x16943) (fun (t : Unit) => (spec_l20Scores_n11_l x16539 x16891 x16897 x16941 x16540 x16942 x16943)))

def spec_l20Scores_n13_l (x16539 : Int) (x16891 : Int) (x16897 : Int) (x16941 : Int) (x16540 : List Int) (x16942 : Int) (x16943 : List (List Int)) := (link_block (fin2 := (fun (t : Int × (List (List Int))) => (Exit.normal, ⟨mkE 66 0 [(0, .ptr 0 0), (1, dI x16539), (5, dI x16891), (6, dI x16897), (7, .slc 1), (8, dI x16941)], [some (.box [dV x16540, dI t.1]), some (.nest (.int .i64) t.2 0 [])]⟩))) (id := 1) (spec_l20Scores_n12_l x16539 x16891 x16897 x16941 x16540 x16942 x16943) (fun (t : Int × (List (List Int))) => (t.1, t.2)) (by
  rintro t K h
  · exact Eq.mp (by kernel_rfl) h))

theorem spec_l20Scores_n14_l (x16539 : Int) (x16891 : Int) (x16897 : Int) (x16941 : Int) (x16540 : List Int) (x16964 : Int) (x16985 : List (List Int)) : Link spec_l20Scores_ctx LL (cq [1,1,0,0,1,0,1,1,1,1] (bodyOf Try.f37)) (aq [1,1,0,0,1,0,1,1,1,1] spec_l20Scores_an) ⟨mkE 66 0 [(0, .ptr 0 0), (1, dI x16539), (5, dI x16891), (6, dI x16897), (7, .slc 1), (8, dI x16941)], [some (.box [dV x16540, dI x16964]), some (.nest (.int .i64) x16985 0 [])]⟩ (spec_l20Scores_n14 x16941) (fun (t : Int) => (Exit.normal, ⟨mkE 66 0 [(0, .ptr 0 0), (1, dI x16539), (5, dI x16891), (6, dI x16897), (7, .slc 1), (8, dI t)], [some (.box [dV x16540, dI x16964]), some (.nest (.int .i64) x16985 0 [])]⟩)) := by
  refine Link.of fun K h => ?_
  simp only [spec_l20Scores_n14, wpO_bind, wpO_cond, wpO_map, wpO_some] at h
  exact Awp.of (by kernel_rfl) h

def spec_l20Scores_n15_l (x16539 : Int) (x16891 : Int) (x16897 : Int) (x16941 : Int) (x16540 : List Int) (x16942 : Int) (x16943 : List (List Int)) := (link_seq (spec_l20Scores_n13_l x16539 x16891 x16897 x16941 x16540 x16942 x16943) (fun (t : Int × (List (List Int))) => (link_map (fin2 := (fun (t : Int × Int × (List (List Int))) => (Exit.normal, ⟨mkE 66 0 [(0, .ptr 0 0), (1, dI x16539), (5, dI x16891), (6, dI x16897), (7, .slc 1), (8, dI t.1)], [some (.box [dV x16540, dI t.2.1]), some (.nest (.int .i64) t.2.2 0 [])]⟩))) (spec_l20Scores_n14_l x16539 x16891 x16897 x16941 x16540 t.1 t.2) (fun (u : Int) => (u, t.1, t.2)) (by
  rintro t
  · kernel_rfl))))

def spec_l20Scores_n16_l (x16539 : Int) (x16891 : Int) (x16897 : Int) (x16941 : Int) (x16540 : List Int) (x16942 : Int) (x16943 : List (List Int)) := (link_seq2 (spec_l20Scores_n3_l x16539 x16891 x16897 x16941 x16540 x16942 x16943) (fun (t : Unit) => (link_map (fin2 := (Sum.elim (fun (t : Int × Int × (List (List Int))) => (Exit.normal, ⟨mkE 66 0 [(0, .ptr 0 0), (1, dI x16539), (5, dI x16891), (6, dI x16897), (7, .slc 1), (8, dI t.1)], [some (.box [dV x16540, dI t.2.1]), some (.nest (.int .i64) t.2.2 0 [])]⟩)) (fun (t : Int × (List (List Int))) => ((Exit.exit 0), ⟨mkE 66 0 [(0, .ptr 0 0), (1, dI x16539), (7, .slc 1)], [some (.box [dV x16540, dI t.1]), some (.nest (.int .i64) t.2 0 [])]⟩)))) (spec_l20Scores_n15_l x16539 x16891 x16897 x16941 x16540 x16942 x16943) (fun (t : Int × Int × (List (List Int))) => (Sum.inl (t.1, t.2.1, t.2.2))) (by
  rintro t
  · kernel_rfl))) (fun (t : Int × (List (List Int))) => (Sum.inr t)) (by
  rintro t
  · kernel_rfl) (by
  rintro t f K h
  · exact h))

def spec_l20Scores_n17_l (x16539 : Int) (x16891 : Int) (x16897 : Int) (x16540 : List Int) (x16895 : Int) := (link_loop (mk := fun (s : Int × Int × (List (List Int))) => ⟨mkE 66 0 [(0, .ptr 0 0), (1, dI x16539), (5, dI x16891), (6, dI x16897), (7, .slc 1), (8, dI s.1)], [some (.box [dV x16540, dI s.2.1]), some (.nest (.int .i64) s.2.2 0 [])]⟩) (fin := (fun (t : Int × (List (List Int))) => ((Exit.exit 0), ⟨mkE 66 0 [(0, .ptr 0 0), (1, dI x16539), (7, .slc 1)], [some (.box [dV x16540, dI t.1]), some (.nest (.int .i64) t.2 0 [])]⟩))) (by
  rintro t f K h
  · exact h) (fun s => link_map (spec_l20Scores_n16_l x16539 x16891 x16897 s.1 x16540 s.2.1 s.2.2) (Sum.elim (fun (t : Int × Int × (List (List Int))) => Sum.inl (t.1, t.2.1, t.2.2)) (fun (t : Int × (List (List Int))) => Sum.inr t)) (by
  rintro (t | t)
  · kernel_rfl
  · kernel_rfl)) (0, x16895, ([] : List (List Int))))

def spec_l20Scores_n18_l (x16539 : Int) (x16891 : Int) (x16897 : Int) (x16540 : List Int) (x16895 : Int) := (link_block (fin2 := (fun (t : Int × (List (List Int))) => (Exit.normal, ⟨mkE 66 0 [(0, .ptr 0 0), (1, dI x16539), (7, .slc 1)], [some (.box [dV x16540, dI t.1]), some (.nest (.int .i64) t.2 0 [])]⟩))) (id := 0) (spec_l20Scores_n17_l x16539 x16891 x16897 x16540 x16895) (fun (t : Int × (List (List Int))) => (t.1, t.2)) (by
  rintro t K h
  · exact Eq.mp (by kernel_rfl) h))

def spec_l20Scores_n19_l (x16539 : Int) (x16891 : Int) (x16897 : Int) (x16540 : List Int) (x16895 : Int) := (link_seq (spec_l20Scores_n2_l x16539 x16891 x16897 x16540 x16895) (fun (t : Unit) => (spec_l20Scores_n18_l x16539 x16891 x16897 x16540 x16895)))

theorem spec_l20Scores_n20_l (x16539 : Int) (x16540 : List Int) (x16942 : Int) (x16943 : List (List Int)) : Link spec_l20Scores_ctx LL (cq [1,1,1,1,1] (bodyOf Try.f37)) (aq [1,1,1,1,1] spec_l20Scores_an) ⟨mkE 66 0 [(0, .ptr 0 0), (1, dI x16539), (7, .slc 1)], [some (.box [dV x16540, dI x16942]), some (.nest (.int .i64) x16943 0 [])]⟩ (spec_l20Scores_n20 x16539 x16540 x16942 x16943) (fun (t : Int × (List (List Int))) => (Exit.ret, ⟨mkE 66 0 [(4, .slc 1)], [some (.box [dV x16540, dI t.1]), some (.nest (.int .i64) t.2 0 [])]⟩)) := by
  refine Link.of fun K h => ?_
  simp only [spec_l20Scores_n20, wpO_bind, wpO_cond, wpO_map, wpO_some] at h
  exact Awp.of (by kernel_rfl) h

def spec_l20Scores_n21_l (x16539 : Int) (x16891 : Int) (x16897 : Int) (x16540 : List Int) (x16895 : Int) := (link_seq (spec_l20Scores_n19_l x16539 x16891 x16897 x16540 x16895) (fun (t : Int × (List (List Int))) => (spec_l20Scores_n20_l x16539 x16540 t.1 t.2)))

def spec_l20Scores_n22_l (x16539 : Int) (x16540 : List Int) (x16541 : Int) := (link_group (c := (cq [0,1,1,1] (bodyOf Try.f37))) (a := (aq [0,1,1,1] spec_l20Scores_an)) [(cq [0] (bodyOf Try.f37)), (cq [0,1] (bodyOf Try.f37)), (cq [0,1,1] (bodyOf Try.f37))] [(aq [0] spec_l20Scores_an), (aq [0,1] spec_l20Scores_an), (aq [0,1,1] spec_l20Scores_an)] rfl (link_seq (spec_l20Scores_n1_l x16539 x16540 x16541) (fun (t : Int × Int × Int) => (spec_l20Scores_n21_l x16539 t.1 t.2.1 x16540 t.2.2))))

theorem spec_l20Scores_e (x16539 : Int) (x16540 : List Int) (x16541 : Int) {r : AV} {H' : Heap} (h : (Ans.mk _ (spec_l20Scores x16539 x16540 x16541) (fun (t : Int × (List (List Int))) => (.slc 1, [some (.box [dV x16540, dI t.1]), some (.nest (.int .i64) t.2 0 [])])) [] none).run = some (r, H')) : Awp spec_l20Scores_ctx LL (bodyOf Try.f37) spec_l20Scores_an ⟨mkE 66 0 [(0, .ptr 0 0), (1, dI x16539)], [some (.box [dV x16540, dI x16541])]⟩ (Ret (tlook tys) Try.f37.results.toList r H') :=
  ret_of' (Link.cast (by kernel_rfl) (by kernel_rfl) (spec_l20Scores_n22_l x16539 x16540 x16541)) (by unfold spec_l20Scores; kernel_rfl) (by
  intro t
  exact ret_mk [.slc 1] (by kernel_rfl) (by kernel_rfl) (by kernel_rfl) (by kernel_rfl)) h

def F_spec_l20Scores : Fun := fun avs H =>
  match avs, H with
  | [.ptr 0 0, .dat (.int .i64) x16539], [some (.box [.dat (.list (.int .u8)) x16540, .dat (.int .i64) x16541])] => ⟨_, spec_l20Scores x16539 x16540 x16541, fun (t : Int × (List (List Int))) => (.slc 1, [some (.box [dV x16540, dI t.1]), some (.nest (.int .i64) t.2 0 [])]), [], none⟩
  | _, _ => Ans.no

theorem spec_l20Scores_sound : Sound Try.prog 37 F_spec_l20Scores := by
  refine fn_sound' (C := spec_l20Scores_ctx) (c := bodyOf Try.f37) (cok_of tys_ok (allc spec_l20Rd_pick_sound (allc spec_l20Rd_odd_sound alln)) (allc Try.call51 (allc Try.call58 alln)) (by kernel_rfl)) Try.func37 (by kernel_rfl) LL spec_l20Scores_an ?_
  intro avs H r H' h
  unfold F_spec_l20Scores at h
  split at h
  · refine Awp.cast ?_ ?_ ?_ (spec_l20Scores_e _ _ _ h) <;> kernel_rfl
  · simp [Ans.no, Ans.run] at h


/-! slices.Min[[]int,int] -/

def slices_Min_int_int_an : Ann := (.seq (.leaf [0]) (.seq (.seq (.leaf [0, 7]) (.cond (.leaf [0]) (.leaf [0]))) (.seq (.leaf [0, 3]) (.seq (.seq (.leaf [0, 3, 4]) (.block (.loop (.seq (.seq (.leaf [0, 3, 4, 15]) (.cond (.leaf [0, 3, 4]) (.leaf [3]))) (.seq (.block (.leaf [0, 3, 4])) (.leaf [0, 3, 4])))))) (.seq (.leaf [2]) (.leaf [2]))))))

noncomputable def slices_Min_int_int_ctx : Ctx := ⟨tlook tys, olook [], ioF, 0, false, []⟩

theorem slices_Min_int_int_n1_l (x17091 : List Int) : Link slices_Min_int_int_ctx LL (Code.seq (cq [0] (bodyOf Try.f59)) (Code.seq (cq [0,1] (bodyOf Try.f59)) (cq [0,1,1] (bodyOf Try.f59)))) (Ann.seq (aq [0] slices_Min_int_int_an) (Ann.seq (aq [0,1] slices_Min_int_int_an) (aq [0,1,1] slices_Min_int_int_an))) ⟨mkE 25 0 [(0, dL x17091)], []⟩ (slices_Min_int_int_n1 x17091) (fun (t : Int) => (Exit.normal, ⟨mkE 25 0 [(0, dL x17091), (3, dI t)], []⟩)) := by
  refine Link.of fun K h => ?_
  simp only [slices_Min_int_int_n1, wpO_bind, wpO_cond, wpO_map, wpO_some, wpO_none] at h
  exact Awp.of (by kernel_rfl) h

theorem slices_Min_int_int_n2_l (x17091 : List Int) (x17096 : Int) : Link slices_Min_int_int_ctx LL (cq [0,0,1,1,1] (bodyOf Try.f59)) (aq [0,0,1,1,1] slices_Min_int_int_an) ⟨mkE 25 0 [(0, dL x17091), (3, dI x17096)], []⟩ (slices_Min_int_int_n2) (fun (t : Unit) => (Exit.normal, ⟨mkE 25 0 [(0, dL x17091), (3, dI x17096), (4, dI 1)], []⟩)) := by
  refine Link.of fun K h => ?_
  simp only [slices_Min_int_int_n2, wpO_bind, wpO_cond, wpO_map, wpO_some] at h
  exact Awp.of (by kernel_rfl) h

theorem slices_Min_int_int_n3_l (x17091 : List Int) (x17108 : Int) (x17109 : Int) : Link slices_Min_int_int_ctx LL (cq [0,0,1,0,1,1,1] (bodyOf Try.f59)) (aq [0,0,1,0,1,1,1] slices_Min_int_int_an) ⟨mkE 25 0 [(0, dL x17091), (3, dI x17108), (4, dI x17109)], []⟩ (slices_Min_int_int_n3 x17091 x17108 x17109) (Sum.elim (fun (t : Int × Int) => (Exit.normal, ⟨mkE 25 0 [(0, dL x17091), (3, dI t.1), (4, dI t.2)], []⟩)) (fun (t : Int) => ((Exit.exit 0), ⟨mkE 25 0 [(3, dI t)], []⟩))) := by
  refine Link.of fun K h => ?_
  simp only [slices_Min_int_int_n3, wpO_bind, wpO_cond, wpO_map, wpO_some] at h
  exact Awp.of (by kernel_rfl) h

def slices_Min_int_int_n4_l (x17091 : List Int) (x17096 : Int) := (link_loop (mk := fun (s : Int × Int) => ⟨mkE 25 0 [(0, dL x17091), (3, dI s.1), (4, dI s.2)], []⟩) (fin := (fun (t : Int) => ((Exit.exit 0), ⟨mkE 25 0 [(3, dI t)], []⟩))) (by
  rintro t f K h
  · exact h) (fun s => link_map (slices_Min_int_int_n3_l x17091 s.1 s.2) (Sum.elim (fun (t : Int × Int) => Sum.inl (t.1, t.2)) (fun (t : Int) => Sum.inr t)) (by
  rintro (t | t)
  · kernel_rfl
  · kernel_rfl)) (x17096, 1))

def slices_Min_int_int_n5_l (x17091 : List Int) (x17096 : Int) := (link_block (fin2 := (fun (t : Int) => (Exit.normal, ⟨mkE 25 0 [(3, dI t)], []⟩))) (id := 0) (slices_Min_int_int_n4_l x17091 x17096) (fun (t : Int) => t) (by
  rintro t K h
  · exact Eq.mp (by kernel_rfl) h))

def slices_Min_int_int_n6_l (x17091 : List Int) (x17096 : Int) := (link_seq (slices_Min_int_int_n2_l x17091 x17096) (fun (t : Unit) => (slices_Min_int_int_n5_l x17091 x17096)))

theorem slices_Min_int_int_n7_l (x17108 : Int) : Link slices_Min_int_int_ctx LL (cq [1,1,1,1] (bodyOf Try.f59)) (aq [1,1,1,1] slices_Min_int_int_an) ⟨mkE 25 0 [(3, dI x17108)], []⟩ (slices_Min_int_int_n7 x17108) (fun (t : Int) => (Exit.ret, ⟨mkE 25 0 [(2, dI t)], []⟩)) := by
  refine Link.of fun K h => ?_
  simp only [slices_Min_int_int_n7, wpO_bind, wpO_cond, wpO_map, wpO_some] at h
  exact Awp.of (by kernel_rfl) h

def slices_Min_int_int_n8_l (x17091 : List Int) (x17096 : Int) := (link_seq (slices_Min_int_int_n6_l x17091 x17096) (fun (t : Int) => (slices_Min_int_int_n7_l t)))

def slices_Min_int_int_n9_l (x17091 : List Int) := (link_group (c := (cq [0,1,1] (bodyOf Try.f59))) (a := (aq [0,1,1] slices_Min_int_int_an)) [(cq [0] (bodyOf Try.f59)), (cq [0,1] (bodyOf Try.f59))] [(aq [0] slices_Min_int_int_an), (aq [0,1] slices_Min_int_int_an)] rfl (link_seq (slices_Min_int_int_n1_l x17091) (fun (t : Int) => (slices_Min_int_int_n8_l x17091 t))))

theorem slices_Min_int_int_e (x17091 : List Int) {r : AV} {H' : Heap} (h : (Ans.mk _ (slices_Min_int_int x17091) (fun (t : Int) => (dI t, [])) [] none).run = some (r, H')) : Awp slices_Min_int_int_ctx LL (bodyOf Try.f59) slices_Min_int_int_an ⟨mkE 25 0 [(0, dL x17091)], []⟩ (Ret (tlook tys) Try.f59.results.toList r H') :=
  ret_of' (Link.cast (by kernel_rfl) (by kernel_rfl) (slices_Min_int_int_n9_l x17091)) (by unfold slices_Min_int_int; kernel_rfl) (by
  intro t
  exact ret_mk [dI t] (by kernel_rfl) (by kernel_rfl) (by kernel_rfl) (by kernel_rfl)) h

def F_slices_Min_int_int : Fun := fun avs H =>
  match avs, H with
  | [.dat (.list (.int .i64)) x17091], [] => ⟨_, slices_Min_int_int x17091, fun (t : Int) => (dI t, []), [], none⟩
  | _, _ => Ans.no

theorem slices_Min_int_int_sound : Sound Try.prog 59 F_slices_Min_int_int := by
  refine fn_sound' (C := slices_Min_int_int_ctx) (c := bodyOf Try.f59) (cok_of tys_ok (alln) (alln) (by kernel_rfl)) Try.func59 (by kernel_rfl) LL slices_Min_int_int_an ?_
  intro avs H r H' h
  unfold F_slices_Min_int_int at h
  split at h
  · refine Awp.cast ?_ ?_ ?_ (slices_Min_int_int_e _ h) <;> kernel_rfl
  · simp [Ans.no, Ans.run] at h


/-! slices.Max[[]int,int] -/

def slices_Max_int_int_an : Ann := (.seq (.leaf [0]) (.seq (.seq (.leaf [0, 7]) (.cond (.leaf [0]) (.leaf [0]))) (.seq (.leaf [0, 3]) (.seq (.seq (.leaf [0, 3, 4]) (.block (.loop (.seq (.seq (.leaf [0, 3, 4, 15]) (.cond (.leaf [0, 3, 4]) (.leaf [3]))) (.seq (.block (.leaf [0, 3, 4])) (.leaf [0, 3, 4])))))) (.seq (.leaf [2]) (.leaf [2]))))))

noncomputable def slices_Max_int_int_ctx : Ctx := ⟨tlook tys, olook [], ioF, 0, false, []⟩

theorem slices_Max_int_int_n1_l (x17123 : List Int) : Link slices_Max_int_int_ctx LL (Code.seq (cq [0] (bodyOf Try.f60)) (Code.seq (cq [0,1] (bodyOf Try.f60)) (cq [0,1,1] (bodyOf Try.f60)))) (Ann.seq (aq [0] slices_Max_int_int_an) (Ann.seq (aq [0,1] slices_Max_int_int_an) (aq [0,1,1] slices_Max_int_int_an))) ⟨mkE 25 0 [(0, dL x17123)], []⟩ (slices_Max_int_int_n1 x17123) (fun (t : Int) => (Exit.normal, ⟨mkE 25 0 [(0, dL x17123), (3, dI t)], []⟩)) := by
  refine Link.of fun K h => ?_
  simp only [slices_Max_int_int_n1, wpO_bind, wpO_cond, wpO_map, wpO_some, wpO_none] at h
  exact Awp.of (by kernel_rfl) h

theorem slices_Max_int_int_n2_l (x17123 : List Int) (x17128 : Int) : Link slices_Max_int_int_ctx LL (cq [0,0,1,1,1] (bodyOf Try.f60)) (aq [0,0,1,1,1] slices_Max_int_int_an) ⟨mkE 25 0 [(0, dL x17123), (3, dI x17128)], []⟩ (slices_Max_int_int_n2) (fun (t : Unit) => (Exit.normal, ⟨mkE 25 0 [(0, dL x17123), (3, dI x17128), (4, dI 1)], []⟩)) := by
  refine Link.of fun K h => ?_
  simp only [slices_Max_int_int_n2, wpO_bind, wpO_cond, wpO_map, wpO_some] at h
  exact Awp.of (by kernel_rfl) h

theorem slices_Max_int_int_n3_l (x17123 : List Int) (x17140 : Int) (x17141 : Int) : Link slices_Max_int_int_ctx LL (cq [0,0,1,0,1,1,1] (bodyOf Try.f60)) (aq [0,0,1,0,1,1,1] slices_Max_int_int_an) ⟨mkE 25 0 [(0, dL x17123), (3, dI x17140), (4, dI x17141)], []⟩ (slices_Max_int_int_n3 x17123 x17140 x17141) (Sum.elim (fun (t : Int × Int) => (Exit.normal, ⟨mkE 25 0 [(0, dL x17123), (3, dI t.1), (4, dI t.2)], []⟩)) (fun (t : Int) => ((Exit.exit 0), ⟨mkE 25 0 [(3, dI t)], []⟩))) := by
  refine Link.of fun K h => ?_
  simp only [slices_Max_int_int_n3, wpO_bind, wpO_cond, wpO_map, wpO_some] at h
  exact Awp.of (by kernel_rfl) h

def slices_Max_int_int_n4_l (x17123 : List Int) (x17128 : Int) := (link_loop (mk := fun (s : Int × Int) => ⟨mkE 25 0 [(0, dL x17123), (3, dI s.1), (4, dI s.2)], []⟩) (fin := (fun (t : Int) => ((Exit.exit 0), ⟨mkE 25 0 [(3, dI t)], []⟩))) (by
  rintro t f K h
  · exact h) (fun s => link_map (slices_Max_int_int_n3_l x17123 s.1 s.2) (Sum.elim (fun (t : Int × Int) => Sum.inl (t.1, t.2)) (fun (t : Int) => Sum.inr t)) (by
  rintro (t | t)
  · kernel_rfl
  · kernel_rfl)) (x17128, 1))

def slices_Max_int_int_n5_l (x17123 : List Int) (x17128 : Int) := (link_block (fin2 := (fun (t : Int) => (Exit.normal, ⟨mkE 25 0 [(3, dI t)], []⟩))) (id := 0) (slices_Max_int_int_n4_l x17123 x17128) (fun (t : Int) => t) (by
  rintro t K h
  · exact Eq.mp (by kernel_rfl) h))

def slices_Max_int_int_n6_l (x17123 : List Int) (x17128 : Int) := (link_seq (slices_Max_int_int_n2_l x17123 x17128) (fun (t : Unit) => (slices_Max_int_int_n5_l x17123 x17128)))

theorem slices_Max_int_int_n7_l (x17140 : Int) : Link slices_Max_int_int_ctx LL (cq [1,1,1,1] (bodyOf Try.f60)) (aq [1,1,1,1] slices_Max_int_int_an) ⟨mkE 25 0 [(3, dI x17140)], []⟩ (slices_Max_int_int_n7 x17140) (fun (t : Int) => (Exit.ret, ⟨mkE 25 0 [(2, dI t)], []⟩)) := by
  refine Link.of fun K h => ?_
  simp only [slices_Max_int_int_n7, wpO_bind, wpO_cond, wpO_map, wpO_some] at h
  exact Awp.of (by kernel_rfl) h

def slices_Max_int_int_n8_l (x17123 : List Int) (x17128 : Int) := (link_seq (slices_Max_int_int_n6_l x17123 x17128) (fun (t : Int) => (slices_Max_int_int_n7_l t)))

def slices_Max_int_int_n9_l (x17123 : List Int) := (link_group (c := (cq [0,1,1] (bodyOf Try.f60))) (a := (aq [0,1,1] slices_Max_int_int_an)) [(cq [0] (bodyOf Try.f60)), (cq [0,1] (bodyOf Try.f60))] [(aq [0] slices_Max_int_int_an), (aq [0,1] slices_Max_int_int_an)] rfl (link_seq (slices_Max_int_int_n1_l x17123) (fun (t : Int) => (slices_Max_int_int_n8_l x17123 t))))

theorem slices_Max_int_int_e (x17123 : List Int) {r : AV} {H' : Heap} (h : (Ans.mk _ (slices_Max_int_int x17123) (fun (t : Int) => (dI t, [])) [] none).run = some (r, H')) : Awp slices_Max_int_int_ctx LL (bodyOf Try.f60) slices_Max_int_int_an ⟨mkE 25 0 [(0, dL x17123)], []⟩ (Ret (tlook tys) Try.f60.results.toList r H') :=
  ret_of' (Link.cast (by kernel_rfl) (by kernel_rfl) (slices_Max_int_int_n9_l x17123)) (by unfold slices_Max_int_int; kernel_rfl) (by
  intro t
  exact ret_mk [dI t] (by kernel_rfl) (by kernel_rfl) (by kernel_rfl) (by kernel_rfl)) h

def F_slices_Max_int_int : Fun := fun avs H =>
  match avs, H with
  | [.dat (.list (.int .i64)) x17123], [] => ⟨_, slices_Max_int_int x17123, fun (t : Int) => (dI t, []), [], none⟩
  | _, _ => Ans.no

theorem slices_Max_int_int_sound : Sound Try.prog 60 F_slices_Max_int_int := by
  refine fn_sound' (C := slices_Max_int_int_ctx) (c := bodyOf Try.f60) (cok_of tys_ok (alln) (alln) (by kernel_rfl)) Try.func60 (by kernel_rfl) LL slices_Max_int_int_an ?_
  intro avs H r H' h
  unfold F_slices_Max_int_int at h
  split at h
  · refine Awp.cast ?_ ?_ ?_ (slices_Max_int_int_e _ h) <;> kernel_rfl
  · simp [Ans.no, Ans.run] at h


/-! loop.example/headtrees/impl.scoreRowOk -/

def impl_scoreRowOk_an : Ann := (.seq (.leaf [0, 1]) (.seq (.leaf [4]) (.leaf [4])))

noncomputable def impl_scoreRowOk_ctx : Ctx := ⟨tlook tys, olook [(59, F_slices_Min_int_int), (60, F_slices_Max_int_int)], ioF, 0, false, []⟩

theorem impl_scoreRowOk_n1_l (x17086 : List Int) (x17087 : Int) : Link impl_scoreRowOk_ctx LL (bodyOf Try.f39) impl_scoreRowOk_an ⟨mkE 20 0 [(0, dL x17086), (1, dI x17087)], []⟩ (impl_scoreRowOk_n1 x17086 x17087) (fun (t : Bool) => (Exit.ret, ⟨mkE 20 0 [(4, dB t)], []⟩)) := by
  refine Link.of fun K h => ?_
  simp only [impl_scoreRowOk_n1, wpO_bind, wpO_cond, wpO_map, wpO_some] at h
  exact Awp.of (by kernel_rfl) h

theorem impl_scoreRowOk_e (x17086 : List Int) (x17087 : Int) {r : AV} {H' : Heap} (h : (Ans.mk _ (impl_scoreRowOk x17086 x17087) (fun (t : Bool) => (dB t, [])) [] none).run = some (r, H')) : Awp impl_scoreRowOk_ctx LL (bodyOf Try.f39) impl_scoreRowOk_an ⟨mkE 20 0 [(0, dL x17086), (1, dI x17087)], []⟩ (Ret (tlook tys) Try.f39.results.toList r H') :=
  ret_of' (impl_scoreRowOk_n1_l x17086 x17087) (by unfold impl_scoreRowOk; kernel_rfl) (by
  intro t
  exact ret_mk [dB t] (by kernel_rfl) (by kernel_rfl) (by kernel_rfl) (by kernel_rfl)) h

def F_impl_scoreRowOk : Fun := fun avs H =>
  match avs, H with
  | [.dat (.list (.int .i64)) x17086, .dat (.int .i64) x17087], [] => ⟨_, impl_scoreRowOk x17086 x17087, fun (t : Bool) => (dB t, []), [], none⟩
  | _, _ => Ans.no

theorem impl_scoreRowOk_sound : Sound Try.prog 39 F_impl_scoreRowOk := by
  refine fn_sound' (C := impl_scoreRowOk_ctx) (c := bodyOf Try.f39) (cok_of tys_ok (allc slices_Min_int_int_sound (allc slices_Max_int_int_sound alln)) (allc Try.call59 (allc Try.call60 alln)) (by kernel_rfl)) Try.func39 (by kernel_rfl) LL impl_scoreRowOk_an ?_
  intro avs H r H' h
  unfold F_impl_scoreRowOk at h
  split at h
  · refine Awp.cast ?_ ?_ ?_ (impl_scoreRowOk_e _ _ h) <;> kernel_rfl
  · simp [Ans.no, Ans.run] at h


/-! loop.example/headtrees/impl.ScoresOk -/

def impl_ScoresOk_an : Ann := (.seq (.leaf [0]) (.seq (.seq (.leaf [0, 12]) (.cond (.seq (.leaf [2]) (.leaf [2])) (.leaf [0]))) (.seq (.seq (.leaf [0, 13, 14, 15]) (.block (.loop (.seq (.leaf [0, 13, 14, 15, 16]) (.seq (.cond (.leaf [0, 13, 14, 15]) (.leaf [])) (.seq (.block (.seq (.leaf [0, 4, 13, 14, 15]) (.seq (.leaf [0, 13, 14, 15, 23]) (.cond (.seq (.leaf [2]) (.leaf [2])) (.leaf [0, 13, 14, 15]))))) (.leaf [0, 13, 14, 15]))))))) (.seq (.leaf [2]) (.leaf [2])))))

noncomputable def impl_ScoresOk_ctx : Ctx := ⟨tlook tys, olook [(39, F_impl_scoreRowOk)], ioF, 0, false, []⟩

theorem impl_ScoresOk_n1_l (x17075 : List (List Int)) : Link impl_ScoresOk_ctx LL (Code.seq (cq [0] (bodyOf Try.f13)) (cq [0,1] (bodyOf Try.f13))) (Ann.seq (aq [0] impl_ScoresOk_an) (aq [0,1] impl_ScoresOk_an)) ⟨mkE 25 0 [(0, .dat (.list (.list (.int .i64))) x17075)], []⟩ (impl_ScoresOk_n1 x17075) (Sum.elim (fun (t : Unit) => (Exit.normal, ⟨mkE 25 0 [(0, .dat (.list (.list (.int .i64))) x17075)], []⟩)) (fun (t : Bool) => (Exit.ret, ⟨mkE 25 0 [(2, dB t)], []⟩))) := by
  refine Link.of fun K h => ?_
  simp only [impl_ScoresOk_n1, wpO_bind, wpO_cond, wpO_map, wpO_some] at h
  exact Awp.of (by kernel_rfl) h

theorem impl_ScoresOk_n2_l (x17075 : List (List Int)) : Link impl_ScoresOk_ctx LL (cq [0,0,1,1] (bodyOf Try.f13)) (aq [0,0,1,1] impl_ScoresOk_an) ⟨mkE 25 0 [(0, .dat (.list (.list (.int .i64))) x17075)], []⟩ (impl_ScoresOk_n2 x17075) (fun (t : Int) => (Exit.normal, ⟨mkE 25 0 [(0, .dat (.list (.list (.int .i64))) x17075), (13, .dat (.list (.list (.int .i64))) x17075), (14, dI t), (15, dI 0)], []⟩)) := by
  refine Link.of fun K h => ?_
  simp only [impl_ScoresOk_n2, wpO_bind, wpO_cond, wpO_map, wpO_some] at h
  exact Awp.of (by kernel_rfl) h

theorem impl_ScoresOk_n3_l (x17075 : List (List Int)) (x17080 : Int) (x17171 : Int) : Link impl_ScoresOk_ctx LL (cq [0,0,1,0,1,1] (bodyOf Try.f13)) (aq [0,0,1,0,1,1] impl_ScoresOk_an) ⟨mkE 25 0 [(0, .dat (.list (.list (.int .i64))) x17075), (13, .dat (.list (.list (.int .i64))) x17075), (14, dI x17080), (15, dI x17171)], []⟩ (impl_ScoresOk_n3 x17075 x17080 x17171) (Sum.elim (fun (t : Int) => (Exit.normal, ⟨mkE 25 0 [(0, .dat (.list (.list (.int .i64))) x17075), (13, .dat (.list (.list (.int .i64))) x17075), (14, dI x17080), (15, dI t)], []⟩)) (Sum.elim (fun (t : Bool) => (Exit.ret, ⟨mkE 25 0 [(2, dB t)], []⟩)) (fun (t : Unit) => ((Exit.exit 0), ⟨mkE 25 0 [], []⟩)))) := by
  refine Link.of fun K h => ?_
  simp only [impl_ScoresOk_n3, wpO_bind, wpO_cond, wpO_map, wpO_some] at h
  exact Awp.of (by kernel_rfl) h

def impl_ScoresOk_n4_l (x17075 : List (List Int)) (x17080 : Int) := (link_loop (mk := fun (s : Int) => ⟨mkE 25 0 [(0, .dat (.list (.list (.int .i64))) x17075), (13, .dat (.list (.list (.int .i64))) x17075), (14, dI x17080), (15, dI s)], []⟩) (fin := (Sum.elim (fun (t : Bool) => (Exit.ret, ⟨mkE 25 0 [(2, dB t)], []⟩)) (fun (t : Unit) => ((Exit.exit 0), ⟨mkE 25 0 [], []⟩)))) (by
  rintro (t | t) f K h
  · exact h
  · exact h) (fun s => link_map (impl_ScoresOk_n3_l x17075 x17080 s) (Sum.elim (fun (t : Int) => Sum.inl t) (Sum.elim (fun (t : Bool) => Sum.inr (Sum.inl t)) (fun (t : Unit) => Sum.inr (Sum.inr t)))) (by
  rintro (t | t | t)
  · kernel_rfl
  · kernel_rfl
  · kernel_rfl)) 0)

def impl_ScoresOk_n5_l (x17075 : List (List Int)) (x17080 : Int) := (link_block (fin2 := (Sum.elim (fun (t : Unit) => (Exit.normal, ⟨mkE 25 0 [], []⟩)) (fun (t : Bool) => (Exit.ret, ⟨mkE 25 0 [(2, dB t)], []⟩)))) (id := 0) (impl_ScoresOk_n4_l x17075 x17080) (Sum.elim (fun (t : Bool) => (Sum.inr t)) (fun (t : Unit) => (Sum.inl ()))) (by
  rintro (t | t) K h
  · exact Eq.mp (by kernel_rfl) h
  · exact Eq.mp (by kernel_rfl) h))

def impl_ScoresOk_n6_l (x17075 : List (List Int)) := (link_seq (impl_ScoresOk_n2_l x17075) (fun (t : Int) => (impl_ScoresOk_n5_l x17075 t)))

theorem impl_ScoresOk_n7_l : Link impl_ScoresOk_ctx LL (cq [1,1,1] (bodyOf Try.f13)) (aq [1,1,1] impl_ScoresOk_an) ⟨mkE 25 0 [], []⟩ (impl_ScoresOk_n7) (fun (t : Bool) => (Exit.ret, ⟨mkE 25 0 [(2, dB t)], []⟩)) := by
  refine Link.of fun K h => ?_
  simp only [impl_ScoresOk_n7, wpO_bind, wpO_cond, wpO_map, wpO_some] at h
  exact Awp.of (by kernel_rfl) h

def impl_ScoresOk_n8_l (x17075 : List (List Int)) := (link_seq2 (impl_ScoresOk_n6_l x17075) (fun (t : Unit) => (impl_ScoresOk_n7_l)) (fun (t : Bool) => t) (by
  rintro t
  · kernel_rfl) (by
  rintro t f K h
  · exact h))

def impl_ScoresOk_n9_l (x17075 : List (List Int)) := (link_group (c := (cq [0,1] (bodyOf Try.f13))) (a := (aq [0,1] impl_ScoresOk_an)) [(cq [0] (bodyOf Try.f13))] [(aq [0] impl_ScoresOk_an)] rfl (link_seq2 (impl_ScoresOk_n1_l x17075) (fun (t : Unit) => (impl_ScoresOk_n8_l x17075)) (fun (t : Bool) => t) (by
  rintro t
  · kernel_rfl) (by
  rintro t f K h
  · exact h)))

theorem impl_ScoresOk_e (x17075 : List (List Int)) {r : AV} {H' : Heap} (h : (Ans.mk _ (impl_ScoresOk x17075) (fun (t : Bool) => (dB t, [])) [] none).run = some (r, H')) : Awp impl_ScoresOk_ctx LL (bodyOf Try.f13) impl_ScoresOk_an ⟨mkE 25 0 [(0, .dat (.list (.list (.int .i64))) x17075)], []⟩ (Ret (tlook tys) Try.f13.results.toList r H') :=
  ret_of' (Link.cast (by kernel_rfl) (by kernel_rfl) (impl_ScoresOk_n9_l x17075)) (by unfold impl_ScoresOk; kernel_rfl) (by
  intro t
  exact ret_mk [dB t] (by kernel_rfl) (by kernel_rfl) (by kernel_rfl) (by kernel_rfl)) h

def F_impl_ScoresOk : Fun := fun avs H =>
  match avs, H with
  | [.dat (.list (.list (.int .i64))) x17075], [] => ⟨_, impl_ScoresOk x17075, fun (t : Bool) => (dB t, []), [], none⟩
  | _, _ => Ans.no

theorem impl_ScoresOk_sound : Sound Try.prog 13 F_impl_ScoresOk := by
  refine fn_sound' (C := impl_ScoresOk_ctx) (c := bodyOf Try.f13) (cok_of tys_ok (allc impl_scoreRowOk_sound alln) (allc Try.call39 alln) (by kernel_rfl)) Try.func13 (by kernel_rfl) LL impl_ScoresOk_an ?_
  intro avs H r H' h
  unfold F_impl_ScoresOk at h
  split at h
  · refine Awp.cast ?_ ?_ ?_ (impl_ScoresOk_e _ h) <;> kernel_rfl
  · simp [Ans.no, Ans.run] at h


/-! loop.example/headtrees/spec.l1In -/

def spec_l1In_an : Ann := (.seq (.leaf [0, 1, 2]) (.seq (.leaf [6]) (.leaf [6])))

noncomputable def spec_l1In_ctx : Ctx := ⟨tlook tys, olook [], ioF, 0, false, []⟩

theorem spec_l1In_n1_l (x17212 : Int) (x17213 : Int) (x17214 : Int) : Link spec_l1In_ctx LL (bodyOf Try.f40) spec_l1In_an ⟨mkE 15 0 [(0, dI x17212), (1, dI x17213), (2, dI x17214)], []⟩ (spec_l1In_n1 x17212 x17213 x17214) (fun (t : Bool) => (Exit.ret, ⟨mkE 15 0 [(6, dB t)], []⟩)) := by
  refine Link.of fun K h => ?_
  simp only [spec_l1In_n1, wpO_bind, wpO_cond, wpO_map, wpO_some] at h
  exact Awp.of (by kernel_rfl) h

theorem spec_l1In_e (x17212 : Int) (x17213 : Int) (x17214 : Int) {r : AV} {H' : Heap} (h : (Ans.mk _ (spec_l1In x17212 x17213 x17214) (fun (t : Bool) => (dB t, [])) [] none).run = some (r, H')) : Awp spec_l1In_ctx LL (bodyOf Try.f40) spec_l1In_an ⟨mkE 15 0 [(0, dI x17212), (1, dI x17213), (2, dI x17214)], []⟩ (Ret (tlook tys) Try.f40.results.toList r H') :=
  ret_of' (spec_l1In_n1_l x17212 x17213 x17214) (by unfold spec_l1In; kernel_rfl) (by
  intro t
  exact ret_mk [dB t] (by kernel_rfl) (by kernel_rfl) (by kernel_rfl) (by kernel_rfl)) h

def F_spec_l1In : Fun := fun avs H =>
  match avs, H with
  | [.dat (.int .i64) x17212, .dat (.int .i64) x17213, .dat (.int .i64) x17214], [] => ⟨_, spec_l1In x17212 x17213 x17214, fun (t : Bool) => (dB t, []), [], none⟩
  | _, _ => Ans.no

theorem spec_l1In_sound : Sound Try.prog 40 F_spec_l1In := by
  refine fn_sound' (C := spec_l1In_ctx) (c := bodyOf Try.f40) (cok_of tys_ok (alln) (alln) (by kernel_rfl)) Try.func40 (by kernel_rfl) LL spec_l1In_an ?_
  intro avs H r H' h
  unfold F_spec_l1In at h
  split at h
  · refine Awp.cast ?_ ?_ ?_ (spec_l1In_e _ _ _ h) <;> kernel_rfl
  · simp [Ans.no, Ans.run] at h


/-! loop.example/headtrees/spec.ScoresOk -/

def spec_ScoresOk_an : Ann := (.seq (.leaf [0]) (.seq (.seq (.leaf [0, 3]) (.block (.loop (.seq (.seq (.leaf [0, 3, 8]) (.cond (.leaf [0, 3]) (.leaf [0]))) (.seq (.block (.seq (.seq (.leaf [0, 3, 19]) (.cond (.seq (.leaf [2]) (.leaf [2])) (.leaf [0, 3]))) (.seq (.leaf [0, 3, 4]) (.block (.loop (.seq (.seq (.leaf [0, 3, 4, 26]) (.cond (.leaf [0, 3, 4]) (.leaf [0, 3]))) (.seq (.block (.seq (.leaf [0, 3, 4, 37]) (.cond (.seq (.leaf [2]) (.leaf [2])) (.leaf [0, 3, 4])))) (.leaf [0, 3, 4])))))))) (.leaf [0, 3])))))) (.seq (.leaf [2]) (.leaf [2]))))

noncomputable def spec_ScoresOk_ctx : Ctx := ⟨tlook tys, olook [(40, F_spec_l1In)], ioF, 0, false, []⟩

theorem spec_ScoresOk_n1_l (x17191 : List (List Int)) : Link spec_ScoresOk_ctx LL (cq [0] (bodyOf Try.f14)) (aq [0] spec_ScoresOk_an) ⟨mkE 41 0 [(0, .dat (.list (.list (.int .i64))) x17191)], []⟩ (spec_ScoresOk_n1) (fun (t : Unit) => (Exit.normal, ⟨mkE 41 0 [(0, .dat (.list (.list (.int .i64))) x17191)], []⟩)) := by
  refine Link.of fun K h => ?_
  simp only [spec_ScoresOk_n1, wpO_bind, wpO_cond, wpO_map, wpO_some] at h
  exact Awp.of (by kernel_rfl) h

theorem spec_ScoresOk_n2_l (x17191 : List (List Int)) : Link spec_ScoresOk_ctx LL (cq [0,0,1] (bodyOf Try.f14)) (aq [0,0,1] spec_ScoresOk_an) ⟨mkE 41 0 [(0, .dat (.list (.list (.int .i64))) x17191)], []⟩ (spec_ScoresOk_n2) (fun (t : Unit) => (Exit.normal, ⟨mkE 41 0 [(0, .dat (.list (.list (.int .i64))) x17191), (3, dI 0)], []⟩)) := by
  refine Link.of fun K h => ?_
  simp only [spec_ScoresOk_n2, wpO_bind, wpO_cond, wpO_map, wpO_some] at h
  exact Awp.of (by kernel_rfl) h

theorem spec_ScoresOk_n3_l (x17191 : List (List Int)) (x17250 : Int) : Link spec_ScoresOk_ctx LL (cq [0,0,0,1,0,1] (bodyOf Try.f14)) (aq [0,0,0,1,0,1] spec_ScoresOk_an) ⟨mkE 41 0 [(0, .dat (.list (.list (.int .i64))) x17191), (3, dI x17250)], []⟩ (spec_ScoresOk_n3 x17191 x17250) (Sum.elim (fun (t : Unit) => (Exit.normal, ⟨mkE 41 0 [(0, .dat (.list (.list (.int .i64))) x17191), (3, dI x17250)], []⟩)) (fun (t : Unit) => ((Exit.exit 0), ⟨mkE 41 0 [(0, .dat (.list (.list (.int .i64))) x17191)], []⟩))) := by
  refine Link.of fun K h => ?_
  simp only [spec_ScoresOk_n3, wpO_bind, wpO_cond, wpO_map, wpO_some] at h
  exact Awp.of (by kernel_rfl) h

theorem spec_ScoresOk_n4_l (x17191 : List (List Int)) (x17250 : Int) : Link spec_ScoresOk_ctx LL (Code.seq (cq [0,0,0,1,0,0,1,0,1] (bodyOf Try.f14)) (cq [0,1,0,0,1,0,0,1,0,1] (bodyOf Try.f14))) (Ann.seq (aq [0,0,0,1,0,0,1,0,1] spec_ScoresOk_an) (aq [0,1,0,0,1,0,0,1,0,1] spec_ScoresOk_an)) ⟨mkE 41 0 [(0, .dat (.list (.list (.int .i64))) x17191), (3, dI x17250)], []⟩ (spec_ScoresOk_n4 x17191 x17250) (Sum.elim (fun (t : Unit) => (Exit.normal, ⟨mkE 41 0 [(0, .dat (.list (.list (.int .i64))) x17191), (3, dI x17250), (4, dI 0)], []⟩)) (fun (t : Bool) => (Exit.ret, ⟨mkE 41 0 [(2, dB t)], []⟩))) := by
  refine Link.of fun K h => ?_
  simp only [spec_ScoresOk_n4, wpO_bind, wpO_cond, wpO_map, wpO_some] at h
  exact Awp.of (by kernel_rfl) h

theorem spec_ScoresOk_n5_l (x17191 : List (List Int)) (x17250 : Int) (x17281 : Int) : Link spec_ScoresOk_ctx LL (cq [0,0,1,1,0,0,1,0,0,1,0,1] (bodyOf Try.f14)) (aq [0,0,1,1,0,0,1,0,0,1,0,1] spec_ScoresOk_an) ⟨mkE 41 0 [(0, .dat (.list (.list (.int .i64))) x17191), (3, dI x17250), (4, dI x17281)], []⟩ (spec_ScoresOk_n5 x17191 x17250 x17281) (Sum.elim (fun (t : Int) => (Exit.normal, ⟨mkE 41 0 [(0, .dat (.list (.list (.int .i64))) x17191), (3, dI x17250), (4, dI t)], []⟩)) (Sum.elim (fun (t : Bool) => (Exit.ret, ⟨mkE 41 0 [(2, dB t)], []⟩)) (fun (t : Unit) => ((Exit.exit 2), ⟨mkE 41 0 [(0, .dat (.list (.list (.int .i64))) x17191), (3, dI x17250)], []⟩)))) := by
  refine Link.of fun K h => ?_
  simp only [spec_ScoresOk_n5, wpO_bind, wpO_cond, wpO_map, wpO_some] at h
  exact Awp.of (by kernel_rfl) h

def spec_ScoresOk_n6_l (x17191 : List (List Int)) (x17250 : Int) := (link_loop (mk := fun (s : Int) => ⟨mkE 41 0 [(0, .dat (.list (.list (.int .i64))) x17191), (3, dI x17250), (4, dI s)], []⟩) (fin := (Sum.elim (fun (t : Bool) => (Exit.ret, ⟨mkE 41 0 [(2, dB t)], []⟩)) (fun (t : Unit) => ((Exit.exit 2), ⟨mkE 41 0 [(0, .dat (.list (.list (.int .i64))) x17191), (3, dI x17250)], []⟩)))) (by
  rintro (t | t) f K h
  · exact h
  · exact h) (fun s => link_map (spec_ScoresOk_n5_l x17191 x17250 s) (Sum.elim (fun (t : Int) => Sum.inl t) (Sum.elim (fun (t : Bool) => Sum.inr (Sum.inl t)) (fun (t : Unit) => Sum.inr (Sum.inr t)))) (by
  rintro (t | t | t)
  · kernel_rfl
  · kernel_rfl
  · kernel_rfl)) 0)

def spec_ScoresOk_n7_l (x17191 : List (List Int)) (x17250 : Int) := (link_block (fin2 := (Sum.elim (fun (t : Unit) => (Exit.normal, ⟨mkE 41 0 [(0, .dat (.list (.list (.int .i64))) x17191), (3, dI x17250)], []⟩)) (fun (t : Bool) => (Exit.ret, ⟨mkE 41 0 [(2, dB t)], []⟩)))) (id := 2) (spec_ScoresOk_n6_l x17191 x17250) (Sum.elim (fun (t : Bool) => (Sum.inr t)) (fun (t : Unit) => (Sum.inl ()))) (by
  rintro (t | t) K h
  · exact Eq.mp (by kernel_rfl) h
  · exact Eq.mp (by kernel_rfl) h))

def spec_ScoresOk_n8_l (x17191 : List (List Int)) (x17250 : Int) := (link_group (c := (cq [0,1,0,0,1,0,0,1,0,1] (bodyOf Try.f14))) (a := (aq [0,1,0,0,1,0,0,1,0,1] spec_ScoresOk_an)) [(cq [0,0,0,1,0,0,1,0,1] (bodyOf Try.f14))] [(aq [0,0,0,1,0,0,1,0,1] spec_ScoresOk_an)] rfl (link_seq2 (spec_ScoresOk_n4_l x17191 x17250) (fun (t : Unit) => (spec_ScoresOk_n7_l x17191 x17250)) (fun (t : Bool) => (Sum.inr t)) (by
  rintro t
  · kernel_rfl) (by
  rintro t f K h
  · exact h)))

def spec_ScoresOk_n9_l (x17191 : List (List Int)) (x17250 : Int) := (link_block (fin2 := (Sum.elim (fun (t : Unit) => (Exit.normal, ⟨mkE 41 0 [(0, .dat (.list (.list (.int .i64))) x17191), (3, dI x17250)], []⟩)) (fun (t : Bool) => (Exit.ret, ⟨mkE 41 0 [(2, dB t)], []⟩)))) (id := 1) (spec_ScoresOk_n8_l x17191 x17250) (Sum.elim (fun (t : Unit) => (Sum.inl ())) (fun (t : Bool) => (Sum.inr t))) (by
  rintro (t | t) K h
  · exact Eq.mp (by kernel_rfl) h
  · exact Eq.mp (by kernel_rfl) h))

theorem spec_ScoresOk_n10_l (x17191 : List (List Int)) (x17250 : Int) : Link spec_ScoresOk_ctx LL (cq [1,1,0,0,1,0,1] (bodyOf Try.f14)) (aq [1,1,0,0,1,0,1] spec_ScoresOk_an) ⟨mkE 41 0 [(0, .dat (.list (.list (.int .i64))) x17191), (3, dI x17250)], []⟩ (spec_ScoresOk_n10 x17250) (fun (t : Int) => (Exit.normal, ⟨mkE 41 0 [(0, .dat (.list (.list (.int .i64))) x17191), (3, dI t)], []⟩)) := by
  refine Link.of fun K h => ?_
  simp only [spec_ScoresOk_n10, wpO_bind, wpO_cond, wpO_map, wpO_some] at h
  exact Awp.of (by kernel_rfl) h

def spec_ScoresOk_n11_l (x17191 : List (List Int)) (x17250 : Int) := (link_seq2 (spec_ScoresOk_n9_l x17191 x17250) (fun (t : Unit) => (link_map (fin2 := (Sum.elim (fun (t : Int) => (Exit.normal, ⟨mkE 41 0 [(0, .dat (.list (.list (.int .i64))) x17191), (3, dI t)], []⟩)) (fun (t : Bool) => (Exit.ret, ⟨mkE 41 0 [(2, dB t)], []⟩)))) (spec_ScoresOk_n10_l x17191 x17250) (fun (t : Int) => (Sum.inl t)) (by
  rintro t
  · kernel_rfl))) (fun (t : Bool) => (Sum.inr t)) (by
  rintro t
  · kernel_rfl) (by
  rintro t f K h
  · exact h))

def spec_ScoresOk_n12_l (x17191 : List (List Int)) (x17250 : Int) := (link_seq2 (spec_ScoresOk_n3_l x17191 x17250) (fun (t : Unit) => (link_map (fin2 := (Sum.elim (fun (t : Int) => (Exit.normal, ⟨mkE 41 0 [(0, .dat (.list (.list (.int .i64))) x17191), (3, dI t)], []⟩)) (Sum.elim (fun (t : Bool) => (Exit.ret, ⟨mkE 41 0 [(2, dB t)], []⟩)) (fun (t : Unit) => ((Exit.exit 0), ⟨mkE 41 0 [(0, .dat (.list (.list (.int .i64))) x17191)], []⟩))))) (spec_ScoresOk_n11_l x17191 x17250) (Sum.elim (fun (t : Int) => (Sum.inl t)) (fun (t : Bool) => (Sum.inr (Sum.inl t)))) (by
  rintro (t | t)
  · kernel_rfl
  · kernel_rfl))) (fun (t : Unit) => (Sum.inr (Sum.inr t))) (by
  rintro t
  · kernel_rfl) (by
  rintro t f K h
  · exact h))

def spec_ScoresOk_n13_l (x17191 : List (List Int)) := (link_loop (mk := fun (s : Int) => ⟨mkE 41 0 [(0, .dat (.list (.list (.int .i64))) x17191), (3, dI s)], []⟩) (fin := (Sum.elim (fun (t : Bool) => (Exit.ret, ⟨mkE 41 0 [(2, dB t)], []⟩)) (fun (t : Unit) => ((Exit.exit 0), ⟨mkE 41 0 [(0, .dat (.list (.list (.int .i64))) x17191)], []⟩)))) (by
  rintro (t | t) f K h
  · exact h
  · exact h) (fun s => link_map (spec_ScoresOk_n12_l x17191 s) (Sum.elim (fun (t : Int) => Sum.inl t) (Sum.elim (fun (t : Bool) => Sum.inr (Sum.inl t)) (fun (t : Unit) => Sum.inr (Sum.inr t)))) (by
  rintro (t | t | t)
  · kernel_rfl
  · kernel_rfl
  · kernel_rfl)) 0)

def spec_ScoresOk_n14_l (x17191 : List (List Int)) := (link_block (fin2 := (Sum.elim (fun (t : Unit) => (Exit.normal, ⟨mkE 41 0 [(0, .dat (.list (.list (.int .i64))) x17191)], []⟩)) (fun (t : Bool) => (Exit.ret, ⟨mkE 41 0 [(2, dB t)], []⟩)))) (id := 0) (spec_ScoresOk_n13_l x17191) (Sum.elim (fun (t : Bool) => (Sum.inr t)) (fun (t : Unit) => (Sum.inl ()))) (by
  rintro (t | t) K h
  · exact Eq.mp (by kernel_rfl) h
  · exact Eq.mp (by kernel_rfl) h))

def spec_ScoresOk_n15_l (x17191 : List (List Int)) := (link_seq (spec_ScoresOk_n2_l x17191) (fun (t : Unit) => (spec_ScoresOk_n14_l x17191)))

theorem spec_ScoresOk_n16_l (x17191 : List (List Int)) : Link spec_ScoresOk_ctx LL (cq [1,1] (bodyOf Try.f14)) (aq [1,1] spec_ScoresOk_an) ⟨mkE 41 0 [(0, .dat (.list (.list (.int .i64))) x17191)], []⟩ (spec_ScoresOk_n16 x17191) (fun (t : Bool) => (Exit.ret, ⟨mkE 41 0 [(2, dB t)], []⟩)) := by
  refine Link.of fun K h => ?_
  simp only [spec_ScoresOk_n16, wpO_bind, wpO_cond, wpO_map, wpO_some] at h
  exact Awp.of (by kernel_rfl) h

def spec_ScoresOk_n17_l (x17191 : List (List Int)) := (link_seq2 (spec_ScoresOk_n15_l x17191) (fun (t : Unit) => (spec_ScoresOk_n16_l x17191)) (fun (t : Bool) => t) (by
  rintro t
  · kernel_rfl) (by
  rintro t f K h
  · exact h))

def spec_ScoresOk_n18_l (x17191 : List (List Int)) := (link_seq (spec_ScoresOk_n1_l x17191) (fun (t : Unit) => (spec_ScoresOk_n17_l x17191)))

theorem spec_ScoresOk_e (x17191 : List (List Int)) {r : AV} {H' : Heap} (h : (Ans.mk _ (spec_ScoresOk x17191) (fun (t : Bool) => (dB t, [])) [] none).run = some (r, H')) : Awp spec_ScoresOk_ctx LL (bodyOf Try.f14) spec_ScoresOk_an ⟨mkE 41 0 [(0, .dat (.list (.list (.int .i64))) x17191)], []⟩ (Ret (tlook tys) Try.f14.results.toList r H') :=
  ret_of' (Link.cast (by kernel_rfl) (by kernel_rfl) (spec_ScoresOk_n18_l x17191)) (by unfold spec_ScoresOk; kernel_rfl) (by
  intro t
  exact ret_mk [dB t] (by kernel_rfl) (by kernel_rfl) (by kernel_rfl) (by kernel_rfl)) h

def F_spec_ScoresOk : Fun := fun avs H =>
  match avs, H with
  | [.dat (.list (.list (.int .i64))) x17191], [] => ⟨_, spec_ScoresOk x17191, fun (t : Bool) => (dB t, []), [], none⟩
  | _, _ => Ans.no

theorem spec_ScoresOk_sound : Sound Try.prog 14 F_spec_ScoresOk := by
  refine fn_sound' (C := spec_ScoresOk_ctx) (c := bodyOf Try.f14) (cok_of tys_ok (allc spec_l1In_sound alln) (allc Try.call40 alln) (by kernel_rfl)) Try.func14 (by kernel_rfl) LL spec_ScoresOk_an ?_
  intro avs H r H' h
  unfold F_spec_ScoresOk at h
  split at h
  · refine Awp.cast ?_ ?_ ?_ (spec_ScoresOk_e _ h) <;> kernel_rfl
  · simp [Ans.no, Ans.run] at h


/-! loop.example/headtrees/impl.oneRoot -/

def impl_oneRoot_an : Ann := (.seq (.leaf [0]) (.seq (.leaf [0, 3]) (.seq (.seq (.leaf [0, 3, 6, 7, 8]) (.block (.loop (.seq (.leaf [0, 3, 6, 7, 8, 9]) (.seq (.cond (.leaf [0, 3, 6, 7, 8]) (.leaf [3])) (.seq (.block (.seq (.leaf [0, 3, 5, 6, 7, 8]) (.seq (.seq (.leaf [0, 3, 5, 6, 7, 8, 19]) (.cond (.seq (.leaf [2]) (.leaf [2])) (.leaf [0, 3, 5, 6, 7, 8]))) (.seq (.leaf [0, 3, 6, 7, 8, 21]) (.cond (.leaf [0, 3, 6, 7, 8]) (.leaf [0, 3, 6, 7, 8])))))) (.leaf [0, 3, 6, 7, 8]))))))) (.seq (.leaf [2]) (.leaf [2])))))

noncomputable def impl_oneRoot_ctx : Ctx := ⟨tlook tys, olook [], ioF, 0, false, []⟩

theorem impl_oneRoot_n1_l (x17431 : List Int) : Link impl_oneRoot_ctx LL (Code.seq (cq [0] (bodyOf Try.f61)) (cq [0,1] (bodyOf Try.f61))) (Ann.seq (aq [0] impl_oneRoot_an) (aq [0,1] impl_oneRoot_an)) ⟨mkE 27 0 [(0, dL x17431)], []⟩ (impl_oneRoot_n1) (fun (t : Unit) => (Exit.normal, ⟨mkE 27 0 [(0, dL x17431), (3, dI 0)], []⟩)) := by
  refine Link.of fun K h => ?_
  simp only [impl_oneRoot_n1, wpO_bind, wpO_cond, wpO_map, wpO_some] at h
  exact Awp.of (by kernel_rfl) h

theorem impl_oneRoot_n2_l (x17431 : List Int) : Link impl_oneRoot_ctx LL (cq [0,0,1,1] (bodyOf Try.f61)) (aq [0,0,1,1] impl_oneRoot_an) ⟨mkE 27 0 [(0, dL x17431), (3, dI 0)], []⟩ (impl_oneRoot_n2 x17431) (fun (t : Int) => (Exit.normal, ⟨mkE 27 0 [(0, dL x17431), (3, dI 0), (6, dL x17431), (7, dI t), (8, dI 0)], []⟩)) := by
  refine Link.of fun K h => ?_
  simp only [impl_oneRoot_n2, wpO_bind, wpO_cond, wpO_map, wpO_some] at h
  exact Awp.of (by kernel_rfl) h

theorem impl_oneRoot_n3_l (x17431 : List Int) (x17453 : Int) (x17432 : Int) (x17454 : Int) : Link impl_oneRoot_ctx LL (cq [0,0,1,0,1,1] (bodyOf Try.f61)) (aq [0,0,1,0,1,1] impl_oneRoot_an) ⟨mkE 27 0 [(0, dL x17431), (3, dI x17453), (6, dL x17431), (7, dI x17432), (8, dI x17454)], []⟩ (impl_oneRoot_n3 x17431 x17453 x17432 x17454) (Sum.elim (fun (t : Int × Int) => (Exit.normal, ⟨mkE 27 0 [(0, dL x17431), (3, dI t.1), (6, dL x17431), (7, dI x17432), (8, dI t.2)], []⟩)) (Sum.elim (fun (t : Bool) => (Exit.ret, ⟨mkE 27 0 [(2, dB t)], []⟩)) (fun (t : Int) => ((Exit.exit 0), ⟨mkE 27 0 [(3, dI t)], []⟩)))) := by
  refine Link.of fun K h => ?_
  simp only [impl_oneRoot_n3, wpO_bind, wpO_cond, wpO_map, wpO_some] at h
  exact Awp.of (by kernel_rfl) h

def impl_oneRoot_n4_l (x17431 : List Int) (x17432 : Int) := (link_loop (mk := fun (s : Int × Int) => ⟨mkE 27 0 [(0, dL x17431), (3, dI s.1), (6, dL x17431), (7, dI x17432), (8, dI s.2)], []⟩) (fin := (Sum.elim (fun (t : Bool) => (Exit.ret, ⟨mkE 27 0 [(2, dB t)], []⟩)) (fun (t : Int) => ((Exit.exit 0), ⟨mkE 27 0 [(3, dI t)], []⟩)))) (by
  rintro (t | t) f K h
  · exact h
  · exact h) (fun s => link_map (impl_oneRoot_n3_l x17431 s.1 x17432 s.2) (Sum.elim (fun (t : Int × Int) => Sum.inl (t.1, t.2)) (Sum.elim (fun (t : Bool) => Sum.inr (Sum.inl t)) (fun (t : Int) => Sum.inr (Sum.inr t)))) (by
  rintro (t | t | t)
  · kernel_rfl
  · kernel_rfl
  · kernel_rfl)) (0, 0))

def impl_oneRoot_n5_l (x17431 : List Int) (x17432 : Int) := (link_block (fin2 := (Sum.elim (fun (t : Int) => (Exit.normal, ⟨mkE 27 0 [(3, dI t)], []⟩)) (fun (t : Bool) => (Exit.ret, ⟨mkE 27 0 [(2, dB t)], []⟩)))) (id := 0) (impl_oneRoot_n4_l x17431 x17432) (Sum.elim (fun (t : Bool) => (Sum.inr t)) (fun (t : Int) => (Sum.inl t))) (by
  rintro (t | t) K h
  · exact Eq.mp (by kernel_rfl) h
  · exact Eq.mp (by kernel_rfl) h))

def impl_oneRoot_n6_l (x17431 : List Int) := (link_seq (impl_oneRoot_n2_l x17431) (fun (t : Int) => (impl_oneRoot_n5_l x17431 t)))

theorem impl_oneRoot_n7_l (x17453 : Int) : Link impl_oneRoot_ctx LL (cq [1,1,1] (bodyOf Try.f61)) (aq [1,1,1] impl_oneRoot_an) ⟨mkE 27 0 [(3, dI x17453)], []⟩ (impl_oneRoot_n7 x17453) (fun (t : Bool) => (Exit.ret, ⟨mkE 27 0 [(2, dB t)], []⟩)) := by
  refine Link.of fun K h => ?_
  simp only [impl_oneRoot_n7, wpO_bind, wpO_cond, wpO_map, wpO_some] at h
  exact Awp.of (by kernel_rfl) h

def impl_oneRoot_n8_l (x17431 : List Int) := (link_seq2 (impl_oneRoot_n6_l x17431) (fun (t : Int) => (impl_oneRoot_n7_l t)) (fun (t : Bool) => t) (by
  rintro t
  · kernel_rfl) (by
  rintro t f K h
  · exact h))

def impl_oneRoot_n9_l (x17431 : List Int) := (link_group (c := (cq [0,1] (bodyOf Try.f61))) (a := (aq [0,1] impl_oneRoot_an)) [(cq [0] (bodyOf Try.f61))] [(aq [0] impl_oneRoot_an)] rfl (link_seq (impl_oneRoot_n1_l x17431) (fun (t : Unit) => (impl_oneRoot_n8_l x17431))))

theorem impl_oneRoot_e (x17431 : List Int) {r : AV} {H' : Heap} (h : (Ans.mk _ (impl_oneRoot x17431) (fun (t : Bool) => (dB t, [])) [] none).run = some (r, H')) : Awp impl_oneRoot_ctx LL (bodyOf Try.f61) impl_oneRoot_an ⟨mkE 27 0 [(0, dL x17431)], []⟩ (Ret (tlook tys) Try.f61.results.toList r H') :=
  ret_of' (Link.cast (by kernel_rfl) (by kernel_rfl) (impl_oneRoot_n9_l x17431)) (by unfold impl_oneRoot; kernel_rfl) (by
  intro t
  exact ret_mk [dB t] (by kernel_rfl) (by kernel_rfl) (by kernel_rfl) (by kernel_rfl)) h

def F_impl_oneRoot : Fun := fun avs H =>
  match avs, H with
  | [.dat (.list (.int .i64)) x17431], [] => ⟨_, impl_oneRoot x17431, fun (t : Bool) => (dB t, []), [], none⟩
  | _, _ => Ans.no

theorem impl_oneRoot_sound : Sound Try.prog 61 F_impl_oneRoot := by
  refine fn_sound' (C := impl_oneRoot_ctx) (c := bodyOf Try.f61) (cok_of tys_ok (alln) (alln) (by kernel_rfl)) Try.func61 (by kernel_rfl) LL impl_oneRoot_an ?_
  intro avs H r H' h
  unfold F_impl_oneRoot at h
  split at h
  · refine Awp.cast ?_ ?_ ?_ (impl_oneRoot_e _ h) <;> kernel_rfl
  · simp [Ans.no, Ans.run] at h


/-! (*loop.example/headtrees/impl.walker).up -/

def impl_walker_up_an : Ann := (.seq (.leaf [0]) (.seq (.draw [] [0, 1, 2, 3, 4, 5, 6, 7, 8, 9, 10, 11] [] [0, 3]) (.seq (.seq (.leaf [0, 3, 16]) (.cond (.seq (.leaf [2]) (.leaf [2])) (.leaf [0, 3]))) (.seq (.leaf [0]) (.seq (.leaf []) (.seq (.leaf [2]) (.leaf [2])))))))

noncomputable def impl_walker_up_ctx : Ctx := ⟨tlook tys, olook [], ioF, 1, false, []⟩

theorem impl_walker_up_n1_l (x17487 : List Int) (x17488 : Int) (x17489 : Int) : Link impl_walker_up_ctx LL (bodyOf Try.f71) impl_walker_up_an ⟨mkE 28 0 [(0, .ptr 0 0)], [some (.box [dL x17487, dI x17488, dI x17489])]⟩ (impl_walker_up_n1 x17487 x17488 x17489) (fun (t : Bool × Int × Int) => (Exit.ret, ⟨mkE 28 0 [(2, dB t.1)], [some (.box [dL x17487, dI t.2.1, dI t.2.2])]⟩)) := by
  refine Link.of fun K h => ?_
  simp only [impl_walker_up_n1, wpO_bind, wpO_cond, wpO_map, wpO_some] at h
  exact Awp.of (by kernel_rfl) h

theorem impl_walker_up_e (x17487 : List Int) (x17488 : Int) (x17489 : Int) {r : AV} {H' : Heap} (h : (Ans.mk _ (impl_walker_up x17487 x17488 x17489) (fun (t : Bool × Int × Int) => (dB t.1, [some (.box [dL x17487, dI t.2.1, dI t.2.2])])) [] none).run = some (r, H')) : Awp impl_walker_up_ctx LL (bodyOf Try.f71) impl_walker_up_an ⟨mkE 28 0 [(0, .ptr 0 0)], [some (.box [dL x17487, dI x17488, dI x17489])]⟩ (Ret (tlook tys) Try.f71.results.toList r H') :=
  ret_of' (impl_walker_up_n1_l x17487 x17488 x17489) (by unfold impl_walker_up; kernel_rfl) (by
  intro t
  exact ret_mk [dB t.1] (by kernel_rfl) (by kernel_rfl) (by kernel_rfl) (by kernel_rfl)) h

def F_impl_walker_up : Fun := fun avs H =>
  match avs, H with
  | [.ptr 0 0], [some (.box [.dat (.list (.int .i64)) x17487, .dat (.int .i64) x17488, .dat (.int .i64) x17489])] => ⟨_, impl_walker_up x17487 x17488 x17489, fun (t : Bool × Int × Int) => (dB t.1, [some (.box [dL x17487, dI t.2.1, dI t.2.2])]), [], none⟩
  | _, _ => Ans.no

theorem impl_walker_up_sound : Sound Try.prog 71 F_impl_walker_up := by
  refine fn_sound' (C := impl_walker_up_ctx) (c := bodyOf Try.f71) (cok_of tys_ok (alln) (alln) (by kernel_rfl)) Try.func71 (by kernel_rfl) LL impl_walker_up_an ?_
  intro avs H r H' h
  unfold F_impl_walker_up at h
  split at h
  · refine Awp.cast ?_ ?_ ?_ (impl_walker_up_e _ _ _ h) <;> kernel_rfl
  · simp [Ans.no, Ans.run] at h


/-! loop.example/headtrees/impl.stepsToRoot -/

def impl_stepsToRoot_an : Ann := (.seq (.leaf [0, 1]) (.seq (.leaf [0, 6]) (.seq (.block (.loop (.seq (.seq (.leaf [0, 6, 10]) (.cond (.leaf [0, 6]) (.leaf [6]))) (.block (.seq (.leaf [0, 6, 15]) (.cond (.seq (.leaf [4, 5]) (.leaf [4, 5])) (.leaf [0, 6]))))))) (.seq (.leaf [4, 5]) (.leaf [4, 5])))))

noncomputable def impl_stepsToRoot_ctx : Ctx := ⟨tlook tys, olook [(71, F_impl_walker_up)], ioF, 0, false, []⟩

theorem impl_stepsToRoot_n1_l (x17485 : List Int) (x17486 : Int) : Link impl_stepsToRoot_ctx LL (Code.seq (cq [0] (bodyOf Try.f62)) (cq [0,1] (bodyOf Try.f62))) (Ann.seq (aq [0] impl_stepsToRoot_an) (aq [0,1] impl_stepsToRoot_an)) ⟨mkE 18 0 [(0, dL x17485), (1, dI x17486)], []⟩ (impl_stepsToRoot_n1) (fun (t : Unit) => (Exit.normal, ⟨mkE 18 0 [(0, dL x17485), (6, .ptr 0 0)], [some (.box [dL x17485, dI x17486, dI 0])]⟩)) := by
  refine Link.of fun K h => ?_
  simp only [impl_stepsToRoot_n1, wpO_bind, wpO_cond, wpO_map, wpO_some] at h
  exact Awp.of (by kernel_rfl) h

theorem impl_stepsToRoot_n2_l (x17485 : List Int) (x17523 : Int) (x17524 : Int) : Link impl_stepsToRoot_ctx LL (cq [0,0,0,1,1] (bodyOf Try.f62)) (aq [0,0,0,1,1] impl_stepsToRoot_an) ⟨mkE 18 0 [(0, dL x17485), (6, .ptr 0 0)], [some (.box [dL x17485, dI x17523, dI x17524])]⟩ (impl_stepsToRoot_n2 x17485 x17523 x17524) (Sum.elim (fun (t : Int × Int) => (Exit.normal, ⟨mkE 18 0 [(0, dL x17485), (6, .ptr 0 0)], [some (.box [dL x17485, dI t.1, dI t.2])]⟩)) (Sum.elim (fun (t : Int × Bool) => (Exit.ret, ⟨mkE 18 0 [(4, dI t.1), (5, dB t.2)], []⟩)) (fun (t : Int × Int) => ((Exit.exit 0), ⟨mkE 18 0 [(6, .ptr 0 0)], [some (.box [dL x17485, dI t.1, dI t.2])]⟩)))) := by
  refine Link.of fun K h => ?_
  simp only [impl_stepsToRoot_n2, wpO_bind, wpO_cond, wpO_map, wpO_some] at h
  exact Awp.of (by kernel_rfl) h

def impl_stepsToRoot_n3_l (x17485 : List Int) (x17486 : Int) := (link_loop (mk := fun (s : Int × Int) => ⟨mkE 18 0 [(0, dL x17485), (6, .ptr 0 0)], [some (.box [dL x17485, dI s.1, dI s.2])]⟩) (fin := (Sum.elim (fun (t : Int × Bool) => (Exit.ret, ⟨mkE 18 0 [(4, dI t.1), (5, dB t.2)], []⟩)) (fun (t : Int × Int) => ((Exit.exit 0), ⟨mkE 18 0 [(6, .ptr 0 0)], [some (.box [dL x17485, dI t.1, dI t.2])]⟩)))) (by
  rintro (t | t) f K h
  · exact h
  · exact h) (fun s => link_map (impl_stepsToRoot_n2_l x17485 s.1 s.2) (Sum.elim (fun (t : Int × Int) => Sum.inl (t.1, t.2)) (Sum.elim (fun (t : Int × Bool) => Sum.inr (Sum.inl t)) (fun (t : Int × Int) => Sum.inr (Sum.inr t)))) (by
  rintro (t | t | t)
  · kernel_rfl
  · kernel_rfl
  · kernel_rfl)) (x17486, 0))

def impl_stepsToRoot_n4_l (x17485 : List Int) (x17486 : Int) := (link_block (fin2 := (Sum.elim (fun (t : Int × Int) => (Exit.normal, ⟨mkE 18 0 [(6, .ptr 0 0)], [some (.box [dL x17485, dI t.1, dI t.2])]⟩)) (fun (t : Int × Bool) => (Exit.ret, ⟨mkE 18 0 [(4, dI t.1), (5, dB t.2)], []⟩)))) (id := 0) (impl_stepsToRoot_n3_l x17485 x17486) (Sum.elim (fun (t : Int × Bool) => (Sum.inr t)) (fun (t : Int × Int) => (Sum.inl (t.1, t.2)))) (by
  rintro (t | t) K h
  · exact Eq.mp (by kernel_rfl) h
  · exact Eq.mp (by kernel_rfl) h))

theorem impl_stepsToRoot_n5_l (x17485 : List Int) (x17531 : Int) (x17532 : Int) : Link impl_stepsToRoot_ctx LL (cq [1,1,1] (bodyOf Try.f62)) (aq [1,1,1] impl_stepsToRoot_an) ⟨mkE 18 0 [(6, .ptr 0 0)], [some (.box [dL x17485, dI x17531, dI x17532])]⟩ (impl_stepsToRoot_n5 x17532) (fun (t : Int × Bool) => (Exit.ret, ⟨mkE 18 0 [(4, dI t.1), (5, dB t.2)], []⟩)) := by
  refine Link.of fun K h => ?_
  simp only [impl_stepsToRoot_n5, wpO_bind, wpO_cond, wpO_map, wpO_some] at h
  exact Awp.of (by kernel_rfl) h

def impl_stepsToRoot_n6_l (x17485 : List Int) (x17486 : Int) := (link_seq2 (impl_stepsToRoot_n4_l x17485 x17486) (fun (t : Int × Int) => (impl_stepsToRoot_n5_l x17485 t.1 t.2)) (fun (t : Int × Bool) => t) (by
  rintro t
  · kernel_rfl) (by
  rintro t f K h
  · exact h))

def impl_stepsToRoot_n7_l (x17485 : List Int) (x17486 : Int) := (link_group (c := (cq [0,1] (bodyOf Try.f62))) (a := (aq [0,1] impl_stepsToRoot_an)) [(cq [0] (bodyOf Try.f62))] [(aq [0] impl_stepsToRoot_an)] rfl (link_seq (impl_stepsToRoot_n1_l x17485 x17486) (fun (t : Unit) => (impl_stepsToRoot_n6_l x17485 x17486))))

theorem impl_stepsToRoot_e (x17485 : List Int) (x17486 : Int) {r : AV} {H' : Heap} (h : (Ans.mk _ (impl_stepsToRoot x17485 x17486) (fun (t : Int × Bool) => (.tup [dI t.1, dB t.2], [])) [] none).run = some (r, H')) : Awp impl_stepsToRoot_ctx LL (bodyOf Try.f62) impl_stepsToRoot_an ⟨mkE 18 0 [(0, dL x17485), (1, dI x17486)], []⟩ (Ret (tlook tys) Try.f62.results.toList r H') :=
  ret_of' (Link.cast (by kernel_rfl) (by kernel_rfl) (impl_stepsToRoot_n7_l x17485 x17486)) (by unfold impl_stepsToRoot; kernel_rfl) (by
  intro t
  exact ret_mk [dI t.1, dB t.2] (by kernel_rfl) (by kernel_rfl) (by kernel_rfl) (by kernel_rfl)) h

def F_impl_stepsToRoot : Fun := fun avs H =>
  match avs, H with
  | [.dat (.list (.int .i64)) x17485, .dat (.int .i64) x17486], [] => ⟨_, impl_stepsToRoot x17485 x17486, fun (t : Int × Bool) => (.tup [dI t.1, dB t.2], []), [], none⟩
  | _, _ => Ans.no

theorem impl_stepsToRoot_sound : Sound Try.prog 62 F_impl_stepsToRoot := by
  refine fn_sound' (C := impl_stepsToRoot_ctx) (c := bodyOf Try.f62) (cok_of tys_ok (allc impl_walker_up_sound alln) (allc Try.call71 alln) (by kernel_rfl)) Try.func62 (by kernel_rfl) LL impl_stepsToRoot_an ?_
  intro avs H r H' h
  unfold F_impl_stepsToRoot at h
  split at h
  · refine Awp.cast ?_ ?_ ?_ (impl_stepsToRoot_e _ _ h) <;> kernel_rfl
  · simp [Ans.no, Ans.run] at h


/-! loop.example/headtrees/impl.TreeOk -/

def impl_TreeOk_an : Ann := (.seq (.leaf [0]) (.seq (.seq (.leaf [0, 18]) (.cond (.seq (.leaf [2]) (.leaf [2])) (.leaf [0]))) (.seq (.seq (.leaf [0, 20, 21]) (.block (.loop (.seq (.leaf [0, 20, 21, 22]) (.seq (.cond (.leaf [0, 20, 21]) (.leaf [])) (.seq (.block (.seq (.leaf [0, 3, 20, 21]) (.seq (.leaf [0, 5, 20, 21]) (.seq (.leaf [0, 20, 21, 32]) (.cond (.seq (.leaf [2]) (.leaf [2])) (.leaf [0, 20, 21])))))) (.leaf [0, 20, 21]))))))) (.seq (.leaf [2]) (.leaf [2])))))

noncomputable def impl_TreeOk_ctx : Ctx := ⟨tlook tys, olook [(61, F_impl_oneRoot), (62, F_impl_stepsToRoot)], ioF, 0, false, []⟩

theorem impl_TreeOk_n1_l (x17426 : List Int) : Link impl_TreeOk_ctx LL (Code.seq (cq [0] (bodyOf Try.f41)) (cq [0,1] (bodyOf Try.f41))) (Ann.seq (aq [0] impl_TreeOk_an) (aq [0,1] impl_TreeOk_an)) ⟨mkE 34 0 [(0, dL x17426)], []⟩ (impl_TreeOk_n1 x17426) (Sum.elim (fun (t : Unit) => (Exit.normal, ⟨mkE 34 0 [(0, dL x17426)], []⟩)) (fun (t : Bool) => (Exit.ret, ⟨mkE 34 0 [(2, dB t)], []⟩))) := by
  refine Link.of fun K h => ?_
  simp only [impl_TreeOk_n1, wpO_bind, wpO_cond, wpO_map, wpO_some] at h
  exact Awp.of (by kernel_rfl) h

theorem impl_TreeOk_n2_l (x17426 : List Int) : Link impl_TreeOk_ctx LL (cq [0,0,1,1] (bodyOf Try.f41)) (aq [0,0,1,1] impl_TreeOk_an) ⟨mkE 34 0 [(0, dL x17426)], []⟩ (impl_TreeOk_n2 x17426) (fun (t : Int) => (Exit.normal, ⟨mkE 34 0 [(0, dL x17426), (20, dI t), (21, dI 0)], []⟩)) := by
  refine Link.of fun K h => ?_
  simp only [impl_TreeOk_n2, wpO_bind, wpO_cond, wpO_map, wpO_some] at h
  exact Awp.of (by kernel_rfl) h

theorem impl_TreeOk_n3_l (x17426 : List Int) (x17480 : Int) (x17548 : Int) : Link impl_TreeOk_ctx LL (cq [0,0,1,0,1,1] (bodyOf Try.f41)) (aq [0,0,1,0,1,1] impl_TreeOk_an) ⟨mkE 34 0 [(0, dL x17426), (20, dI x17480), (21, dI x17548)], []⟩ (impl_TreeOk_n3 x17426 x17480 x17548) (Sum.elim (fun (t : Int) => (Exit.normal, ⟨mkE 34 0 [(0, dL x17426), (20, dI x17480), (21, dI t)], []⟩)) (Sum.elim (fun (t : Bool) => (Exit.ret, ⟨mkE 34 0 [(2, dB t)], []⟩)) (fun (t : Unit) => ((Exit.exit 0), ⟨mkE 34 0 [], []⟩)))) := by
  refine Link.of fun K h => ?_
  simp only [impl_TreeOk_n3, wpO_bind, wpO_cond, wpO_map, wpO_some] at h
  exact Awp.of (by kernel_rfl) h

def impl_TreeOk_n4_l (x17426 : List Int) (x17480 : Int) := (link_loop (mk := fun (s : Int) => ⟨mkE 34 0 [(0, dL x17426), (20, dI x17480), (21, dI s)], []⟩) (fin := (Sum.elim (fun (t : Bool) => (Exit.ret, ⟨mkE 34 0 [(2, dB t)], []⟩)) (fun (t : Unit) => ((Exit.exit 0), ⟨mkE 34 0 [], []⟩)))) (by
  rintro (t | t) f K h
  · exact h
  · exact h) (fun s => link_map (impl_TreeOk_n3_l x17426 x17480 s) (Sum.elim (fun (t : Int) => Sum.inl t) (Sum.elim (fun (t : Bool) => Sum.inr (Sum.inl t)) (fun (t : Unit) => Sum.inr (Sum.inr t)))) (by
  rintro (t | t | t)
  · kernel_rfl
  · kernel_rfl
  · kernel_rfl)) 0)

def impl_TreeOk_n5_l (x17426 : List Int) (x17480 : Int) := (link_block (fin2 := (Sum.elim (fun (t : Unit) => (Exit.normal, ⟨mkE 34 0 [], []⟩)) (fun (t : Bool) => (Exit.ret, ⟨mkE 34 0 [(2, dB t)], []⟩)))) (id := 0) (impl_TreeOk_n4_l x17426 x17480) (Sum.elim (fun (t : Bool) => (Sum.inr t)) (fun (t : Unit) => (Sum.inl ()))) (by
  rintro (t | t) K h
  · exact Eq.mp (by kernel_rfl) h
  · exact Eq.mp (by kernel_rfl) h))

def impl_TreeOk_n6_l (x17426 : List Int) := (link_seq (impl_TreeOk_n2_l x17426) (fun (t : Int) => (impl_TreeOk_n5_l x17426 t)))

theorem impl_TreeOk_n7_l : Link impl_TreeOk_ctx LL (cq [1,1,1] (bodyOf Try.f41)) (aq [1,1,1] impl_TreeOk_an) ⟨mkE 34 0 [], []⟩ (impl_TreeOk_n7) (fun (t : Bool) => (Exit.ret, ⟨mkE 34 0 [(2, dB t)], []⟩)) := by
  refine Link.of fun K h => ?_
  simp only [impl_TreeOk_n7, wpO_bind, wpO_cond, wpO_map, wpO_some] at h
  exact Awp.of (by kernel_rfl) h

def impl_TreeOk_n8_l (x17426 : List Int) := (link_seq2 (impl_TreeOk_n6_l x17426) (fun (t : Unit) => (impl_TreeOk_n7_l)) (fun (t : Bool) => t) (by
  rintro t
  · kernel_rfl) (by
  rintro t f K h
  · exact h))

def impl_TreeOk_n9_l (x17426 : List Int) := (link_group (c := (cq [0,1] (bodyOf Try.f41))) (a := (aq [0,1] impl_TreeOk_an)) [(cq [0] (bodyOf Try.f41))] [(aq [0] impl_TreeOk_an)] rfl (link_seq2 (impl_TreeOk_n1_l x17426) (fun (t : Unit) => (impl_TreeOk_n8_l x17426)) (fun (t : Bool) => t) (by
  rintro t
  · kernel_rfl) (by
  rintro t f K h
  · exact h)))

theorem impl_TreeOk_e (x17426 : List Int) {r : AV} {H' : Heap} (h : (Ans.mk _ (impl_TreeOk x17426) (fun (t : Bool) => (dB t, [])) [] none).run = some (r, H')) : Awp impl_TreeOk_ctx LL (bodyOf Try.f41) impl_TreeOk_an ⟨mkE 34 0 [(0, dL x17426)], []⟩ (Ret (tlook tys) Try.f41.results.toList r H') :=
  ret_of' (Link.cast (by kernel_rfl) (by kernel_rfl) (impl_TreeOk_n9_l x17426)) (by unfold impl_TreeOk; kernel_rfl) (by
  intro t
  exact ret_mk [dB t] (by kernel_rfl) (by kernel_rfl) (by kernel_rfl) (by kernel_rfl)) h

def F_impl_TreeOk : Fun := fun avs H =>
  match avs, H with
  | [.dat (.list (.int .i64)) x17426], [] => ⟨_, impl_TreeOk x17426, fun (t : Bool) => (dB t, []), [], none⟩
  | _, _ => Ans.no

theorem impl_TreeOk_sound : Sound Try.prog 41 F_impl_TreeOk := by
  refine fn_sound' (C := impl_TreeOk_ctx) (c := bodyOf Try.f41) (cok_of tys_ok (allc impl_oneRoot_sound (allc impl_stepsToRoot_sound alln)) (allc Try.call61 (allc Try.call62 alln)) (by kernel_rfl)) Try.func41 (by kernel_rfl) LL impl_TreeOk_an ?_
  intro avs H r H' h
  unfold F_impl_TreeOk at h
  split at h
  · refine Awp.cast ?_ ?_ ?_ (impl_TreeOk_e _ h) <;> kernel_rfl
  · simp [Ans.no, Ans.run] at h


/-! loop.example/headtrees/laws.alive -/

def laws_alive_an : Ann := (.seq (.leaf []) (.seq (.leaf [0]) (.leaf [0])))

noncomputable def laws_alive_ctx : Ctx := ⟨tlook tys, olook [(41, F_impl_TreeOk)], ioF, 0, false, []⟩

theorem laws_alive_n1_l : Link laws_alive_ctx LL (bodyOf Try.f15) laws_alive_an ⟨mkE 8 0 [], []⟩ (laws_alive_n1) (fun (t : Bool) => (Exit.ret, ⟨mkE 8 0 [(0, dB t)], []⟩)) := by
  refine Link.of fun K h => ?_
  simp only [laws_alive_n1, wpO_bind, wpO_cond, wpO_map, wpO_some] at h
  exact Awp.of (by kernel_rfl) h

theorem laws_alive_e {r : AV} {H' : Heap} (h : (Ans.mk _ (laws_alive) (fun (t : Bool) => (dB t, [])) [] none).run = some (r, H')) : Awp laws_alive_ctx LL (bodyOf Try.f15) laws_alive_an ⟨mkE 8 0 [], []⟩ (Ret (tlook tys) Try.f15.results.toList r H') :=
  ret_of' (laws_alive_n1_l) (by unfold laws_alive; kernel_rfl) (by
  intro t
  exact ret_mk [dB t] (by kernel_rfl) (by kernel_rfl) (by kernel_rfl) (by kernel_rfl)) h

def F_laws_alive : Fun := fun avs H =>
  match avs, H with
  | [], [] => ⟨_, laws_alive, fun (t : Bool) => (dB t, []), [], none⟩
  | _, _ => Ans.no

theorem laws_alive_sound : Sound Try.prog 15 F_laws_alive := by
  refine fn_sound' (C := laws_alive_ctx) (c := bodyOf Try.f15) (cok_of tys_ok (allc impl_TreeOk_sound alln) (allc Try.call41 alln) (by kernel_rfl)) Try.func15 (by kernel_rfl) LL laws_alive_an ?_
  intro avs H r H' h
  unfold F_laws_alive at h
  split at h
  · refine Awp.cast ?_ ?_ ?_ (laws_alive_e h) <;> kernel_rfl
  · simp [Ans.no, Ans.run] at h


/-! (*loop.example/headtrees/impl.partTable).between$1 -/

def impl_partTable_between_1_an : Ann := (.seq (.leaf [0, 1, 2, 3]) (.seq (.draw [] [0, 1, 2, 3, 4, 5, 6, 7, 8, 9, 10, 11, 12, 13, 14, 15, 16, 17, 18] [] [5]) (.leaf [5])))

noncomputable def impl_partTable_between_1_ctx : Ctx := ⟨tlook tys, olook [], ioF, 0, false, []⟩

theorem impl_partTable_between_1_n1_l (x18298 : Int) (x18299 : List (Int × Int × Unit)) (x18300 : Int) (x18301 : Int) : Link impl_partTable_between_1_ctx LL (bodyOf Try.f76) impl_partTable_between_1_an ⟨mkE 24 0 [(0, dI x18298), (1, .pcell (.tab (.pair (.int .i64) (.pair (.int .i64) .unit)) x18299)), (2, .pcell (dI x18300)), (3, .pcell (dI x18301))], []⟩ (impl_partTable_between_1_n1 x18298 x18299 x18300 x18301) (fun (t : Int) => (Exit.ret, ⟨mkE 24 0 [(5, dI t)], []⟩)) := by
  refine Link.of fun K h => ?_
  simp only [impl_partTable_between_1_n1, wpO_bind, wpO_cond, wpO_map, wpO_some] at h
  exact Awp.of (by kernel_rfl) h

theorem impl_partTable_between_1_e (x18298 : Int) (x18299 : List (Int × Int × Unit)) (x18300 : Int) (x18301 : Int) {r : AV} {H' : Heap} (h : (Ans.mk _ (impl_partTable_between_1 x18298 x18299 x18300 x18301) (fun (t : Int) => (dI t, [])) [] none).run = some (r, H')) : Awp impl_partTable_between_1_ctx LL (bodyOf Try.f76) impl_partTable_between_1_an ⟨mkE 24 0 [(0, dI x18298), (1, .pcell (.tab (.pair (.int .i64) (.pair (.int .i64) .unit)) x18299)), (2, .pcell (dI x18300)), (3, .pcell (dI x18301))], []⟩ (Ret (tlook tys) Try.f76.results.toList r H') :=
  ret_of' (impl_partTable_between_1_n1_l x18298 x18299 x18300 x18301) (by unfold impl_partTable_between_1; kernel_rfl) (by
  intro t
  exact ret_mk [dI t] (by kernel_rfl) (by kernel_rfl) (by kernel_rfl) (by kernel_rfl)) h

def F_impl_partTable_between_1 : Fun := fun avs H =>
  match avs, H with
  | [.dat (.int .i64) x18298, .pcell (.tab (.pair (.int .i64) (.pair (.int .i64) .unit)) x18299), .pcell (.dat (.int .i64) x18300), .pcell (.dat (.int .i64) x18301)], [] => ⟨_, impl_partTable_between_1 x18298 x18299 x18300 x18301, fun (t : Int) => (dI t, []), [], none⟩
  | _, _ => Ans.no

theorem impl_partTable_between_1_sound : Sound Try.prog 76 F_impl_partTable_between_1 := by
  refine fn_sound' (C := impl_partTable_between_1_ctx) (c := bodyOf Try.f76) (cok_of tys_ok (alln) (alln) (by kernel_rfl)) Try.func76 (by kernel_rfl) LL impl_partTable_between_1_an ?_
  intro avs H r H' h
  unfold F_impl_partTable_between_1 at h
  split at h
  · refine Awp.cast ?_ ?_ ?_ (impl_partTable_between_1_e _ _ _ _ h) <;> kernel_rfl
  · simp [Ans.no, Ans.run] at h


/-! loop.example/headtrees/impl.greatest (impl_greatest_v2) -/

def impl_greatest_v2_an : Ann := (.seq (.leaf [0, 1, 2]) (.seq (.leaf [0, 1, 2, 7]) (.seq (.seq (.leaf [1, 2, 7, 8]) (.block (.loop (.seq (.seq (.leaf [1, 2, 7, 8, 12]) (.cond (.leaf [1, 2, 7, 8]) (.leaf [7]))) (.seq (.block (.leaf [1, 2, 7, 8])) (.leaf [1, 2, 7, 8])))))) (.seq (.leaf [6]) (.leaf [6])))))

noncomputable def impl_greatest_v2_ctx : Ctx := ⟨tlook tys, olook [(76, F_impl_partTable_between_1)], ioF, 0, false, []⟩

theorem impl_greatest_v2_n1_l (x18291 : Int) (x18292 : Int) (x18293 : List (Int × Int × Unit)) (x18294 : Int) (x18295 : Int) : Link impl_greatest_v2_ctx LL (Code.seq (cq [0] (bodyOf Try.f46)) (cq [0,1] (bodyOf Try.f46))) (Ann.seq (aq [0] impl_greatest_v2_an) (aq [0,1] impl_greatest_v2_an)) ⟨mkE 21 0 [(0, dI x18291), (1, dI x18292), (2, .fn 76 [] [.pcell (.tab (.pair (.int .i64) (.pair (.int .i64) .unit)) x18293), .pcell (dI x18294), .pcell (dI x18295)])], []⟩ (impl_greatest_v2_n1) (fun (t : Unit) => (Exit.normal, ⟨mkE 21 0 [(0, dI x18291), (1, dI x18292), (2, .fn 76 [] [.pcell (.tab (.pair (.int .i64) (.pair (.int .i64) .unit)) x18293), .pcell (dI x18294), .pcell (dI x18295)]), (7, dI 0)], []⟩)) := by
  refine Link.of fun K h => ?_
  simp only [impl_greatest_v2_n1, wpO_bind, wpO_cond, wpO_map, wpO_some] at h
  exact Awp.of (by kernel_rfl) h

theorem impl_greatest_v2_n2_l (x18291 : Int) (x18292 : Int) (x18293 : List (Int × Int × Unit)) (x18294 : Int) (x18295 : Int) : Link impl_greatest_v2_ctx LL (cq [0,0,1,1] (bodyOf Try.f46)) (aq [0,0,1,1] impl_greatest_v2_an) ⟨mkE 21 0 [(0, dI x18291), (1, dI x18292), (2, .fn 76 [] [.pcell (.tab (.pair (.int .i64) (.pair (.int .i64) .unit)) x18293), .pcell (dI x18294), .pcell (dI x18295)]), (7, dI 0)], []⟩ (impl_greatest_v2_n2) (fun (t : Unit) => (Exit.normal, ⟨mkE 21 0 [(1, dI x18292), (2, .fn 76 [] [.pcell (.tab (.pair (.int .i64) (.pair (.int .i64) .unit)) x18293), .pcell (dI x18294), .pcell (dI x18295)]), (7, dI 0), (8, dI x18291)], []⟩)) := by
  refine Link.of fun K h => ?_
  simp only [impl_greatest_v2_n2, wpO_bind, wpO_cond, wpO_map, wpO_some] at h
  exact Awp.of (by kernel_rfl) h

theorem impl_greatest_v2_n3_l (x18292 : Int) (x18293 : List (Int × Int × Unit)) (x18294 : Int) (x18295 : Int) (x18348 : Int) (x18349 : Int) : Link impl_greatest_v2_ctx LL (cq [0,0,1,0,1,1] (bodyOf Try.f46)) (aq [0,0,1,0,1,1] impl_greatest_v2_an) ⟨mkE 21 0 [(1, dI x18292), (2, .fn 76 [] [.pcell (.tab (.pair (.int .i64) (.pair (.int .i64) .unit)) x18293), .pcell (dI x18294), .pcell (dI x18295)]), (7, dI x18348), (8, dI x18349)], []⟩ (impl_greatest_v2_n3 x18292 x18293 x18294 x18295 x18348 x18349) (Sum.elim (fun (t : Int × Int) => (Exit.normal, ⟨mkE 21 0 [(1, dI x18292), (2, .fn 76 [] [.pcell (.tab (.pair (.int .i64) (.pair (.int .i64) .unit)) x18293), .pcell (dI x18294), .pcell (dI x18295)]), (7, dI t.1), (8, dI t.2)], []⟩)) (fun (t : Int) => ((Exit.exit 0), ⟨mkE 21 0 [(7, dI t)], []⟩))) := by
  refine Link.of fun K h => ?_
  simp only [impl_greatest_v2_n3, wpO_bind, wpO_cond, wpO_map, wpO_some] at h
  exact Awp.of (by kernel_rfl) h

def impl_greatest_v2_n4_l (x18292 : Int) (x18293 : List (Int × Int × Unit)) (x18294 : Int) (x18295 : Int) (x18291 : Int) := (link_loop (mk := fun (s : Int × Int) => ⟨mkE 21 0 [(1, dI x18292), (2, .fn 76 [] [.pcell (.tab (.pair (.int .i64) (.pair (.int .i64) .unit)) x18293), .pcell (dI x18294), .pcell (dI x18295)]), (7, dI s.1), (8, dI s.2)], []⟩) (fin := (fun (t : Int) => ((Exit.exit 0), ⟨mkE 21 0 [(7, dI t)], []⟩))) (by
  rintro t f K h
  · exact h) (fun s => link_map (impl_greatest_v2_n3_l x18292 x18293 x18294 x18295 s.1 s.2) (Sum.elim (fun (t : Int × Int) => Sum.inl (t.1, t.2)) (fun (t : Int) => Sum.inr t)) (by
  rintro (t | t)
  · kernel_rfl
  · kernel_rfl)) (0, x18291))

def impl_greatest_v2_n5_l (x18292 : Int) (x18293 : List (Int × Int × Unit)) (x18294 : Int) (x18295 : Int) (x18291 : Int) := (link_block (fin2 := (fun (t : Int) => (Exit.normal, ⟨mkE 21 0 [(7, dI t)], []⟩))) (id := 0) (impl_greatest_v2_n4_l x18292 x18293 x18294 x18295 x18291) (fun (t : Int) => t) (by
  rintro t K h
  · exact Eq.mp (by kernel_rfl) h))

def impl_greatest_v2_n6_l (x18291 : Int) (x18292 : Int) (x18293 : List (Int × Int × Unit)) (x18294 : Int) (x18295 : Int) := (link_seq (impl_greatest_v2_n2_l x18291 x18292 x18293 x18294 x18295) (fun (t : Unit) => (impl_greatest_v2_n5_l x18292 x18293 x18294 x18295 x18291)))

theorem impl_greatest_v2_n7_l (x18348 : Int) : Link impl_greatest_v2_ctx LL (cq [1,1,1] (bodyOf Try.f46)) (aq [1,1,1] impl_greatest_v2_an) ⟨mkE 21 0 [(7, dI x18348)], []⟩ (impl_greatest_v2_n7 x18348) (fun (t : Int) => (Exit.ret, ⟨mkE 21 0 [(6, dI t)], []⟩)) := by
  refine Link.of fun K h => ?_
  simp only [impl_greatest_v2_n7, wpO_bind, wpO_cond, wpO_map, wpO_some] at h
  exact Awp.of (by kernel_rfl) h

def impl_greatest_v2_n8_l (x18291 : Int) (x18292 : Int) (x18293 : List (Int × Int × Unit)) (x18294 : Int) (x18295 : Int) := (link_seq (impl_greatest_v2_n6_l x18291 x18292 x18293 x18294 x18295) (fun (t : Int) => (impl_greatest_v2_n7_l t)))

def impl_greatest_v2_n9_l (x18291 : Int) (x18292 : Int) (x18293 : List (Int × Int × Unit)) (x18294 : Int) (x18295 : Int) := (link_group (c := (cq [0,1] (bodyOf Try.f46))) (a := (aq [0,1] impl_greatest_v2_an)) [(cq [0] (bodyOf Try.f46))] [(aq [0] impl_greatest_v2_an)] rfl (link_seq (impl_greatest_v2_n1_l x18291 x18292 x18293 x18294 x18295) (fun (t : Unit) => (impl_greatest_v2_n8_l x18291 x18292 x18293 x18294 x18295))))

theorem impl_greatest_v2_e (x18291 : Int) (x18292 : Int) (x18293 : List (Int × Int × Unit)) (x18294 : Int) (x18295 : Int) {r : AV} {H' : Heap} (h : (Ans.mk _ (impl_greatest_v2 x18291 x18292 x18293 x18294 x18295) (fun (t : Int) => (dI t, [])) [] none).run = some (r, H')) : Awp impl_greatest_v2_ctx LL (bodyOf Try.f46) impl_greatest_v2_an ⟨mkE 21 0 [(0, dI x18291), (1, dI x18292), (2, .fn 76 [] [.pcell (.tab (.pair (.int .i64) (.pair (.int .i64) .unit)) x18293), .pcell (dI x18294), .pcell (dI x18295)])], []⟩ (Ret (tlook tys) Try.f46.results.toList r H') :=
  ret_of' (Link.cast (by kernel_rfl) (by kernel_rfl) (impl_greatest_v2_n9_l x18291 x18292 x18293 x18294 x18295)) (by unfold impl_greatest_v2; kernel_rfl) (by
  intro t
  exact ret_mk [dI t] (by kernel_rfl) (by kernel_rfl) (by kernel_rfl) (by kernel_rfl)) h

def F_impl_greatest_v2 : Fun := fun avs H =>
  match avs, H with
  | [.dat (.int .i64) x18291, .dat (.int .i64) x18292, .fn 76 [] [.pcell (.tab (.pair (.int .i64) (.pair (.int .i64) .unit)) x18293), .pcell (.dat (.int .i64) x18294), .pcell (.dat (.int .i64) x18295)]], [] => ⟨_, impl_greatest_v2 x18291 x18292 x18293 x18294 x18295, fun (t : Int) => (dI t, []), [], none⟩
  | _, _ => Ans.no

theorem impl_greatest_v2_sound : Sound Try.prog 46 F_impl_greatest_v2 := by
  refine fn_sound' (C := impl_greatest_v2_ctx) (c := bodyOf Try.f46) (cok_of tys_ok (allc impl_partTable_between_1_sound alln) (allc Try.call76 alln) (by kernel_rfl)) Try.func46 (by kernel_rfl) LL impl_greatest_v2_an ?_
  intro avs H r H' h
  unfold F_impl_greatest_v2 at h
  split at h
  · refine Awp.cast ?_ ?_ ?_ (impl_greatest_v2_e _ _ _ _ _ h) <;> kernel_rfl
  · simp [Ans.no, Ans.run] at h


/-! (*loop.example/headtrees/impl.partTable).between -/

def impl_partTable_between_an : Ann := (.seq (.leaf [3, 4, 5]) (.seq (.leaf [6]) (.leaf [6])))

noncomputable def impl_partTable_between_ctx : Ctx := ⟨tlook tys, olook [(46, F_impl_greatest_v2)], ioF, 0, false, []⟩

theorem impl_partTable_between_n1_l (x18287 : List (Int × Int × Unit)) (x18288 : Int) (x18289 : Int) : Link impl_partTable_between_ctx LL (bodyOf Try.f73) impl_partTable_between_an ⟨mkE 12 0 [(0, .tab (.pair (.int .i64) (.pair (.int .i64) .unit)) x18287), (1, dI x18288), (2, dI x18289)], []⟩ (impl_partTable_between_n1 x18287 x18288 x18289) (fun (t : Int) => (Exit.ret, ⟨mkE 12 0 [(6, dI t)], []⟩)) := by
  refine Link.of fun K h => ?_
  simp only [impl_partTable_between_n1, wpO_bind, wpO_cond, wpO_map, wpO_some] at h
  exact Awp.of (by kernel_rfl) h

theorem impl_partTable_between_e (x18287 : List (Int × Int × Unit)) (x18288 : Int) (x18289 : Int) {r : AV} {H' : Heap} (h : (Ans.mk _ (impl_partTable_between x18287 x18288 x18289) (fun (t : Int) => (dI t, [])) [] none).run = some (r, H')) : Awp impl_partTable_between_ctx LL (bodyOf Try.f73) impl_partTable_between_an ⟨mkE 12 0 [(0, .tab (.pair (.int .i64) (.pair (.int .i64) .unit)) x18287), (1, dI x18288), (2, dI x18289)], []⟩ (Ret (tlook tys) Try.f73.results.toList r H') :=
  ret_of' (impl_partTable_between_n1_l x18287 x18288 x18289) (by unfold impl_partTable_between; kernel_rfl) (by
  intro t
  exact ret_mk [dI t] (by kernel_rfl) (by kernel_rfl) (by kernel_rfl) (by kernel_rfl)) h

def F_impl_partTable_between : Fun := fun avs H =>
  match avs, H with
  | [.tab (.pair (.int .i64) (.pair (.int .i64) .unit)) x18287, .dat (.int .i64) x18288, .dat (.int .i64) x18289], [] => ⟨_, impl_partTable_between x18287 x18288 x18289, fun (t : Int) => (dI t, []), [], none⟩
  | _, _ => Ans.no

theorem impl_partTable_between_sound : Sound Try.prog 73 F_impl_partTable_between := by
  refine fn_sound' (C := impl_partTable_between_ctx) (c := bodyOf Try.f73) (cok_of tys_ok (allc impl_greatest_v2_sound alln) (allc Try.call46 alln) (by kernel_rfl)) Try.func73 (by kernel_rfl) LL impl_partTable_between_an ?_
  intro avs H r H' h
  unfold F_impl_partTable_between at h
  split at h
  · refine Awp.cast ?_ ?_ ?_ (impl_partTable_between_e _ _ _ h) <;> kernel_rfl
  · simp [Ans.no, Ans.run] at h


/-! (*loop.example/headtrees/impl.partTable).joined$1 -/

def impl_partTable_joined_1_an : Ann := (.seq (.leaf [0, 1, 2, 3, 4]) (.seq (.draw [3] [0, 1, 2, 4, 5, 6, 7, 8, 9, 10, 11, 13, 14, 15, 16, 17, 18, 19, 20, 3, 12, 21, 22] [] [6]) (.leaf [6])))

noncomputable def impl_partTable_joined_1_ctx : Ctx := ⟨tlook tys, olook [(73, F_impl_partTable_between)], ioF, 0, false, []⟩

theorem impl_partTable_joined_1_n1_l (x18270 : Int) (x18271 : List (Int × Int × Unit)) (x18272 : Int) (x18273 : List (List Int)) (x18274 : Int) : Link impl_partTable_joined_1_ctx LL (bodyOf Try.f72) impl_partTable_joined_1_an ⟨mkE 29 0 [(0, dI x18270), (1, .pcell (.tab (.pair (.int .i64) (.pair (.int .i64) .unit)) x18271)), (2, .pcell (dI x18272)), (3, .pcell (.dat (.list (.list (.int .i64))) x18273)), (4, .pcell (dI x18274))], []⟩ (impl_partTable_joined_1_n1 x18270 x18271 x18272 x18273 x18274) (fun (t : Int) => (Exit.ret, ⟨mkE 29 0 [(6, dI t)], []⟩)) := by
  refine Link.of fun K h => ?_
  simp only [impl_partTable_joined_1_n1, wpO_bind, wpO_cond, wpO_map, wpO_some] at h
  exact Awp.of (by kernel_rfl) h

theorem impl_partTable_joined_1_e (x18270 : Int) (x18271 : List (Int × Int × Unit)) (x18272 : Int) (x18273 : List (List Int)) (x18274 : Int) {r : AV} {H' : Heap} (h : (Ans.mk _ (impl_partTable_joined_1 x18270 x18271 x18272 x18273 x18274) (fun (t : Int) => (dI t, [])) [] none).run = some (r, H')) : Awp impl_partTable_joined_1_ctx LL (bodyOf Try.f72) impl_partTable_joined_1_an ⟨mkE 29 0 [(0, dI x18270), (1, .pcell (.tab (.pair (.int .i64) (.pair (.int .i64) .unit)) x18271)), (2, .pcell (dI x18272)), (3, .pcell (.dat (.list (.list (.int .i64))) x18273)), (4, .pcell (dI x18274))], []⟩ (Ret (tlook tys) Try.f72.results.toList r H') :=
  ret_of' (impl_partTable_joined_1_n1_l x18270 x18271 x18272 x18273 x18274) (by unfold impl_partTable_joined_1; kernel_rfl) (by
  intro t
  exact ret_mk [dI t] (by kernel_rfl) (by kernel_rfl) (by kernel_rfl) (by kernel_rfl)) h

def F_impl_partTable_joined_1 : Fun := fun avs H =>
  match avs, H with
  | [.dat (.int .i64) x18270, .pcell (.tab (.pair (.int .i64) (.pair (.int .i64) .unit)) x18271), .pcell (.dat (.int .i64) x18272), .pcell (.dat (.list (.list (.int .i64))) x18273), .pcell (.dat (.int .i64) x18274)], [] => ⟨_, impl_partTable_joined_1 x18270 x18271 x18272 x18273 x18274, fun (t : Int) => (dI t, []), [], none⟩
  | _, _ => Ans.no

theorem impl_partTable_joined_1_sound : Sound Try.prog 72 F_impl_partTable_joined_1 := by
  refine fn_sound' (C := impl_partTable_joined_1_ctx) (c := bodyOf Try.f72) (cok_of tys_ok (allc impl_partTable_between_sound alln) (allc Try.call73 alln) (by kernel_rfl)) Try.func72 (by kernel_rfl) LL impl_partTable_joined_1_an ?_
  intro avs H r H' h
  unfold F_impl_partTable_joined_1 at h
  split at h
  · refine Awp.cast ?_ ?_ ?_ (impl_partTable_joined_1_e _ _ _ _ _ h) <;> kernel_rfl
  · simp [Ans.no, Ans.run] at h


/-! loop.example/headtrees/impl.greatest -/

def impl_greatest_an : Ann := (.seq (.leaf [0, 1, 2]) (.seq (.leaf [0, 1, 2, 7]) (.seq (.seq (.leaf [1, 2, 7, 8]) (.block (.loop (.seq (.seq (.leaf [1, 2, 7, 8, 12]) (.cond (.leaf [1, 2, 7, 8]) (.leaf [7]))) (.seq (.block (.leaf [1, 2, 7, 8])) (.leaf [1, 2, 7, 8])))))) (.seq (.leaf [6]) (.leaf [6])))))

noncomputable def impl_greatest_ctx : Ctx := ⟨tlook tys, olook [(72, F_impl_partTable_joined_1)], ioF, 0, false, []⟩

theorem impl_greatest_n1_l (x18262 : Int) (x18263 : Int) (x18264 : List (Int × Int × Unit)) (x18265 : Int) (x18266 : List (List Int)) (x18267 : Int) : Link impl_greatest_ctx LL (Code.seq (cq [0] (bodyOf Try.f46)) (cq [0,1] (bodyOf Try.f46))) (Ann.seq (aq [0] impl_greatest_an) (aq [0,1] impl_greatest_an)) ⟨mkE 21 0 [(0, dI x18262), (1, dI x18263), (2, .fn 72 [] [.pcell (.tab (.pair (.int .i64) (.pair (.int .i64) .unit)) x18264), .pcell (dI x18265), .pcell (.dat (.list (.list (.int .i64))) x18266), .pcell (dI x18267)])], []⟩ (impl_greatest_n1) (fun (t : Unit) => (Exit.normal, ⟨mkE 21 0 [(0, dI x18262), (1, dI x18263), (2, .fn 72 [] [.pcell (.tab (.pair (.int .i64) (.pair (.int .i64) .unit)) x18264), .pcell (dI x18265), .pcell (.dat (.list (.list (.int .i64))) x18266), .pcell (dI x18267)]), (7, dI 0)], []⟩)) := by
  refine Link.of fun K h => ?_
  simp only [impl_greatest_n1, wpO_bind, wpO_cond, wpO_map, wpO_some] at h
  exact Awp.of (by kernel_rfl) h

theorem impl_greatest_n2_l (x18262 : Int) (x18263 : Int) (x18264 : List (Int × Int × Unit)) (x18265 : Int) (x18266 : List (List Int)) (x18267 : Int) : Link impl_greatest_ctx LL (cq [0,0,1,1] (bodyOf Try.f46)) (aq [0,0,1,1] impl_greatest_an) ⟨mkE 21 0 [(0, dI x18262), (1, dI x18263), (2, .fn 72 [] [.pcell (.tab (.pair (.int .i64) (.pair (.int .i64) .unit)) x18264), .pcell (dI x18265), .pcell (.dat (.list (.list (.int .i64))) x18266), .pcell (dI x18267)]), (7, dI 0)], []⟩ (impl_greatest_n2) (fun (t : Unit) => (Exit.normal, ⟨mkE 21 0 [(1, dI x18263), (2, .fn 72 [] [.pcell (.tab (.pair (.int .i64) (.pair (.int .i64) .unit)) x18264), .pcell (dI x18265), .pcell (.dat (.list (.list (.int .i64))) x18266), .pcell (dI x18267)]), (7, dI 0), (8, dI x18262)], []⟩)) := by
  refine Link.of fun K h => ?_
  simp only [impl_greatest_n2, wpO_bind, wpO_cond, wpO_map, wpO_some] at h
  exact Awp.of (by kernel_rfl) h

theorem impl_greatest_n3_l (x18263 : Int) (x18264 : List (Int × Int × Unit)) (x18265 : Int) (x18266 : List (List Int)) (x18267 : Int) (x18385 : Int) (x18386 : Int) : Link impl_greatest_ctx LL (cq [0,0,1,0,1,1] (bodyOf Try.f46)) (aq [0,0,1,0,1,1] impl_greatest_an) ⟨mkE 21 0 [(1, dI x18263), (2, .fn 72 [] [.pcell (.tab (.pair (.int .i64) (.pair (.int .i64) .unit)) x18264), .pcell (dI x18265), .pcell (.dat (.list (.list (.int .i64))) x18266), .pcell (dI x18267)]), (7, dI x18385), (8, dI x18386)], []⟩ (impl_greatest_n3 x18263 x18264 x18265 x18266 x18267 x18385 x18386) (Sum.elim (fun (t : Int × Int) => (Exit.normal, ⟨mkE 21 0 [(1, dI x18263), (2, .fn 72 [] [.pcell (.tab (.pair (.int .i64) (.pair (.int .i64) .unit)) x18264), .pcell (dI x18265), .pcell (.dat (.list (.list (.int .i64))) x18266), .pcell (dI x18267)]), (7, dI t.1), (8, dI t.2)], []⟩)) (fun (t : Int) => ((Exit.exit 0), ⟨mkE 21 0 [(7, dI t)], []⟩))) := by
  refine Link.of fun K h => ?_
  simp only [impl_greatest_n3, wpO_bind, wpO_cond, wpO_map, wpO_some] at h
  exact Awp.of (by kernel_rfl) h

def impl_greatest_n4_l (x18263 : Int) (x18264 : List (Int × Int × Unit)) (x18265 : Int) (x18266 : List (List Int)) (x18267 : Int) (x18262 : Int) := (link_loop (mk := fun (s : Int × Int) => ⟨mkE 21 0 [(1, dI x18263), (2, .fn 72 [] [.pcell (.tab (.pair (.int .i64) (.pair (.int .i64) .unit)) x18264), .pcell (dI x18265), .pcell (.dat (.list (.list (.int .i64))) x18266), .pcell (dI x18267)]), (7, dI s.1), (8, dI s.2)], []⟩) (fin := (fun (t : Int) => ((Exit.exit 0), ⟨mkE 21 0 [(7, dI t)], []⟩))) (by
  rintro t f K h
  · exact h) (fun s => link_map (impl_greatest_n3_l x18263 x18264 x18265 x18266 x18267 s.1 s.2) (Sum.elim (fun (t : Int × Int) => Sum.inl (t.1, t.2)) (fun (t : Int) => Sum.inr t)) (by
  rintro (t | t)
  · kernel_rfl
  · kernel_rfl)) (0, x18262))

def impl_greatest_n5_l (x18263 : Int) (x18264 : List (Int × Int × Unit)) (x18265 : Int) (x18266 : List (List Int)) (x18267 : Int) (x18262 : Int) := (link_block (fin2 := (fun (t : Int) => (Exit.normal, ⟨mkE 21 0 [(7, dI t)], []⟩))) (id := 0) (impl_greatest_n4_l x18263 x18264 x18265 x18266 x18267 x18262) (fun (t : Int) => t) (by
  rintro t K h
  · exact Eq.mp (by kernel_rfl) h))

def impl_greatest_n6_l (x18262 : Int) (x18263 : Int) (x18264 : List (Int × Int × Unit)) (x18265 : Int) (x18266 : List (List Int)) (x18267 : Int) := (link_seq (impl_greatest_n2_l x18262 x18263 x18264 x18265 x18266 x18267) (fun (t : Unit) => (impl_greatest_n5_l x18263 x18264 x18265 x18266 x18267 x18262)))

theorem impl_greatest_n7_l (x18385 : Int) : Link impl_greatest_ctx LL (cq [1,1,1] (bodyOf Try.f46)) (aq [1,1,1] impl_greatest_an) ⟨mkE 21 0 [(7, dI x18385)], []⟩ (impl_greatest_n7 x18385) (fun (t : Int) => (Exit.ret, ⟨mkE 21 0 [(6, dI t)], []⟩)) := by
  refine Link.of fun K h => ?_
  simp only [impl_greatest_n7, wpO_bind, wpO_cond, wpO_map, wpO_some] at h
  exact Awp.of (by kernel_rfl) h

def impl_greatest_n8_l (x18262 : Int) (x18263 : Int) (x18264 : List (Int × Int × Unit)) (x18265 : Int) (x18266 : List (List Int)) (x18267 : Int) := (link_seq (impl_greatest_n6_l x18262 x18263 x18264 x18265 x18266 x18267) (fun (t : Int) => (impl_greatest_n7_l t)))

def impl_greatest_n9_l (x18262 : Int) (x18263 : Int) (x18264 : List (Int × Int × Unit)) (x18265 : Int) (x18266 : List (List Int)) (x18267 : Int) := (link_group (c := (cq [0,1] (bodyOf Try.f46))) (a := (aq [0,1] impl_greatest_an)) [(cq [0] (bodyOf Try.f46))] [(aq [0] impl_greatest_an)] rfl (link_seq (impl_greatest_n1_l x18262 x18263 x18264 x18265 x18266 x18267) (fun (t : Unit) => (impl_greatest_n8_l x18262 x18263 x18264 x18265 x18266 x18267))))

theorem impl_greatest_e (x18262 : Int) (x18263 : Int) (x18264 : List (Int × Int × Unit)) (x18265 : Int) (x18266 : List (List Int)) (x18267 : Int) {r : AV} {H' : Heap} (h : (Ans.mk _ (impl_greatest x18262 x18263 x18264 x18265 x18266 x18267) (fun (t : Int) => (dI t, [])) [] none).run = some (r, H')) : Awp impl_greatest_ctx LL (bodyOf Try.f46) impl_greatest_an ⟨mkE 21 0 [(0, dI x18262), (1, dI x18263), (2, .fn 72 [] [.pcell (.tab (.pair (.int .i64) (.pair (.int .i64) .unit)) x18264), .pcell (dI x18265), .pcell (.dat (.list (.list (.int .i64))) x18266), .pcell (dI x18267)])], []⟩ (Ret (tlook tys) Try.f46.results.toList r H') :=
  ret_of' (Link.cast (by kernel_rfl) (by kernel_rfl) (impl_greatest_n9_l x18262 x18263 x18264 x18265 x18266 x18267)) (by unfold impl_greatest; kernel_rfl) (by
  intro t
  exact ret_mk [dI t] (by kernel_rfl) (by kernel_rfl) (by kernel_rfl) (by kernel_rfl)) h

def F_impl_greatest : Fun := fun avs H =>
  match avs, H with
  | [.dat (.int .i64) x18262, .dat (.int .i64) x18263, .fn 72 [] [.pcell (.tab (.pair (.int .i64) (.pair (.int .i64) .unit)) x18264), .pcell (.dat (.int .i64) x18265), .pcell (.dat (.list (.list (.int .i64))) x18266), .pcell (.dat (.int .i64) x18267)]], [] => ⟨_, impl_greatest x18262 x18263 x18264 x18265 x18266 x18267, fun (t : Int) => (dI t, []), [], none⟩
  | _, _ => Ans.no

theorem impl_greatest_sound : Sound Try.prog 46 F_impl_greatest := by
  refine fn_sound' (C := impl_greatest_ctx) (c := bodyOf Try.f46) (cok_of tys_ok (allc impl_partTable_joined_1_sound alln) (allc Try.call72 alln) (by kernel_rfl)) Try.func46 (by kernel_rfl) LL impl_greatest_an ?_
  intro avs H r H' h
  unfold F_impl_greatest at h
  split at h
  · refine Awp.cast ?_ ?_ ?_ (impl_greatest_e _ _ _ _ _ _ h) <;> kernel_rfl
  · simp [Ans.no, Ans.run] at h


/-! (*loop.example/headtrees/impl.partTable).joined$2 -/

def impl_partTable_joined_2_an : Ann := (.seq (.leaf [0, 1, 2, 3, 4]) (.seq (.draw [20] [0, 1, 2, 3, 4, 5, 6, 7, 8, 9, 10, 11, 12, 13, 14, 15, 16, 17, 18, 19, 20, 21, 22] [] [6]) (.leaf [6])))

noncomputable def impl_partTable_joined_2_ctx : Ctx := ⟨tlook tys, olook [(73, F_impl_partTable_between)], ioF, 0, false, []⟩

theorem impl_partTable_joined_2_n1_l (x18404 : Int) (x18405 : List (Int × Int × Unit)) (x18406 : Int) (x18407 : List (List Int)) (x18408 : Int) : Link impl_partTable_joined_2_ctx LL (bodyOf Try.f74) impl_partTable_joined_2_an ⟨mkE 29 0 [(0, dI x18404), (1, .pcell (.tab (.pair (.int .i64) (.pair (.int .i64) .unit)) x18405)), (2, .pcell (dI x18406)), (3, .pcell (.dat (.list (.list (.int .i64))) x18407)), (4, .pcell (dI x18408))], []⟩ (impl_partTable_joined_2_n1 x18404 x18405 x18406 x18407 x18408) (fun (t : Int) => (Exit.ret, ⟨mkE 29 0 [(6, dI t)], []⟩)) := by
  refine Link.of fun K h => ?_
  simp only [impl_partTable_joined_2_n1, wpO_bind, wpO_cond, wpO_map, wpO_some] at h
  exact Awp.of (by kernel_rfl) h

theorem impl_partTable_joined_2_e (x18404 : Int) (x18405 : List (Int × Int × Unit)) (x18406 : Int) (x18407 : List (List Int)) (x18408 : Int) {r : AV} {H' : Heap} (h : (Ans.mk _ (impl_partTable_joined_2 x18404 x18405 x18406 x18407 x18408) (fun (t : Int) => (dI t, [])) [] none).run = some (r, H')) : Awp impl_partTable_joined_2_ctx LL (bodyOf Try.f74) impl_partTable_joined_2_an ⟨mkE 29 0 [(0, dI x18404), (1, .pcell (.tab (.pair (.int .i64) (.pair (.int .i64) .unit)) x18405)), (2, .pcell (dI x18406)), (3, .pcell (.dat (.list (.list (.int .i64))) x18407)), (4, .pcell (dI x18408))], []⟩ (Ret (tlook tys) Try.f74.results.toList r H') :=
  ret_of' (impl_partTable_joined_2_n1_l x18404 x18405 x18406 x18407 x18408) (by unfold impl_partTable_joined_2; kernel_rfl) (by
  intro t
  exact ret_mk [dI t] (by kernel_rfl) (by kernel_rfl) (by kernel_rfl) (by kernel_rfl)) h

def F_impl_partTable_joined_2 : Fun := fun avs H =>
  match avs, H with
  | [.dat (.int .i64) x18404, .pcell (.tab (.pair (.int .i64) (.pair (.int .i64) .unit)) x18405), .pcell (.dat (.int .i64) x18406), .pcell (.dat (.list (.list (.int .i64))) x18407), .pcell (.dat (.int .i64) x18408)], [] => ⟨_, impl_partTable_joined_2 x18404 x18405 x18406 x18407 x18408, fun (t : Int) => (dI t, []), [], none⟩
  | _, _ => Ans.no

theorem impl_partTable_joined_2_sound : Sound Try.prog 74 F_impl_partTable_joined_2 := by
  refine fn_sound' (C := impl_partTable_joined_2_ctx) (c := bodyOf Try.f74) (cok_of tys_ok (allc impl_partTable_between_sound alln) (allc Try.call73 alln) (by kernel_rfl)) Try.func74 (by kernel_rfl) LL impl_partTable_joined_2_an ?_
  intro avs H r H' h
  unfold F_impl_partTable_joined_2 at h
  split at h
  · refine Awp.cast ?_ ?_ ?_ (impl_partTable_joined_2_e _ _ _ _ _ h) <;> kernel_rfl
  · simp [Ans.no, Ans.run] at h


/-! loop.example/headtrees/impl.greatest (impl_greatest_v3) -/

def impl_greatest_v3_an : Ann := (.seq (.leaf [0, 1, 2]) (.seq (.leaf [0, 1, 2, 7]) (.seq (.seq (.leaf [1, 2, 7, 8]) (.block (.loop (.seq (.seq (.leaf [1, 2, 7, 8, 12]) (.cond (.leaf [1, 2, 7, 8]) (.leaf [7]))) (.seq (.block (.leaf [1, 2, 7, 8])) (.leaf [1, 2, 7, 8])))))) (.seq (.leaf [6]) (.leaf [6])))))

noncomputable def impl_greatest_v3_ctx : Ctx := ⟨tlook tys, olook [(74, F_impl_partTable_joined_2)], ioF, 0, false, []⟩

theorem impl_greatest_v3_n1_l (x18396 : Int) (x18397 : Int) (x18398 : List (Int × Int × Unit)) (x18399 : Int) (x18400 : List (List Int)) (x18401 : Int) : Link impl_greatest_v3_ctx LL (Code.seq (cq [0] (bodyOf Try.f46)) (cq [0,1] (bodyOf Try.f46))) (Ann.seq (aq [0] impl_greatest_v3_an) (aq [0,1] impl_greatest_v3_an)) ⟨mkE 21 0 [(0, dI x18396), (1, dI x18397), (2, .fn 74 [] [.pcell (.tab (.pair (.int .i64) (.pair (.int .i64) .unit)) x18398), .pcell (dI x18399), .pcell (.dat (.list (.list (.int .i64))) x18400), .pcell (dI x18401)])], []⟩ (impl_greatest_v3_n1) (fun (t : Unit) => (Exit.normal, ⟨mkE 21 0 [(0, dI x18396), (1, dI x18397), (2, .fn 74 [] [.pcell (.tab (.pair (.int .i64) (.pair (.int .i64) .unit)) x18398), .pcell (dI x18399), .pcell (.dat (.list (.list (.int .i64))) x18400), .pcell (dI x18401)]), (7, dI 0)], []⟩)) := by
  refine Link.of fun K h => ?_
  simp only [impl_greatest_v3_n1, wpO_bind, wpO_cond, wpO_map, wpO_some] at h
  exact Awp.of (by kernel_rfl) h

theorem impl_greatest_v3_n2_l (x18396 : Int) (x18397 : Int) (x18398 : List (Int × Int × Unit)) (x18399 : Int) (x18400 : List (List Int)) (x18401 : Int) : Link impl_greatest_v3_ctx LL (cq [0,0,1,1] (bodyOf Try.f46)) (aq [0,0,1,1] impl_greatest_v3_an) ⟨mkE 21 0 [(0, dI x18396), (1, dI x18397), (2, .fn 74 [] [.pcell (.tab (.pair (.int .i64) (.pair (.int .i64) .unit)) x18398), .pcell (dI x18399), .pcell (.dat (.list (.list (.int .i64))) x18400), .pcell (dI x18401)]), (7, dI 0)], []⟩ (impl_greatest_v3_n2) (fun (t : Unit) => (Exit.normal, ⟨mkE 21 0 [(1, dI x18397), (2, .fn 74 [] [.pcell (.tab (.pair (.int .i64) (.pair (.int .i64) .unit)) x18398), .pcell (dI x18399), .pcell (.dat (.list (.list (.int .i64))) x18400), .pcell (dI x18401)]), (7, dI 0), (8, dI x18396)], []⟩)) := by
  refine Link.of fun K h => ?_
  simp only [impl_greatest_v3_n2, wpO_bind, wpO_cond, wpO_map, wpO_some] at h
  exact Awp.of (by kernel_rfl) h

theorem impl_greatest_v3_n3_l (x18397 : Int) (x18398 : List (Int × Int × Unit)) (x18399 : Int) (x18400 : List (List Int)) (x18401 : Int) (x18445 : Int) (x18446 : Int) : Link impl_greatest_v3_ctx LL (cq [0,0,1,0,1,1] (bodyOf Try.f46)) (aq [0,0,1,0,1,1] impl_greatest_v3_an) ⟨mkE 21 0 [(1, dI x18397), (2, .fn 74 [] [.pcell (.tab (.pair (.int .i64) (.pair (.int .i64) .unit)) x18398), .pcell (dI x18399), .pcell (.dat (.list (.list (.int .i64))) x18400), .pcell (dI x18401)]), (7, dI x18445), (8, dI x18446)], []⟩ (impl_greatest_v3_n3 x18397 x18398 x18399 x18400 x18401 x18445 x18446) (Sum.elim (fun (t : Int × Int) => (Exit.normal, ⟨mkE 21 0 [(1, dI x18397), (2, .fn 74 [] [.pcell (.tab (.pair (.int .i64) (.pair (.int .i64) .unit)) x18398), .pcell (dI x18399), .pcell (.dat (.list (.list (.int .i64))) x18400), .pcell (dI x18401)]), (7, dI t.1), (8, dI t.2)], []⟩)) (fun (t : Int) => ((Exit.exit 0), ⟨mkE 21 0 [(7, dI t)], []⟩))) := by
  refine Link.of fun K h => ?_
  simp only [impl_greatest_v3_n3, wpO_bind, wpO_cond, wpO_map, wpO_some] at h
  exact Awp.of (by kernel_rfl) h

def impl_greatest_v3_n4_l (x18397 : Int) (x18398 : List (Int × Int × Unit)) (x18399 : Int) (x18400 : List (List Int)) (x18401 : Int) (x18396 : Int) := (link_loop (mk := fun (s : Int × Int) => ⟨mkE 21 0 [(1, dI x18397), (2, .fn 74 [] [.pcell (.tab (.pair (.int .i64) (.pair (.int .i64) .unit)) x18398), .pcell (dI x18399), .pcell (.dat (.list (.list (.int .i64))) x18400), .pcell (dI x18401)]), (7, dI s.1), (8, dI s.2)], []⟩) (fin := (fun (t : Int) => ((Exit.exit 0), ⟨mkE 21 0 [(7, dI t)], []⟩))) (by
  rintro t f K h
  · exact h) (fun s => link_map (impl_greatest_v3_n3_l x18397 x18398 x18399 x18400 x18401 s.1 s.2) (Sum.elim (fun (t : Int × Int) => Sum.inl (t.1, t.2)) (fun (t : Int) => Sum.inr t)) (by
  rintro (t | t)
  · kernel_rfl
  · kernel_rfl)) (0, x18396))

def impl_greatest_v3_n5_l (x18397 : Int) (x18398 : List (Int × Int × Unit)) (x18399 : Int) (x18400 : List (List Int)) (x18401 : Int) (x18396 : Int) := (link_block (fin2 := (fun (t : Int) => (Exit.normal, ⟨mkE 21 0 [(7, dI t)], []⟩))) (id := 0) (impl_greatest_v3_n4_l x18397 x18398 x18399 x18400 x18401 x18396) (fun (t : Int) => t) (by
  rintro t K h
  · exact Eq.mp (by kernel_rfl) h))

def impl_greatest_v3_n6_l (x18396 : Int) (x18397 : Int) (x18398 : List (Int × Int × Unit)) (x18399 : Int) (x18400 : List (List Int)) (x18401 : Int) := (link_seq (impl_greatest_v3_n2_l x18396 x18397 x18398 x18399 x18400 x18401) (fun (t : Unit) => (impl_greatest_v3_n5_l x18397 x18398 x18399 x18400 x18401 x18396)))

theorem impl_greatest_v3_n7_l (x18445 : Int) : Link impl_greatest_v3_ctx LL (cq [1,1,1] (bodyOf Try.f46)) (aq [1,1,1] impl_greatest_v3_an) ⟨mkE 21 0 [(7, dI x18445)], []⟩ (impl_greatest_v3_n7 x18445) (fun (t : Int) => (Exit.ret, ⟨mkE 21 0 [(6, dI t)], []⟩)) := by
  refine Link.of fun K h => ?_
  simp only [impl_greatest_v3_n7, wpO_bind, wpO_cond, wpO_map, wpO_some] at h
  exact Awp.of (by kernel_rfl) h

def impl_greatest_v3_n8_l (x18396 : Int) (x18397 : Int) (x18398 : List (Int × Int × Unit)) (x18399 : Int) (x18400 : List (List Int)) (x18401 : Int) := (link_seq (impl_greatest_v3_n6_l x18396 x18397 x18398 x18399 x18400 x18401) (fun (t : Int) => (impl_greatest_v3_n7_l t)))

def impl_greatest_v3_n9_l (x18396 : Int) (x18397 : Int) (x18398 : List (Int × Int × Unit)) (x18399 : Int) (x18400 : List (List Int)) (x18401 : Int) := (link_group (c := (cq [0,1] (bodyOf Try.f46))) (a := (aq [0,1] impl_greatest_v3_an)) [(cq [0] (bodyOf Try.f46))] [(aq [0] impl_greatest_v3_an)] rfl (link_seq (impl_greatest_v3_n1_l x18396 x18397 x18398 x18399 x18400 x18401) (fun (t : Unit) => (impl_greatest_v3_n8_l x18396 x18397 x18398 x18399 x18400 x18401))))

theorem impl_greatest_v3_e (x18396 : Int) (x18397 : Int) (x18398 : List (Int × Int × Unit)) (x18399 : Int) (x18400 : List (List Int)) (x18401 : Int) {r : AV} {H' : Heap} (h : (Ans.mk _ (impl_greatest_v3 x18396 x18397 x18398 x18399 x18400 x18401) (fun (t : Int) => (dI t, [])) [] none).run = some (r, H')) : Awp impl_greatest_v3_ctx LL (bodyOf Try.f46) impl_greatest_v3_an ⟨mkE 21 0 [(0, dI x18396), (1, dI x18397), (2, .fn 74 [] [.pcell (.tab (.pair (.int .i64) (.pair (.int .i64) .unit)) x18398), .pcell (dI x18399), .pcell (.dat (.list (.list (.int .i64))) x18400), .pcell (dI x18401)])], []⟩ (Ret (tlook tys) Try.f46.results.toList r H') :=
  ret_of' (Link.cast (by kernel_rfl) (by kernel_rfl) (impl_greatest_v3_n9_l x18396 x18397 x18398 x18399 x18400 x18401)) (by unfold impl_greatest_v3; kernel_rfl) (by
  intro t
  exact ret_mk [dI t] (by kernel_rfl) (by kernel_rfl) (by kernel_rfl) (by kernel_rfl)) h

def F_impl_greatest_v3 : Fun := fun avs H =>
  match avs, H with
  | [.dat (.int .i64) x18396, .dat (.int .i64) x18397, .fn 74 [] [.pcell (.tab (.pair (.int .i64) (.pair (.int .i64) .unit)) x18398), .pcell (.dat (.int .i64) x18399), .pcell (.dat (.list (.list (.int .i64))) x18400), .pcell (.dat (.int .i64) x18401)]], [] => ⟨_, impl_greatest_v3 x18396 x18397 x18398 x18399 x18400 x18401, fun (t : Int) => (dI t, []), [], none⟩
  | _, _ => Ans.no

theorem impl_greatest_v3_sound : Sound Try.prog 46 F_impl_greatest_v3 := by
  refine fn_sound' (C := impl_greatest_v3_ctx) (c := bodyOf Try.f46) (cok_of tys_ok (allc impl_partTable_joined_2_sound alln) (allc Try.call74 alln) (by kernel_rfl)) Try.func46 (by kernel_rfl) LL impl_greatest_v3_an ?_
  intro avs H r H' h
  unfold F_impl_greatest_v3 at h
  split at h
  · refine Awp.cast ?_ ?_ ?_ (impl_greatest_v3_e _ _ _ _ _ _ h) <;> kernel_rfl
  · simp [Ans.no, Ans.run] at h


/-! (*loop.example/headtrees/impl.partTable).joined -/

def impl_partTable_joined_an : Ann := (.seq (.leaf [4, 5, 6, 7, 8]) (.seq (.draw [4, 9] [0, 1, 2, 3, 5, 6, 7, 8, 4, 9, 10, 11] [] [8]) (.leaf [8])))

noncomputable def impl_partTable_joined_ctx : Ctx := ⟨tlook tys, olook [(46, (pickF 2 72 F_impl_greatest F_impl_greatest_v3))], ioF, 0, false, []⟩

theorem impl_partTable_joined_n1_l (x18256 : List (Int × Int × Unit)) (x18257 : List (List Int)) (x18258 : Int) (x18259 : Int) : Link impl_partTable_joined_ctx LL (bodyOf Try.f64) impl_partTable_joined_an ⟨mkE 20 0 [(0, .tab (.pair (.int .i64) (.pair (.int .i64) .unit)) x18256), (1, .dat (.list (.list (.int .i64))) x18257), (2, dI x18258), (3, dI x18259)], []⟩ (impl_partTable_joined_n1 x18256 x18257 x18258 x18259) (fun (t : Int × Int) => (Exit.ret, ⟨mkE 20 0 [(8, .ptr 0 0)], [some (.box [dI t.1, dI t.2])]⟩)) := by
  refine Link.of fun K h => ?_
  simp only [impl_partTable_joined_n1, wpO_bind, wpO_cond, wpO_map, wpO_some] at h
  exact Awp.of (by kernel_rfl) h

theorem impl_partTable_joined_e (x18256 : List (Int × Int × Unit)) (x18257 : List (List Int)) (x18258 : Int) (x18259 : Int) {r : AV} {H' : Heap} (h : (Ans.mk _ (impl_partTable_joined x18256 x18257 x18258 x18259) (fun (t : Int × Int) => (.agg [dI t.1, dI t.2], [some (.box [dI t.1, dI t.2])])) [] none).run = some (r, H')) : Awp impl_partTable_joined_ctx LL (bodyOf Try.f64) impl_partTable_joined_an ⟨mkE 20 0 [(0, .tab (.pair (.int .i64) (.pair (.int .i64) .unit)) x18256), (1, .dat (.list (.list (.int .i64))) x18257), (2, dI x18258), (3, dI x18259)], []⟩ (Ret (tlook tys) Try.f64.results.toList r H') :=
  ret_of' (impl_partTable_joined_n1_l x18256 x18257 x18258 x18259) (by unfold impl_partTable_joined; kernel_rfl) (by
  intro t
  exact ret_mk [.agg [dI t.1, dI t.2]] (by kernel_rfl) (by kernel_rfl) (by kernel_rfl) (by kernel_rfl)) h

def F_impl_partTable_joined : Fun := fun avs H =>
  match avs, H with
  | [.tab (.pair (.int .i64) (.pair (.int .i64) .unit)) x18256, .dat (.list (.list (.int .i64))) x18257, .dat (.int .i64) x18258, .dat (.int .i64) x18259], [] => ⟨_, impl_partTable_joined x18256 x18257 x18258 x18259, fun (t : Int × Int) => (.agg [dI t.1, dI t.2], [some (.box [dI t.1, dI t.2])]), [], none⟩
  | _, _ => Ans.no

theorem impl_partTable_joined_sound : Sound Try.prog 64 F_impl_partTable_joined := by
  refine fn_sound' (C := impl_partTable_joined_ctx) (c := bodyOf Try.f64) (cok_of tys_ok (allc (Sound.pick impl_greatest_sound impl_greatest_v3_sound 2 72) alln) (allc Try.call46 alln) (by kernel_rfl)) Try.func64 (by kernel_rfl) LL impl_partTable_joined_an ?_
  intro avs H r H' h
  unfold F_impl_partTable_joined at h
  split at h
  · refine Awp.cast ?_ ?_ ?_ (impl_partTable_joined_e _ _ _ _ h) <;> kernel_rfl
  · simp [Ans.no, Ans.run] at h


/-! loop.example/headtrees/impl.bestParts -/

def impl_bestParts_an : Ann := (.seq (.leaf [0]) (.seq (.leaf [0, 3]) (.seq (.seq (.leaf [0, 3, 4]) (.block (.loop (.seq (.seq (.leaf [0, 3, 4, 9]) (.cond (.leaf [0, 3, 4]) (.leaf [3]))) (.seq (.block (.seq (.leaf [0, 3, 4, 5]) (.block (.loop (.seq (.seq (.leaf [0, 3, 4, 5, 15]) (.cond (.leaf [0, 3, 4, 5]) (.leaf [0, 3, 4]))) (.seq (.block (.draw [5, 100008] [0, 1, 2, 3, 4, 6, 5, 7, 8] [] [0, 3, 4, 5])) (.leaf [0, 3, 4, 5]))))))) (.leaf [0, 3, 4])))))) (.seq (.leaf [2]) (.leaf [2])))))

noncomputable def impl_bestParts_ctx : Ctx := ⟨tlook tys, olook [(64, F_impl_partTable_joined)], ioF, 0, false, []⟩

theorem impl_bestParts_n1_l (x18247 : List (List Int)) : Link impl_bestParts_ctx LL (Code.seq (cq [0] (bodyOf Try.f45)) (cq [0,1] (bodyOf Try.f45))) (Ann.seq (aq [0] impl_bestParts_an) (aq [0,1] impl_bestParts_an)) ⟨mkE 26 0 [(0, .dat (.list (.list (.int .i64))) x18247)], []⟩ (impl_bestParts_n1) (fun (t : Unit) => (Exit.normal, ⟨mkE 26 0 [(0, .dat (.list (.list (.int .i64))) x18247), (3, .ptr 0 0)], [some (.seq (.pair (.int .i64) (.pair (.int .i64) .unit)) (List.replicate 36 ((0 : Int), ((0 : Int), ()))))]⟩)) := by
  refine Link.of fun K h => ?_
  simp only [impl_bestParts_n1, wpO_bind, wpO_cond, wpO_map, wpO_some] at h
  exact Awp.of (by kernel_rfl) h

theorem impl_bestParts_n2_l (x18247 : List (List Int)) : Link impl_bestParts_ctx LL (cq [0,0,1,1] (bodyOf Try.f45)) (aq [0,0,1,1] impl_bestParts_an) ⟨mkE 26 0 [(0, .dat (.list (.list (.int .i64))) x18247), (3, .ptr 0 0)], [some (.seq (.pair (.int .i64) (.pair (.int .i64) .unit)) (List.replicate 36 ((0 : Int), ((0 : Int), ()))))]⟩ (impl_bestParts_n2) (fun (t : Unit) => (Exit.normal, ⟨mkE 26 0 [(0, .dat (.list (.list (.int .i64))) x18247), (3, .ptr 0 0), (4, dI 2)], [some (.seq (.pair (.int .i64) (.pair (.int .i64) .unit)) (List.replicate 36 ((0 : Int), ((0 : Int), ()))))]⟩)) := by
  refine Link.of fun K h => ?_
  simp only [impl_bestParts_n2, wpO_bind, wpO_cond, wpO_map, wpO_some] at h
  exact Awp.of (by kernel_rfl) h

theorem impl_bestParts_n3_l (x18247 : List (List Int)) (x18548 : Int) (x18549 : List (Int × Int × Unit)) : Link impl_bestParts_ctx LL (cq [0,0,0,1,0,1,1] (bodyOf Try.f45)) (aq [0,0,0,1,0,1,1] impl_bestParts_an) ⟨mkE 26 0 [(0, .dat (.list (.list (.int .i64))) x18247), (3, .ptr 0 0), (4, dI x18548)], [some (.seq (.pair (.int .i64) (.pair (.int .i64) .unit)) x18549)]⟩ (impl_bestParts_n3 x18247 x18548 x18549) (Sum.elim (fun (t : Unit) => (Exit.normal, ⟨mkE 26 0 [(0, .dat (.list (.list (.int .i64))) x18247), (3, .ptr 0 0), (4, dI x18548)], [some (.seq (.pair (.int .i64) (.pair (.int .i64) .unit)) x18549)]⟩)) (fun (t : (List (Int × Int × Unit))) => ((Exit.exit 0), ⟨mkE 26 0 [(3, .ptr 0 0)], [some (.seq (.pair (.int .i64) (.pair (.int .i64) .unit)) t)]⟩))) := by
  refine Link.of fun K h => ?_
  simp only [impl_bestParts_n3, wpO_bind, wpO_cond, wpO_map, wpO_some] at h
  exact Awp.of (by kernel_rfl) h

theorem impl_bestParts_n4_l (x18247 : List (List Int)) (x18548 : Int) (x18549 : List (Int × Int × Unit)) : Link impl_bestParts_ctx LL (cq [0,0,0,1,0,0,1,0,1,1] (bodyOf Try.f45)) (aq [0,0,0,1,0,0,1,0,1,1] impl_bestParts_an) ⟨mkE 26 0 [(0, .dat (.list (.list (.int .i64))) x18247), (3, .ptr 0 0), (4, dI x18548)], [some (.seq (.pair (.int .i64) (.pair (.int .i64) .unit)) x18549)]⟩ (impl_bestParts_n4 x18548) (fun (t : Int) => (Exit.normal, ⟨mkE 26 0 [(0, .dat (.list (.list (.int .i64))) x18247), (3, .ptr 0 0), (4, dI x18548), (5, dI t)], [some (.seq (.pair (.int .i64) (.pair (.int .i64) .unit)) x18549)]⟩)) := by
  refine Link.of fun K h => ?_
  simp only [impl_bestParts_n4, wpO_bind, wpO_cond, wpO_map, wpO_some] at h
  exact Awp.of (by kernel_rfl) h

theorem impl_bestParts_n5_l (x18247 : List (List Int)) (x18548 : Int) (x18591 : Int) (x18592 : List (Int × Int × Unit)) : Link impl_bestParts_ctx LL (cq [0,0,1,0,0,1,0,0,1,0,1,1] (bodyOf Try.f45)) (aq [0,0,1,0,0,1,0,0,1,0,1,1] impl_bestParts_an) ⟨mkE 26 0 [(0, .dat (.list (.list (.int .i64))) x18247), (3, .ptr 0 0), (4, dI x18548), (5, dI x18591)], [some (.seq (.pair (.int .i64) (.pair (.int .i64) .unit)) x18592)]⟩ (impl_bestParts_n5 x18247 x18548 x18591 x18592) (Sum.elim (fun (t : Int × (List (Int × Int × Unit))) => (Exit.normal, ⟨mkE 26 0 [(0, .dat (.list (.list (.int .i64))) x18247), (3, .ptr 0 0), (4, dI x18548), (5, dI t.1)], [some (.seq (.pair (.int .i64) (.pair (.int .i64) .unit)) t.2)]⟩)) (fun (t : (List (Int × Int × Unit))) => ((Exit.exit 2), ⟨mkE 26 0 [(0, .dat (.list (.list (.int .i64))) x18247), (3, .ptr 0 0), (4, dI x18548)], [some (.seq (.pair (.int .i64) (.pair (.int .i64) .unit)) t)]⟩))) := by
  refine Link.of fun K h => ?_
  simp only [impl_bestParts_n5, wpO_bind, wpO_cond, wpO_map, wpO_some] at h
  exact Awp.of (by kernel_rfl) h

def impl_bestParts_n6_l (x18247 : List (List Int)) (x18548 : Int) (x18552 : Int) (x18549 : List (Int × Int × Unit)) := (link_loop (mk := fun (s : Int × (List (Int × Int × Unit))) => ⟨mkE 26 0 [(0, .dat (.list (.list (.int .i64))) x18247), (3, .ptr 0 0), (4, dI x18548), (5, dI s.1)], [some (.seq (.pair (.int .i64) (.pair (.int .i64) .unit)) s.2)]⟩) (fin := (fun (t : (List (Int × Int × Unit))) => ((Exit.exit 2), ⟨mkE 26 0 [(0, .dat (.list (.list (.int .i64))) x18247), (3, .ptr 0 0), (4, dI x18548)], [some (.seq (.pair (.int .i64) (.pair (.int .i64) .unit)) t)]⟩))) (by
  rintro t f K h
  · exact h) (fun s => link_map (impl_bestParts_n5_l x18247 x18548 s.1 s.2) (Sum.elim (fun (t : Int × (List (Int × Int × Unit))) => Sum.inl (t.1, t.2)) (fun (t : (List (Int × Int × Unit))) => Sum.inr t)) (by
  rintro (t | t)
  · kernel_rfl
  · kernel_rfl)) (x18552, x18549))

def impl_bestParts_n7_l (x18247 : List (List Int)) (x18548 : Int) (x18552 : Int) (x18549 : List (Int × Int × Unit)) := (link_block (fin2 := (fun (t : (List (Int × Int × Unit))) => (Exit.normal, ⟨mkE 26 0 [(0, .dat (.list (.list (.int .i64))) x18247), (3, .ptr 0 0), (4, dI x18548)], [some (.seq (.pair (.int .i64) (.pair (.int .i64) .unit)) t)]⟩))) (id := 2) (impl_bestParts_n6_l x18247 x18548 x18552 x18549) (fun (t : (List (Int × Int × Unit))) => t) (by
  rintro t K h
  · exact Eq.mp (by kernel_rfl) h))

def impl_bestParts_n8_l (x18247 : List (List Int)) (x18548 : Int) (x18549 : List (Int × Int × Unit)) := (link_seq (impl_bestParts_n4_l x18247 x18548 x18549) (fun (t : Int) => (impl_bestParts_n7_l x18247 x18548 t x18549)))

def impl_bestParts_n9_l (x18247 : List (List Int)) (x18548 : Int) (x18549 : List (Int × Int × Unit)) := (link_block (fin2 := (fun (t : (List (Int × Int × Unit))) => (Exit.normal, ⟨mkE 26 0 [(0, .dat (.list (.list (.int .i64))) x18247), (3, .ptr 0 0), (4, dI x18548)], [some (.seq (.pair (.int .i64) (.pair (.int .i64) .unit)) t)]⟩))) (id := 1) (impl_bestParts_n8_l x18247 x18548 x18549) (fun (t : (List (Int × Int × Unit))) => t) (by
  rintro t K h
  · exact Eq.mp (by kernel_rfl) h))

theorem impl_bestParts_n10_l (x18247 : List (List Int)) (x18548 : Int) (x18592 : List (Int × Int × Unit)) : Link impl_bestParts_ctx LL (cq [1,1,0,0,1,0,1,1] (bodyOf Try.f45)) (aq [1,1,0,0,1,0,1,1] impl_bestParts_an) ⟨mkE 26 0 [(0, .dat (.list (.list (.int .i64))) x18247), (3, .ptr 0 0), (4, dI x18548)], [some (.seq (.pair (.int .i64) (.pair (.int .i64) .unit)) x18592)]⟩ (impl_bestParts_n10 x18548) (fun (t : Int) => (Exit.normal, ⟨mkE 26 0 [(0, .dat (.list (.list (.int .i64))) x18247), (3, .ptr 0 0), (4, dI t)], [some (.seq (.pair (.int .i64) (.pair (.int .i64) .unit)) x18592)]⟩)) := by
  refine Link.of fun K h => ?_
  simp only [impl_bestParts_n10, wpO_bind, wpO_cond, wpO_map, wpO_some] at h
  exact Awp.of (by kernel_rfl) h

def impl_bestParts_n11_l (x18247 : List (List Int)) (x18548 : Int) (x18549 : List (Int × Int × Unit)) := (link_seq (impl_bestParts_n9_l x18247 x18548 x18549) (fun (t : (List (Int × Int × Unit))) => (link_map (fin2 := (fun (t : Int × (List (Int × Int × Unit))) => (Exit.normal, ⟨mkE 26 0 [(0, .dat (.list (.list (.int .i64))) x18247), (3, .ptr 0 0), (4, dI t.1)], [some (.seq (.pair (.int .i64) (.pair (.int .i64) .unit)) t.2)]⟩))) (impl_bestParts_n10_l x18247 x18548 t) (fun (u : Int) => (u, t)) (by
  rintro t
  · kernel_rfl))))

def impl_bestParts_n12_l (x18247 : List (List Int)) (x18548 : Int) (x18549 : List (Int × Int × Unit)) := (link_seq2 (impl_bestParts_n3_l x18247 x18548 x18549) (fun (t : Unit) => (link_map (fin2 := (Sum.elim (fun (t : Int × (List (Int × Int × Unit))) => (Exit.normal, ⟨mkE 26 0 [(0, .dat (.list (.list (.int .i64))) x18247), (3, .ptr 0 0), (4, dI t.1)], [some (.seq (.pair (.int .i64) (.pair (.int .i64) .unit)) t.2)]⟩)) (fun (t : (List (Int × Int × Unit))) => ((Exit.exit 0), ⟨mkE 26 0 [(3, .ptr 0 0)], [some (.seq (.pair (.int .i64) (.pair (.int .i64) .unit)) t)]⟩)))) (impl_bestParts_n11_l x18247 x18548 x18549) (fun (t : Int × (List (Int × Int × Unit))) => (Sum.inl (t.1, t.2))) (by
  rintro t
  · kernel_rfl))) (fun (t : (List (Int × Int × Unit))) => (Sum.inr t)) (by
  rintro t
  · kernel_rfl) (by
  rintro t f K h
  · exact h))

def impl_bestParts_n13_l (x18247 : List (List Int)) := (link_loop (mk := fun (s : Int × (List (Int × Int × Unit))) => ⟨mkE 26 0 [(0, .dat (.list (.list (.int .i64))) x18247), (3, .ptr 0 0), (4, dI s.1)], [some (.seq (.pair (.int .i64) (.pair (.int .i64) .unit)) s.2)]⟩) (fin := (fun (t : (List (Int × Int × Unit))) => ((Exit.exit 0), ⟨mkE 26 0 [(3, .ptr 0 0)], [some (.seq (.pair (.int .i64) (.pair (.int .i64) .unit)) t)]⟩))) (by
  rintro t f K h
  · exact h) (fun s => link_map (impl_bestParts_n12_l x18247 s.1 s.2) (Sum.elim (fun (t : Int × (List (Int × Int × Unit))) => Sum.inl (t.1, t.2)) (fun (t : (List (Int × Int × Unit))) => Sum.inr t)) (by
  rintro (t | t)
  · kernel_rfl
  · kernel_rfl)) (2, (List.replicate 36 ((0 : Int), ((0 : Int), ())))))

def impl_bestParts_n14_l (x18247 : List (List Int)) := (link_block (fin2 := (fun (t : (List (Int × Int × Unit))) => (Exit.normal, ⟨mkE 26 0 [(3, .ptr 0 0)], [some (.seq (.pair (.int .i64) (.pair (.int .i64) .unit)) t)]⟩))) (id := 0) (impl_bestParts_n13_l x18247) (fun (t : (List (Int × Int × Unit))) => t) (by
  rintro t K h
  · exact Eq.mp (by kernel_rfl) h))

def impl_bestParts_n15_l (x18247 : List (List Int)) := (link_seq (impl_bestParts_n2_l x18247) (fun (t : Unit) => (impl_bestParts_n14_l x18247)))

theorem impl_bestParts_n16_l (x18549 : List (Int × Int × Unit)) : Link impl_bestParts_ctx LL (cq [1,1,1] (bodyOf Try.f45)) (aq [1,1,1] impl_bestParts_an) ⟨mkE 26 0 [(3, .ptr 0 0)], [some (.seq (.pair (.int .i64) (.pair (.int .i64) .unit)) x18549)]⟩ (impl_bestParts_n16 x18549) (fun (t : (List (Int × Int × Unit))) => (Exit.ret, ⟨mkE 26 0 [(2, .ptr 0 0)], [some (.seq (.pair (.int .i64) (.pair (.int .i64) .unit)) t)]⟩)) := by
  refine Link.of fun K h => ?_
  simp only [impl_bestParts_n16, wpO_bind, wpO_cond, wpO_map, wpO_some] at h
  exact Awp.of (by kernel_rfl) h

def impl_bestParts_n17_l (x18247 : List (List Int)) := (link_seq (impl_bestParts_n15_l x18247) (fun (t : (List (Int × Int × Unit))) => (impl_bestParts_n16_l t)))

def impl_bestParts_n18_l (x18247 : List (List Int)) := (link_group (c := (cq [0,1] (bodyOf Try.f45))) (a := (aq [0,1] impl_bestParts_an)) [(cq [0] (bodyOf Try.f45))] [(aq [0] impl_bestParts_an)] rfl (link_seq (impl_bestParts_n1_l x18247) (fun (t : Unit) => (impl_bestParts_n17_l x18247))))

theorem impl_bestParts_e (x18247 : List (List Int)) {r : AV} {H' : Heap} (h : (Ans.mk _ (impl_bestParts x18247) (fun (t : (List (Int × Int × Unit))) => (.ptr 0 0, [some (.seq (.pair (.int .i64) (.pair (.int .i64) .unit)) t)])) [] none).run = some (r, H')) : Awp impl_bestParts_ctx LL (bodyOf Try.f45) impl_bestParts_an ⟨mkE 26 0 [(0, .dat (.list (.list (.int .i64))) x18247)], []⟩ (Ret (tlook tys) Try.f45.results.toList r H') :=
  ret_of' (Link.cast (by kernel_rfl) (by kernel_rfl) (impl_bestParts_n18_l x18247)) (by unfold impl_bestParts; kernel_rfl) (by
  intro t
  exact ret_mk [.ptr 0 0] (by kernel_rfl) (by kernel_rfl) (by kernel_rfl) (by kernel_rfl)) h

def F_impl_bestParts : Fun := fun avs H =>
  match avs, H with
  | [.dat (.list (.list (.int .i64))) x18247], [] => ⟨_, impl_bestParts x18247, fun (t : (List (Int × Int × Unit))) => (.ptr 0 0, [some (.seq (.pair (.int .i64) (.pair (.int .i64) .unit)) t)]), [], none⟩
  | _, _ => Ans.no

theorem impl_bestParts_sound : Sound Try.prog 45 F_impl_bestParts := by
  refine fn_sound' (C := impl_bestParts_ctx) (c := bodyOf Try.f45) (cok_of tys_ok (allc impl_partTable_joined_sound alln) (allc Try.call64 alln) (by kernel_rfl)) Try.func45 (by kernel_rfl) LL impl_bestParts_an ?_
  intro avs H r H' h
  unfold F_impl_bestParts at h
  split at h
  · refine Awp.cast ?_ ?_ ?_ (impl_bestParts_e _ h) <;> kernel_rfl
  · simp [Ans.no, Ans.run] at h


/-! loop.example/headtrees/impl.BestFlat$1 -/

def impl_BestFlat_1_an : Ann := (.seq (.leaf [0, 1, 2, 3]) (.seq (.draw [] [0, 1, 2, 3, 4, 5, 6, 7, 8, 9, 10, 11, 12, 13, 14, 15, 16, 17, 18, 19, 20, 21, 22, 23, 24] [] [5]) (.leaf [5])))

noncomputable def impl_BestFlat_1_ctx : Ctx := ⟨tlook tys, olook [], ioF, 0, false, []⟩

theorem impl_BestFlat_1_n1_l (x18654 : Int) (x18655 : List (Int × Int × Unit)) (x18656 : List (List Int)) (x18657 : Int) : Link impl_BestFlat_1_ctx LL (bodyOf Try.f47) impl_BestFlat_1_an ⟨mkE 30 0 [(0, dI x18654), (1, .pcell (.tab (.pair (.int .i64) (.pair (.int .i64) .unit)) x18655)), (2, .pcell (.dat (.list (.list (.int .i64))) x18656)), (3, .pcell (dI x18657))], []⟩ (impl_BestFlat_1_n1 x18654 x18655 x18656 x18657) (fun (t : Int) => (Exit.ret, ⟨mkE 30 0 [(5, dI t)], []⟩)) := by
  refine Link.of fun K h => ?_
  simp only [impl_BestFlat_1_n1, wpO_bind, wpO_cond, wpO_map, wpO_some] at h
  exact Awp.of (by kernel_rfl) h

theorem impl_BestFlat_1_e (x18654 : Int) (x18655 : List (Int × Int × Unit)) (x18656 : List (List Int)) (x18657 : Int) {r : AV} {H' : Heap} (h : (Ans.mk _ (impl_BestFlat_1 x18654 x18655 x18656 x18657) (fun (t : Int) => (dI t, [])) [] none).run = some (r, H')) : Awp impl_BestFlat_1_ctx LL (bodyOf Try.f47) impl_BestFlat_1_an ⟨mkE 30 0 [(0, dI x18654), (1, .pcell (.tab (.pair (.int .i64) (.pair (.int .i64) .unit)) x18655)), (2, .pcell (.dat (.list (.list (.int .i64))) x18656)), (3, .pcell (dI x18657))], []⟩ (Ret (tlook tys) Try.f47.results.toList r H') :=
  ret_of' (impl_BestFlat_1_n1_l x18654 x18655 x18656 x18657) (by unfold impl_BestFlat_1; kernel_rfl) (by
  intro t
  exact ret_mk [dI t] (by kernel_rfl) (by kernel_rfl) (by kernel_rfl) (by kernel_rfl)) h

def F_impl_BestFlat_1 : Fun := fun avs H =>
  match avs, H with
  | [.dat (.int .i64) x18654, .pcell (.tab (.pair (.int .i64) (.pair (.int .i64) .unit)) x18655), .pcell (.dat (.list (.list (.int .i64))) x18656), .pcell (.dat (.int .i64) x18657)], [] => ⟨_, impl_BestFlat_1 x18654 x18655 x18656 x18657, fun (t : Int) => (dI t, []), [], none⟩
  | _, _ => Ans.no

theorem impl_BestFlat_1_sound : Sound Try.prog 47 F_impl_BestFlat_1 := by
  refine fn_sound' (C := impl_BestFlat_1_ctx) (c := bodyOf Try.f47) (cok_of tys_ok (alln) (alln) (by kernel_rfl)) Try.func47 (by kernel_rfl) LL impl_BestFlat_1_an ?_
  intro avs H r H' h
  unfold F_impl_BestFlat_1 at h
  split at h
  · refine Awp.cast ?_ ?_ ?_ (impl_BestFlat_1_e _ _ _ _ h) <;> kernel_rfl
  · simp [Ans.no, Ans.run] at h


/-! loop.example/headtrees/impl.greatest (impl_greatest_v4) -/

def impl_greatest_v4_an : Ann := (.seq (.leaf [0, 1, 2]) (.seq (.leaf [0, 1, 2, 7]) (.seq (.seq (.leaf [1, 2, 7, 8]) (.block (.loop (.seq (.seq (.leaf [1, 2, 7, 8, 12]) (.cond (.leaf [1, 2, 7, 8]) (.leaf [7]))) (.seq (.block (.leaf [1, 2, 7, 8])) (.leaf [1, 2, 7, 8])))))) (.seq (.leaf [6]) (.leaf [6])))))

noncomputable def impl_greatest_v4_ctx : Ctx := ⟨tlook tys, olook [(47, F_impl_BestFlat_1)], ioF, 0, false, []⟩

theorem impl_greatest_v4_n1_l (x18647 : Int) (x18648 : Int) (x18649 : List (Int × Int × Unit)) (x18650 : List (List Int)) (x18651 : Int) : Link impl_greatest_v4_ctx LL (Code.seq (cq [0] (bodyOf Try.f46)) (cq [0,1] (bodyOf Try.f46))) (Ann.seq (aq [0] impl_greatest_v4_an) (aq [0,1] impl_greatest_v4_an)) ⟨mkE 21 0 [(0, dI x18647), (1, dI x18648), (2, .fn 47 [] [.pcell (.tab (.pair (.int .i64) (.pair (.int .i64) .unit)) x18649), .pcell (.dat (.list (.list (.int .i64))) x18650), .pcell (dI x18651)])], []⟩ (impl_greatest_v4_n1) (fun (t : Unit) => (Exit.normal, ⟨mkE 21 0 [(0, dI x18647), (1, dI x18648), (2, .fn 47 [] [.pcell (.tab (.pair (.int .i64) (.pair (.int .i64) .unit)) x18649), .pcell (.dat (.list (.list (.int .i64))) x18650), .pcell (dI x18651)]), (7, dI 0)], []⟩)) := by
  refine Link.of fun K h => ?_
  simp only [impl_greatest_v4_n1, wpO_bind, wpO_cond, wpO_map, wpO_some] at h
  exact Awp.of (by kernel_rfl) h

theorem impl_greatest_v4_n2_l (x18647 : Int) (x18648 : Int) (x18649 : List (Int × Int × Unit)) (x18650 : List (List Int)) (x18651 : Int) : Link impl_greatest_v4_ctx LL (cq [0,0,1,1] (bodyOf Try.f46)) (aq [0,0,1,1] impl_greatest_v4_an) ⟨mkE 21 0 [(0, dI x18647), (1, dI x18648), (2, .fn 47 [] [.pcell (.tab (.pair (.int .i64) (.pair (.int .i64) .unit)) x18649), .pcell (.dat (.list (.list (.int .i64))) x18650), .pcell (dI x18651)]), (7, dI 0)], []⟩ (impl_greatest_v4_n2) (fun (t : Unit) => (Exit.normal, ⟨mkE 21 0 [(1, dI x18648), (2, .fn 47 [] [.pcell (.tab (.pair (.int .i64) (.pair (.int .i64) .unit)) x18649), .pcell (.dat (.list (.list (.int .i64))) x18650), .pcell (dI x18651)]), (7, dI 0), (8, dI x18647)], []⟩)) := by
  refine Link.of fun K h => ?_
  simp only [impl_greatest_v4_n2, wpO_bind, wpO_cond, wpO_map, wpO_some] at h
  exact Awp.of (by kernel_rfl) h

theorem impl_greatest_v4_n3_l (x18648 : Int) (x18649 : List (Int × Int × Unit)) (x18650 : List (List Int)) (x18651 : Int) (x18710 : Int) (x18711 : Int) : Link impl_greatest_v4_ctx LL (cq [0,0,1,0,1,1] (bodyOf Try.f46)) (aq [0,0,1,0,1,1] impl_greatest_v4_an) ⟨mkE 21 0 [(1, dI x18648), (2, .fn 47 [] [.pcell (.tab (.pair (.int .i64) (.pair (.int .i64) .unit)) x18649), .pcell (.dat (.list (.list (.int .i64))) x18650), .pcell (dI x18651)]), (7, dI x18710), (8, dI x18711)], []⟩ (impl_greatest_v4_n3 x18648 x18649 x18650 x18651 x18710 x18711) (Sum.elim (fun (t : Int × Int) => (Exit.normal, ⟨mkE 21 0 [(1, dI x18648), (2, .fn 47 [] [.pcell (.tab (.pair (.int .i64) (.pair (.int .i64) .unit)) x18649), .pcell (.dat (.list (.list (.int .i64))) x18650), .pcell (dI x18651)]), (7, dI t.1), (8, dI t.2)], []⟩)) (fun (t : Int) => ((Exit.exit 0), ⟨mkE 21 0 [(7, dI t)], []⟩))) := by
  refine Link.of fun K h => ?_
  simp only [impl_greatest_v4_n3, wpO_bind, wpO_cond, wpO_map, wpO_some] at h
  exact Awp.of (by kernel_rfl) h

def impl_greatest_v4_n4_l (x18648 : Int) (x18649 : List (Int × Int × Unit)) (x18650 : List (List Int)) (x18651 : Int) (x18647 : Int) := (link_loop (mk := fun (s : Int × Int) => ⟨mkE 21 0 [(1, dI x18648), (2, .fn 47 [] [.pcell (.tab (.pair (.int .i64) (.pair (.int .i64) .unit)) x18649), .pcell (.dat (.list (.list (.int .i64))) x18650), .pcell (dI x18651)]), (7, dI s.1), (8, dI s.2)], []⟩) (fin := (fun (t : Int) => ((Exit.exit 0), ⟨mkE 21 0 [(7, dI t)], []⟩))) (by
  rintro t f K h
  · exact h) (fun s => link_map (impl_greatest_v4_n3_l x18648 x18649 x18650 x18651 s.1 s.2) (Sum.elim (fun (t : Int × Int) => Sum.inl (t.1, t.2)) (fun (t : Int) => Sum.inr t)) (by
  rintro (t | t)
  · kernel_rfl
  · kernel_rfl)) (0, x18647))

def impl_greatest_v4_n5_l (x18648 : Int) (x18649 : List (Int × Int × Unit)) (x18650 : List (List Int)) (x18651 : Int) (x18647 : Int) := (link_block (fin2 := (fun (t : Int) => (Exit.normal, ⟨mkE 21 0 [(7, dI t)], []⟩))) (id := 0) (impl_greatest_v4_n4_l x18648 x18649 x18650 x18651 x18647) (fun (t : Int) => t) (by
  rintro t K h
  · exact Eq.mp (by kernel_rfl) h))

def impl_greatest_v4_n6_l (x18647 : Int) (x18648 : Int) (x18649 : List (Int × Int × Unit)) (x18650 : List (List Int)) (x18651 : Int) := (link_seq (impl_greatest_v4_n2_l x18647 x18648 x18649 x18650 x18651) (fun (t : Unit) => (impl_greatest_v4_n5_l x18648 x18649 x18650 x18651 x18647)))

theorem impl_greatest_v4_n7_l (x18710 : Int) : Link impl_greatest_v4_ctx LL (cq [1,1,1] (bodyOf Try.f46)) (aq [1,1,1] impl_greatest_v4_an) ⟨mkE 21 0 [(7, dI x18710)], []⟩ (impl_greatest_v4_n7 x18710) (fun (t : Int) => (Exit.ret, ⟨mkE 21 0 [(6, dI t)], []⟩)) := by
  refine Link.of fun K h => ?_
  simp only [impl_greatest_v4_n7, wpO_bind, wpO_cond, wpO_map, wpO_some] at h
  exact Awp.of (by kernel_rfl) h

def impl_greatest_v4_n8_l (x18647 : Int) (x18648 : Int) (x18649 : List (Int × Int × Unit)) (x18650 : List (List Int)) (x18651 : Int) := (link_seq (impl_greatest_v4_n6_l x18647 x18648 x18649 x18650 x18651) (fun (t : Int) => (impl_greatest_v4_n7_l t)))

def impl_greatest_v4_n9_l (x18647 : Int) (x18648 : Int) (x18649 : List (Int × Int × Unit)) (x18650 : List (List Int)) (x18651 : Int) := (link_group (c := (cq [0,1] (bodyOf Try.f46))) (a := (aq [0,1] impl_greatest_v4_an)) [(cq [0] (bodyOf Try.f46))] [(aq [0] impl_greatest_v4_an)] rfl (link_seq (impl_greatest_v4_n1_l x18647 x18648 x18649 x18650 x18651) (fun (t : Unit) => (impl_greatest_v4_n8_l x18647 x18648 x18649 x18650 x18651))))

theorem impl_greatest_v4_e (x18647 : Int) (x18648 : Int) (x18649 : List (Int × Int × Unit)) (x18650 : List (List Int)) (x18651 : Int) {r : AV} {H' : Heap} (h : (Ans.mk _ (impl_greatest_v4 x18647 x18648 x18649 x18650 x18651) (fun (t : Int) => (dI t, [])) [] none).run = some (r, H')) : Awp impl_greatest_v4_ctx LL (bodyOf Try.f46) impl_greatest_v4_an ⟨mkE 21 0 [(0, dI x18647), (1, dI x18648), (2, .fn 47 [] [.pcell (.tab (.pair (.int .i64) (.pair (.int .i64) .unit)) x18649), .pcell (.dat (.list (.list (.int .i64))) x18650), .pcell (dI x18651)])], []⟩ (Ret (tlook tys) Try.f46.results.toList r H') :=
  ret_of' (Link.cast (by kernel_rfl) (by kernel_rfl) (impl_greatest_v4_n9_l x18647 x18648 x18649 x18650 x18651)) (by unfold impl_greatest_v4; kernel_rfl) (by
  intro t
  exact ret_mk [dI t] (by kernel_rfl) (by kernel_rfl) (by kernel_rfl) (by kernel_rfl)) h

def F_impl_greatest_v4 : Fun := fun avs H =>
  match avs, H with
  | [.dat (.int .i64) x18647, .dat (.int .i64) x18648, .fn 47 [] [.pcell (.tab (.pair (.int .i64) (.pair (.int .i64) .unit)) x18649), .pcell (.dat (.list (.list (.int .i64))) x18650), .pcell (.dat (.int .i64) x18651)]], [] => ⟨_, impl_greatest_v4 x18647 x18648 x18649 x18650 x18651, fun (t : Int) => (dI t, []), [], none⟩
  | _, _ => Ans.no

theorem impl_greatest_v4_sound : Sound Try.prog 46 F_impl_greatest_v4 := by
  refine fn_sound' (C := impl_greatest_v4_ctx) (c := bodyOf Try.f46) (cok_of tys_ok (allc impl_BestFlat_1_sound alln) (allc Try.call47 alln) (by kernel_rfl)) Try.func46 (by kernel_rfl) LL impl_greatest_v4_an ?_
  intro avs H r H' h
  unfold F_impl_greatest_v4 at h
  split at h
  · refine Awp.cast ?_ ?_ ?_ (impl_greatest_v4_e _ _ _ _ _ h) <;> kernel_rfl
  · simp [Ans.no, Ans.run] at h


/-! loop.example/headtrees/impl.BestFlat -/

def impl_BestFlat_an : Ann := (.seq (.leaf [1]) (.seq (.seq (.leaf [1, 7]) (.cond (.seq (.leaf [2]) (.leaf [2])) (.leaf [1]))) (.seq (.draw [3] [0, 1, 2, 3, 4, 5, 6, 7] [] [1, 3, 4]) (.seq (.leafF [⟨2, 4, false, some 0, none⟩] [2]) (.leaf [2])))))

noncomputable def impl_BestFlat_ctx : Ctx := ⟨tlook tys, olook [(13, F_impl_ScoresOk), (45, F_impl_bestParts), (46, F_impl_greatest_v4)], ioF, 0, false, []⟩

theorem impl_BestFlat_n1_l (x18241 : List (List Int)) : Link impl_BestFlat_ctx LL (bodyOf Try.f19) impl_BestFlat_an ⟨mkE 15 0 [(0, .dat (.list (.list (.int .i64))) x18241)], []⟩ (impl_BestFlat_n1 x18241) (fun (t : Int) => (Exit.ret, ⟨mkE 15 0 [(2, dI t)], []⟩)) := by
  refine Link.of fun K h => ?_
  simp only [impl_BestFlat_n1, wpO_bind, wpO_cond, wpO_map, wpO_some] at h
  exact Awp.of (by kernel_rfl) h

theorem impl_BestFlat_e (x18241 : List (List Int)) {r : AV} {H' : Heap} (h : (Ans.mk _ (impl_BestFlat x18241) (fun (t : Int) => (dI t, [])) [] none).run = some (r, H')) : Awp impl_BestFlat_ctx LL (bodyOf Try.f19) impl_BestFlat_an ⟨mkE 15 0 [(0, .dat (.list (.list (.int .i64))) x18241)], []⟩ (Ret (tlook tys) Try.f19.results.toList r H') :=
  ret_of' (impl_BestFlat_n1_l x18241) (by unfold impl_BestFlat; kernel_rfl) (by
  intro t
  exact ret_mk [dI t] (by kernel_rfl) (by kernel_rfl) (by kernel_rfl) (by kernel_rfl)) h

def F_impl_BestFlat : Fun := fun avs H =>
  match avs, H with
  | [.dat (.list (.list (.int .i64))) x18241], [] => ⟨_, impl_BestFlat x18241, fun (t : Int) => (dI t, []), [], none⟩
  | _, _ => Ans.no

theorem impl_BestFlat_sound : Sound Try.prog 19 F_impl_BestFlat := by
  refine fn_sound' (C := impl_BestFlat_ctx) (c := bodyOf Try.f19) (cok_of tys_ok (allc impl_ScoresOk_sound (allc impl_bestParts_sound (allc impl_greatest_v4_sound alln))) (allc Try.call13 (allc Try.call45 (allc Try.call46 alln))) (by kernel_rfl)) Try.func19 (by kernel_rfl) LL impl_BestFlat_an ?_
  intro avs H r H' h
  unfold F_impl_BestFlat at h
  split at h
  · refine Awp.cast ?_ ?_ ?_ (impl_BestFlat_e _ h) <;> kernel_rfl
  · simp [Ans.no, Ans.run] at h


/-! loop.example/headtrees/spec.DrawBestFlat -/

def spec_DrawBestFlat_an : Ann := (.seq (.leaf [0]) (.seq (.leaf [2]) (.leaf [2])))

noncomputable def spec_DrawBestFlat_ctx : Ctx := ⟨tlook tys, olook [(38, F_spec_l20Open), (37, F_spec_l20Scores)], ioF, 0, true, []⟩

theorem spec_DrawBestFlat_n1_l (x18771 : List Int) : Link spec_DrawBestFlat_ctx LL (bodyOf Try.f20) spec_DrawBestFlat_an ⟨mkE 6 0 [(0, dV x18771)], []⟩ (spec_DrawBestFlat_n1 x18771) (fun (t : (List (List Int))) => (Exit.ret, ⟨mkE 6 0 [(2, .slc 0)], [some (.nest (.int .i64) t 0 [])]⟩)) := by
  refine Link.of fun K h => ?_
  simp only [spec_DrawBestFlat_n1, wpO_bind, wpO_cond, wpO_map, wpO_some] at h
  exact Awp.of (by kernel_rfl) h

theorem spec_DrawBestFlat_e (x18771 : List Int) {r : AV} {H' : Heap} (h : (Ans.mk _ (spec_DrawBestFlat x18771) (fun (t : (List (List Int))) => (.slc 0, [some (.nest (.int .i64) t 0 [])])) [] none).run = some (r, H')) : Awp spec_DrawBestFlat_ctx LL (bodyOf Try.f20) spec_DrawBestFlat_an ⟨mkE 6 0 [(0, dV x18771)], []⟩ (Ret (tlook tys) Try.f20.results.toList r H') :=
  ret_of' (spec_DrawBestFlat_n1_l x18771) (by unfold spec_DrawBestFlat; kernel_rfl) (by
  intro t
  exact ret_mk [.slc 0] (by kernel_rfl) (by kernel_rfl) (by kernel_rfl) (by kernel_rfl)) h

def F_spec_DrawBestFlat : Fun := fun avs H =>
  match avs, H with
  | [.dat (.list (.int .u8)) x18771], [] => ⟨_, spec_DrawBestFlat x18771, fun (t : (List (List Int))) => (.slc 0, [some (.nest (.int .i64) t 0 [])]), [], none⟩
  | _, _ => Ans.no

theorem spec_DrawBestFlat_sound : Sound Try.prog 20 F_spec_DrawBestFlat := by
  refine fn_sound' (C := spec_DrawBestFlat_ctx) (c := bodyOf Try.f20) (cok_of tys_ok (allc spec_l20Open_sound (allc spec_l20Scores_sound alln)) (allc Try.call38 (allc Try.call37 alln)) (by kernel_rfl)) Try.func20 (by kernel_rfl) LL spec_DrawBestFlat_an ?_
  intro avs H r H' h
  unfold F_spec_DrawBestFlat at h
  split at h
  · refine Awp.cast ?_ ?_ ?_ (spec_DrawBestFlat_e _ h) <;> kernel_rfl
  · simp [Ans.no, Ans.run] at h


/-! loop.example/headtrees/spec.l9Tree, loop.example/headtrees/spec.l9Row -/

def spec_l9Tree_an : Ann := (.seq (.leaf [0, 1, 2, 3]) (.seq (.leaf [0, 1, 2, 3, 9]) (.seq (.seq (.leaf [0, 1, 2, 3, 9, 10]) (.block (.loop (.seq (.seq (.leaf [0, 1, 2, 3, 9, 10, 15]) (.cond (.leaf [0, 1, 2, 3, 9, 10]) (.leaf [9]))) (.seq (.block (.seq (.draw [13, 20] [0, 1, 2, 3, 4, 5, 6, 7, 8, 9, 10, 11, 12, 15, 16, 17, 18, 19, 13, 14, 20, 21, 22] [] [0, 1, 2, 3, 9, 10, 11]) (.leaf [0, 1, 2, 3, 9, 10]))) (.leaf [0, 1, 2, 3, 9, 10])))))) (.seq (.leaf [8]) (.leaf [8])))))

def spec_l9Row_an : Ann := (.seq (.leaf [0, 1, 2, 3]) (.seq (.seq (.leaf [0, 1, 2, 3, 13]) (.cond (.seq (.leaf [8]) (.leaf [8])) (.leaf [0, 1, 2, 3]))) (.seq (.leaf [0, 1, 2, 3, 9]) (.seq (.seq (.leaf [0, 1, 2, 3, 9, 10]) (.block (.loop (.seq (.seq (.leaf [0, 1, 2, 3, 9, 10, 17]) (.cond (.leaf [0, 1, 2, 3, 9, 10]) (.leaf [9]))) (.seq (.block (.leaf [0, 1, 2, 3, 9, 10])) (.leaf [0, 1, 2, 3, 9, 10])))))) (.seq (.leaf [8]) (.leaf [8]))))))

def F_spec_l9Tree_fuel (n : Nat) : Fun := fun avs H =>
  match avs, H with
  | [.dat (.list (.list (.int .i64))) x18795, .dat (.int .i64) x18796, .dat (.int .i64) x18797, .dat (.int .i64) x18798], [] => ⟨_, spec_l9Tree_fuel n x18795 x18796 x18797 x18798, fun (t : Int) => (dI t, []), [], none⟩
  | _, _ => Ans.no

def F_spec_l9Row_fuel (n : Nat) : Fun := fun avs H =>
  match avs, H with
  | [.dat (.list (.list (.int .i64))) x18870, .dat (.int .i64) x18871, .dat (.int .i64) x18872, .dat (.int .i64) x18873], [] => ⟨_, spec_l9Row_fuel n x18870 x18871 x18872 x18873, fun (t : Int) => (dI t, []), [], none⟩
  | _, _ => Ans.no

noncomputable def spec_l9Tree_ctx (n : Nat) : Ctx := ⟨tlook tys, olook [(65, F_spec_l9Row_fuel n)], ioF, 0, false, []⟩

noncomputable def spec_l9Row_ctx (n : Nat) : Ctx := ⟨tlook tys, olook [(48, F_spec_l9Tree_fuel n), (65, F_spec_l9Row_fuel n)], ioF, 0, false, []⟩

theorem spec_l9Tree_n1_l (n : Nat) (x18795 : List (List Int)) (x18796 : Int) (x18797 : Int) (x18798 : Int) : Link (spec_l9Tree_ctx n) LL (Code.seq (cq [0] (bodyOf Try.f48)) (cq [0,1] (bodyOf Try.f48))) (Ann.seq (aq [0] spec_l9Tree_an) (aq [0,1] spec_l9Tree_an)) ⟨mkE 44 0 [(0, .dat (.list (.list (.int .i64))) x18795), (1, dI x18796), (2, dI x18797), (3, dI x18798)], []⟩ (spec_l9Tree_n1 (spec_l9Tree_fuel n) (spec_l9Row_fuel n)) (fun (t : Unit) => (Exit.normal, ⟨mkE 44 0 [(0, .dat (.list (.list (.int .i64))) x18795), (1, dI x18796), (2, dI x18797), (3, dI x18798), (9, dI (-1))], []⟩)) := by
  refine Link.of fun K h => ?_
  simp only [spec_l9Tree_n1, wpO_bind, wpO_cond, wpO_map, wpO_some] at h
  exact Awp.of (by kernel_rfl) h

theorem spec_l9Tree_n2_l (n : Nat) (x18795 : List (List Int)) (x18796 : Int) (x18797 : Int) (x18798 : Int) : Link (spec_l9Tree_ctx n) LL (cq [0,0,1,1] (bodyOf Try.f48)) (aq [0,0,1,1] spec_l9Tree_an) ⟨mkE 44 0 [(0, .dat (.list (.list (.int .i64))) x18795), (1, dI x18796), (2, dI x18797), (3, dI x18798), (9, dI (-1))], []⟩ (spec_l9Tree_n2 (spec_l9Tree_fuel n) (spec_l9Row_fuel n)) (fun (t : Unit) => (Exit.normal, ⟨mkE 44 0 [(0, .dat (.list (.list (.int .i64))) x18795), (1, dI x18796), (2, dI x18797), (3, dI x18798), (9, dI (-1)), (10, dI x18796)], []⟩)) := by
  refine Link.of fun K h => ?_
  simp only [spec_l9Tree_n2, wpO_bind, wpO_cond, wpO_map, wpO_some] at h
  exact Awp.of (by kernel_rfl) h

theorem spec_l9Tree_n3_l (n : Nat) (x18795 : List (List Int)) (x18796 : Int) (x18797 : Int) (x18798 : Int) (x18931 : Int) (x18932 : Int) : Link (spec_l9Tree_ctx n) LL (cq [0,0,1,0,1,1] (bodyOf Try.f48)) (aq [0,0,1,0,1,1] spec_l9Tree_an) ⟨mkE 44 0 [(0, .dat (.list (.list (.int .i64))) x18795), (1, dI x18796), (2, dI x18797), (3, dI x18798), (9, dI x18931), (10, dI x18932)], []⟩ (spec_l9Tree_n3 (spec_l9Tree_fuel n) (spec_l9Row_fuel n) x18795 x18796 x18797 x18798 x18931 x18932) (Sum.elim (fun (t : Int × Int) => (Exit.normal, ⟨mkE 44 0 [(0, .dat (.list (.list (.int .i64))) x18795), (1, dI x18796), (2, dI x18797), (3, dI x18798), (9, dI t.1), (10, dI t.2)], []⟩)) (fun (t : Int) => ((Exit.exit 0), ⟨mkE 44 0 [(9, dI t)], []⟩))) := by
  refine Link.of fun K h => ?_
  simp only [spec_l9Tree_n3, wpO_bind, wpO_cond, wpO_map, wpO_some] at h
  exact Awp.of (by kernel_rfl) h

def spec_l9Tree_n4_l (n : Nat) (x18795 : List (List Int)) (x18796 : Int) (x18797 : Int) (x18798 : Int) := (link_loop (mk := fun (s : Int × Int) => ⟨mkE 44 0 [(0, .dat (.list (.list (.int .i64))) x18795), (1, dI x18796), (2, dI x18797), (3, dI x18798), (9, dI s.1), (10, dI s.2)], []⟩) (fin := (fun (t : Int) => ((Exit.exit 0), ⟨mkE 44 0 [(9, dI t)], []⟩))) (by
  rintro t f K h
  · exact h) (fun s => link_map (spec_l9Tree_n3_l n x18795 x18796 x18797 x18798 s.1 s.2) (Sum.elim (fun (t : Int × Int) => Sum.inl (t.1, t.2)) (fun (t : Int) => Sum.inr t)) (by
  rintro (t | t)
  · kernel_rfl
  · kernel_rfl)) ((-1), x18796))

def spec_l9Tree_n5_l (n : Nat) (x18795 : List (List Int)) (x18796 : Int) (x18797 : Int) (x18798 : Int) := (link_block (fin2 := (fun (t : Int) => (Exit.normal, ⟨mkE 44 0 [(9, dI t)], []⟩))) (id := 0) (spec_l9Tree_n4_l n x18795 x18796 x18797 x18798) (fun (t : Int) => t) (by
  rintro t K h
  · exact Eq.mp (by kernel_rfl) h))

def spec_l9Tree_n6_l (n : Nat) (x18795 : List (List Int)) (x18796 : Int) (x18797 : Int) (x18798 : Int) := (link_seq (spec_l9Tree_n2_l n x18795 x18796 x18797 x18798) (fun (t : Unit) => (spec_l9Tree_n5_l n x18795 x18796 x18797 x18798)))

theorem spec_l9Tree_n7_l (n : Nat) (x18931 : Int) : Link (spec_l9Tree_ctx n) LL (cq [1,1,1] (bodyOf Try.f48)) (aq [1,1,1] spec_l9Tree_an) ⟨mkE 44 0 [(9, dI x18931)], []⟩ (spec_l9Tree_n7 (spec_l9Tree_fuel n) (spec_l9Row_fuel n) x18931) (fun (t : Int) => (Exit.ret, ⟨mkE 44 0 [(8, dI t)], []⟩)) := by
  refine Link.of fun K h => ?_
  simp only [spec_l9Tree_n7, wpO_bind, wpO_cond, wpO_map, wpO_some] at h
  exact Awp.of (by kernel_rfl) h

def spec_l9Tree_n8_l (n : Nat) (x18795 : List (List Int)) (x18796 : Int) (x18797 : Int) (x18798 : Int) := (link_seq (spec_l9Tree_n6_l n x18795 x18796 x18797 x18798) (fun (t : Int) => (spec_l9Tree_n7_l n t)))

def spec_l9Tree_n9_l (n : Nat) (x18795 : List (List Int)) (x18796 : Int) (x18797 : Int) (x18798 : Int) := (link_group (c := (cq [0,1] (bodyOf Try.f48))) (a := (aq [0,1] spec_l9Tree_an)) [(cq [0] (bodyOf Try.f48))] [(aq [0] spec_l9Tree_an)] rfl (link_seq (spec_l9Tree_n1_l n x18795 x18796 x18797 x18798) (fun (t : Unit) => (spec_l9Tree_n8_l n x18795 x18796 x18797 x18798))))

theorem spec_l9Tree_e (n : Nat) (x18795 : List (List Int)) (x18796 : Int) (x18797 : Int) (x18798 : Int) {r : AV} {H' : Heap} (h : (Ans.mk _ (spec_l9Tree_fuel (n + 1) x18795 x18796 x18797 x18798) (fun (t : Int) => (dI t, [])) [] none).run = some (r, H')) : Awp (spec_l9Tree_ctx n) LL (bodyOf Try.f48) spec_l9Tree_an ⟨mkE 44 0 [(0, .dat (.list (.list (.int .i64))) x18795), (1, dI x18796), (2, dI x18797), (3, dI x18798)], []⟩ (Ret (tlook tys) Try.f48.results.toList r H') :=
  ret_of' (Link.cast (by kernel_rfl) (by kernel_rfl) (spec_l9Tree_n9_l n x18795 x18796 x18797 x18798)) (by (show _ = _); kernel_rfl) (by
  intro t
  exact ret_mk [dI t] (by kernel_rfl) (by kernel_rfl) (by kernel_rfl) (by kernel_rfl)) h

theorem spec_l9Row_n1_l (n : Nat) (x18870 : List (List Int)) (x18871 : Int) (x18872 : Int) (x18873 : Int) : Link (spec_l9Row_ctx n) LL (Code.seq (cq [0] (bodyOf Try.f65)) (Code.seq (cq [0,1] (bodyOf Try.f65)) (cq [0,1,1] (bodyOf Try.f65)))) (Ann.seq (aq [0] spec_l9Row_an) (Ann.seq (aq [0,1] spec_l9Row_an) (aq [0,1,1] spec_l9Row_an))) ⟨mkE 35 0 [(0, .dat (.list (.list (.int .i64))) x18870), (1, dI x18871), (2, dI x18872), (3, dI x18873)], []⟩ (spec_l9Row_n1 (spec_l9Tree_fuel n) (spec_l9Row_fuel n) x18871 x18872) (Sum.elim (fun (t : Unit) => (Exit.normal, ⟨mkE 35 0 [(0, .dat (.list (.list (.int .i64))) x18870), (1, dI x18871), (2, dI x18872), (3, dI x18873), (9, dI (-1))], []⟩)) (fun (t : Int) => (Exit.ret, ⟨mkE 35 0 [(8, dI t)], []⟩))) := by
  refine Link.of fun K h => ?_
  simp only [spec_l9Row_n1, wpO_bind, wpO_cond, wpO_map, wpO_some] at h
  exact Awp.of (by kernel_rfl) h

theorem spec_l9Row_n2_l (n : Nat) (x18870 : List (List Int)) (x18871 : Int) (x18872 : Int) (x18873 : Int) : Link (spec_l9Row_ctx n) LL (cq [0,0,1,1,1] (bodyOf Try.f65)) (aq [0,0,1,1,1] spec_l9Row_an) ⟨mkE 35 0 [(0, .dat (.list (.list (.int .i64))) x18870), (1, dI x18871), (2, dI x18872), (3, dI x18873), (9, dI (-1))], []⟩ (spec_l9Row_n2 (spec_l9Tree_fuel n) (spec_l9Row_fuel n)) (fun (t : Unit) => (Exit.normal, ⟨mkE 35 0 [(0, .dat (.list (.list (.int .i64))) x18870), (1, dI x18871), (2, dI x18872), (3, dI x18873), (9, dI (-1)), (10, dI x18871)], []⟩)) := by
  refine Link.of fun K h => ?_
  simp only [spec_l9Row_n2, wpO_bind, wpO_cond, wpO_map, wpO_some] at h
  exact Awp.of (by kernel_rfl) h

theorem spec_l9Row_n3_l (n : Nat) (x18870 : List (List Int)) (x18871 : Int) (x18872 : Int) (x18873 : Int) (x18897 : Int) (x18898 : Int) : Link (spec_l9Row_ctx n) LL (cq [0,0,1,0,1,1,1] (bodyOf Try.f65)) (aq [0,0,1,0,1,1,1] spec_l9Row_an) ⟨mkE 35 0 [(0, .dat (.list (.list (.int .i64))) x18870), (1, dI x18871), (2, dI x18872), (3, dI x18873), (9, dI x18897), (10, dI x18898)], []⟩ (spec_l9Row_n3 (spec_l9Tree_fuel n) (spec_l9Row_fuel n) x18870 x18871 x18872 x18873 x18897 x18898) (Sum.elim (fun (t : Int × Int) => (Exit.normal, ⟨mkE 35 0 [(0, .dat (.list (.list (.int .i64))) x18870), (1, dI x18871), (2, dI x18872), (3, dI x18873), (9, dI t.1), (10, dI t.2)], []⟩)) (fun (t : Int) => ((Exit.exit 0), ⟨mkE 35 0 [(9, dI t)], []⟩))) := by
  refine Link.of fun K h => ?_
  simp only [spec_l9Row_n3, wpO_bind, wpO_cond, wpO_map, wpO_some] at h
  exact Awp.of (by kernel_rfl) h

def spec_l9Row_n4_l (n : Nat) (x18870 : List (List Int)) (x18871 : Int) (x18872 : Int) (x18873 : Int) := (link_loop (mk := fun (s : Int × Int) => ⟨mkE 35 0 [(0, .dat (.list (.list (.int .i64))) x18870), (1, dI x18871), (2, dI x18872), (3, dI x18873), (9, dI s.1), (10, dI s.2)], []⟩) (fin := (fun (t : Int) => ((Exit.exit 0), ⟨mkE 35 0 [(9, dI t)], []⟩))) (by
  rintro t f K h
  · exact h) (fun s => link_map (spec_l9Row_n3_l n x18870 x18871 x18872 x18873 s.1 s.2) (Sum.elim (fun (t : Int × Int) => Sum.inl (t.1, t.2)) (fun (t : Int) => Sum.inr t)) (by
  rintro (t | t)
  · kernel_rfl
  · kernel_rfl)) ((-1), x18871))

def spec_l9Row_n5_l (n : Nat) (x18870 : List (List Int)) (x18871 : Int) (x18872 : Int) (x18873 : Int) := (link_block (fin2 := (fun (t : Int) => (Exit.normal, ⟨mkE 35 0 [(9, dI t)], []⟩))) (id := 0) (spec_l9Row_n4_l n x18870 x18871 x18872 x18873) (fun (t : Int) => t) (by
  rintro t K h
  · exact Eq.mp (by kernel_rfl) h))

def spec_l9Row_n6_l (n : Nat) (x18870 : List (List Int)) (x18871 : Int) (x18872 : Int) (x18873 : Int) := (link_seq (spec_l9Row_n2_l n x18870 x18871 x18872 x18873) (fun (t : Unit) => (spec_l9Row_n5_l n x18870 x18871 x18872 x18873)))

theorem spec_l9Row_n7_l (n : Nat) (x18897 : Int) : Link (spec_l9Row_ctx n) LL (cq [1,1,1,1] (bodyOf Try.f65)) (aq [1,1,1,1] spec_l9Row_an) ⟨mkE 35 0 [(9, dI x18897)], []⟩ (spec_l9Row_n7 (spec_l9Tree_fuel n) (spec_l9Row_fuel n) x18897) (fun (t : Int) => (Exit.ret, ⟨mkE 35 0 [(8, dI t)], []⟩)) := by
  refine Link.of fun K h => ?_
  simp only [spec_l9Row_n7, wpO_bind, wpO_cond, wpO_map, wpO_some] at h
  exact Awp.of (by kernel_rfl) h

def spec_l9Row_n8_l (n : Nat) (x18870 : List (List Int)) (x18871 : Int) (x18872 : Int) (x18873 : Int) := (link_seq (spec_l9Row_n6_l n x18870 x18871 x18872 x18873) (fun (t : Int) => (spec_l9Row_n7_l n t)))

def spec_l9Row_n9_l (n : Nat) (x18870 : List (List Int)) (x18871 : Int) (x18872 : Int) (x18873 : Int) := (link_group (c := (cq [0,1,1] (bodyOf Try.f65))) (a := (aq [0,1,1] spec_l9Row_an)) [(cq [0] (bodyOf Try.f65)), (cq [0,1] (bodyOf Try.f65))] [(aq [0] spec_l9Row_an), (aq [0,1] spec_l9Row_an)] rfl (link_seq2 (spec_l9Row_n1_l n x18870 x18871 x18872 x18873) (fun (t : Unit) => (spec_l9Row_n8_l n x18870 x18871 x18872 x18873)) (fun (t : Int) => t) (by
  rintro t
  · kernel_rfl) (by
  rintro t f K h
  · exact h)))

theorem spec_l9Row_e (n : Nat) (x18870 : List (List Int)) (x18871 : Int) (x18872 : Int) (x18873 : Int) {r : AV} {H' : Heap} (h : (Ans.mk _ (spec_l9Row_fuel (n + 1) x18870 x18871 x18872 x18873) (fun (t : Int) => (dI t, [])) [] none).run = some (r, H')) : Awp (spec_l9Row_ctx n) LL (bodyOf Try.f65) spec_l9Row_an ⟨mkE 35 0 [(0, .dat (.list (.list (.int .i64))) x18870), (1, dI x18871), (2, dI x18872), (3, dI x18873)], []⟩ (Ret (tlook tys) Try.f65.results.toList r H') :=
  ret_of' (Link.cast (by kernel_rfl) (by kernel_rfl) (spec_l9Row_n9_l n x18870 x18871 x18872 x18873)) (by (show _ = _); kernel_rfl) (by
  intro t
  exact ret_mk [dI t] (by kernel_rfl) (by kernel_rfl) (by kernel_rfl) (by kernel_rfl)) h

theorem spec_l9Tree_step (n : Nat) (h48 : Sound Try.prog 48 (F_spec_l9Tree_fuel n)) (h65 : Sound Try.prog 65 (F_spec_l9Row_fuel n)) : Sound Try.prog 48 (F_spec_l9Tree_fuel (n + 1)) := by
  refine fn_sound' (C := spec_l9Tree_ctx n) (c := bodyOf Try.f48) (cok_of tys_ok (allc h65 alln) (allc Try.call65 alln) (by kernel_rfl)) Try.func48 (by kernel_rfl) LL spec_l9Tree_an ?_
  intro avs H r H' h
  unfold F_spec_l9Tree_fuel at h
  split at h
  · refine Awp.cast ?_ ?_ ?_ (spec_l9Tree_e n _ _ _ _ h) <;> kernel_rfl
  · simp [Ans.no, Ans.run] at h

theorem spec_l9Tree_null : Sound Try.prog 48 (F_spec_l9Tree_fuel 0) := by
  intro avs H r H' h
  unfold F_spec_l9Tree_fuel at h
  split at h
  · simp [spec_l9Tree_fuel, spec_l9Tree_knot, Ans.run] at h
  · simp [Ans.no, Ans.run] at h

theorem spec_l9Row_step (n : Nat) (h48 : Sound Try.prog 48 (F_spec_l9Tree_fuel n)) (h65 : Sound Try.prog 65 (F_spec_l9Row_fuel n)) : Sound Try.prog 65 (F_spec_l9Row_fuel (n + 1)) := by
  refine fn_sound' (C := spec_l9Row_ctx n) (c := bodyOf Try.f65) (cok_of tys_ok (allc h48 (allc h65 alln)) (allc Try.call48 (allc Try.call65 alln)) (by kernel_rfl)) Try.func65 (by kernel_rfl) LL spec_l9Row_an ?_
  intro avs H r H' h
  unfold F_spec_l9Row_fuel at h
  split at h
  · refine Awp.cast ?_ ?_ ?_ (spec_l9Row_e n _ _ _ _ h) <;> kernel_rfl
  · simp [Ans.no, Ans.run] at h

theorem spec_l9Row_null : Sound Try.prog 65 (F_spec_l9Row_fuel 0) := by
  intro avs H r H' h
  unfold F_spec_l9Row_fuel at h
  split at h
  · simp [spec_l9Row_fuel, spec_l9Tree_knot, Ans.run] at h
  · simp [Ans.no, Ans.run] at h

theorem spec_l9Tree_knot_all : ∀ n, Sound Try.prog 48 (F_spec_l9Tree_fuel n) ∧ Sound Try.prog 65 (F_spec_l9Row_fuel n)
  | 0 => ⟨spec_l9Tree_null, spec_l9Row_null⟩
  | n + 1 => by
    obtain ⟨h48, h65⟩ := spec_l9Tree_knot_all n
    exact ⟨spec_l9Tree_step n h48 h65, spec_l9Row_step n h48 h65⟩

def F_spec_l9Tree : Fun := fun avs H =>
  match avs, H with
  | [.dat (.list (.list (.int .i64))) x18795, .dat (.int .i64) x18796, .dat (.int .i64) x18797, .dat (.int .i64) x18798], [] => ⟨_, spec_l9Tree x18795 x18796 x18797 x18798, fun (t : Int) => (dI t, []), [], none⟩
  | _, _ => Ans.no

theorem spec_l9Tree_sound : Sound Try.prog 48 F_spec_l9Tree := by
  have e : F_spec_l9Tree = F_spec_l9Tree_fuel RR := by
    funext avs H
    unfold F_spec_l9Tree F_spec_l9Tree_fuel
    split <;> first | rfl | (simp only [spec_l9Tree])
  rw [e]
  exact (spec_l9Tree_knot_all RR).1

def F_spec_l9Row : Fun := fun avs H =>
  match avs, H with
  | [.dat (.list (.list (.int .i64))) x18870, .dat (.int .i64) x18871, .dat (.int .i64) x18872, .dat (.int .i64) x18873], [] => ⟨_, spec_l9Row x18870 x18871 x18872 x18873, fun (t : Int) => (dI t, []), [], none⟩
  | _, _ => Ans.no

theorem spec_l9Row_sound : Sound Try.prog 65 F_spec_l9Row := by
  have e : F_spec_l9Row = F_spec_l9Row_fuel RR := by
    funext avs H
    unfold F_spec_l9Row F_spec_l9Row_fuel
    split <;> first | rfl | (simp only [spec_l9Row])
  rw [e]
  exact (spec_l9Tree_knot_all RR).2


/-! loop.example/headtrees/spec.BestFlat -/

def spec_BestFlat_an : Ann := (.seq (.leaf [0]) (.seq (.seq (.leaf [0, 5]) (.cond (.seq (.leaf [2]) (.leaf [2])) (.leaf [0]))) (.seq (.leaf [2]) (.leaf [2]))))

noncomputable def spec_BestFlat_ctx : Ctx := ⟨tlook tys, olook [(14, F_spec_ScoresOk), (48, F_spec_l9Tree)], ioF, 0, false, []⟩

theorem spec_BestFlat_n1_l (x18789 : List (List Int)) : Link spec_BestFlat_ctx LL (bodyOf Try.f21) spec_BestFlat_an ⟨mkE 10 0 [(0, .dat (.list (.list (.int .i64))) x18789)], []⟩ (spec_BestFlat_n1 x18789) (fun (t : Int) => (Exit.ret, ⟨mkE 10 0 [(2, dI t)], []⟩)) := by
  refine Link.of fun K h => ?_
  simp only [spec_BestFlat_n1, wpO_bind, wpO_cond, wpO_map, wpO_some] at h
  exact Awp.of (by kernel_rfl) h

theorem spec_BestFlat_e (x18789 : List (List Int)) {r : AV} {H' : Heap} (h : (Ans.mk _ (spec_BestFlat x18789) (fun (t : Int) => (dI t, [])) [] none).run = some (r, H')) : Awp spec_BestFlat_ctx LL (bodyOf Try.f21) spec_BestFlat_an ⟨mkE 10 0 [(0, .dat (.list (.list (.int .i64))) x18789)], []⟩ (Ret (tlook tys) Try.f21.results.toList r H') :=
  ret_of' (spec_BestFlat_n1_l x18789) (by unfold spec_BestFlat; kernel_rfl) (by
  intro t
  exact ret_mk [dI t] (by kernel_rfl) (by kernel_rfl) (by kernel_rfl) (by kernel_rfl)) h

def F_spec_BestFlat : Fun := fun avs H =>
  match avs, H with
  | [.dat (.list (.list (.int .i64))) x18789], [] => ⟨_, spec_BestFlat x18789, fun (t : Int) => (dI t, []), [], none⟩
  | _, _ => Ans.no

theorem spec_BestFlat_sound : Sound Try.prog 21 F_spec_BestFlat := by
  refine fn_sound' (C := spec_BestFlat_ctx) (c := bodyOf Try.f21) (cok_of tys_ok (allc spec_ScoresOk_sound (allc spec_l9Tree_sound alln)) (allc Try.call14 (allc Try.call48 alln)) (by kernel_rfl)) Try.func21 (by kernel_rfl) LL spec_BestFlat_an ?_
  intro avs H r H' h
  unfold F_spec_BestFlat at h
  split at h
  · refine Awp.cast ?_ ?_ ?_ (spec_BestFlat_e _ h) <;> kernel_rfl
  · simp [Ans.no, Ans.run] at h


/-! (loop.example/headtrees/impl.flatCounts).aroundRoots -/

def impl_flatCounts_aroundRoots_an : Ann := (.seq (.leaf [1, 2]) (.seq (.leaf [2]) (.leaf [2])))

noncomputable def impl_flatCounts_aroundRoots_ctx : Ctx := ⟨tlook tys, olook [], ioF, 0, false, []⟩

theorem impl_flatCounts_aroundRoots_n1_l (x19004 : Int) (x19005 : Int) (x19006 : Int) (x19007 : Int) (x19008 : Int) (x19009 : Int) (x19010 : Int) (x19011 : Int) (x19012 : Int) (x19013 : Int) (x19014 : Int) (x19015 : Int) (x19016 : Int) (x19017 : Int) : Link impl_flatCounts_aroundRoots_ctx LL (bodyOf Try.f66) impl_flatCounts_aroundRoots_an ⟨mkE 8 0 [(0, .agg [dI x19004, dI x19005, dI x19006, dI x19007, dI x19008, dI x19009, dI x19010, dI x19011, dI x19012, dI x19013, dI x19014, dI x19015, dI x19016, dI x19017])], []⟩ (impl_flatCounts_aroundRoots_n1) (fun (t : Unit) => (Exit.ret, ⟨mkE 8 0 [(2, .ptr 0 0)], [some (.box [dI x19011, dI x19012, dI x19013, dI x19014, dI x19015, dI x19016, dI x19017, dI x19011, dI x19012, dI x19013, dI x19014, dI x19015, dI x19016, dI x19017])]⟩)) := by
  refine Link.of fun K h => ?_
  simp only [impl_flatCounts_aroundRoots_n1, wpO_bind, wpO_cond, wpO_map, wpO_some] at h
  exact Awp.of (by kernel_rfl) h

theorem impl_flatCounts_aroundRoots_e (x19004 : Int) (x19005 : Int) (x19006 : Int) (x19007 : Int) (x19008 : Int) (x19009 : Int) (x19010 : Int) (x19011 : Int) (x19012 : Int) (x19013 : Int) (x19014 : Int) (x19015 : Int) (x19016 : Int) (x19017 : Int) {r : AV} {H' : Heap} (h : (Ans.mk _ (impl_flatCounts_aroundRoots x19004 x19005 x19006 x19007 x19008 x19009 x19010 x19011 x19012 x19013 x19014 x19015 x19016 x19017) (fun (t : Unit) => (.agg [dI x19011, dI x19012, dI x19013, dI x19014, dI x19015, dI x19016, dI x19017, dI x19011, dI x19012, dI x19013, dI x19014, dI x19015, dI x19016, dI x19017], [some (.box [dI x19011, dI x19012, dI x19013, dI x19014, dI x19015, dI x19016, dI x19017, dI x19011, dI x19012, dI x19013, dI x19014, dI x19015, dI x19016, dI x19017])])) [] none).run = some (r, H')) : Awp impl_flatCounts_aroundRoots_ctx LL (bodyOf Try.f66) impl_flatCounts_aroundRoots_an ⟨mkE 8 0 [(0, .agg [dI x19004, dI x19005, dI x19006, dI x19007, dI x19008, dI x19009, dI x19010, dI x19011, dI x19012, dI x19013, dI x19014, dI x19015, dI x19016, dI x19017])], []⟩ (Ret (tlook tys) Try.f66.results.toList r H') :=
  ret_of' (impl_flatCounts_aroundRoots_n1_l x19004 x19005 x19006 x19007 x19008 x19009 x19010 x19011 x19012 x19013 x19014 x19015 x19016 x19017) (by unfold impl_flatCounts_aroundRoots; kernel_rfl) (by
  intro t
  exact ret_mk [.agg [dI x19011, dI x19012, dI x19013, dI x19014, dI x19015, dI x19016, dI x19017, dI x19011, dI x19012, dI x19013, dI x19014, dI x19015, dI x19016, dI x19017]] (by kernel_rfl) (by kernel_rfl) (by kernel_rfl) (by kernel_rfl)) h

def F_impl_flatCounts_aroundRoots : Fun := fun avs H =>
  match avs, H with
  | [.agg [.dat (.int .i64) x19004, .dat (.int .i64) x19005, .dat (.int .i64) x19006, .dat (.int .i64) x19007, .dat (.int .i64) x19008, .dat (.int .i64) x19009, .dat (.int .i64) x19010, .dat (.int .i64) x19011, .dat (.int .i64) x19012, .dat (.int .i64) x19013, .dat (.int .i64) x19014, .dat (.int .i64) x19015, .dat (.int .i64) x19016, .dat (.int .i64) x19017]], [] => ⟨_, impl_flatCounts_aroundRoots x19004 x19005 x19006 x19007 x19008 x19009 x19010 x19011 x19012 x19013 x19014 x19015 x19016 x19017, fun (t : Unit) => (.agg [dI x19011, dI x19012, dI x19013, dI x19014, dI x19015, dI x19016, dI x19017, dI x19011, dI x19012, dI x19013, dI x19014, dI x19015, dI x19016, dI x19017], [some (.box [dI x19011, dI x19012, dI x19013, dI x19014, dI x19015, dI x19016, dI x19017, dI x19011, dI x19012, dI x19013, dI x19014, dI x19015, dI x19016, dI x19017])]), [], none⟩
  | _, _ => Ans.no

theorem impl_flatCounts_aroundRoots_sound : Sound Try.prog 66 F_impl_flatCounts_aroundRoots := by
  refine fn_sound' (C := impl_flatCounts_aroundRoots_ctx) (c := bodyOf Try.f66) (cok_of tys_ok (alln) (alln) (by kernel_rfl)) Try.func66 (by kernel_rfl) LL impl_flatCounts_aroundRoots_an ?_
  intro avs H r H' h
  unfold F_impl_flatCounts_aroundRoots at h
  split at h
  · refine Awp.cast ?_ ?_ ?_ (impl_flatCounts_aroundRoots_e _ _ _ _ _ _ _ _ _ _ _ _ _ _ h) <;> kernel_rfl
  · simp [Ans.no, Ans.run] at h


/-! (loop.example/headtrees/impl.joins).below -/

def impl_joins_below_an : Ann := (.seq (.leaf [1, 2, 3]) (.seq (.leaf [1, 2, 3, 7]) (.seq (.seq (.leaf [1, 3, 7, 9, 10]) (.block (.loop (.seq (.leaf [1, 3, 7, 9, 10, 11]) (.seq (.cond (.leaf [1, 3, 7, 9, 10]) (.leaf [7])) (.seq (.block (.seq (.leaf [1, 3, 7, 8, 9, 10]) (.draw [] [0, 1, 2, 3, 4, 5, 6, 7, 8, 9, 10, 11, 12, 13] [] [1, 3, 7, 9, 10]))) (.leaf [1, 3, 7, 9, 10]))))))) (.seq (.leaf [6]) (.leaf [6])))))

noncomputable def impl_joins_below_ctx : Ctx := ⟨tlook tys, olook [], ioF, 0, false, []⟩

theorem impl_joins_below_n1_l (x19036 : Int) (x19037 : Int) (x19038 : Int) (x19039 : Int) (x19040 : Int) (x19041 : Int) (x19042 : Int) (x19043 : Int) (x19044 : Int) (x19045 : Int) (x19046 : Int) (x19047 : Int) (x19048 : Int) (x19049 : Int) (x19050 : Int) (x19051 : Int) : Link impl_joins_below_ctx LL (Code.seq (cq [0] (bodyOf Try.f75)) (cq [0,1] (bodyOf Try.f75))) (Ann.seq (aq [0] impl_joins_below_an) (aq [0,1] impl_joins_below_an)) ⟨mkE 28 0 [(0, .agg [dI x19036, dI x19037, dI x19038, dI x19039, dI x19040, dI x19041, dI x19042, dI x19043, dI x19044, dI x19045, dI x19046, dI x19047, dI x19048, dI x19049]), (1, dI x19050), (2, dI x19051)], []⟩ (impl_joins_below_n1) (fun (t : Unit) => (Exit.normal, ⟨mkE 28 0 [(1, dI x19050), (2, dI x19051), (3, .ptr 0 0), (7, dI 0)], [some (.box [dI x19036, dI x19037, dI x19038, dI x19039, dI x19040, dI x19041, dI x19042, dI x19043, dI x19044, dI x19045, dI x19046, dI x19047, dI x19048, dI x19049])]⟩)) := by
  refine Link.of fun K h => ?_
  simp only [impl_joins_below_n1, wpO_bind, wpO_cond, wpO_map, wpO_some] at h
  exact Awp.of (by kernel_rfl) h

theorem impl_joins_below_n2_l (x19050 : Int) (x19051 : Int) (x19036 : Int) (x19037 : Int) (x19038 : Int) (x19039 : Int) (x19040 : Int) (x19041 : Int) (x19042 : Int) (x19043 : Int) (x19044 : Int) (x19045 : Int) (x19046 : Int) (x19047 : Int) (x19048 : Int) (x19049 : Int) : Link impl_joins_below_ctx LL (cq [0,0,1,1] (bodyOf Try.f75)) (aq [0,0,1,1] impl_joins_below_an) ⟨mkE 28 0 [(1, dI x19050), (2, dI x19051), (3, .ptr 0 0), (7, dI 0)], [some (.box [dI x19036, dI x19037, dI x19038, dI x19039, dI x19040, dI x19041, dI x19042, dI x19043, dI x19044, dI x19045, dI x19046, dI x19047, dI x19048, dI x19049])]⟩ (impl_joins_below_n2) (fun (t : Unit) => (Exit.normal, ⟨mkE 28 0 [(1, dI x19050), (3, .ptr 0 0), (7, dI 0), (9, dI x19051), (10, dI 0)], [some (.box [dI x19036, dI x19037, dI x19038, dI x19039, dI x19040, dI x19041, dI x19042, dI x19043, dI x19044, dI x19045, dI x19046, dI x19047, dI x19048, dI x19049])]⟩)) := by
  refine Link.of fun K h => ?_
  simp only [impl_joins_below_n2, wpO_bind, wpO_cond, wpO_map, wpO_some] at h
  exact Awp.of (by kernel_rfl) h

theorem impl_joins_below_n3_l (x19050 : Int) (x19071 : Int) (x19051 : Int) (x19072 : Int) (x19036 : Int) (x19037 : Int) (x19038 : Int) (x19039 : Int) (x19040 : Int) (x19041 : Int) (x19042 : Int) (x19043 : Int) (x19044 : Int) (x19045 : Int) (x19046 : Int) (x19047 : Int) (x19048 : Int) (x19049 : Int) : Link impl_joins_below_ctx LL (cq [0,0,1,0,1,1] (bodyOf Try.f75)) (aq [0,0,1,0,1,1] impl_joins_below_an) ⟨mkE 28 0 [(1, dI x19050), (3, .ptr 0 0), (7, dI x19071), (9, dI x19051), (10, dI x19072)], [some (.box [dI x19036, dI x19037, dI x19038, dI x19039, dI x19040, dI x19041, dI x19042, dI x19043, dI x19044, dI x19045, dI x19046, dI x19047, dI x19048, dI x19049])]⟩ (impl_joins_below_n3 x19050 x19071 x19051 x19072 x19036 x19037 x19038 x19039 x19040 x19041 x19042 x19043 x19044 x19045 x19046 x19047 x19048 x19049) (Sum.elim (fun (t : Int × Int) => (Exit.normal, ⟨mkE 28 0 [(1, dI x19050), (3, .ptr 0 0), (7, dI t.1), (9, dI x19051), (10, dI t.2)], [some (.box [dI x19036, dI x19037, dI x19038, dI x19039, dI x19040, dI x19041, dI x19042, dI x19043, dI x19044, dI x19045, dI x19046, dI x19047, dI x19048, dI x19049])]⟩)) (fun (t : Int) => ((Exit.exit 0), ⟨mkE 28 0 [(7, dI t)], []⟩))) := by
  refine Link.of fun K h => ?_
  simp only [impl_joins_below_n3, wpO_bind, wpO_cond, wpO_map, wpO_some] at h
  exact Awp.of (by kernel_rfl) h

def impl_joins_below_n4_l (x19050 : Int) (x19051 : Int) (x19036 : Int) (x19037 : Int) (x19038 : Int) (x19039 : Int) (x19040 : Int) (x19041 : Int) (x19042 : Int) (x19043 : Int) (x19044 : Int) (x19045 : Int) (x19046 : Int) (x19047 : Int) (x19048 : Int) (x19049 : Int) := (link_loop (mk := fun (s : Int × Int) => ⟨mkE 28 0 [(1, dI x19050), (3, .ptr 0 0), (7, dI s.1), (9, dI x19051), (10, dI s.2)], [some (.box [dI x19036, dI x19037, dI x19038, dI x19039, dI x19040, dI x19041, dI x19042, dI x19043, dI x19044, dI x19045, dI x19046, dI x19047, dI x19048, dI x19049])]⟩) (fin := (fun (t : Int) => ((Exit.exit 0), ⟨mkE 28 0 [(7, dI t)], []⟩))) (by
  rintro t f K h
  · exact h) (fun s => link_map (impl_joins_below_n3_l x19050 s.1 x19051 s.2 x19036 x19037 x19038 x19039 x19040 x19041 x19042 x19043 x19044 x19045 x19046 x19047 x19048 x19049) (Sum.elim (fun (t : Int × Int) => Sum.inl (t.1, t.2)) (fun (t : Int) => Sum.inr t)) (by
  rintro (t | t)
  · kernel_rfl
  · kernel_rfl)) (0, 0))

def impl_joins_below_n5_l (x19050 : Int) (x19051 : Int) (x19036 : Int) (x19037 : Int) (x19038 : Int) (x19039 : Int) (x19040 : Int) (x19041 : Int) (x19042 : Int) (x19043 : Int) (x19044 : Int) (x19045 : Int) (x19046 : Int) (x19047 : Int) (x19048 : Int) (x19049 : Int) := (link_block (fin2 := (fun (t : Int) => (Exit.normal, ⟨mkE 28 0 [(7, dI t)], []⟩))) (id := 0) (impl_joins_below_n4_l x19050 x19051 x19036 x19037 x19038 x19039 x19040 x19041 x19042 x19043 x19044 x19045 x19046 x19047 x19048 x19049) (fun (t : Int) => t) (by
  rintro t K h
  · exact Eq.mp (by kernel_rfl) h))

def impl_joins_below_n6_l (x19050 : Int) (x19051 : Int) (x19036 : Int) (x19037 : Int) (x19038 : Int) (x19039 : Int) (x19040 : Int) (x19041 : Int) (x19042 : Int) (x19043 : Int) (x19044 : Int) (x19045 : Int) (x19046 : Int) (x19047 : Int) (x19048 : Int) (x19049 : Int) := (link_seq (impl_joins_below_n2_l x19050 x19051 x19036 x19037 x19038 x19039 x19040 x19041 x19042 x19043 x19044 x19045 x19046 x19047 x19048 x19049) (fun (t : Unit) => (impl_joins_below_n5_l x19050 x19051 x19036 x19037 x19038 x19039 x19040 x19041 x19042 x19043 x19044 x19045 x19046 x19047 x19048 x19049)))

theorem impl_joins_below_n7_l (x19071 : Int) : Link impl_joins_below_ctx LL (cq [1,1,1] (bodyOf Try.f75)) (aq [1,1,1] impl_joins_below_an) ⟨mkE 28 0 [(7, dI x19071)], []⟩ (impl_joins_below_n7 x19071) (fun (t : Int) => (Exit.ret, ⟨mkE 28 0 [(6, dI t)], []⟩)) := by
  refine Link.of fun K h => ?_
  simp only [impl_joins_below_n7, wpO_bind, wpO_cond, wpO_map, wpO_some] at h
  exact Awp.of (by kernel_rfl) h

def impl_joins_below_n8_l (x19050 : Int) (x19051 : Int) (x19036 : Int) (x19037 : Int) (x19038 : Int) (x19039 : Int) (x19040 : Int) (x19041 : Int) (x19042 : Int) (x19043 : Int) (x19044 : Int) (x19045 : Int) (x19046 : Int) (x19047 : Int) (x19048 : Int) (x19049 : Int) := (link_seq (impl_joins_below_n6_l x19050 x19051 x19036 x19037 x19038 x19039 x19040 x19041 x19042 x19043 x19044 x19045 x19046 x19047 x19048 x19049) (fun (t : Int) => (impl_joins_below_n7_l t)))

def impl_joins_below_n9_l (x19036 : Int) (x19037 : Int) (x19038 : Int) (x19039 : Int) (x19040 : Int) (x19041 : Int) (x19042 : Int) (x19043 : Int) (x19044 : Int) (x19045 : Int) (x19046 : Int) (x19047 : Int) (x19048 : Int) (x19049 : Int) (x19050 : Int) (x19051 : Int) := (link_group (c := (cq [0,1] (bodyOf Try.f75))) (a := (aq [0,1] impl_joins_below_an)) [(cq [0] (bodyOf Try.f75))] [(aq [0] impl_joins_below_an)] rfl (link_seq (impl_joins_below_n1_l x19036 x19037 x19038 x19039 x19040 x19041 x19042 x19043 x19044 x19045 x19046 x19047 x19048 x19049 x19050 x19051) (fun (t : Unit) => (impl_joins_below_n8_l x19050 x19051 x19036 x19037 x19038 x19039 x19040 x19041 x19042 x19043 x19044 x19045 x19046 x19047 x19048 x19049))))

theorem impl_joins_below_e (x19036 : Int) (x19037 : Int) (x19038 : Int) (x19039 : Int) (x19040 : Int) (x19041 : Int) (x19042 : Int) (x19043 : Int) (x19044 : Int) (x19045 : Int) (x19046 : Int) (x19047 : Int) (x19048 : Int) (x19049 : Int) (x19050 : Int) (x19051 : Int) {r : AV} {H' : Heap} (h : (Ans.mk _ (impl_joins_below x19036 x19037 x19038 x19039 x19040 x19041 x19042 x19043 x19044 x19045 x19046 x19047 x19048 x19049 x19050 x19051) (fun (t : Int) => (dI t, [])) [] none).run = some (r, H')) : Awp impl_joins_below_ctx LL (bodyOf Try.f75) impl_joins_below_an ⟨mkE 28 0 [(0, .agg [dI x19036, dI x19037, dI x19038, dI x19039, dI x19040, dI x19041, dI x19042, dI x19043, dI x19044, dI x19045, dI x19046, dI x19047, dI x19048, dI x19049]), (1, dI x19050), (2, dI x19051)], []⟩ (Ret (tlook tys) Try.f75.results.toList r H') :=
  ret_of' (Link.cast (by kernel_rfl) (by kernel_rfl) (impl_joins_below_n9_l x19036 x19037 x19038 x19039 x19040 x19041 x19042 x19043 x19044 x19045 x19046 x19047 x19048 x19049 x19050 x19051)) (by unfold impl_joins_below; kernel_rfl) (by
  intro t
  exact ret_mk [dI t] (by kernel_rfl) (by kernel_rfl) (by kernel_rfl) (by kernel_rfl)) h

def F_impl_joins_below : Fun := fun avs H =>
  match avs, H with
  | [.agg [.dat (.int .i64) x19036, .dat (.int .i64) x19037, .dat (.int .i64) x19038, .dat (.int .i64) x19039, .dat (.int .i64) x19040, .dat (.int .i64) x19041, .dat (.int .i64) x19042, .dat (.int .i64) x19043, .dat (.int .i64) x19044, .dat (.int .i64) x19045, .dat (.int .i64) x19046, .dat (.int .i64) x19047, .dat (.int .i64) x19048, .dat (.int .i64) x19049], .dat (.int .i64) x19050, .dat (.int .i64) x19051], [] => ⟨_, impl_joins_below x19036 x19037 x19038 x19039 x19040 x19041 x19042 x19043 x19044 x19045 x19046 x19047 x19048 x19049 x19050 x19051, fun (t : Int) => (dI t, []), [], none⟩
  | _, _ => Ans.no

theorem impl_joins_below_sound : Sound Try.prog 75 F_impl_joins_below := by
  refine fn_sound' (C := impl_joins_below_ctx) (c := bodyOf Try.f75) (cok_of tys_ok (alln) (alln) (by kernel_rfl)) Try.func75 (by kernel_rfl) LL impl_joins_below_an ?_
  intro avs H r H' h
  unfold F_impl_joins_below at h
  split at h
  · refine Awp.cast ?_ ?_ ?_ (impl_joins_below_e _ _ _ _ _ _ _ _ _ _ _ _ _ _ _ _ h) <;> kernel_rfl
  · simp [Ans.no, Ans.run] at h


/-! (loop.example/headtrees/impl.joins).count -/

def impl_joins_count_an : Ann := (.seq (.leaf [1, 2]) (.seq (.leaf [4]) (.leaf [4])))

noncomputable def impl_joins_count_ctx : Ctx := ⟨tlook tys, olook [(75, F_impl_joins_below)], ioF, 0, false, []⟩

theorem impl_joins_count_n1_l (x19020 : Int) (x19021 : Int) (x19022 : Int) (x19023 : Int) (x19024 : Int) (x19025 : Int) (x19026 : Int) (x19027 : Int) (x19028 : Int) (x19029 : Int) (x19030 : Int) (x19031 : Int) (x19032 : Int) (x19033 : Int) (x19034 : Int) : Link impl_joins_count_ctx LL (bodyOf Try.f67) impl_joins_count_an ⟨mkE 10 0 [(0, .agg [dI x19020, dI x19021, dI x19022, dI x19023, dI x19024, dI x19025, dI x19026, dI x19027, dI x19028, dI x19029, dI x19030, dI x19031, dI x19032, dI x19033]), (1, dI x19034)], []⟩ (impl_joins_count_n1 x19020 x19021 x19022 x19023 x19024 x19025 x19026 x19027 x19028 x19029 x19030 x19031 x19032 x19033 x19034) (fun (t : Int) => (Exit.ret, ⟨mkE 10 0 [(4, dI t)], []⟩)) := by
  refine Link.of fun K h => ?_
  simp only [impl_joins_count_n1, wpO_bind, wpO_cond, wpO_map, wpO_some] at h
  exact Awp.of (by kernel_rfl) h

theorem impl_joins_count_e (x19020 : Int) (x19021 : Int) (x19022 : Int) (x19023 : Int) (x19024 : Int) (x19025 : Int) (x19026 : Int) (x19027 : Int) (x19028 : Int) (x19029 : Int) (x19030 : Int) (x19031 : Int) (x19032 : Int) (x19033 : Int) (x19034 : Int) {r : AV} {H' : Heap} (h : (Ans.mk _ (impl_joins_count x19020 x19021 x19022 x19023 x19024 x19025 x19026 x19027 x19028 x19029 x19030 x19031 x19032 x19033 x19034) (fun (t : Int) => (dI t, [])) [] none).run = some (r, H')) : Awp impl_joins_count_ctx LL (bodyOf Try.f67) impl_joins_count_an ⟨mkE 10 0 [(0, .agg [dI x19020, dI x19021, dI x19022, dI x19023, dI x19024, dI x19025, dI x19026, dI x19027, dI x19028, dI x19029, dI x19030, dI x19031, dI x19032, dI x19033]), (1, dI x19034)], []⟩ (Ret (tlook tys) Try.f67.results.toList r H') :=
  ret_of' (impl_joins_count_n1_l x19020 x19021 x19022 x19023 x19024 x19025 x19026 x19027 x19028 x19029 x19030 x19031 x19032 x19033 x19034) (by unfold impl_joins_count; kernel_rfl) (by
  intro t
  exact ret_mk [dI t] (by kernel_rfl) (by kernel_rfl) (by kernel_rfl) (by kernel_rfl)) h

def F_impl_joins_count : Fun := fun avs H =>
  match avs, H with
  | [.agg [.dat (.int .i64) x19020, .dat (.int .i64) x19021, .dat (.int .i64) x19022, .dat (.int .i64) x19023, .dat (.int .i64) x19024, .dat (.int .i64) x19025, .dat (.int .i64) x19026, .dat (.int .i64) x19027, .dat (.int .i64) x19028, .dat (.int .i64) x19029, .dat (.int .i64) x19030, .dat (.int .i64) x19031, .dat (.int .i64) x19032, .dat (.int .i64) x19033], .dat (.int .i64) x19034], [] => ⟨_, impl_joins_count x19020 x19021 x19022 x19023 x19024 x19025 x19026 x19027 x19028 x19029 x19030 x19031 x19032 x19033 x19034, fun (t : Int) => (dI t, []), [], none⟩
  | _, _ => Ans.no

theorem impl_joins_count_sound : Sound Try.prog 67 F_impl_joins_count := by
  refine fn_sound' (C := impl_joins_count_ctx) (c := bodyOf Try.f67) (cok_of tys_ok (allc impl_joins_below_sound alln) (allc Try.call75 alln) (by kernel_rfl)) Try.func67 (by kernel_rfl) LL impl_joins_count_an ?_
  intro avs H r H' h
  unfold F_impl_joins_count at h
  split at h
  · refine Awp.cast ?_ ?_ ?_ (impl_joins_count_e _ _ _ _ _ _ _ _ _ _ _ _ _ _ _ h) <;> kernel_rfl
  · simp [Ans.no, Ans.run] at h


/-! (loop.example/headtrees/impl.flatCounts).inRows -/

def impl_flatCounts_inRows_an : Ann := (.seq (.leaf [1, 2]) (.seq (.leaf [2]) (.leaf [2])))

noncomputable def impl_flatCounts_inRows_ctx : Ctx := ⟨tlook tys, olook [], ioF, 0, false, []⟩

theorem impl_flatCounts_inRows_n1_l (x19112 : Int) (x19113 : Int) (x19114 : Int) (x19115 : Int) (x19116 : Int) (x19117 : Int) (x19118 : Int) (x19119 : Int) (x19120 : Int) (x19121 : Int) (x19122 : Int) (x19123 : Int) (x19124 : Int) (x19125 : Int) : Link impl_flatCounts_inRows_ctx LL (bodyOf Try.f68) impl_flatCounts_inRows_an ⟨mkE 8 0 [(0, .agg [dI x19112, dI x19113, dI x19114, dI x19115, dI x19116, dI x19117, dI x19118, dI x19119, dI x19120, dI x19121, dI x19122, dI x19123, dI x19124, dI x19125])], []⟩ (impl_flatCounts_inRows_n1) (fun (t : Unit) => (Exit.ret, ⟨mkE 8 0 [(2, .ptr 0 0)], [some (.box [dI x19112, dI x19113, dI x19114, dI x19115, dI x19116, dI x19117, dI x19118, dI x19119, dI x19120, dI x19121, dI x19122, dI x19123, dI x19124, dI x19125])]⟩)) := by
  refine Link.of fun K h => ?_
  simp only [impl_flatCounts_inRows_n1, wpO_bind, wpO_cond, wpO_map, wpO_some] at h
  exact Awp.of (by kernel_rfl) h

theorem impl_flatCounts_inRows_e (x19112 : Int) (x19113 : Int) (x19114 : Int) (x19115 : Int) (x19116 : Int) (x19117 : Int) (x19118 : Int) (x19119 : Int) (x19120 : Int) (x19121 : Int) (x19122 : Int) (x19123 : Int) (x19124 : Int) (x19125 : Int) {r : AV} {H' : Heap} (h : (Ans.mk _ (impl_flatCounts_inRows x19112 x19113 x19114 x19115 x19116 x19117 x19118 x19119 x19120 x19121 x19122 x19123 x19124 x19125) (fun (t : Unit) => (.agg [dI x19112, dI x19113, dI x19114, dI x19115, dI x19116, dI x19117, dI x19118, dI x19119, dI x19120, dI x19121, dI x19122, dI x19123, dI x19124, dI x19125], [some (.box [dI x19112, dI x19113, dI x19114, dI x19115, dI x19116, dI x19117, dI x19118, dI x19119, dI x19120, dI x19121, dI x19122, dI x19123, dI x19124, dI x19125])])) [] none).run = some (r, H')) : Awp impl_flatCounts_inRows_ctx LL (bodyOf Try.f68) impl_flatCounts_inRows_an ⟨mkE 8 0 [(0, .agg [dI x19112, dI x19113, dI x19114, dI x19115, dI x19116, dI x19117, dI x19118, dI x19119, dI x19120, dI x19121, dI x19122, dI x19123, dI x19124, dI x19125])], []⟩ (Ret (tlook tys) Try.f68.results.toList r H') :=
  ret_of' (impl_flatCounts_inRows_n1_l x19112 x19113 x19114 x19115 x19116 x19117 x19118 x19119 x19120 x19121 x19122 x19123 x19124 x19125) (by unfold impl_flatCounts_inRows; kernel_rfl) (by
  intro t
  exact ret_mk [.agg [dI x19112, dI x19113, dI x19114, dI x19115, dI x19116, dI x19117, dI x19118, dI x19119, dI x19120, dI x19121, dI x19122, dI x19123, dI x19124, dI x19125]] (by kernel_rfl) (by kernel_rfl) (by kernel_rfl) (by kernel_rfl)) h

def F_impl_flatCounts_inRows : Fun := fun avs H =>
  match avs, H with
  | [.agg [.dat (.int .i64) x19112, .dat (.int .i64) x19113, .dat (.int .i64) x19114, .dat (.int .i64) x19115, .dat (.int .i64) x19116, .dat (.int .i64) x19117, .dat (.int .i64) x19118, .dat (.int .i64) x19119, .dat (.int .i64) x19120, .dat (.int .i64) x19121, .dat (.int .i64) x19122, .dat (.int .i64) x19123, .dat (.int .i64) x19124, .dat (.int .i64) x19125]], [] => ⟨_, impl_flatCounts_inRows x19112 x19113 x19114 x19115 x19116 x19117 x19118 x19119 x19120 x19121 x19122 x19123 x19124 x19125, fun (t : Unit) => (.agg [dI x19112, dI x19113, dI x19114, dI x19115, dI x19116, dI x19117, dI x19118, dI x19119, dI x19120, dI x19121, dI x19122, dI x19123, dI x19124, dI x19125], [some (.box [dI x19112, dI x19113, dI x19114, dI x19115, dI x19116, dI x19117, dI x19118, dI x19119, dI x19120, dI x19121, dI x19122, dI x19123, dI x19124, dI x19125])]), [], none⟩
  | _, _ => Ans.no

theorem impl_flatCounts_inRows_sound : Sound Try.prog 68 F_impl_flatCounts_inRows := by
  refine fn_sound' (C := impl_flatCounts_inRows_ctx) (c := bodyOf Try.f68) (cok_of tys_ok (alln) (alln) (by kernel_rfl)) Try.func68 (by kernel_rfl) LL impl_flatCounts_inRows_an ?_
  intro avs H r H' h
  unfold F_impl_flatCounts_inRows at h
  split at h
  · refine Awp.cast ?_ ?_ ?_ (impl_flatCounts_inRows_e _ _ _ _ _ _ _ _ _ _ _ _ _ _ h) <;> kernel_rfl
  · simp [Ans.no, Ans.run] at h


/-! loop.example/headtrees/impl.countFlatParts -/

def impl_countFlatParts_an : Ann := (.seq (.leaf [0]) (.seq (.leaf [0, 1]) (.seq (.leaf [0, 1]) (.seq (.seq (.leaf [0, 1, 2]) (.block (.loop (.seq (.seq (.leaf [0, 1, 2, 6]) (.cond (.leaf [0, 1, 2]) (.leaf [0, 1]))) (.seq (.block (.seq (.leaf [0, 1, 2]) (.leaf [0, 1, 2]))) (.leaf [0, 1, 2])))))) (.seq (.leaf [0]) (.leaf [0]))))))

noncomputable def impl_countFlatParts_ctx : Ctx := ⟨tlook tys, olook [(66, F_impl_flatCounts_aroundRoots), (67, F_impl_joins_count), (68, F_impl_flatCounts_inRows)], ioF, 0, false, []⟩

theorem impl_countFlatParts_n1_l : Link impl_countFlatParts_ctx LL (Code.seq (cq [0] (bodyOf Try.f49)) (Code.seq (cq [0,1] (bodyOf Try.f49)) (cq [0,1,1] (bodyOf Try.f49)))) (Ann.seq (aq [0] impl_countFlatParts_an) (Ann.seq (aq [0,1] impl_countFlatParts_an) (aq [0,1,1] impl_countFlatParts_an))) ⟨mkE 25 0 [], []⟩ (impl_countFlatParts_n1) (fun (t : Int × Int × Int × Int × Int × Int × Int) => (Exit.normal, ⟨mkE 25 0 [(0, .ptr 0 0), (1, .ptr 1 0)], [some (.box [dI 0, dI 0, dI 0, dI 0, dI 0, dI 0, dI 0, dI 0, dI 0, dI 0, dI 0, dI 0, dI 0, dI 0]), some (.box [dI 0, dI 0, dI 0, dI 0, dI 0, dI 0, dI 0, dI t.1, dI t.2.1, dI t.2.2.1, dI t.2.2.2.1, dI t.2.2.2.2.1, dI t.2.2.2.2.2.1, dI t.2.2.2.2.2.2])]⟩)) := by
  refine Link.of fun K h => ?_
  simp only [impl_countFlatParts_n1, wpO_bind, wpO_cond, wpO_map, wpO_some] at h
  exact Awp.of (by kernel_rfl) h

theorem impl_countFlatParts_n2_l (x18994 : Int) (x18995 : Int) (x18996 : Int) (x18997 : Int) (x18998 : Int) (x18999 : Int) (x19000 : Int) : Link impl_countFlatParts_ctx LL (cq [0,0,1,1,1] (bodyOf Try.f49)) (aq [0,0,1,1,1] impl_countFlatParts_an) ⟨mkE 25 0 [(0, .ptr 0 0), (1, .ptr 1 0)], [some (.box [dI 0, dI 0, dI 0, dI 0, dI 0, dI 0, dI 0, dI 0, dI 0, dI 0, dI 0, dI 0, dI 0, dI 0]), some (.box [dI 0, dI 0, dI 0, dI 0, dI 0, dI 0, dI 0, dI x18994, dI x18995, dI x18996, dI x18997, dI x18998, dI x18999, dI x19000])]⟩ (impl_countFlatParts_n2) (fun (t : Unit) => (Exit.normal, ⟨mkE 25 0 [(0, .ptr 0 0), (1, .ptr 1 0), (2, dI 1)], [some (.box [dI 0, dI 0, dI 0, dI 0, dI 0, dI 0, dI 0, dI 0, dI 0, dI 0, dI 0, dI 0, dI 0, dI 0]), some (.box [dI 0, dI 0, dI 0, dI 0, dI 0, dI 0, dI 0, dI x18994, dI x18995, dI x18996, dI x18997, dI x18998, dI x18999, dI x19000])]⟩)) := by
  refine Link.of fun K h => ?_
  simp only [impl_countFlatParts_n2, wpO_bind, wpO_cond, wpO_map, wpO_some] at h
  exact Awp.of (by kernel_rfl) h

theorem impl_countFlatParts_n3_l (x19169 : Int) (x19170 : Int) (x19171 : Int) (x19172 : Int) (x19173 : Int) (x19174 : Int) (x19175 : Int) (x19176 : Int) (x19177 : Int) (x19178 : Int) (x19179 : Int) (x19180 : Int) (x19181 : Int) (x19182 : Int) (x19183 : Int) : Link impl_countFlatParts_ctx LL (cq [0,0,1,0,1,1,1] (bodyOf Try.f49)) (aq [0,0,1,0,1,1,1] impl_countFlatParts_an) ⟨mkE 25 0 [(0, .ptr 0 0), (1, .ptr 1 0), (2, dI x19169)], [some (.box [dI 0, dI 0, dI 0, dI 0, dI 0, dI 0, dI 0, dI 0, dI 0, dI 0, dI 0, dI 0, dI 0, dI 0]), some (.box [dI x19170, dI x19171, dI x19172, dI x19173, dI x19174, dI x19175, dI x19176, dI x19177, dI x19178, dI x19179, dI x19180, dI x19181, dI x19182, dI x19183])]⟩ (impl_countFlatParts_n3 x19169 x19170 x19171 x19172 x19173 x19174 x19175 x19176 x19177 x19178 x19179 x19180 x19181 x19182 x19183) (Sum.elim (fun (t : Int × Int × Int × Int × Int × Int × Int × Int × Int × Int × Int × Int × Int × Int × Int) => (Exit.normal, ⟨mkE 25 0 [(0, .ptr 0 0), (1, .ptr 1 0), (2, dI t.1)], [some (.box [dI 0, dI 0, dI 0, dI 0, dI 0, dI 0, dI 0, dI 0, dI 0, dI 0, dI 0, dI 0, dI 0, dI 0]), some (.box [dI t.2.1, dI t.2.2.1, dI t.2.2.2.1, dI t.2.2.2.2.1, dI t.2.2.2.2.2.1, dI t.2.2.2.2.2.2.1, dI t.2.2.2.2.2.2.2.1, dI t.2.2.2.2.2.2.2.2.1, dI t.2.2.2.2.2.2.2.2.2.1, dI t.2.2.2.2.2.2.2.2.2.2.1, dI t.2.2.2.2.2.2.2.2.2.2.2.1, dI t.2.2.2.2.2.2.2.2.2.2.2.2.1, dI t.2.2.2.2.2.2.2.2.2.2.2.2.2.1, dI t.2.2.2.2.2.2.2.2.2.2.2.2.2.2])]⟩)) (fun (t : Int × Int × Int × Int × Int × Int × Int × Int × Int × Int × Int × Int × Int × Int) => ((Exit.exit 0), ⟨mkE 25 0 [(0, .ptr 0 0), (1, .ptr 1 0)], [some (.box [dI 0, dI 0, dI 0, dI 0, dI 0, dI 0, dI 0, dI 0, dI 0, dI 0, dI 0, dI 0, dI 0, dI 0]), some (.box [dI t.1, dI t.2.1, dI t.2.2.1, dI t.2.2.2.1, dI t.2.2.2.2.1, dI t.2.2.2.2.2.1, dI t.2.2.2.2.2.2.1, dI t.2.2.2.2.2.2.2.1, dI t.2.2.2.2.2.2.2.2.1, dI t.2.2.2.2.2.2.2.2.2.1, dI t.2.2.2.2.2.2.2.2.2.2.1, dI t.2.2.2.2.2.2.2.2.2.2.2.1, dI t.2.2.2.2.2.2.2.2.2.2.2.2.1, dI t.2.2.2.2.2.2.2.2.2.2.2.2.2])]⟩))) := by
  refine Link.of fun K h => ?_
  simp only [impl_countFlatParts_n3, wpO_bind, wpO_cond, wpO_map, wpO_some] at h
  exact Awp.of (by kernel_rfl) h

def impl_countFlatParts_n4_l (x18994 : Int) (x18995 : Int) (x18996 : Int) (x18997 : Int) (x18998 : Int) (x18999 : Int) (x19000 : Int) := (link_loop (mk := fun (s : Int × Int × Int × Int × Int × Int × Int × Int × Int × Int × Int × Int × Int × Int × Int) => ⟨mkE 25 0 [(0, .ptr 0 0), (1, .ptr 1 0), (2, dI s.1)], [some (.box [dI 0, dI 0, dI 0, dI 0, dI 0, dI 0, dI 0, dI 0, dI 0, dI 0, dI 0, dI 0, dI 0, dI 0]), some (.box [dI s.2.1, dI s.2.2.1, dI s.2.2.2.1, dI s.2.2.2.2.1, dI s.2.2.2.2.2.1, dI s.2.2.2.2.2.2.1, dI s.2.2.2.2.2.2.2.1, dI s.2.2.2.2.2.2.2.2.1, dI s.2.2.2.2.2.2.2.2.2.1, dI s.2.2.2.2.2.2.2.2.2.2.1, dI s.2.2.2.2.2.2.2.2.2.2.2.1, dI s.2.2.2.2.2.2.2.2.2.2.2.2.1, dI s.2.2.2.2.2.2.2.2.2.2.2.2.2.1, dI s.2.2.2.2.2.2.2.2.2.2.2.2.2.2])]⟩) (fin := (fun (t : Int × Int × Int × Int × Int × Int × Int × Int × Int × Int × Int × Int × Int × Int) => ((Exit.exit 0), ⟨mkE 25 0 [(0, .ptr 0 0), (1, .ptr 1 0)], [some (.box [dI 0, dI 0, dI 0, dI 0, dI 0, dI 0, dI 0, dI 0, dI 0, dI 0, dI 0, dI 0, dI 0, dI 0]), some (.box [dI t.1, dI t.2.1, dI t.2.2.1, dI t.2.2.2.1, dI t.2.2.2.2.1, dI t.2.2.2.2.2.1, dI t.2.2.2.2.2.2.1, dI t.2.2.2.2.2.2.2.1, dI t.2.2.2.2.2.2.2.2.1, dI t.2.2.2.2.2.2.2.2.2.1, dI t.2.2.2.2.2.2.2.2.2.2.1, dI t.2.2.2.2.2.2.2.2.2.2.2.1, dI t.2.2.2.2.2.2.2.2.2.2.2.2.1, dI t.2.2.2.2.2.2.2.2.2.2.2.2.2])]⟩))) (by
  rintro t f K h
  · exact h) (fun s => link_map (impl_countFlatParts_n3_l s.1 s.2.1 s.2.2.1 s.2.2.2.1 s.2.2.2.2.1 s.2.2.2.2.2.1 s.2.2.2.2.2.2.1 s.2.2.2.2.2.2.2.1 s.2.2.2.2.2.2.2.2.1 s.2.2.2.2.2.2.2.2.2.1 s.2.2.2.2.2.2.2.2.2.2.1 s.2.2.2.2.2.2.2.2.2.2.2.1 s.2.2.2.2.2.2.2.2.2.2.2.2.1 s.2.2.2.2.2.2.2.2.2.2.2.2.2.1 s.2.2.2.2.2.2.2.2.2.2.2.2.2.2) (Sum.elim (fun (t : Int × Int × Int × Int × Int × Int × Int × Int × Int × Int × Int × Int × Int × Int × Int) => Sum.inl (t.1, t.2.1, t.2.2.1, t.2.2.2.1, t.2.2.2.2.1, t.2.2.2.2.2.1, t.2.2.2.2.2.2.1, t.2.2.2.2.2.2.2.1, t.2.2.2.2.2.2.2.2.1, t.2.2.2.2.2.2.2.2.2.1, t.2.2.2.2.2.2.2.2.2.2.1, t.2.2.2.2.2.2.2.2.2.2.2.1, t.2.2.2.2.2.2.2.2.2.2.2.2.1, t.2.2.2.2.2.2.2.2.2.2.2.2.2.1, t.2.2.2.2.2.2.2.2.2.2.2.2.2.2)) (fun (t : Int × Int × Int × Int × Int × Int × Int × Int × Int × Int × Int × Int × Int × Int) => Sum.inr t)) (by
  rintro (t | t)
  · kernel_rfl
  · kernel_rfl)) (1, 0, 0, 0, 0, 0, 0, 0, x18994, x18995, x18996, x18997, x18998, x18999, x19000))

def impl_countFlatParts_n5_l (x18994 : Int) (x18995 : Int) (x18996 : Int) (x18997 : Int) (x18998 : Int) (x18999 : Int) (x19000 : Int) := (link_block (fin2 := (fun (t : Int × Int × Int × Int × Int × Int × Int × Int × Int × Int × Int × Int × Int × Int) => (Exit.normal, ⟨mkE 25 0 [(0, .ptr 0 0), (1, .ptr 1 0)], [some (.box [dI 0, dI 0, dI 0, dI 0, dI 0, dI 0, dI 0, dI 0, dI 0, dI 0, dI 0, dI 0, dI 0, dI 0]), some (.box [dI t.1, dI t.2.1, dI t.2.2.1, dI t.2.2.2.1, dI t.2.2.2.2.1, dI t.2.2.2.2.2.1, dI t.2.2.2.2.2.2.1, dI t.2.2.2.2.2.2.2.1, dI t.2.2.2.2.2.2.2.2.1, dI t.2.2.2.2.2.2.2.2.2.1, dI t.2.2.2.2.2.2.2.2.2.2.1, dI t.2.2.2.2.2.2.2.2.2.2.2.1, dI t.2.2.2.2.2.2.2.2.2.2.2.2.1, dI t.2.2.2.2.2.2.2.2.2.2.2.2.2])]⟩))) (id := 0) (impl_countFlatParts_n4_l x18994 x18995 x18996 x18997 x18998 x18999 x19000) (fun (t : Int × Int × Int × Int × Int × Int × Int × Int × Int × Int × Int × Int × Int × Int) => (t.1, t.2.1, t.2.2.1, t.2.2.2.1, t.2.2.2.2.1, t.2.2.2.2.2.1, t.2.2.2.2.2.2.1, t.2.2.2.2.2.2.2.1, t.2.2.2.2.2.2.2.2.1, t.2.2.2.2.2.2.2.2.2.1, t.2.2.2.2.2.2.2.2.2.2.1, t.2.2.2.2.2.2.2.2.2.2.2.1, t.2.2.2.2.2.2.2.2.2.2.2.2.1, t.2.2.2.2.2.2.2.2.2.2.2.2.2)) (by
  rintro t K h
  · exact Eq.mp (by kernel_rfl) h))

def impl_countFlatParts_n6_l (x18994 : Int) (x18995 : Int) (x18996 : Int) (x18997 : Int) (x18998 : Int) (x18999 : Int) (x19000 : Int) := (link_seq (impl_countFlatParts_n2_l x18994 x18995 x18996 x18997 x18998 x18999 x19000) (fun (t : Unit) => (impl_countFlatParts_n5_l x18994 x18995 x18996 x18997 x18998 x18999 x19000)))

theorem impl_countFlatParts_n7_l (x19170 : Int) (x19171 : Int) (x19172 : Int) (x19173 : Int) (x19174 : Int) (x19175 : Int) (x19176 : Int) (x19177 : Int) (x19178 : Int) (x19179 : Int) (x19180 : Int) (x19181 : Int) (x19182 : Int) (x19183 : Int) : Link impl_countFlatParts_ctx LL (cq [1,1,1,1] (bodyOf Try.f49)) (aq [1,1,1,1] impl_countFlatParts_an) ⟨mkE 25 0 [(0, .ptr 0 0), (1, .ptr 1 0)], [some (.box [dI 0, dI 0, dI 0, dI 0, dI 0, dI 0, dI 0, dI 0, dI 0, dI 0, dI 0, dI 0, dI 0, dI 0]), some (.box [dI x19170, dI x19171, dI x19172, dI x19173, dI x19174, dI x19175, dI x19176, dI x19177, dI x19178, dI x19179, dI x19180, dI x19181, dI x19182, dI x19183])]⟩ (impl_countFlatParts_n7 x19170 x19171 x19172 x19173 x19174 x19175 x19176 x19177 x19178 x19179 x19180 x19181 x19182 x19183) (fun (t : Int × Int × Int × Int × Int × Int × Int × Int × Int × Int × Int × Int × Int × Int) => (Exit.ret, ⟨mkE 25 0 [(0, .ptr 0 0)], [some (.box [dI t.1, dI t.2.1, dI t.2.2.1, dI t.2.2.2.1, dI t.2.2.2.2.1, dI t.2.2.2.2.2.1, dI t.2.2.2.2.2.2.1, dI t.2.2.2.2.2.2.2.1, dI t.2.2.2.2.2.2.2.2.1, dI t.2.2.2.2.2.2.2.2.2.1, dI t.2.2.2.2.2.2.2.2.2.2.1, dI t.2.2.2.2.2.2.2.2.2.2.2.1, dI t.2.2.2.2.2.2.2.2.2.2.2.2.1, dI t.2.2.2.2.2.2.2.2.2.2.2.2.2])]⟩)) := by
  refine Link.of fun K h => ?_
  simp only [impl_countFlatParts_n7, wpO_bind, wpO_cond, wpO_map, wpO_some] at h
  exact Awp.of (by kernel_rfl) h

def impl_countFlatParts_n8_l (x18994 : Int) (x18995 : Int) (x18996 : Int) (x18997 : Int) (x18998 : Int) (x18999 : Int) (x19000 : Int) := (link_seq (impl_countFlatParts_n6_l x18994 x18995 x18996 x18997 x18998 x18999 x19000) (fun (t : Int × Int × Int × Int × Int × Int × Int × Int × Int × Int × Int × Int × Int × Int) => (impl_countFlatParts_n7_l t.1 t.2.1 t.2.2.1 t.2.2.2.1 t.2.2.2.2.1 t.2.2.2.2.2.1 t.2.2.2.2.2.2.1 t.2.2.2.2.2.2.2.1 t.2.2.2.2.2.2.2.2.1 t.2.2.2.2.2.2.2.2.2.1 t.2.2.2.2.2.2.2.2.2.2.1 t.2.2.2.2.2.2.2.2.2.2.2.1 t.2.2.2.2.2.2.2.2.2.2.2.2.1 t.2.2.2.2.2.2.2.2.2.2.2.2.2)))

def impl_countFlatParts_n9_l := (link_group (c := (cq [0,1,1] (bodyOf Try.f49))) (a := (aq [0,1,1] impl_countFlatParts_an)) [(cq [0] (bodyOf Try.f49)), (cq [0,1] (bodyOf Try.f49))] [(aq [0] impl_countFlatParts_an), (aq [0,1] impl_countFlatParts_an)] rfl (link_seq (impl_countFlatParts_n1_l) (fun (t : Int × Int × Int × Int × Int × Int × Int) => (impl_countFlatParts_n8_l t.1 t.2.1 t.2.2.1 t.2.2.2.1 t.2.2.2.2.1 t.2.2.2.2.2.1 t.2.2.2.2.2.2))))

theorem impl_countFlatParts_e {r : AV} {H' : Heap} (h : (Ans.mk _ (impl_countFlatParts) (fun (t : Int × Int × Int × Int × Int × Int × Int × Int × Int × Int × Int × Int × Int × Int) => (.agg [dI t.1, dI t.2.1, dI t.2.2.1, dI t.2.2.2.1, dI t.2.2.2.2.1, dI t.2.2.2.2.2.1, dI t.2.2.2.2.2.2.1, dI t.2.2.2.2.2.2.2.1, dI t.2.2.2.2.2.2.2.2.1, dI t.2.2.2.2.2.2.2.2.2.1, dI t.2.2.2.2.2.2.2.2.2.2.1, dI t.2.2.2.2.2.2.2.2.2.2.2.1, dI t.2.2.2.2.2.2.2.2.2.2.2.2.1, dI t.2.2.2.2.2.2.2.2.2.2.2.2.2], [some (.box [dI t.1, dI t.2.1, dI t.2.2.1, dI t.2.2.2.1, dI t.2.2.2.2.1, dI t.2.2.2.2.2.1, dI t.2.2.2.2.2.2.1, dI t.2.2.2.2.2.2.2.1, dI t.2.2.2.2.2.2.2.2.1, dI t.2.2.2.2.2.2.2.2.2.1, dI t.2.2.2.2.2.2.2.2.2.2.1, dI t.2.2.2.2.2.2.2.2.2.2.2.1, dI t.2.2.2.2.2.2.2.2.2.2.2.2.1, dI t.2.2.2.2.2.2.2.2.2.2.2.2.2])])) [] none).run = some (r, H')) : Awp impl_countFlatParts_ctx LL (bodyOf Try.f49) impl_countFlatParts_an ⟨mkE 25 0 [], []⟩ (Ret (tlook tys) Try.f49.results.toList r H') :=
  ret_of' (Link.cast (by kernel_rfl) (by kernel_rfl) (impl_countFlatParts_n9_l)) (by unfold impl_countFlatParts; kernel_rfl) (by
  intro t
  exact ret_mk [.agg [dI t.1, dI t.2.1, dI t.2.2.1, dI t.2.2.2.1, dI t.2.2.2.2.1, dI t.2.2.2.2.2.1, dI t.2.2.2.2.2.2.1, dI t.2.2.2.2.2.2.2.1, dI t.2.2.2.2.2.2.2.2.1, dI t.2.2.2.2.2.2.2.2.2.1, dI t.2.2.2.2.2.2.2.2.2.2.1, dI t.2.2.2.2.2.2.2.2.2.2.2.1, dI t.2.2.2.2.2.2.2.2.2.2.2.2.1, dI t.2.2.2.2.2.2.2.2.2.2.2.2.2]] (by kernel_rfl) (by kernel_rfl) (by kernel_rfl) (by kernel_rfl)) h

def F_impl_countFlatParts : Fun := fun avs H =>
  match avs, H with
  | [], [] => ⟨_, impl_countFlatParts, fun (t : Int × Int × Int × Int × Int × Int × Int × Int × Int × Int × Int × Int × Int × Int) => (.agg [dI t.1, dI t.2.1, dI t.2.2.1, dI t.2.2.2.1, dI t.2.2.2.2.1, dI t.2.2.2.2.2.1, dI t.2.2.2.2.2.2.1, dI t.2.2.2.2.2.2.2.1, dI t.2.2.2.2.2.2.2.2.1, dI t.2.2.2.2.2.2.2.2.2.1, dI t.2.2.2.2.2.2.2.2.2.2.1, dI t.2.2.2.2.2.2.2.2.2.2.2.1, dI t.2.2.2.2.2.2.2.2.2.2.2.2.1, dI t.2.2.2.2.2.2.2.2.2.2.2.2.2], [some (.box [dI t.1, dI t.2.1, dI t.2.2.1, dI t.2.2.2.1, dI t.2.2.2.2.1, dI t.2.2.2.2.2.1, dI t.2.2.2.2.2.2.1, dI t.2.2.2.2.2.2.2.1, dI t.2.2.2.2.2.2.2.2.1, dI t.2.2.2.2.2.2.2.2.2.1, dI t.2.2.2.2.2.2.2.2.2.2.1, dI t.2.2.2.2.2.2.2.2.2.2.2.1, dI t.2.2.2.2.2.2.2.2.2.2.2.2.1, dI t.2.2.2.2.2.2.2.2.2.2.2.2.2])]), [], none⟩
  | _, _ => Ans.no

theorem impl_countFlatParts_sound : Sound Try.prog 49 F_impl_countFlatParts := by
  refine fn_sound' (C := impl_countFlatParts_ctx) (c := bodyOf Try.f49) (cok_of tys_ok (allc impl_flatCounts_aroundRoots_sound (allc impl_joins_count_sound (allc impl_flatCounts_inRows_sound alln))) (allc Try.call66 (allc Try.call67 (allc Try.call68 alln))) (by kernel_rfl)) Try.func49 (by kernel_rfl) LL impl_countFlatParts_an ?_
  intro avs H r H' h
  unfold F_impl_countFlatParts at h
  split at h
  · refine Awp.cast ?_ ?_ ?_ (impl_countFlatParts_e h) <;> kernel_rfl
  · simp [Ans.no, Ans.run] at h


/-! loop.example/headtrees/impl.CountFlat -/

def impl_CountFlat_an : Ann := (.seq (.leaf [0]) (.seq (.seq (.leaf [0, 8]) (.cond (.seq (.leaf [2]) (.leaf [2])) (.leaf [0]))) (.seq (.leaf [2]) (.leaf [2]))))

noncomputable def impl_CountFlat_ctx : Ctx := ⟨tlook tys, olook [(49, F_impl_countFlatParts)], ioF, 0, false, []⟩

theorem impl_CountFlat_n1_l (x18988 : Int) : Link impl_CountFlat_ctx LL (bodyOf Try.f22) impl_CountFlat_an ⟨mkE 13 0 [(0, dI x18988)], []⟩ (impl_CountFlat_n1 x18988) (fun (t : Int) => (Exit.ret, ⟨mkE 13 0 [(2, dI t)], []⟩)) := by
  refine Link.of fun K h => ?_
  simp only [impl_CountFlat_n1, wpO_bind, wpO_cond, wpO_map, wpO_some] at h
  exact Awp.of (by kernel_rfl) h

theorem impl_CountFlat_e (x18988 : Int) {r : AV} {H' : Heap} (h : (Ans.mk _ (impl_CountFlat x18988) (fun (t : Int) => (dI t, [])) [] none).run = some (r, H')) : Awp impl_CountFlat_ctx LL (bodyOf Try.f22) impl_CountFlat_an ⟨mkE 13 0 [(0, dI x18988)], []⟩ (Ret (tlook tys) Try.f22.results.toList r H') :=
  ret_of' (impl_CountFlat_n1_l x18988) (by unfold impl_CountFlat; kernel_rfl) (by
  intro t
  exact ret_mk [dI t] (by kernel_rfl) (by kernel_rfl) (by kernel_rfl) (by kernel_rfl)) h

def F_impl_CountFlat : Fun := fun avs H =>
  match avs, H with
  | [.dat (.int .i64) x18988], [] => ⟨_, impl_CountFlat x18988, fun (t : Int) => (dI t, []), [], none⟩
  | _, _ => Ans.no

theorem impl_CountFlat_sound : Sound Try.prog 22 F_impl_CountFlat := by
  refine fn_sound' (C := impl_CountFlat_ctx) (c := bodyOf Try.f22) (cok_of tys_ok (allc impl_countFlatParts_sound alln) (allc Try.call49 alln) (by kernel_rfl)) Try.func22 (by kernel_rfl) LL impl_CountFlat_an ?_
  intro avs H r H' h
  unfold F_impl_CountFlat at h
  split at h
  · refine Awp.cast ?_ ?_ ?_ (impl_CountFlat_e _ h) <;> kernel_rfl
  · simp [Ans.no, Ans.run] at h


/-! (loop.example/headtrees/impl.joins).partsOf -/

def impl_joins_partsOf_an : Ann := (.seq (.leaf [1, 2, 3, 6, 7]) (.seq (.leaf [1, 2, 3, 6, 7, 8]) (.seq (.block (.loop (.seq (.seq (.leaf [1, 2, 3, 6, 7, 8, 16]) (.cond (.leaf [1, 2, 3, 6, 7, 8]) (.leaf [1, 2, 3, 6, 7, 8]))) (.block (.leaf [1, 2, 3, 6, 7, 8]))))) (.seq (.leaf [1, 2, 3, 6, 7, 8]) (.seq (.leaf [1, 2, 6, 7, 8, 9]) (.seq (.draw [] [0, 1, 2, 3, 4, 5, 6, 7, 8, 9, 10, 11, 12, 13] [] [6, 7]) (.leaf [6, 7])))))))

noncomputable def impl_joins_partsOf_ctx : Ctx := ⟨tlook tys, olook [(75, F_impl_joins_below)], ioF, 0, false, []⟩

theorem impl_joins_partsOf_n1_l (x19342 : Int) (x19343 : Int) (x19344 : Int) (x19345 : Int) (x19346 : Int) (x19347 : Int) (x19348 : Int) (x19349 : Int) (x19350 : Int) (x19351 : Int) (x19352 : Int) (x19353 : Int) (x19354 : Int) (x19355 : Int) (x19356 : Int) (x19357 : Int) : Link impl_joins_partsOf_ctx LL (Code.seq (cq [0] (bodyOf Try.f69)) (cq [0,1] (bodyOf Try.f69))) (Ann.seq (aq [0] impl_joins_partsOf_an) (aq [0,1] impl_joins_partsOf_an)) ⟨mkE 43 0 [(0, .agg [dI x19342, dI x19343, dI x19344, dI x19345, dI x19346, dI x19347, dI x19348, dI x19349, dI x19350, dI x19351, dI x19352, dI x19353, dI x19354, dI x19355]), (1, dI x19356), (2, dI x19357)], []⟩ (impl_joins_partsOf_n1) (fun (t : Unit) => (Exit.normal, ⟨mkE 43 0 [(1, dI x19356), (2, dI x19357), (3, .ptr 0 0), (6, .ptr 1 0), (7, .ptr 2 0), (8, dI 0)], [some (.box [dI x19342, dI x19343, dI x19344, dI x19345, dI x19346, dI x19347, dI x19348, dI x19349, dI x19350, dI x19351, dI x19352, dI x19353, dI x19354, dI x19355]), some (.box [dI 0, dI 0]), some (.box [dI 0, dI 0])]⟩)) := by
  refine Link.of fun K h => ?_
  simp only [impl_joins_partsOf_n1, wpO_bind, wpO_cond, wpO_map, wpO_some] at h
  exact Awp.of (by kernel_rfl) h

theorem impl_joins_partsOf_n2_l (x19356 : Int) (x19357 : Int) (x19365 : Int) (x19342 : Int) (x19343 : Int) (x19344 : Int) (x19345 : Int) (x19346 : Int) (x19347 : Int) (x19348 : Int) (x19349 : Int) (x19350 : Int) (x19351 : Int) (x19352 : Int) (x19353 : Int) (x19354 : Int) (x19355 : Int) : Link impl_joins_partsOf_ctx LL (cq [0,0,0,1,1] (bodyOf Try.f69)) (aq [0,0,0,1,1] impl_joins_partsOf_an) ⟨mkE 43 0 [(1, dI x19356), (2, dI x19357), (3, .ptr 0 0), (6, .ptr 1 0), (7, .ptr 2 0), (8, dI x19365)], [some (.box [dI x19342, dI x19343, dI x19344, dI x19345, dI x19346, dI x19347, dI x19348, dI x19349, dI x19350, dI x19351, dI x19352, dI x19353, dI x19354, dI x19355]), some (.box [dI 0, dI 0]), some (.box [dI 0, dI 0])]⟩ (impl_joins_partsOf_n2 x19356 x19357 x19365 x19342 x19343 x19344 x19345 x19346 x19347 x19348 x19349 x19350 x19351 x19352 x19353 x19354 x19355) (Sum.elim (fun (t : Int) => (Exit.normal, ⟨mkE 43 0 [(1, dI x19356), (2, dI x19357), (3, .ptr 0 0), (6, .ptr 1 0), (7, .ptr 2 0), (8, dI t)], [some (.box [dI x19342, dI x19343, dI x19344, dI x19345, dI x19346, dI x19347, dI x19348, dI x19349, dI x19350, dI x19351, dI x19352, dI x19353, dI x19354, dI x19355]), some (.box [dI 0, dI 0]), some (.box [dI 0, dI 0])]⟩)) (fun (t : Int) => ((Exit.exit 0), ⟨mkE 43 0 [(1, dI x19356), (2, dI x19357), (3, .ptr 0 0), (6, .ptr 1 0), (7, .ptr 2 0), (8, dI t)], [some (.box [dI x19342, dI x19343, dI x19344, dI x19345, dI x19346, dI x19347, dI x19348, dI x19349, dI x19350, dI x19351, dI x19352, dI x19353, dI x19354, dI x19355]), some (.box [dI 0, dI 0]), some (.box [dI 0, dI 0])]⟩))) := by
  refine Link.of fun K h => ?_
  simp only [impl_joins_partsOf_n2, wpO_bind, wpO_cond, wpO_map, wpO_some] at h
  exact Awp.of (by kernel_rfl) h

def impl_joins_partsOf_n3_l (x19356 : Int) (x19357 : Int) (x19342 : Int) (x19343 : Int) (x19344 : Int) (x19345 : Int) (x19346 : Int) (x19347 : Int) (x19348 : Int) (x19349 : Int) (x19350 : Int) (x19351 : Int) (x19352 : Int) (x19353 : Int) (x19354 : Int) (x19355 : Int) := (link_loop (mk := fun (s : Int) => ⟨mkE 43 0 [(1, dI x19356), (2, dI x19357), (3, .ptr 0 0), (6, .ptr 1 0), (7, .ptr 2 0), (8, dI s)], [some (.box [dI x19342, dI x19343, dI x19344, dI x19345, dI x19346, dI x19347, dI x19348, dI x19349, dI x19350, dI x19351, dI x19352, dI x19353, dI x19354, dI x19355]), some (.box [dI 0, dI 0]), some (.box [dI 0, dI 0])]⟩) (fin := (fun (t : Int) => ((Exit.exit 0), ⟨mkE 43 0 [(1, dI x19356), (2, dI x19357), (3, .ptr 0 0), (6, .ptr 1 0), (7, .ptr 2 0), (8, dI t)], [some (.box [dI x19342, dI x19343, dI x19344, dI x19345, dI x19346, dI x19347, dI x19348, dI x19349, dI x19350, dI x19351, dI x19352, dI x19353, dI x19354, dI x19355]), some (.box [dI 0, dI 0]), some (.box [dI 0, dI 0])]⟩))) (by
  rintro t f K h
  · exact h) (fun s => link_map (impl_joins_partsOf_n2_l x19356 x19357 s x19342 x19343 x19344 x19345 x19346 x19347 x19348 x19349 x19350 x19351 x19352 x19353 x19354 x19355) (Sum.elim (fun (t : Int) => Sum.inl t) (fun (t : Int) => Sum.inr t)) (by
  rintro (t | t)
  · kernel_rfl
  · kernel_rfl)) 0)

def impl_joins_partsOf_n4_l (x19356 : Int) (x19357 : Int) (x19342 : Int) (x19343 : Int) (x19344 : Int) (x19345 : Int) (x19346 : Int) (x19347 : Int) (x19348 : Int) (x19349 : Int) (x19350 : Int) (x19351 : Int) (x19352 : Int) (x19353 : Int) (x19354 : Int) (x19355 : Int) := (link_block (fin2 := (fun (t : Int) => (Exit.normal, ⟨mkE 43 0 [(1, dI x19356), (2, dI x19357), (3, .ptr 0 0), (6, .ptr 1 0), (7, .ptr 2 0), (8, dI t)], [some (.box [dI x19342, dI x19343, dI x19344, dI x19345, dI x19346, dI x19347, dI x19348, dI x19349, dI x19350, dI x19351, dI x19352, dI x19353, dI x19354, dI x19355]), some (.box [dI 0, dI 0]), some (.box [dI 0, dI 0])]⟩))) (id := 0) (impl_joins_partsOf_n3_l x19356 x19357 x19342 x19343 x19344 x19345 x19346 x19347 x19348 x19349 x19350 x19351 x19352 x19353 x19354 x19355) (fun (t : Int) => t) (by
  rintro t K h
  · exact Eq.mp (by kernel_rfl) h))

theorem impl_joins_partsOf_n5_l (x19356 : Int) (x19357 : Int) (x19365 : Int) (x19342 : Int) (x19343 : Int) (x19344 : Int) (x19345 : Int) (x19346 : Int) (x19347 : Int) (x19348 : Int) (x19349 : Int) (x19350 : Int) (x19351 : Int) (x19352 : Int) (x19353 : Int) (x19354 : Int) (x19355 : Int) : Link impl_joins_partsOf_ctx LL (cq [1,1,1] (bodyOf Try.f69)) (aq [1,1,1] impl_joins_partsOf_an) ⟨mkE 43 0 [(1, dI x19356), (2, dI x19357), (3, .ptr 0 0), (6, .ptr 1 0), (7, .ptr 2 0), (8, dI x19365)], [some (.box [dI x19342, dI x19343, dI x19344, dI x19345, dI x19346, dI x19347, dI x19348, dI x19349, dI x19350, dI x19351, dI x19352, dI x19353, dI x19354, dI x19355]), some (.box [dI 0, dI 0]), some (.box [dI 0, dI 0])]⟩ (impl_joins_partsOf_n5 x19356 x19357 x19365 x19342 x19343 x19344 x19345 x19346 x19347 x19348 x19349 x19350 x19351 x19352 x19353 x19354 x19355) (fun (t : Int × Int × Int × Int) => (Exit.ret, ⟨mkE 43 0 [(6, .ptr 0 0), (7, .ptr 1 0)], [some (.box [dI t.1, dI t.2.1]), some (.box [dI t.2.2.1, dI t.2.2.2])]⟩)) := by
  refine Link.of fun K h => ?_
  simp only [impl_joins_partsOf_n5, wpO_bind, wpO_cond, wpO_map, wpO_some] at h
  exact Awp.of (by kernel_rfl) h

def impl_joins_partsOf_n6_l (x19356 : Int) (x19357 : Int) (x19342 : Int) (x19343 : Int) (x19344 : Int) (x19345 : Int) (x19346 : Int) (x19347 : Int) (x19348 : Int) (x19349 : Int) (x19350 : Int) (x19351 : Int) (x19352 : Int) (x19353 : Int) (x19354 : Int) (x19355 : Int) := (link_seq (impl_joins_partsOf_n4_l x19356 x19357 x19342 x19343 x19344 x19345 x19346 x19347 x19348 x19349 x19350 x19351 x19352 x19353 x19354 x19355) (fun (t : Int) => (impl_joins_partsOf_n5_l x19356 x19357 t x19342 x19343 x19344 x19345 x19346 x19347 x19348 x19349 x19350 x19351 x19352 x19353 x19354 x19355)))

def impl_joins_partsOf_n7_l (x19342 : Int) (x19343 : Int) (x19344 : Int) (x19345 : Int) (x19346 : Int) (x19347 : Int) (x19348 : Int) (x19349 : Int) (x19350 : Int) (x19351 : Int) (x19352 : Int) (x19353 : Int) (x19354 : Int) (x19355 : Int) (x19356 : Int) (x19357 : Int) := (link_group (c := (cq [0,1] (bodyOf Try.f69))) (a := (aq [0,1] impl_joins_partsOf_an)) [(cq [0] (bodyOf Try.f69))] [(aq [0] impl_joins_partsOf_an)] rfl (link_seq (impl_joins_partsOf_n1_l x19342 x19343 x19344 x19345 x19346 x19347 x19348 x19349 x19350 x19351 x19352 x19353 x19354 x19355 x19356 x19357) (fun (t : Unit) => (impl_joins_partsOf_n6_l x19356 x19357 x19342 x19343 x19344 x19345 x19346 x19347 x19348 x19349 x19350 x19351 x19352 x19353 x19354 x19355))))

theorem impl_joins_partsOf_e (x19342 : Int) (x19343 : Int) (x19344 : Int) (x19345 : Int) (x19346 : Int) (x19347 : Int) (x19348 : Int) (x19349 : Int) (x19350 : Int) (x19351 : Int) (x19352 : Int) (x19353 : Int) (x19354 : Int) (x19355 : Int) (x19356 : Int) (x19357 : Int) {r : AV} {H' : Heap} (h : (Ans.mk _ (impl_joins_partsOf x19342 x19343 x19344 x19345 x19346 x19347 x19348 x19349 x19350 x19351 x19352 x19353 x19354 x19355 x19356 x19357) (fun (t : Int × Int × Int × Int) => (.tup [.agg [dI t.1, dI t.2.1], .agg [dI t.2.2.1, dI t.2.2.2]], [some (.box [dI t.1, dI t.2.1]), some (.box [dI t.2.2.1, dI t.2.2.2])])) [] none).run = some (r, H')) : Awp impl_joins_partsOf_ctx LL (bodyOf Try.f69) impl_joins_partsOf_an ⟨mkE 43 0 [(0, .agg [dI x19342, dI x19343, dI x19344, dI x19345, dI x19346, dI x19347, dI x19348, dI x19349, dI x19350, dI x19351, dI x19352, dI x19353, dI x19354, dI x19355]), (1, dI x19356), (2, dI x19357)], []⟩ (Ret (tlook tys) Try.f69.results.toList r H') :=
  ret_of' (Link.cast (by kernel_rfl) (by kernel_rfl) (impl_joins_partsOf_n7_l x19342 x19343 x19344 x19345 x19346 x19347 x19348 x19349 x19350 x19351 x19352 x19353 x19354 x19355 x19356 x19357)) (by unfold impl_joins_partsOf; kernel_rfl) (by
  intro t
  exact ret_mk [.agg [dI t.1, dI t.2.1], .agg [dI t.2.2.1, dI t.2.2.2]] (by kernel_rfl) (by kernel_rfl) (by kernel_rfl) (by kernel_rfl)) h

def F_impl_joins_partsOf : Fun := fun avs H =>
  match avs, H with
  | [.agg [.dat (.int .i64) x19342, .dat (.int .i64) x19343, .dat (.int .i64) x19344, .dat (.int .i64) x19345, .dat (.int .i64) x19346, .dat (.int .i64) x19347, .dat (.int .i64) x19348, .dat (.int .i64) x19349, .dat (.int .i64) x19350, .dat (.int .i64) x19351, .dat (.int .i64) x19352, .dat (.int .i64) x19353, .dat (.int .i64) x19354, .dat (.int .i64) x19355], .dat (.int .i64) x19356, .dat (.int .i64) x19357], [] => ⟨_, impl_joins_partsOf x19342 x19343 x19344 x19345 x19346 x19347 x19348 x19349 x19350 x19351 x19352 x19353 x19354 x19355 x19356 x19357, fun (t : Int × Int × Int × Int) => (.tup [.agg [dI t.1, dI t.2.1], .agg [dI t.2.2.1, dI t.2.2.2]], [some (.box [dI t.1, dI t.2.1]), some (.box [dI t.2.2.1, dI t.2.2.2])]), [], none⟩
  | _, _ => Ans.no

theorem impl_joins_partsOf_sound : Sound Try.prog 69 F_impl_joins_partsOf := by
  refine fn_sound' (C := impl_joins_partsOf_ctx) (c := bodyOf Try.f69) (cok_of tys_ok (allc impl_joins_below_sound alln) (allc Try.call75 alln) (by kernel_rfl)) Try.func69 (by kernel_rfl) LL impl_joins_partsOf_an ?_
  intro avs H r H' h
  unfold F_impl_joins_partsOf at h
  split at h
  · refine Awp.cast ?_ ?_ ?_ (impl_joins_partsOf_e _ _ _ _ _ _ _ _ _ _ _ _ _ _ _ _ h) <;> kernel_rfl
  · simp [Ans.no, Ans.run] at h


/-! (loop.example/headtrees/impl.flatCounts).tellTree, (loop.example/headtrees/impl.flatCounts).tellRow -/

def impl_flatCounts_tellTree_an : Ann := (.seq (.leaf [1, 2, 4, 5, 8]) (.seq (.draw [1, 7] [0, 2, 3, 4, 5, 6, 1, 7, 8, 9, 10, 11, 12, 13, 14] [] [1, 2, 4, 5, 10, 11]) (.seq (.leaf [1, 2, 4, 5, 10, 11, 12]) (.seq (.leaf [1, 2, 5, 10, 11, 12]) (.seq (.leaf [1, 5, 11, 12]) (.leaf []))))))

def impl_flatCounts_tellRow_an : Ann := (.seq (.leaf [1, 2, 4, 5, 8]) (.seq (.seq (.leaf [1, 2, 4, 5, 8, 14]) (.cond (.leaf []) (.leaf [1, 2, 4, 5, 8]))) (.seq (.draw [1, 6] [0, 2, 3, 4, 5, 1, 6, 7, 8, 9, 10, 11, 12, 13] [] [1, 2, 4, 5, 10, 11]) (.seq (.leaf [1, 2, 4, 5, 10, 11]) (.leaf [])))))

def F_impl_flatCounts_tellTree_fuel (n : Nat) : Fun := fun avs H =>
  match avs, H with
  | [.agg [.dat (.int .i64) x19321, .dat (.int .i64) x19322, .dat (.int .i64) x19323, .dat (.int .i64) x19324, .dat (.int .i64) x19325, .dat (.int .i64) x19326, .dat (.int .i64) x19327, .dat (.int .i64) x19328, .dat (.int .i64) x19329, .dat (.int .i64) x19330, .dat (.int .i64) x19331, .dat (.int .i64) x19332, .dat (.int .i64) x19333, .dat (.int .i64) x19334], .slc 0, .dat (.int .i64) x19335, .agg [.dat (.int .i64) x19336, .dat (.int .i64) x19337], .dat (.int .i64) x19338], [some (.seq (.int .i64) x19339)] => ⟨_, impl_flatCounts_tellTree_fuel n x19321 x19322 x19323 x19324 x19325 x19326 x19327 x19328 x19329 x19330 x19331 x19332 x19333 x19334 x19335 x19336 x19337 x19338 x19339, fun (t : (List Int)) => (.tup [], [some (sI t)]), [], none⟩
  | _, _ => Ans.no

def F_impl_flatCounts_tellRow_fuel (n : Nat) : Fun := fun avs H =>
  match avs, H with
  | [.agg [.dat (.int .i64) x19532, .dat (.int .i64) x19533, .dat (.int .i64) x19534, .dat (.int .i64) x19535, .dat (.int .i64) x19536, .dat (.int .i64) x19537, .dat (.int .i64) x19538, .dat (.int .i64) x19539, .dat (.int .i64) x19540, .dat (.int .i64) x19541, .dat (.int .i64) x19542, .dat (.int .i64) x19543, .dat (.int .i64) x19544, .dat (.int .i64) x19545], .slc 0, .dat (.int .i64) x19546, .agg [.dat (.int .i64) x19547, .dat (.int .i64) x19548], .dat (.int .i64) x19549], [some (.seq (.int .i64) x19550)] => ⟨_, impl_flatCounts_tellRow_fuel n x19532 x19533 x19534 x19535 x19536 x19537 x19538 x19539 x19540 x19541 x19542 x19543 x19544 x19545 x19546 x19547 x19548 x19549 x19550, fun (t : (List Int)) => (.tup [], [some (sI t)]), [], none⟩
  | _, _ => Ans.no

noncomputable def impl_flatCounts_tellTree_ctx (n : Nat) : Ctx := ⟨tlook tys, olook [(66, F_impl_flatCounts_aroundRoots), (69, F_impl_joins_partsOf), (70, F_impl_flatCounts_tellRow_fuel n)], ioF, 1, false, []⟩

noncomputable def impl_flatCounts_tellRow_ctx (n : Nat) : Ctx := ⟨tlook tys, olook [(68, F_impl_flatCounts_inRows), (69, F_impl_joins_partsOf), (50, F_impl_flatCounts_tellTree_fuel n), (70, F_impl_flatCounts_tellRow_fuel n)], ioF, 1, false, []⟩

theorem impl_flatCounts_tellTree_n1_l (n : Nat) (x19321 : Int) (x19322 : Int) (x19323 : Int) (x19324 : Int) (x19325 : Int) (x19326 : Int) (x19327 : Int) (x19328 : Int) (x19329 : Int) (x19330 : Int) (x19331 : Int) (x19332 : Int) (x19333 : Int) (x19334 : Int) (x19335 : Int) (x19336 : Int) (x19337 : Int) (x19338 : Int) (x19339 : List Int) : Link (impl_flatCounts_tellTree_ctx n) LL (bodyOf Try.f50) impl_flatCounts_tellTree_an ⟨mkE 46 0 [(0, .agg [dI x19321, dI x19322, dI x19323, dI x19324, dI x19325, dI x19326, dI x19327, dI x19328, dI x19329, dI x19330, dI x19331, dI x19332, dI x19333, dI x19334]), (1, .slc 0), (2, dI x19335), (3, .agg [dI x19336, dI x19337]), (4, dI x19338)], [some (sI x19339)]⟩ (impl_flatCounts_tellTree_n1 (impl_flatCounts_tellTree_fuel n) (impl_flatCounts_tellRow_fuel n) x19321 x19322 x19323 x19324 x19325 x19326 x19327 x19328 x19329 x19330 x19331 x19332 x19333 x19334 x19335 x19336 x19337 x19338 x19339) (fun (t : (List Int)) => (Exit.normal, ⟨mkE 46 0 [], [some (sI t)]⟩)) := by
  refine Link.of fun K h => ?_
  simp only [impl_flatCounts_tellTree_n1, wpO_bind, wpO_cond, wpO_map, wpO_some] at h
  exact Awp.of (by kernel_rfl) h

theorem impl_flatCounts_tellTree_e (n : Nat) (x19321 : Int) (x19322 : Int) (x19323 : Int) (x19324 : Int) (x19325 : Int) (x19326 : Int) (x19327 : Int) (x19328 : Int) (x19329 : Int) (x19330 : Int) (x19331 : Int) (x19332 : Int) (x19333 : Int) (x19334 : Int) (x19335 : Int) (x19336 : Int) (x19337 : Int) (x19338 : Int) (x19339 : List Int) {r : AV} {H' : Heap} (h : (Ans.mk _ (impl_flatCounts_tellTree_fuel (n + 1) x19321 x19322 x19323 x19324 x19325 x19326 x19327 x19328 x19329 x19330 x19331 x19332 x19333 x19334 x19335 x19336 x19337 x19338 x19339) (fun (t : (List Int)) => (.tup [], [some (sI t)])) [] none).run = some (r, H')) : Awp (impl_flatCounts_tellTree_ctx n) LL (bodyOf Try.f50) impl_flatCounts_tellTree_an ⟨mkE 46 0 [(0, .agg [dI x19321, dI x19322, dI x19323, dI x19324, dI x19325, dI x19326, dI x19327, dI x19328, dI x19329, dI x19330, dI x19331, dI x19332, dI x19333, dI x19334]), (1, .slc 0), (2, dI x19335), (3, .agg [dI x19336, dI x19337]), (4, dI x19338)], [some (sI x19339)]⟩ (Ret (tlook tys) Try.f50.results.toList r H') :=
  ret_of (impl_flatCounts_tellTree_n1_l n x19321 x19322 x19323 x19324 x19325 x19326 x19327 x19328 x19329 x19330 x19331 x19332 x19333 x19334 x19335 x19336 x19337 x19338 x19339) (fun (t : (List Int)) => t) (by (show _ = _); kernel_rfl) (by
  rintro t
  · exact ret_mk [] (by kernel_rfl) (by kernel_rfl) (by kernel_rfl) (by kernel_rfl)) h

theorem impl_flatCounts_tellRow_n1_l (n : Nat) (x19532 : Int) (x19533 : Int) (x19534 : Int) (x19535 : Int) (x19536 : Int) (x19537 : Int) (x19538 : Int) (x19539 : Int) (x19540 : Int) (x19541 : Int) (x19542 : Int) (x19543 : Int) (x19544 : Int) (x19545 : Int) (x19546 : Int) (x19547 : Int) (x19548 : Int) (x19549 : Int) (x19550 : List Int) : Link (impl_flatCounts_tellRow_ctx n) LL (bodyOf Try.f70) impl_flatCounts_tellRow_an ⟨mkE 40 0 [(0, .agg [dI x19532, dI x19533, dI x19534, dI x19535, dI x19536, dI x19537, dI x19538, dI x19539, dI x19540, dI x19541, dI x19542, dI x19543, dI x19544, dI x19545]), (1, .slc 0), (2, dI x19546), (3, .agg [dI x19547, dI x19548]), (4, dI x19549)], [some (sI x19550)]⟩ (impl_flatCounts_tellRow_n1 (impl_flatCounts_tellTree_fuel n) (impl_flatCounts_tellRow_fuel n) x19532 x19533 x19534 x19535 x19536 x19537 x19538 x19539 x19540 x19541 x19542 x19543 x19544 x19545 x19546 x19547 x19548 x19549 x19550) (Sum.elim (fun (t : (List Int)) => (Exit.normal, ⟨mkE 40 0 [], [some (sI t)]⟩)) (fun (t : (List Int)) => (Exit.ret, ⟨mkE 40 0 [], [some (sI t)]⟩))) := by
  refine Link.of fun K h => ?_
  simp only [impl_flatCounts_tellRow_n1, wpO_bind, wpO_cond, wpO_map, wpO_some] at h
  exact Awp.of (by kernel_rfl) h

theorem impl_flatCounts_tellRow_e (n : Nat) (x19532 : Int) (x19533 : Int) (x19534 : Int) (x19535 : Int) (x19536 : Int) (x19537 : Int) (x19538 : Int) (x19539 : Int) (x19540 : Int) (x19541 : Int) (x19542 : Int) (x19543 : Int) (x19544 : Int) (x19545 : Int) (x19546 : Int) (x19547 : Int) (x19548 : Int) (x19549 : Int) (x19550 : List Int) {r : AV} {H' : Heap} (h : (Ans.mk _ (impl_flatCounts_tellRow_fuel (n + 1) x19532 x19533 x19534 x19535 x19536 x19537 x19538 x19539 x19540 x19541 x19542 x19543 x19544 x19545 x19546 x19547 x19548 x19549 x19550) (fun (t : (List Int)) => (.tup [], [some (sI t)])) [] none).run = some (r, H')) : Awp (impl_flatCounts_tellRow_ctx n) LL (bodyOf Try.f70) impl_flatCounts_tellRow_an ⟨mkE 40 0 [(0, .agg [dI x19532, dI x19533, dI x19534, dI x19535, dI x19536, dI x19537, dI x19538, dI x19539, dI x19540, dI x19541, dI x19542, dI x19543, dI x19544, dI x19545]), (1, .slc 0), (2, dI x19546), (3, .agg [dI x19547, dI x19548]), (4, dI x19549)], [some (sI x19550)]⟩ (Ret (tlook tys) Try.f70.results.toList r H') :=
  ret_of (impl_flatCounts_tellRow_n1_l n x19532 x19533 x19534 x19535 x19536 x19537 x19538 x19539 x19540 x19541 x19542 x19543 x19544 x19545 x19546 x19547 x19548 x19549 x19550) (Sum.elim (fun (t : (List Int)) => t) (fun (t : (List Int)) => t)) (by (show _ = _); kernel_rfl) (by
  rintro (t | t)
  · exact ret_mk [] (by kernel_rfl) (by kernel_rfl) (by kernel_rfl) (by kernel_rfl)
  · exact ret_mk [] (by kernel_rfl) (by kernel_rfl) (by kernel_rfl) (by kernel_rfl)) h

theorem impl_flatCounts_tellTree_step (n : Nat) (h50 : Sound Try.prog 50 (F_impl_flatCounts_tellTree_fuel n)) (h70 : Sound Try.prog 70 (F_impl_flatCounts_tellRow_fuel n)) : Sound Try.prog 50 (F_impl_flatCounts_tellTree_fuel (n + 1)) := by
  refine fn_sound' (C := impl_flatCounts_tellTree_ctx n) (c := bodyOf Try.f50) (cok_of tys_ok (allc impl_flatCounts_aroundRoots_sound (allc impl_joins_partsOf_sound (allc h70 alln))) (allc Try.call66 (allc Try.call69 (allc Try.call70 alln))) (by kernel_rfl)) Try.func50 (by kernel_rfl) LL impl_flatCounts_tellTree_an ?_
  intro avs H r H' h
  unfold F_impl_flatCounts_tellTree_fuel at h
  split at h
  · refine Awp.cast ?_ ?_ ?_ (impl_flatCounts_tellTree_e n _ _ _ _ _ _ _ _ _ _ _ _ _ _ _ _ _ _ _ h) <;> kernel_rfl
  · simp [Ans.no, Ans.run] at h

theorem impl_flatCounts_tellTree_null : Sound Try.prog 50 (F_impl_flatCounts_tellTree_fuel 0) := by
  intro avs H r H' h
  unfold F_impl_flatCounts_tellTree_fuel at h
  split at h
  · simp [impl_flatCounts_tellTree_fuel, impl_flatCounts_tellTree_knot, Ans.run] at h
  · simp [Ans.no, Ans.run] at h

theorem impl_flatCounts_tellRow_step (n : Nat) (h50 : Sound Try.prog 50 (F_impl_flatCounts_tellTree_fuel n)) (h70 : Sound Try.prog 70 (F_impl_flatCounts_tellRow_fuel n)) : Sound Try.prog 70 (F_impl_flatCounts_tellRow_fuel (n + 1)) := by
  refine fn_sound' (C := impl_flatCounts_tellRow_ctx n) (c := bodyOf Try.f70) (cok_of tys_ok (allc impl_flatCounts_inRows_sound (allc impl_joins_partsOf_sound (allc h50 (allc h70 alln)))) (allc Try.call68 (allc Try.call69 (allc Try.call50 (allc Try.call70 alln)))) (by kernel_rfl)) Try.func70 (by kernel_rfl) LL impl_flatCounts_tellRow_an ?_
  intro avs H r H' h
  unfold F_impl_flatCounts_tellRow_fuel at h
  split at h
  · refine Awp.cast ?_ ?_ ?_ (impl_flatCounts_tellRow_e n _ _ _ _ _ _ _ _ _ _ _ _ _ _ _ _ _ _ _ h) <;> kernel_rfl
  · simp [Ans.no, Ans.run] at h

theorem impl_flatCounts_tellRow_null : Sound Try.prog 70 (F_impl_flatCounts_tellRow_fuel 0) := by
  intro avs H r H' h
  unfold F_impl_flatCounts_tellRow_fuel at h
  split at h
  · simp [impl_flatCounts_tellRow_fuel, impl_flatCounts_tellTree_knot, Ans.run] at h
  · simp [Ans.no, Ans.run] at h

theorem impl_flatCounts_tellTree_knot_all : ∀ n, Sound Try.prog 50 (F_impl_flatCounts_tellTree_fuel n) ∧ Sound Try.prog 70 (F_impl_flatCounts_tellRow_fuel n)
  | 0 => ⟨impl_flatCounts_tellTree_null, impl_flatCounts_tellRow_null⟩
  | n + 1 => by
    obtain ⟨h50, h70⟩ := impl_flatCounts_tellTree_knot_all n
    exact ⟨impl_flatCounts_tellTree_step n h50 h70, impl_flatCounts_tellRow_step n h50 h70⟩

def F_impl_flatCounts_tellTree : Fun := fun avs H =>
  match avs, H with
  | [.agg [.dat (.int .i64) x19321, .dat (.int .i64) x19322, .dat (.int .i64) x19323, .dat (.int .i64) x19324, .dat (.int .i64) x19325, .dat (.int .i64) x19326, .dat (.int .i64) x19327, .dat (.int .i64) x19328, .dat (.int .i64) x19329, .dat (.int .i64) x19330, .dat (.int .i64) x19331, .dat (.int .i64) x19332, .dat (.int .i64) x19333, .dat (.int .i64) x19334], .slc 0, .dat (.int .i64) x19335, .agg [.dat (.int .i64) x19336, .dat (.int .i64) x19337], .dat (.int .i64) x19338], [some (.seq (.int .i64) x19339)] => ⟨_, impl_flatCounts_tellTree x19321 x19322 x19323 x19324 x19325 x19326 x19327 x19328 x19329 x19330 x19331 x19332 x19333 x19334 x19335 x19336 x19337 x19338 x19339, fun (t : (List Int)) => (.tup [], [some (sI t)]), [], none⟩
  | _, _ => Ans.no

theorem impl_flatCounts_tellTree_sound : Sound Try.prog 50 F_impl_flatCounts_tellTree := by
  have e : F_impl_flatCounts_tellTree = F_impl_flatCounts_tellTree_fuel RR := by
    funext avs H
    unfold F_impl_flatCounts_tellTree F_impl_flatCounts_tellTree_fuel
    split <;> first | rfl | (simp only [impl_flatCounts_tellTree])
  rw [e]
  exact (impl_flatCounts_tellTree_knot_all RR).1

def F_impl_flatCounts_tellRow : Fun := fun avs H =>
  match avs, H with
  | [.agg [.dat (.int .i64) x19532, .dat (.int .i64) x19533, .dat (.int .i64) x19534, .dat (.int .i64) x19535, .dat (.int .i64) x19536, .dat (.int .i64) x19537, .dat (.int .i64) x19538, .dat (.int .i64) x19539, .dat (.int .i64) x19540, .dat (.int .i64) x19541, .dat (.int .i64) x19542, .dat (.int .i64) x19543, .dat (.int .i64) x19544, .dat (.int .i64) x19545], .slc 0, .dat (.int .i64) x19546, .agg [.dat (.int .i64) x19547, .dat (.int .i64) x19548], .dat (.int .i64) x19549], [some (.seq (.int .i64) x19550)] => ⟨_, impl_flatCounts_tellRow x19532 x19533 x19534 x19535 x19536 x19537 x19538 x19539 x19540 x19541 x19542 x19543 x19544 x19545 x19546 x19547 x19548 x19549 x19550, fun (t : (List Int)) => (.tup [], [some (sI t)]), [], none⟩
  | _, _ => Ans.no

theorem impl_flatCounts_tellRow_sound : Sound Try.prog 70 F_impl_flatCounts_tellRow := by
  have e : F_impl_flatCounts_tellRow = F_impl_flatCounts_tellRow_fuel RR := by
    funext avs H
    unfold F_impl_flatCounts_tellRow F_impl_flatCounts_tellRow_fuel
    split <;> first | rfl | (simp only [impl_flatCounts_tellRow])
  rw [e]
  exact (impl_flatCounts_tellTree_knot_all RR).2


/-! loop.example/headtrees/impl.FlatAt -/

def impl_FlatAt_an : Ann := (.seq (.leaf [0, 1]) (.seq (.seq (.leaf [0, 1, 14]) (.cond (.seq (.leaf [4, 5]) (.leaf [4, 5])) (.leaf [0, 1]))) (.seq (.leaf [0, 1, 6]) (.seq (.leaf [6]) (.seq (.leaf [4, 5]) (.leaf [4, 5]))))))

noncomputable def impl_FlatAt_ctx : Ctx := ⟨tlook tys, olook [(22, F_impl_CountFlat), (49, F_impl_countFlatParts), (50, F_impl_flatCounts_tellTree)], ioF, 0, false, []⟩

theorem impl_FlatAt_n1_l (x19291 : Int) (x19292 : Int) : Link impl_FlatAt_ctx LL (bodyOf Try.f23) impl_FlatAt_an ⟨mkE 24 0 [(0, dI x19291), (1, dI x19292)], []⟩ (impl_FlatAt_n1 x19291 x19292) (fun (t : Bool × (List Int)) => (Exit.ret, ⟨mkE 24 0 [(4, .slc 0), (5, dB t.1)], [some (sI t.2)]⟩)) := by
  refine Link.of fun K h => ?_
  simp only [impl_FlatAt_n1, wpO_bind, wpO_cond, wpO_map, wpO_some] at h
  exact Awp.of (by kernel_rfl) h

theorem impl_FlatAt_e (x19291 : Int) (x19292 : Int) {r : AV} {H' : Heap} (h : (Ans.mk _ (impl_FlatAt x19291 x19292) (fun (t : Bool × (List Int)) => (.tup [.slc 0, dB t.1], [some (sI t.2)])) [] none).run = some (r, H')) : Awp impl_FlatAt_ctx LL (bodyOf Try.f23) impl_FlatAt_an ⟨mkE 24 0 [(0, dI x19291), (1, dI x19292)], []⟩ (Ret (tlook tys) Try.f23.results.toList r H') :=
  ret_of' (impl_FlatAt_n1_l x19291 x19292) (by unfold impl_FlatAt; kernel_rfl) (by
  intro t
  exact ret_mk [.slc 0, dB t.1] (by kernel_rfl) (by kernel_rfl) (by kernel_rfl) (by kernel_rfl)) h

def F_impl_FlatAt : Fun := fun avs H =>
  match avs, H with
  | [.dat (.int .i64) x19291, .dat (.int .i64) x19292], [] => ⟨_, impl_FlatAt x19291 x19292, fun (t : Bool × (List Int)) => (.tup [.slc 0, dB t.1], [some (sI t.2)]), [], none⟩
  | _, _ => Ans.no

theorem impl_FlatAt_sound : Sound Try.prog 23 F_impl_FlatAt := by
  refine fn_sound' (C := impl_FlatAt_ctx) (c := bodyOf Try.f23) (cok_of tys_ok (allc impl_CountFlat_sound (allc impl_countFlatParts_sound (allc impl_flatCounts_tellTree_sound alln))) (allc Try.call22 (allc Try.call49 (allc Try.call50 alln))) (by kernel_rfl)) Try.func23 (by kernel_rfl) LL impl_FlatAt_an ?_
  intro avs H r H' h
  unfold F_impl_FlatAt at h
  split at h
  · refine Awp.cast ?_ ?_ ?_ (impl_FlatAt_e _ _ h) <;> kernel_rfl
  · simp [Ans.no, Ans.run] at h


/-! loop.example/headtrees/impl.ScoreOf -/

def impl_ScoreOf_an : Ann := (.seq (.leaf [0, 1]) (.seq (.seq (.leaf [0, 1, 22]) (.cond (.seq (.leaf [4]) (.leaf [4])) (.leaf [0, 1]))) (.seq (.leaf [0, 1, 5]) (.seq (.seq (.leaf [0, 5, 23, 24, 25]) (.block (.loop (.seq (.leaf [0, 5, 23, 24, 25, 26]) (.seq (.cond (.leaf [0, 5, 23, 24, 25]) (.leaf [5])) (.seq (.block (.seq (.leaf [0, 5, 6, 7, 23, 24, 25]) (.leaf [0, 5, 23, 24, 25]))) (.leaf [0, 5, 23, 24, 25]))))))) (.seq (.leaf [4]) (.leaf [4]))))))

noncomputable def impl_ScoreOf_ctx : Ctx := ⟨tlook tys, olook [(13, F_impl_ScoresOk), (41, F_impl_TreeOk)], ioF, 0, false, []⟩

theorem impl_ScoreOf_n1_l (x19694 : List (List Int)) (x19695 : List Int) : Link impl_ScoreOf_ctx LL (Code.seq (cq [0] (bodyOf Try.f24)) (Code.seq (cq [0,1] (bodyOf Try.f24)) (cq [0,1,1] (bodyOf Try.f24)))) (Ann.seq (aq [0] impl_ScoreOf_an) (Ann.seq (aq [0,1] impl_ScoreOf_an) (aq [0,1,1] impl_ScoreOf_an))) ⟨mkE 41 0 [(0, .dat (.list (.list (.int .i64))) x19694), (1, dL x19695)], []⟩ (impl_ScoreOf_n1 x19694 x19695) (Sum.elim (fun (t : Unit) => (Exit.normal, ⟨mkE 41 0 [(0, .dat (.list (.list (.int .i64))) x19694), (1, dL x19695), (5, dI 0)], []⟩)) (fun (t : Int) => (Exit.ret, ⟨mkE 41 0 [(4, dI t)], []⟩))) := by
  refine Link.of fun K h => ?_
  simp only [impl_ScoreOf_n1, wpO_bind, wpO_cond, wpO_map, wpO_some] at h
  exact Awp.of (by kernel_rfl) h

theorem impl_ScoreOf_n2_l (x19694 : List (List Int)) (x19695 : List Int) : Link impl_ScoreOf_ctx LL (cq [0,0,1,1,1] (bodyOf Try.f24)) (aq [0,0,1,1,1] impl_ScoreOf_an) ⟨mkE 41 0 [(0, .dat (.list (.list (.int .i64))) x19694), (1, dL x19695), (5, dI 0)], []⟩ (impl_ScoreOf_n2 x19695) (fun (t : Int) => (Exit.normal, ⟨mkE 41 0 [(0, .dat (.list (.list (.int .i64))) x19694), (5, dI 0), (23, dL x19695), (24, dI t), (25, dI 0)], []⟩)) := by
  refine Link.of fun K h => ?_
  simp only [impl_ScoreOf_n2, wpO_bind, wpO_cond, wpO_map, wpO_some] at h
  exact Awp.of (by kernel_rfl) h

theorem impl_ScoreOf_n3_l (x19694 : List (List Int)) (x19724 : Int) (x19695 : List Int) (x19710 : Int) (x19725 : Int) : Link impl_ScoreOf_ctx LL (cq [0,0,1,0,1,1,1] (bodyOf Try.f24)) (aq [0,0,1,0,1,1,1] impl_ScoreOf_an) ⟨mkE 41 0 [(0, .dat (.list (.list (.int .i64))) x19694), (5, dI x19724), (23, dL x19695), (24, dI x19710), (25, dI x19725)], []⟩ (impl_ScoreOf_n3 x19694 x19724 x19695 x19710 x19725) (Sum.elim (fun (t : Int × Int) => (Exit.normal, ⟨mkE 41 0 [(0, .dat (.list (.list (.int .i64))) x19694), (5, dI t.1), (23, dL x19695), (24, dI x19710), (25, dI t.2)], []⟩)) (fun (t : Int) => ((Exit.exit 0), ⟨mkE 41 0 [(5, dI t)], []⟩))) := by
  refine Link.of fun K h => ?_
  simp only [impl_ScoreOf_n3, wpO_bind, wpO_cond, wpO_map, wpO_some] at h
  exact Awp.of (by kernel_rfl) h

def impl_ScoreOf_n4_l (x19694 : List (List Int)) (x19695 : List Int) (x19710 : Int) := (link_loop (mk := fun (s : Int × Int) => ⟨mkE 41 0 [(0, .dat (.list (.list (.int .i64))) x19694), (5, dI s.1), (23, dL x19695), (24, dI x19710), (25, dI s.2)], []⟩) (fin := (fun (t : Int) => ((Exit.exit 0), ⟨mkE 41 0 [(5, dI t)], []⟩))) (by
  rintro t f K h
  · exact h) (fun s => link_map (impl_ScoreOf_n3_l x19694 s.1 x19695 x19710 s.2) (Sum.elim (fun (t : Int × Int) => Sum.inl (t.1, t.2)) (fun (t : Int) => Sum.inr t)) (by
  rintro (t | t)
  · kernel_rfl
  · kernel_rfl)) (0, 0))

def impl_ScoreOf_n5_l (x19694 : List (List Int)) (x19695 : List Int) (x19710 : Int) := (link_block (fin2 := (fun (t : Int) => (Exit.normal, ⟨mkE 41 0 [(5, dI t)], []⟩))) (id := 0) (impl_ScoreOf_n4_l x19694 x19695 x19710) (fun (t : Int) => t) (by
  rintro t K h
  · exact Eq.mp (by kernel_rfl) h))

def impl_ScoreOf_n6_l (x19694 : List (List Int)) (x19695 : List Int) := (link_seq (impl_ScoreOf_n2_l x19694 x19695) (fun (t : Int) => (impl_ScoreOf_n5_l x19694 x19695 t)))

theorem impl_ScoreOf_n7_l (x19724 : Int) : Link impl_ScoreOf_ctx LL (cq [1,1,1,1] (bodyOf Try.f24)) (aq [1,1,1,1] impl_ScoreOf_an) ⟨mkE 41 0 [(5, dI x19724)], []⟩ (impl_ScoreOf_n7 x19724) (fun (t : Int) => (Exit.ret, ⟨mkE 41 0 [(4, dI t)], []⟩)) := by
  refine Link.of fun K h => ?_
  simp only [impl_ScoreOf_n7, wpO_bind, wpO_cond, wpO_map, wpO_some] at h
  exact Awp.of (by kernel_rfl) h

def impl_ScoreOf_n8_l (x19694 : List (List Int)) (x19695 : List Int) := (link_seq (impl_ScoreOf_n6_l x19694 x19695) (fun (t : Int) => (impl_ScoreOf_n7_l t)))

def impl_ScoreOf_n9_l (x19694 : List (List Int)) (x19695 : List Int) := (link_group (c := (cq [0,1,1] (bodyOf Try.f24))) (a := (aq [0,1,1] impl_ScoreOf_an)) [(cq [0] (bodyOf Try.f24)), (cq [0,1] (bodyOf Try.f24))] [(aq [0] impl_ScoreOf_an), (aq [0,1] impl_ScoreOf_an)] rfl (link_seq2 (impl_ScoreOf_n1_l x19694 x19695) (fun (t : Unit) => (impl_ScoreOf_n8_l x19694 x19695)) (fun (t : Int) => t) (by
  rintro t
  · kernel_rfl) (by
  rintro t f K h
  · exact h)))

theorem impl_ScoreOf_e (x19694 : List (List Int)) (x19695 : List Int) {r : AV} {H' : Heap} (h : (Ans.mk _ (impl_ScoreOf x19694 x19695) (fun (t : Int) => (dI t, [])) [] none).run = some (r, H')) : Awp impl_ScoreOf_ctx LL (bodyOf Try.f24) impl_ScoreOf_an ⟨mkE 41 0 [(0, .dat (.list (.list (.int .i64))) x19694), (1, dL x19695)], []⟩ (Ret (tlook tys) Try.f24.results.toList r H') :=
  ret_of' (Link.cast (by kernel_rfl) (by kernel_rfl) (impl_ScoreOf_n9_l x19694 x19695)) (by unfold impl_ScoreOf; kernel_rfl) (by
  intro t
  exact ret_mk [dI t] (by kernel_rfl) (by kernel_rfl) (by kernel_rfl) (by kernel_rfl)) h

def F_impl_ScoreOf : Fun := fun avs H =>
  match avs, H with
  | [.dat (.list (.list (.int .i64))) x19694, .dat (.list (.int .i64)) x19695], [] => ⟨_, impl_ScoreOf x19694 x19695, fun (t : Int) => (dI t, []), [], none⟩
  | _, _ => Ans.no

theorem impl_ScoreOf_sound : Sound Try.prog 24 F_impl_ScoreOf := by
  refine fn_sound' (C := impl_ScoreOf_ctx) (c := bodyOf Try.f24) (cok_of tys_ok (allc impl_ScoresOk_sound (allc impl_TreeOk_sound alln)) (allc Try.call13 (allc Try.call41 alln)) (by kernel_rfl)) Try.func24 (by kernel_rfl) LL impl_ScoreOf_an ?_
  intro avs H r H' h
  unfold F_impl_ScoreOf at h
  split at h
  · refine Awp.cast ?_ ?_ ?_ (impl_ScoreOf_e _ _ h) <;> kernel_rfl
  · simp [Ans.no, Ans.run] at h


/-! loop.example/headtrees/laws.FnBestFlat -/

def laws_FnBestFlat_an : Ann := (.seq (.leaf [0]) (.seq (.seq (.leaf [0, 11]) (.cond (.seq (.leaf [2]) (.leaf [2])) (.leaf [0]))) (.seq (.leaf [3]) (.seq (.leaf [3, 4]) (.seq (.seq (.leaf [3, 4, 19]) (.cond (.seq (.leaf [2]) (.leaf [2])) (.leaf [3, 4]))) (.seq (.seq (.leaf [3, 4, 21]) (.cond (.seq (.leaf [2]) (.leaf [2])) (.leaf [3, 4]))) (.seq (.leaf [3, 4, 5]) (.seq (.seq (.leaf [3, 4, 5, 6]) (.block (.loop (.seq (.seq (.leaf [3, 4, 5, 6, 40]) (.cond (.leaf [3, 4, 5, 6]) (.leaf [4, 5]))) (.seq (.block (.seq (.leaf [3, 4, 5, 6, 7, 8]) (.seq (.seq (.leaf [3, 4, 5, 6, 7, 51]) (.cond (.seq (.leaf [2]) (.leaf [2])) (.leaf [3, 4, 5, 6, 7]))) (.leaf [3, 4, 5, 6])))) (.leaf [3, 4, 5, 6])))))) (.seq (.leaf [2]) (.leaf [2]))))))))))

noncomputable def laws_FnBestFlat_ctx : Ctx := ⟨tlook tys, olook [(20, F_spec_DrawBestFlat), (19, F_impl_BestFlat), (21, F_spec_BestFlat), (13, F_impl_ScoresOk), (15, F_laws_alive), (22, F_impl_CountFlat), (23, F_impl_FlatAt), (24, F_impl_ScoreOf)], ioF, 0, true, []⟩

theorem laws_FnBestFlat_n1_l (x18766 : List Int) : Link laws_FnBestFlat_ctx LL (Code.seq (cq [0] (bodyOf Try.f5)) (Code.seq (cq [0,1] (bodyOf Try.f5)) (Code.seq (cq [0,1,1] (bodyOf Try.f5)) (Code.seq (cq [0,1,1,1] (bodyOf Try.f5)) (Code.seq (cq [0,1,1,1,1] (bodyOf Try.f5)) (Code.seq (cq [0,1,1,1,1,1] (bodyOf Try.f5)) (cq [0,1,1,1,1,1,1] (bodyOf Try.f5)))))))) (Ann.seq (aq [0] laws_FnBestFlat_an) (Ann.seq (aq [0,1] laws_FnBestFlat_an) (Ann.seq (aq [0,1,1] laws_FnBestFlat_an) (Ann.seq (aq [0,1,1,1] laws_FnBestFlat_an) (Ann.seq (aq [0,1,1,1,1] laws_FnBestFlat_an) (Ann.seq (aq [0,1,1,1,1,1] laws_FnBestFlat_an) (aq [0,1,1,1,1,1,1] laws_FnBestFlat_an))))))) ⟨mkE 60 0 [(0, dV x18766)], []⟩ (laws_FnBestFlat_n1 x18766) (Sum.elim (fun (t : Int × (List (List Int))) => (Exit.normal, ⟨mkE 60 0 [(3, .slc 0), (4, dI t.1), (5, dI (-1))], [some (.nest (.int .i64) t.2 0 [])]⟩)) (fun (t : Bool) => (Exit.ret, ⟨mkE 60 0 [(2, dB t)], []⟩))) := by
  refine Link.of fun K h => ?_
  simp only [laws_FnBestFlat_n1, wpO_bind, wpO_cond, wpO_map, wpO_some] at h
  exact Awp.of (by kernel_rfl) h

theorem laws_FnBestFlat_n2_l (x18979 : Int) (x18978 : List (List Int)) : Link laws_FnBestFlat_ctx LL (cq [0,0,1,1,1,1,1,1,1] (bodyOf Try.f5)) (aq [0,0,1,1,1,1,1,1,1] laws_FnBestFlat_an) ⟨mkE 60 0 [(3, .slc 0), (4, dI x18979), (5, dI (-1))], [some (.nest (.int .i64) x18978 0 [])]⟩ (laws_FnBestFlat_n2) (fun (t : Unit) => (Exit.normal, ⟨mkE 60 0 [(3, .slc 0), (4, dI x18979), (5, dI (-1)), (6, dI 0)], [some (.nest (.int .i64) x18978 0 [])]⟩)) := by
  refine Link.of fun K h => ?_
  simp only [laws_FnBestFlat_n2, wpO_bind, wpO_cond, wpO_map, wpO_some] at h
  exact Awp.of (by kernel_rfl) h

theorem laws_FnBestFlat_n3_l (x18979 : Int) (x19754 : Int) (x19755 : Int) (x18978 : List (List Int)) : Link laws_FnBestFlat_ctx LL (cq [0,0,1,0,1,1,1,1,1,1,1] (bodyOf Try.f5)) (aq [0,0,1,0,1,1,1,1,1,1,1] laws_FnBestFlat_an) ⟨mkE 60 0 [(3, .slc 0), (4, dI x18979), (5, dI x19754), (6, dI x19755)], [some (.nest (.int .i64) x18978 0 [])]⟩ (laws_FnBestFlat_n3 x19754 x19755 x18978) (Sum.elim (fun (t : Int × Int) => (Exit.normal, ⟨mkE 60 0 [(3, .slc 0), (4, dI x18979), (5, dI t.1), (6, dI t.2)], [some (.nest (.int .i64) x18978 0 [])]⟩)) (Sum.elim (fun (t : Bool) => (Exit.ret, ⟨mkE 60 0 [(2, dB t)], []⟩)) (fun (t : Int) => ((Exit.exit 0), ⟨mkE 60 0 [(4, dI x18979), (5, dI t)], []⟩)))) := by
  refine Link.of fun K h => ?_
  simp only [laws_FnBestFlat_n3, wpO_bind, wpO_cond, wpO_map, wpO_some] at h
  exact Awp.of (by kernel_rfl) h

def laws_FnBestFlat_n4_l (x18979 : Int) (x18978 : List (List Int)) := (link_loop (mk := fun (s : Int × Int) => ⟨mkE 60 0 [(3, .slc 0), (4, dI x18979), (5, dI s.1), (6, dI s.2)], [some (.nest (.int .i64) x18978 0 [])]⟩) (fin := (Sum.elim (fun (t : Bool) => (Exit.ret, ⟨mkE 60 0 [(2, dB t)], []⟩)) (fun (t : Int) => ((Exit.exit 0), ⟨mkE 60 0 [(4, dI x18979), (5, dI t)], []⟩)))) (by
  rintro (t | t) f K h
  · exact h
  · exact h) (fun s => link_map (laws_FnBestFlat_n3_l x18979 s.1 s.2 x18978) (Sum.elim (fun (t : Int × Int) => Sum.inl (t.1, t.2)) (Sum.elim (fun (t : Bool) => Sum.inr (Sum.inl t)) (fun (t : Int) => Sum.inr (Sum.inr t)))) (by
  rintro (t | t | t)
  · kernel_rfl
  · kernel_rfl
  · kernel_rfl)) ((-1), 0))

def laws_FnBestFlat_n5_l (x18979 : Int) (x18978 : List (List Int)) := (link_block (fin2 := (Sum.elim (fun (t : Int) => (Exit.normal, ⟨mkE 60 0 [(4, dI x18979), (5, dI t)], []⟩)) (fun (t : Bool) => (Exit.ret, ⟨mkE 60 0 [(2, dB t)], []⟩)))) (id := 0) (laws_FnBestFlat_n4_l x18979 x18978) (Sum.elim (fun (t : Bool) => (Sum.inr t)) (fun (t : Int) => (Sum.inl t))) (by
  rintro (t | t) K h
  · exact Eq.mp (by kernel_rfl) h
  · exact Eq.mp (by kernel_rfl) h))

def laws_FnBestFlat_n6_l (x18979 : Int) (x18978 : List (List Int)) := (link_seq (laws_FnBestFlat_n2_l x18979 x18978) (fun (t : Unit) => (laws_FnBestFlat_n5_l x18979 x18978)))

theorem laws_FnBestFlat_n7_l (x18979 : Int) (x19754 : Int) : Link laws_FnBestFlat_ctx LL (cq [1,1,1,1,1,1,1,1] (bodyOf Try.f5)) (aq [1,1,1,1,1,1,1,1] laws_FnBestFlat_an) ⟨mkE 60 0 [(4, dI x18979), (5, dI x19754)], []⟩ (laws_FnBestFlat_n7 x18979 x19754) (fun (t : Bool) => (Exit.ret, ⟨mkE 60 0 [(2, dB t)], []⟩)) := by
  refine Link.of fun K h => ?_
  simp only [laws_FnBestFlat_n7, wpO_bind, wpO_cond, wpO_map, wpO_some] at h
  exact Awp.of (by kernel_rfl) h

def laws_FnBestFlat_n8_l (x18979 : Int) (x18978 : List (List Int)) := (link_seq2 (laws_FnBestFlat_n6_l x18979 x18978) (fun (t : Int) => (laws_FnBestFlat_n7_l x18979 t)) (fun (t : Bool) => t) (by
  rintro t
  · kernel_rfl) (by
  rintro t f K h
  · exact h))

def laws_FnBestFlat_n9_l (x18766 : List Int) := (link_group (c := (cq [0,1,1,1,1,1,1] (bodyOf Try.f5))) (a := (aq [0,1,1,1,1,1,1] laws_FnBestFlat_an)) [(cq [0] (bodyOf Try.f5)), (cq [0,1] (bodyOf Try.f5)), (cq [0,1,1] (bodyOf Try.f5)), (cq [0,1,1,1] (bodyOf Try.f5)), (cq [0,1,1,1,1] (bodyOf Try.f5)), (cq [0,1,1,1,1,1] (bodyOf Try.f5))] [(aq [0] laws_FnBestFlat_an), (aq [0,1] laws_FnBestFlat_an), (aq [0,1,1] laws_FnBestFlat_an), (aq [0,1,1,1] laws_FnBestFlat_an), (aq [0,1,1,1,1] laws_FnBestFlat_an), (aq [0,1,1,1,1,1] laws_FnBestFlat_an)] rfl (link_seq2 (laws_FnBestFlat_n1_l x18766) (fun (t : Int × (List (List Int))) => (laws_FnBestFlat_n8_l t.1 t.2)) (fun (t : Bool) => t) (by
  rintro t
  · kernel_rfl) (by
  rintro t f K h
  · exact h)))

theorem laws_FnBestFlat_e (x18766 : List Int) {r : AV} {H' : Heap} (h : (Ans.mk _ (laws_FnBestFlat x18766) (fun (t : Bool) => (dB t, [])) [] none).run = some (r, H')) : Awp laws_FnBestFlat_ctx LL (bodyOf Try.f5) laws_FnBestFlat_an ⟨mkE 60 0 [(0, dV x18766)], []⟩ (Ret (tlook tys) Try.f5.results.toList r H') :=
  ret_of' (Link.cast (by kernel_rfl) (by kernel_rfl) (laws_FnBestFlat_n9_l x18766)) (by unfold laws_FnBestFlat; kernel_rfl) (by
  intro t
  exact ret_mk [dB t] (by kernel_rfl) (by kernel_rfl) (by kernel_rfl) (by kernel_rfl)) h

def F_laws_FnBestFlat : Fun := fun avs H =>
  match avs, H with
  | [.dat (.list (.int .u8)) x18766], [] => ⟨_, laws_FnBestFlat x18766, fun (t : Bool) => (dB t, []), [], none⟩
  | _, _ => Ans.no

theorem laws_FnBestFlat_sound : Sound Try.prog 5 F_laws_FnBestFlat := by
  refine fn_sound' (C := laws_FnBestFlat_ctx) (c := bodyOf Try.f5) (cok_of tys_ok (allc spec_DrawBestFlat_sound (allc impl_BestFlat_sound (allc spec_BestFlat_sound (allc impl_ScoresOk_sound (allc laws_alive_sound (allc impl_CountFlat_sound (allc impl_FlatAt_sound (allc impl_ScoreOf_sound alln)))))))) (allc Try.call20 (allc Try.call19 (allc Try.call21 (allc Try.call13 (allc Try.call15 (allc Try.call22 (allc Try.call23 (allc Try.call24 alln)))))))) (by kernel_rfl)) Try.func5 (by kernel_rfl) LL laws_FnBestFlat_an ?_
  intro avs H r H' h
  unfold F_laws_FnBestFlat at h
  split at h
  · refine Awp.cast ?_ ?_ ?_ (laws_FnBestFlat_e _ h) <;> kernel_rfl
  · simp [Ans.no, Ans.run] at h


end Go.Rv
