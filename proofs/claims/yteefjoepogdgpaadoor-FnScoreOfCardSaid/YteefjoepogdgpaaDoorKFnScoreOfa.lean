/-
  The checked code answers as the plain functions do; written by program. Conditions: none.
-/
import Derived.Test.YteefjoepogdgpaaDoorGFnScoreOf
import Derived.Test.YteefjoepogdgpaaDoorProg
set_option linter.unusedVariables false
set_option linter.unusedSimpArgs false
set_option linter.defProp false
set_option maxRecDepth 100000
namespace Go.Rv
open Go.Proofs
theorem ty3 : TIOk Tryd.prog 3 ⟨.int .i64, 1, 8, some (.int .i64), [.int .i64 0], false⟩ := ⟨⟨infoOf (Tryd.prog.info? 3), by kernel_rfl, by kernel_rfl, by kernel_rfl, .int .i64 0, by kernel_rfl, by kernel_rfl⟩, (by kernel_rfl : Tryd.prog.underlying 3 = some (.int .i64)), no_eq⟩
theorem ty5 : TIOk Tryd.prog 5 ⟨.int .u8, 1, 1, some (.int .u8), [.int .u8 0], false⟩ := ⟨⟨infoOf (Tryd.prog.info? 5), by kernel_rfl, by kernel_rfl, by kernel_rfl, .int .u8 0, by kernel_rfl, by kernel_rfl⟩, (by kernel_rfl : Tryd.prog.underlying 5 = some (.int .u8)), no_eq⟩
theorem ty22 : TIOk Tryd.prog 22 ⟨.slice 5, 1, 24, some (.list (.int .u8)), [.slice none 0 0], false⟩ := ⟨⟨infoOf (Tryd.prog.info? 22), by kernel_rfl, by kernel_rfl, by kernel_rfl, .slice none 0 0, by kernel_rfl, by kernel_rfl⟩, (by kernel_rfl : Tryd.prog.underlying 22 = some (.slice 5)), no_eq⟩
theorem ty23 : TIOk Tryd.prog 23 ⟨.slice 24, 1, 24, some (.list (.list (.int .i64))), [.slice none 0 0], false⟩ := ⟨⟨infoOf (Tryd.prog.info? 23), by kernel_rfl, by kernel_rfl, by kernel_rfl, .slice none 0 0, by kernel_rfl, by kernel_rfl⟩, (by kernel_rfl : Tryd.prog.underlying 23 = some (.slice 24)), no_eq⟩
theorem ty24 : TIOk Tryd.prog 24 ⟨.slice 3, 1, 24, some (.list (.int .i64)), [.slice none 0 0], false⟩ := ⟨⟨infoOf (Tryd.prog.info? 24), by kernel_rfl, by kernel_rfl, by kernel_rfl, .slice none 0 0, by kernel_rfl, by kernel_rfl⟩, (by kernel_rfl : Tryd.prog.underlying 24 = some (.slice 3)), no_eq⟩
theorem ty43 : TIOk Tryd.prog 43 ⟨.strct [(0, 23), (1, 24), (2, 24), (3, 3)], 4, 80, some (.pair (.list (.list (.int .i64))) (.pair (.list (.int .i64)) (.pair (.list (.int .i64)) (.pair (.int .i64) .unit)))), [.slice none 0 0, .slice none 0 0, .slice none 0 0, .int .i64 0], false⟩ := ⟨⟨infoOf (Tryd.prog.info? 43), by kernel_rfl, by kernel_rfl, by kernel_rfl, .agg #[.slice none 0 0, .slice none 0 0, .slice none 0 0, .int .i64 0], by kernel_rfl, by kernel_rfl⟩, ⟨fieldsOf (Tryd.prog.underlying 43), by kernel_rfl, by kernel_rfl⟩, no_eq⟩
theorem ty44 : TIOk Tryd.prog 44 ⟨.slice 47, 1, 24, some (.list (.int .u64)), [.slice none 0 0], false⟩ := ⟨⟨infoOf (Tryd.prog.info? 44), by kernel_rfl, by kernel_rfl, by kernel_rfl, .slice none 0 0, by kernel_rfl, by kernel_rfl⟩, (by kernel_rfl : Tryd.prog.underlying 44 = some (.slice 47)), no_eq⟩
theorem ty47 : TIOk Tryd.prog 47 ⟨.int .u64, 1, 8, some (.int .u64), [.int .u64 0], false⟩ := ⟨⟨infoOf (Tryd.prog.info? 47), by kernel_rfl, by kernel_rfl, by kernel_rfl, .int .u64 0, by kernel_rfl, by kernel_rfl⟩, (by kernel_rfl : Tryd.prog.underlying 47 = some (.int .u64)), no_eq⟩
theorem ty48 : TIOk Tryd.prog 48 ⟨.scalar, 1, 8, none, [.pointer none], false⟩ := ⟨⟨infoOf (Tryd.prog.info? 48), by kernel_rfl, by kernel_rfl, by kernel_rfl, .pointer none, by kernel_rfl, by kernel_rfl⟩, ⟨descOf (Tryd.prog.underlying 48), by kernel_rfl, by kernel_rfl⟩, no_eq⟩
theorem ty52 : TIOk Tryd.prog 52 ⟨.strct [(0, 3), (1, 3)], 2, 16, some (.pair (.int .i64) (.pair (.int .i64) .unit)), [.int .i64 0, .int .i64 0], false⟩ := ⟨⟨infoOf (Tryd.prog.info? 52), by kernel_rfl, by kernel_rfl, by kernel_rfl, .agg #[.int .i64 0, .int .i64 0], by kernel_rfl, by kernel_rfl⟩, ⟨fieldsOf (Tryd.prog.underlying 52), by kernel_rfl, by kernel_rfl⟩, no_eq⟩
theorem ty53 : TIOk Tryd.prog 53 ⟨.arr 6 52, 12, 96, none, [.int .i64 0, .int .i64 0, .int .i64 0, .int .i64 0, .int .i64 0, .int .i64 0, .int .i64 0, .int .i64 0, .int .i64 0, .int .i64 0, .int .i64 0, .int .i64 0], false⟩ := ⟨⟨infoOf (Tryd.prog.info? 53), by kernel_rfl, by kernel_rfl, by kernel_rfl, .agg #[.int .i64 0, .int .i64 0, .int .i64 0, .int .i64 0, .int .i64 0, .int .i64 0, .int .i64 0, .int .i64 0, .int .i64 0, .int .i64 0, .int .i64 0, .int .i64 0], by kernel_rfl, by kernel_rfl⟩, (by kernel_rfl : Tryd.prog.underlying 53 = some (.array 6 52)), no_eq⟩
theorem ty55 : TIOk Tryd.prog 55 ⟨.strct [(0, 22), (1, 3)], 2, 32, some (.pair (.list (.int .u8)) (.pair (.int .i64) .unit)), [.slice none 0 0, .int .i64 0], false⟩ := ⟨⟨infoOf (Tryd.prog.info? 55), by kernel_rfl, by kernel_rfl, by kernel_rfl, .agg #[.slice none 0 0, .int .i64 0], by kernel_rfl, by kernel_rfl⟩, ⟨fieldsOf (Tryd.prog.underlying 55), by kernel_rfl, by kernel_rfl⟩, no_eq⟩
theorem ty64 : TIOk Tryd.prog 64 ⟨.arr 6 53, 72, 576, none, [.int .i64 0, .int .i64 0, .int .i64 0, .int .i64 0, .int .i64 0, .int .i64 0, .int .i64 0, .int .i64 0, .int .i64 0, .int .i64 0, .int .i64 0, .int .i64 0, .int .i64 0, .int .i64 0, .int .i64 0, .int .i64 0, .int .i64 0, .int .i64 0, .int .i64 0, .int .i64 0, .int .i64 0, .int .i64 0, .int .i64 0, .int .i64 0, .int .i64 0, .int .i64 0, .int .i64 0, .int .i64 0, .int .i64 0, .int .i64 0, .int .i64 0, .int .i64 0, .int .i64 0, .int .i64 0, .int .i64 0, .int .i64 0, .int .i64 0, .int .i64 0, .int .i64 0, .int .i64 0, .int .i64 0, .int .i64 0, .int .i64 0, .int .i64 0, .int .i64 0, .int .i64 0, .int .i64 0, .int .i64 0, .int .i64 0, .int .i64 0, .int .i64 0, .int .i64 0, .int .i64 0, .int .i64 0, .int .i64 0, .int .i64 0, .int .i64 0, .int .i64 0, .int .i64 0, .int .i64 0, .int .i64 0, .int .i64 0, .int .i64 0, .int .i64 0, .int .i64 0, .int .i64 0, .int .i64 0, .int .i64 0, .int .i64 0, .int .i64 0, .int .i64 0, .int .i64 0], false⟩ := ⟨⟨infoOf (Tryd.prog.info? 64), by kernel_rfl, by kernel_rfl, by kernel_rfl, .agg #[.int .i64 0, .int .i64 0, .int .i64 0, .int .i64 0, .int .i64 0, .int .i64 0, .int .i64 0, .int .i64 0, .int .i64 0, .int .i64 0, .int .i64 0, .int .i64 0, .int .i64 0, .int .i64 0, .int .i64 0, .int .i64 0, .int .i64 0, .int .i64 0, .int .i64 0, .int .i64 0, .int .i64 0, .int .i64 0, .int .i64 0, .int .i64 0, .int .i64 0, .int .i64 0, .int .i64 0, .int .i64 0, .int .i64 0, .int .i64 0, .int .i64 0, .int .i64 0, .int .i64 0, .int .i64 0, .int .i64 0, .int .i64 0, .int .i64 0, .int .i64 0, .int .i64 0, .int .i64 0, .int .i64 0, .int .i64 0, .int .i64 0, .int .i64 0, .int .i64 0, .int .i64 0, .int .i64 0, .int .i64 0, .int .i64 0, .int .i64 0, .int .i64 0, .int .i64 0, .int .i64 0, .int .i64 0, .int .i64 0, .int .i64 0, .int .i64 0, .int .i64 0, .int .i64 0, .int .i64 0, .int .i64 0, .int .i64 0, .int .i64 0, .int .i64 0, .int .i64 0, .int .i64 0, .int .i64 0, .int .i64 0, .int .i64 0, .int .i64 0, .int .i64 0, .int .i64 0], by kernel_rfl, by kernel_rfl⟩, (by kernel_rfl : Tryd.prog.underlying 64 = some (.array 6 53)), no_eq⟩
theorem ty67 : TIOk Tryd.prog 67 ⟨.strct [(0, 24), (1, 3), (2, 3)], 3, 40, some (.pair (.list (.int .i64)) (.pair (.int .i64) (.pair (.int .i64) .unit))), [.slice none 0 0, .int .i64 0, .int .i64 0], false⟩ := ⟨⟨infoOf (Tryd.prog.info? 67), by kernel_rfl, by kernel_rfl, by kernel_rfl, .agg #[.slice none 0 0, .int .i64 0, .int .i64 0], by kernel_rfl, by kernel_rfl⟩, ⟨fieldsOf (Tryd.prog.underlying 67), by kernel_rfl, by kernel_rfl⟩, no_eq⟩
theorem ty78 : TIOk Tryd.prog 78 ⟨.int .u64, 1, 8, some (.int .u64), [.int .u64 0], false⟩ := ⟨⟨infoOf (Tryd.prog.info? 78), by kernel_rfl, by kernel_rfl, by kernel_rfl, .int .u64 0, by kernel_rfl, by kernel_rfl⟩, (by kernel_rfl : Tryd.prog.underlying 78 = some (.int .u64)), no_eq⟩
theorem ty80 : TIOk Tryd.prog 80 ⟨.arr 64 5, 64, 64, none, [.int .u8 0, .int .u8 0, .int .u8 0, .int .u8 0, .int .u8 0, .int .u8 0, .int .u8 0, .int .u8 0, .int .u8 0, .int .u8 0, .int .u8 0, .int .u8 0, .int .u8 0, .int .u8 0, .int .u8 0, .int .u8 0, .int .u8 0, .int .u8 0, .int .u8 0, .int .u8 0, .int .u8 0, .int .u8 0, .int .u8 0, .int .u8 0, .int .u8 0, .int .u8 0, .int .u8 0, .int .u8 0, .int .u8 0, .int .u8 0, .int .u8 0, .int .u8 0, .int .u8 0, .int .u8 0, .int .u8 0, .int .u8 0, .int .u8 0, .int .u8 0, .int .u8 0, .int .u8 0, .int .u8 0, .int .u8 0, .int .u8 0, .int .u8 0, .int .u8 0, .int .u8 0, .int .u8 0, .int .u8 0, .int .u8 0, .int .u8 0, .int .u8 0, .int .u8 0, .int .u8 0, .int .u8 0, .int .u8 0, .int .u8 0, .int .u8 0, .int .u8 0, .int .u8 0, .int .u8 0, .int .u8 0, .int .u8 0, .int .u8 0, .int .u8 0], false⟩ := ⟨⟨infoOf (Tryd.prog.info? 80), by kernel_rfl, by kernel_rfl, by kernel_rfl, .agg #[.int .u8 0, .int .u8 0, .int .u8 0, .int .u8 0, .int .u8 0, .int .u8 0, .int .u8 0, .int .u8 0, .int .u8 0, .int .u8 0, .int .u8 0, .int .u8 0, .int .u8 0, .int .u8 0, .int .u8 0, .int .u8 0, .int .u8 0, .int .u8 0, .int .u8 0, .int .u8 0, .int .u8 0, .int .u8 0, .int .u8 0, .int .u8 0, .int .u8 0, .int .u8 0, .int .u8 0, .int .u8 0, .int .u8 0, .int .u8 0, .int .u8 0, .int .u8 0, .int .u8 0, .int .u8 0, .int .u8 0, .int .u8 0, .int .u8 0, .int .u8 0, .int .u8 0, .int .u8 0, .int .u8 0, .int .u8 0, .int .u8 0, .int .u8 0, .int .u8 0, .int .u8 0, .int .u8 0, .int .u8 0, .int .u8 0, .int .u8 0, .int .u8 0, .int .u8 0, .int .u8 0, .int .u8 0, .int .u8 0, .int .u8 0, .int .u8 0, .int .u8 0, .int .u8 0, .int .u8 0, .int .u8 0, .int .u8 0, .int .u8 0, .int .u8 0], by kernel_rfl, by kernel_rfl⟩, (by kernel_rfl : Tryd.prog.underlying 80 = some (.array 64 5)), no_eq⟩
def tys : List (TypeId × TI) := [(3, ⟨.int .i64, 1, 8, some (.int .i64), [.int .i64 0], false⟩), (5, ⟨.int .u8, 1, 1, some (.int .u8), [.int .u8 0], false⟩), (22, ⟨.slice 5, 1, 24, some (.list (.int .u8)), [.slice none 0 0], false⟩), (23, ⟨.slice 24, 1, 24, some (.list (.list (.int .i64))), [.slice none 0 0], false⟩), (24, ⟨.slice 3, 1, 24, some (.list (.int .i64)), [.slice none 0 0], false⟩), (43, ⟨.strct [(0, 23), (1, 24), (2, 24), (3, 3)], 4, 80, some (.pair (.list (.list (.int .i64))) (.pair (.list (.int .i64)) (.pair (.list (.int .i64)) (.pair (.int .i64) .unit)))), [.slice none 0 0, .slice none 0 0, .slice none 0 0, .int .i64 0], false⟩), (44, ⟨.slice 47, 1, 24, some (.list (.int .u64)), [.slice none 0 0], false⟩), (47, ⟨.int .u64, 1, 8, some (.int .u64), [.int .u64 0], false⟩), (48, ⟨.scalar, 1, 8, none, [.pointer none], false⟩), (52, ⟨.strct [(0, 3), (1, 3)], 2, 16, some (.pair (.int .i64) (.pair (.int .i64) .unit)), [.int .i64 0, .int .i64 0], false⟩), (53, ⟨.arr 6 52, 12, 96, none, [.int .i64 0, .int .i64 0, .int .i64 0, .int .i64 0, .int .i64 0, .int .i64 0, .int .i64 0, .int .i64 0, .int .i64 0, .int .i64 0, .int .i64 0, .int .i64 0], false⟩), (55, ⟨.strct [(0, 22), (1, 3)], 2, 32, some (.pair (.list (.int .u8)) (.pair (.int .i64) .unit)), [.slice none 0 0, .int .i64 0], false⟩), (64, ⟨.arr 6 53, 72, 576, none, [.int .i64 0, .int .i64 0, .int .i64 0, .int .i64 0, .int .i64 0, .int .i64 0, .int .i64 0, .int .i64 0, .int .i64 0, .int .i64 0, .int .i64 0, .int .i64 0, .int .i64 0, .int .i64 0, .int .i64 0, .int .i64 0, .int .i64 0, .int .i64 0, .int .i64 0, .int .i64 0, .int .i64 0, .int .i64 0, .int .i64 0, .int .i64 0, .int .i64 0, .int .i64 0, .int .i64 0, .int .i64 0, .int .i64 0, .int .i64 0, .int .i64 0, .int .i64 0, .int .i64 0, .int .i64 0, .int .i64 0, .int .i64 0, .int .i64 0, .int .i64 0, .int .i64 0, .int .i64 0, .int .i64 0, .int .i64 0, .int .i64 0, .int .i64 0, .int .i64 0, .int .i64 0, .int .i64 0, .int .i64 0, .int .i64 0, .int .i64 0, .int .i64 0, .int .i64 0, .int .i64 0, .int .i64 0, .int .i64 0, .int .i64 0, .int .i64 0, .int .i64 0, .int .i64 0, .int .i64 0, .int .i64 0, .int .i64 0, .int .i64 0, .int .i64 0, .int .i64 0, .int .i64 0, .int .i64 0, .int .i64 0, .int .i64 0, .int .i64 0, .int .i64 0, .int .i64 0], false⟩), (67, ⟨.strct [(0, 24), (1, 3), (2, 3)], 3, 40, some (.pair (.list (.int .i64)) (.pair (.int .i64) (.pair (.int .i64) .unit))), [.slice none 0 0, .int .i64 0, .int .i64 0], false⟩), (78, ⟨.int .u64, 1, 8, some (.int .u64), [.int .u64 0], false⟩), (80, ⟨.arr 64 5, 64, 64, none, [.int .u8 0, .int .u8 0, .int .u8 0, .int .u8 0, .int .u8 0, .int .u8 0, .int .u8 0, .int .u8 0, .int .u8 0, .int .u8 0, .int .u8 0, .int .u8 0, .int .u8 0, .int .u8 0, .int .u8 0, .int .u8 0, .int .u8 0, .int .u8 0, .int .u8 0, .int .u8 0, .int .u8 0, .int .u8 0, .int .u8 0, .int .u8 0, .int .u8 0, .int .u8 0, .int .u8 0, .int .u8 0, .int .u8 0, .int .u8 0, .int .u8 0, .int .u8 0, .int .u8 0, .int .u8 0, .int .u8 0, .int .u8 0, .int .u8 0, .int .u8 0, .int .u8 0, .int .u8 0, .int .u8 0, .int .u8 0, .int .u8 0, .int .u8 0, .int .u8 0, .int .u8 0, .int .u8 0, .int .u8 0, .int .u8 0, .int .u8 0, .int .u8 0, .int .u8 0, .int .u8 0, .int .u8 0, .int .u8 0, .int .u8 0, .int .u8 0, .int .u8 0, .int .u8 0, .int .u8 0, .int .u8 0, .int .u8 0, .int .u8 0, .int .u8 0], false⟩)]
theorem tys_ok : TOk Tryd.prog (tlook tys) := tok_of (allc ty3 (allc ty5 (allc ty22 (allc ty23 (allc ty24 (allc ty43 (allc ty44 (allc ty47 (allc ty48 (allc ty52 (allc ty53 (allc ty55 (allc ty64 (allc ty67 (allc ty78 (allc ty80 alln))))))))))))))))
def ioF (f : FuncId) (i : Nat) : Bool := [(33, 0), (26, 1002), (35, 1000)].any fun (p : Nat × Nat) => Nat.beq p.1 f && Nat.beq p.2 i


/-! loop.example/headtrees/spec.l20Open -/

def spec_l20Open_an : Ann := (.seq (.leaf [0]) (.seq (.seq (.leaf [0, 5]) (.cond (.leaf [0]) (.leaf [0]))) (.seq (.leaf [2]) (.leaf [2]))))

noncomputable def spec_l20Open_ctx : Ctx := ⟨tlook tys, olook [], ioF, 0, false, []⟩

theorem spec_l20Open_n1_l (x6120 : List Int) : Link spec_l20Open_ctx LL (bodyOf Tryd.f11) spec_l20Open_an ⟨mkE 11 0 [(0, dV x6120)], []⟩ (spec_l20Open_n1 x6120) (fun (t : (List Int)) => (Exit.ret, ⟨mkE 11 0 [(2, .ptr 0 0)], [some (.box [dV t, dI 0])]⟩)) := by
  refine Link.of fun K h => ?_
  simp only [spec_l20Open_n1, wpO_bind, wpO_cond, wpO_map, wpO_some] at h
  exact Awp.of (by kernel_rfl) h

theorem spec_l20Open_e (x6120 : List Int) {r : AV} {H' : Heap} (h : (Ans.mk _ (spec_l20Open x6120) (fun (t : (List Int)) => (.ptr 0 0, [some (.box [dV t, dI 0])])) [] none).run = some (r, H')) : Awp spec_l20Open_ctx LL (bodyOf Tryd.f11) spec_l20Open_an ⟨mkE 11 0 [(0, dV x6120)], []⟩ (Ret (tlook tys) Tryd.f11.results.toList r H') :=
  ret_of' (spec_l20Open_n1_l x6120) (by unfold spec_l20Open; kernel_rfl) (by
  intro t
  exact ret_mk [.ptr 0 0] (by kernel_rfl) (by kernel_rfl) (by kernel_rfl) (by kernel_rfl)) h

def F_spec_l20Open : Fun := fun avs H =>
  match avs, H with
  | [.dat (.list (.int .u8)) x6120], [] => ⟨_, spec_l20Open x6120, fun (t : (List Int)) => (.ptr 0 0, [some (.box [dV t, dI 0])]), [], none⟩
  | _, _ => Ans.no

theorem spec_l20Open_sound : Sound Tryd.prog 11 F_spec_l20Open := by
  refine fn_sound' (C := spec_l20Open_ctx) (c := bodyOf Tryd.f11) (cok_of tys_ok (alln) (alln) (by kernel_rfl)) Tryd.func11 (by kernel_rfl) LL spec_l20Open_an ?_
  intro avs H r H' h
  unfold F_spec_l20Open at h
  split at h
  · refine Awp.cast ?_ ?_ ?_ (spec_l20Open_e _ h) <;> kernel_rfl
  · simp [Ans.no, Ans.run] at h


/-! (*loop.example/headtrees/spec.l20Rd).pick -/

def spec_l20Rd_pick_an : Ann := (.seq (.leaf [0, 1]) (.seq (.leaf [0, 1]) (.seq (.seq (.leaf [0, 1, 24]) (.cond (.seq (.leaf [4]) (.leaf [4])) (.leaf [0, 1]))) (.seq (.leaf [0, 1, 5]) (.seq (.seq (.leaf [0, 1, 5, 36]) (.cond (.seq (.leaf [4]) (.leaf [4])) (.leaf [0, 1, 5]))) (.seq (.draw [] [0, 1, 2, 3, 4, 5, 6, 7, 8, 9, 10, 11, 12, 13, 14, 15, 16, 17, 18, 19, 20, 21, 22, 23, 24, 25, 26, 27, 28, 29, 30, 31, 32, 33, 34, 35, 36, 37, 38, 39, 40, 41, 42, 43, 44, 45] [] [1, 6]) (.seq (.leaf [1, 6]) (.seq (.leaf [4]) (.leaf [4])))))))))

noncomputable def spec_l20Rd_pick_ctx : Ctx := ⟨tlook tys, olook [], ioF, 1, false, []⟩

theorem spec_l20Rd_pick_n1_l (x6142 : Int) (x6143 : List Int) (x6144 : Int) : Link spec_l20Rd_pick_ctx LL (bodyOf Tryd.f14) spec_l20Rd_pick_an ⟨mkE 99 0 [(0, .ptr 0 0), (1, dI x6142)], [some (.box [dV x6143, dI x6144])]⟩ (spec_l20Rd_pick_n1 x6142 x6143 x6144) (fun (t : Int × Int) => (Exit.ret, ⟨mkE 99 0 [(4, dI t.1)], [some (.box [dV x6143, dI t.2])]⟩)) := by
  refine Link.of fun K h => ?_
  simp only [spec_l20Rd_pick_n1, wpO_bind, wpO_cond, wpO_map, wpO_some] at h
  exact Awp.of (by kernel_rfl) h

theorem spec_l20Rd_pick_e (x6142 : Int) (x6143 : List Int) (x6144 : Int) {r : AV} {H' : Heap} (h : (Ans.mk _ (spec_l20Rd_pick x6142 x6143 x6144) (fun (t : Int × Int) => (dI t.1, [some (.box [dV x6143, dI t.2])])) [] none).run = some (r, H')) : Awp spec_l20Rd_pick_ctx LL (bodyOf Tryd.f14) spec_l20Rd_pick_an ⟨mkE 99 0 [(0, .ptr 0 0), (1, dI x6142)], [some (.box [dV x6143, dI x6144])]⟩ (Ret (tlook tys) Tryd.f14.results.toList r H') :=
  ret_of' (spec_l20Rd_pick_n1_l x6142 x6143 x6144) (by unfold spec_l20Rd_pick; kernel_rfl) (by
  intro t
  exact ret_mk [dI t.1] (by kernel_rfl) (by kernel_rfl) (by kernel_rfl) (by kernel_rfl)) h

def F_spec_l20Rd_pick : Fun := fun avs H =>
  match avs, H with
  | [.ptr 0 0, .dat (.int .i64) x6142], [some (.box [.dat (.list (.int .u8)) x6143, .dat (.int .i64) x6144])] => ⟨_, spec_l20Rd_pick x6142 x6143 x6144, fun (t : Int × Int) => (dI t.1, [some (.box [dV x6143, dI t.2])]), [], none⟩
  | _, _ => Ans.no

theorem spec_l20Rd_pick_sound : Sound Tryd.prog 14 F_spec_l20Rd_pick := by
  refine fn_sound' (C := spec_l20Rd_pick_ctx) (c := bodyOf Tryd.f14) (cok_of tys_ok (alln) (alln) (by kernel_rfl)) Tryd.func14 (by kernel_rfl) LL spec_l20Rd_pick_an ?_
  intro avs H r H' h
  unfold F_spec_l20Rd_pick at h
  split at h
  · refine Awp.cast ?_ ?_ ?_ (spec_l20Rd_pick_e _ _ _ h) <;> kernel_rfl
  · simp [Ans.no, Ans.run] at h


/-! (*loop.example/headtrees/spec.l20Rd).odd -/

def spec_l20Rd_odd_an : Ann := (.seq (.leaf [0, 1]) (.seq (.leaf [4]) (.leaf [4])))

noncomputable def spec_l20Rd_odd_ctx : Ctx := ⟨tlook tys, olook [(14, F_spec_l20Rd_pick)], ioF, 1, false, []⟩

theorem spec_l20Rd_odd_n1_l (x6418 : Int) (x6419 : List Int) (x6420 : Int) : Link spec_l20Rd_odd_ctx LL (bodyOf Tryd.f15) spec_l20Rd_odd_an ⟨mkE 15 0 [(0, .ptr 0 0), (1, dI x6418)], [some (.box [dV x6419, dI x6420])]⟩ (spec_l20Rd_odd_n1 x6418 x6419 x6420) (fun (t : Bool × Int) => (Exit.ret, ⟨mkE 15 0 [(4, dB t.1)], [some (.box [dV x6419, dI t.2])]⟩)) := by
  refine Link.of fun K h => ?_
  simp only [spec_l20Rd_odd_n1, wpO_bind, wpO_cond, wpO_map, wpO_some] at h
  exact Awp.of (by kernel_rfl) h

theorem spec_l20Rd_odd_e (x6418 : Int) (x6419 : List Int) (x6420 : Int) {r : AV} {H' : Heap} (h : (Ans.mk _ (spec_l20Rd_odd x6418 x6419 x6420) (fun (t : Bool × Int) => (dB t.1, [some (.box [dV x6419, dI t.2])])) [] none).run = some (r, H')) : Awp spec_l20Rd_odd_ctx LL (bodyOf Tryd.f15) spec_l20Rd_odd_an ⟨mkE 15 0 [(0, .ptr 0 0), (1, dI x6418)], [some (.box [dV x6419, dI x6420])]⟩ (Ret (tlook tys) Tryd.f15.results.toList r H') :=
  ret_of' (spec_l20Rd_odd_n1_l x6418 x6419 x6420) (by unfold spec_l20Rd_odd; kernel_rfl) (by
  intro t
  exact ret_mk [dB t.1] (by kernel_rfl) (by kernel_rfl) (by kernel_rfl) (by kernel_rfl)) h

def F_spec_l20Rd_odd : Fun := fun avs H =>
  match avs, H with
  | [.ptr 0 0, .dat (.int .i64) x6418], [some (.box [.dat (.list (.int .u8)) x6419, .dat (.int .i64) x6420])] => ⟨_, spec_l20Rd_odd x6418 x6419 x6420, fun (t : Bool × Int) => (dB t.1, [some (.box [dV x6419, dI t.2])]), [], none⟩
  | _, _ => Ans.no

theorem spec_l20Rd_odd_sound : Sound Tryd.prog 15 F_spec_l20Rd_odd := by
  refine fn_sound' (C := spec_l20Rd_odd_ctx) (c := bodyOf Tryd.f15) (cok_of tys_ok (allc spec_l20Rd_pick_sound alln) (allc Tryd.call14 alln) (by kernel_rfl)) Tryd.func15 (by kernel_rfl) LL spec_l20Rd_odd_an ?_
  intro avs H r H' h
  unfold F_spec_l20Rd_odd at h
  split at h
  · refine Awp.cast ?_ ?_ ?_ (spec_l20Rd_odd_e _ _ _ h) <;> kernel_rfl
  · simp [Ans.no, Ans.run] at h


/-! loop.example/headtrees/spec.l20Scores -/

def spec_l20Scores_an : Ann := (.seq (.leaf [0, 1]) (.seq (.leaf [0, 1, 5]) (.seq (.leaf [0, 1, 5, 6]) (.seq (.leaf [0, 1, 5, 6, 7]) (.seq (.seq (.leaf [0, 1, 5, 6, 7, 8]) (.block (.loop (.seq (.seq (.leaf [0, 1, 5, 6, 7, 8, 26]) (.cond (.leaf [0, 1, 5, 6, 7, 8]) (.leaf [0, 1, 7]))) (.seq (.block (.seq (.leaf [0, 1, 5, 6, 7, 8, 9]) (.seq (.seq (.leaf [0, 1, 5, 6, 7, 8, 9, 10]) (.block (.loop (.seq (.seq (.leaf [0, 1, 5, 6, 7, 8, 9, 10, 32]) (.cond (.leaf [0, 1, 5, 6, 7, 8, 9, 10]) (.leaf [0, 1, 5, 6, 7, 8, 9]))) (.seq (.block (.leaf [0, 1, 5, 6, 7, 8, 9, 10])) (.leaf [0, 1, 5, 6, 7, 8, 9, 10])))))) (.leaf [0, 1, 5, 6, 7, 8])))) (.leaf [0, 1, 5, 6, 7, 8])))))) (.seq (.seq (.leaf [0, 7, 47]) (.cond (.seq (.leaf [7, 49]) (.block (.seq (.leaf [7, 49, 54]) (.cond (.seq (.leaf [4]) (.leaf [4])) (.seq (.leaf [7, 57]) (.cond (.leaf [7]) (.leafF [⟨5, 7, true, some 0, none⟩] [7]))))))) (.leaf [7]))) (.seq (.leaf [4]) (.leaf [4]))))))))

noncomputable def spec_l20Scores_ctx : Ctx := ⟨tlook tys, olook [(14, F_spec_l20Rd_pick), (15, F_spec_l20Rd_odd)], ioF, 1, true, []⟩

theorem spec_l20Scores_n1_l (x6139 : Int) (x6140 : List Int) (x6141 : Int) : Link spec_l20Scores_ctx LL (Code.seq (cq [0] (bodyOf Tryd.f12)) (Code.seq (cq [0,1] (bodyOf Tryd.f12)) (Code.seq (cq [0,1,1] (bodyOf Tryd.f12)) (cq [0,1,1,1] (bodyOf Tryd.f12))))) (Ann.seq (aq [0] spec_l20Scores_an) (Ann.seq (aq [0,1] spec_l20Scores_an) (Ann.seq (aq [0,1,1] spec_l20Scores_an) (aq [0,1,1,1] spec_l20Scores_an)))) ⟨mkE 66 0 [(0, .ptr 0 0), (1, dI x6139)], [some (.box [dV x6140, dI x6141])]⟩ (spec_l20Scores_n1 x6140 x6141) (fun (t : Int × Int × Int) => (Exit.normal, ⟨mkE 66 0 [(0, .ptr 0 0), (1, dI x6139), (5, dI t.1), (6, dI t.2.1), (7, .slc 1)], [some (.box [dV x6140, dI t.2.2]), some (.nest (.int .i64) ([] : List (List Int)) 0 [])]⟩)) := by
  refine Link.of fun K h => ?_
  simp only [spec_l20Scores_n1, wpO_bind, wpO_cond, wpO_map, wpO_some] at h
  exact Awp.of (by kernel_rfl) h

theorem spec_l20Scores_n2_l (x6139 : Int) (x6491 : Int) (x6497 : Int) (x6140 : List Int) (x6495 : Int) : Link spec_l20Scores_ctx LL (cq [0,0,1,1,1,1] (bodyOf Tryd.f12)) (aq [0,0,1,1,1,1] spec_l20Scores_an) ⟨mkE 66 0 [(0, .ptr 0 0), (1, dI x6139), (5, dI x6491), (6, dI x6497), (7, .slc 1)], [some (.box [dV x6140, dI x6495]), some (.nest (.int .i64) ([] : List (List Int)) 0 [])]⟩ (spec_l20Scores_n2) (fun (t : Unit) => (Exit.normal, ⟨mkE 66 0 [(0, .ptr 0 0), (1, dI x6139), (5, dI x6491), (6, dI x6497), (7, .slc 1), (8, dI 0)], [some (.box [dV x6140, dI x6495]), some (.nest (.int .i64) ([] : List (List Int)) 0 [])]⟩)) := by
  refine Link.of fun K h => ?_
  simp only [spec_l20Scores_n2, wpO_bind, wpO_cond, wpO_map, wpO_some] at h
  exact Awp.of (by kernel_rfl) h

theorem spec_l20Scores_n3_l (x6139 : Int) (x6491 : Int) (x6497 : Int) (x6541 : Int) (x6140 : List Int) (x6542 : Int) (x6543 : List (List Int)) : Link spec_l20Scores_ctx LL (cq [0,0,0,1,0,1,1,1,1] (bodyOf Tryd.f12)) (aq [0,0,0,1,0,1,1,1,1] spec_l20Scores_an) ⟨mkE 66 0 [(0, .ptr 0 0), (1, dI x6139), (5, dI x6491), (6, dI x6497), (7, .slc 1), (8, dI x6541)], [some (.box [dV x6140, dI x6542]), some (.nest (.int .i64) x6543 0 [])]⟩ (spec_l20Scores_n3 x6491 x6541 x6542 x6543) (Sum.elim (fun (t : Unit) => (Exit.normal, ⟨mkE 66 0 [(0, .ptr 0 0), (1, dI x6139), (5, dI x6491), (6, dI x6497), (7, .slc 1), (8, dI x6541)], [some (.box [dV x6140, dI x6542]), some (.nest (.int .i64) x6543 0 [])]⟩)) (fun (t : Int × (List (List Int))) => ((Exit.exit 0), ⟨mkE 66 0 [(0, .ptr 0 0), (1, dI x6139), (7, .slc 1)], [some (.box [dV x6140, dI t.1]), some (.nest (.int .i64) t.2 0 [])]⟩))) := by
  refine Link.of fun K h => ?_
  simp only [spec_l20Scores_n3, wpO_bind, wpO_cond, wpO_map, wpO_some] at h
  exact Awp.of (by kernel_rfl) h

theorem spec_l20Scores_n4_l (x6139 : Int) (x6491 : Int) (x6497 : Int) (x6541 : Int) (x6140 : List Int) (x6542 : Int) (x6543 : List (List Int)) : Link spec_l20Scores_ctx LL (cq [0,0,0,1,0,0,1,0,1,1,1,1] (bodyOf Tryd.f12)) (aq [0,0,0,1,0,0,1,0,1,1,1,1] spec_l20Scores_an) ⟨mkE 66 0 [(0, .ptr 0 0), (1, dI x6139), (5, dI x6491), (6, dI x6497), (7, .slc 1), (8, dI x6541)], [some (.box [dV x6140, dI x6542]), some (.nest (.int .i64) x6543 0 [])]⟩ (spec_l20Scores_n4) (fun (t : Unit) => (Exit.normal, ⟨mkE 66 0 [(0, .ptr 0 0), (1, dI x6139), (5, dI x6491), (6, dI x6497), (7, .slc 1), (8, dI x6541), (9, .slc 2)], [some (.box [dV x6140, dI x6542]), some (.nest (.int .i64) x6543 0 []), some (sI ([] : List Int))]⟩)) := by
  refine Link.of fun K h => ?_
  simp only [spec_l20Scores_n4, wpO_bind, wpO_cond, wpO_map, wpO_some] at h
  exact Awp.of (by kernel_rfl) h

theorem spec_l20Scores_n5_l (x6139 : Int) (x6491 : Int) (x6497 : Int) (x6541 : Int) (x6140 : List Int) (x6542 : Int) (x6543 : List (List Int)) : Link spec_l20Scores_ctx LL (cq [0,0,1,0,0,1,0,0,1,0,1,1,1,1] (bodyOf Tryd.f12)) (aq [0,0,1,0,0,1,0,0,1,0,1,1,1,1] spec_l20Scores_an) ⟨mkE 66 0 [(0, .ptr 0 0), (1, dI x6139), (5, dI x6491), (6, dI x6497), (7, .slc 1), (8, dI x6541), (9, .slc 2)], [some (.box [dV x6140, dI x6542]), some (.nest (.int .i64) x6543 0 []), some (sI ([] : List Int))]⟩ (spec_l20Scores_n5) (fun (t : Unit) => (Exit.normal, ⟨mkE 66 0 [(0, .ptr 0 0), (1, dI x6139), (5, dI x6491), (6, dI x6497), (7, .slc 1), (8, dI x6541), (9, .slc 2), (10, dI 0)], [some (.box [dV x6140, dI x6542]), some (.nest (.int .i64) x6543 0 []), some (sI ([] : List Int))]⟩)) := by
  refine Link.of fun K h => ?_
  simp only [spec_l20Scores_n5, wpO_bind, wpO_cond, wpO_map, wpO_some] at h
  exact Awp.of (by kernel_rfl) h

theorem spec_l20Scores_n6_l (x6139 : Int) (x6491 : Int) (x6497 : Int) (x6541 : Int) (x6563 : Int) (x6140 : List Int) (x6564 : Int) (x6543 : List (List Int)) (x6565 : List Int) : Link spec_l20Scores_ctx LL (cq [0,0,1,0,1,0,0,1,0,0,1,0,1,1,1,1] (bodyOf Tryd.f12)) (aq [0,0,1,0,1,0,0,1,0,0,1,0,1,1,1,1] spec_l20Scores_an) ⟨mkE 66 0 [(0, .ptr 0 0), (1, dI x6139), (5, dI x6491), (6, dI x6497), (7, .slc 1), (8, dI x6541), (9, .slc 2), (10, dI x6563)], [some (.box [dV x6140, dI x6564]), some (.nest (.int .i64) x6543 0 []), some (sI x6565)]⟩ (spec_l20Scores_n6 x6491 x6497 x6563 x6140 x6564 x6565) (Sum.elim (fun (t : Int × Int × (List Int)) => (Exit.normal, ⟨mkE 66 0 [(0, .ptr 0 0), (1, dI x6139), (5, dI x6491), (6, dI x6497), (7, .slc 1), (8, dI x6541), (9, .slc 2), (10, dI t.1)], [some (.box [dV x6140, dI t.2.1]), some (.nest (.int .i64) x6543 0 []), some (sI t.2.2)]⟩)) (fun (t : Int × (List Int)) => ((Exit.exit 2), ⟨mkE 66 0 [(0, .ptr 0 0), (1, dI x6139), (5, dI x6491), (6, dI x6497), (7, .slc 1), (8, dI x6541), (9, .slc 2)], [some (.box [dV x6140, dI t.1]), some (.nest (.int .i64) x6543 0 []), some (sI t.2)]⟩))) := by
  refine Link.of fun K h => ?_
  simp only [spec_l20Scores_n6, wpO_bind, wpO_cond, wpO_map, wpO_some] at h
  exact Awp.of (by kernel_rfl) h

def spec_l20Scores_n7_l (x6139 : Int) (x6491 : Int) (x6497 : Int) (x6541 : Int) (x6140 : List Int) (x6542 : Int) (x6543 : List (List Int)) := (link_loop (mk := fun (s : Int × Int × (List Int)) => ⟨mkE 66 0 [(0, .ptr 0 0), (1, dI x6139), (5, dI x6491), (6, dI x6497), (7, .slc 1), (8, dI x6541), (9, .slc 2), (10, dI s.1)], [some (.box [dV x6140, dI s.2.1]), some (.nest (.int .i64) x6543 0 []), some (sI s.2.2)]⟩) (fin := (fun (t : Int × (List Int)) => ((Exit.exit 2), ⟨mkE 66 0 [(0, .ptr 0 0), (1, dI x6139), (5, dI x6491), (6, dI x6497), (7, .slc 1), (8, dI x6541), (9, .slc 2)], [some (.box [dV x6140, dI t.1]), some (.nest (.int .i64) x6543 0 []), some (sI t.2)]⟩))) (by
  rintro t f K h
  · exact h) (fun s => link_map (spec_l20Scores_n6_l x6139 x6491 x6497 x6541 s.1 x6140 s.2.1 x6543 s.2.2) (Sum.elim (fun (t : Int × Int × (List Int)) => Sum.inl (t.1, t.2.1, t.2.2)) (fun (t : Int × (List Int)) => Sum.inr t)) (by
  rintro (t | t)
  · kernel_rfl
  · kernel_rfl)) (0, x6542, ([] : List Int)))

def spec_l20Scores_n8_l (x6139 : Int) (x6491 : Int) (x6497 : Int) (x6541 : Int) (x6140 : List Int) (x6542 : Int) (x6543 : List (List Int)) := (link_block (fin2 := (fun (t : Int × (List Int)) => (Exit.normal, ⟨mkE 66 0 [(0, .ptr 0 0), (1, dI x6139), (5, dI x6491), (6, dI x6497), (7, .slc 1), (8, dI x6541), (9, .slc 2)], [some (.box [dV x6140, dI t.1]), some (.nest (.int .i64) x6543 0 []), some (sI t.2)]⟩))) (id := 2) (spec_l20Scores_n7_l x6139 x6491 x6497 x6541 x6140 x6542 x6543) (fun (t : Int × (List Int)) => (t.1, t.2)) (by
  rintro t K h
  · exact Eq.mp (by kernel_rfl) h))

def spec_l20Scores_n9_l (x6139 : Int) (x6491 : Int) (x6497 : Int) (x6541 : Int) (x6140 : List Int) (x6542 : Int) (x6543 : List (List Int)) := (link_seq (spec_l20Scores_n5_l x6139 x6491 x6497 x6541 x6140 x6542 x6543) (fun (t : Unit) => (spec_l20Scores_n8_l x6139 x6491 x6497 x6541 x6140 x6542 x6543)))

theorem spec_l20Scores_n10_l (x6139 : Int) (x6491 : Int) (x6497 : Int) (x6541 : Int) (x6140 : List Int) (x6564 : Int) (x6543 : List (List Int)) (x6565 : List Int) : Link spec_l20Scores_ctx LL (cq [1,1,0,0,1,0,0,1,0,1,1,1,1] (bodyOf Tryd.f12)) (aq [1,1,0,0,1,0,0,1,0,1,1,1,1] spec_l20Scores_an) ⟨mkE 66 0 [(0, .ptr 0 0), (1, dI x6139), (5, dI x6491), (6, dI x6497), (7, .slc 1), (8, dI x6541), (9, .slc 2)], [some (.box [dV x6140, dI x6564]), some (.nest (.int .i64) x6543 0 []), some (sI x6565)]⟩ (spec_l20Scores_n10 x6543 x6565) (fun (t : (List (List Int))) => (Exit.normal, ⟨mkE 66 0 [(0, .ptr 0 0), (1, dI x6139), (5, dI x6491), (6, dI x6497), (7, .slc 1), (8, dI x6541)], [some (.box [dV x6140, dI x6564]), some (.nest (.int .i64) t 0 [])]⟩)) := by
  refine Link.of fun K h => ?_
  simp only [spec_l20Scores_n10, wpO_bind, wpO_cond, wpO_map, wpO_some] at h
  exact Awp.of (by kernel_rfl) h

def spec_l20Scores_n11_l (x6139 : Int) (x6491 : Int) (x6497 : Int) (x6541 : Int) (x6140 : List Int) (x6542 : Int) (x6543 : List (List Int)) := (link_seq (spec_l20Scores_n9_l x6139 x6491 x6497 x6541 x6140 x6542 x6543) (fun (t : Int × (List Int)) => (link_map (fin2 := (fun (t : Int × (List (List Int))) => (Exit.normal, ⟨mkE 66 0 [(0, .ptr 0 0), (1, dI x6139), (5, dI x6491), (6, dI x6497), (7, .slc 1), (8, dI x6541)], [some (.box [dV x6140, dI t.1]), some (.nest (.int .i64) t.2 0 [])]⟩))) (spec_l20Scores_n10_l x6139 x6491 x6497 x6541 x6140 t.1 x6543 t.2) (fun (u : (List (List Int))) => (t.1, u)) (by
  rintro t
  · kernel_rfl))))

def spec_l20Scores_n12_l (x6139 : Int) (x6491 : Int) (x6497 : Int) (x6541 : Int) (x6140 : List Int) (x6542 : Int) (x6543 : List (List Int)) := (link_seq (spec_l20Scores_n4_l x6139 x6491 x6497 x6541 x6140 x6542 x6543) (fun (t : Unit) => (spec_l20Scores_n11_l x6139 x6491 x6497 x6541 x6140 x6542 x6543)))

def spec_l20Scores_n13_l (x6139 : Int) (x6491 : Int) (x6497 : Int) (x6541 : Int) (x6140 : List Int) (x6542 : Int) (x6543 : List (List Int)) := (link_block (fin2 := (fun (t : Int × (List (List Int))) => (Exit.normal, ⟨mkE 66 0 [(0, .ptr 0 0), (1, dI x6139), (5, dI x6491), (6, dI x6497), (7, .slc 1), (8, dI x6541)], [some (.box [dV x6140, dI t.1]), some (.nest (.int .i64) t.2 0 [])]⟩))) (id := 1) (spec_l20Scores_n12_l x6139 x6491 x6497 x6541 x6140 x6542 x6543) (fun (t : Int × (List (List Int))) => (t.1, t.2)) (by
  rintro t K h
  · exact Eq.mp (by kernel_rfl) h))

theorem spec_l20Scores_n14_l (x6139 : Int) (x6491 : Int) (x6497 : Int) (x6541 : Int) (x6140 : List Int) (x6564 : Int) (x6585 : List (List Int)) : Link spec_l20Scores_ctx LL (cq [1,1,0,0,1,0,1,1,1,1] (bodyOf Tryd.f12)) (aq [1,1,0,0,1,0,1,1,1,1] spec_l20Scores_an) ⟨mkE 66 0 [(0, .ptr 0 0), (1, dI x6139), (5, dI x6491), (6, dI x6497), (7, .slc 1), (8, dI x6541)], [some (.box [dV x6140, dI x6564]), some (.nest (.int .i64) x6585 0 [])]⟩ (spec_l20Scores_n14 x6541) (fun (t : Int) => (Exit.normal, ⟨mkE 66 0 [(0, .ptr 0 0), (1, dI x6139), (5, dI x6491), (6, dI x6497), (7, .slc 1), (8, dI t)], [some (.box [dV x6140, dI x6564]), some (.nest (.int .i64) x6585 0 [])]⟩)) := by
  refine Link.of fun K h => ?_
  simp only [spec_l20Scores_n14, wpO_bind, wpO_cond, wpO_map, wpO_some] at h
  exact Awp.of (by kernel_rfl) h

def spec_l20Scores_n15_l (x6139 : Int) (x6491 : Int) (x6497 : Int) (x6541 : Int) (x6140 : List Int) (x6542 : Int) (x6543 : List (List Int)) := (link_seq (spec_l20Scores_n13_l x6139 x6491 x6497 x6541 x6140 x6542 x6543) (fun (t : Int × (List (List Int))) => (link_map (fin2 := (fun (t : Int × Int × (List (List Int))) => (Exit.normal, ⟨mkE 66 0 [(0, .ptr 0 0), (1, dI x6139), (5, dI x6491), (6, dI x6497), (7, .slc 1), (8, dI t.1)], [some (.box [dV x6140, dI t.2.1]), some (.nest (.int .i64) t.2.2 0 [])]⟩))) (spec_l20Scores_n14_l x6139 x6491 x6497 x6541 x6140 t.1 t.2) (fun (u : Int) => (u, t.1, t.2)) (by
  rintro t
  · kernel_rfl))))

def spec_l20Scores_n16_l (x6139 : Int) (x6491 : Int) (x6497 : Int) (x6541 : Int) (x6140 : List Int) (x6542 : Int) (x6543 : List (List Int)) := (link_seq2 (spec_l20Scores_n3_l x6139 x6491 x6497 x6541 x6140 x6542 x6543) (fun (t : Unit) => (link_map (fin2 := (Sum.elim (fun (t : Int × Int × (List (List Int))) => (Exit.normal, ⟨mkE 66 0 [(0, .ptr 0 0), (1, dI x6139), (5, dI x6491), (6, dI x6497), (7, .slc 1), (8, dI t.1)], [some (.box [dV x6140, dI t.2.1]), some (.nest (.int .i64) t.2.2 0 [])]⟩)) (fun (t : Int × (List (List Int))) => ((Exit.exit 0), ⟨mkE 66 0 [(0, .ptr 0 0), (1, dI x6139), (7, .slc 1)], [some (.box [dV x6140, dI t.1]), some (.nest (.int .i64) t.2 0 [])]⟩)))) (spec_l20Scores_n15_l x6139 x6491 x6497 x6541 x6140 x6542 x6543) (fun (t : Int × Int × (List (List Int))) => (Sum.inl (t.1, t.2.1, t.2.2))) (by
  rintro t
  · kernel_rfl))) (fun (t : Int × (List (List Int))) => (Sum.inr t)) (by
  rintro t
  · kernel_rfl) (by
  rintro t f K h
  · exact h))

def spec_l20Scores_n17_l (x6139 : Int) (x6491 : Int) (x6497 : Int) (x6140 : List Int) (x6495 : Int) := (link_loop (mk := fun (s : Int × Int × (List (List Int))) => ⟨mkE 66 0 [(0, .ptr 0 0), (1, dI x6139), (5, dI x6491), (6, dI x6497), (7, .slc 1), (8, dI s.1)], [some (.box [dV x6140, dI s.2.1]), some (.nest (.int .i64) s.2.2 0 [])]⟩) (fin := (fun (t : Int × (List (List Int))) => ((Exit.exit 0), ⟨mkE 66 0 [(0, .ptr 0 0), (1, dI x6139), (7, .slc 1)], [some (.box [dV x6140, dI t.1]), some (.nest (.int .i64) t.2 0 [])]⟩))) (by
  rintro t f K h
  · exact h) (fun s => link_map (spec_l20Scores_n16_l x6139 x6491 x6497 s.1 x6140 s.2.1 s.2.2) (Sum.elim (fun (t : Int × Int × (List (List Int))) => Sum.inl (t.1, t.2.1, t.2.2)) (fun (t : Int × (List (List Int))) => Sum.inr t)) (by
  rintro (t | t)
  · kernel_rfl
  · kernel_rfl)) (0, x6495, ([] : List (List Int))))

def spec_l20Scores_n18_l (x6139 : Int) (x6491 : Int) (x6497 : Int) (x6140 : List Int) (x6495 : Int) := (link_block (fin2 := (fun (t : Int × (List (List Int))) => (Exit.normal, ⟨mkE 66 0 [(0, .ptr 0 0), (1, dI x6139), (7, .slc 1)], [some (.box [dV x6140, dI t.1]), some (.nest (.int .i64) t.2 0 [])]⟩))) (id := 0) (spec_l20Scores_n17_l x6139 x6491 x6497 x6140 x6495) (fun (t : Int × (List (List Int))) => (t.1, t.2)) (by
  rintro t K h
  · exact Eq.mp (by kernel_rfl) h))

def spec_l20Scores_n19_l (x6139 : Int) (x6491 : Int) (x6497 : Int) (x6140 : List Int) (x6495 : Int) := (link_seq (spec_l20Scores_n2_l x6139 x6491 x6497 x6140 x6495) (fun (t : Unit) => (spec_l20Scores_n18_l x6139 x6491 x6497 x6140 x6495)))

theorem spec_l20Scores_n20_l (x6139 : Int) (x6140 : List Int) (x6542 : Int) (x6543 : List (List Int)) : Link spec_l20Scores_ctx LL (cq [1,1,1,1,1] (bodyOf Tryd.f12)) (aq [1,1,1,1,1] spec_l20Scores_an) ⟨mkE 66 0 [(0, .ptr 0 0), (1, dI x6139), (7, .slc 1)], [some (.box [dV x6140, dI x6542]), some (.nest (.int .i64) x6543 0 [])]⟩ (spec_l20Scores_n20 x6139 x6140 x6542 x6543) (fun (t : Int × (List (List Int))) => (Exit.ret, ⟨mkE 66 0 [(4, .slc 1)], [some (.box [dV x6140, dI t.1]), some (.nest (.int .i64) t.2 0 [])]⟩)) := by
  refine Link.of fun K h => ?_
  simp only [spec_l20Scores_n20, wpO_bind, wpO_cond, wpO_map, wpO_some] at h
  exact Awp.of (by kernel_rfl) h

def spec_l20Scores_n21_l (x6139 : Int) (x6491 : Int) (x6497 : Int) (x6140 : List Int) (x6495 : Int) := (link_seq (spec_l20Scores_n19_l x6139 x6491 x6497 x6140 x6495) (fun (t : Int × (List (List Int))) => (spec_l20Scores_n20_l x6139 x6140 t.1 t.2)))

def spec_l20Scores_n22_l (x6139 : Int) (x6140 : List Int) (x6141 : Int) := (link_group (c := (cq [0,1,1,1] (bodyOf Tryd.f12))) (a := (aq [0,1,1,1] spec_l20Scores_an)) [(cq [0] (bodyOf Tryd.f12)), (cq [0,1] (bodyOf Tryd.f12)), (cq [0,1,1] (bodyOf Tryd.f12))] [(aq [0] spec_l20Scores_an), (aq [0,1] spec_l20Scores_an), (aq [0,1,1] spec_l20Scores_an)] rfl (link_seq (spec_l20Scores_n1_l x6139 x6140 x6141) (fun (t : Int × Int × Int) => (spec_l20Scores_n21_l x6139 t.1 t.2.1 x6140 t.2.2))))

theorem spec_l20Scores_e (x6139 : Int) (x6140 : List Int) (x6141 : Int) {r : AV} {H' : Heap} (h : (Ans.mk _ (spec_l20Scores x6139 x6140 x6141) (fun (t : Int × (List (List Int))) => (.slc 1, [some (.box [dV x6140, dI t.1]), some (.nest (.int .i64) t.2 0 [])])) [] none).run = some (r, H')) : Awp spec_l20Scores_ctx LL (bodyOf Tryd.f12) spec_l20Scores_an ⟨mkE 66 0 [(0, .ptr 0 0), (1, dI x6139)], [some (.box [dV x6140, dI x6141])]⟩ (Ret (tlook tys) Tryd.f12.results.toList r H') :=
  ret_of' (Link.cast (by kernel_rfl) (by kernel_rfl) (spec_l20Scores_n22_l x6139 x6140 x6141)) (by unfold spec_l20Scores; kernel_rfl) (by
  intro t
  exact ret_mk [.slc 1] (by kernel_rfl) (by kernel_rfl) (by kernel_rfl) (by kernel_rfl)) h

def F_spec_l20Scores : Fun := fun avs H =>
  match avs, H with
  | [.ptr 0 0, .dat (.int .i64) x6139], [some (.box [.dat (.list (.int .u8)) x6140, .dat (.int .i64) x6141])] => ⟨_, spec_l20Scores x6139 x6140 x6141, fun (t : Int × (List (List Int))) => (.slc 1, [some (.box [dV x6140, dI t.1]), some (.nest (.int .i64) t.2 0 [])]), [], none⟩
  | _, _ => Ans.no

theorem spec_l20Scores_sound : Sound Tryd.prog 12 F_spec_l20Scores := by
  refine fn_sound' (C := spec_l20Scores_ctx) (c := bodyOf Tryd.f12) (cok_of tys_ok (allc spec_l20Rd_pick_sound (allc spec_l20Rd_odd_sound alln)) (allc Tryd.call14 (allc Tryd.call15 alln)) (by kernel_rfl)) Tryd.func12 (by kernel_rfl) LL spec_l20Scores_an ?_
  intro avs H r H' h
  unfold F_spec_l20Scores at h
  split at h
  · refine Awp.cast ?_ ?_ ?_ (spec_l20Scores_e _ _ _ h) <;> kernel_rfl
  · simp [Ans.no, Ans.run] at h


/-! loop.example/headtrees/spec.l20Order -/

def spec_l20Order_an : Ann := (.seq (.leaf [0, 1]) (.seq (.leaf [0, 1, 5]) (.seq (.leaf [0, 1, 5, 6]) (.seq (.seq (.leaf [0, 1, 5, 6, 7]) (.block (.loop (.seq (.seq (.leaf [0, 1, 5, 6, 7, 15]) (.cond (.leaf [0, 1, 5, 6, 7]) (.leaf [5]))) (.seq (.block (.seq (.leaf [0, 1, 5, 6, 7, 8]) (.seq (.seq (.leaf [0, 1, 5, 6, 7, 8, 26]) (.cond (.leaf [0, 1, 5, 6, 7, 8]) (.leaf [0, 1, 5, 6, 7, 8]))) (.seq (.leaf [0, 1, 5, 6, 7, 8, 9]) (.seq (.leaf [0, 1, 5, 6, 7, 8, 9]) (.leaf [0, 1, 5, 6, 7])))))) (.leaf [0, 1, 5, 6, 7])))))) (.seq (.leaf [4]) (.leaf [4]))))))

noncomputable def spec_l20Order_ctx : Ctx := ⟨tlook tys, olook [(14, F_spec_l20Rd_pick)], ioF, 1, false, []⟩

theorem spec_l20Order_n1_l (x6679 : Int) (x6680 : List Int) (x6681 : Int) : Link spec_l20Order_ctx LL (Code.seq (cq [0] (bodyOf Tryd.f13)) (Code.seq (cq [0,1] (bodyOf Tryd.f13)) (cq [0,1,1] (bodyOf Tryd.f13)))) (Ann.seq (aq [0] spec_l20Order_an) (Ann.seq (aq [0,1] spec_l20Order_an) (aq [0,1,1] spec_l20Order_an))) ⟨mkE 45 0 [(0, .ptr 0 0), (1, dI x6679)], [some (.box [dV x6680, dI x6681])]⟩ (spec_l20Order_n1 x6680 x6681) (fun (t : Int × Int) => (Exit.normal, ⟨mkE 45 0 [(0, .ptr 0 0), (1, dI x6679), (5, .slc 1), (6, dI t.1)], [some (.box [dV x6680, dI t.2]), some (sI ([] : List Int))]⟩)) := by
  refine Link.of fun K h => ?_
  simp only [spec_l20Order_n1, wpO_bind, wpO_cond, wpO_map, wpO_some] at h
  exact Awp.of (by kernel_rfl) h

theorem spec_l20Order_n2_l (x6679 : Int) (x6683 : Int) (x6680 : List Int) (x6684 : Int) : Link spec_l20Order_ctx LL (cq [0,0,1,1,1] (bodyOf Tryd.f13)) (aq [0,0,1,1,1] spec_l20Order_an) ⟨mkE 45 0 [(0, .ptr 0 0), (1, dI x6679), (5, .slc 1), (6, dI x6683)], [some (.box [dV x6680, dI x6684]), some (sI ([] : List Int))]⟩ (spec_l20Order_n2) (fun (t : Unit) => (Exit.normal, ⟨mkE 45 0 [(0, .ptr 0 0), (1, dI x6679), (5, .slc 1), (6, dI x6683), (7, dI 1)], [some (.box [dV x6680, dI x6684]), some (sI ([] : List Int))]⟩)) := by
  refine Link.of fun K h => ?_
  simp only [spec_l20Order_n2, wpO_bind, wpO_cond, wpO_map, wpO_some] at h
  exact Awp.of (by kernel_rfl) h

theorem spec_l20Order_n3_l (x6679 : Int) (x6683 : Int) (x6826 : Int) (x6680 : List Int) (x6827 : Int) (x6828 : List Int) : Link spec_l20Order_ctx LL (cq [0,0,1,0,1,1,1] (bodyOf Tryd.f13)) (aq [0,0,1,0,1,1,1] spec_l20Order_an) ⟨mkE 45 0 [(0, .ptr 0 0), (1, dI x6679), (5, .slc 1), (6, dI x6683), (7, dI x6826)], [some (.box [dV x6680, dI x6827]), some (sI x6828)]⟩ (spec_l20Order_n3 x6679 x6683 x6826 x6680 x6827 x6828) (Sum.elim (fun (t : Int × Int × (List Int)) => (Exit.normal, ⟨mkE 45 0 [(0, .ptr 0 0), (1, dI x6679), (5, .slc 1), (6, dI x6683), (7, dI t.1)], [some (.box [dV x6680, dI t.2.1]), some (sI t.2.2)]⟩)) (fun (t : Int × (List Int)) => ((Exit.exit 0), ⟨mkE 45 0 [(5, .slc 1)], [some (.box [dV x6680, dI t.1]), some (sI t.2)]⟩))) := by
  refine Link.of fun K h => ?_
  simp only [spec_l20Order_n3, wpO_bind, wpO_cond, wpO_map, wpO_some] at h
  exact Awp.of (by kernel_rfl) h

def spec_l20Order_n4_l (x6679 : Int) (x6683 : Int) (x6680 : List Int) (x6684 : Int) := (link_loop (mk := fun (s : Int × Int × (List Int)) => ⟨mkE 45 0 [(0, .ptr 0 0), (1, dI x6679), (5, .slc 1), (6, dI x6683), (7, dI s.1)], [some (.box [dV x6680, dI s.2.1]), some (sI s.2.2)]⟩) (fin := (fun (t : Int × (List Int)) => ((Exit.exit 0), ⟨mkE 45 0 [(5, .slc 1)], [some (.box [dV x6680, dI t.1]), some (sI t.2)]⟩))) (by
  rintro t f K h
  · exact h) (fun s => link_map (spec_l20Order_n3_l x6679 x6683 s.1 x6680 s.2.1 s.2.2) (Sum.elim (fun (t : Int × Int × (List Int)) => Sum.inl (t.1, t.2.1, t.2.2)) (fun (t : Int × (List Int)) => Sum.inr t)) (by
  rintro (t | t)
  · kernel_rfl
  · kernel_rfl)) (1, x6684, ([] : List Int)))

def spec_l20Order_n5_l (x6679 : Int) (x6683 : Int) (x6680 : List Int) (x6684 : Int) := (link_block (fin2 := (fun (t : Int × (List Int)) => (Exit.normal, ⟨mkE 45 0 [(5, .slc 1)], [some (.box [dV x6680, dI t.1]), some (sI t.2)]⟩))) (id := 0) (spec_l20Order_n4_l x6679 x6683 x6680 x6684) (fun (t : Int × (List Int)) => (t.1, t.2)) (by
  rintro t K h
  · exact Eq.mp (by kernel_rfl) h))

def spec_l20Order_n6_l (x6679 : Int) (x6683 : Int) (x6680 : List Int) (x6684 : Int) := (link_seq (spec_l20Order_n2_l x6679 x6683 x6680 x6684) (fun (t : Unit) => (spec_l20Order_n5_l x6679 x6683 x6680 x6684)))

theorem spec_l20Order_n7_l (x6680 : List Int) (x6827 : Int) (x6828 : List Int) : Link spec_l20Order_ctx LL (cq [1,1,1,1] (bodyOf Tryd.f13)) (aq [1,1,1,1] spec_l20Order_an) ⟨mkE 45 0 [(5, .slc 1)], [some (.box [dV x6680, dI x6827]), some (sI x6828)]⟩ (spec_l20Order_n7 x6827 x6828) (fun (t : Int × (List Int)) => (Exit.ret, ⟨mkE 45 0 [(4, .slc 1)], [some (.box [dV x6680, dI t.1]), some (sI t.2)]⟩)) := by
  refine Link.of fun K h => ?_
  simp only [spec_l20Order_n7, wpO_bind, wpO_cond, wpO_map, wpO_some] at h
  exact Awp.of (by kernel_rfl) h

def spec_l20Order_n8_l (x6679 : Int) (x6683 : Int) (x6680 : List Int) (x6684 : Int) := (link_seq (spec_l20Order_n6_l x6679 x6683 x6680 x6684) (fun (t : Int × (List Int)) => (spec_l20Order_n7_l x6680 t.1 t.2)))

def spec_l20Order_n9_l (x6679 : Int) (x6680 : List Int) (x6681 : Int) := (link_group (c := (cq [0,1,1] (bodyOf Tryd.f13))) (a := (aq [0,1,1] spec_l20Order_an)) [(cq [0] (bodyOf Tryd.f13)), (cq [0,1] (bodyOf Tryd.f13))] [(aq [0] spec_l20Order_an), (aq [0,1] spec_l20Order_an)] rfl (link_seq (spec_l20Order_n1_l x6679 x6680 x6681) (fun (t : Int × Int) => (spec_l20Order_n8_l x6679 t.1 x6680 t.2))))

theorem spec_l20Order_e (x6679 : Int) (x6680 : List Int) (x6681 : Int) {r : AV} {H' : Heap} (h : (Ans.mk _ (spec_l20Order x6679 x6680 x6681) (fun (t : Int × (List Int)) => (.slc 1, [some (.box [dV x6680, dI t.1]), some (sI t.2)])) [] none).run = some (r, H')) : Awp spec_l20Order_ctx LL (bodyOf Tryd.f13) spec_l20Order_an ⟨mkE 45 0 [(0, .ptr 0 0), (1, dI x6679)], [some (.box [dV x6680, dI x6681])]⟩ (Ret (tlook tys) Tryd.f13.results.toList r H') :=
  ret_of' (Link.cast (by kernel_rfl) (by kernel_rfl) (spec_l20Order_n9_l x6679 x6680 x6681)) (by unfold spec_l20Order; kernel_rfl) (by
  intro t
  exact ret_mk [.slc 1] (by kernel_rfl) (by kernel_rfl) (by kernel_rfl) (by kernel_rfl)) h

def F_spec_l20Order : Fun := fun avs H =>
  match avs, H with
  | [.ptr 0 0, .dat (.int .i64) x6679], [some (.box [.dat (.list (.int .u8)) x6680, .dat (.int .i64) x6681])] => ⟨_, spec_l20Order x6679 x6680 x6681, fun (t : Int × (List Int)) => (.slc 1, [some (.box [dV x6680, dI t.1]), some (sI t.2)]), [], none⟩
  | _, _ => Ans.no

theorem spec_l20Order_sound : Sound Tryd.prog 13 F_spec_l20Order := by
  refine fn_sound' (C := spec_l20Order_ctx) (c := bodyOf Tryd.f13) (cok_of tys_ok (allc spec_l20Rd_pick_sound alln) (allc Tryd.call14 alln) (by kernel_rfl)) Tryd.func13 (by kernel_rfl) LL spec_l20Order_an ?_
  intro avs H r H' h
  unfold F_spec_l20Order at h
  split at h
  · refine Awp.cast ?_ ?_ ?_ (spec_l20Order_e _ _ _ h) <;> kernel_rfl
  · simp [Ans.no, Ans.run] at h


/-! loop.example/headtrees/spec.l20Tree -/

def spec_l20Tree_an : Ann := (.seq (.leaf [0, 1]) (.seq (.leaf [0, 1, 5]) (.seq (.leaf [0, 1, 5, 6]) (.seq (.leaf [0, 1, 5, 6, 7]) (.seq (.leaf [0, 1, 5, 6, 7, 8]) (.seq (.seq (.leaf [0, 1, 5, 6, 7, 8, 9]) (.block (.loop (.seq (.seq (.leaf [0, 1, 5, 6, 7, 8, 9, 23]) (.cond (.leaf [0, 1, 5, 6, 7, 8, 9]) (.leaf [0, 1, 5, 7]))) (.seq (.block (.seq (.leaf [0, 1, 5, 6, 7, 8, 9, 10]) (.seq (.seq (.leaf [0, 1, 5, 6, 7, 8, 9, 10, 35]) (.cond (.leaf [0, 1, 5, 6, 7, 8, 9, 10]) (.leaf [0, 1, 5, 6, 7, 8, 9, 10]))) (.draw [] [0, 1, 2, 3, 4, 5, 6, 7, 8, 9, 10, 11] [] [0, 1, 5, 6, 7, 8, 9])))) (.leaf [0, 1, 5, 6, 7, 8, 9])))))) (.seq (.seq (.leaf [0, 5, 7, 51]) (.cond (.seq (.leaf [0, 5, 7, 53]) (.block (.seq (.leaf [0, 5, 7, 53, 63]) (.cond (.seq (.leaf [4]) (.leaf [4])) (.seq (.leaf [0, 5, 7, 53, 66]) (.cond (.seq (.leaf [4]) (.leaf [4])) (.seq (.leaf [0, 5, 7, 69]) (.cond (.seq (.leaf [7]) (.seq (.leaf [4]) (.leaf [4]))) (.leaf [7]))))))))) (.leaf [7]))) (.seq (.leaf [4]) (.leaf [4])))))))))

noncomputable def spec_l20Tree_ctx : Ctx := ⟨tlook tys, olook [(14, F_spec_l20Rd_pick), (13, F_spec_l20Order), (15, F_spec_l20Rd_odd)], ioF, 1, false, []⟩

theorem spec_l20Tree_n1_l (x7384 : Int) (x7385 : List Int) (x7386 : Int) : Link spec_l20Tree_ctx LL (Code.seq (cq [0] (bodyOf Tryd.f16)) (Code.seq (cq [0,1] (bodyOf Tryd.f16)) (Code.seq (cq [0,1,1] (bodyOf Tryd.f16)) (Code.seq (cq [0,1,1,1] (bodyOf Tryd.f16)) (cq [0,1,1,1,1] (bodyOf Tryd.f16)))))) (Ann.seq (aq [0] spec_l20Tree_an) (Ann.seq (aq [0,1] spec_l20Tree_an) (Ann.seq (aq [0,1,1] spec_l20Tree_an) (Ann.seq (aq [0,1,1,1] spec_l20Tree_an) (aq [0,1,1,1,1] spec_l20Tree_an))))) ⟨mkE 80 0 [(0, .ptr 0 0), (1, dI x7384)], [some (.box [dV x7385, dI x7386])]⟩ (spec_l20Tree_n1 x7385 x7386) (fun (t : Int × Int × Int × (List Int) × (List Int)) => (Exit.normal, ⟨mkE 80 0 [(0, .ptr 0 0), (1, dI x7384), (5, dI t.1), (6, .slc 1), (7, .slc 2), (8, dI t.2.1)], [some (.box [dV x7385, dI t.2.2.1]), some (sI t.2.2.2.1), some (sI t.2.2.2.2)]⟩)) := by
  refine Link.of fun K h => ?_
  simp only [spec_l20Tree_n1, wpO_bind, wpO_cond, wpO_map, wpO_some] at h
  exact Awp.of (by kernel_rfl) h

theorem spec_l20Tree_n2_l (x7384 : Int) (x7410 : Int) (x7417 : Int) (x7385 : List Int) (x7418 : Int) (x7413 : List Int) (x7415 : List Int) : Link spec_l20Tree_ctx LL (cq [0,0,1,1,1,1,1] (bodyOf Tryd.f16)) (aq [0,0,1,1,1,1,1] spec_l20Tree_an) ⟨mkE 80 0 [(0, .ptr 0 0), (1, dI x7384), (5, dI x7410), (6, .slc 1), (7, .slc 2), (8, dI x7417)], [some (.box [dV x7385, dI x7418]), some (sI x7413), some (sI x7415)]⟩ (spec_l20Tree_n2) (fun (t : Unit) => (Exit.normal, ⟨mkE 80 0 [(0, .ptr 0 0), (1, dI x7384), (5, dI x7410), (6, .slc 1), (7, .slc 2), (8, dI x7417), (9, dI 1)], [some (.box [dV x7385, dI x7418]), some (sI x7413), some (sI x7415)]⟩)) := by
  refine Link.of fun K h => ?_
  simp only [spec_l20Tree_n2, wpO_bind, wpO_cond, wpO_map, wpO_some] at h
  exact Awp.of (by kernel_rfl) h

theorem spec_l20Tree_n3_l (x7384 : Int) (x7410 : Int) (x7417 : Int) (x7488 : Int) (x7385 : List Int) (x7489 : Int) (x7413 : List Int) (x7490 : List Int) : Link spec_l20Tree_ctx LL (cq [0,0,1,0,1,1,1,1,1] (bodyOf Tryd.f16)) (aq [0,0,1,0,1,1,1,1,1] spec_l20Tree_an) ⟨mkE 80 0 [(0, .ptr 0 0), (1, dI x7384), (5, dI x7410), (6, .slc 1), (7, .slc 2), (8, dI x7417), (9, dI x7488)], [some (.box [dV x7385, dI x7489]), some (sI x7413), some (sI x7490)]⟩ (spec_l20Tree_n3 x7410 x7417 x7488 x7385 x7489 x7413 x7490) (Sum.elim (fun (t : Int × Int × (List Int)) => (Exit.normal, ⟨mkE 80 0 [(0, .ptr 0 0), (1, dI x7384), (5, dI x7410), (6, .slc 1), (7, .slc 2), (8, dI x7417), (9, dI t.1)], [some (.box [dV x7385, dI t.2.1]), some (sI x7413), some (sI t.2.2)]⟩)) (fun (t : Int × (List Int)) => ((Exit.exit 0), ⟨mkE 80 0 [(0, .ptr 0 0), (1, dI x7384), (5, dI x7410), (7, .slc 1)], [some (.box [dV x7385, dI t.1]), some (sI t.2)]⟩))) := by
  refine Link.of fun K h => ?_
  simp only [spec_l20Tree_n3, wpO_bind, wpO_cond, wpO_map, wpO_some] at h
  exact Awp.of (by kernel_rfl) h

def spec_l20Tree_n4_l (x7384 : Int) (x7410 : Int) (x7417 : Int) (x7385 : List Int) (x7418 : Int) (x7413 : List Int) (x7415 : List Int) := (link_loop (mk := fun (s : Int × Int × (List Int)) => ⟨mkE 80 0 [(0, .ptr 0 0), (1, dI x7384), (5, dI x7410), (6, .slc 1), (7, .slc 2), (8, dI x7417), (9, dI s.1)], [some (.box [dV x7385, dI s.2.1]), some (sI x7413), some (sI s.2.2)]⟩) (fin := (fun (t : Int × (List Int)) => ((Exit.exit 0), ⟨mkE 80 0 [(0, .ptr 0 0), (1, dI x7384), (5, dI x7410), (7, .slc 1)], [some (.box [dV x7385, dI t.1]), some (sI t.2)]⟩))) (by
  rintro t f K h
  · exact h) (fun s => link_map (spec_l20Tree_n3_l x7384 x7410 x7417 s.1 x7385 s.2.1 x7413 s.2.2) (Sum.elim (fun (t : Int × Int × (List Int)) => Sum.inl (t.1, t.2.1, t.2.2)) (fun (t : Int × (List Int)) => Sum.inr t)) (by
  rintro (t | t)
  · kernel_rfl
  · kernel_rfl)) (1, x7418, x7415))

def spec_l20Tree_n5_l (x7384 : Int) (x7410 : Int) (x7417 : Int) (x7385 : List Int) (x7418 : Int) (x7413 : List Int) (x7415 : List Int) := (link_block (fin2 := (fun (t : Int × (List Int)) => (Exit.normal, ⟨mkE 80 0 [(0, .ptr 0 0), (1, dI x7384), (5, dI x7410), (7, .slc 1)], [some (.box [dV x7385, dI t.1]), some (sI t.2)]⟩))) (id := 0) (spec_l20Tree_n4_l x7384 x7410 x7417 x7385 x7418 x7413 x7415) (fun (t : Int × (List Int)) => (t.1, t.2)) (by
  rintro t K h
  · exact Eq.mp (by kernel_rfl) h))

def spec_l20Tree_n6_l (x7384 : Int) (x7410 : Int) (x7417 : Int) (x7385 : List Int) (x7418 : Int) (x7413 : List Int) (x7415 : List Int) := (link_seq (spec_l20Tree_n2_l x7384 x7410 x7417 x7385 x7418 x7413 x7415) (fun (t : Unit) => (spec_l20Tree_n5_l x7384 x7410 x7417 x7385 x7418 x7413 x7415)))

theorem spec_l20Tree_n7_l (x7384 : Int) (x7410 : Int) (x7385 : List Int) (x7489 : Int) (x7490 : List Int) : Link spec_l20Tree_ctx LL (cq [1,1,1,1,1,1] (bodyOf Tryd.f16)) (aq [1,1,1,1,1,1] spec_l20Tree_an) ⟨mkE 80 0 [(0, .ptr 0 0), (1, dI x7384), (5, dI x7410), (7, .slc 1)], [some (.box [dV x7385, dI x7489]), some (sI x7490)]⟩ (spec_l20Tree_n7 x7384 x7410 x7385 x7489 x7490) (fun (t : Int × (List Int)) => (Exit.ret, ⟨mkE 80 0 [(4, .slc 1)], [some (.box [dV x7385, dI t.1]), some (sI t.2)]⟩)) := by
  refine Link.of fun K h => ?_
  simp only [spec_l20Tree_n7, wpO_bind, wpO_cond, wpO_map, wpO_some] at h
  exact Awp.of (by kernel_rfl) h

def spec_l20Tree_n8_l (x7384 : Int) (x7410 : Int) (x7417 : Int) (x7385 : List Int) (x7418 : Int) (x7413 : List Int) (x7415 : List Int) := (link_seq (spec_l20Tree_n6_l x7384 x7410 x7417 x7385 x7418 x7413 x7415) (fun (t : Int × (List Int)) => (spec_l20Tree_n7_l x7384 x7410 x7385 t.1 t.2)))

def spec_l20Tree_n9_l (x7384 : Int) (x7385 : List Int) (x7386 : Int) := (link_group (c := (cq [0,1,1,1,1] (bodyOf Tryd.f16))) (a := (aq [0,1,1,1,1] spec_l20Tree_an)) [(cq [0] (bodyOf Tryd.f16)), (cq [0,1] (bodyOf Tryd.f16)), (cq [0,1,1] (bodyOf Tryd.f16)), (cq [0,1,1,1] (bodyOf Tryd.f16))] [(aq [0] spec_l20Tree_an), (aq [0,1] spec_l20Tree_an), (aq [0,1,1] spec_l20Tree_an), (aq [0,1,1,1] spec_l20Tree_an)] rfl (link_seq (spec_l20Tree_n1_l x7384 x7385 x7386) (fun (t : Int × Int × Int × (List Int) × (List Int)) => (spec_l20Tree_n8_l x7384 t.1 t.2.1 x7385 t.2.2.1 t.2.2.2.1 t.2.2.2.2))))

theorem spec_l20Tree_e (x7384 : Int) (x7385 : List Int) (x7386 : Int) {r : AV} {H' : Heap} (h : (Ans.mk _ (spec_l20Tree x7384 x7385 x7386) (fun (t : Int × (List Int)) => (.slc 1, [some (.box [dV x7385, dI t.1]), some (sI t.2)])) [] none).run = some (r, H')) : Awp spec_l20Tree_ctx LL (bodyOf Tryd.f16) spec_l20Tree_an ⟨mkE 80 0 [(0, .ptr 0 0), (1, dI x7384)], [some (.box [dV x7385, dI x7386])]⟩ (Ret (tlook tys) Tryd.f16.results.toList r H') :=
  ret_of' (Link.cast (by kernel_rfl) (by kernel_rfl) (spec_l20Tree_n9_l x7384 x7385 x7386)) (by unfold spec_l20Tree; kernel_rfl) (by
  intro t
  exact ret_mk [.slc 1] (by kernel_rfl) (by kernel_rfl) (by kernel_rfl) (by kernel_rfl)) h

def F_spec_l20Tree : Fun := fun avs H =>
  match avs, H with
  | [.ptr 0 0, .dat (.int .i64) x7384], [some (.box [.dat (.list (.int .u8)) x7385, .dat (.int .i64) x7386])] => ⟨_, spec_l20Tree x7384 x7385 x7386, fun (t : Int × (List Int)) => (.slc 1, [some (.box [dV x7385, dI t.1]), some (sI t.2)]), [], none⟩
  | _, _ => Ans.no

theorem spec_l20Tree_sound : Sound Tryd.prog 16 F_spec_l20Tree := by
  refine fn_sound' (C := spec_l20Tree_ctx) (c := bodyOf Tryd.f16) (cok_of tys_ok (allc spec_l20Rd_pick_sound (allc spec_l20Order_sound (allc spec_l20Rd_odd_sound alln))) (allc Tryd.call14 (allc Tryd.call13 (allc Tryd.call15 alln))) (by kernel_rfl)) Tryd.func16 (by kernel_rfl) LL spec_l20Tree_an ?_
  intro avs H r H' h
  unfold F_spec_l20Tree at h
  split at h
  · refine Awp.cast ?_ ?_ ?_ (spec_l20Tree_e _ _ _ h) <;> kernel_rfl
  · simp [Ans.no, Ans.run] at h


/-! loop.example/headtrees/spec.DrawScoreOf -/

def spec_DrawScoreOf_an : Ann := (.seq (.leaf [0]) (.seq (.leaf [4]) (.seq (.leaf [4, 5]) (.seq (.leaf [4, 5, 6]) (.seq (.leaf [4, 5, 6, 7]) (.seq (.leaf [4, 5, 6, 7, 8]) (.seq (.seq (.leafF [⟨1, 7, false, none, none⟩] [4, 5, 6, 7, 8, 9]) (.block (.loop (.seq (.seq (.leaf [4, 5, 6, 7, 8, 9, 24]) (.cond (.leafF [⟨0, 7, false, none, none⟩] [4, 5, 6, 7, 8, 9]) (.leaf [4, 5, 8]))) (.seq (.block (.draw [4, 300003] [0, 1, 2, 3, 4, 5, 6, 7, 8, 9, 10, 11, 12, 13] [] [4, 5, 6, 7, 8, 9])) (.leaf [4, 5, 6, 7, 8, 9])))))) (.seq (.seq (.leaf [4, 5, 8, 41]) (.cond (.seq (.leaf [2, 3]) (.leaf [2, 3])) (.leaf [5, 8]))) (.seq (.leaf [2, 3]) (.leaf [2, 3]))))))))))

noncomputable def spec_DrawScoreOf_ctx : Ctx := ⟨tlook tys, olook [(11, F_spec_l20Open), (12, F_spec_l20Scores), (13, F_spec_l20Order), (14, F_spec_l20Rd_pick), (15, F_spec_l20Rd_odd), (16, F_spec_l20Tree)], ioF, 0, true, []⟩

theorem spec_DrawScoreOf_n1_l (x6119 : List Int) : Link spec_DrawScoreOf_ctx LL (Code.seq (cq [0] (bodyOf Tryd.f4)) (Code.seq (cq [0,1] (bodyOf Tryd.f4)) (Code.seq (cq [0,1,1] (bodyOf Tryd.f4)) (Code.seq (cq [0,1,1,1] (bodyOf Tryd.f4)) (Code.seq (cq [0,1,1,1,1] (bodyOf Tryd.f4)) (cq [0,1,1,1,1,1] (bodyOf Tryd.f4))))))) (Ann.seq (aq [0] spec_DrawScoreOf_an) (Ann.seq (aq [0,1] spec_DrawScoreOf_an) (Ann.seq (aq [0,1,1] spec_DrawScoreOf_an) (Ann.seq (aq [0,1,1,1] spec_DrawScoreOf_an) (Ann.seq (aq [0,1,1,1,1] spec_DrawScoreOf_an) (aq [0,1,1,1,1,1] spec_DrawScoreOf_an)))))) ⟨mkE 47 0 [(0, dV x6119)], []⟩ (spec_DrawScoreOf_n1 x6119) (fun (t : Int × (List Int) × Int × (List (List Int)) × (List Int) × (List Int)) => (Exit.normal, ⟨mkE 47 0 [(4, .ptr 0 0), (5, .slc 1), (6, dI t.1), (7, .slc 2), (8, .slc 3)], [some (.box [dV t.2.1, dI t.2.2.1]), some (.nest (.int .i64) t.2.2.2.1 0 []), some (sI t.2.2.2.2.1), some (sI t.2.2.2.2.2)]⟩)) := by
  refine Link.of fun K h => ?_
  simp only [spec_DrawScoreOf_n1, wpO_bind, wpO_cond, wpO_map, wpO_some] at h
  exact Awp.of (by kernel_rfl) h

theorem spec_DrawScoreOf_n2_l (x7332 : Int) (x7327 : List Int) (x7334 : Int) (x7330 : List (List Int)) (x7335 : List Int) (x7337 : List Int) : Link spec_DrawScoreOf_ctx LL (cq [0,0,1,1,1,1,1,1] (bodyOf Tryd.f4)) (aq [0,0,1,1,1,1,1,1] spec_DrawScoreOf_an) ⟨mkE 47 0 [(4, .ptr 0 0), (5, .slc 1), (6, dI x7332), (7, .slc 2), (8, .slc 3)], [some (.box [dV x7327, dI x7334]), some (.nest (.int .i64) x7330 0 []), some (sI x7335), some (sI x7337)]⟩ (spec_DrawScoreOf_n2) (fun (t : Unit) => (Exit.normal, ⟨mkE 47 0 [(4, .ptr 0 0), (5, .slc 1), (6, dI x7332), (7, dL x7335), (8, .slc 2), (9, dI 1)], [some (.box [dV x7327, dI x7334]), some (.nest (.int .i64) x7330 0 []), some (sI x7337)]⟩)) := by
  refine Link.of fun K h => ?_
  simp only [spec_DrawScoreOf_n2, wpO_bind, wpO_cond, wpO_map, wpO_some] at h
  exact Awp.of (by kernel_rfl) h

theorem spec_DrawScoreOf_n3_l (x7332 : Int) (x7335 : List Int) (x7358 : Int) (x7327 : List Int) (x7359 : Int) (x7330 : List (List Int)) (x7360 : List Int) : Link spec_DrawScoreOf_ctx LL (cq [0,0,1,0,1,1,1,1,1,1] (bodyOf Tryd.f4)) (aq [0,0,1,0,1,1,1,1,1,1] spec_DrawScoreOf_an) ⟨mkE 47 0 [(4, .ptr 0 0), (5, .slc 1), (6, dI x7332), (7, dL x7335), (8, .slc 2), (9, dI x7358)], [some (.box [dV x7327, dI x7359]), some (.nest (.int .i64) x7330 0 []), some (sI x7360)]⟩ (spec_DrawScoreOf_n3 x7332 x7335 x7358 x7327 x7359 x7360) (Sum.elim (fun (t : Int × Int × (List Int)) => (Exit.normal, ⟨mkE 47 0 [(4, .ptr 0 0), (5, .slc 1), (6, dI x7332), (7, dL x7335), (8, .slc 2), (9, dI t.1)], [some (.box [dV x7327, dI t.2.1]), some (.nest (.int .i64) x7330 0 []), some (sI t.2.2)]⟩)) (fun (t : Int × (List Int)) => ((Exit.exit 0), ⟨mkE 47 0 [(4, .ptr 0 0), (5, .slc 1), (8, .slc 2)], [some (.box [dV x7327, dI t.1]), some (.nest (.int .i64) x7330 0 []), some (sI t.2)]⟩))) := by
  refine Link.of fun K h => ?_
  simp only [spec_DrawScoreOf_n3, wpO_bind, wpO_cond, wpO_map, wpO_some] at h
  exact Awp.of (by kernel_rfl) h

def spec_DrawScoreOf_n4_l (x7332 : Int) (x7335 : List Int) (x7327 : List Int) (x7334 : Int) (x7330 : List (List Int)) (x7337 : List Int) := (link_loop (mk := fun (s : Int × Int × (List Int)) => ⟨mkE 47 0 [(4, .ptr 0 0), (5, .slc 1), (6, dI x7332), (7, dL x7335), (8, .slc 2), (9, dI s.1)], [some (.box [dV x7327, dI s.2.1]), some (.nest (.int .i64) x7330 0 []), some (sI s.2.2)]⟩) (fin := (fun (t : Int × (List Int)) => ((Exit.exit 0), ⟨mkE 47 0 [(4, .ptr 0 0), (5, .slc 1), (8, .slc 2)], [some (.box [dV x7327, dI t.1]), some (.nest (.int .i64) x7330 0 []), some (sI t.2)]⟩))) (by
  rintro t f K h
  · exact h) (fun s => link_map (spec_DrawScoreOf_n3_l x7332 x7335 s.1 x7327 s.2.1 x7330 s.2.2) (Sum.elim (fun (t : Int × Int × (List Int)) => Sum.inl (t.1, t.2.1, t.2.2)) (fun (t : Int × (List Int)) => Sum.inr t)) (by
  rintro (t | t)
  · kernel_rfl
  · kernel_rfl)) (1, x7334, x7337))

def spec_DrawScoreOf_n5_l (x7332 : Int) (x7335 : List Int) (x7327 : List Int) (x7334 : Int) (x7330 : List (List Int)) (x7337 : List Int) := (link_block (fin2 := (fun (t : Int × (List Int)) => (Exit.normal, ⟨mkE 47 0 [(4, .ptr 0 0), (5, .slc 1), (8, .slc 2)], [some (.box [dV x7327, dI t.1]), some (.nest (.int .i64) x7330 0 []), some (sI t.2)]⟩))) (id := 0) (spec_DrawScoreOf_n4_l x7332 x7335 x7327 x7334 x7330 x7337) (fun (t : Int × (List Int)) => (t.1, t.2)) (by
  rintro t K h
  · exact Eq.mp (by kernel_rfl) h))

def spec_DrawScoreOf_n6_l (x7332 : Int) (x7327 : List Int) (x7334 : Int) (x7330 : List (List Int)) (x7335 : List Int) (x7337 : List Int) := (link_seq (spec_DrawScoreOf_n2_l x7332 x7327 x7334 x7330 x7335 x7337) (fun (t : Unit) => (spec_DrawScoreOf_n5_l x7332 x7335 x7327 x7334 x7330 x7337)))

theorem spec_DrawScoreOf_n7_l (x7327 : List Int) (x7359 : Int) (x7330 : List (List Int)) (x7360 : List Int) : Link spec_DrawScoreOf_ctx LL (cq [1,1,1,1,1,1,1] (bodyOf Tryd.f4)) (aq [1,1,1,1,1,1,1] spec_DrawScoreOf_an) ⟨mkE 47 0 [(4, .ptr 0 0), (5, .slc 1), (8, .slc 2)], [some (.box [dV x7327, dI x7359]), some (.nest (.int .i64) x7330 0 []), some (sI x7360)]⟩ (spec_DrawScoreOf_n7 x7327 x7359 x7330 x7360) (fun (t : (List (List Int)) × (List Int)) => (Exit.ret, ⟨mkE 47 0 [(2, .slc 0), (3, .slc 1)], [some (.nest (.int .i64) t.1 0 []), some (sI t.2)]⟩)) := by
  refine Link.of fun K h => ?_
  simp only [spec_DrawScoreOf_n7, wpO_bind, wpO_cond, wpO_map, wpO_some] at h
  exact Awp.of (by kernel_rfl) h

def spec_DrawScoreOf_n8_l (x7332 : Int) (x7327 : List Int) (x7334 : Int) (x7330 : List (List Int)) (x7335 : List Int) (x7337 : List Int) := (link_seq (spec_DrawScoreOf_n6_l x7332 x7327 x7334 x7330 x7335 x7337) (fun (t : Int × (List Int)) => (spec_DrawScoreOf_n7_l x7327 t.1 x7330 t.2)))

def spec_DrawScoreOf_n9_l (x6119 : List Int) := (link_group (c := (cq [0,1,1,1,1,1] (bodyOf Tryd.f4))) (a := (aq [0,1,1,1,1,1] spec_DrawScoreOf_an)) [(cq [0] (bodyOf Tryd.f4)), (cq [0,1] (bodyOf Tryd.f4)), (cq [0,1,1] (bodyOf Tryd.f4)), (cq [0,1,1,1] (bodyOf Tryd.f4)), (cq [0,1,1,1,1] (bodyOf Tryd.f4))] [(aq [0] spec_DrawScoreOf_an), (aq [0,1] spec_DrawScoreOf_an), (aq [0,1,1] spec_DrawScoreOf_an), (aq [0,1,1,1] spec_DrawScoreOf_an), (aq [0,1,1,1,1] spec_DrawScoreOf_an)] rfl (link_seq (spec_DrawScoreOf_n1_l x6119) (fun (t : Int × (List Int) × Int × (List (List Int)) × (List Int) × (List Int)) => (spec_DrawScoreOf_n8_l t.1 t.2.1 t.2.2.1 t.2.2.2.1 t.2.2.2.2.1 t.2.2.2.2.2))))

theorem spec_DrawScoreOf_e (x6119 : List Int) {r : AV} {H' : Heap} (h : (Ans.mk _ (spec_DrawScoreOf x6119) (fun (t : (List (List Int)) × (List Int)) => (.tup [.slc 0, .slc 1], [some (.nest (.int .i64) t.1 0 []), some (sI t.2)])) [] none).run = some (r, H')) : Awp spec_DrawScoreOf_ctx LL (bodyOf Tryd.f4) spec_DrawScoreOf_an ⟨mkE 47 0 [(0, dV x6119)], []⟩ (Ret (tlook tys) Tryd.f4.results.toList r H') :=
  ret_of' (Link.cast (by kernel_rfl) (by kernel_rfl) (spec_DrawScoreOf_n9_l x6119)) (by unfold spec_DrawScoreOf; kernel_rfl) (by
  intro t
  exact ret_mk [.slc 0, .slc 1] (by kernel_rfl) (by kernel_rfl) (by kernel_rfl) (by kernel_rfl)) h

def F_spec_DrawScoreOf : Fun := fun avs H =>
  match avs, H with
  | [.dat (.list (.int .u8)) x6119], [] => ⟨_, spec_DrawScoreOf x6119, fun (t : (List (List Int)) × (List Int)) => (.tup [.slc 0, .slc 1], [some (.nest (.int .i64) t.1 0 []), some (sI t.2)]), [], none⟩
  | _, _ => Ans.no

theorem spec_DrawScoreOf_sound : Sound Tryd.prog 4 F_spec_DrawScoreOf := by
  refine fn_sound' (C := spec_DrawScoreOf_ctx) (c := bodyOf Tryd.f4) (cok_of tys_ok (allc spec_l20Open_sound (allc spec_l20Scores_sound (allc spec_l20Order_sound (allc spec_l20Rd_pick_sound (allc spec_l20Rd_odd_sound (allc spec_l20Tree_sound alln)))))) (allc Tryd.call11 (allc Tryd.call12 (allc Tryd.call13 (allc Tryd.call14 (allc Tryd.call15 (allc Tryd.call16 alln)))))) (by kernel_rfl)) Tryd.func4 (by kernel_rfl) LL spec_DrawScoreOf_an ?_
  intro avs H r H' h
  unfold F_spec_DrawScoreOf at h
  split at h
  · refine Awp.cast ?_ ?_ ?_ (spec_DrawScoreOf_e _ h) <;> kernel_rfl
  · simp [Ans.no, Ans.run] at h


/-! slices.Min[[]int,int] -/

def slices_Min_int_int_an : Ann := (.seq (.leaf [0]) (.seq (.seq (.leaf [0, 7]) (.cond (.leaf [0]) (.leaf [0]))) (.seq (.leaf [0, 3]) (.seq (.seq (.leaf [0, 3, 4]) (.block (.loop (.seq (.seq (.leaf [0, 3, 4, 15]) (.cond (.leaf [0, 3, 4]) (.leaf [3]))) (.seq (.block (.leaf [0, 3, 4])) (.leaf [0, 3, 4])))))) (.seq (.leaf [2]) (.leaf [2]))))))

noncomputable def slices_Min_int_int_ctx : Ctx := ⟨tlook tys, olook [], ioF, 0, false, []⟩

theorem slices_Min_int_int_n1_l (x7688 : List Int) : Link slices_Min_int_int_ctx LL (Code.seq (cq [0] (bodyOf Tryd.f36)) (Code.seq (cq [0,1] (bodyOf Tryd.f36)) (cq [0,1,1] (bodyOf Tryd.f36)))) (Ann.seq (aq [0] slices_Min_int_int_an) (Ann.seq (aq [0,1] slices_Min_int_int_an) (aq [0,1,1] slices_Min_int_int_an))) ⟨mkE 25 0 [(0, dL x7688)], []⟩ (slices_Min_int_int_n1 x7688) (fun (t : Int) => (Exit.normal, ⟨mkE 25 0 [(0, dL x7688), (3, dI t)], []⟩)) := by
  refine Link.of fun K h => ?_
  simp only [slices_Min_int_int_n1, wpO_bind, wpO_cond, wpO_map, wpO_some, wpO_none] at h
  exact Awp.of (by kernel_rfl) h

theorem slices_Min_int_int_n2_l (x7688 : List Int) (x7693 : Int) : Link slices_Min_int_int_ctx LL (cq [0,0,1,1,1] (bodyOf Tryd.f36)) (aq [0,0,1,1,1] slices_Min_int_int_an) ⟨mkE 25 0 [(0, dL x7688), (3, dI x7693)], []⟩ (slices_Min_int_int_n2) (fun (t : Unit) => (Exit.normal, ⟨mkE 25 0 [(0, dL x7688), (3, dI x7693), (4, dI 1)], []⟩)) := by
  refine Link.of fun K h => ?_
  simp only [slices_Min_int_int_n2, wpO_bind, wpO_cond, wpO_map, wpO_some] at h
  exact Awp.of (by kernel_rfl) h

theorem slices_Min_int_int_n3_l (x7688 : List Int) (x7705 : Int) (x7706 : Int) : Link slices_Min_int_int_ctx LL (cq [0,0,1,0,1,1,1] (bodyOf Tryd.f36)) (aq [0,0,1,0,1,1,1] slices_Min_int_int_an) ⟨mkE 25 0 [(0, dL x7688), (3, dI x7705), (4, dI x7706)], []⟩ (slices_Min_int_int_n3 x7688 x7705 x7706) (Sum.elim (fun (t : Int × Int) => (Exit.normal, ⟨mkE 25 0 [(0, dL x7688), (3, dI t.1), (4, dI t.2)], []⟩)) (fun (t : Int) => ((Exit.exit 0), ⟨mkE 25 0 [(3, dI t)], []⟩))) := by
  refine Link.of fun K h => ?_
  simp only [slices_Min_int_int_n3, wpO_bind, wpO_cond, wpO_map, wpO_some] at h
  exact Awp.of (by kernel_rfl) h

def slices_Min_int_int_n4_l (x7688 : List Int) (x7693 : Int) := (link_loop (mk := fun (s : Int × Int) => ⟨mkE 25 0 [(0, dL x7688), (3, dI s.1), (4, dI s.2)], []⟩) (fin := (fun (t : Int) => ((Exit.exit 0), ⟨mkE 25 0 [(3, dI t)], []⟩))) (by
  rintro t f K h
  · exact h) (fun s => link_map (slices_Min_int_int_n3_l x7688 s.1 s.2) (Sum.elim (fun (t : Int × Int) => Sum.inl (t.1, t.2)) (fun (t : Int) => Sum.inr t)) (by
  rintro (t | t)
  · kernel_rfl
  · kernel_rfl)) (x7693, 1))

def slices_Min_int_int_n5_l (x7688 : List Int) (x7693 : Int) := (link_block (fin2 := (fun (t : Int) => (Exit.normal, ⟨mkE 25 0 [(3, dI t)], []⟩))) (id := 0) (slices_Min_int_int_n4_l x7688 x7693) (fun (t : Int) => t) (by
  rintro t K h
  · exact Eq.mp (by kernel_rfl) h))

def slices_Min_int_int_n6_l (x7688 : List Int) (x7693 : Int) := (link_seq (slices_Min_int_int_n2_l x7688 x7693) (fun (t : Unit) => (slices_Min_int_int_n5_l x7688 x7693)))

theorem slices_Min_int_int_n7_l (x7705 : Int) : Link slices_Min_int_int_ctx LL (cq [1,1,1,1] (bodyOf Tryd.f36)) (aq [1,1,1,1] slices_Min_int_int_an) ⟨mkE 25 0 [(3, dI x7705)], []⟩ (slices_Min_int_int_n7 x7705) (fun (t : Int) => (Exit.ret, ⟨mkE 25 0 [(2, dI t)], []⟩)) := by
  refine Link.of fun K h => ?_
  simp only [slices_Min_int_int_n7, wpO_bind, wpO_cond, wpO_map, wpO_some] at h
  exact Awp.of (by kernel_rfl) h

def slices_Min_int_int_n8_l (x7688 : List Int) (x7693 : Int) := (link_seq (slices_Min_int_int_n6_l x7688 x7693) (fun (t : Int) => (slices_Min_int_int_n7_l t)))

def slices_Min_int_int_n9_l (x7688 : List Int) := (link_group (c := (cq [0,1,1] (bodyOf Tryd.f36))) (a := (aq [0,1,1] slices_Min_int_int_an)) [(cq [0] (bodyOf Tryd.f36)), (cq [0,1] (bodyOf Tryd.f36))] [(aq [0] slices_Min_int_int_an), (aq [0,1] slices_Min_int_int_an)] rfl (link_seq (slices_Min_int_int_n1_l x7688) (fun (t : Int) => (slices_Min_int_int_n8_l x7688 t))))

theorem slices_Min_int_int_e (x7688 : List Int) {r : AV} {H' : Heap} (h : (Ans.mk _ (slices_Min_int_int x7688) (fun (t : Int) => (dI t, [])) [] none).run = some (r, H')) : Awp slices_Min_int_int_ctx LL (bodyOf Tryd.f36) slices_Min_int_int_an ⟨mkE 25 0 [(0, dL x7688)], []⟩ (Ret (tlook tys) Tryd.f36.results.toList r H') :=
  ret_of' (Link.cast (by kernel_rfl) (by kernel_rfl) (slices_Min_int_int_n9_l x7688)) (by unfold slices_Min_int_int; kernel_rfl) (by
  intro t
  exact ret_mk [dI t] (by kernel_rfl) (by kernel_rfl) (by kernel_rfl) (by kernel_rfl)) h

def F_slices_Min_int_int : Fun := fun avs H =>
  match avs, H with
  | [.dat (.list (.int .i64)) x7688], [] => ⟨_, slices_Min_int_int x7688, fun (t : Int) => (dI t, []), [], none⟩
  | _, _ => Ans.no

theorem slices_Min_int_int_sound : Sound Tryd.prog 36 F_slices_Min_int_int := by
  refine fn_sound' (C := slices_Min_int_int_ctx) (c := bodyOf Tryd.f36) (cok_of tys_ok (alln) (alln) (by kernel_rfl)) Tryd.func36 (by kernel_rfl) LL slices_Min_int_int_an ?_
  intro avs H r H' h
  unfold F_slices_Min_int_int at h
  split at h
  · refine Awp.cast ?_ ?_ ?_ (slices_Min_int_int_e _ h) <;> kernel_rfl
  · simp [Ans.no, Ans.run] at h


/-! slices.Max[[]int,int] -/

def slices_Max_int_int_an : Ann := (.seq (.leaf [0]) (.seq (.seq (.leaf [0, 7]) (.cond (.leaf [0]) (.leaf [0]))) (.seq (.leaf [0, 3]) (.seq (.seq (.leaf [0, 3, 4]) (.block (.loop (.seq (.seq (.leaf [0, 3, 4, 15]) (.cond (.leaf [0, 3, 4]) (.leaf [3]))) (.seq (.block (.leaf [0, 3, 4])) (.leaf [0, 3, 4])))))) (.seq (.leaf [2]) (.leaf [2]))))))

noncomputable def slices_Max_int_int_ctx : Ctx := ⟨tlook tys, olook [], ioF, 0, false, []⟩

theorem slices_Max_int_int_n1_l (x7720 : List Int) : Link slices_Max_int_int_ctx LL (Code.seq (cq [0] (bodyOf Tryd.f37)) (Code.seq (cq [0,1] (bodyOf Tryd.f37)) (cq [0,1,1] (bodyOf Tryd.f37)))) (Ann.seq (aq [0] slices_Max_int_int_an) (Ann.seq (aq [0,1] slices_Max_int_int_an) (aq [0,1,1] slices_Max_int_int_an))) ⟨mkE 25 0 [(0, dL x7720)], []⟩ (slices_Max_int_int_n1 x7720) (fun (t : Int) => (Exit.normal, ⟨mkE 25 0 [(0, dL x7720), (3, dI t)], []⟩)) := by
  refine Link.of fun K h => ?_
  simp only [slices_Max_int_int_n1, wpO_bind, wpO_cond, wpO_map, wpO_some, wpO_none] at h
  exact Awp.of (by kernel_rfl) h

theorem slices_Max_int_int_n2_l (x7720 : List Int) (x7725 : Int) : Link slices_Max_int_int_ctx LL (cq [0,0,1,1,1] (bodyOf Tryd.f37)) (aq [0,0,1,1,1] slices_Max_int_int_an) ⟨mkE 25 0 [(0, dL x7720), (3, dI x7725)], []⟩ (slices_Max_int_int_n2) (fun (t : Unit) => (Exit.normal, ⟨mkE 25 0 [(0, dL x7720), (3, dI x7725), (4, dI 1)], []⟩)) := by
  refine Link.of fun K h => ?_
  simp only [slices_Max_int_int_n2, wpO_bind, wpO_cond, wpO_map, wpO_some] at h
  exact Awp.of (by kernel_rfl) h

theorem slices_Max_int_int_n3_l (x7720 : List Int) (x7737 : Int) (x7738 : Int) : Link slices_Max_int_int_ctx LL (cq [0,0,1,0,1,1,1] (bodyOf Tryd.f37)) (aq [0,0,1,0,1,1,1] slices_Max_int_int_an) ⟨mkE 25 0 [(0, dL x7720), (3, dI x7737), (4, dI x7738)], []⟩ (slices_Max_int_int_n3 x7720 x7737 x7738) (Sum.elim (fun (t : Int × Int) => (Exit.normal, ⟨mkE 25 0 [(0, dL x7720), (3, dI t.1), (4, dI t.2)], []⟩)) (fun (t : Int) => ((Exit.exit 0), ⟨mkE 25 0 [(3, dI t)], []⟩))) := by
  refine Link.of fun K h => ?_
  simp only [slices_Max_int_int_n3, wpO_bind, wpO_cond, wpO_map, wpO_some] at h
  exact Awp.of (by kernel_rfl) h

def slices_Max_int_int_n4_l (x7720 : List Int) (x7725 : Int) := (link_loop (mk := fun (s : Int × Int) => ⟨mkE 25 0 [(0, dL x7720), (3, dI s.1), (4, dI s.2)], []⟩) (fin := (fun (t : Int) => ((Exit.exit 0), ⟨mkE 25 0 [(3, dI t)], []⟩))) (by
  rintro t f K h
  · exact h) (fun s => link_map (slices_Max_int_int_n3_l x7720 s.1 s.2) (Sum.elim (fun (t : Int × Int) => Sum.inl (t.1, t.2)) (fun (t : Int) => Sum.inr t)) (by
  rintro (t | t)
  · kernel_rfl
  · kernel_rfl)) (x7725, 1))

def slices_Max_int_int_n5_l (x7720 : List Int) (x7725 : Int) := (link_block (fin2 := (fun (t : Int) => (Exit.normal, ⟨mkE 25 0 [(3, dI t)], []⟩))) (id := 0) (slices_Max_int_int_n4_l x7720 x7725) (fun (t : Int) => t) (by
  rintro t K h
  · exact Eq.mp (by kernel_rfl) h))

def slices_Max_int_int_n6_l (x7720 : List Int) (x7725 : Int) := (link_seq (slices_Max_int_int_n2_l x7720 x7725) (fun (t : Unit) => (slices_Max_int_int_n5_l x7720 x7725)))

theorem slices_Max_int_int_n7_l (x7737 : Int) : Link slices_Max_int_int_ctx LL (cq [1,1,1,1] (bodyOf Tryd.f37)) (aq [1,1,1,1] slices_Max_int_int_an) ⟨mkE 25 0 [(3, dI x7737)], []⟩ (slices_Max_int_int_n7 x7737) (fun (t : Int) => (Exit.ret, ⟨mkE 25 0 [(2, dI t)], []⟩)) := by
  refine Link.of fun K h => ?_
  simp only [slices_Max_int_int_n7, wpO_bind, wpO_cond, wpO_map, wpO_some] at h
  exact Awp.of (by kernel_rfl) h

def slices_Max_int_int_n8_l (x7720 : List Int) (x7725 : Int) := (link_seq (slices_Max_int_int_n6_l x7720 x7725) (fun (t : Int) => (slices_Max_int_int_n7_l t)))

def slices_Max_int_int_n9_l (x7720 : List Int) := (link_group (c := (cq [0,1,1] (bodyOf Tryd.f37))) (a := (aq [0,1,1] slices_Max_int_int_an)) [(cq [0] (bodyOf Tryd.f37)), (cq [0,1] (bodyOf Tryd.f37))] [(aq [0] slices_Max_int_int_an), (aq [0,1] slices_Max_int_int_an)] rfl (link_seq (slices_Max_int_int_n1_l x7720) (fun (t : Int) => (slices_Max_int_int_n8_l x7720 t))))

theorem slices_Max_int_int_e (x7720 : List Int) {r : AV} {H' : Heap} (h : (Ans.mk _ (slices_Max_int_int x7720) (fun (t : Int) => (dI t, [])) [] none).run = some (r, H')) : Awp slices_Max_int_int_ctx LL (bodyOf Tryd.f37) slices_Max_int_int_an ⟨mkE 25 0 [(0, dL x7720)], []⟩ (Ret (tlook tys) Tryd.f37.results.toList r H') :=
  ret_of' (Link.cast (by kernel_rfl) (by kernel_rfl) (slices_Max_int_int_n9_l x7720)) (by unfold slices_Max_int_int; kernel_rfl) (by
  intro t
  exact ret_mk [dI t] (by kernel_rfl) (by kernel_rfl) (by kernel_rfl) (by kernel_rfl)) h

def F_slices_Max_int_int : Fun := fun avs H =>
  match avs, H with
  | [.dat (.list (.int .i64)) x7720], [] => ⟨_, slices_Max_int_int x7720, fun (t : Int) => (dI t, []), [], none⟩
  | _, _ => Ans.no

theorem slices_Max_int_int_sound : Sound Tryd.prog 37 F_slices_Max_int_int := by
  refine fn_sound' (C := slices_Max_int_int_ctx) (c := bodyOf Tryd.f37) (cok_of tys_ok (alln) (alln) (by kernel_rfl)) Tryd.func37 (by kernel_rfl) LL slices_Max_int_int_an ?_
  intro avs H r H' h
  unfold F_slices_Max_int_int at h
  split at h
  · refine Awp.cast ?_ ?_ ?_ (slices_Max_int_int_e _ h) <;> kernel_rfl
  · simp [Ans.no, Ans.run] at h


/-! loop.example/headtrees/impl.scoreRowOk -/

def impl_scoreRowOk_an : Ann := (.seq (.leaf [0, 1]) (.seq (.leaf [4]) (.leaf [4])))

noncomputable def impl_scoreRowOk_ctx : Ctx := ⟨tlook tys, olook [(36, F_slices_Min_int_int), (37, F_slices_Max_int_int)], ioF, 0, false, []⟩

theorem impl_scoreRowOk_n1_l (x7683 : List Int) (x7684 : Int) : Link impl_scoreRowOk_ctx LL (bodyOf Tryd.f28) impl_scoreRowOk_an ⟨mkE 20 0 [(0, dL x7683), (1, dI x7684)], []⟩ (impl_scoreRowOk_n1 x7683 x7684) (fun (t : Bool) => (Exit.ret, ⟨mkE 20 0 [(4, dB t)], []⟩)) := by
  refine Link.of fun K h => ?_
  simp only [impl_scoreRowOk_n1, wpO_bind, wpO_cond, wpO_map, wpO_some] at h
  exact Awp.of (by kernel_rfl) h

theorem impl_scoreRowOk_e (x7683 : List Int) (x7684 : Int) {r : AV} {H' : Heap} (h : (Ans.mk _ (impl_scoreRowOk x7683 x7684) (fun (t : Bool) => (dB t, [])) [] none).run = some (r, H')) : Awp impl_scoreRowOk_ctx LL (bodyOf Tryd.f28) impl_scoreRowOk_an ⟨mkE 20 0 [(0, dL x7683), (1, dI x7684)], []⟩ (Ret (tlook tys) Tryd.f28.results.toList r H') :=
  ret_of' (impl_scoreRowOk_n1_l x7683 x7684) (by unfold impl_scoreRowOk; kernel_rfl) (by
  intro t
  exact ret_mk [dB t] (by kernel_rfl) (by kernel_rfl) (by kernel_rfl) (by kernel_rfl)) h

def F_impl_scoreRowOk : Fun := fun avs H =>
  match avs, H with
  | [.dat (.list (.int .i64)) x7683, .dat (.int .i64) x7684], [] => ⟨_, impl_scoreRowOk x7683 x7684, fun (t : Bool) => (dB t, []), [], none⟩
  | _, _ => Ans.no

theorem impl_scoreRowOk_sound : Sound Tryd.prog 28 F_impl_scoreRowOk := by
  refine fn_sound' (C := impl_scoreRowOk_ctx) (c := bodyOf Tryd.f28) (cok_of tys_ok (allc slices_Min_int_int_sound (allc slices_Max_int_int_sound alln)) (allc Tryd.call36 (allc Tryd.call37 alln)) (by kernel_rfl)) Tryd.func28 (by kernel_rfl) LL impl_scoreRowOk_an ?_
  intro avs H r H' h
  unfold F_impl_scoreRowOk at h
  split at h
  · refine Awp.cast ?_ ?_ ?_ (impl_scoreRowOk_e _ _ h) <;> kernel_rfl
  · simp [Ans.no, Ans.run] at h


/-! loop.example/headtrees/impl.ScoresOk -/

def impl_ScoresOk_an : Ann := (.seq (.leaf [0]) (.seq (.seq (.leaf [0, 12]) (.cond (.seq (.leaf [2]) (.leaf [2])) (.leaf [0]))) (.seq (.seq (.leaf [0, 13, 14, 15]) (.block (.loop (.seq (.leaf [0, 13, 14, 15, 16]) (.seq (.cond (.leaf [0, 13, 14, 15]) (.leaf [])) (.seq (.block (.seq (.leaf [0, 4, 13, 14, 15]) (.seq (.leaf [0, 13, 14, 15, 23]) (.cond (.seq (.leaf [2]) (.leaf [2])) (.leaf [0, 13, 14, 15]))))) (.leaf [0, 13, 14, 15]))))))) (.seq (.leaf [2]) (.leaf [2])))))

noncomputable def impl_ScoresOk_ctx : Ctx := ⟨tlook tys, olook [(28, F_impl_scoreRowOk)], ioF, 0, false, []⟩

theorem impl_ScoresOk_n1_l (x7672 : List (List Int)) : Link impl_ScoresOk_ctx LL (Code.seq (cq [0] (bodyOf Tryd.f17)) (cq [0,1] (bodyOf Tryd.f17))) (Ann.seq (aq [0] impl_ScoresOk_an) (aq [0,1] impl_ScoresOk_an)) ⟨mkE 25 0 [(0, .dat (.list (.list (.int .i64))) x7672)], []⟩ (impl_ScoresOk_n1 x7672) (Sum.elim (fun (t : Unit) => (Exit.normal, ⟨mkE 25 0 [(0, .dat (.list (.list (.int .i64))) x7672)], []⟩)) (fun (t : Bool) => (Exit.ret, ⟨mkE 25 0 [(2, dB t)], []⟩))) := by
  refine Link.of fun K h => ?_
  simp only [impl_ScoresOk_n1, wpO_bind, wpO_cond, wpO_map, wpO_some] at h
  exact Awp.of (by kernel_rfl) h

theorem impl_ScoresOk_n2_l (x7672 : List (List Int)) : Link impl_ScoresOk_ctx LL (cq [0,0,1,1] (bodyOf Tryd.f17)) (aq [0,0,1,1] impl_ScoresOk_an) ⟨mkE 25 0 [(0, .dat (.list (.list (.int .i64))) x7672)], []⟩ (impl_ScoresOk_n2 x7672) (fun (t : Int) => (Exit.normal, ⟨mkE 25 0 [(0, .dat (.list (.list (.int .i64))) x7672), (13, .dat (.list (.list (.int .i64))) x7672), (14, dI t), (15, dI 0)], []⟩)) := by
  refine Link.of fun K h => ?_
  simp only [impl_ScoresOk_n2, wpO_bind, wpO_cond, wpO_map, wpO_some] at h
  exact Awp.of (by kernel_rfl) h

theorem impl_ScoresOk_n3_l (x7672 : List (List Int)) (x7677 : Int) (x7768 : Int) : Link impl_ScoresOk_ctx LL (cq [0,0,1,0,1,1] (bodyOf Tryd.f17)) (aq [0,0,1,0,1,1] impl_ScoresOk_an) ⟨mkE 25 0 [(0, .dat (.list (.list (.int .i64))) x7672), (13, .dat (.list (.list (.int .i64))) x7672), (14, dI x7677), (15, dI x7768)], []⟩ (impl_ScoresOk_n3 x7672 x7677 x7768) (Sum.elim (fun (t : Int) => (Exit.normal, ⟨mkE 25 0 [(0, .dat (.list (.list (.int .i64))) x7672), (13, .dat (.list (.list (.int .i64))) x7672), (14, dI x7677), (15, dI t)], []⟩)) (Sum.elim (fun (t : Bool) => (Exit.ret, ⟨mkE 25 0 [(2, dB t)], []⟩)) (fun (t : Unit) => ((Exit.exit 0), ⟨mkE 25 0 [], []⟩)))) := by
  refine Link.of fun K h => ?_
  simp only [impl_ScoresOk_n3, wpO_bind, wpO_cond, wpO_map, wpO_some] at h
  exact Awp.of (by kernel_rfl) h

def impl_ScoresOk_n4_l (x7672 : List (List Int)) (x7677 : Int) := (link_loop (mk := fun (s : Int) => ⟨mkE 25 0 [(0, .dat (.list (.list (.int .i64))) x7672), (13, .dat (.list (.list (.int .i64))) x7672), (14, dI x7677), (15, dI s)], []⟩) (fin := (Sum.elim (fun (t : Bool) => (Exit.ret, ⟨mkE 25 0 [(2, dB t)], []⟩)) (fun (t : Unit) => ((Exit.exit 0), ⟨mkE 25 0 [], []⟩)))) (by
  rintro (t | t) f K h
  · exact h
  · exact h) (fun s => link_map (impl_ScoresOk_n3_l x7672 x7677 s) (Sum.elim (fun (t : Int) => Sum.inl t) (Sum.elim (fun (t : Bool) => Sum.inr (Sum.inl t)) (fun (t : Unit) => Sum.inr (Sum.inr t)))) (by
  rintro (t | t | t)
  · kernel_rfl
  · kernel_rfl
  · kernel_rfl)) 0)

def impl_ScoresOk_n5_l (x7672 : List (List Int)) (x7677 : Int) := (link_block (fin2 := (Sum.elim (fun (t : Unit) => (Exit.normal, ⟨mkE 25 0 [], []⟩)) (fun (t : Bool) => (Exit.ret, ⟨mkE 25 0 [(2, dB t)], []⟩)))) (id := 0) (impl_ScoresOk_n4_l x7672 x7677) (Sum.elim (fun (t : Bool) => (Sum.inr t)) (fun (t : Unit) => (Sum.inl ()))) (by
  rintro (t | t) K h
  · exact Eq.mp (by kernel_rfl) h
  · exact Eq.mp (by kernel_rfl) h))

def impl_ScoresOk_n6_l (x7672 : List (List Int)) := (link_seq (impl_ScoresOk_n2_l x7672) (fun (t : Int) => (impl_ScoresOk_n5_l x7672 t)))

theorem impl_ScoresOk_n7_l : Link impl_ScoresOk_ctx LL (cq [1,1,1] (bodyOf Tryd.f17)) (aq [1,1,1] impl_ScoresOk_an) ⟨mkE 25 0 [], []⟩ (impl_ScoresOk_n7) (fun (t : Bool) => (Exit.ret, ⟨mkE 25 0 [(2, dB t)], []⟩)) := by
  refine Link.of fun K h => ?_
  simp only [impl_ScoresOk_n7, wpO_bind, wpO_cond, wpO_map, wpO_some] at h
  exact Awp.of (by kernel_rfl) h

def impl_ScoresOk_n8_l (x7672 : List (List Int)) := (link_seq2 (impl_ScoresOk_n6_l x7672) (fun (t : Unit) => (impl_ScoresOk_n7_l)) (fun (t : Bool) => t) (by
  rintro t
  · kernel_rfl) (by
  rintro t f K h
  · exact h))

def impl_ScoresOk_n9_l (x7672 : List (List Int)) := (link_group (c := (cq [0,1] (bodyOf Tryd.f17))) (a := (aq [0,1] impl_ScoresOk_an)) [(cq [0] (bodyOf Tryd.f17))] [(aq [0] impl_ScoresOk_an)] rfl (link_seq2 (impl_ScoresOk_n1_l x7672) (fun (t : Unit) => (impl_ScoresOk_n8_l x7672)) (fun (t : Bool) => t) (by
  rintro t
  · kernel_rfl) (by
  rintro t f K h
  · exact h)))

theorem impl_ScoresOk_e (x7672 : List (List Int)) {r : AV} {H' : Heap} (h : (Ans.mk _ (impl_ScoresOk x7672) (fun (t : Bool) => (dB t, [])) [] none).run = some (r, H')) : Awp impl_ScoresOk_ctx LL (bodyOf Tryd.f17) impl_ScoresOk_an ⟨mkE 25 0 [(0, .dat (.list (.list (.int .i64))) x7672)], []⟩ (Ret (tlook tys) Tryd.f17.results.toList r H') :=
  ret_of' (Link.cast (by kernel_rfl) (by kernel_rfl) (impl_ScoresOk_n9_l x7672)) (by unfold impl_ScoresOk; kernel_rfl) (by
  intro t
  exact ret_mk [dB t] (by kernel_rfl) (by kernel_rfl) (by kernel_rfl) (by kernel_rfl)) h

def F_impl_ScoresOk : Fun := fun avs H =>
  match avs, H with
  | [.dat (.list (.list (.int .i64))) x7672], [] => ⟨_, impl_ScoresOk x7672, fun (t : Bool) => (dB t, []), [], none⟩
  | _, _ => Ans.no

theorem impl_ScoresOk_sound : Sound Tryd.prog 17 F_impl_ScoresOk := by
  refine fn_sound' (C := impl_ScoresOk_ctx) (c := bodyOf Tryd.f17) (cok_of tys_ok (allc impl_scoreRowOk_sound alln) (allc Tryd.call28 alln) (by kernel_rfl)) Tryd.func17 (by kernel_rfl) LL impl_ScoresOk_an ?_
  intro avs H r H' h
  unfold F_impl_ScoresOk at h
  split at h
  · refine Awp.cast ?_ ?_ ?_ (impl_ScoresOk_e _ h) <;> kernel_rfl
  · simp [Ans.no, Ans.run] at h


/-! loop.example/headtrees/impl.oneRoot -/

def impl_oneRoot_an : Ann := (.seq (.leaf [0]) (.seq (.leaf [0, 3]) (.seq (.seq (.leaf [0, 3, 6, 7, 8]) (.block (.loop (.seq (.leaf [0, 3, 6, 7, 8, 9]) (.seq (.cond (.leaf [0, 3, 6, 7, 8]) (.leaf [3])) (.seq (.block (.seq (.leaf [0, 3, 5, 6, 7, 8]) (.seq (.seq (.leaf [0, 3, 5, 6, 7, 8, 19]) (.cond (.seq (.leaf [2]) (.leaf [2])) (.leaf [0, 3, 5, 6, 7, 8]))) (.seq (.leaf [0, 3, 6, 7, 8, 21]) (.cond (.leaf [0, 3, 6, 7, 8]) (.leaf [0, 3, 6, 7, 8])))))) (.leaf [0, 3, 6, 7, 8]))))))) (.seq (.leaf [2]) (.leaf [2])))))

noncomputable def impl_oneRoot_ctx : Ctx := ⟨tlook tys, olook [], ioF, 0, false, []⟩

theorem impl_oneRoot_n1_l (x7790 : List Int) : Link impl_oneRoot_ctx LL (Code.seq (cq [0] (bodyOf Tryd.f29)) (cq [0,1] (bodyOf Tryd.f29))) (Ann.seq (aq [0] impl_oneRoot_an) (aq [0,1] impl_oneRoot_an)) ⟨mkE 27 0 [(0, dL x7790)], []⟩ (impl_oneRoot_n1) (fun (t : Unit) => (Exit.normal, ⟨mkE 27 0 [(0, dL x7790), (3, dI 0)], []⟩)) := by
  refine Link.of fun K h => ?_
  simp only [impl_oneRoot_n1, wpO_bind, wpO_cond, wpO_map, wpO_some] at h
  exact Awp.of (by kernel_rfl) h

theorem impl_oneRoot_n2_l (x7790 : List Int) : Link impl_oneRoot_ctx LL (cq [0,0,1,1] (bodyOf Tryd.f29)) (aq [0,0,1,1] impl_oneRoot_an) ⟨mkE 27 0 [(0, dL x7790), (3, dI 0)], []⟩ (impl_oneRoot_n2 x7790) (fun (t : Int) => (Exit.normal, ⟨mkE 27 0 [(0, dL x7790), (3, dI 0), (6, dL x7790), (7, dI t), (8, dI 0)], []⟩)) := by
  refine Link.of fun K h => ?_
  simp only [impl_oneRoot_n2, wpO_bind, wpO_cond, wpO_map, wpO_some] at h
  exact Awp.of (by kernel_rfl) h

theorem impl_oneRoot_n3_l (x7790 : List Int) (x7812 : Int) (x7791 : Int) (x7813 : Int) : Link impl_oneRoot_ctx LL (cq [0,0,1,0,1,1] (bodyOf Tryd.f29)) (aq [0,0,1,0,1,1] impl_oneRoot_an) ⟨mkE 27 0 [(0, dL x7790), (3, dI x7812), (6, dL x7790), (7, dI x7791), (8, dI x7813)], []⟩ (impl_oneRoot_n3 x7790 x7812 x7791 x7813) (Sum.elim (fun (t : Int × Int) => (Exit.normal, ⟨mkE 27 0 [(0, dL x7790), (3, dI t.1), (6, dL x7790), (7, dI x7791), (8, dI t.2)], []⟩)) (Sum.elim (fun (t : Bool) => (Exit.ret, ⟨mkE 27 0 [(2, dB t)], []⟩)) (fun (t : Int) => ((Exit.exit 0), ⟨mkE 27 0 [(3, dI t)], []⟩)))) := by
  refine Link.of fun K h => ?_
  simp only [impl_oneRoot_n3, wpO_bind, wpO_cond, wpO_map, wpO_some] at h
  exact Awp.of (by kernel_rfl) h

def impl_oneRoot_n4_l (x7790 : List Int) (x7791 : Int) := (link_loop (mk := fun (s : Int × Int) => ⟨mkE 27 0 [(0, dL x7790), (3, dI s.1), (6, dL x7790), (7, dI x7791), (8, dI s.2)], []⟩) (fin := (Sum.elim (fun (t : Bool) => (Exit.ret, ⟨mkE 27 0 [(2, dB t)], []⟩)) (fun (t : Int) => ((Exit.exit 0), ⟨mkE 27 0 [(3, dI t)], []⟩)))) (by
  rintro (t | t) f K h
  · exact h
  · exact h) (fun s => link_map (impl_oneRoot_n3_l x7790 s.1 x7791 s.2) (Sum.elim (fun (t : Int × Int) => Sum.inl (t.1, t.2)) (Sum.elim (fun (t : Bool) => Sum.inr (Sum.inl t)) (fun (t : Int) => Sum.inr (Sum.inr t)))) (by
  rintro (t | t | t)
  · kernel_rfl
  · kernel_rfl
  · kernel_rfl)) (0, 0))

def impl_oneRoot_n5_l (x7790 : List Int) (x7791 : Int) := (link_block (fin2 := (Sum.elim (fun (t : Int) => (Exit.normal, ⟨mkE 27 0 [(3, dI t)], []⟩)) (fun (t : Bool) => (Exit.ret, ⟨mkE 27 0 [(2, dB t)], []⟩)))) (id := 0) (impl_oneRoot_n4_l x7790 x7791) (Sum.elim (fun (t : Bool) => (Sum.inr t)) (fun (t : Int) => (Sum.inl t))) (by
  rintro (t | t) K h
  · exact Eq.mp (by kernel_rfl) h
  · exact Eq.mp (by kernel_rfl) h))

def impl_oneRoot_n6_l (x7790 : List Int) := (link_seq (impl_oneRoot_n2_l x7790) (fun (t : Int) => (impl_oneRoot_n5_l x7790 t)))

theorem impl_oneRoot_n7_l (x7812 : Int) : Link impl_oneRoot_ctx LL (cq [1,1,1] (bodyOf Tryd.f29)) (aq [1,1,1] impl_oneRoot_an) ⟨mkE 27 0 [(3, dI x7812)], []⟩ (impl_oneRoot_n7 x7812) (fun (t : Bool) => (Exit.ret, ⟨mkE 27 0 [(2, dB t)], []⟩)) := by
  refine Link.of fun K h => ?_
  simp only [impl_oneRoot_n7, wpO_bind, wpO_cond, wpO_map, wpO_some] at h
  exact Awp.of (by kernel_rfl) h

def impl_oneRoot_n8_l (x7790 : List Int) := (link_seq2 (impl_oneRoot_n6_l x7790) (fun (t : Int) => (impl_oneRoot_n7_l t)) (fun (t : Bool) => t) (by
  rintro t
  · kernel_rfl) (by
  rintro t f K h
  · exact h))

def impl_oneRoot_n9_l (x7790 : List Int) := (link_group (c := (cq [0,1] (bodyOf Tryd.f29))) (a := (aq [0,1] impl_oneRoot_an)) [(cq [0] (bodyOf Tryd.f29))] [(aq [0] impl_oneRoot_an)] rfl (link_seq (impl_oneRoot_n1_l x7790) (fun (t : Unit) => (impl_oneRoot_n8_l x7790))))

theorem impl_oneRoot_e (x7790 : List Int) {r : AV} {H' : Heap} (h : (Ans.mk _ (impl_oneRoot x7790) (fun (t : Bool) => (dB t, [])) [] none).run = some (r, H')) : Awp impl_oneRoot_ctx LL (bodyOf Tryd.f29) impl_oneRoot_an ⟨mkE 27 0 [(0, dL x7790)], []⟩ (Ret (tlook tys) Tryd.f29.results.toList r H') :=
  ret_of' (Link.cast (by kernel_rfl) (by kernel_rfl) (impl_oneRoot_n9_l x7790)) (by unfold impl_oneRoot; kernel_rfl) (by
  intro t
  exact ret_mk [dB t] (by kernel_rfl) (by kernel_rfl) (by kernel_rfl) (by kernel_rfl)) h

def F_impl_oneRoot : Fun := fun avs H =>
  match avs, H with
  | [.dat (.list (.int .i64)) x7790], [] => ⟨_, impl_oneRoot x7790, fun (t : Bool) => (dB t, []), [], none⟩
  | _, _ => Ans.no

theorem impl_oneRoot_sound : Sound Tryd.prog 29 F_impl_oneRoot := by
  refine fn_sound' (C := impl_oneRoot_ctx) (c := bodyOf Tryd.f29) (cok_of tys_ok (alln) (alln) (by kernel_rfl)) Tryd.func29 (by kernel_rfl) LL impl_oneRoot_an ?_
  intro avs H r H' h
  unfold F_impl_oneRoot at h
  split at h
  · refine Awp.cast ?_ ?_ ?_ (impl_oneRoot_e _ h) <;> kernel_rfl
  · simp [Ans.no, Ans.run] at h


/-! (*loop.example/headtrees/impl.walker).up -/

def impl_walker_up_an : Ann := (.seq (.leaf [0]) (.seq (.draw [] [0, 1, 2, 3, 4, 5, 6, 7, 8, 9, 10, 11] [] [0, 3]) (.seq (.seq (.leaf [0, 3, 16]) (.cond (.seq (.leaf [2]) (.leaf [2])) (.leaf [0, 3]))) (.seq (.leaf [0]) (.seq (.leaf []) (.seq (.leaf [2]) (.leaf [2])))))))

noncomputable def impl_walker_up_ctx : Ctx := ⟨tlook tys, olook [], ioF, 1, false, []⟩

theorem impl_walker_up_n1_l (x7846 : List Int) (x7847 : Int) (x7848 : Int) : Link impl_walker_up_ctx LL (bodyOf Tryd.f38) impl_walker_up_an ⟨mkE 28 0 [(0, .ptr 0 0)], [some (.box [dL x7846, dI x7847, dI x7848])]⟩ (impl_walker_up_n1 x7846 x7847 x7848) (fun (t : Bool × Int × Int) => (Exit.ret, ⟨mkE 28 0 [(2, dB t.1)], [some (.box [dL x7846, dI t.2.1, dI t.2.2])]⟩)) := by
  refine Link.of fun K h => ?_
  simp only [impl_walker_up_n1, wpO_bind, wpO_cond, wpO_map, wpO_some] at h
  exact Awp.of (by kernel_rfl) h

theorem impl_walker_up_e (x7846 : List Int) (x7847 : Int) (x7848 : Int) {r : AV} {H' : Heap} (h : (Ans.mk _ (impl_walker_up x7846 x7847 x7848) (fun (t : Bool × Int × Int) => (dB t.1, [some (.box [dL x7846, dI t.2.1, dI t.2.2])])) [] none).run = some (r, H')) : Awp impl_walker_up_ctx LL (bodyOf Tryd.f38) impl_walker_up_an ⟨mkE 28 0 [(0, .ptr 0 0)], [some (.box [dL x7846, dI x7847, dI x7848])]⟩ (Ret (tlook tys) Tryd.f38.results.toList r H') :=
  ret_of' (impl_walker_up_n1_l x7846 x7847 x7848) (by unfold impl_walker_up; kernel_rfl) (by
  intro t
  exact ret_mk [dB t.1] (by kernel_rfl) (by kernel_rfl) (by kernel_rfl) (by kernel_rfl)) h

def F_impl_walker_up : Fun := fun avs H =>
  match avs, H with
  | [.ptr 0 0], [some (.box [.dat (.list (.int .i64)) x7846, .dat (.int .i64) x7847, .dat (.int .i64) x7848])] => ⟨_, impl_walker_up x7846 x7847 x7848, fun (t : Bool × Int × Int) => (dB t.1, [some (.box [dL x7846, dI t.2.1, dI t.2.2])]), [], none⟩
  | _, _ => Ans.no

theorem impl_walker_up_sound : Sound Tryd.prog 38 F_impl_walker_up := by
  refine fn_sound' (C := impl_walker_up_ctx) (c := bodyOf Tryd.f38) (cok_of tys_ok (alln) (alln) (by kernel_rfl)) Tryd.func38 (by kernel_rfl) LL impl_walker_up_an ?_
  intro avs H r H' h
  unfold F_impl_walker_up at h
  split at h
  · refine Awp.cast ?_ ?_ ?_ (impl_walker_up_e _ _ _ h) <;> kernel_rfl
  · simp [Ans.no, Ans.run] at h


/-! loop.example/headtrees/impl.stepsToRoot -/

def impl_stepsToRoot_an : Ann := (.seq (.leaf [0, 1]) (.seq (.leaf [0, 6]) (.seq (.block (.loop (.seq (.seq (.leaf [0, 6, 10]) (.cond (.leaf [0, 6]) (.leaf [6]))) (.block (.seq (.leaf [0, 6, 15]) (.cond (.seq (.leaf [4, 5]) (.leaf [4, 5])) (.leaf [0, 6]))))))) (.seq (.leaf [4, 5]) (.leaf [4, 5])))))

noncomputable def impl_stepsToRoot_ctx : Ctx := ⟨tlook tys, olook [(38, F_impl_walker_up)], ioF, 0, false, []⟩

theorem impl_stepsToRoot_n1_l (x7844 : List Int) (x7845 : Int) : Link impl_stepsToRoot_ctx LL (Code.seq (cq [0] (bodyOf Tryd.f30)) (cq [0,1] (bodyOf Tryd.f30))) (Ann.seq (aq [0] impl_stepsToRoot_an) (aq [0,1] impl_stepsToRoot_an)) ⟨mkE 18 0 [(0, dL x7844), (1, dI x7845)], []⟩ (impl_stepsToRoot_n1) (fun (t : Unit) => (Exit.normal, ⟨mkE 18 0 [(0, dL x7844), (6, .ptr 0 0)], [some (.box [dL x7844, dI x7845, dI 0])]⟩)) := by
  refine Link.of fun K h => ?_
  simp only [impl_stepsToRoot_n1, wpO_bind, wpO_cond, wpO_map, wpO_some] at h
  exact Awp.of (by kernel_rfl) h

theorem impl_stepsToRoot_n2_l (x7844 : List Int) (x7882 : Int) (x7883 : Int) : Link impl_stepsToRoot_ctx LL (cq [0,0,0,1,1] (bodyOf Tryd.f30)) (aq [0,0,0,1,1] impl_stepsToRoot_an) ⟨mkE 18 0 [(0, dL x7844), (6, .ptr 0 0)], [some (.box [dL x7844, dI x7882, dI x7883])]⟩ (impl_stepsToRoot_n2 x7844 x7882 x7883) (Sum.elim (fun (t : Int × Int) => (Exit.normal, ⟨mkE 18 0 [(0, dL x7844), (6, .ptr 0 0)], [some (.box [dL x7844, dI t.1, dI t.2])]⟩)) (Sum.elim (fun (t : Int × Bool) => (Exit.ret, ⟨mkE 18 0 [(4, dI t.1), (5, dB t.2)], []⟩)) (fun (t : Int × Int) => ((Exit.exit 0), ⟨mkE 18 0 [(6, .ptr 0 0)], [some (.box [dL x7844, dI t.1, dI t.2])]⟩)))) := by
  refine Link.of fun K h => ?_
  simp only [impl_stepsToRoot_n2, wpO_bind, wpO_cond, wpO_map, wpO_some] at h
  exact Awp.of (by kernel_rfl) h

def impl_stepsToRoot_n3_l (x7844 : List Int) (x7845 : Int) := (link_loop (mk := fun (s : Int × Int) => ⟨mkE 18 0 [(0, dL x7844), (6, .ptr 0 0)], [some (.box [dL x7844, dI s.1, dI s.2])]⟩) (fin := (Sum.elim (fun (t : Int × Bool) => (Exit.ret, ⟨mkE 18 0 [(4, dI t.1), (5, dB t.2)], []⟩)) (fun (t : Int × Int) => ((Exit.exit 0), ⟨mkE 18 0 [(6, .ptr 0 0)], [some (.box [dL x7844, dI t.1, dI t.2])]⟩)))) (by
  rintro (t | t) f K h
  · exact h
  · exact h) (fun s => link_map (impl_stepsToRoot_n2_l x7844 s.1 s.2) (Sum.elim (fun (t : Int × Int) => Sum.inl (t.1, t.2)) (Sum.elim (fun (t : Int × Bool) => Sum.inr (Sum.inl t)) (fun (t : Int × Int) => Sum.inr (Sum.inr t)))) (by
  rintro (t | t | t)
  · kernel_rfl
  · kernel_rfl
  · kernel_rfl)) (x7845, 0))

def impl_stepsToRoot_n4_l (x7844 : List Int) (x7845 : Int) := (link_block (fin2 := (Sum.elim (fun (t : Int × Int) => (Exit.normal, ⟨mkE 18 0 [(6, .ptr 0 0)], [some (.box [dL x7844, dI t.1, dI t.2])]⟩)) (fun (t : Int × Bool) => (Exit.ret, ⟨mkE 18 0 [(4, dI t.1), (5, dB t.2)], []⟩)))) (id := 0) (impl_stepsToRoot_n3_l x7844 x7845) (Sum.elim (fun (t : Int × Bool) => (Sum.inr t)) (fun (t : Int × Int) => (Sum.inl (t.1, t.2)))) (by
  rintro (t | t) K h
  · exact Eq.mp (by kernel_rfl) h
  · exact Eq.mp (by kernel_rfl) h))

theorem impl_stepsToRoot_n5_l (x7844 : List Int) (x7890 : Int) (x7891 : Int) : Link impl_stepsToRoot_ctx LL (cq [1,1,1] (bodyOf Tryd.f30)) (aq [1,1,1] impl_stepsToRoot_an) ⟨mkE 18 0 [(6, .ptr 0 0)], [some (.box [dL x7844, dI x7890, dI x7891])]⟩ (impl_stepsToRoot_n5 x7891) (fun (t : Int × Bool) => (Exit.ret, ⟨mkE 18 0 [(4, dI t.1), (5, dB t.2)], []⟩)) := by
  refine Link.of fun K h => ?_
  simp only [impl_stepsToRoot_n5, wpO_bind, wpO_cond, wpO_map, wpO_some] at h
  exact Awp.of (by kernel_rfl) h

def impl_stepsToRoot_n6_l (x7844 : List Int) (x7845 : Int) := (link_seq2 (impl_stepsToRoot_n4_l x7844 x7845) (fun (t : Int × Int) => (impl_stepsToRoot_n5_l x7844 t.1 t.2)) (fun (t : Int × Bool) => t) (by
  rintro t
  · kernel_rfl) (by
  rintro t f K h
  · exact h))

def impl_stepsToRoot_n7_l (x7844 : List Int) (x7845 : Int) := (link_group (c := (cq [0,1] (bodyOf Tryd.f30))) (a := (aq [0,1] impl_stepsToRoot_an)) [(cq [0] (bodyOf Tryd.f30))] [(aq [0] impl_stepsToRoot_an)] rfl (link_seq (impl_stepsToRoot_n1_l x7844 x7845) (fun (t : Unit) => (impl_stepsToRoot_n6_l x7844 x7845))))

theorem impl_stepsToRoot_e (x7844 : List Int) (x7845 : Int) {r : AV} {H' : Heap} (h : (Ans.mk _ (impl_stepsToRoot x7844 x7845) (fun (t : Int × Bool) => (.tup [dI t.1, dB t.2], [])) [] none).run = some (r, H')) : Awp impl_stepsToRoot_ctx LL (bodyOf Tryd.f30) impl_stepsToRoot_an ⟨mkE 18 0 [(0, dL x7844), (1, dI x7845)], []⟩ (Ret (tlook tys) Tryd.f30.results.toList r H') :=
  ret_of' (Link.cast (by kernel_rfl) (by kernel_rfl) (impl_stepsToRoot_n7_l x7844 x7845)) (by unfold impl_stepsToRoot; kernel_rfl) (by
  intro t
  exact ret_mk [dI t.1, dB t.2] (by kernel_rfl) (by kernel_rfl) (by kernel_rfl) (by kernel_rfl)) h

def F_impl_stepsToRoot : Fun := fun avs H =>
  match avs, H with
  | [.dat (.list (.int .i64)) x7844, .dat (.int .i64) x7845], [] => ⟨_, impl_stepsToRoot x7844 x7845, fun (t : Int × Bool) => (.tup [dI t.1, dB t.2], []), [], none⟩
  | _, _ => Ans.no

theorem impl_stepsToRoot_sound : Sound Tryd.prog 30 F_impl_stepsToRoot := by
  refine fn_sound' (C := impl_stepsToRoot_ctx) (c := bodyOf Tryd.f30) (cok_of tys_ok (allc impl_walker_up_sound alln) (allc Tryd.call38 alln) (by kernel_rfl)) Tryd.func30 (by kernel_rfl) LL impl_stepsToRoot_an ?_
  intro avs H r H' h
  unfold F_impl_stepsToRoot at h
  split at h
  · refine Awp.cast ?_ ?_ ?_ (impl_stepsToRoot_e _ _ h) <;> kernel_rfl
  · simp [Ans.no, Ans.run] at h


/-! loop.example/headtrees/impl.TreeOk -/

def impl_TreeOk_an : Ann := (.seq (.leaf [0]) (.seq (.seq (.leaf [0, 18]) (.cond (.seq (.leaf [2]) (.leaf [2])) (.leaf [0]))) (.seq (.seq (.leaf [0, 20, 21]) (.block (.loop (.seq (.leaf [0, 20, 21, 22]) (.seq (.cond (.leaf [0, 20, 21]) (.leaf [])) (.seq (.block (.seq (.leaf [0, 3, 20, 21]) (.seq (.leaf [0, 5, 20, 21]) (.seq (.leaf [0, 20, 21, 32]) (.cond (.seq (.leaf [2]) (.leaf [2])) (.leaf [0, 20, 21])))))) (.leaf [0, 20, 21]))))))) (.seq (.leaf [2]) (.leaf [2])))))

noncomputable def impl_TreeOk_ctx : Ctx := ⟨tlook tys, olook [(29, F_impl_oneRoot), (30, F_impl_stepsToRoot)], ioF, 0, false, []⟩

theorem impl_TreeOk_n1_l (x7785 : List Int) : Link impl_TreeOk_ctx LL (Code.seq (cq [0] (bodyOf Tryd.f18)) (cq [0,1] (bodyOf Tryd.f18))) (Ann.seq (aq [0] impl_TreeOk_an) (aq [0,1] impl_TreeOk_an)) ⟨mkE 34 0 [(0, dL x7785)], []⟩ (impl_TreeOk_n1 x7785) (Sum.elim (fun (t : Unit) => (Exit.normal, ⟨mkE 34 0 [(0, dL x7785)], []⟩)) (fun (t : Bool) => (Exit.ret, ⟨mkE 34 0 [(2, dB t)], []⟩))) := by
  refine Link.of fun K h => ?_
  simp only [impl_TreeOk_n1, wpO_bind, wpO_cond, wpO_map, wpO_some] at h
  exact Awp.of (by kernel_rfl) h

theorem impl_TreeOk_n2_l (x7785 : List Int) : Link impl_TreeOk_ctx LL (cq [0,0,1,1] (bodyOf Tryd.f18)) (aq [0,0,1,1] impl_TreeOk_an) ⟨mkE 34 0 [(0, dL x7785)], []⟩ (impl_TreeOk_n2 x7785) (fun (t : Int) => (Exit.normal, ⟨mkE 34 0 [(0, dL x7785), (20, dI t), (21, dI 0)], []⟩)) := by
  refine Link.of fun K h => ?_
  simp only [impl_TreeOk_n2, wpO_bind, wpO_cond, wpO_map, wpO_some] at h
  exact Awp.of (by kernel_rfl) h

theorem impl_TreeOk_n3_l (x7785 : List Int) (x7839 : Int) (x7907 : Int) : Link impl_TreeOk_ctx LL (cq [0,0,1,0,1,1] (bodyOf Tryd.f18)) (aq [0,0,1,0,1,1] impl_TreeOk_an) ⟨mkE 34 0 [(0, dL x7785), (20, dI x7839), (21, dI x7907)], []⟩ (impl_TreeOk_n3 x7785 x7839 x7907) (Sum.elim (fun (t : Int) => (Exit.normal, ⟨mkE 34 0 [(0, dL x7785), (20, dI x7839), (21, dI t)], []⟩)) (Sum.elim (fun (t : Bool) => (Exit.ret, ⟨mkE 34 0 [(2, dB t)], []⟩)) (fun (t : Unit) => ((Exit.exit 0), ⟨mkE 34 0 [], []⟩)))) := by
  refine Link.of fun K h => ?_
  simp only [impl_TreeOk_n3, wpO_bind, wpO_cond, wpO_map, wpO_some] at h
  exact Awp.of (by kernel_rfl) h

def impl_TreeOk_n4_l (x7785 : List Int) (x7839 : Int) := (link_loop (mk := fun (s : Int) => ⟨mkE 34 0 [(0, dL x7785), (20, dI x7839), (21, dI s)], []⟩) (fin := (Sum.elim (fun (t : Bool) => (Exit.ret, ⟨mkE 34 0 [(2, dB t)], []⟩)) (fun (t : Unit) => ((Exit.exit 0), ⟨mkE 34 0 [], []⟩)))) (by
  rintro (t | t) f K h
  · exact h
  · exact h) (fun s => link_map (impl_TreeOk_n3_l x7785 x7839 s) (Sum.elim (fun (t : Int) => Sum.inl t) (Sum.elim (fun (t : Bool) => Sum.inr (Sum.inl t)) (fun (t : Unit) => Sum.inr (Sum.inr t)))) (by
  rintro (t | t | t)
  · kernel_rfl
  · kernel_rfl
  · kernel_rfl)) 0)

def impl_TreeOk_n5_l (x7785 : List Int) (x7839 : Int) := (link_block (fin2 := (Sum.elim (fun (t : Unit) => (Exit.normal, ⟨mkE 34 0 [], []⟩)) (fun (t : Bool) => (Exit.ret, ⟨mkE 34 0 [(2, dB t)], []⟩)))) (id := 0) (impl_TreeOk_n4_l x7785 x7839) (Sum.elim (fun (t : Bool) => (Sum.inr t)) (fun (t : Unit) => (Sum.inl ()))) (by
  rintro (t | t) K h
  · exact Eq.mp (by kernel_rfl) h
  · exact Eq.mp (by kernel_rfl) h))

def impl_TreeOk_n6_l (x7785 : List Int) := (link_seq (impl_TreeOk_n2_l x7785) (fun (t : Int) => (impl_TreeOk_n5_l x7785 t)))

theorem impl_TreeOk_n7_l : Link impl_TreeOk_ctx LL (cq [1,1,1] (bodyOf Tryd.f18)) (aq [1,1,1] impl_TreeOk_an) ⟨mkE 34 0 [], []⟩ (impl_TreeOk_n7) (fun (t : Bool) => (Exit.ret, ⟨mkE 34 0 [(2, dB t)], []⟩)) := by
  refine Link.of fun K h => ?_
  simp only [impl_TreeOk_n7, wpO_bind, wpO_cond, wpO_map, wpO_some] at h
  exact Awp.of (by kernel_rfl) h

def impl_TreeOk_n8_l (x7785 : List Int) := (link_seq2 (impl_TreeOk_n6_l x7785) (fun (t : Unit) => (impl_TreeOk_n7_l)) (fun (t : Bool) => t) (by
  rintro t
  · kernel_rfl) (by
  rintro t f K h
  · exact h))

def impl_TreeOk_n9_l (x7785 : List Int) := (link_group (c := (cq [0,1] (bodyOf Tryd.f18))) (a := (aq [0,1] impl_TreeOk_an)) [(cq [0] (bodyOf Tryd.f18))] [(aq [0] impl_TreeOk_an)] rfl (link_seq2 (impl_TreeOk_n1_l x7785) (fun (t : Unit) => (impl_TreeOk_n8_l x7785)) (fun (t : Bool) => t) (by
  rintro t
  · kernel_rfl) (by
  rintro t f K h
  · exact h)))

theorem impl_TreeOk_e (x7785 : List Int) {r : AV} {H' : Heap} (h : (Ans.mk _ (impl_TreeOk x7785) (fun (t : Bool) => (dB t, [])) [] none).run = some (r, H')) : Awp impl_TreeOk_ctx LL (bodyOf Tryd.f18) impl_TreeOk_an ⟨mkE 34 0 [(0, dL x7785)], []⟩ (Ret (tlook tys) Tryd.f18.results.toList r H') :=
  ret_of' (Link.cast (by kernel_rfl) (by kernel_rfl) (impl_TreeOk_n9_l x7785)) (by unfold impl_TreeOk; kernel_rfl) (by
  intro t
  exact ret_mk [dB t] (by kernel_rfl) (by kernel_rfl) (by kernel_rfl) (by kernel_rfl)) h

def F_impl_TreeOk : Fun := fun avs H =>
  match avs, H with
  | [.dat (.list (.int .i64)) x7785], [] => ⟨_, impl_TreeOk x7785, fun (t : Bool) => (dB t, []), [], none⟩
  | _, _ => Ans.no

theorem impl_TreeOk_sound : Sound Tryd.prog 18 F_impl_TreeOk := by
  refine fn_sound' (C := impl_TreeOk_ctx) (c := bodyOf Tryd.f18) (cok_of tys_ok (allc impl_oneRoot_sound (allc impl_stepsToRoot_sound alln)) (allc Tryd.call29 (allc Tryd.call30 alln)) (by kernel_rfl)) Tryd.func18 (by kernel_rfl) LL impl_TreeOk_an ?_
  intro avs H r H' h
  unfold F_impl_TreeOk at h
  split at h
  · refine Awp.cast ?_ ?_ ?_ (impl_TreeOk_e _ h) <;> kernel_rfl
  · simp [Ans.no, Ans.run] at h


/-! loop.example/headtrees/impl.ScoreOf -/

def impl_ScoreOf_an : Ann := (.seq (.leaf [0, 1]) (.seq (.seq (.leaf [0, 1, 22]) (.cond (.seq (.leaf [4]) (.leaf [4])) (.leaf [0, 1]))) (.seq (.leaf [0, 1, 5]) (.seq (.seq (.leaf [0, 5, 23, 24, 25]) (.block (.loop (.seq (.leaf [0, 5, 23, 24, 25, 26]) (.seq (.cond (.leaf [0, 5, 23, 24, 25]) (.leaf [5])) (.seq (.block (.seq (.leaf [0, 5, 6, 7, 23, 24, 25]) (.leaf [0, 5, 23, 24, 25]))) (.leaf [0, 5, 23, 24, 25]))))))) (.seq (.leaf [4]) (.leaf [4]))))))

noncomputable def impl_ScoreOf_ctx : Ctx := ⟨tlook tys, olook [(17, F_impl_ScoresOk), (18, F_impl_TreeOk)], ioF, 0, false, []⟩

theorem impl_ScoreOf_n1_l (x7670 : List (List Int)) (x7671 : List Int) : Link impl_ScoreOf_ctx LL (Code.seq (cq [0] (bodyOf Tryd.f5)) (Code.seq (cq [0,1] (bodyOf Tryd.f5)) (cq [0,1,1] (bodyOf Tryd.f5)))) (Ann.seq (aq [0] impl_ScoreOf_an) (Ann.seq (aq [0,1] impl_ScoreOf_an) (aq [0,1,1] impl_ScoreOf_an))) ⟨mkE 41 0 [(0, .dat (.list (.list (.int .i64))) x7670), (1, dL x7671)], []⟩ (impl_ScoreOf_n1 x7670 x7671) (Sum.elim (fun (t : Unit) => (Exit.normal, ⟨mkE 41 0 [(0, .dat (.list (.list (.int .i64))) x7670), (1, dL x7671), (5, dI 0)], []⟩)) (fun (t : Int) => (Exit.ret, ⟨mkE 41 0 [(4, dI t)], []⟩))) := by
  refine Link.of fun K h => ?_
  simp only [impl_ScoreOf_n1, wpO_bind, wpO_cond, wpO_map, wpO_some] at h
  exact Awp.of (by kernel_rfl) h

theorem impl_ScoreOf_n2_l (x7670 : List (List Int)) (x7671 : List Int) : Link impl_ScoreOf_ctx LL (cq [0,0,1,1,1] (bodyOf Tryd.f5)) (aq [0,0,1,1,1] impl_ScoreOf_an) ⟨mkE 41 0 [(0, .dat (.list (.list (.int .i64))) x7670), (1, dL x7671), (5, dI 0)], []⟩ (impl_ScoreOf_n2 x7671) (fun (t : Int) => (Exit.normal, ⟨mkE 41 0 [(0, .dat (.list (.list (.int .i64))) x7670), (5, dI 0), (23, dL x7671), (24, dI t), (25, dI 0)], []⟩)) := by
  refine Link.of fun K h => ?_
  simp only [impl_ScoreOf_n2, wpO_bind, wpO_cond, wpO_map, wpO_some] at h
  exact Awp.of (by kernel_rfl) h

theorem impl_ScoreOf_n3_l (x7670 : List (List Int)) (x7950 : Int) (x7671 : List Int) (x7936 : Int) (x7951 : Int) : Link impl_ScoreOf_ctx LL (cq [0,0,1,0,1,1,1] (bodyOf Tryd.f5)) (aq [0,0,1,0,1,1,1] impl_ScoreOf_an) ⟨mkE 41 0 [(0, .dat (.list (.list (.int .i64))) x7670), (5, dI x7950), (23, dL x7671), (24, dI x7936), (25, dI x7951)], []⟩ (impl_ScoreOf_n3 x7670 x7950 x7671 x7936 x7951) (Sum.elim (fun (t : Int × Int) => (Exit.normal, ⟨mkE 41 0 [(0, .dat (.list (.list (.int .i64))) x7670), (5, dI t.1), (23, dL x7671), (24, dI x7936), (25, dI t.2)], []⟩)) (fun (t : Int) => ((Exit.exit 0), ⟨mkE 41 0 [(5, dI t)], []⟩))) := by
  refine Link.of fun K h => ?_
  simp only [impl_ScoreOf_n3, wpO_bind, wpO_cond, wpO_map, wpO_some] at h
  exact Awp.of (by kernel_rfl) h

def impl_ScoreOf_n4_l (x7670 : List (List Int)) (x7671 : List Int) (x7936 : Int) := (link_loop (mk := fun (s : Int × Int) => ⟨mkE 41 0 [(0, .dat (.list (.list (.int .i64))) x7670), (5, dI s.1), (23, dL x7671), (24, dI x7936), (25, dI s.2)], []⟩) (fin := (fun (t : Int) => ((Exit.exit 0), ⟨mkE 41 0 [(5, dI t)], []⟩))) (by
  rintro t f K h
  · exact h) (fun s => link_map (impl_ScoreOf_n3_l x7670 s.1 x7671 x7936 s.2) (Sum.elim (fun (t : Int × Int) => Sum.inl (t.1, t.2)) (fun (t : Int) => Sum.inr t)) (by
  rintro (t | t)
  · kernel_rfl
  · kernel_rfl)) (0, 0))

def impl_ScoreOf_n5_l (x7670 : List (List Int)) (x7671 : List Int) (x7936 : Int) := (link_block (fin2 := (fun (t : Int) => (Exit.normal, ⟨mkE 41 0 [(5, dI t)], []⟩))) (id := 0) (impl_ScoreOf_n4_l x7670 x7671 x7936) (fun (t : Int) => t) (by
  rintro t K h
  · exact Eq.mp (by kernel_rfl) h))

def impl_ScoreOf_n6_l (x7670 : List (List Int)) (x7671 : List Int) := (link_seq (impl_ScoreOf_n2_l x7670 x7671) (fun (t : Int) => (impl_ScoreOf_n5_l x7670 x7671 t)))

theorem impl_ScoreOf_n7_l (x7950 : Int) : Link impl_ScoreOf_ctx LL (cq [1,1,1,1] (bodyOf Tryd.f5)) (aq [1,1,1,1] impl_ScoreOf_an) ⟨mkE 41 0 [(5, dI x7950)], []⟩ (impl_ScoreOf_n7 x7950) (fun (t : Int) => (Exit.ret, ⟨mkE 41 0 [(4, dI t)], []⟩)) := by
  refine Link.of fun K h => ?_
  simp only [impl_ScoreOf_n7, wpO_bind, wpO_cond, wpO_map, wpO_some] at h
  exact Awp.of (by kernel_rfl) h

def impl_ScoreOf_n8_l (x7670 : List (List Int)) (x7671 : List Int) := (link_seq (impl_ScoreOf_n6_l x7670 x7671) (fun (t : Int) => (impl_ScoreOf_n7_l t)))

def impl_ScoreOf_n9_l (x7670 : List (List Int)) (x7671 : List Int) := (link_group (c := (cq [0,1,1] (bodyOf Tryd.f5))) (a := (aq [0,1,1] impl_ScoreOf_an)) [(cq [0] (bodyOf Tryd.f5)), (cq [0,1] (bodyOf Tryd.f5))] [(aq [0] impl_ScoreOf_an), (aq [0,1] impl_ScoreOf_an)] rfl (link_seq2 (impl_ScoreOf_n1_l x7670 x7671) (fun (t : Unit) => (impl_ScoreOf_n8_l x7670 x7671)) (fun (t : Int) => t) (by
  rintro t
  · kernel_rfl) (by
  rintro t f K h
  · exact h)))

theorem impl_ScoreOf_e (x7670 : List (List Int)) (x7671 : List Int) {r : AV} {H' : Heap} (h : (Ans.mk _ (impl_ScoreOf x7670 x7671) (fun (t : Int) => (dI t, [])) [] none).run = some (r, H')) : Awp impl_ScoreOf_ctx LL (bodyOf Tryd.f5) impl_ScoreOf_an ⟨mkE 41 0 [(0, .dat (.list (.list (.int .i64))) x7670), (1, dL x7671)], []⟩ (Ret (tlook tys) Tryd.f5.results.toList r H') :=
  ret_of' (Link.cast (by kernel_rfl) (by kernel_rfl) (impl_ScoreOf_n9_l x7670 x7671)) (by unfold impl_ScoreOf; kernel_rfl) (by
  intro t
  exact ret_mk [dI t] (by kernel_rfl) (by kernel_rfl) (by kernel_rfl) (by kernel_rfl)) h

def F_impl_ScoreOf : Fun := fun avs H =>
  match avs, H with
  | [.dat (.list (.list (.int .i64))) x7670, .dat (.list (.int .i64)) x7671], [] => ⟨_, impl_ScoreOf x7670 x7671, fun (t : Int) => (dI t, []), [], none⟩
  | _, _ => Ans.no

theorem impl_ScoreOf_sound : Sound Tryd.prog 5 F_impl_ScoreOf := by
  refine fn_sound' (C := impl_ScoreOf_ctx) (c := bodyOf Tryd.f5) (cok_of tys_ok (allc impl_ScoresOk_sound (allc impl_TreeOk_sound alln)) (allc Tryd.call17 (allc Tryd.call18 alln)) (by kernel_rfl)) Tryd.func5 (by kernel_rfl) LL impl_ScoreOf_an ?_
  intro avs H r H' h
  unfold F_impl_ScoreOf at h
  split at h
  · refine Awp.cast ?_ ?_ ?_ (impl_ScoreOf_e _ _ h) <;> kernel_rfl
  · simp [Ans.no, Ans.run] at h


/-! loop.example/headtrees/spec.l1In -/

def spec_l1In_an : Ann := (.seq (.leaf [0, 1, 2]) (.seq (.leaf [6]) (.leaf [6])))

noncomputable def spec_l1In_ctx : Ctx := ⟨tlook tys, olook [], ioF, 0, false, []⟩

theorem spec_l1In_n1_l (x7996 : Int) (x7997 : Int) (x7998 : Int) : Link spec_l1In_ctx LL (bodyOf Tryd.f31) spec_l1In_an ⟨mkE 15 0 [(0, dI x7996), (1, dI x7997), (2, dI x7998)], []⟩ (spec_l1In_n1 x7996 x7997 x7998) (fun (t : Bool) => (Exit.ret, ⟨mkE 15 0 [(6, dB t)], []⟩)) := by
  refine Link.of fun K h => ?_
  simp only [spec_l1In_n1, wpO_bind, wpO_cond, wpO_map, wpO_some] at h
  exact Awp.of (by kernel_rfl) h

theorem spec_l1In_e (x7996 : Int) (x7997 : Int) (x7998 : Int) {r : AV} {H' : Heap} (h : (Ans.mk _ (spec_l1In x7996 x7997 x7998) (fun (t : Bool) => (dB t, [])) [] none).run = some (r, H')) : Awp spec_l1In_ctx LL (bodyOf Tryd.f31) spec_l1In_an ⟨mkE 15 0 [(0, dI x7996), (1, dI x7997), (2, dI x7998)], []⟩ (Ret (tlook tys) Tryd.f31.results.toList r H') :=
  ret_of' (spec_l1In_n1_l x7996 x7997 x7998) (by unfold spec_l1In; kernel_rfl) (by
  intro t
  exact ret_mk [dB t] (by kernel_rfl) (by kernel_rfl) (by kernel_rfl) (by kernel_rfl)) h

def F_spec_l1In : Fun := fun avs H =>
  match avs, H with
  | [.dat (.int .i64) x7996, .dat (.int .i64) x7997, .dat (.int .i64) x7998], [] => ⟨_, spec_l1In x7996 x7997 x7998, fun (t : Bool) => (dB t, []), [], none⟩
  | _, _ => Ans.no

theorem spec_l1In_sound : Sound Tryd.prog 31 F_spec_l1In := by
  refine fn_sound' (C := spec_l1In_ctx) (c := bodyOf Tryd.f31) (cok_of tys_ok (alln) (alln) (by kernel_rfl)) Tryd.func31 (by kernel_rfl) LL spec_l1In_an ?_
  intro avs H r H' h
  unfold F_spec_l1In at h
  split at h
  · refine Awp.cast ?_ ?_ ?_ (spec_l1In_e _ _ _ h) <;> kernel_rfl
  · simp [Ans.no, Ans.run] at h


/-! loop.example/headtrees/spec.ScoresOk -/

def spec_ScoresOk_an : Ann := (.seq (.leaf [0]) (.seq (.seq (.leaf [0, 3]) (.block (.loop (.seq (.seq (.leaf [0, 3, 8]) (.cond (.leaf [0, 3]) (.leaf [0]))) (.seq (.block (.seq (.seq (.leaf [0, 3, 19]) (.cond (.seq (.leaf [2]) (.leaf [2])) (.leaf [0, 3]))) (.seq (.leaf [0, 3, 4]) (.block (.loop (.seq (.seq (.leaf [0, 3, 4, 26]) (.cond (.leaf [0, 3, 4]) (.leaf [0, 3]))) (.seq (.block (.seq (.leaf [0, 3, 4, 37]) (.cond (.seq (.leaf [2]) (.leaf [2])) (.leaf [0, 3, 4])))) (.leaf [0, 3, 4])))))))) (.leaf [0, 3])))))) (.seq (.leaf [2]) (.leaf [2]))))

noncomputable def spec_ScoresOk_ctx : Ctx := ⟨tlook tys, olook [(31, F_spec_l1In)], ioF, 0, false, []⟩

theorem spec_ScoresOk_n1_l (x7975 : List (List Int)) : Link spec_ScoresOk_ctx LL (cq [0] (bodyOf Tryd.f19)) (aq [0] spec_ScoresOk_an) ⟨mkE 41 0 [(0, .dat (.list (.list (.int .i64))) x7975)], []⟩ (spec_ScoresOk_n1) (fun (t : Unit) => (Exit.normal, ⟨mkE 41 0 [(0, .dat (.list (.list (.int .i64))) x7975)], []⟩)) := by
  refine Link.of fun K h => ?_
  simp only [spec_ScoresOk_n1, wpO_bind, wpO_cond, wpO_map, wpO_some] at h
  exact Awp.of (by kernel_rfl) h

theorem spec_ScoresOk_n2_l (x7975 : List (List Int)) : Link spec_ScoresOk_ctx LL (cq [0,0,1] (bodyOf Tryd.f19)) (aq [0,0,1] spec_ScoresOk_an) ⟨mkE 41 0 [(0, .dat (.list (.list (.int .i64))) x7975)], []⟩ (spec_ScoresOk_n2) (fun (t : Unit) => (Exit.normal, ⟨mkE 41 0 [(0, .dat (.list (.list (.int .i64))) x7975), (3, dI 0)], []⟩)) := by
  refine Link.of fun K h => ?_
  simp only [spec_ScoresOk_n2, wpO_bind, wpO_cond, wpO_map, wpO_some] at h
  exact Awp.of (by kernel_rfl) h

theorem spec_ScoresOk_n3_l (x7975 : List (List Int)) (x8034 : Int) : Link spec_ScoresOk_ctx LL (cq [0,0,0,1,0,1] (bodyOf Tryd.f19)) (aq [0,0,0,1,0,1] spec_ScoresOk_an) ⟨mkE 41 0 [(0, .dat (.list (.list (.int .i64))) x7975), (3, dI x8034)], []⟩ (spec_ScoresOk_n3 x7975 x8034) (Sum.elim (fun (t : Unit) => (Exit.normal, ⟨mkE 41 0 [(0, .dat (.list (.list (.int .i64))) x7975), (3, dI x8034)], []⟩)) (fun (t : Unit) => ((Exit.exit 0), ⟨mkE 41 0 [(0, .dat (.list (.list (.int .i64))) x7975)], []⟩))) := by
  refine Link.of fun K h => ?_
  simp only [spec_ScoresOk_n3, wpO_bind, wpO_cond, wpO_map, wpO_some] at h
  exact Awp.of (by kernel_rfl) h

theorem spec_ScoresOk_n4_l (x7975 : List (List Int)) (x8034 : Int) : Link spec_ScoresOk_ctx LL (Code.seq (cq [0,0,0,1,0,0,1,0,1] (bodyOf Tryd.f19)) (cq [0,1,0,0,1,0,0,1,0,1] (bodyOf Tryd.f19))) (Ann.seq (aq [0,0,0,1,0,0,1,0,1] spec_ScoresOk_an) (aq [0,1,0,0,1,0,0,1,0,1] spec_ScoresOk_an)) ⟨mkE 41 0 [(0, .dat (.list (.list (.int .i64))) x7975), (3, dI x8034)], []⟩ (spec_ScoresOk_n4 x7975 x8034) (Sum.elim (fun (t : Unit) => (Exit.normal, ⟨mkE 41 0 [(0, .dat (.list (.list (.int .i64))) x7975), (3, dI x8034), (4, dI 0)], []⟩)) (fun (t : Bool) => (Exit.ret, ⟨mkE 41 0 [(2, dB t)], []⟩))) := by
  refine Link.of fun K h => ?_
  simp only [spec_ScoresOk_n4, wpO_bind, wpO_cond, wpO_map, wpO_some] at h
  exact Awp.of (by kernel_rfl) h

theorem spec_ScoresOk_n5_l (x7975 : List (List Int)) (x8034 : Int) (x8065 : Int) : Link spec_ScoresOk_ctx LL (cq [0,0,1,1,0,0,1,0,0,1,0,1] (bodyOf Tryd.f19)) (aq [0,0,1,1,0,0,1,0,0,1,0,1] spec_ScoresOk_an) ⟨mkE 41 0 [(0, .dat (.list (.list (.int .i64))) x7975), (3, dI x8034), (4, dI x8065)], []⟩ (spec_ScoresOk_n5 x7975 x8034 x8065) (Sum.elim (fun (t : Int) => (Exit.normal, ⟨mkE 41 0 [(0, .dat (.list (.list (.int .i64))) x7975), (3, dI x8034), (4, dI t)], []⟩)) (Sum.elim (fun (t : Bool) => (Exit.ret, ⟨mkE 41 0 [(2, dB t)], []⟩)) (fun (t : Unit) => ((Exit.exit 2), ⟨mkE 41 0 [(0, .dat (.list (.list (.int .i64))) x7975), (3, dI x8034)], []⟩)))) := by
  refine Link.of fun K h => ?_
  simp only [spec_ScoresOk_n5, wpO_bind, wpO_cond, wpO_map, wpO_some] at h
  exact Awp.of (by kernel_rfl) h

def spec_ScoresOk_n6_l (x7975 : List (List Int)) (x8034 : Int) := (link_loop (mk := fun (s : Int) => ⟨mkE 41 0 [(0, .dat (.list (.list (.int .i64))) x7975), (3, dI x8034), (4, dI s)], []⟩) (fin := (Sum.elim (fun (t : Bool) => (Exit.ret, ⟨mkE 41 0 [(2, dB t)], []⟩)) (fun (t : Unit) => ((Exit.exit 2), ⟨mkE 41 0 [(0, .dat (.list (.list (.int .i64))) x7975), (3, dI x8034)], []⟩)))) (by
  rintro (t | t) f K h
  · exact h
  · exact h) (fun s => link_map (spec_ScoresOk_n5_l x7975 x8034 s) (Sum.elim (fun (t : Int) => Sum.inl t) (Sum.elim (fun (t : Bool) => Sum.inr (Sum.inl t)) (fun (t : Unit) => Sum.inr (Sum.inr t)))) (by
  rintro (t | t | t)
  · kernel_rfl
  · kernel_rfl
  · kernel_rfl)) 0)

def spec_ScoresOk_n7_l (x7975 : List (List Int)) (x8034 : Int) := (link_block (fin2 := (Sum.elim (fun (t : Unit) => (Exit.normal, ⟨mkE 41 0 [(0, .dat (.list (.list (.int .i64))) x7975), (3, dI x8034)], []⟩)) (fun (t : Bool) => (Exit.ret, ⟨mkE 41 0 [(2, dB t)], []⟩)))) (id := 2) (spec_ScoresOk_n6_l x7975 x8034) (Sum.elim (fun (t : Bool) => (Sum.inr t)) (fun (t : Unit) => (Sum.inl ()))) (by
  rintro (t | t) K h
  · exact Eq.mp (by kernel_rfl) h
  · exact Eq.mp (by kernel_rfl) h))

def spec_ScoresOk_n8_l (x7975 : List (List Int)) (x8034 : Int) := (link_group (c := (cq [0,1,0,0,1,0,0,1,0,1] (bodyOf Tryd.f19))) (a := (aq [0,1,0,0,1,0,0,1,0,1] spec_ScoresOk_an)) [(cq [0,0,0,1,0,0,1,0,1] (bodyOf Tryd.f19))] [(aq [0,0,0,1,0,0,1,0,1] spec_ScoresOk_an)] rfl (link_seq2 (spec_ScoresOk_n4_l x7975 x8034) (fun (t : Unit) => (spec_ScoresOk_n7_l x7975 x8034)) (fun (t : Bool) => (Sum.inr t)) (by
  rintro t
  · kernel_rfl) (by
  rintro t f K h
  · exact h)))

def spec_ScoresOk_n9_l (x7975 : List (List Int)) (x8034 : Int) := (link_block (fin2 := (Sum.elim (fun (t : Unit) => (Exit.normal, ⟨mkE 41 0 [(0, .dat (.list (.list (.int .i64))) x7975), (3, dI x8034)], []⟩)) (fun (t : Bool) => (Exit.ret, ⟨mkE 41 0 [(2, dB t)], []⟩)))) (id := 1) (spec_ScoresOk_n8_l x7975 x8034) (Sum.elim (fun (t : Unit) => (Sum.inl ())) (fun (t : Bool) => (Sum.inr t))) (by
  rintro (t | t) K h
  · exact Eq.mp (by kernel_rfl) h
  · exact Eq.mp (by kernel_rfl) h))

theorem spec_ScoresOk_n10_l (x7975 : List (List Int)) (x8034 : Int) : Link spec_ScoresOk_ctx LL (cq [1,1,0,0,1,0,1] (bodyOf Tryd.f19)) (aq [1,1,0,0,1,0,1] spec_ScoresOk_an) ⟨mkE 41 0 [(0, .dat (.list (.list (.int .i64))) x7975), (3, dI x8034)], []⟩ (spec_ScoresOk_n10 x8034) (fun (t : Int) => (Exit.normal, ⟨mkE 41 0 [(0, .dat (.list (.list (.int .i64))) x7975), (3, dI t)], []⟩)) := by
  refine Link.of fun K h => ?_
  simp only [spec_ScoresOk_n10, wpO_bind, wpO_cond, wpO_map, wpO_some] at h
  exact Awp.of (by kernel_rfl) h

def spec_ScoresOk_n11_l (x7975 : List (List Int)) (x8034 : Int) := (link_seq2 (spec_ScoresOk_n9_l x7975 x8034) (fun (t : Unit) => (link_map (fin2 := (Sum.elim (fun (t : Int) => (Exit.normal, ⟨mkE 41 0 [(0, .dat (.list (.list (.int .i64))) x7975), (3, dI t)], []⟩)) (fun (t : Bool) => (Exit.ret, ⟨mkE 41 0 [(2, dB t)], []⟩)))) (spec_ScoresOk_n10_l x7975 x8034) (fun (t : Int) => (Sum.inl t)) (by
  rintro t
  · kernel_rfl))) (fun (t : Bool) => (Sum.inr t)) (by
  rintro t
  · kernel_rfl) (by
  rintro t f K h
  · exact h))

def spec_ScoresOk_n12_l (x7975 : List (List Int)) (x8034 : Int) := (link_seq2 (spec_ScoresOk_n3_l x7975 x8034) (fun (t : Unit) => (link_map (fin2 := (Sum.elim (fun (t : Int) => (Exit.normal, ⟨mkE 41 0 [(0, .dat (.list (.list (.int .i64))) x7975), (3, dI t)], []⟩)) (Sum.elim (fun (t : Bool) => (Exit.ret, ⟨mkE 41 0 [(2, dB t)], []⟩)) (fun (t : Unit) => ((Exit.exit 0), ⟨mkE 41 0 [(0, .dat (.list (.list (.int .i64))) x7975)], []⟩))))) (spec_ScoresOk_n11_l x7975 x8034) (Sum.elim (fun (t : Int) => (Sum.inl t)) (fun (t : Bool) => (Sum.inr (Sum.inl t)))) (by
  rintro (t | t)
  · kernel_rfl
  · kernel_rfl))) (fun (t : Unit) => (Sum.inr (Sum.inr t))) (by
  rintro t
  · kernel_rfl) (by
  rintro t f K h
  · exact h))

def spec_ScoresOk_n13_l (x7975 : List (List Int)) := (link_loop (mk := fun (s : Int) => ⟨mkE 41 0 [(0, .dat (.list (.list (.int .i64))) x7975), (3, dI s)], []⟩) (fin := (Sum.elim (fun (t : Bool) => (Exit.ret, ⟨mkE 41 0 [(2, dB t)], []⟩)) (fun (t : Unit) => ((Exit.exit 0), ⟨mkE 41 0 [(0, .dat (.list (.list (.int .i64))) x7975)], []⟩)))) (by
  rintro (t | t) f K h
  · exact h
  · exact h) (fun s => link_map (spec_ScoresOk_n12_l x7975 s) (Sum.elim (fun (t : Int) => Sum.inl t) (Sum.elim (fun (t : Bool) => Sum.inr (Sum.inl t)) (fun (t : Unit) => Sum.inr (Sum.inr t)))) (by
  rintro (t | t | t)
  · kernel_rfl
  · kernel_rfl
  · kernel_rfl)) 0)

def spec_ScoresOk_n14_l (x7975 : List (List Int)) := (link_block (fin2 := (Sum.elim (fun (t : Unit) => (Exit.normal, ⟨mkE 41 0 [(0, .dat (.list (.list (.int .i64))) x7975)], []⟩)) (fun (t : Bool) => (Exit.ret, ⟨mkE 41 0 [(2, dB t)], []⟩)))) (id := 0) (spec_ScoresOk_n13_l x7975) (Sum.elim (fun (t : Bool) => (Sum.inr t)) (fun (t : Unit) => (Sum.inl ()))) (by
  rintro (t | t) K h
  · exact Eq.mp (by kernel_rfl) h
  · exact Eq.mp (by kernel_rfl) h))

def spec_ScoresOk_n15_l (x7975 : List (List Int)) := (link_seq (spec_ScoresOk_n2_l x7975) (fun (t : Unit) => (spec_ScoresOk_n14_l x7975)))

theorem spec_ScoresOk_n16_l (x7975 : List (List Int)) : Link spec_ScoresOk_ctx LL (cq [1,1] (bodyOf Tryd.f19)) (aq [1,1] spec_ScoresOk_an) ⟨mkE 41 0 [(0, .dat (.list (.list (.int .i64))) x7975)], []⟩ (spec_ScoresOk_n16 x7975) (fun (t : Bool) => (Exit.ret, ⟨mkE 41 0 [(2, dB t)], []⟩)) := by
  refine Link.of fun K h => ?_
  simp only [spec_ScoresOk_n16, wpO_bind, wpO_cond, wpO_map, wpO_some] at h
  exact Awp.of (by kernel_rfl) h

def spec_ScoresOk_n17_l (x7975 : List (List Int)) := (link_seq2 (spec_ScoresOk_n15_l x7975) (fun (t : Unit) => (spec_ScoresOk_n16_l x7975)) (fun (t : Bool) => t) (by
  rintro t
  · kernel_rfl) (by
  rintro t f K h
  · exact h))

def spec_ScoresOk_n18_l (x7975 : List (List Int)) := (link_seq (spec_ScoresOk_n1_l x7975) (fun (t : Unit) => (spec_ScoresOk_n17_l x7975)))

theorem spec_ScoresOk_e (x7975 : List (List Int)) {r : AV} {H' : Heap} (h : (Ans.mk _ (spec_ScoresOk x7975) (fun (t : Bool) => (dB t, [])) [] none).run = some (r, H')) : Awp spec_ScoresOk_ctx LL (bodyOf Tryd.f19) spec_ScoresOk_an ⟨mkE 41 0 [(0, .dat (.list (.list (.int .i64))) x7975)], []⟩ (Ret (tlook tys) Tryd.f19.results.toList r H') :=
  ret_of' (Link.cast (by kernel_rfl) (by kernel_rfl) (spec_ScoresOk_n18_l x7975)) (by unfold spec_ScoresOk; kernel_rfl) (by
  intro t
  exact ret_mk [dB t] (by kernel_rfl) (by kernel_rfl) (by kernel_rfl) (by kernel_rfl)) h

def F_spec_ScoresOk : Fun := fun avs H =>
  match avs, H with
  | [.dat (.list (.list (.int .i64))) x7975], [] => ⟨_, spec_ScoresOk x7975, fun (t : Bool) => (dB t, []), [], none⟩
  | _, _ => Ans.no

theorem spec_ScoresOk_sound : Sound Tryd.prog 19 F_spec_ScoresOk := by
  refine fn_sound' (C := spec_ScoresOk_ctx) (c := bodyOf Tryd.f19) (cok_of tys_ok (allc spec_l1In_sound alln) (allc Tryd.call31 alln) (by kernel_rfl)) Tryd.func19 (by kernel_rfl) LL spec_ScoresOk_an ?_
  intro avs H r H' h
  unfold F_spec_ScoresOk at h
  split at h
  · refine Awp.cast ?_ ?_ ?_ (spec_ScoresOk_e _ h) <;> kernel_rfl
  · simp [Ans.no, Ans.run] at h


/-! loop.example/headtrees/spec.TreeOk -/

def spec_TreeOk_an : Ann := (.seq (.leaf [0]) (.seq (.leaf [0, 3]) (.seq (.seq (.leaf [0, 3, 12]) (.cond (.seq (.leaf [2]) (.leaf [2])) (.leaf [0, 3]))) (.seq (.leaf [0, 3, 4]) (.seq (.seq (.leaf [0, 3, 4, 5]) (.block (.loop (.seq (.seq (.leaf [0, 3, 4, 5, 15]) (.cond (.leaf [0, 3, 4, 5]) (.leaf [4]))) (.seq (.block (.seq (.seq (.leaf [0, 3, 4, 5, 33]) (.cond (.seq (.leaf [2]) (.leaf [2])) (.leaf [0, 3, 4, 5]))) (.seq (.seq (.leaf [0, 3, 4, 5, 38]) (.cond (.leaf [0, 3, 4, 5]) (.leaf [0, 3, 4, 5]))) (.seq (.leaf [0, 3, 4, 5, 6]) (.seq (.seq (.leaf [0, 3, 4, 5, 6, 7]) (.block (.loop (.seq (.seq (.leaf [0, 3, 4, 5, 6, 7, 49]) (.cond (.leaf [0, 3, 4, 5, 6, 7]) (.leaf [0, 3, 4, 5, 6]))) (.seq (.block (.seq (.leaf [0, 3, 4, 5, 6, 7]) (.seq (.leaf [0, 3, 4, 5, 6, 7, 60]) (.cond (.seq (.leaf [2]) (.leaf [2])) (.leaf [0, 3, 4, 5, 6, 7]))))) (.leaf [0, 3, 4, 5, 6, 7])))))) (.seq (.leaf [0, 3, 4, 5, 62]) (.cond (.seq (.leaf [2]) (.leaf [2])) (.leaf [0, 3, 4, 5])))))))) (.leaf [0, 3, 4, 5])))))) (.seq (.leaf [2]) (.leaf [2])))))))

noncomputable def spec_TreeOk_ctx : Ctx := ⟨tlook tys, olook [(31, F_spec_l1In)], ioF, 0, false, []⟩

theorem spec_TreeOk_n1_l (x8092 : List Int) : Link spec_TreeOk_ctx LL (Code.seq (cq [0] (bodyOf Tryd.f20)) (Code.seq (cq [0,1] (bodyOf Tryd.f20)) (Code.seq (cq [0,1,1] (bodyOf Tryd.f20)) (cq [0,1,1,1] (bodyOf Tryd.f20))))) (Ann.seq (aq [0] spec_TreeOk_an) (Ann.seq (aq [0,1] spec_TreeOk_an) (Ann.seq (aq [0,1,1] spec_TreeOk_an) (aq [0,1,1,1] spec_TreeOk_an)))) ⟨mkE 65 0 [(0, dL x8092)], []⟩ (spec_TreeOk_n1 x8092) (Sum.elim (fun (t : Int) => (Exit.normal, ⟨mkE 65 0 [(0, dL x8092), (3, dI t), (4, dI 0)], []⟩)) (fun (t : Bool) => (Exit.ret, ⟨mkE 65 0 [(2, dB t)], []⟩))) := by
  refine Link.of fun K h => ?_
  simp only [spec_TreeOk_n1, wpO_bind, wpO_cond, wpO_map, wpO_some] at h
  exact Awp.of (by kernel_rfl) h

theorem spec_TreeOk_n2_l (x8092 : List Int) (x8097 : Int) : Link spec_TreeOk_ctx LL (cq [0,0,1,1,1,1] (bodyOf Tryd.f20)) (aq [0,0,1,1,1,1] spec_TreeOk_an) ⟨mkE 65 0 [(0, dL x8092), (3, dI x8097), (4, dI 0)], []⟩ (spec_TreeOk_n2) (fun (t : Unit) => (Exit.normal, ⟨mkE 65 0 [(0, dL x8092), (3, dI x8097), (4, dI 0), (5, dI 0)], []⟩)) := by
  refine Link.of fun K h => ?_
  simp only [spec_TreeOk_n2, wpO_bind, wpO_cond, wpO_map, wpO_some] at h
  exact Awp.of (by kernel_rfl) h

theorem spec_TreeOk_n3_l (x8092 : List Int) (x8097 : Int) (x8164 : Int) (x8165 : Int) : Link spec_TreeOk_ctx LL (cq [0,0,0,1,0,1,1,1,1] (bodyOf Tryd.f20)) (aq [0,0,0,1,0,1,1,1,1] spec_TreeOk_an) ⟨mkE 65 0 [(0, dL x8092), (3, dI x8097), (4, dI x8164), (5, dI x8165)], []⟩ (spec_TreeOk_n3 x8097 x8164 x8165) (Sum.elim (fun (t : Unit) => (Exit.normal, ⟨mkE 65 0 [(0, dL x8092), (3, dI x8097), (4, dI x8164), (5, dI x8165)], []⟩)) (fun (t : Int) => ((Exit.exit 0), ⟨mkE 65 0 [(4, dI t)], []⟩))) := by
  refine Link.of fun K h => ?_
  simp only [spec_TreeOk_n3, wpO_bind, wpO_cond, wpO_map, wpO_some] at h
  exact Awp.of (by kernel_rfl) h

theorem spec_TreeOk_n4_l (x8092 : List Int) (x8097 : Int) (x8164 : Int) (x8165 : Int) : Link spec_TreeOk_ctx LL (Code.seq (cq [0,0,0,1,0,0,1,0,1,1,1,1] (bodyOf Tryd.f20)) (Code.seq (cq [0,1,0,0,1,0,0,1,0,1,1,1,1] (bodyOf Tryd.f20)) (cq [0,1,1,0,0,1,0,0,1,0,1,1,1,1] (bodyOf Tryd.f20)))) (Ann.seq (aq [0,0,0,1,0,0,1,0,1,1,1,1] spec_TreeOk_an) (Ann.seq (aq [0,1,0,0,1,0,0,1,0,1,1,1,1] spec_TreeOk_an) (aq [0,1,1,0,0,1,0,0,1,0,1,1,1,1] spec_TreeOk_an))) ⟨mkE 65 0 [(0, dL x8092), (3, dI x8097), (4, dI x8164), (5, dI x8165)], []⟩ (spec_TreeOk_n4 x8092 x8097 x8164 x8165) (Sum.elim (fun (t : Int × Int) => (Exit.normal, ⟨mkE 65 0 [(0, dL x8092), (3, dI x8097), (4, dI t.1), (5, dI x8165), (6, dI t.2)], []⟩)) (fun (t : Bool) => (Exit.ret, ⟨mkE 65 0 [(2, dB t)], []⟩))) := by
  refine Link.of fun K h => ?_
  simp only [spec_TreeOk_n4, wpO_bind, wpO_cond, wpO_map, wpO_some] at h
  exact Awp.of (by kernel_rfl) h

theorem spec_TreeOk_n5_l (x8092 : List Int) (x8097 : Int) (x8193 : Int) (x8165 : Int) (x8194 : Int) : Link spec_TreeOk_ctx LL (cq [0,0,1,1,1,0,0,1,0,0,1,0,1,1,1,1] (bodyOf Tryd.f20)) (aq [0,0,1,1,1,0,0,1,0,0,1,0,1,1,1,1] spec_TreeOk_an) ⟨mkE 65 0 [(0, dL x8092), (3, dI x8097), (4, dI x8193), (5, dI x8165), (6, dI x8194)], []⟩ (spec_TreeOk_n5) (fun (t : Unit) => (Exit.normal, ⟨mkE 65 0 [(0, dL x8092), (3, dI x8097), (4, dI x8193), (5, dI x8165), (6, dI x8194), (7, dI 0)], []⟩)) := by
  refine Link.of fun K h => ?_
  simp only [spec_TreeOk_n5, wpO_bind, wpO_cond, wpO_map, wpO_some] at h
  exact Awp.of (by kernel_rfl) h

theorem spec_TreeOk_n6_l (x8092 : List Int) (x8097 : Int) (x8193 : Int) (x8165 : Int) (x8210 : Int) (x8211 : Int) : Link spec_TreeOk_ctx LL (cq [0,0,1,0,1,1,1,0,0,1,0,0,1,0,1,1,1,1] (bodyOf Tryd.f20)) (aq [0,0,1,0,1,1,1,0,0,1,0,0,1,0,1,1,1,1] spec_TreeOk_an) ⟨mkE 65 0 [(0, dL x8092), (3, dI x8097), (4, dI x8193), (5, dI x8165), (6, dI x8210), (7, dI x8211)], []⟩ (spec_TreeOk_n6 x8092 x8097 x8210 x8211) (Sum.elim (fun (t : Int × Int) => (Exit.normal, ⟨mkE 65 0 [(0, dL x8092), (3, dI x8097), (4, dI x8193), (5, dI x8165), (6, dI t.1), (7, dI t.2)], []⟩)) (Sum.elim (fun (t : Bool) => (Exit.ret, ⟨mkE 65 0 [(2, dB t)], []⟩)) (fun (t : Int) => ((Exit.exit 2), ⟨mkE 65 0 [(0, dL x8092), (3, dI x8097), (4, dI x8193), (5, dI x8165), (6, dI t)], []⟩)))) := by
  refine Link.of fun K h => ?_
  simp only [spec_TreeOk_n6, wpO_bind, wpO_cond, wpO_map, wpO_some] at h
  exact Awp.of (by kernel_rfl) h

def spec_TreeOk_n7_l (x8092 : List Int) (x8097 : Int) (x8193 : Int) (x8165 : Int) (x8194 : Int) := (link_loop (mk := fun (s : Int × Int) => ⟨mkE 65 0 [(0, dL x8092), (3, dI x8097), (4, dI x8193), (5, dI x8165), (6, dI s.1), (7, dI s.2)], []⟩) (fin := (Sum.elim (fun (t : Bool) => (Exit.ret, ⟨mkE 65 0 [(2, dB t)], []⟩)) (fun (t : Int) => ((Exit.exit 2), ⟨mkE 65 0 [(0, dL x8092), (3, dI x8097), (4, dI x8193), (5, dI x8165), (6, dI t)], []⟩)))) (by
  rintro (t | t) f K h
  · exact h
  · exact h) (fun s => link_map (spec_TreeOk_n6_l x8092 x8097 x8193 x8165 s.1 s.2) (Sum.elim (fun (t : Int × Int) => Sum.inl (t.1, t.2)) (Sum.elim (fun (t : Bool) => Sum.inr (Sum.inl t)) (fun (t : Int) => Sum.inr (Sum.inr t)))) (by
  rintro (t | t | t)
  · kernel_rfl
  · kernel_rfl
  · kernel_rfl)) (x8194, 0))

def spec_TreeOk_n8_l (x8092 : List Int) (x8097 : Int) (x8193 : Int) (x8165 : Int) (x8194 : Int) := (link_block (fin2 := (Sum.elim (fun (t : Int) => (Exit.normal, ⟨mkE 65 0 [(0, dL x8092), (3, dI x8097), (4, dI x8193), (5, dI x8165), (6, dI t)], []⟩)) (fun (t : Bool) => (Exit.ret, ⟨mkE 65 0 [(2, dB t)], []⟩)))) (id := 2) (spec_TreeOk_n7_l x8092 x8097 x8193 x8165 x8194) (Sum.elim (fun (t : Bool) => (Sum.inr t)) (fun (t : Int) => (Sum.inl t))) (by
  rintro (t | t) K h
  · exact Eq.mp (by kernel_rfl) h
  · exact Eq.mp (by kernel_rfl) h))

def spec_TreeOk_n9_l (x8092 : List Int) (x8097 : Int) (x8193 : Int) (x8165 : Int) (x8194 : Int) := (link_seq (spec_TreeOk_n5_l x8092 x8097 x8193 x8165 x8194) (fun (t : Unit) => (spec_TreeOk_n8_l x8092 x8097 x8193 x8165 x8194)))

theorem spec_TreeOk_n10_l (x8092 : List Int) (x8097 : Int) (x8193 : Int) (x8165 : Int) (x8210 : Int) : Link spec_TreeOk_ctx LL (cq [1,1,1,1,0,0,1,0,0,1,0,1,1,1,1] (bodyOf Tryd.f20)) (aq [1,1,1,1,0,0,1,0,0,1,0,1,1,1,1] spec_TreeOk_an) ⟨mkE 65 0 [(0, dL x8092), (3, dI x8097), (4, dI x8193), (5, dI x8165), (6, dI x8210)], []⟩ (spec_TreeOk_n10 x8210) (Sum.elim (fun (t : Unit) => (Exit.normal, ⟨mkE 65 0 [(0, dL x8092), (3, dI x8097), (4, dI x8193), (5, dI x8165)], []⟩)) (fun (t : Bool) => (Exit.ret, ⟨mkE 65 0 [(2, dB t)], []⟩))) := by
  refine Link.of fun K h => ?_
  simp only [spec_TreeOk_n10, wpO_bind, wpO_cond, wpO_map, wpO_some] at h
  exact Awp.of (by kernel_rfl) h

def spec_TreeOk_n11_l (x8092 : List Int) (x8097 : Int) (x8193 : Int) (x8165 : Int) (x8194 : Int) := (link_seq2 (spec_TreeOk_n9_l x8092 x8097 x8193 x8165 x8194) (fun (t : Int) => (spec_TreeOk_n10_l x8092 x8097 x8193 x8165 t)) (fun (t : Bool) => (Sum.inr t)) (by
  rintro t
  · kernel_rfl) (by
  rintro t f K h
  · exact h))

def spec_TreeOk_n12_l (x8092 : List Int) (x8097 : Int) (x8164 : Int) (x8165 : Int) := (link_group (c := (cq [0,1,1,0,0,1,0,0,1,0,1,1,1,1] (bodyOf Tryd.f20))) (a := (aq [0,1,1,0,0,1,0,0,1,0,1,1,1,1] spec_TreeOk_an)) [(cq [0,0,0,1,0,0,1,0,1,1,1,1] (bodyOf Tryd.f20)), (cq [0,1,0,0,1,0,0,1,0,1,1,1,1] (bodyOf Tryd.f20))] [(aq [0,0,0,1,0,0,1,0,1,1,1,1] spec_TreeOk_an), (aq [0,1,0,0,1,0,0,1,0,1,1,1,1] spec_TreeOk_an)] rfl (link_seq2 (spec_TreeOk_n4_l x8092 x8097 x8164 x8165) (fun (t : Int × Int) => (link_map (fin2 := (Sum.elim (fun (t : Int) => (Exit.normal, ⟨mkE 65 0 [(0, dL x8092), (3, dI x8097), (4, dI t), (5, dI x8165)], []⟩)) (fun (t : Bool) => (Exit.ret, ⟨mkE 65 0 [(2, dB t)], []⟩)))) (spec_TreeOk_n11_l x8092 x8097 t.1 x8165 t.2) (Sum.elim (fun (u : Unit) => (Sum.inl t.1)) (fun (u : Bool) => (Sum.inr u))) (by
  rintro (t | t)
  · kernel_rfl
  · kernel_rfl))) (fun (t : Bool) => (Sum.inr t)) (by
  rintro t
  · kernel_rfl) (by
  rintro t f K h
  · exact h)))

def spec_TreeOk_n13_l (x8092 : List Int) (x8097 : Int) (x8164 : Int) (x8165 : Int) := (link_block (fin2 := (Sum.elim (fun (t : Int) => (Exit.normal, ⟨mkE 65 0 [(0, dL x8092), (3, dI x8097), (4, dI t), (5, dI x8165)], []⟩)) (fun (t : Bool) => (Exit.ret, ⟨mkE 65 0 [(2, dB t)], []⟩)))) (id := 1) (spec_TreeOk_n12_l x8092 x8097 x8164 x8165) (Sum.elim (fun (t : Int) => (Sum.inl t)) (fun (t : Bool) => (Sum.inr t))) (by
  rintro (t | t) K h
  · exact Eq.mp (by kernel_rfl) h
  · exact Eq.mp (by kernel_rfl) h))

theorem spec_TreeOk_n14_l (x8092 : List Int) (x8097 : Int) (x8193 : Int) (x8165 : Int) : Link spec_TreeOk_ctx LL (cq [1,1,0,0,1,0,1,1,1,1] (bodyOf Tryd.f20)) (aq [1,1,0,0,1,0,1,1,1,1] spec_TreeOk_an) ⟨mkE 65 0 [(0, dL x8092), (3, dI x8097), (4, dI x8193), (5, dI x8165)], []⟩ (spec_TreeOk_n14 x8165) (fun (t : Int) => (Exit.normal, ⟨mkE 65 0 [(0, dL x8092), (3, dI x8097), (4, dI x8193), (5, dI t)], []⟩)) := by
  refine Link.of fun K h => ?_
  simp only [spec_TreeOk_n14, wpO_bind, wpO_cond, wpO_map, wpO_some] at h
  exact Awp.of (by kernel_rfl) h

def spec_TreeOk_n15_l (x8092 : List Int) (x8097 : Int) (x8164 : Int) (x8165 : Int) := (link_seq2 (spec_TreeOk_n13_l x8092 x8097 x8164 x8165) (fun (t : Int) => (link_map (fin2 := (Sum.elim (fun (t : Int × Int) => (Exit.normal, ⟨mkE 65 0 [(0, dL x8092), (3, dI x8097), (4, dI t.1), (5, dI t.2)], []⟩)) (fun (t : Bool) => (Exit.ret, ⟨mkE 65 0 [(2, dB t)], []⟩)))) (spec_TreeOk_n14_l x8092 x8097 t x8165) (fun (u : Int) => (Sum.inl (t, u))) (by
  rintro t
  · kernel_rfl))) (fun (t : Bool) => (Sum.inr t)) (by
  rintro t
  · kernel_rfl) (by
  rintro t f K h
  · exact h))

def spec_TreeOk_n16_l (x8092 : List Int) (x8097 : Int) (x8164 : Int) (x8165 : Int) := (link_seq2 (spec_TreeOk_n3_l x8092 x8097 x8164 x8165) (fun (t : Unit) => (link_map (fin2 := (Sum.elim (fun (t : Int × Int) => (Exit.normal, ⟨mkE 65 0 [(0, dL x8092), (3, dI x8097), (4, dI t.1), (5, dI t.2)], []⟩)) (Sum.elim (fun (t : Bool) => (Exit.ret, ⟨mkE 65 0 [(2, dB t)], []⟩)) (fun (t : Int) => ((Exit.exit 0), ⟨mkE 65 0 [(4, dI t)], []⟩))))) (spec_TreeOk_n15_l x8092 x8097 x8164 x8165) (Sum.elim (fun (t : Int × Int) => (Sum.inl (t.1, t.2))) (fun (t : Bool) => (Sum.inr (Sum.inl t)))) (by
  rintro (t | t)
  · kernel_rfl
  · kernel_rfl))) (fun (t : Int) => (Sum.inr (Sum.inr t))) (by
  rintro t
  · kernel_rfl) (by
  rintro t f K h
  · exact h))

def spec_TreeOk_n17_l (x8092 : List Int) (x8097 : Int) := (link_loop (mk := fun (s : Int × Int) => ⟨mkE 65 0 [(0, dL x8092), (3, dI x8097), (4, dI s.1), (5, dI s.2)], []⟩) (fin := (Sum.elim (fun (t : Bool) => (Exit.ret, ⟨mkE 65 0 [(2, dB t)], []⟩)) (fun (t : Int) => ((Exit.exit 0), ⟨mkE 65 0 [(4, dI t)], []⟩)))) (by
  rintro (t | t) f K h
  · exact h
  · exact h) (fun s => link_map (spec_TreeOk_n16_l x8092 x8097 s.1 s.2) (Sum.elim (fun (t : Int × Int) => Sum.inl (t.1, t.2)) (Sum.elim (fun (t : Bool) => Sum.inr (Sum.inl t)) (fun (t : Int) => Sum.inr (Sum.inr t)))) (by
  rintro (t | t | t)
  · kernel_rfl
  · kernel_rfl
  · kernel_rfl)) (0, 0))

def spec_TreeOk_n18_l (x8092 : List Int) (x8097 : Int) := (link_block (fin2 := (Sum.elim (fun (t : Int) => (Exit.normal, ⟨mkE 65 0 [(4, dI t)], []⟩)) (fun (t : Bool) => (Exit.ret, ⟨mkE 65 0 [(2, dB t)], []⟩)))) (id := 0) (spec_TreeOk_n17_l x8092 x8097) (Sum.elim (fun (t : Bool) => (Sum.inr t)) (fun (t : Int) => (Sum.inl t))) (by
  rintro (t | t) K h
  · exact Eq.mp (by kernel_rfl) h
  · exact Eq.mp (by kernel_rfl) h))

def spec_TreeOk_n19_l (x8092 : List Int) (x8097 : Int) := (link_seq (spec_TreeOk_n2_l x8092 x8097) (fun (t : Unit) => (spec_TreeOk_n18_l x8092 x8097)))

theorem spec_TreeOk_n20_l (x8164 : Int) : Link spec_TreeOk_ctx LL (cq [1,1,1,1,1] (bodyOf Tryd.f20)) (aq [1,1,1,1,1] spec_TreeOk_an) ⟨mkE 65 0 [(4, dI x8164)], []⟩ (spec_TreeOk_n20 x8164) (fun (t : Bool) => (Exit.ret, ⟨mkE 65 0 [(2, dB t)], []⟩)) := by
  refine Link.of fun K h => ?_
  simp only [spec_TreeOk_n20, wpO_bind, wpO_cond, wpO_map, wpO_some] at h
  exact Awp.of (by kernel_rfl) h

def spec_TreeOk_n21_l (x8092 : List Int) (x8097 : Int) := (link_seq2 (spec_TreeOk_n19_l x8092 x8097) (fun (t : Int) => (spec_TreeOk_n20_l t)) (fun (t : Bool) => t) (by
  rintro t
  · kernel_rfl) (by
  rintro t f K h
  · exact h))

def spec_TreeOk_n22_l (x8092 : List Int) := (link_group (c := (cq [0,1,1,1] (bodyOf Tryd.f20))) (a := (aq [0,1,1,1] spec_TreeOk_an)) [(cq [0] (bodyOf Tryd.f20)), (cq [0,1] (bodyOf Tryd.f20)), (cq [0,1,1] (bodyOf Tryd.f20))] [(aq [0] spec_TreeOk_an), (aq [0,1] spec_TreeOk_an), (aq [0,1,1] spec_TreeOk_an)] rfl (link_seq2 (spec_TreeOk_n1_l x8092) (fun (t : Int) => (spec_TreeOk_n21_l x8092 t)) (fun (t : Bool) => t) (by
  rintro t
  · kernel_rfl) (by
  rintro t f K h
  · exact h)))

theorem spec_TreeOk_e (x8092 : List Int) {r : AV} {H' : Heap} (h : (Ans.mk _ (spec_TreeOk x8092) (fun (t : Bool) => (dB t, [])) [] none).run = some (r, H')) : Awp spec_TreeOk_ctx LL (bodyOf Tryd.f20) spec_TreeOk_an ⟨mkE 65 0 [(0, dL x8092)], []⟩ (Ret (tlook tys) Tryd.f20.results.toList r H') :=
  ret_of' (Link.cast (by kernel_rfl) (by kernel_rfl) (spec_TreeOk_n22_l x8092)) (by unfold spec_TreeOk; kernel_rfl) (by
  intro t
  exact ret_mk [dB t] (by kernel_rfl) (by kernel_rfl) (by kernel_rfl) (by kernel_rfl)) h

def F_spec_TreeOk : Fun := fun avs H =>
  match avs, H with
  | [.dat (.list (.int .i64)) x8092], [] => ⟨_, spec_TreeOk x8092, fun (t : Bool) => (dB t, []), [], none⟩
  | _, _ => Ans.no

theorem spec_TreeOk_sound : Sound Tryd.prog 20 F_spec_TreeOk := by
  refine fn_sound' (C := spec_TreeOk_ctx) (c := bodyOf Tryd.f20) (cok_of tys_ok (allc spec_l1In_sound alln) (allc Tryd.call31 alln) (by kernel_rfl)) Tryd.func20 (by kernel_rfl) LL spec_TreeOk_an ?_
  intro avs H r H' h
  unfold F_spec_TreeOk at h
  split at h
  · refine Awp.cast ?_ ?_ ?_ (spec_TreeOk_e _ h) <;> kernel_rfl
  · simp [Ans.no, Ans.run] at h


/-! loop.example/headtrees/spec.ScoreOf -/

def spec_ScoreOf_an : Ann := (.seq (.leaf [0, 1]) (.seq (.seq (.leaf [0, 1, 21]) (.cond (.seq (.leaf [4]) (.leaf [4])) (.leaf [0, 1]))) (.seq (.leaf [0, 1, 5]) (.seq (.seq (.leaf [0, 1, 5, 6]) (.block (.loop (.seq (.seq (.leaf [0, 1, 5, 6, 25]) (.cond (.leaf [0, 1, 5, 6]) (.leaf [5]))) (.seq (.block (.draw [] [0, 1, 2, 3, 4, 5, 6, 7, 8, 9, 10, 11, 12] [] [0, 1, 5, 6])) (.leaf [0, 1, 5, 6])))))) (.seq (.leaf [4]) (.leaf [4]))))))

noncomputable def spec_ScoreOf_ctx : Ctx := ⟨tlook tys, olook [(19, F_spec_ScoresOk), (20, F_spec_TreeOk)], ioF, 0, false, []⟩

theorem spec_ScoreOf_n1_l (x7973 : List (List Int)) (x7974 : List Int) : Link spec_ScoreOf_ctx LL (Code.seq (cq [0] (bodyOf Tryd.f6)) (Code.seq (cq [0,1] (bodyOf Tryd.f6)) (cq [0,1,1] (bodyOf Tryd.f6)))) (Ann.seq (aq [0] spec_ScoreOf_an) (Ann.seq (aq [0,1] spec_ScoreOf_an) (aq [0,1,1] spec_ScoreOf_an))) ⟨mkE 41 0 [(0, .dat (.list (.list (.int .i64))) x7973), (1, dL x7974)], []⟩ (spec_ScoreOf_n1 x7973 x7974) (Sum.elim (fun (t : Unit) => (Exit.normal, ⟨mkE 41 0 [(0, .dat (.list (.list (.int .i64))) x7973), (1, dL x7974), (5, dI 0)], []⟩)) (fun (t : Int) => (Exit.ret, ⟨mkE 41 0 [(4, dI t)], []⟩))) := by
  refine Link.of fun K h => ?_
  simp only [spec_ScoreOf_n1, wpO_bind, wpO_cond, wpO_map, wpO_some] at h
  exact Awp.of (by kernel_rfl) h

theorem spec_ScoreOf_n2_l (x7973 : List (List Int)) (x7974 : List Int) : Link spec_ScoreOf_ctx LL (cq [0,0,1,1,1] (bodyOf Tryd.f6)) (aq [0,0,1,1,1] spec_ScoreOf_an) ⟨mkE 41 0 [(0, .dat (.list (.list (.int .i64))) x7973), (1, dL x7974), (5, dI 0)], []⟩ (spec_ScoreOf_n2) (fun (t : Unit) => (Exit.normal, ⟨mkE 41 0 [(0, .dat (.list (.list (.int .i64))) x7973), (1, dL x7974), (5, dI 0), (6, dI 0)], []⟩)) := by
  refine Link.of fun K h => ?_
  simp only [spec_ScoreOf_n2, wpO_bind, wpO_cond, wpO_map, wpO_some] at h
  exact Awp.of (by kernel_rfl) h

theorem spec_ScoreOf_n3_l (x7973 : List (List Int)) (x7974 : List Int) (x8260 : Int) (x8261 : Int) : Link spec_ScoreOf_ctx LL (cq [0,0,1,0,1,1,1] (bodyOf Tryd.f6)) (aq [0,0,1,0,1,1,1] spec_ScoreOf_an) ⟨mkE 41 0 [(0, .dat (.list (.list (.int .i64))) x7973), (1, dL x7974), (5, dI x8260), (6, dI x8261)], []⟩ (spec_ScoreOf_n3 x7973 x7974 x8260 x8261) (Sum.elim (fun (t : Int × Int) => (Exit.normal, ⟨mkE 41 0 [(0, .dat (.list (.list (.int .i64))) x7973), (1, dL x7974), (5, dI t.1), (6, dI t.2)], []⟩)) (fun (t : Int) => ((Exit.exit 0), ⟨mkE 41 0 [(5, dI t)], []⟩))) := by
  refine Link.of fun K h => ?_
  simp only [spec_ScoreOf_n3, wpO_bind, wpO_cond, wpO_map, wpO_some] at h
  exact Awp.of (by kernel_rfl) h

def spec_ScoreOf_n4_l (x7973 : List (List Int)) (x7974 : List Int) := (link_loop (mk := fun (s : Int × Int) => ⟨mkE 41 0 [(0, .dat (.list (.list (.int .i64))) x7973), (1, dL x7974), (5, dI s.1), (6, dI s.2)], []⟩) (fin := (fun (t : Int) => ((Exit.exit 0), ⟨mkE 41 0 [(5, dI t)], []⟩))) (by
  rintro t f K h
  · exact h) (fun s => link_map (spec_ScoreOf_n3_l x7973 x7974 s.1 s.2) (Sum.elim (fun (t : Int × Int) => Sum.inl (t.1, t.2)) (fun (t : Int) => Sum.inr t)) (by
  rintro (t | t)
  · kernel_rfl
  · kernel_rfl)) (0, 0))

def spec_ScoreOf_n5_l (x7973 : List (List Int)) (x7974 : List Int) := (link_block (fin2 := (fun (t : Int) => (Exit.normal, ⟨mkE 41 0 [(5, dI t)], []⟩))) (id := 0) (spec_ScoreOf_n4_l x7973 x7974) (fun (t : Int) => t) (by
  rintro t K h
  · exact Eq.mp (by kernel_rfl) h))

def spec_ScoreOf_n6_l (x7973 : List (List Int)) (x7974 : List Int) := (link_seq (spec_ScoreOf_n2_l x7973 x7974) (fun (t : Unit) => (spec_ScoreOf_n5_l x7973 x7974)))

theorem spec_ScoreOf_n7_l (x8260 : Int) : Link spec_ScoreOf_ctx LL (cq [1,1,1,1] (bodyOf Tryd.f6)) (aq [1,1,1,1] spec_ScoreOf_an) ⟨mkE 41 0 [(5, dI x8260)], []⟩ (spec_ScoreOf_n7 x8260) (fun (t : Int) => (Exit.ret, ⟨mkE 41 0 [(4, dI t)], []⟩)) := by
  refine Link.of fun K h => ?_
  simp only [spec_ScoreOf_n7, wpO_bind, wpO_cond, wpO_map, wpO_some] at h
  exact Awp.of (by kernel_rfl) h

def spec_ScoreOf_n8_l (x7973 : List (List Int)) (x7974 : List Int) := (link_seq (spec_ScoreOf_n6_l x7973 x7974) (fun (t : Int) => (spec_ScoreOf_n7_l t)))

def spec_ScoreOf_n9_l (x7973 : List (List Int)) (x7974 : List Int) := (link_group (c := (cq [0,1,1] (bodyOf Tryd.f6))) (a := (aq [0,1,1] spec_ScoreOf_an)) [(cq [0] (bodyOf Tryd.f6)), (cq [0,1] (bodyOf Tryd.f6))] [(aq [0] spec_ScoreOf_an), (aq [0,1] spec_ScoreOf_an)] rfl (link_seq2 (spec_ScoreOf_n1_l x7973 x7974) (fun (t : Unit) => (spec_ScoreOf_n8_l x7973 x7974)) (fun (t : Int) => t) (by
  rintro t
  · kernel_rfl) (by
  rintro t f K h
  · exact h)))

theorem spec_ScoreOf_e (x7973 : List (List Int)) (x7974 : List Int) {r : AV} {H' : Heap} (h : (Ans.mk _ (spec_ScoreOf x7973 x7974) (fun (t : Int) => (dI t, [])) [] none).run = some (r, H')) : Awp spec_ScoreOf_ctx LL (bodyOf Tryd.f6) spec_ScoreOf_an ⟨mkE 41 0 [(0, .dat (.list (.list (.int .i64))) x7973), (1, dL x7974)], []⟩ (Ret (tlook tys) Tryd.f6.results.toList r H') :=
  ret_of' (Link.cast (by kernel_rfl) (by kernel_rfl) (spec_ScoreOf_n9_l x7973 x7974)) (by unfold spec_ScoreOf; kernel_rfl) (by
  intro t
  exact ret_mk [dI t] (by kernel_rfl) (by kernel_rfl) (by kernel_rfl) (by kernel_rfl)) h

def F_spec_ScoreOf : Fun := fun avs H =>
  match avs, H with
  | [.dat (.list (.list (.int .i64))) x7973, .dat (.list (.int .i64)) x7974], [] => ⟨_, spec_ScoreOf x7973 x7974, fun (t : Int) => (dI t, []), [], none⟩
  | _, _ => Ans.no

theorem spec_ScoreOf_sound : Sound Tryd.prog 6 F_spec_ScoreOf := by
  refine fn_sound' (C := spec_ScoreOf_ctx) (c := bodyOf Tryd.f6) (cok_of tys_ok (allc spec_ScoresOk_sound (allc spec_TreeOk_sound alln)) (allc Tryd.call19 (allc Tryd.call20 alln)) (by kernel_rfl)) Tryd.func6 (by kernel_rfl) LL spec_ScoreOf_an ?_
  intro avs H r H' h
  unfold F_spec_ScoreOf at h
  split at h
  · refine Awp.cast ?_ ?_ ?_ (spec_ScoreOf_e _ _ h) <;> kernel_rfl
  · simp [Ans.no, Ans.run] at h


/-! loop.example/headtrees/laws.alive -/

def laws_alive_an : Ann := (.seq (.leaf []) (.seq (.leaf [0]) (.leaf [0])))

noncomputable def laws_alive_ctx : Ctx := ⟨tlook tys, olook [(18, F_impl_TreeOk)], ioF, 0, false, []⟩

theorem laws_alive_n1_l : Link laws_alive_ctx LL (bodyOf Tryd.f7) laws_alive_an ⟨mkE 8 0 [], []⟩ (laws_alive_n1) (fun (t : Bool) => (Exit.ret, ⟨mkE 8 0 [(0, dB t)], []⟩)) := by
  refine Link.of fun K h => ?_
  simp only [laws_alive_n1, wpO_bind, wpO_cond, wpO_map, wpO_some] at h
  exact Awp.of (by kernel_rfl) h

theorem laws_alive_e {r : AV} {H' : Heap} (h : (Ans.mk _ (laws_alive) (fun (t : Bool) => (dB t, [])) [] none).run = some (r, H')) : Awp laws_alive_ctx LL (bodyOf Tryd.f7) laws_alive_an ⟨mkE 8 0 [], []⟩ (Ret (tlook tys) Tryd.f7.results.toList r H') :=
  ret_of' (laws_alive_n1_l) (by unfold laws_alive; kernel_rfl) (by
  intro t
  exact ret_mk [dB t] (by kernel_rfl) (by kernel_rfl) (by kernel_rfl) (by kernel_rfl)) h

def F_laws_alive : Fun := fun avs H =>
  match avs, H with
  | [], [] => ⟨_, laws_alive, fun (t : Bool) => (dB t, []), [], none⟩
  | _, _ => Ans.no

theorem laws_alive_sound : Sound Tryd.prog 7 F_laws_alive := by
  refine fn_sound' (C := laws_alive_ctx) (c := bodyOf Tryd.f7) (cok_of tys_ok (allc impl_TreeOk_sound alln) (allc Tryd.call18 alln) (by kernel_rfl)) Tryd.func7 (by kernel_rfl) LL laws_alive_an ?_
  intro avs H r H' h
  unfold F_laws_alive at h
  split at h
  · refine Awp.cast ?_ ?_ ?_ (laws_alive_e h) <;> kernel_rfl
  · simp [Ans.no, Ans.run] at h


/-! loop.example/headtrees/impl.scoreBounds -/

def impl_scoreBounds_an : Ann := (.seq (.leaf [0]) (.seq (.leaf [0, 3]) (.seq (.seq (.leaf [0, 3, 4]) (.block (.loop (.seq (.seq (.leaf [0, 3, 4, 13]) (.cond (.leaf [0, 3, 4]) (.leaf [3]))) (.seq (.block (.draw [6] [0, 1, 2, 3, 4, 5, 7, 8, 9, 10, 11, 6, 12, 13, 14] [] [0, 3, 4])) (.leaf [0, 3, 4])))))) (.seq (.leaf [2]) (.leaf [2])))))

noncomputable def impl_scoreBounds_ctx : Ctx := ⟨tlook tys, olook [(37, F_slices_Max_int_int)], ioF, 0, false, []⟩

theorem impl_scoreBounds_n1_l (x8320 : List (List Int)) : Link impl_scoreBounds_ctx LL (Code.seq (cq [0] (bodyOf Tryd.f32)) (cq [0,1] (bodyOf Tryd.f32))) (Ann.seq (aq [0] impl_scoreBounds_an) (aq [0,1] impl_scoreBounds_an)) ⟨mkE 31 0 [(0, .dat (.list (.list (.int .i64))) x8320)], []⟩ (impl_scoreBounds_n1 x8320) (fun (t : (List Int)) => (Exit.normal, ⟨mkE 31 0 [(0, .dat (.list (.list (.int .i64))) x8320), (3, .slc 0)], [some (sI t)]⟩)) := by
  refine Link.of fun K h => ?_
  simp only [impl_scoreBounds_n1, wpO_bind, wpO_cond, wpO_map, wpO_some] at h
  exact Awp.of (by kernel_rfl) h

theorem impl_scoreBounds_n2_l (x8320 : List (List Int)) (x8324 : List Int) : Link impl_scoreBounds_ctx LL (cq [0,0,1,1] (bodyOf Tryd.f32)) (aq [0,0,1,1] impl_scoreBounds_an) ⟨mkE 31 0 [(0, .dat (.list (.list (.int .i64))) x8320), (3, .slc 0)], [some (sI x8324)]⟩ (impl_scoreBounds_n2 x8320) (fun (t : Int) => (Exit.normal, ⟨mkE 31 0 [(0, .dat (.list (.list (.int .i64))) x8320), (3, .slc 0), (4, dI t)], [some (sI x8324)]⟩)) := by
  refine Link.of fun K h => ?_
  simp only [impl_scoreBounds_n2, wpO_bind, wpO_cond, wpO_map, wpO_some] at h
  exact Awp.of (by kernel_rfl) h

theorem impl_scoreBounds_n3_l (x8320 : List (List Int)) (x8347 : Int) (x8348 : List Int) : Link impl_scoreBounds_ctx LL (cq [0,0,1,0,1,1] (bodyOf Tryd.f32)) (aq [0,0,1,0,1,1] impl_scoreBounds_an) ⟨mkE 31 0 [(0, .dat (.list (.list (.int .i64))) x8320), (3, .slc 0), (4, dI x8347)], [some (sI x8348)]⟩ (impl_scoreBounds_n3 x8320 x8347 x8348) (Sum.elim (fun (t : Int × (List Int)) => (Exit.normal, ⟨mkE 31 0 [(0, .dat (.list (.list (.int .i64))) x8320), (3, .slc 0), (4, dI t.1)], [some (sI t.2)]⟩)) (fun (t : (List Int)) => ((Exit.exit 0), ⟨mkE 31 0 [(3, .slc 0)], [some (sI t)]⟩))) := by
  refine Link.of fun K h => ?_
  simp only [impl_scoreBounds_n3, wpO_bind, wpO_cond, wpO_map, wpO_some] at h
  exact Awp.of (by kernel_rfl) h

def impl_scoreBounds_n4_l (x8320 : List (List Int)) (x8326 : Int) (x8324 : List Int) := (link_loop (mk := fun (s : Int × (List Int)) => ⟨mkE 31 0 [(0, .dat (.list (.list (.int .i64))) x8320), (3, .slc 0), (4, dI s.1)], [some (sI s.2)]⟩) (fin := (fun (t : (List Int)) => ((Exit.exit 0), ⟨mkE 31 0 [(3, .slc 0)], [some (sI t)]⟩))) (by
  rintro t f K h
  · exact h) (fun s => link_map (impl_scoreBounds_n3_l x8320 s.1 s.2) (Sum.elim (fun (t : Int × (List Int)) => Sum.inl (t.1, t.2)) (fun (t : (List Int)) => Sum.inr t)) (by
  rintro (t | t)
  · kernel_rfl
  · kernel_rfl)) (x8326, x8324))

def impl_scoreBounds_n5_l (x8320 : List (List Int)) (x8326 : Int) (x8324 : List Int) := (link_block (fin2 := (fun (t : (List Int)) => (Exit.normal, ⟨mkE 31 0 [(3, .slc 0)], [some (sI t)]⟩))) (id := 0) (impl_scoreBounds_n4_l x8320 x8326 x8324) (fun (t : (List Int)) => t) (by
  rintro t K h
  · exact Eq.mp (by kernel_rfl) h))

def impl_scoreBounds_n6_l (x8320 : List (List Int)) (x8324 : List Int) := (link_seq (impl_scoreBounds_n2_l x8320 x8324) (fun (t : Int) => (impl_scoreBounds_n5_l x8320 t x8324)))

theorem impl_scoreBounds_n7_l (x8348 : List Int) : Link impl_scoreBounds_ctx LL (cq [1,1,1] (bodyOf Tryd.f32)) (aq [1,1,1] impl_scoreBounds_an) ⟨mkE 31 0 [(3, .slc 0)], [some (sI x8348)]⟩ (impl_scoreBounds_n7 x8348) (fun (t : (List Int)) => (Exit.ret, ⟨mkE 31 0 [(2, .slc 0)], [some (sI t)]⟩)) := by
  refine Link.of fun K h => ?_
  simp only [impl_scoreBounds_n7, wpO_bind, wpO_cond, wpO_map, wpO_some] at h
  exact Awp.of (by kernel_rfl) h

def impl_scoreBounds_n8_l (x8320 : List (List Int)) (x8324 : List Int) := (link_seq (impl_scoreBounds_n6_l x8320 x8324) (fun (t : (List Int)) => (impl_scoreBounds_n7_l t)))

def impl_scoreBounds_n9_l (x8320 : List (List Int)) := (link_group (c := (cq [0,1] (bodyOf Tryd.f32))) (a := (aq [0,1] impl_scoreBounds_an)) [(cq [0] (bodyOf Tryd.f32))] [(aq [0] impl_scoreBounds_an)] rfl (link_seq (impl_scoreBounds_n1_l x8320) (fun (t : (List Int)) => (impl_scoreBounds_n8_l x8320 t))))

theorem impl_scoreBounds_e (x8320 : List (List Int)) {r : AV} {H' : Heap} (h : (Ans.mk _ (impl_scoreBounds x8320) (fun (t : (List Int)) => (.slc 0, [some (sI t)])) [] none).run = some (r, H')) : Awp impl_scoreBounds_ctx LL (bodyOf Tryd.f32) impl_scoreBounds_an ⟨mkE 31 0 [(0, .dat (.list (.list (.int .i64))) x8320)], []⟩ (Ret (tlook tys) Tryd.f32.results.toList r H') :=
  ret_of' (Link.cast (by kernel_rfl) (by kernel_rfl) (impl_scoreBounds_n9_l x8320)) (by unfold impl_scoreBounds; kernel_rfl) (by
  intro t
  exact ret_mk [.slc 0] (by kernel_rfl) (by kernel_rfl) (by kernel_rfl) (by kernel_rfl)) h

def F_impl_scoreBounds : Fun := fun avs H =>
  match avs, H with
  | [.dat (.list (.list (.int .i64))) x8320], [] => ⟨_, impl_scoreBounds x8320, fun (t : (List Int)) => (.slc 0, [some (sI t)]), [], none⟩
  | _, _ => Ans.no

theorem impl_scoreBounds_sound : Sound Tryd.prog 32 F_impl_scoreBounds := by
  refine fn_sound' (C := impl_scoreBounds_ctx) (c := bodyOf Tryd.f32) (cok_of tys_ok (allc slices_Max_int_int_sound alln) (allc Tryd.call37 alln) (by kernel_rfl)) Tryd.func32 (by kernel_rfl) LL impl_scoreBounds_an ?_
  intro avs H r H' h
  unfold F_impl_scoreBounds at h
  split at h
  · refine Awp.cast ?_ ?_ ?_ (impl_scoreBounds_e _ h) <;> kernel_rfl
  · simp [Ans.no, Ans.run] at h


/-! loop.example/headtrees/impl.newHeadSearch -/

def impl_newHeadSearch_an : Ann := (.seq (.leaf [0]) (.seq (.draw [5] [0, 1, 2, 4, 5, 3, 6, 7, 8] [] [2]) (.leaf [2])))

noncomputable def impl_newHeadSearch_ctx : Ctx := ⟨tlook tys, olook [(32, F_impl_scoreBounds)], ioF, 0, false, []⟩

theorem impl_newHeadSearch_n1_l (x8318 : List (List Int)) : Link impl_newHeadSearch_ctx LL (bodyOf Tryd.f21) impl_newHeadSearch_an ⟨mkE 11 0 [(0, .dat (.list (.list (.int .i64))) x8318)], []⟩ (impl_newHeadSearch_n1 x8318) (fun (t : (List Int) × (List Int)) => (Exit.ret, ⟨mkE 11 0 [(2, .ptr 0 0)], [some (.box [.dat (.list (.list (.int .i64))) x8318, .slc 1, .slc 2, dI (-1)]), some (sI t.1), some (sI t.2)]⟩)) := by
  refine Link.of fun K h => ?_
  simp only [impl_newHeadSearch_n1, wpO_bind, wpO_cond, wpO_map, wpO_some] at h
  exact Awp.of (by kernel_rfl) h

theorem impl_newHeadSearch_e (x8318 : List (List Int)) {r : AV} {H' : Heap} (h : (Ans.mk _ (impl_newHeadSearch x8318) (fun (t : (List Int) × (List Int)) => (.ptr 0 0, [some (.box [.dat (.list (.list (.int .i64))) x8318, .slc 1, .slc 2, dI (-1)]), some (sI t.1), some (sI t.2)])) [] none).run = some (r, H')) : Awp impl_newHeadSearch_ctx LL (bodyOf Tryd.f21) impl_newHeadSearch_an ⟨mkE 11 0 [(0, .dat (.list (.list (.int .i64))) x8318)], []⟩ (Ret (tlook tys) Tryd.f21.results.toList r H') :=
  ret_of' (impl_newHeadSearch_n1_l x8318) (by unfold impl_newHeadSearch; kernel_rfl) (by
  intro t
  exact ret_mk [.ptr 0 0] (by kernel_rfl) (by kernel_rfl) (by kernel_rfl) (by kernel_rfl)) h

def F_impl_newHeadSearch : Fun := fun avs H =>
  match avs, H with
  | [.dat (.list (.list (.int .i64))) x8318], [] => ⟨_, impl_newHeadSearch x8318, fun (t : (List Int) × (List Int)) => (.ptr 0 0, [some (.box [.dat (.list (.list (.int .i64))) x8318, .slc 1, .slc 2, dI (-1)]), some (sI t.1), some (sI t.2)]), [], none⟩
  | _, _ => Ans.no

theorem impl_newHeadSearch_sound : Sound Tryd.prog 21 F_impl_newHeadSearch := by
  refine fn_sound' (C := impl_newHeadSearch_ctx) (c := bodyOf Tryd.f21) (cok_of tys_ok (allc impl_scoreBounds_sound alln) (allc Tryd.call32 alln) (by kernel_rfl)) Tryd.func21 (by kernel_rfl) LL impl_newHeadSearch_an ?_
  intro avs H r H' h
  unfold F_impl_newHeadSearch at h
  split at h
  · refine Awp.cast ?_ ?_ ?_ (impl_newHeadSearch_e _ h) <;> kernel_rfl
  · simp [Ans.no, Ans.run] at h


/-! (*loop.example/headtrees/impl.headSearch).giveFrom -/

def impl_headSearch_giveFrom_an : Ann := (.seq (.seq (.draw [] [0, 1, 2, 3, 4, 5, 6, 7, 8, 9, 10, 11, 12, 13] [] [0, 1, 2, 21]) (.cond (.leaf []) (.leaf [0, 1, 2]))) (.seq (.seq (.leaf [0, 1, 2, 28]) (.cond (.seq (.seq (.leaf [0, 2, 33]) (.cond (.leaf []) (.leaf []))) (.leaf [])) (.leaf [0, 1, 2]))) (.seq (.leaf [0, 1, 2, 44, 45, 46]) (.block (.loop (.seq (.leaf [0, 1, 2, 44, 45, 46, 47]) (.seq (.cond (.leaf [0, 1, 2, 44, 45, 46]) (.leaf [])) (.seq (.block (.seq (.leaf [0, 1, 2, 6, 7, 44, 45, 46]) (.seq (.leaf [0, 1, 2, 7, 44, 45, 46]) (.leaf [0, 1, 2, 44, 45, 46])))) (.leaf [0, 1, 2, 44, 45, 46])))))))))

def F_impl_headSearch_giveFrom_fuel (n : Nat) : Fun := fun avs H =>
  match avs, H with
  | [.ptr 0 0, .dat (.int .i64) x8384, .dat (.int .i64) x8385], [some (.box [.dat (.list (.list (.int .i64))) x8386, .slc 1, .slc 2, .dat (.int .i64) x8387]), some (.seq (.int .i64) x8388), some (.seq (.int .i64) x8389)] => ⟨_, impl_headSearch_giveFrom_fuel n x8384 x8385 x8386 x8387 x8388 x8389, fun (t : Int × (List Int)) => (.tup [], [some (.box [.dat (.list (.list (.int .i64))) x8386, .slc 1, .slc 2, dI t.1]), some (sI t.2), some (sI x8389)]), [], none⟩
  | _, _ => Ans.no

noncomputable def impl_headSearch_giveFrom_ctx (n : Nat) : Ctx := ⟨tlook tys, olook [(18, F_impl_TreeOk), (22, F_impl_headSearch_giveFrom_fuel n)], ioF, 3, false, []⟩

theorem impl_headSearch_giveFrom_n1_l (n : Nat) (x8384 : Int) (x8385 : Int) (x8386 : List (List Int)) (x8387 : Int) (x8388 : List Int) (x8389 : List Int) : Link (impl_headSearch_giveFrom_ctx n) LL (Code.seq (cq [0] (bodyOf Tryd.f22)) (Code.seq (cq [0,1] (bodyOf Tryd.f22)) (cq [0,1,1] (bodyOf Tryd.f22)))) (Ann.seq (aq [0] impl_headSearch_giveFrom_an) (Ann.seq (aq [0,1] impl_headSearch_giveFrom_an) (aq [0,1,1] impl_headSearch_giveFrom_an))) ⟨mkE 66 0 [(0, .ptr 0 0), (1, dI x8384), (2, dI x8385)], [some (.box [.dat (.list (.list (.int .i64))) x8386, .slc 1, .slc 2, dI x8387]), some (sI x8388), some (sI x8389)]⟩ (impl_headSearch_giveFrom_n1 (impl_headSearch_giveFrom_fuel n) x8384 x8385 x8386 x8387 x8388 x8389) (Sum.elim (fun (t : (List Int) × Int) => (Exit.normal, ⟨mkE 66 0 [(0, .ptr 0 0), (1, dI x8384), (2, dI x8385), (44, dL t.1), (45, dI t.2), (46, dI 0)], [some (.box [.dat (.list (.list (.int .i64))) x8386, .slc 1, .slc 2, dI x8387]), some (sI x8388), some (sI x8389)]⟩)) (fun (t : Int × (List Int)) => (Exit.ret, ⟨mkE 66 0 [], [some (.box [.dat (.list (.list (.int .i64))) x8386, .slc 1, .slc 2, dI t.1]), some (sI t.2), some (sI x8389)]⟩))) := by
  refine Link.of fun K h => ?_
  simp only [impl_headSearch_giveFrom_n1, wpO_bind, wpO_cond, wpO_map, wpO_some] at h
  exact Awp.of (by kernel_rfl) h

theorem impl_headSearch_giveFrom_n2_l (n : Nat) (x8384 : Int) (x8385 : Int) (x8496 : List Int) (x8497 : Int) (x8519 : Int) (x8386 : List (List Int)) (x8520 : Int) (x8521 : List Int) (x8389 : List Int) : Link (impl_headSearch_giveFrom_ctx n) LL (cq [0,0,1,1,1] (bodyOf Tryd.f22)) (aq [0,0,1,1,1] impl_headSearch_giveFrom_an) ⟨mkE 66 0 [(0, .ptr 0 0), (1, dI x8384), (2, dI x8385), (44, dL x8496), (45, dI x8497), (46, dI x8519)], [some (.box [.dat (.list (.list (.int .i64))) x8386, .slc 1, .slc 2, dI x8520]), some (sI x8521), some (sI x8389)]⟩ (impl_headSearch_giveFrom_n2 (impl_headSearch_giveFrom_fuel n) x8384 x8385 x8496 x8497 x8519 x8386 x8520 x8521 x8389) (Sum.elim (fun (t : Int × Int × (List Int)) => (Exit.normal, ⟨mkE 66 0 [(0, .ptr 0 0), (1, dI x8384), (2, dI x8385), (44, dL x8496), (45, dI x8497), (46, dI t.1)], [some (.box [.dat (.list (.list (.int .i64))) x8386, .slc 1, .slc 2, dI t.2.1]), some (sI t.2.2), some (sI x8389)]⟩)) (fun (t : Int × (List Int)) => ((Exit.exit 0), ⟨mkE 66 0 [], [some (.box [.dat (.list (.list (.int .i64))) x8386, .slc 1, .slc 2, dI t.1]), some (sI t.2), some (sI x8389)]⟩))) := by
  refine Link.of fun K h => ?_
  simp only [impl_headSearch_giveFrom_n2, wpO_bind, wpO_cond, wpO_map, wpO_some] at h
  exact Awp.of (by kernel_rfl) h

def impl_headSearch_giveFrom_n3_l (n : Nat) (x8384 : Int) (x8385 : Int) (x8496 : List Int) (x8497 : Int) (x8386 : List (List Int)) (x8387 : Int) (x8388 : List Int) (x8389 : List Int) := (link_loop (mk := fun (s : Int × Int × (List Int)) => ⟨mkE 66 0 [(0, .ptr 0 0), (1, dI x8384), (2, dI x8385), (44, dL x8496), (45, dI x8497), (46, dI s.1)], [some (.box [.dat (.list (.list (.int .i64))) x8386, .slc 1, .slc 2, dI s.2.1]), some (sI s.2.2), some (sI x8389)]⟩) (fin := (fun (t : Int × (List Int)) => ((Exit.exit 0), ⟨mkE 66 0 [], [some (.box [.dat (.list (.list (.int .i64))) x8386, .slc 1, .slc 2, dI t.1]), some (sI t.2), some (sI x8389)]⟩))) (by
  rintro t f K h
  · exact h) (fun s => link_map (impl_headSearch_giveFrom_n2_l n x8384 x8385 x8496 x8497 s.1 x8386 s.2.1 s.2.2 x8389) (Sum.elim (fun (t : Int × Int × (List Int)) => Sum.inl (t.1, t.2.1, t.2.2)) (fun (t : Int × (List Int)) => Sum.inr t)) (by
  rintro (t | t)
  · kernel_rfl
  · kernel_rfl)) (0, x8387, x8388))

def impl_headSearch_giveFrom_n4_l (n : Nat) (x8384 : Int) (x8385 : Int) (x8496 : List Int) (x8497 : Int) (x8386 : List (List Int)) (x8387 : Int) (x8388 : List Int) (x8389 : List Int) := (link_block (fin2 := (fun (t : Int × (List Int)) => (Exit.normal, ⟨mkE 66 0 [], [some (.box [.dat (.list (.list (.int .i64))) x8386, .slc 1, .slc 2, dI t.1]), some (sI t.2), some (sI x8389)]⟩))) (id := 0) (impl_headSearch_giveFrom_n3_l n x8384 x8385 x8496 x8497 x8386 x8387 x8388 x8389) (fun (t : Int × (List Int)) => (t.1, t.2)) (by
  rintro t K h
  · exact Eq.mp (by kernel_rfl) h))

def impl_headSearch_giveFrom_n5_l (n : Nat) (x8384 : Int) (x8385 : Int) (x8386 : List (List Int)) (x8387 : Int) (x8388 : List Int) (x8389 : List Int) := (link_group (c := (cq [0,1,1] (bodyOf Tryd.f22))) (a := (aq [0,1,1] impl_headSearch_giveFrom_an)) [(cq [0] (bodyOf Tryd.f22)), (cq [0,1] (bodyOf Tryd.f22))] [(aq [0] impl_headSearch_giveFrom_an), (aq [0,1] impl_headSearch_giveFrom_an)] rfl (link_seq2 (impl_headSearch_giveFrom_n1_l n x8384 x8385 x8386 x8387 x8388 x8389) (fun (t : (List Int) × Int) => (link_map (fin2 := (Sum.elim (fun (t : Int × (List Int)) => (Exit.normal, ⟨mkE 66 0 [], [some (.box [.dat (.list (.list (.int .i64))) x8386, .slc 1, .slc 2, dI t.1]), some (sI t.2), some (sI x8389)]⟩)) (fun (t : Int × (List Int)) => (Exit.ret, ⟨mkE 66 0 [], [some (.box [.dat (.list (.list (.int .i64))) x8386, .slc 1, .slc 2, dI t.1]), some (sI t.2), some (sI x8389)]⟩)))) (impl_headSearch_giveFrom_n4_l n x8384 x8385 t.1 t.2 x8386 x8387 x8388 x8389) (fun (u : Int × (List Int)) => (Sum.inl (u.1, u.2))) (by
  rintro t
  · kernel_rfl))) (fun (t : Int × (List Int)) => (Sum.inr t)) (by
  rintro t
  · kernel_rfl) (by
  rintro t f K h
  · exact h)))

theorem impl_headSearch_giveFrom_e (n : Nat) (x8384 : Int) (x8385 : Int) (x8386 : List (List Int)) (x8387 : Int) (x8388 : List Int) (x8389 : List Int) {r : AV} {H' : Heap} (h : (Ans.mk _ (impl_headSearch_giveFrom_fuel (n + 1) x8384 x8385 x8386 x8387 x8388 x8389) (fun (t : Int × (List Int)) => (.tup [], [some (.box [.dat (.list (.list (.int .i64))) x8386, .slc 1, .slc 2, dI t.1]), some (sI t.2), some (sI x8389)])) [] none).run = some (r, H')) : Awp (impl_headSearch_giveFrom_ctx n) LL (bodyOf Tryd.f22) impl_headSearch_giveFrom_an ⟨mkE 66 0 [(0, .ptr 0 0), (1, dI x8384), (2, dI x8385)], [some (.box [.dat (.list (.list (.int .i64))) x8386, .slc 1, .slc 2, dI x8387]), some (sI x8388), some (sI x8389)]⟩ (Ret (tlook tys) Tryd.f22.results.toList r H') :=
  ret_of (Link.cast (by kernel_rfl) (by kernel_rfl) (impl_headSearch_giveFrom_n5_l n x8384 x8385 x8386 x8387 x8388 x8389)) (Sum.elim (fun (t : Int × (List Int)) => (t.1, t.2)) (fun (t : Int × (List Int)) => t)) (by (show _ = _); kernel_rfl) (by
  rintro (t | t)
  · exact ret_mk [] (by kernel_rfl) (by kernel_rfl) (by kernel_rfl) (by kernel_rfl)
  · exact ret_mk [] (by kernel_rfl) (by kernel_rfl) (by kernel_rfl) (by kernel_rfl)) h

theorem impl_headSearch_giveFrom_step (n : Nat) (h22 : Sound Tryd.prog 22 (F_impl_headSearch_giveFrom_fuel n)) : Sound Tryd.prog 22 (F_impl_headSearch_giveFrom_fuel (n + 1)) := by
  refine fn_sound' (C := impl_headSearch_giveFrom_ctx n) (c := bodyOf Tryd.f22) (cok_of tys_ok (allc impl_TreeOk_sound (allc h22 alln)) (allc Tryd.call18 (allc Tryd.call22 alln)) (by kernel_rfl)) Tryd.func22 (by kernel_rfl) LL impl_headSearch_giveFrom_an ?_
  intro avs H r H' h
  unfold F_impl_headSearch_giveFrom_fuel at h
  split at h
  · refine Awp.cast ?_ ?_ ?_ (impl_headSearch_giveFrom_e n _ _ _ _ _ _ h) <;> kernel_rfl
  · simp [Ans.no, Ans.run] at h

theorem impl_headSearch_giveFrom_null : Sound Tryd.prog 22 (F_impl_headSearch_giveFrom_fuel 0) := by
  intro avs H r H' h
  unfold F_impl_headSearch_giveFrom_fuel at h
  split at h
  · simp [impl_headSearch_giveFrom_fuel, impl_headSearch_giveFrom_knot, Ans.run] at h
  · simp [Ans.no, Ans.run] at h

theorem impl_headSearch_giveFrom_knot_all : ∀ n, Sound Tryd.prog 22 (F_impl_headSearch_giveFrom_fuel n)
  | 0 => impl_headSearch_giveFrom_null
  | n + 1 => by
    have h22 := impl_headSearch_giveFrom_knot_all n
    exact impl_headSearch_giveFrom_step n h22

def F_impl_headSearch_giveFrom : Fun := fun avs H =>
  match avs, H with
  | [.ptr 0 0, .dat (.int .i64) x8384, .dat (.int .i64) x8385], [some (.box [.dat (.list (.list (.int .i64))) x8386, .slc 1, .slc 2, .dat (.int .i64) x8387]), some (.seq (.int .i64) x8388), some (.seq (.int .i64) x8389)] => ⟨_, impl_headSearch_giveFrom x8384 x8385 x8386 x8387 x8388 x8389, fun (t : Int × (List Int)) => (.tup [], [some (.box [.dat (.list (.list (.int .i64))) x8386, .slc 1, .slc 2, dI t.1]), some (sI t.2), some (sI x8389)]), [], none⟩
  | _, _ => Ans.no

theorem impl_headSearch_giveFrom_sound : Sound Tryd.prog 22 F_impl_headSearch_giveFrom := by
  have e : F_impl_headSearch_giveFrom = F_impl_headSearch_giveFrom_fuel RR := by
    funext avs H
    unfold F_impl_headSearch_giveFrom F_impl_headSearch_giveFrom_fuel
    split <;> first | rfl | (simp only [impl_headSearch_giveFrom])
  rw [e]
  exact (impl_headSearch_giveFrom_knot_all RR)


/-! loop.example/headtrees/impl.BestScore -/

def impl_BestScore_an : Ann := (.seq (.leaf [0]) (.seq (.seq (.leaf [0, 6]) (.cond (.seq (.leaf [2]) (.leaf [2])) (.leaf [0]))) (.seq (.leaf [3]) (.seq (.leaf [3]) (.seq (.leaf [2]) (.leaf [2]))))))

noncomputable def impl_BestScore_ctx : Ctx := ⟨tlook tys, olook [(17, F_impl_ScoresOk), (21, F_impl_newHeadSearch), (22, F_impl_headSearch_giveFrom)], ioF, 0, false, []⟩

theorem impl_BestScore_n1_l (x8313 : List (List Int)) : Link impl_BestScore_ctx LL (bodyOf Tryd.f8) impl_BestScore_an ⟨mkE 15 0 [(0, .dat (.list (.list (.int .i64))) x8313)], []⟩ (impl_BestScore_n1 x8313) (fun (t : Int) => (Exit.ret, ⟨mkE 15 0 [(2, dI t)], []⟩)) := by
  refine Link.of fun K h => ?_
  simp only [impl_BestScore_n1, wpO_bind, wpO_cond, wpO_map, wpO_some] at h
  exact Awp.of (by kernel_rfl) h

theorem impl_BestScore_e (x8313 : List (List Int)) {r : AV} {H' : Heap} (h : (Ans.mk _ (impl_BestScore x8313) (fun (t : Int) => (dI t, [])) [] none).run = some (r, H')) : Awp impl_BestScore_ctx LL (bodyOf Tryd.f8) impl_BestScore_an ⟨mkE 15 0 [(0, .dat (.list (.list (.int .i64))) x8313)], []⟩ (Ret (tlook tys) Tryd.f8.results.toList r H') :=
  ret_of' (impl_BestScore_n1_l x8313) (by unfold impl_BestScore; kernel_rfl) (by
  intro t
  exact ret_mk [dI t] (by kernel_rfl) (by kernel_rfl) (by kernel_rfl) (by kernel_rfl)) h

def F_impl_BestScore : Fun := fun avs H =>
  match avs, H with
  | [.dat (.list (.list (.int .i64))) x8313], [] => ⟨_, impl_BestScore x8313, fun (t : Int) => (dI t, []), [], none⟩
  | _, _ => Ans.no

theorem impl_BestScore_sound : Sound Tryd.prog 8 F_impl_BestScore := by
  refine fn_sound' (C := impl_BestScore_ctx) (c := bodyOf Tryd.f8) (cok_of tys_ok (allc impl_ScoresOk_sound (allc impl_newHeadSearch_sound (allc impl_headSearch_giveFrom_sound alln))) (allc Tryd.call17 (allc Tryd.call21 (allc Tryd.call22 alln))) (by kernel_rfl)) Tryd.func8 (by kernel_rfl) LL impl_BestScore_an ?_
  intro avs H r H' h
  unfold F_impl_BestScore at h
  split at h
  · refine Awp.cast ?_ ?_ ?_ (impl_BestScore_e _ h) <;> kernel_rfl
  · simp [Ans.no, Ans.run] at h


/-! loop.example/headtrees/impl.RootOf -/

def impl_RootOf_an : Ann := (.seq (.leaf [0]) (.seq (.seq (.leaf [0, 6]) (.cond (.seq (.leaf [2]) (.leaf [2])) (.leaf [0]))) (.seq (.leaf [3]) (.seq (.block (.loop (.seq (.seq (.leaf [3, 9]) (.cond (.leaf [3]) (.leaf [3]))) (.block (.leaf [3]))))) (.seq (.leaf [2]) (.leaf [2]))))))

noncomputable def impl_RootOf_ctx : Ctx := ⟨tlook tys, olook [(18, F_impl_TreeOk), (38, F_impl_walker_up)], ioF, 0, false, []⟩

theorem impl_RootOf_n1_l (x8577 : List Int) : Link impl_RootOf_ctx LL (Code.seq (cq [0] (bodyOf Tryd.f34)) (Code.seq (cq [0,1] (bodyOf Tryd.f34)) (cq [0,1,1] (bodyOf Tryd.f34)))) (Ann.seq (aq [0] impl_RootOf_an) (Ann.seq (aq [0,1] impl_RootOf_an) (aq [0,1,1] impl_RootOf_an))) ⟨mkE 12 0 [(0, dL x8577)], []⟩ (impl_RootOf_n1 x8577) (Sum.elim (fun (t : Unit) => (Exit.normal, ⟨mkE 12 0 [(3, .ptr 0 0)], [some (.box [dL x8577, dI 1, dI 0])]⟩)) (fun (t : Int) => (Exit.ret, ⟨mkE 12 0 [(2, dI t)], []⟩))) := by
  refine Link.of fun K h => ?_
  simp only [impl_RootOf_n1, wpO_bind, wpO_cond, wpO_map, wpO_some] at h
  exact Awp.of (by kernel_rfl) h

theorem impl_RootOf_n2_l (x8577 : List Int) (x8590 : Int) (x8591 : Int) : Link impl_RootOf_ctx LL (cq [0,0,0,1,1,1] (bodyOf Tryd.f34)) (aq [0,0,0,1,1,1] impl_RootOf_an) ⟨mkE 12 0 [(3, .ptr 0 0)], [some (.box [dL x8577, dI x8590, dI x8591])]⟩ (impl_RootOf_n2 x8577 x8590 x8591) (Sum.elim (fun (t : Int × Int) => (Exit.normal, ⟨mkE 12 0 [(3, .ptr 0 0)], [some (.box [dL x8577, dI t.1, dI t.2])]⟩)) (fun (t : Int × Int) => ((Exit.exit 0), ⟨mkE 12 0 [(3, .ptr 0 0)], [some (.box [dL x8577, dI t.1, dI t.2])]⟩))) := by
  refine Link.of fun K h => ?_
  simp only [impl_RootOf_n2, wpO_bind, wpO_cond, wpO_map, wpO_some] at h
  exact Awp.of (by kernel_rfl) h

def impl_RootOf_n3_l (x8577 : List Int) := (link_loop (mk := fun (s : Int × Int) => ⟨mkE 12 0 [(3, .ptr 0 0)], [some (.box [dL x8577, dI s.1, dI s.2])]⟩) (fin := (fun (t : Int × Int) => ((Exit.exit 0), ⟨mkE 12 0 [(3, .ptr 0 0)], [some (.box [dL x8577, dI t.1, dI t.2])]⟩))) (by
  rintro t f K h
  · exact h) (fun s => link_map (impl_RootOf_n2_l x8577 s.1 s.2) (Sum.elim (fun (t : Int × Int) => Sum.inl (t.1, t.2)) (fun (t : Int × Int) => Sum.inr t)) (by
  rintro (t | t)
  · kernel_rfl
  · kernel_rfl)) (1, 0))

def impl_RootOf_n4_l (x8577 : List Int) := (link_block (fin2 := (fun (t : Int × Int) => (Exit.normal, ⟨mkE 12 0 [(3, .ptr 0 0)], [some (.box [dL x8577, dI t.1, dI t.2])]⟩))) (id := 0) (impl_RootOf_n3_l x8577) (fun (t : Int × Int) => (t.1, t.2)) (by
  rintro t K h
  · exact Eq.mp (by kernel_rfl) h))

theorem impl_RootOf_n5_l (x8577 : List Int) (x8598 : Int) (x8599 : Int) : Link impl_RootOf_ctx LL (cq [1,1,1,1] (bodyOf Tryd.f34)) (aq [1,1,1,1] impl_RootOf_an) ⟨mkE 12 0 [(3, .ptr 0 0)], [some (.box [dL x8577, dI x8598, dI x8599])]⟩ (impl_RootOf_n5 x8598) (fun (t : Int) => (Exit.ret, ⟨mkE 12 0 [(2, dI t)], []⟩)) := by
  refine Link.of fun K h => ?_
  simp only [impl_RootOf_n5, wpO_bind, wpO_cond, wpO_map, wpO_some] at h
  exact Awp.of (by kernel_rfl) h

def impl_RootOf_n6_l (x8577 : List Int) := (link_seq (impl_RootOf_n4_l x8577) (fun (t : Int × Int) => (impl_RootOf_n5_l x8577 t.1 t.2)))

def impl_RootOf_n7_l (x8577 : List Int) := (link_group (c := (cq [0,1,1] (bodyOf Tryd.f34))) (a := (aq [0,1,1] impl_RootOf_an)) [(cq [0] (bodyOf Tryd.f34)), (cq [0,1] (bodyOf Tryd.f34))] [(aq [0] impl_RootOf_an), (aq [0,1] impl_RootOf_an)] rfl (link_seq2 (impl_RootOf_n1_l x8577) (fun (t : Unit) => (impl_RootOf_n6_l x8577)) (fun (t : Int) => t) (by
  rintro t
  · kernel_rfl) (by
  rintro t f K h
  · exact h)))

theorem impl_RootOf_e (x8577 : List Int) {r : AV} {H' : Heap} (h : (Ans.mk _ (impl_RootOf x8577) (fun (t : Int) => (dI t, [])) [] none).run = some (r, H')) : Awp impl_RootOf_ctx LL (bodyOf Tryd.f34) impl_RootOf_an ⟨mkE 12 0 [(0, dL x8577)], []⟩ (Ret (tlook tys) Tryd.f34.results.toList r H') :=
  ret_of' (Link.cast (by kernel_rfl) (by kernel_rfl) (impl_RootOf_n7_l x8577)) (by unfold impl_RootOf; kernel_rfl) (by
  intro t
  exact ret_mk [dI t] (by kernel_rfl) (by kernel_rfl) (by kernel_rfl) (by kernel_rfl)) h

def F_impl_RootOf : Fun := fun avs H =>
  match avs, H with
  | [.dat (.list (.int .i64)) x8577], [] => ⟨_, impl_RootOf x8577, fun (t : Int) => (dI t, []), [], none⟩
  | _, _ => Ans.no

theorem impl_RootOf_sound : Sound Tryd.prog 34 F_impl_RootOf := by
  refine fn_sound' (C := impl_RootOf_ctx) (c := bodyOf Tryd.f34) (cok_of tys_ok (allc impl_TreeOk_sound (allc impl_walker_up_sound alln)) (allc Tryd.call18 (allc Tryd.call38 alln)) (by kernel_rfl)) Tryd.func34 (by kernel_rfl) LL impl_RootOf_an ?_
  intro avs H r H' h
  unfold F_impl_RootOf at h
  split at h
  · refine Awp.cast ?_ ?_ ?_ (impl_RootOf_e _ h) <;> kernel_rfl
  · simp [Ans.no, Ans.run] at h


/-! loop.example/headtrees/impl.only -/

def impl_only_an : Ann := (.seq (.leaf [0]) (.seq (.leaf [2]) (.leaf [2])))

noncomputable def impl_only_ctx : Ctx := ⟨tlook tys, olook [], ioF, 0, false, []⟩

theorem impl_only_n1_l (x8605 : Int) : Link impl_only_ctx LL (bodyOf Tryd.f39) impl_only_an ⟨mkE 6 0 [(0, dI x8605)], []⟩ (impl_only_n1 x8605) (fun (t : Int) => (Exit.ret, ⟨mkE 6 0 [(2, dW t)], []⟩)) := by
  refine Link.of fun K h => ?_
  simp only [impl_only_n1, wpO_bind, wpO_cond, wpO_map, wpO_some] at h
  exact Awp.of (by kernel_rfl) h

theorem impl_only_e (x8605 : Int) {r : AV} {H' : Heap} (h : (Ans.mk _ (impl_only x8605) (fun (t : Int) => (dW t, [])) [] none).run = some (r, H')) : Awp impl_only_ctx LL (bodyOf Tryd.f39) impl_only_an ⟨mkE 6 0 [(0, dI x8605)], []⟩ (Ret (tlook tys) Tryd.f39.results.toList r H') :=
  ret_of' (impl_only_n1_l x8605) (by unfold impl_only; kernel_rfl) (by
  intro t
  exact ret_mk [dW t] (by kernel_rfl) (by kernel_rfl) (by kernel_rfl) (by kernel_rfl)) h

def F_impl_only : Fun := fun avs H =>
  match avs, H with
  | [.dat (.int .i64) x8605], [] => ⟨_, impl_only x8605, fun (t : Int) => (dW t, []), [], none⟩
  | _, _ => Ans.no

theorem impl_only_sound : Sound Tryd.prog 39 F_impl_only := by
  refine fn_sound' (C := impl_only_ctx) (c := bodyOf Tryd.f39) (cok_of tys_ok (alln) (alln) (by kernel_rfl)) Tryd.func39 (by kernel_rfl) LL impl_only_an ?_
  intro avs H r H' h
  unfold F_impl_only at h
  split at h
  · refine Awp.cast ?_ ?_ ?_ (impl_only_e _ h) <;> kernel_rfl
  · simp [Ans.no, Ans.run] at h


/-! loop.example/headtrees/impl.dependents -/

def impl_dependents_an : Ann := (.seq (.leaf [0, 1]) (.seq (.leaf [0, 1, 5]) (.seq (.seq (.leaf [0, 1, 5, 8, 9]) (.block (.loop (.seq (.leaf [0, 1, 5, 8, 9, 10]) (.seq (.cond (.leaf [0, 1, 5, 8, 9]) (.leaf [5])) (.seq (.block (.seq (.leaf [0, 1, 5, 6, 8, 9]) (.seq (.leaf [0, 1, 5, 6, 8, 9, 17]) (.cond (.leaf [0, 1, 5, 8, 9]) (.leaf [0, 1, 5, 8, 9]))))) (.leaf [0, 1, 5, 8, 9]))))))) (.seq (.leaf [4]) (.leaf [4])))))

noncomputable def impl_dependents_ctx : Ctx := ⟨tlook tys, olook [(39, F_impl_only)], ioF, 0, false, []⟩

theorem impl_dependents_n1_l (x8611 : List Int) (x8612 : Int) : Link impl_dependents_ctx LL (Code.seq (cq [0] (bodyOf Tryd.f40)) (cq [0,1] (bodyOf Tryd.f40))) (Ann.seq (aq [0] impl_dependents_an) (aq [0,1] impl_dependents_an)) ⟨mkE 25 0 [(0, dL x8611), (1, dI x8612)], []⟩ (impl_dependents_n1) (fun (t : Unit) => (Exit.normal, ⟨mkE 25 0 [(0, dL x8611), (1, dI x8612), (5, dW 0)], []⟩)) := by
  refine Link.of fun K h => ?_
  simp only [impl_dependents_n1, wpO_bind, wpO_cond, wpO_map, wpO_some] at h
  exact Awp.of (by kernel_rfl) h

theorem impl_dependents_n2_l (x8611 : List Int) (x8612 : Int) : Link impl_dependents_ctx LL (cq [0,0,1,1] (bodyOf Tryd.f40)) (aq [0,0,1,1] impl_dependents_an) ⟨mkE 25 0 [(0, dL x8611), (1, dI x8612), (5, dW 0)], []⟩ (impl_dependents_n2 x8611) (fun (t : Int) => (Exit.normal, ⟨mkE 25 0 [(0, dL x8611), (1, dI x8612), (5, dW 0), (8, dI t), (9, dI 0)], []⟩)) := by
  refine Link.of fun K h => ?_
  simp only [impl_dependents_n2, wpO_bind, wpO_cond, wpO_map, wpO_some] at h
  exact Awp.of (by kernel_rfl) h

theorem impl_dependents_n3_l (x8611 : List Int) (x8612 : Int) (x8632 : Int) (x8613 : Int) (x8633 : Int) : Link impl_dependents_ctx LL (cq [0,0,1,0,1,1] (bodyOf Tryd.f40)) (aq [0,0,1,0,1,1] impl_dependents_an) ⟨mkE 25 0 [(0, dL x8611), (1, dI x8612), (5, dW x8632), (8, dI x8613), (9, dI x8633)], []⟩ (impl_dependents_n3 x8611 x8612 x8632 x8613 x8633) (Sum.elim (fun (t : Int × Int) => (Exit.normal, ⟨mkE 25 0 [(0, dL x8611), (1, dI x8612), (5, dW t.1), (8, dI x8613), (9, dI t.2)], []⟩)) (fun (t : Int) => ((Exit.exit 0), ⟨mkE 25 0 [(5, dW t)], []⟩))) := by
  refine Link.of fun K h => ?_
  simp only [impl_dependents_n3, wpO_bind, wpO_cond, wpO_map, wpO_some] at h
  exact Awp.of (by kernel_rfl) h

def impl_dependents_n4_l (x8611 : List Int) (x8612 : Int) (x8613 : Int) := (link_loop (mk := fun (s : Int × Int) => ⟨mkE 25 0 [(0, dL x8611), (1, dI x8612), (5, dW s.1), (8, dI x8613), (9, dI s.2)], []⟩) (fin := (fun (t : Int) => ((Exit.exit 0), ⟨mkE 25 0 [(5, dW t)], []⟩))) (by
  rintro t f K h
  · exact h) (fun s => link_map (impl_dependents_n3_l x8611 x8612 s.1 x8613 s.2) (Sum.elim (fun (t : Int × Int) => Sum.inl (t.1, t.2)) (fun (t : Int) => Sum.inr t)) (by
  rintro (t | t)
  · kernel_rfl
  · kernel_rfl)) (0, 0))

def impl_dependents_n5_l (x8611 : List Int) (x8612 : Int) (x8613 : Int) := (link_block (fin2 := (fun (t : Int) => (Exit.normal, ⟨mkE 25 0 [(5, dW t)], []⟩))) (id := 0) (impl_dependents_n4_l x8611 x8612 x8613) (fun (t : Int) => t) (by
  rintro t K h
  · exact Eq.mp (by kernel_rfl) h))

def impl_dependents_n6_l (x8611 : List Int) (x8612 : Int) := (link_seq (impl_dependents_n2_l x8611 x8612) (fun (t : Int) => (impl_dependents_n5_l x8611 x8612 t)))

theorem impl_dependents_n7_l (x8632 : Int) : Link impl_dependents_ctx LL (cq [1,1,1] (bodyOf Tryd.f40)) (aq [1,1,1] impl_dependents_an) ⟨mkE 25 0 [(5, dW x8632)], []⟩ (impl_dependents_n7 x8632) (fun (t : Int) => (Exit.ret, ⟨mkE 25 0 [(4, dW t)], []⟩)) := by
  refine Link.of fun K h => ?_
  simp only [impl_dependents_n7, wpO_bind, wpO_cond, wpO_map, wpO_some] at h
  exact Awp.of (by kernel_rfl) h

def impl_dependents_n8_l (x8611 : List Int) (x8612 : Int) := (link_seq (impl_dependents_n6_l x8611 x8612) (fun (t : Int) => (impl_dependents_n7_l t)))

def impl_dependents_n9_l (x8611 : List Int) (x8612 : Int) := (link_group (c := (cq [0,1] (bodyOf Tryd.f40))) (a := (aq [0,1] impl_dependents_an)) [(cq [0] (bodyOf Tryd.f40))] [(aq [0] impl_dependents_an)] rfl (link_seq (impl_dependents_n1_l x8611 x8612) (fun (t : Unit) => (impl_dependents_n8_l x8611 x8612))))

theorem impl_dependents_e (x8611 : List Int) (x8612 : Int) {r : AV} {H' : Heap} (h : (Ans.mk _ (impl_dependents x8611 x8612) (fun (t : Int) => (dW t, [])) [] none).run = some (r, H')) : Awp impl_dependents_ctx LL (bodyOf Tryd.f40) impl_dependents_an ⟨mkE 25 0 [(0, dL x8611), (1, dI x8612)], []⟩ (Ret (tlook tys) Tryd.f40.results.toList r H') :=
  ret_of' (Link.cast (by kernel_rfl) (by kernel_rfl) (impl_dependents_n9_l x8611 x8612)) (by unfold impl_dependents; kernel_rfl) (by
  intro t
  exact ret_mk [dW t] (by kernel_rfl) (by kernel_rfl) (by kernel_rfl) (by kernel_rfl)) h

def F_impl_dependents : Fun := fun avs H =>
  match avs, H with
  | [.dat (.list (.int .i64)) x8611, .dat (.int .i64) x8612], [] => ⟨_, impl_dependents x8611 x8612, fun (t : Int) => (dW t, []), [], none⟩
  | _, _ => Ans.no

theorem impl_dependents_sound : Sound Tryd.prog 40 F_impl_dependents := by
  refine fn_sound' (C := impl_dependents_ctx) (c := bodyOf Tryd.f40) (cok_of tys_ok (allc impl_only_sound alln) (allc Tryd.call39 alln) (by kernel_rfl)) Tryd.func40 (by kernel_rfl) LL impl_dependents_an ?_
  intro avs H r H' h
  unfold F_impl_dependents at h
  split at h
  · refine Awp.cast ?_ ?_ ?_ (impl_dependents_e _ _ h) <;> kernel_rfl
  · simp [Ans.no, Ans.run] at h


/-! math/bits.OnesCount64 -/

def math_bits_OnesCount64_an : Ann := (.seq (.leaf [0]) (.seq (.leaf [0]) (.seq (.leaf [0]) (.seq (.leaf [0]) (.seq (.leaf [0]) (.seq (.leaf [0]) (.seq (.leaf [0]) (.seq (.leaf [2]) (.leaf [2])))))))))

noncomputable def math_bits_OnesCount64_ctx : Ctx := ⟨tlook tys, olook [], ioF, 0, false, []⟩

theorem math_bits_OnesCount64_n1_l (x8656 : Int) : Link math_bits_OnesCount64_ctx LL (Code.seq (cq [0] (bodyOf Tryd.f52)) (cq [0,1] (bodyOf Tryd.f52))) (Ann.seq (aq [0] math_bits_OnesCount64_an) (aq [0,1] math_bits_OnesCount64_an)) ⟨mkE 35 0 [(0, dW x8656)], []⟩ (math_bits_OnesCount64_n1 x8656) (fun (t : Int) => (Exit.normal, ⟨mkE 35 0 [(0, dW t)], []⟩)) := by
  refine Link.of fun K h => ?_
  simp only [math_bits_OnesCount64_n1, wpO_bind, wpO_cond, wpO_map, wpO_some] at h
  exact Awp.of (by kernel_rfl) h

theorem math_bits_OnesCount64_n2_l (x8660 : Int) : Link math_bits_OnesCount64_ctx LL (cq [0,1,1] (bodyOf Tryd.f52)) (aq [0,1,1] math_bits_OnesCount64_an) ⟨mkE 35 0 [(0, dW x8660)], []⟩ (math_bits_OnesCount64_n2 x8660) (fun (t : Int) => (Exit.normal, ⟨mkE 35 0 [(0, dW t)], []⟩)) := by
  refine Link.of fun K h => ?_
  simp only [math_bits_OnesCount64_n2, wpO_bind, wpO_cond, wpO_map, wpO_some] at h
  exact Awp.of (by kernel_rfl) h

theorem math_bits_OnesCount64_n3_l (x8676 : Int) : Link math_bits_OnesCount64_ctx LL (cq [0,1,1,1] (bodyOf Tryd.f52)) (aq [0,1,1,1] math_bits_OnesCount64_an) ⟨mkE 35 0 [(0, dW x8676)], []⟩ (math_bits_OnesCount64_n3 x8676) (fun (t : Int) => (Exit.normal, ⟨mkE 35 0 [(0, dW t)], []⟩)) := by
  refine Link.of fun K h => ?_
  simp only [math_bits_OnesCount64_n3, wpO_bind, wpO_cond, wpO_map, wpO_some] at h
  exact Awp.of (by kernel_rfl) h

theorem math_bits_OnesCount64_n4_l (x8682 : Int) : Link math_bits_OnesCount64_ctx LL (cq [0,1,1,1,1] (bodyOf Tryd.f52)) (aq [0,1,1,1,1] math_bits_OnesCount64_an) ⟨mkE 35 0 [(0, dW x8682)], []⟩ (math_bits_OnesCount64_n4 x8682) (fun (t : Int) => (Exit.normal, ⟨mkE 35 0 [(0, dW t)], []⟩)) := by
  refine Link.of fun K h => ?_
  simp only [math_bits_OnesCount64_n4, wpO_bind, wpO_cond, wpO_map, wpO_some] at h
  exact Awp.of (by kernel_rfl) h

theorem math_bits_OnesCount64_n5_l (x8686 : Int) : Link math_bits_OnesCount64_ctx LL (cq [0,1,1,1,1,1] (bodyOf Tryd.f52)) (aq [0,1,1,1,1,1] math_bits_OnesCount64_an) ⟨mkE 35 0 [(0, dW x8686)], []⟩ (math_bits_OnesCount64_n5 x8686) (fun (t : Int) => (Exit.normal, ⟨mkE 35 0 [(0, dW t)], []⟩)) := by
  refine Link.of fun K h => ?_
  simp only [math_bits_OnesCount64_n5, wpO_bind, wpO_cond, wpO_map, wpO_some] at h
  exact Awp.of (by kernel_rfl) h

theorem math_bits_OnesCount64_n6_l (x8690 : Int) : Link math_bits_OnesCount64_ctx LL (cq [0,1,1,1,1,1,1] (bodyOf Tryd.f52)) (aq [0,1,1,1,1,1,1] math_bits_OnesCount64_an) ⟨mkE 35 0 [(0, dW x8690)], []⟩ (math_bits_OnesCount64_n6 x8690) (fun (t : Int) => (Exit.normal, ⟨mkE 35 0 [(0, dW t)], []⟩)) := by
  refine Link.of fun K h => ?_
  simp only [math_bits_OnesCount64_n6, wpO_bind, wpO_cond, wpO_map, wpO_some] at h
  exact Awp.of (by kernel_rfl) h

theorem math_bits_OnesCount64_n7_l (x8694 : Int) : Link math_bits_OnesCount64_ctx LL (cq [0,1,1,1,1,1,1,1] (bodyOf Tryd.f52)) (aq [0,1,1,1,1,1,1,1] math_bits_OnesCount64_an) ⟨mkE 35 0 [(0, dW x8694)], []⟩ (math_bits_OnesCount64_n7 x8694) (fun (t : Int) => (Exit.normal, ⟨mkE 35 0 [(2, dI t)], []⟩)) := by
  refine Link.of fun K h => ?_
  simp only [math_bits_OnesCount64_n7, wpO_bind, wpO_cond, wpO_map, wpO_some] at h
  exact Awp.of (by kernel_rfl) h

theorem math_bits_OnesCount64_n8_l (x8698 : Int) : Link math_bits_OnesCount64_ctx LL (cq [1,1,1,1,1,1,1,1] (bodyOf Tryd.f52)) (aq [1,1,1,1,1,1,1,1] math_bits_OnesCount64_an) ⟨mkE 35 0 [(2, dI x8698)], []⟩ (math_bits_OnesCount64_n8 x8698) (fun (t : Int) => (Exit.ret, ⟨mkE 35 0 [(2, dI t)], []⟩)) := by
  refine Link.of fun K h => ?_
  simp only [math_bits_OnesCount64_n8, wpO_bind, wpO_cond, wpO_map, wpO_some] at h
  exact Awp.of (by kernel_rfl) h

def math_bits_OnesCount64_n9_l (x8694 : Int) := (link_seq (math_bits_OnesCount64_n7_l x8694) (fun (t : Int) => (math_bits_OnesCount64_n8_l t)))

def math_bits_OnesCount64_n10_l (x8690 : Int) := (link_seq (math_bits_OnesCount64_n6_l x8690) (fun (t : Int) => (math_bits_OnesCount64_n9_l t)))

def math_bits_OnesCount64_n11_l (x8686 : Int) := (link_seq (math_bits_OnesCount64_n5_l x8686) (fun (t : Int) => (math_bits_OnesCount64_n10_l t)))

def math_bits_OnesCount64_n12_l (x8682 : Int) := (link_seq (math_bits_OnesCount64_n4_l x8682) (fun (t : Int) => (math_bits_OnesCount64_n11_l t)))

def math_bits_OnesCount64_n13_l (x8676 : Int) := (link_seq (math_bits_OnesCount64_n3_l x8676) (fun (t : Int) => (math_bits_OnesCount64_n12_l t)))

def math_bits_OnesCount64_n14_l (x8660 : Int) := (link_seq (math_bits_OnesCount64_n2_l x8660) (fun (t : Int) => (math_bits_OnesCount64_n13_l t)))

def math_bits_OnesCount64_n15_l (x8656 : Int) := (link_group (c := (cq [0,1] (bodyOf Tryd.f52))) (a := (aq [0,1] math_bits_OnesCount64_an)) [(cq [0] (bodyOf Tryd.f52))] [(aq [0] math_bits_OnesCount64_an)] rfl (link_seq (math_bits_OnesCount64_n1_l x8656) (fun (t : Int) => (math_bits_OnesCount64_n14_l t))))

theorem math_bits_OnesCount64_e (x8656 : Int) {r : AV} {H' : Heap} (h : (Ans.mk _ (math_bits_OnesCount64 x8656) (fun (t : Int) => (dI t, [])) [] none).run = some (r, H')) : Awp math_bits_OnesCount64_ctx LL (bodyOf Tryd.f52) math_bits_OnesCount64_an ⟨mkE 35 0 [(0, dW x8656)], []⟩ (Ret (tlook tys) Tryd.f52.results.toList r H') :=
  ret_of' (Link.cast (by kernel_rfl) (by kernel_rfl) (math_bits_OnesCount64_n15_l x8656)) (by unfold math_bits_OnesCount64; kernel_rfl) (by
  intro t
  exact ret_mk [dI t] (by kernel_rfl) (by kernel_rfl) (by kernel_rfl) (by kernel_rfl)) h

def F_math_bits_OnesCount64 : Fun := fun avs H =>
  match avs, H with
  | [.dat (.int .u64) x8656], [] => ⟨_, math_bits_OnesCount64 x8656, fun (t : Int) => (dI t, []), [], none⟩
  | _, _ => Ans.no

theorem math_bits_OnesCount64_sound : Sound Tryd.prog 52 F_math_bits_OnesCount64 := by
  refine fn_sound' (C := math_bits_OnesCount64_ctx) (c := bodyOf Tryd.f52) (cok_of tys_ok (alln) (alln) (by kernel_rfl)) Tryd.func52 (by kernel_rfl) LL math_bits_OnesCount64_an ?_
  intro avs H r H' h
  unfold F_math_bits_OnesCount64 at h
  split at h
  · refine Awp.cast ?_ ?_ ?_ (math_bits_OnesCount64_e _ h) <;> kernel_rfl
  · simp [Ans.no, Ans.run] at h


/-! math/bits.OnesCount -/

def math_bits_OnesCount_an : Ann := (.seq (.leaf [0]) (.seq (.cond (.seq (.leaf [2]) (.leaf [2])) (.leaf [0])) (.seq (.leaf [2]) (.leaf [2]))))

noncomputable def math_bits_OnesCount_ctx : Ctx := ⟨tlook tys, olook [(52, F_math_bits_OnesCount64)], ioF, 0, false, []⟩

theorem math_bits_OnesCount_n1_l (x8655 : Int) : Link math_bits_OnesCount_ctx LL (bodyOf Tryd.f48) math_bits_OnesCount_an ⟨mkE 8 0 [(0, dW x8655)], []⟩ (math_bits_OnesCount_n1 x8655) (fun (t : Int) => (Exit.ret, ⟨mkE 8 0 [(2, dI t)], []⟩)) := by
  refine Link.of fun K h => ?_
  simp only [math_bits_OnesCount_n1, wpO_bind, wpO_cond, wpO_map, wpO_some] at h
  exact Awp.of (by kernel_rfl) h

theorem math_bits_OnesCount_e (x8655 : Int) {r : AV} {H' : Heap} (h : (Ans.mk _ (math_bits_OnesCount x8655) (fun (t : Int) => (dI t, [])) [] none).run = some (r, H')) : Awp math_bits_OnesCount_ctx LL (bodyOf Tryd.f48) math_bits_OnesCount_an ⟨mkE 8 0 [(0, dW x8655)], []⟩ (Ret (tlook tys) Tryd.f48.results.toList r H') :=
  ret_of' (math_bits_OnesCount_n1_l x8655) (by unfold math_bits_OnesCount; kernel_rfl) (by
  intro t
  exact ret_mk [dI t] (by kernel_rfl) (by kernel_rfl) (by kernel_rfl) (by kernel_rfl)) h

def F_math_bits_OnesCount : Fun := fun avs H =>
  match avs, H with
  | [.dat (.int .u64) x8655], [] => ⟨_, math_bits_OnesCount x8655, fun (t : Int) => (dI t, []), [], none⟩
  | _, _ => Ans.no

theorem math_bits_OnesCount_sound : Sound Tryd.prog 48 F_math_bits_OnesCount := by
  refine fn_sound' (C := math_bits_OnesCount_ctx) (c := bodyOf Tryd.f48) (cok_of tys_ok (allc math_bits_OnesCount64_sound alln) (allc Tryd.call52 alln) (by kernel_rfl)) Tryd.func48 (by kernel_rfl) LL math_bits_OnesCount_an ?_
  intro avs H r H' h
  unfold F_math_bits_OnesCount at h
  split at h
  · refine Awp.cast ?_ ?_ ?_ (math_bits_OnesCount_e _ h) <;> kernel_rfl
  · simp [Ans.no, Ans.run] at h


/-! (loop.example/headtrees/impl.wordSet).count -/

def impl_wordSet_count_an : Ann := (.seq (.leaf [0]) (.seq (.leaf [2]) (.leaf [2])))

noncomputable def impl_wordSet_count_ctx : Ctx := ⟨tlook tys, olook [(48, F_math_bits_OnesCount)], ioF, 0, false, []⟩

theorem impl_wordSet_count_n1_l (x8654 : Int) : Link impl_wordSet_count_ctx LL (bodyOf Tryd.f45) impl_wordSet_count_an ⟨mkE 5 0 [(0, dW x8654)], []⟩ (impl_wordSet_count_n1 x8654) (fun (t : Int) => (Exit.ret, ⟨mkE 5 0 [(2, dI t)], []⟩)) := by
  refine Link.of fun K h => ?_
  simp only [impl_wordSet_count_n1, wpO_bind, wpO_cond, wpO_map, wpO_some] at h
  exact Awp.of (by kernel_rfl) h

theorem impl_wordSet_count_e (x8654 : Int) {r : AV} {H' : Heap} (h : (Ans.mk _ (impl_wordSet_count x8654) (fun (t : Int) => (dI t, [])) [] none).run = some (r, H')) : Awp impl_wordSet_count_ctx LL (bodyOf Tryd.f45) impl_wordSet_count_an ⟨mkE 5 0 [(0, dW x8654)], []⟩ (Ret (tlook tys) Tryd.f45.results.toList r H') :=
  ret_of' (impl_wordSet_count_n1_l x8654) (by unfold impl_wordSet_count; kernel_rfl) (by
  intro t
  exact ret_mk [dI t] (by kernel_rfl) (by kernel_rfl) (by kernel_rfl) (by kernel_rfl)) h

def F_impl_wordSet_count : Fun := fun avs H =>
  match avs, H with
  | [.dat (.int .u64) x8654], [] => ⟨_, impl_wordSet_count x8654, fun (t : Int) => (dI t, []), [], none⟩
  | _, _ => Ans.no

theorem impl_wordSet_count_sound : Sound Tryd.prog 45 F_impl_wordSet_count := by
  refine fn_sound' (C := impl_wordSet_count_ctx) (c := bodyOf Tryd.f45) (cok_of tys_ok (allc math_bits_OnesCount_sound alln) (allc Tryd.call48 alln) (by kernel_rfl)) Tryd.func45 (by kernel_rfl) LL impl_wordSet_count_an ?_
  intro avs H r H' h
  unfold F_impl_wordSet_count at h
  split at h
  · refine Awp.cast ?_ ?_ ?_ (impl_wordSet_count_e _ h) <;> kernel_rfl
  · simp [Ans.no, Ans.run] at h


/-! math/bits.TrailingZeros64 -/

def math_bits_TrailingZeros64_an : Ann := (.seq (.leaf [0]) (.seq (.seq (.leaf [0, 4]) (.cond (.seq (.leaf [2]) (.leaf [2])) (.leaf [0]))) (.seq (.leaf [2]) (.leaf [2]))))

noncomputable def math_bits_TrailingZeros64_ctx : Ctx := ⟨tlook tys, olook [], ioF, 0, false, []⟩

theorem math_bits_TrailingZeros64_n1_l (x8709 : Int) : Link math_bits_TrailingZeros64_ctx LL (bodyOf Tryd.f50) math_bits_TrailingZeros64_an ⟨mkE 14 0 [(0, dW x8709)], []⟩ (math_bits_TrailingZeros64_n1 x8709) (fun (t : Int) => (Exit.ret, ⟨mkE 14 0 [(2, dI t)], []⟩)) := by
  refine Link.of fun K h => ?_
  simp only [math_bits_TrailingZeros64_n1, wpO_bind, wpO_cond, wpO_map, wpO_some] at h
  exact Awp.of (by kernel_rfl) h

theorem math_bits_TrailingZeros64_e (x8709 : Int) {r : AV} {H' : Heap} (h : (Ans.mk _ (math_bits_TrailingZeros64 x8709) (fun (t : Int) => (dI t, [])) [] none).run = some (r, H')) : Awp math_bits_TrailingZeros64_ctx LL (bodyOf Tryd.f50) math_bits_TrailingZeros64_an ⟨mkE 14 0 [(0, dW x8709)], []⟩ (Ret (tlook tys) Tryd.f50.results.toList r H') :=
  ret_of' (math_bits_TrailingZeros64_n1_l x8709) (by unfold math_bits_TrailingZeros64; kernel_rfl) (by
  intro t
  exact ret_mk [dI t] (by kernel_rfl) (by kernel_rfl) (by kernel_rfl) (by kernel_rfl)) h

def F_math_bits_TrailingZeros64 : Fun := fun avs H =>
  match avs, H with
  | [.dat (.int .u64) x8709], [] => ⟨_, math_bits_TrailingZeros64 x8709, fun (t : Int) => (dI t, []), [], none⟩
  | _, _ => Ans.no

theorem math_bits_TrailingZeros64_sound : Sound Tryd.prog 50 F_math_bits_TrailingZeros64 := by
  refine fn_sound' (C := math_bits_TrailingZeros64_ctx) (c := bodyOf Tryd.f50) (cok_of tys_ok (alln) (alln) (by kernel_rfl)) Tryd.func50 (by kernel_rfl) LL math_bits_TrailingZeros64_an ?_
  intro avs H r H' h
  unfold F_math_bits_TrailingZeros64 at h
  split at h
  · refine Awp.cast ?_ ?_ ?_ (math_bits_TrailingZeros64_e _ h) <;> kernel_rfl
  · simp [Ans.no, Ans.run] at h


/-! math/bits.TrailingZeros -/

def math_bits_TrailingZeros_an : Ann := (.seq (.leaf [0]) (.seq (.cond (.seq (.leaf [2]) (.leaf [2])) (.leaf [0])) (.seq (.leaf [2]) (.leaf [2]))))

noncomputable def math_bits_TrailingZeros_ctx : Ctx := ⟨tlook tys, olook [(50, F_math_bits_TrailingZeros64)], ioF, 0, false, []⟩

theorem math_bits_TrailingZeros_n1_l (x8708 : Int) : Link math_bits_TrailingZeros_ctx LL (bodyOf Tryd.f46) math_bits_TrailingZeros_an ⟨mkE 8 0 [(0, dW x8708)], []⟩ (math_bits_TrailingZeros_n1 x8708) (fun (t : Int) => (Exit.ret, ⟨mkE 8 0 [(2, dI t)], []⟩)) := by
  refine Link.of fun K h => ?_
  simp only [math_bits_TrailingZeros_n1, wpO_bind, wpO_cond, wpO_map, wpO_some] at h
  exact Awp.of (by kernel_rfl) h

theorem math_bits_TrailingZeros_e (x8708 : Int) {r : AV} {H' : Heap} (h : (Ans.mk _ (math_bits_TrailingZeros x8708) (fun (t : Int) => (dI t, [])) [] none).run = some (r, H')) : Awp math_bits_TrailingZeros_ctx LL (bodyOf Tryd.f46) math_bits_TrailingZeros_an ⟨mkE 8 0 [(0, dW x8708)], []⟩ (Ret (tlook tys) Tryd.f46.results.toList r H') :=
  ret_of' (math_bits_TrailingZeros_n1_l x8708) (by unfold math_bits_TrailingZeros; kernel_rfl) (by
  intro t
  exact ret_mk [dI t] (by kernel_rfl) (by kernel_rfl) (by kernel_rfl) (by kernel_rfl)) h

def F_math_bits_TrailingZeros : Fun := fun avs H =>
  match avs, H with
  | [.dat (.int .u64) x8708], [] => ⟨_, math_bits_TrailingZeros x8708, fun (t : Int) => (dI t, []), [], none⟩
  | _, _ => Ans.no

theorem math_bits_TrailingZeros_sound : Sound Tryd.prog 46 F_math_bits_TrailingZeros := by
  refine fn_sound' (C := math_bits_TrailingZeros_ctx) (c := bodyOf Tryd.f46) (cok_of tys_ok (allc math_bits_TrailingZeros64_sound alln) (allc Tryd.call50 alln) (by kernel_rfl)) Tryd.func46 (by kernel_rfl) LL math_bits_TrailingZeros_an ?_
  intro avs H r H' h
  unfold F_math_bits_TrailingZeros at h
  split at h
  · refine Awp.cast ?_ ?_ ?_ (math_bits_TrailingZeros_e _ h) <;> kernel_rfl
  · simp [Ans.no, Ans.run] at h


/-! (loop.example/headtrees/impl.wordSet).list -/

def impl_wordSet_list_an : Ann := (.seq (.leaf [0]) (.seq (.leaf [0, 3]) (.seq (.seq (.leaf [3, 4]) (.block (.loop (.seq (.seq (.leaf [3, 4, 10]) (.cond (.leaf [3, 4]) (.leaf [3]))) (.seq (.block (.leaf [3, 4])) (.leaf [3, 4])))))) (.seq (.leaf [2]) (.leaf [2])))))

noncomputable def impl_wordSet_list_ctx : Ctx := ⟨tlook tys, olook [(45, F_impl_wordSet_count), (46, F_math_bits_TrailingZeros)], ioF, 0, false, []⟩

theorem impl_wordSet_list_n1_l (x8653 : Int) : Link impl_wordSet_list_ctx LL (Code.seq (cq [0] (bodyOf Tryd.f41)) (cq [0,1] (bodyOf Tryd.f41))) (Ann.seq (aq [0] impl_wordSet_list_an) (aq [0,1] impl_wordSet_list_an)) ⟨mkE 22 0 [(0, dW x8653)], []⟩ (impl_wordSet_list_n1 x8653) (fun (t : (List Int)) => (Exit.normal, ⟨mkE 22 0 [(0, dW x8653), (3, .slc 0)], [some (sI t)]⟩)) := by
  refine Link.of fun K h => ?_
  simp only [impl_wordSet_list_n1, wpO_bind, wpO_cond, wpO_map, wpO_some] at h
  exact Awp.of (by kernel_rfl) h

theorem impl_wordSet_list_n2_l (x8653 : Int) (x8705 : List Int) : Link impl_wordSet_list_ctx LL (cq [0,0,1,1] (bodyOf Tryd.f41)) (aq [0,0,1,1] impl_wordSet_list_an) ⟨mkE 22 0 [(0, dW x8653), (3, .slc 0)], [some (sI x8705)]⟩ (impl_wordSet_list_n2) (fun (t : Unit) => (Exit.normal, ⟨mkE 22 0 [(3, .slc 0), (4, dW x8653)], [some (sI x8705)]⟩)) := by
  refine Link.of fun K h => ?_
  simp only [impl_wordSet_list_n2, wpO_bind, wpO_cond, wpO_map, wpO_some] at h
  exact Awp.of (by kernel_rfl) h

theorem impl_wordSet_list_n3_l (x8745 : Int) (x8746 : List Int) : Link impl_wordSet_list_ctx LL (cq [0,0,1,0,1,1] (bodyOf Tryd.f41)) (aq [0,0,1,0,1,1] impl_wordSet_list_an) ⟨mkE 22 0 [(3, .slc 0), (4, dW x8745)], [some (sI x8746)]⟩ (impl_wordSet_list_n3 x8745 x8746) (Sum.elim (fun (t : Int × (List Int)) => (Exit.normal, ⟨mkE 22 0 [(3, .slc 0), (4, dW t.1)], [some (sI t.2)]⟩)) (fun (t : (List Int)) => ((Exit.exit 0), ⟨mkE 22 0 [(3, .slc 0)], [some (sI t)]⟩))) := by
  refine Link.of fun K h => ?_
  simp only [impl_wordSet_list_n3, wpO_bind, wpO_cond, wpO_map, wpO_some] at h
  exact Awp.of (by kernel_rfl) h

def impl_wordSet_list_n4_l (x8653 : Int) (x8705 : List Int) := (link_loop (mk := fun (s : Int × (List Int)) => ⟨mkE 22 0 [(3, .slc 0), (4, dW s.1)], [some (sI s.2)]⟩) (fin := (fun (t : (List Int)) => ((Exit.exit 0), ⟨mkE 22 0 [(3, .slc 0)], [some (sI t)]⟩))) (by
  rintro t f K h
  · exact h) (fun s => link_map (impl_wordSet_list_n3_l s.1 s.2) (Sum.elim (fun (t : Int × (List Int)) => Sum.inl (t.1, t.2)) (fun (t : (List Int)) => Sum.inr t)) (by
  rintro (t | t)
  · kernel_rfl
  · kernel_rfl)) (x8653, x8705))

def impl_wordSet_list_n5_l (x8653 : Int) (x8705 : List Int) := (link_block (fin2 := (fun (t : (List Int)) => (Exit.normal, ⟨mkE 22 0 [(3, .slc 0)], [some (sI t)]⟩))) (id := 0) (impl_wordSet_list_n4_l x8653 x8705) (fun (t : (List Int)) => t) (by
  rintro t K h
  · exact Eq.mp (by kernel_rfl) h))

def impl_wordSet_list_n6_l (x8653 : Int) (x8705 : List Int) := (link_seq (impl_wordSet_list_n2_l x8653 x8705) (fun (t : Unit) => (impl_wordSet_list_n5_l x8653 x8705)))

theorem impl_wordSet_list_n7_l (x8746 : List Int) : Link impl_wordSet_list_ctx LL (cq [1,1,1] (bodyOf Tryd.f41)) (aq [1,1,1] impl_wordSet_list_an) ⟨mkE 22 0 [(3, .slc 0)], [some (sI x8746)]⟩ (impl_wordSet_list_n7 x8746) (fun (t : (List Int)) => (Exit.ret, ⟨mkE 22 0 [(2, .slc 0)], [some (sI t)]⟩)) := by
  refine Link.of fun K h => ?_
  simp only [impl_wordSet_list_n7, wpO_bind, wpO_cond, wpO_map, wpO_some] at h
  exact Awp.of (by kernel_rfl) h

def impl_wordSet_list_n8_l (x8653 : Int) (x8705 : List Int) := (link_seq (impl_wordSet_list_n6_l x8653 x8705) (fun (t : (List Int)) => (impl_wordSet_list_n7_l t)))

def impl_wordSet_list_n9_l (x8653 : Int) := (link_group (c := (cq [0,1] (bodyOf Tryd.f41))) (a := (aq [0,1] impl_wordSet_list_an)) [(cq [0] (bodyOf Tryd.f41))] [(aq [0] impl_wordSet_list_an)] rfl (link_seq (impl_wordSet_list_n1_l x8653) (fun (t : (List Int)) => (impl_wordSet_list_n8_l x8653 t))))

theorem impl_wordSet_list_e (x8653 : Int) {r : AV} {H' : Heap} (h : (Ans.mk _ (impl_wordSet_list x8653) (fun (t : (List Int)) => (.slc 0, [some (sI t)])) [] none).run = some (r, H')) : Awp impl_wordSet_list_ctx LL (bodyOf Tryd.f41) impl_wordSet_list_an ⟨mkE 22 0 [(0, dW x8653)], []⟩ (Ret (tlook tys) Tryd.f41.results.toList r H') :=
  ret_of' (Link.cast (by kernel_rfl) (by kernel_rfl) (impl_wordSet_list_n9_l x8653)) (by unfold impl_wordSet_list; kernel_rfl) (by
  intro t
  exact ret_mk [.slc 0] (by kernel_rfl) (by kernel_rfl) (by kernel_rfl) (by kernel_rfl)) h

def F_impl_wordSet_list : Fun := fun avs H =>
  match avs, H with
  | [.dat (.int .u64) x8653], [] => ⟨_, impl_wordSet_list x8653, fun (t : (List Int)) => (.slc 0, [some (sI t)]), [], none⟩
  | _, _ => Ans.no

theorem impl_wordSet_list_sound : Sound Tryd.prog 41 F_impl_wordSet_list := by
  refine fn_sound' (C := impl_wordSet_list_ctx) (c := bodyOf Tryd.f41) (cok_of tys_ok (allc impl_wordSet_count_sound (allc math_bits_TrailingZeros_sound alln)) (allc Tryd.call45 (allc Tryd.call46 alln)) (by kernel_rfl)) Tryd.func41 (by kernel_rfl) LL impl_wordSet_list_an ?_
  intro avs H r H' h
  unfold F_impl_wordSet_list at h
  split at h
  · refine Awp.cast ?_ ?_ ?_ (impl_wordSet_list_e _ h) <;> kernel_rfl
  · simp [Ans.no, Ans.run] at h


/-! loop.example/headtrees/impl.fillYields -/

def impl_fillYields_an : Ann := (.seq (.leaf [0, 1, 2]) (.seq (.leaf [0, 1, 2, 7]) (.seq (.seq (.leaf [0, 1, 2, 7, 15, 16, 17]) (.block (.loop (.seq (.leaf [0, 1, 2, 7, 15, 16, 17, 18]) (.seq (.cond (.leaf [0, 1, 2, 7, 15, 16, 17]) (.leaf [0, 2, 7])) (.seq (.block (.seq (.leaf [0, 1, 2, 7, 9, 15, 16, 17]) (.leaf [0, 1, 2, 7, 15, 16, 17]))) (.leaf [0, 1, 2, 7, 15, 16, 17]))))))) (.seq (.leaf [7]) (.seq (.leaf [6]) (.leaf [6]))))))

def F_impl_fillYields_fuel (n : Nat) : Fun := fun avs H =>
  match avs, H with
  | [.slc 0, .dat (.list (.int .i64)) x8602, .dat (.int .i64) x8603], [some (.seq (.int .u64) x8604)] => ⟨_, impl_fillYields_fuel n x8602 x8603 x8604, fun (t : Int × (List Int)) => (dW t.1, [some (.seq (.int .u64) t.2)]), [], none⟩
  | _, _ => Ans.no

noncomputable def impl_fillYields_ctx (n : Nat) : Ctx := ⟨tlook tys, olook [(39, F_impl_only), (40, F_impl_dependents), (41, F_impl_wordSet_list), (33, F_impl_fillYields_fuel n)], ioF, 1, false, []⟩

theorem impl_fillYields_n1_l (n : Nat) (x8602 : List Int) (x8603 : Int) (x8604 : List Int) : Link (impl_fillYields_ctx n) LL (Code.seq (cq [0] (bodyOf Tryd.f33)) (cq [0,1] (bodyOf Tryd.f33))) (Ann.seq (aq [0] impl_fillYields_an) (aq [0,1] impl_fillYields_an)) ⟨mkE 34 0 [(0, .slc 0), (1, dL x8602), (2, dI x8603)], [some (.seq (.int .u64) x8604)]⟩ (impl_fillYields_n1 (impl_fillYields_fuel n) x8603) (fun (t : Int) => (Exit.normal, ⟨mkE 34 0 [(0, .slc 0), (1, dL x8602), (2, dI x8603), (7, dW t)], [some (.seq (.int .u64) x8604)]⟩)) := by
  refine Link.of fun K h => ?_
  simp only [impl_fillYields_n1, wpO_bind, wpO_cond, wpO_map, wpO_some] at h
  exact Awp.of (by kernel_rfl) h

theorem impl_fillYields_n2_l (n : Nat) (x8602 : List Int) (x8603 : Int) (x8780 : Int) (x8604 : List Int) : Link (impl_fillYields_ctx n) LL (cq [0,0,1,1] (bodyOf Tryd.f33)) (aq [0,0,1,1] impl_fillYields_an) ⟨mkE 34 0 [(0, .slc 0), (1, dL x8602), (2, dI x8603), (7, dW x8780)], [some (.seq (.int .u64) x8604)]⟩ (impl_fillYields_n2 (impl_fillYields_fuel n) x8602 x8603) (fun (t : Int × (List Int)) => (Exit.normal, ⟨mkE 34 0 [(0, .slc 0), (1, dL x8602), (2, dI x8603), (7, dW x8780), (15, .slc 1), (16, dI t.1), (17, dI 0)], [some (.seq (.int .u64) x8604), some (sI t.2)]⟩)) := by
  refine Link.of fun K h => ?_
  simp only [impl_fillYields_n2, wpO_bind, wpO_cond, wpO_map, wpO_some] at h
  exact Awp.of (by kernel_rfl) h

theorem impl_fillYields_n3_l (n : Nat) (x8602 : List Int) (x8603 : Int) (x8801 : Int) (x8783 : Int) (x8802 : Int) (x8803 : List Int) (x8782 : List Int) : Link (impl_fillYields_ctx n) LL (cq [0,0,1,0,1,1] (bodyOf Tryd.f33)) (aq [0,0,1,0,1,1] impl_fillYields_an) ⟨mkE 34 0 [(0, .slc 0), (1, dL x8602), (2, dI x8603), (7, dW x8801), (15, .slc 1), (16, dI x8783), (17, dI x8802)], [some (.seq (.int .u64) x8803), some (sI x8782)]⟩ (impl_fillYields_n3 (impl_fillYields_fuel n) x8602 x8801 x8783 x8802 x8803 x8782) (Sum.elim (fun (t : Int × Int × (List Int)) => (Exit.normal, ⟨mkE 34 0 [(0, .slc 0), (1, dL x8602), (2, dI x8603), (7, dW t.1), (15, .slc 1), (16, dI x8783), (17, dI t.2.1)], [some (.seq (.int .u64) t.2.2), some (sI x8782)]⟩)) (fun (t : Int × (List Int)) => ((Exit.exit 0), ⟨mkE 34 0 [(0, .slc 0), (2, dI x8603), (7, dW t.1)], [some (.seq (.int .u64) t.2)]⟩))) := by
  refine Link.of fun K h => ?_
  simp only [impl_fillYields_n3, wpO_bind, wpO_cond, wpO_map, wpO_some] at h
  exact Awp.of (by kernel_rfl) h

def impl_fillYields_n4_l (n : Nat) (x8602 : List Int) (x8603 : Int) (x8780 : Int) (x8783 : Int) (x8604 : List Int) (x8782 : List Int) := (link_loop (mk := fun (s : Int × Int × (List Int)) => ⟨mkE 34 0 [(0, .slc 0), (1, dL x8602), (2, dI x8603), (7, dW s.1), (15, .slc 1), (16, dI x8783), (17, dI s.2.1)], [some (.seq (.int .u64) s.2.2), some (sI x8782)]⟩) (fin := (fun (t : Int × (List Int)) => ((Exit.exit 0), ⟨mkE 34 0 [(0, .slc 0), (2, dI x8603), (7, dW t.1)], [some (.seq (.int .u64) t.2)]⟩))) (by
  rintro t f K h
  · exact h) (fun s => link_map (impl_fillYields_n3_l n x8602 x8603 s.1 x8783 s.2.1 s.2.2 x8782) (Sum.elim (fun (t : Int × Int × (List Int)) => Sum.inl (t.1, t.2.1, t.2.2)) (fun (t : Int × (List Int)) => Sum.inr t)) (by
  rintro (t | t)
  · kernel_rfl
  · kernel_rfl)) (x8780, 0, x8604))

def impl_fillYields_n5_l (n : Nat) (x8602 : List Int) (x8603 : Int) (x8780 : Int) (x8783 : Int) (x8604 : List Int) (x8782 : List Int) := (link_block (fin2 := (fun (t : Int × (List Int)) => (Exit.normal, ⟨mkE 34 0 [(0, .slc 0), (2, dI x8603), (7, dW t.1)], [some (.seq (.int .u64) t.2)]⟩))) (id := 0) (impl_fillYields_n4_l n x8602 x8603 x8780 x8783 x8604 x8782) (fun (t : Int × (List Int)) => (t.1, t.2)) (by
  rintro t K h
  · exact Eq.mp (by kernel_rfl) h))

def impl_fillYields_n6_l (n : Nat) (x8602 : List Int) (x8603 : Int) (x8780 : Int) (x8604 : List Int) := (link_seq (impl_fillYields_n2_l n x8602 x8603 x8780 x8604) (fun (t : Int × (List Int)) => (impl_fillYields_n5_l n x8602 x8603 x8780 t.1 x8604 t.2)))

theorem impl_fillYields_n7_l (n : Nat) (x8603 : Int) (x8801 : Int) (x8803 : List Int) : Link (impl_fillYields_ctx n) LL (cq [1,1,1] (bodyOf Tryd.f33)) (aq [1,1,1] impl_fillYields_an) ⟨mkE 34 0 [(0, .slc 0), (2, dI x8603), (7, dW x8801)], [some (.seq (.int .u64) x8803)]⟩ (impl_fillYields_n7 (impl_fillYields_fuel n) x8603 x8801 x8803) (fun (t : Int × (List Int)) => (Exit.ret, ⟨mkE 34 0 [(6, dW t.1)], [some (.seq (.int .u64) t.2)]⟩)) := by
  refine Link.of fun K h => ?_
  simp only [impl_fillYields_n7, wpO_bind, wpO_cond, wpO_map, wpO_some] at h
  exact Awp.of (by kernel_rfl) h

def impl_fillYields_n8_l (n : Nat) (x8602 : List Int) (x8603 : Int) (x8780 : Int) (x8604 : List Int) := (link_seq (impl_fillYields_n6_l n x8602 x8603 x8780 x8604) (fun (t : Int × (List Int)) => (impl_fillYields_n7_l n x8603 t.1 t.2)))

def impl_fillYields_n9_l (n : Nat) (x8602 : List Int) (x8603 : Int) (x8604 : List Int) := (link_group (c := (cq [0,1] (bodyOf Tryd.f33))) (a := (aq [0,1] impl_fillYields_an)) [(cq [0] (bodyOf Tryd.f33))] [(aq [0] impl_fillYields_an)] rfl (link_seq (impl_fillYields_n1_l n x8602 x8603 x8604) (fun (t : Int) => (impl_fillYields_n8_l n x8602 x8603 t x8604))))

theorem impl_fillYields_e (n : Nat) (x8602 : List Int) (x8603 : Int) (x8604 : List Int) {r : AV} {H' : Heap} (h : (Ans.mk _ (impl_fillYields_fuel (n + 1) x8602 x8603 x8604) (fun (t : Int × (List Int)) => (dW t.1, [some (.seq (.int .u64) t.2)])) [] none).run = some (r, H')) : Awp (impl_fillYields_ctx n) LL (bodyOf Tryd.f33) impl_fillYields_an ⟨mkE 34 0 [(0, .slc 0), (1, dL x8602), (2, dI x8603)], [some (.seq (.int .u64) x8604)]⟩ (Ret (tlook tys) Tryd.f33.results.toList r H') :=
  ret_of' (Link.cast (by kernel_rfl) (by kernel_rfl) (impl_fillYields_n9_l n x8602 x8603 x8604)) (by (show _ = _); kernel_rfl) (by
  intro t
  exact ret_mk [dW t.1] (by kernel_rfl) (by kernel_rfl) (by kernel_rfl) (by kernel_rfl)) h

theorem impl_fillYields_step (n : Nat) (h33 : Sound Tryd.prog 33 (F_impl_fillYields_fuel n)) : Sound Tryd.prog 33 (F_impl_fillYields_fuel (n + 1)) := by
  refine fn_sound' (C := impl_fillYields_ctx n) (c := bodyOf Tryd.f33) (cok_of tys_ok (allc impl_only_sound (allc impl_dependents_sound (allc impl_wordSet_list_sound (allc h33 alln)))) (allc Tryd.call39 (allc Tryd.call40 (allc Tryd.call41 (allc Tryd.call33 alln)))) (by kernel_rfl)) Tryd.func33 (by kernel_rfl) LL impl_fillYields_an ?_
  intro avs H r H' h
  unfold F_impl_fillYields_fuel at h
  split at h
  · refine Awp.cast ?_ ?_ ?_ (impl_fillYields_e n _ _ _ h) <;> kernel_rfl
  · simp [Ans.no, Ans.run] at h

theorem impl_fillYields_null : Sound Tryd.prog 33 (F_impl_fillYields_fuel 0) := by
  intro avs H r H' h
  unfold F_impl_fillYields_fuel at h
  split at h
  · simp [impl_fillYields_fuel, impl_fillYields_knot, Ans.run] at h
  · simp [Ans.no, Ans.run] at h

theorem impl_fillYields_knot_all : ∀ n, Sound Tryd.prog 33 (F_impl_fillYields_fuel n)
  | 0 => impl_fillYields_null
  | n + 1 => by
    have h33 := impl_fillYields_knot_all n
    exact impl_fillYields_step n h33

def F_impl_fillYields : Fun := fun avs H =>
  match avs, H with
  | [.slc 0, .dat (.list (.int .i64)) x8602, .dat (.int .i64) x8603], [some (.seq (.int .u64) x8604)] => ⟨_, impl_fillYields x8602 x8603 x8604, fun (t : Int × (List Int)) => (dW t.1, [some (.seq (.int .u64) t.2)]), [], none⟩
  | _, _ => Ans.no

theorem impl_fillYields_sound : Sound Tryd.prog 33 F_impl_fillYields := by
  have e : F_impl_fillYields = F_impl_fillYields_fuel RR := by
    funext avs H
    unfold F_impl_fillYields F_impl_fillYields_fuel
    split <;> first | rfl | (simp only [impl_fillYields])
  rw [e]
  exact (impl_fillYields_knot_all RR)


/-! loop.example/headtrees/impl.yieldsOf -/

def impl_yieldsOf_an : Ann := (.seq (.leaf [0]) (.seq (.leaf [0, 3]) (.seq (.leaf [3]) (.seq (.leaf [2]) (.leaf [2])))))

noncomputable def impl_yieldsOf_ctx : Ctx := ⟨tlook tys, olook [(34, F_impl_RootOf), (33, F_impl_fillYields)], ioF, 0, false, []⟩

theorem impl_yieldsOf_n1_l (x8570 : List Int) : Link impl_yieldsOf_ctx LL (bodyOf Tryd.f23) impl_yieldsOf_an ⟨mkE 13 0 [(0, dL x8570)], []⟩ (impl_yieldsOf_n1 x8570) (fun (t : (List Int)) => (Exit.ret, ⟨mkE 13 0 [(2, .slc 0)], [some (.seq (.int .u64) t)]⟩)) := by
  refine Link.of fun K h => ?_
  simp only [impl_yieldsOf_n1, wpO_bind, wpO_cond, wpO_map, wpO_some] at h
  exact Awp.of (by kernel_rfl) h

theorem impl_yieldsOf_e (x8570 : List Int) {r : AV} {H' : Heap} (h : (Ans.mk _ (impl_yieldsOf x8570) (fun (t : (List Int)) => (.slc 0, [some (.seq (.int .u64) t)])) [] none).run = some (r, H')) : Awp impl_yieldsOf_ctx LL (bodyOf Tryd.f23) impl_yieldsOf_an ⟨mkE 13 0 [(0, dL x8570)], []⟩ (Ret (tlook tys) Tryd.f23.results.toList r H') :=
  ret_of' (impl_yieldsOf_n1_l x8570) (by unfold impl_yieldsOf; kernel_rfl) (by
  intro t
  exact ret_mk [.slc 0] (by kernel_rfl) (by kernel_rfl) (by kernel_rfl) (by kernel_rfl)) h

def F_impl_yieldsOf : Fun := fun avs H =>
  match avs, H with
  | [.dat (.list (.int .i64)) x8570], [] => ⟨_, impl_yieldsOf x8570, fun (t : (List Int)) => (.slc 0, [some (.seq (.int .u64) t)]), [], none⟩
  | _, _ => Ans.no

theorem impl_yieldsOf_sound : Sound Tryd.prog 23 F_impl_yieldsOf := by
  refine fn_sound' (C := impl_yieldsOf_ctx) (c := bodyOf Tryd.f23) (cok_of tys_ok (allc impl_RootOf_sound (allc impl_fillYields_sound alln)) (allc Tryd.call34 (allc Tryd.call33 alln)) (by kernel_rfl)) Tryd.func23 (by kernel_rfl) LL impl_yieldsOf_an ?_
  intro avs H r H' h
  unfold F_impl_yieldsOf at h
  split at h
  · refine Awp.cast ?_ ?_ ?_ (impl_yieldsOf_e _ h) <;> kernel_rfl
  · simp [Ans.no, Ans.run] at h


/-! (loop.example/headtrees/impl.wordSet).isRow -/

def impl_wordSet_isRow_an : Ann := (.seq (.leaf [0]) (.seq (.leaf [0, 3]) (.seq (.leaf [2]) (.leaf [2]))))

noncomputable def impl_wordSet_isRow_ctx : Ctx := ⟨tlook tys, olook [], ioF, 0, false, []⟩

theorem impl_wordSet_isRow_n1_l (x8854 : Int) : Link impl_wordSet_isRow_ctx LL (bodyOf Tryd.f24) impl_wordSet_isRow_an ⟨mkE 14 0 [(0, dW x8854)], []⟩ (impl_wordSet_isRow_n1 x8854) (fun (t : Bool) => (Exit.ret, ⟨mkE 14 0 [(2, dB t)], []⟩)) := by
  refine Link.of fun K h => ?_
  simp only [impl_wordSet_isRow_n1, wpO_bind, wpO_cond, wpO_map, wpO_some] at h
  exact Awp.of (by kernel_rfl) h

theorem impl_wordSet_isRow_e (x8854 : Int) {r : AV} {H' : Heap} (h : (Ans.mk _ (impl_wordSet_isRow x8854) (fun (t : Bool) => (dB t, [])) [] none).run = some (r, H')) : Awp impl_wordSet_isRow_ctx LL (bodyOf Tryd.f24) impl_wordSet_isRow_an ⟨mkE 14 0 [(0, dW x8854)], []⟩ (Ret (tlook tys) Tryd.f24.results.toList r H') :=
  ret_of' (impl_wordSet_isRow_n1_l x8854) (by unfold impl_wordSet_isRow; kernel_rfl) (by
  intro t
  exact ret_mk [dB t] (by kernel_rfl) (by kernel_rfl) (by kernel_rfl) (by kernel_rfl)) h

def F_impl_wordSet_isRow : Fun := fun avs H =>
  match avs, H with
  | [.dat (.int .u64) x8854], [] => ⟨_, impl_wordSet_isRow x8854, fun (t : Bool) => (dB t, []), [], none⟩
  | _, _ => Ans.no

theorem impl_wordSet_isRow_sound : Sound Tryd.prog 24 F_impl_wordSet_isRow := by
  refine fn_sound' (C := impl_wordSet_isRow_ctx) (c := bodyOf Tryd.f24) (cok_of tys_ok (alln) (alln) (by kernel_rfl)) Tryd.func24 (by kernel_rfl) LL impl_wordSet_isRow_an ?_
  intro avs H r H' h
  unfold F_impl_wordSet_isRow at h
  split at h
  · refine Awp.cast ?_ ?_ ?_ (impl_wordSet_isRow_e _ h) <;> kernel_rfl
  · simp [Ans.no, Ans.run] at h


/-! loop.example/headtrees/impl.FlatOk -/

def impl_FlatOk_an : Ann := (.seq (.leaf [0]) (.seq (.seq (.leaf [0, 7]) (.cond (.seq (.leaf [2]) (.leaf [2])) (.leaf [0]))) (.seq (.seq (.leaf [9, 10, 11]) (.block (.loop (.seq (.leaf [9, 10, 11, 12]) (.seq (.cond (.leaf [9, 10, 11]) (.leaf [])) (.seq (.block (.seq (.leaf [4, 9, 10, 11]) (.seq (.leaf [9, 10, 11, 17]) (.cond (.seq (.leaf [2]) (.leaf [2])) (.leaf [9, 10, 11]))))) (.leaf [9, 10, 11]))))))) (.seq (.leaf [2]) (.leaf [2])))))

noncomputable def impl_FlatOk_ctx : Ctx := ⟨tlook tys, olook [(18, F_impl_TreeOk), (23, F_impl_yieldsOf), (24, F_impl_wordSet_isRow)], ioF, 0, false, []⟩

theorem impl_FlatOk_n1_l (x8567 : List Int) : Link impl_FlatOk_ctx LL (Code.seq (cq [0] (bodyOf Tryd.f9)) (cq [0,1] (bodyOf Tryd.f9))) (Ann.seq (aq [0] impl_FlatOk_an) (aq [0,1] impl_FlatOk_an)) ⟨mkE 19 0 [(0, dL x8567)], []⟩ (impl_FlatOk_n1 x8567) (Sum.elim (fun (t : Unit) => (Exit.normal, ⟨mkE 19 0 [(0, dL x8567)], []⟩)) (fun (t : Bool) => (Exit.ret, ⟨mkE 19 0 [(2, dB t)], []⟩))) := by
  refine Link.of fun K h => ?_
  simp only [impl_FlatOk_n1, wpO_bind, wpO_cond, wpO_map, wpO_some] at h
  exact Awp.of (by kernel_rfl) h

theorem impl_FlatOk_n2_l (x8567 : List Int) : Link impl_FlatOk_ctx LL (cq [0,0,1,1] (bodyOf Tryd.f9)) (aq [0,0,1,1] impl_FlatOk_an) ⟨mkE 19 0 [(0, dL x8567)], []⟩ (impl_FlatOk_n2 x8567) (fun (t : Int × (List Int)) => (Exit.normal, ⟨mkE 19 0 [(9, .slc 0), (10, dI t.1), (11, dI 0)], [some (.seq (.int .u64) t.2)]⟩)) := by
  refine Link.of fun K h => ?_
  simp only [impl_FlatOk_n2, wpO_bind, wpO_cond, wpO_map, wpO_some] at h
  exact Awp.of (by kernel_rfl) h

theorem impl_FlatOk_n3_l (x8848 : Int) (x8875 : Int) (x8847 : List Int) : Link impl_FlatOk_ctx LL (cq [0,0,1,0,1,1] (bodyOf Tryd.f9)) (aq [0,0,1,0,1,1] impl_FlatOk_an) ⟨mkE 19 0 [(9, .slc 0), (10, dI x8848), (11, dI x8875)], [some (.seq (.int .u64) x8847)]⟩ (impl_FlatOk_n3 x8848 x8875 x8847) (Sum.elim (fun (t : Int) => (Exit.normal, ⟨mkE 19 0 [(9, .slc 0), (10, dI x8848), (11, dI t)], [some (.seq (.int .u64) x8847)]⟩)) (Sum.elim (fun (t : Bool) => (Exit.ret, ⟨mkE 19 0 [(2, dB t)], []⟩)) (fun (t : Unit) => ((Exit.exit 0), ⟨mkE 19 0 [], []⟩)))) := by
  refine Link.of fun K h => ?_
  simp only [impl_FlatOk_n3, wpO_bind, wpO_cond, wpO_map, wpO_some] at h
  exact Awp.of (by kernel_rfl) h

def impl_FlatOk_n4_l (x8848 : Int) (x8847 : List Int) := (link_loop (mk := fun (s : Int) => ⟨mkE 19 0 [(9, .slc 0), (10, dI x8848), (11, dI s)], [some (.seq (.int .u64) x8847)]⟩) (fin := (Sum.elim (fun (t : Bool) => (Exit.ret, ⟨mkE 19 0 [(2, dB t)], []⟩)) (fun (t : Unit) => ((Exit.exit 0), ⟨mkE 19 0 [], []⟩)))) (by
  rintro (t | t) f K h
  · exact h
  · exact h) (fun s => link_map (impl_FlatOk_n3_l x8848 s x8847) (Sum.elim (fun (t : Int) => Sum.inl t) (Sum.elim (fun (t : Bool) => Sum.inr (Sum.inl t)) (fun (t : Unit) => Sum.inr (Sum.inr t)))) (by
  rintro (t | t | t)
  · kernel_rfl
  · kernel_rfl
  · kernel_rfl)) 0)

def impl_FlatOk_n5_l (x8848 : Int) (x8847 : List Int) := (link_block (fin2 := (Sum.elim (fun (t : Unit) => (Exit.normal, ⟨mkE 19 0 [], []⟩)) (fun (t : Bool) => (Exit.ret, ⟨mkE 19 0 [(2, dB t)], []⟩)))) (id := 0) (impl_FlatOk_n4_l x8848 x8847) (Sum.elim (fun (t : Bool) => (Sum.inr t)) (fun (t : Unit) => (Sum.inl ()))) (by
  rintro (t | t) K h
  · exact Eq.mp (by kernel_rfl) h
  · exact Eq.mp (by kernel_rfl) h))

def impl_FlatOk_n6_l (x8567 : List Int) := (link_seq (impl_FlatOk_n2_l x8567) (fun (t : Int × (List Int)) => (impl_FlatOk_n5_l t.1 t.2)))

theorem impl_FlatOk_n7_l : Link impl_FlatOk_ctx LL (cq [1,1,1] (bodyOf Tryd.f9)) (aq [1,1,1] impl_FlatOk_an) ⟨mkE 19 0 [], []⟩ (impl_FlatOk_n7) (fun (t : Bool) => (Exit.ret, ⟨mkE 19 0 [(2, dB t)], []⟩)) := by
  refine Link.of fun K h => ?_
  simp only [impl_FlatOk_n7, wpO_bind, wpO_cond, wpO_map, wpO_some] at h
  exact Awp.of (by kernel_rfl) h

def impl_FlatOk_n8_l (x8567 : List Int) := (link_seq2 (impl_FlatOk_n6_l x8567) (fun (t : Unit) => (impl_FlatOk_n7_l)) (fun (t : Bool) => t) (by
  rintro t
  · kernel_rfl) (by
  rintro t f K h
  · exact h))

def impl_FlatOk_n9_l (x8567 : List Int) := (link_group (c := (cq [0,1] (bodyOf Tryd.f9))) (a := (aq [0,1] impl_FlatOk_an)) [(cq [0] (bodyOf Tryd.f9))] [(aq [0] impl_FlatOk_an)] rfl (link_seq2 (impl_FlatOk_n1_l x8567) (fun (t : Unit) => (impl_FlatOk_n8_l x8567)) (fun (t : Bool) => t) (by
  rintro t
  · kernel_rfl) (by
  rintro t f K h
  · exact h)))

theorem impl_FlatOk_e (x8567 : List Int) {r : AV} {H' : Heap} (h : (Ans.mk _ (impl_FlatOk x8567) (fun (t : Bool) => (dB t, [])) [] none).run = some (r, H')) : Awp impl_FlatOk_ctx LL (bodyOf Tryd.f9) impl_FlatOk_an ⟨mkE 19 0 [(0, dL x8567)], []⟩ (Ret (tlook tys) Tryd.f9.results.toList r H') :=
  ret_of' (Link.cast (by kernel_rfl) (by kernel_rfl) (impl_FlatOk_n9_l x8567)) (by unfold impl_FlatOk; kernel_rfl) (by
  intro t
  exact ret_mk [dB t] (by kernel_rfl) (by kernel_rfl) (by kernel_rfl) (by kernel_rfl)) h

def F_impl_FlatOk : Fun := fun avs H =>
  match avs, H with
  | [.dat (.list (.int .i64)) x8567], [] => ⟨_, impl_FlatOk x8567, fun (t : Bool) => (dB t, []), [], none⟩
  | _, _ => Ans.no

theorem impl_FlatOk_sound : Sound Tryd.prog 9 F_impl_FlatOk := by
  refine fn_sound' (C := impl_FlatOk_ctx) (c := bodyOf Tryd.f9) (cok_of tys_ok (allc impl_TreeOk_sound (allc impl_yieldsOf_sound (allc impl_wordSet_isRow_sound alln))) (allc Tryd.call18 (allc Tryd.call23 (allc Tryd.call24 alln))) (by kernel_rfl)) Tryd.func9 (by kernel_rfl) LL impl_FlatOk_an ?_
  intro avs H r H' h
  unfold F_impl_FlatOk at h
  split at h
  · refine Awp.cast ?_ ?_ ?_ (impl_FlatOk_e _ h) <;> kernel_rfl
  · simp [Ans.no, Ans.run] at h


/-! (*loop.example/headtrees/impl.partTable).between$1 -/

def impl_partTable_between_1_an : Ann := (.seq (.leaf [0, 1, 2, 3]) (.seq (.draw [] [0, 1, 2, 3, 4, 5, 6, 7, 8, 9, 10, 11, 12, 13, 14, 15, 16, 17, 18] [] [5]) (.leaf [5])))

noncomputable def impl_partTable_between_1_ctx : Ctx := ⟨tlook tys, olook [], ioF, 0, false, []⟩

theorem impl_partTable_between_1_n1_l (x8952 : Int) (x8953 : List (Int × Int × Unit)) (x8954 : Int) (x8955 : Int) : Link impl_partTable_between_1_ctx LL (bodyOf Tryd.f47) impl_partTable_between_1_an ⟨mkE 24 0 [(0, dI x8952), (1, .pcell (.tab (.pair (.int .i64) (.pair (.int .i64) .unit)) x8953)), (2, .pcell (dI x8954)), (3, .pcell (dI x8955))], []⟩ (impl_partTable_between_1_n1 x8952 x8953 x8954 x8955) (fun (t : Int) => (Exit.ret, ⟨mkE 24 0 [(5, dI t)], []⟩)) := by
  refine Link.of fun K h => ?_
  simp only [impl_partTable_between_1_n1, wpO_bind, wpO_cond, wpO_map, wpO_some] at h
  exact Awp.of (by kernel_rfl) h

theorem impl_partTable_between_1_e (x8952 : Int) (x8953 : List (Int × Int × Unit)) (x8954 : Int) (x8955 : Int) {r : AV} {H' : Heap} (h : (Ans.mk _ (impl_partTable_between_1 x8952 x8953 x8954 x8955) (fun (t : Int) => (dI t, [])) [] none).run = some (r, H')) : Awp impl_partTable_between_1_ctx LL (bodyOf Tryd.f47) impl_partTable_between_1_an ⟨mkE 24 0 [(0, dI x8952), (1, .pcell (.tab (.pair (.int .i64) (.pair (.int .i64) .unit)) x8953)), (2, .pcell (dI x8954)), (3, .pcell (dI x8955))], []⟩ (Ret (tlook tys) Tryd.f47.results.toList r H') :=
  ret_of' (impl_partTable_between_1_n1_l x8952 x8953 x8954 x8955) (by unfold impl_partTable_between_1; kernel_rfl) (by
  intro t
  exact ret_mk [dI t] (by kernel_rfl) (by kernel_rfl) (by kernel_rfl) (by kernel_rfl)) h

def F_impl_partTable_between_1 : Fun := fun avs H =>
  match avs, H with
  | [.dat (.int .i64) x8952, .pcell (.tab (.pair (.int .i64) (.pair (.int .i64) .unit)) x8953), .pcell (.dat (.int .i64) x8954), .pcell (.dat (.int .i64) x8955)], [] => ⟨_, impl_partTable_between_1 x8952 x8953 x8954 x8955, fun (t : Int) => (dI t, []), [], none⟩
  | _, _ => Ans.no

theorem impl_partTable_between_1_sound : Sound Tryd.prog 47 F_impl_partTable_between_1 := by
  refine fn_sound' (C := impl_partTable_between_1_ctx) (c := bodyOf Tryd.f47) (cok_of tys_ok (alln) (alln) (by kernel_rfl)) Tryd.func47 (by kernel_rfl) LL impl_partTable_between_1_an ?_
  intro avs H r H' h
  unfold F_impl_partTable_between_1 at h
  split at h
  · refine Awp.cast ?_ ?_ ?_ (impl_partTable_between_1_e _ _ _ _ h) <;> kernel_rfl
  · simp [Ans.no, Ans.run] at h


/-! loop.example/headtrees/impl.greatest (impl_greatest_v2) -/

def impl_greatest_v2_an : Ann := (.seq (.leaf [0, 1, 2]) (.seq (.leaf [0, 1, 2, 7]) (.seq (.seq (.leaf [1, 2, 7, 8]) (.block (.loop (.seq (.seq (.leaf [1, 2, 7, 8, 12]) (.cond (.leaf [1, 2, 7, 8]) (.leaf [7]))) (.seq (.block (.leaf [1, 2, 7, 8])) (.leaf [1, 2, 7, 8])))))) (.seq (.leaf [6]) (.leaf [6])))))

noncomputable def impl_greatest_v2_ctx : Ctx := ⟨tlook tys, olook [(47, F_impl_partTable_between_1)], ioF, 0, false, []⟩

theorem impl_greatest_v2_n1_l (x8945 : Int) (x8946 : Int) (x8947 : List (Int × Int × Unit)) (x8948 : Int) (x8949 : Int) : Link impl_greatest_v2_ctx LL (Code.seq (cq [0] (bodyOf Tryd.f26)) (cq [0,1] (bodyOf Tryd.f26))) (Ann.seq (aq [0] impl_greatest_v2_an) (aq [0,1] impl_greatest_v2_an)) ⟨mkE 21 0 [(0, dI x8945), (1, dI x8946), (2, .fn 47 [] [.pcell (.tab (.pair (.int .i64) (.pair (.int .i64) .unit)) x8947), .pcell (dI x8948), .pcell (dI x8949)])], []⟩ (impl_greatest_v2_n1) (fun (t : Unit) => (Exit.normal, ⟨mkE 21 0 [(0, dI x8945), (1, dI x8946), (2, .fn 47 [] [.pcell (.tab (.pair (.int .i64) (.pair (.int .i64) .unit)) x8947), .pcell (dI x8948), .pcell (dI x8949)]), (7, dI 0)], []⟩)) := by
  refine Link.of fun K h => ?_
  simp only [impl_greatest_v2_n1, wpO_bind, wpO_cond, wpO_map, wpO_some] at h
  exact Awp.of (by kernel_rfl) h

theorem impl_greatest_v2_n2_l (x8945 : Int) (x8946 : Int) (x8947 : List (Int × Int × Unit)) (x8948 : Int) (x8949 : Int) : Link impl_greatest_v2_ctx LL (cq [0,0,1,1] (bodyOf Tryd.f26)) (aq [0,0,1,1] impl_greatest_v2_an) ⟨mkE 21 0 [(0, dI x8945), (1, dI x8946), (2, .fn 47 [] [.pcell (.tab (.pair (.int .i64) (.pair (.int .i64) .unit)) x8947), .pcell (dI x8948), .pcell (dI x8949)]), (7, dI 0)], []⟩ (impl_greatest_v2_n2) (fun (t : Unit) => (Exit.normal, ⟨mkE 21 0 [(1, dI x8946), (2, .fn 47 [] [.pcell (.tab (.pair (.int .i64) (.pair (.int .i64) .unit)) x8947), .pcell (dI x8948), .pcell (dI x8949)]), (7, dI 0), (8, dI x8945)], []⟩)) := by
  refine Link.of fun K h => ?_
  simp only [impl_greatest_v2_n2, wpO_bind, wpO_cond, wpO_map, wpO_some] at h
  exact Awp.of (by kernel_rfl) h

theorem impl_greatest_v2_n3_l (x8946 : Int) (x8947 : List (Int × Int × Unit)) (x8948 : Int) (x8949 : Int) (x9002 : Int) (x9003 : Int) : Link impl_greatest_v2_ctx LL (cq [0,0,1,0,1,1] (bodyOf Tryd.f26)) (aq [0,0,1,0,1,1] impl_greatest_v2_an) ⟨mkE 21 0 [(1, dI x8946), (2, .fn 47 [] [.pcell (.tab (.pair (.int .i64) (.pair (.int .i64) .unit)) x8947), .pcell (dI x8948), .pcell (dI x8949)]), (7, dI x9002), (8, dI x9003)], []⟩ (impl_greatest_v2_n3 x8946 x8947 x8948 x8949 x9002 x9003) (Sum.elim (fun (t : Int × Int) => (Exit.normal, ⟨mkE 21 0 [(1, dI x8946), (2, .fn 47 [] [.pcell (.tab (.pair (.int .i64) (.pair (.int .i64) .unit)) x8947), .pcell (dI x8948), .pcell (dI x8949)]), (7, dI t.1), (8, dI t.2)], []⟩)) (fun (t : Int) => ((Exit.exit 0), ⟨mkE 21 0 [(7, dI t)], []⟩))) := by
  refine Link.of fun K h => ?_
  simp only [impl_greatest_v2_n3, wpO_bind, wpO_cond, wpO_map, wpO_some] at h
  exact Awp.of (by kernel_rfl) h

def impl_greatest_v2_n4_l (x8946 : Int) (x8947 : List (Int × Int × Unit)) (x8948 : Int) (x8949 : Int) (x8945 : Int) := (link_loop (mk := fun (s : Int × Int) => ⟨mkE 21 0 [(1, dI x8946), (2, .fn 47 [] [.pcell (.tab (.pair (.int .i64) (.pair (.int .i64) .unit)) x8947), .pcell (dI x8948), .pcell (dI x8949)]), (7, dI s.1), (8, dI s.2)], []⟩) (fin := (fun (t : Int) => ((Exit.exit 0), ⟨mkE 21 0 [(7, dI t)], []⟩))) (by
  rintro t f K h
  · exact h) (fun s => link_map (impl_greatest_v2_n3_l x8946 x8947 x8948 x8949 s.1 s.2) (Sum.elim (fun (t : Int × Int) => Sum.inl (t.1, t.2)) (fun (t : Int) => Sum.inr t)) (by
  rintro (t | t)
  · kernel_rfl
  · kernel_rfl)) (0, x8945))

def impl_greatest_v2_n5_l (x8946 : Int) (x8947 : List (Int × Int × Unit)) (x8948 : Int) (x8949 : Int) (x8945 : Int) := (link_block (fin2 := (fun (t : Int) => (Exit.normal, ⟨mkE 21 0 [(7, dI t)], []⟩))) (id := 0) (impl_greatest_v2_n4_l x8946 x8947 x8948 x8949 x8945) (fun (t : Int) => t) (by
  rintro t K h
  · exact Eq.mp (by kernel_rfl) h))

def impl_greatest_v2_n6_l (x8945 : Int) (x8946 : Int) (x8947 : List (Int × Int × Unit)) (x8948 : Int) (x8949 : Int) := (link_seq (impl_greatest_v2_n2_l x8945 x8946 x8947 x8948 x8949) (fun (t : Unit) => (impl_greatest_v2_n5_l x8946 x8947 x8948 x8949 x8945)))

theorem impl_greatest_v2_n7_l (x9002 : Int) : Link impl_greatest_v2_ctx LL (cq [1,1,1] (bodyOf Tryd.f26)) (aq [1,1,1] impl_greatest_v2_an) ⟨mkE 21 0 [(7, dI x9002)], []⟩ (impl_greatest_v2_n7 x9002) (fun (t : Int) => (Exit.ret, ⟨mkE 21 0 [(6, dI t)], []⟩)) := by
  refine Link.of fun K h => ?_
  simp only [impl_greatest_v2_n7, wpO_bind, wpO_cond, wpO_map, wpO_some] at h
  exact Awp.of (by kernel_rfl) h

def impl_greatest_v2_n8_l (x8945 : Int) (x8946 : Int) (x8947 : List (Int × Int × Unit)) (x8948 : Int) (x8949 : Int) := (link_seq (impl_greatest_v2_n6_l x8945 x8946 x8947 x8948 x8949) (fun (t : Int) => (impl_greatest_v2_n7_l t)))

def impl_greatest_v2_n9_l (x8945 : Int) (x8946 : Int) (x8947 : List (Int × Int × Unit)) (x8948 : Int) (x8949 : Int) := (link_group (c := (cq [0,1] (bodyOf Tryd.f26))) (a := (aq [0,1] impl_greatest_v2_an)) [(cq [0] (bodyOf Tryd.f26))] [(aq [0] impl_greatest_v2_an)] rfl (link_seq (impl_greatest_v2_n1_l x8945 x8946 x8947 x8948 x8949) (fun (t : Unit) => (impl_greatest_v2_n8_l x8945 x8946 x8947 x8948 x8949))))

theorem impl_greatest_v2_e (x8945 : Int) (x8946 : Int) (x8947 : List (Int × Int × Unit)) (x8948 : Int) (x8949 : Int) {r : AV} {H' : Heap} (h : (Ans.mk _ (impl_greatest_v2 x8945 x8946 x8947 x8948 x8949) (fun (t : Int) => (dI t, [])) [] none).run = some (r, H')) : Awp impl_greatest_v2_ctx LL (bodyOf Tryd.f26) impl_greatest_v2_an ⟨mkE 21 0 [(0, dI x8945), (1, dI x8946), (2, .fn 47 [] [.pcell (.tab (.pair (.int .i64) (.pair (.int .i64) .unit)) x8947), .pcell (dI x8948), .pcell (dI x8949)])], []⟩ (Ret (tlook tys) Tryd.f26.results.toList r H') :=
  ret_of' (Link.cast (by kernel_rfl) (by kernel_rfl) (impl_greatest_v2_n9_l x8945 x8946 x8947 x8948 x8949)) (by unfold impl_greatest_v2; kernel_rfl) (by
  intro t
  exact ret_mk [dI t] (by kernel_rfl) (by kernel_rfl) (by kernel_rfl) (by kernel_rfl)) h

def F_impl_greatest_v2 : Fun := fun avs H =>
  match avs, H with
  | [.dat (.int .i64) x8945, .dat (.int .i64) x8946, .fn 47 [] [.pcell (.tab (.pair (.int .i64) (.pair (.int .i64) .unit)) x8947), .pcell (.dat (.int .i64) x8948), .pcell (.dat (.int .i64) x8949)]], [] => ⟨_, impl_greatest_v2 x8945 x8946 x8947 x8948 x8949, fun (t : Int) => (dI t, []), [], none⟩
  | _, _ => Ans.no

theorem impl_greatest_v2_sound : Sound Tryd.prog 26 F_impl_greatest_v2 := by
  refine fn_sound' (C := impl_greatest_v2_ctx) (c := bodyOf Tryd.f26) (cok_of tys_ok (allc impl_partTable_between_1_sound alln) (allc Tryd.call47 alln) (by kernel_rfl)) Tryd.func26 (by kernel_rfl) LL impl_greatest_v2_an ?_
  intro avs H r H' h
  unfold F_impl_greatest_v2 at h
  split at h
  · refine Awp.cast ?_ ?_ ?_ (impl_greatest_v2_e _ _ _ _ _ h) <;> kernel_rfl
  · simp [Ans.no, Ans.run] at h


/-! (*loop.example/headtrees/impl.partTable).between -/

def impl_partTable_between_an : Ann := (.seq (.leaf [3, 4, 5]) (.seq (.leaf [6]) (.leaf [6])))

noncomputable def impl_partTable_between_ctx : Ctx := ⟨tlook tys, olook [(26, F_impl_greatest_v2)], ioF, 0, false, []⟩

theorem impl_partTable_between_n1_l (x8941 : List (Int × Int × Unit)) (x8942 : Int) (x8943 : Int) : Link impl_partTable_between_ctx LL (bodyOf Tryd.f43) impl_partTable_between_an ⟨mkE 12 0 [(0, .tab (.pair (.int .i64) (.pair (.int .i64) .unit)) x8941), (1, dI x8942), (2, dI x8943)], []⟩ (impl_partTable_between_n1 x8941 x8942 x8943) (fun (t : Int) => (Exit.ret, ⟨mkE 12 0 [(6, dI t)], []⟩)) := by
  refine Link.of fun K h => ?_
  simp only [impl_partTable_between_n1, wpO_bind, wpO_cond, wpO_map, wpO_some] at h
  exact Awp.of (by kernel_rfl) h

theorem impl_partTable_between_e (x8941 : List (Int × Int × Unit)) (x8942 : Int) (x8943 : Int) {r : AV} {H' : Heap} (h : (Ans.mk _ (impl_partTable_between x8941 x8942 x8943) (fun (t : Int) => (dI t, [])) [] none).run = some (r, H')) : Awp impl_partTable_between_ctx LL (bodyOf Tryd.f43) impl_partTable_between_an ⟨mkE 12 0 [(0, .tab (.pair (.int .i64) (.pair (.int .i64) .unit)) x8941), (1, dI x8942), (2, dI x8943)], []⟩ (Ret (tlook tys) Tryd.f43.results.toList r H') :=
  ret_of' (impl_partTable_between_n1_l x8941 x8942 x8943) (by unfold impl_partTable_between; kernel_rfl) (by
  intro t
  exact ret_mk [dI t] (by kernel_rfl) (by kernel_rfl) (by kernel_rfl) (by kernel_rfl)) h

def F_impl_partTable_between : Fun := fun avs H =>
  match avs, H with
  | [.tab (.pair (.int .i64) (.pair (.int .i64) .unit)) x8941, .dat (.int .i64) x8942, .dat (.int .i64) x8943], [] => ⟨_, impl_partTable_between x8941 x8942 x8943, fun (t : Int) => (dI t, []), [], none⟩
  | _, _ => Ans.no

theorem impl_partTable_between_sound : Sound Tryd.prog 43 F_impl_partTable_between := by
  refine fn_sound' (C := impl_partTable_between_ctx) (c := bodyOf Tryd.f43) (cok_of tys_ok (allc impl_greatest_v2_sound alln) (allc Tryd.call26 alln) (by kernel_rfl)) Tryd.func43 (by kernel_rfl) LL impl_partTable_between_an ?_
  intro avs H r H' h
  unfold F_impl_partTable_between at h
  split at h
  · refine Awp.cast ?_ ?_ ?_ (impl_partTable_between_e _ _ _ h) <;> kernel_rfl
  · simp [Ans.no, Ans.run] at h


/-! (*loop.example/headtrees/impl.partTable).joined$1 -/

def impl_partTable_joined_1_an : Ann := (.seq (.leaf [0, 1, 2, 3, 4]) (.seq (.draw [3] [0, 1, 2, 4, 5, 6, 7, 8, 9, 10, 11, 13, 14, 15, 16, 17, 18, 19, 20, 3, 12, 21, 22] [] [6]) (.leaf [6])))

noncomputable def impl_partTable_joined_1_ctx : Ctx := ⟨tlook tys, olook [(43, F_impl_partTable_between)], ioF, 0, false, []⟩

theorem impl_partTable_joined_1_n1_l (x8924 : Int) (x8925 : List (Int × Int × Unit)) (x8926 : Int) (x8927 : List (List Int)) (x8928 : Int) : Link impl_partTable_joined_1_ctx LL (bodyOf Tryd.f42) impl_partTable_joined_1_an ⟨mkE 29 0 [(0, dI x8924), (1, .pcell (.tab (.pair (.int .i64) (.pair (.int .i64) .unit)) x8925)), (2, .pcell (dI x8926)), (3, .pcell (.dat (.list (.list (.int .i64))) x8927)), (4, .pcell (dI x8928))], []⟩ (impl_partTable_joined_1_n1 x8924 x8925 x8926 x8927 x8928) (fun (t : Int) => (Exit.ret, ⟨mkE 29 0 [(6, dI t)], []⟩)) := by
  refine Link.of fun K h => ?_
  simp only [impl_partTable_joined_1_n1, wpO_bind, wpO_cond, wpO_map, wpO_some] at h
  exact Awp.of (by kernel_rfl) h

theorem impl_partTable_joined_1_e (x8924 : Int) (x8925 : List (Int × Int × Unit)) (x8926 : Int) (x8927 : List (List Int)) (x8928 : Int) {r : AV} {H' : Heap} (h : (Ans.mk _ (impl_partTable_joined_1 x8924 x8925 x8926 x8927 x8928) (fun (t : Int) => (dI t, [])) [] none).run = some (r, H')) : Awp impl_partTable_joined_1_ctx LL (bodyOf Tryd.f42) impl_partTable_joined_1_an ⟨mkE 29 0 [(0, dI x8924), (1, .pcell (.tab (.pair (.int .i64) (.pair (.int .i64) .unit)) x8925)), (2, .pcell (dI x8926)), (3, .pcell (.dat (.list (.list (.int .i64))) x8927)), (4, .pcell (dI x8928))], []⟩ (Ret (tlook tys) Tryd.f42.results.toList r H') :=
  ret_of' (impl_partTable_joined_1_n1_l x8924 x8925 x8926 x8927 x8928) (by unfold impl_partTable_joined_1; kernel_rfl) (by
  intro t
  exact ret_mk [dI t] (by kernel_rfl) (by kernel_rfl) (by kernel_rfl) (by kernel_rfl)) h

def F_impl_partTable_joined_1 : Fun := fun avs H =>
  match avs, H with
  | [.dat (.int .i64) x8924, .pcell (.tab (.pair (.int .i64) (.pair (.int .i64) .unit)) x8925), .pcell (.dat (.int .i64) x8926), .pcell (.dat (.list (.list (.int .i64))) x8927), .pcell (.dat (.int .i64) x8928)], [] => ⟨_, impl_partTable_joined_1 x8924 x8925 x8926 x8927 x8928, fun (t : Int) => (dI t, []), [], none⟩
  | _, _ => Ans.no

theorem impl_partTable_joined_1_sound : Sound Tryd.prog 42 F_impl_partTable_joined_1 := by
  refine fn_sound' (C := impl_partTable_joined_1_ctx) (c := bodyOf Tryd.f42) (cok_of tys_ok (allc impl_partTable_between_sound alln) (allc Tryd.call43 alln) (by kernel_rfl)) Tryd.func42 (by kernel_rfl) LL impl_partTable_joined_1_an ?_
  intro avs H r H' h
  unfold F_impl_partTable_joined_1 at h
  split at h
  · refine Awp.cast ?_ ?_ ?_ (impl_partTable_joined_1_e _ _ _ _ _ h) <;> kernel_rfl
  · simp [Ans.no, Ans.run] at h


/-! loop.example/headtrees/impl.greatest -/

def impl_greatest_an : Ann := (.seq (.leaf [0, 1, 2]) (.seq (.leaf [0, 1, 2, 7]) (.seq (.seq (.leaf [1, 2, 7, 8]) (.block (.loop (.seq (.seq (.leaf [1, 2, 7, 8, 12]) (.cond (.leaf [1, 2, 7, 8]) (.leaf [7]))) (.seq (.block (.leaf [1, 2, 7, 8])) (.leaf [1, 2, 7, 8])))))) (.seq (.leaf [6]) (.leaf [6])))))

noncomputable def impl_greatest_ctx : Ctx := ⟨tlook tys, olook [(42, F_impl_partTable_joined_1)], ioF, 0, false, []⟩

theorem impl_greatest_n1_l (x8916 : Int) (x8917 : Int) (x8918 : List (Int × Int × Unit)) (x8919 : Int) (x8920 : List (List Int)) (x8921 : Int) : Link impl_greatest_ctx LL (Code.seq (cq [0] (bodyOf Tryd.f26)) (cq [0,1] (bodyOf Tryd.f26))) (Ann.seq (aq [0] impl_greatest_an) (aq [0,1] impl_greatest_an)) ⟨mkE 21 0 [(0, dI x8916), (1, dI x8917), (2, .fn 42 [] [.pcell (.tab (.pair (.int .i64) (.pair (.int .i64) .unit)) x8918), .pcell (dI x8919), .pcell (.dat (.list (.list (.int .i64))) x8920), .pcell (dI x8921)])], []⟩ (impl_greatest_n1) (fun (t : Unit) => (Exit.normal, ⟨mkE 21 0 [(0, dI x8916), (1, dI x8917), (2, .fn 42 [] [.pcell (.tab (.pair (.int .i64) (.pair (.int .i64) .unit)) x8918), .pcell (dI x8919), .pcell (.dat (.list (.list (.int .i64))) x8920), .pcell (dI x8921)]), (7, dI 0)], []⟩)) := by
  refine Link.of fun K h => ?_
  simp only [impl_greatest_n1, wpO_bind, wpO_cond, wpO_map, wpO_some] at h
  exact Awp.of (by kernel_rfl) h

theorem impl_greatest_n2_l (x8916 : Int) (x8917 : Int) (x8918 : List (Int × Int × Unit)) (x8919 : Int) (x8920 : List (List Int)) (x8921 : Int) : Link impl_greatest_ctx LL (cq [0,0,1,1] (bodyOf Tryd.f26)) (aq [0,0,1,1] impl_greatest_an) ⟨mkE 21 0 [(0, dI x8916), (1, dI x8917), (2, .fn 42 [] [.pcell (.tab (.pair (.int .i64) (.pair (.int .i64) .unit)) x8918), .pcell (dI x8919), .pcell (.dat (.list (.list (.int .i64))) x8920), .pcell (dI x8921)]), (7, dI 0)], []⟩ (impl_greatest_n2) (fun (t : Unit) => (Exit.normal, ⟨mkE 21 0 [(1, dI x8917), (2, .fn 42 [] [.pcell (.tab (.pair (.int .i64) (.pair (.int .i64) .unit)) x8918), .pcell (dI x8919), .pcell (.dat (.list (.list (.int .i64))) x8920), .pcell (dI x8921)]), (7, dI 0), (8, dI x8916)], []⟩)) := by
  refine Link.of fun K h => ?_
  simp only [impl_greatest_n2, wpO_bind, wpO_cond, wpO_map, wpO_some] at h
  exact Awp.of (by kernel_rfl) h

theorem impl_greatest_n3_l (x8917 : Int) (x8918 : List (Int × Int × Unit)) (x8919 : Int) (x8920 : List (List Int)) (x8921 : Int) (x9039 : Int) (x9040 : Int) : Link impl_greatest_ctx LL (cq [0,0,1,0,1,1] (bodyOf Tryd.f26)) (aq [0,0,1,0,1,1] impl_greatest_an) ⟨mkE 21 0 [(1, dI x8917), (2, .fn 42 [] [.pcell (.tab (.pair (.int .i64) (.pair (.int .i64) .unit)) x8918), .pcell (dI x8919), .pcell (.dat (.list (.list (.int .i64))) x8920), .pcell (dI x8921)]), (7, dI x9039), (8, dI x9040)], []⟩ (impl_greatest_n3 x8917 x8918 x8919 x8920 x8921 x9039 x9040) (Sum.elim (fun (t : Int × Int) => (Exit.normal, ⟨mkE 21 0 [(1, dI x8917), (2, .fn 42 [] [.pcell (.tab (.pair (.int .i64) (.pair (.int .i64) .unit)) x8918), .pcell (dI x8919), .pcell (.dat (.list (.list (.int .i64))) x8920), .pcell (dI x8921)]), (7, dI t.1), (8, dI t.2)], []⟩)) (fun (t : Int) => ((Exit.exit 0), ⟨mkE 21 0 [(7, dI t)], []⟩))) := by
  refine Link.of fun K h => ?_
  simp only [impl_greatest_n3, wpO_bind, wpO_cond, wpO_map, wpO_some] at h
  exact Awp.of (by kernel_rfl) h

def impl_greatest_n4_l (x8917 : Int) (x8918 : List (Int × Int × Unit)) (x8919 : Int) (x8920 : List (List Int)) (x8921 : Int) (x8916 : Int) := (link_loop (mk := fun (s : Int × Int) => ⟨mkE 21 0 [(1, dI x8917), (2, .fn 42 [] [.pcell (.tab (.pair (.int .i64) (.pair (.int .i64) .unit)) x8918), .pcell (dI x8919), .pcell (.dat (.list (.list (.int .i64))) x8920), .pcell (dI x8921)]), (7, dI s.1), (8, dI s.2)], []⟩) (fin := (fun (t : Int) => ((Exit.exit 0), ⟨mkE 21 0 [(7, dI t)], []⟩))) (by
  rintro t f K h
  · exact h) (fun s => link_map (impl_greatest_n3_l x8917 x8918 x8919 x8920 x8921 s.1 s.2) (Sum.elim (fun (t : Int × Int) => Sum.inl (t.1, t.2)) (fun (t : Int) => Sum.inr t)) (by
  rintro (t | t)
  · kernel_rfl
  · kernel_rfl)) (0, x8916))

def impl_greatest_n5_l (x8917 : Int) (x8918 : List (Int × Int × Unit)) (x8919 : Int) (x8920 : List (List Int)) (x8921 : Int) (x8916 : Int) := (link_block (fin2 := (fun (t : Int) => (Exit.normal, ⟨mkE 21 0 [(7, dI t)], []⟩))) (id := 0) (impl_greatest_n4_l x8917 x8918 x8919 x8920 x8921 x8916) (fun (t : Int) => t) (by
  rintro t K h
  · exact Eq.mp (by kernel_rfl) h))

def impl_greatest_n6_l (x8916 : Int) (x8917 : Int) (x8918 : List (Int × Int × Unit)) (x8919 : Int) (x8920 : List (List Int)) (x8921 : Int) := (link_seq (impl_greatest_n2_l x8916 x8917 x8918 x8919 x8920 x8921) (fun (t : Unit) => (impl_greatest_n5_l x8917 x8918 x8919 x8920 x8921 x8916)))

theorem impl_greatest_n7_l (x9039 : Int) : Link impl_greatest_ctx LL (cq [1,1,1] (bodyOf Tryd.f26)) (aq [1,1,1] impl_greatest_an) ⟨mkE 21 0 [(7, dI x9039)], []⟩ (impl_greatest_n7 x9039) (fun (t : Int) => (Exit.ret, ⟨mkE 21 0 [(6, dI t)], []⟩)) := by
  refine Link.of fun K h => ?_
  simp only [impl_greatest_n7, wpO_bind, wpO_cond, wpO_map, wpO_some] at h
  exact Awp.of (by kernel_rfl) h

def impl_greatest_n8_l (x8916 : Int) (x8917 : Int) (x8918 : List (Int × Int × Unit)) (x8919 : Int) (x8920 : List (List Int)) (x8921 : Int) := (link_seq (impl_greatest_n6_l x8916 x8917 x8918 x8919 x8920 x8921) (fun (t : Int) => (impl_greatest_n7_l t)))

def impl_greatest_n9_l (x8916 : Int) (x8917 : Int) (x8918 : List (Int × Int × Unit)) (x8919 : Int) (x8920 : List (List Int)) (x8921 : Int) := (link_group (c := (cq [0,1] (bodyOf Tryd.f26))) (a := (aq [0,1] impl_greatest_an)) [(cq [0] (bodyOf Tryd.f26))] [(aq [0] impl_greatest_an)] rfl (link_seq (impl_greatest_n1_l x8916 x8917 x8918 x8919 x8920 x8921) (fun (t : Unit) => (impl_greatest_n8_l x8916 x8917 x8918 x8919 x8920 x8921))))

theorem impl_greatest_e (x8916 : Int) (x8917 : Int) (x8918 : List (Int × Int × Unit)) (x8919 : Int) (x8920 : List (List Int)) (x8921 : Int) {r : AV} {H' : Heap} (h : (Ans.mk _ (impl_greatest x8916 x8917 x8918 x8919 x8920 x8921) (fun (t : Int) => (dI t, [])) [] none).run = some (r, H')) : Awp impl_greatest_ctx LL (bodyOf Tryd.f26) impl_greatest_an ⟨mkE 21 0 [(0, dI x8916), (1, dI x8917), (2, .fn 42 [] [.pcell (.tab (.pair (.int .i64) (.pair (.int .i64) .unit)) x8918), .pcell (dI x8919), .pcell (.dat (.list (.list (.int .i64))) x8920), .pcell (dI x8921)])], []⟩ (Ret (tlook tys) Tryd.f26.results.toList r H') :=
  ret_of' (Link.cast (by kernel_rfl) (by kernel_rfl) (impl_greatest_n9_l x8916 x8917 x8918 x8919 x8920 x8921)) (by unfold impl_greatest; kernel_rfl) (by
  intro t
  exact ret_mk [dI t] (by kernel_rfl) (by kernel_rfl) (by kernel_rfl) (by kernel_rfl)) h

def F_impl_greatest : Fun := fun avs H =>
  match avs, H with
  | [.dat (.int .i64) x8916, .dat (.int .i64) x8917, .fn 42 [] [.pcell (.tab (.pair (.int .i64) (.pair (.int .i64) .unit)) x8918), .pcell (.dat (.int .i64) x8919), .pcell (.dat (.list (.list (.int .i64))) x8920), .pcell (.dat (.int .i64) x8921)]], [] => ⟨_, impl_greatest x8916 x8917 x8918 x8919 x8920 x8921, fun (t : Int) => (dI t, []), [], none⟩
  | _, _ => Ans.no

theorem impl_greatest_sound : Sound Tryd.prog 26 F_impl_greatest := by
  refine fn_sound' (C := impl_greatest_ctx) (c := bodyOf Tryd.f26) (cok_of tys_ok (allc impl_partTable_joined_1_sound alln) (allc Tryd.call42 alln) (by kernel_rfl)) Tryd.func26 (by kernel_rfl) LL impl_greatest_an ?_
  intro avs H r H' h
  unfold F_impl_greatest at h
  split at h
  · refine Awp.cast ?_ ?_ ?_ (impl_greatest_e _ _ _ _ _ _ h) <;> kernel_rfl
  · simp [Ans.no, Ans.run] at h


/-! (*loop.example/headtrees/impl.partTable).joined$2 -/

def impl_partTable_joined_2_an : Ann := (.seq (.leaf [0, 1, 2, 3, 4]) (.seq (.draw [20] [0, 1, 2, 3, 4, 5, 6, 7, 8, 9, 10, 11, 12, 13, 14, 15, 16, 17, 18, 19, 20, 21, 22] [] [6]) (.leaf [6])))

noncomputable def impl_partTable_joined_2_ctx : Ctx := ⟨tlook tys, olook [(43, F_impl_partTable_between)], ioF, 0, false, []⟩

theorem impl_partTable_joined_2_n1_l (x9058 : Int) (x9059 : List (Int × Int × Unit)) (x9060 : Int) (x9061 : List (List Int)) (x9062 : Int) : Link impl_partTable_joined_2_ctx LL (bodyOf Tryd.f44) impl_partTable_joined_2_an ⟨mkE 29 0 [(0, dI x9058), (1, .pcell (.tab (.pair (.int .i64) (.pair (.int .i64) .unit)) x9059)), (2, .pcell (dI x9060)), (3, .pcell (.dat (.list (.list (.int .i64))) x9061)), (4, .pcell (dI x9062))], []⟩ (impl_partTable_joined_2_n1 x9058 x9059 x9060 x9061 x9062) (fun (t : Int) => (Exit.ret, ⟨mkE 29 0 [(6, dI t)], []⟩)) := by
  refine Link.of fun K h => ?_
  simp only [impl_partTable_joined_2_n1, wpO_bind, wpO_cond, wpO_map, wpO_some] at h
  exact Awp.of (by kernel_rfl) h

theorem impl_partTable_joined_2_e (x9058 : Int) (x9059 : List (Int × Int × Unit)) (x9060 : Int) (x9061 : List (List Int)) (x9062 : Int) {r : AV} {H' : Heap} (h : (Ans.mk _ (impl_partTable_joined_2 x9058 x9059 x9060 x9061 x9062) (fun (t : Int) => (dI t, [])) [] none).run = some (r, H')) : Awp impl_partTable_joined_2_ctx LL (bodyOf Tryd.f44) impl_partTable_joined_2_an ⟨mkE 29 0 [(0, dI x9058), (1, .pcell (.tab (.pair (.int .i64) (.pair (.int .i64) .unit)) x9059)), (2, .pcell (dI x9060)), (3, .pcell (.dat (.list (.list (.int .i64))) x9061)), (4, .pcell (dI x9062))], []⟩ (Ret (tlook tys) Tryd.f44.results.toList r H') :=
  ret_of' (impl_partTable_joined_2_n1_l x9058 x9059 x9060 x9061 x9062) (by unfold impl_partTable_joined_2; kernel_rfl) (by
  intro t
  exact ret_mk [dI t] (by kernel_rfl) (by kernel_rfl) (by kernel_rfl) (by kernel_rfl)) h

def F_impl_partTable_joined_2 : Fun := fun avs H =>
  match avs, H with
  | [.dat (.int .i64) x9058, .pcell (.tab (.pair (.int .i64) (.pair (.int .i64) .unit)) x9059), .pcell (.dat (.int .i64) x9060), .pcell (.dat (.list (.list (.int .i64))) x9061), .pcell (.dat (.int .i64) x9062)], [] => ⟨_, impl_partTable_joined_2 x9058 x9059 x9060 x9061 x9062, fun (t : Int) => (dI t, []), [], none⟩
  | _, _ => Ans.no

theorem impl_partTable_joined_2_sound : Sound Tryd.prog 44 F_impl_partTable_joined_2 := by
  refine fn_sound' (C := impl_partTable_joined_2_ctx) (c := bodyOf Tryd.f44) (cok_of tys_ok (allc impl_partTable_between_sound alln) (allc Tryd.call43 alln) (by kernel_rfl)) Tryd.func44 (by kernel_rfl) LL impl_partTable_joined_2_an ?_
  intro avs H r H' h
  unfold F_impl_partTable_joined_2 at h
  split at h
  · refine Awp.cast ?_ ?_ ?_ (impl_partTable_joined_2_e _ _ _ _ _ h) <;> kernel_rfl
  · simp [Ans.no, Ans.run] at h


/-! loop.example/headtrees/impl.greatest (impl_greatest_v3) -/

def impl_greatest_v3_an : Ann := (.seq (.leaf [0, 1, 2]) (.seq (.leaf [0, 1, 2, 7]) (.seq (.seq (.leaf [1, 2, 7, 8]) (.block (.loop (.seq (.seq (.leaf [1, 2, 7, 8, 12]) (.cond (.leaf [1, 2, 7, 8]) (.leaf [7]))) (.seq (.block (.leaf [1, 2, 7, 8])) (.leaf [1, 2, 7, 8])))))) (.seq (.leaf [6]) (.leaf [6])))))

noncomputable def impl_greatest_v3_ctx : Ctx := ⟨tlook tys, olook [(44, F_impl_partTable_joined_2)], ioF, 0, false, []⟩

theorem impl_greatest_v3_n1_l (x9050 : Int) (x9051 : Int) (x9052 : List (Int × Int × Unit)) (x9053 : Int) (x9054 : List (List Int)) (x9055 : Int) : Link impl_greatest_v3_ctx LL (Code.seq (cq [0] (bodyOf Tryd.f26)) (cq [0,1] (bodyOf Tryd.f26))) (Ann.seq (aq [0] impl_greatest_v3_an) (aq [0,1] impl_greatest_v3_an)) ⟨mkE 21 0 [(0, dI x9050), (1, dI x9051), (2, .fn 44 [] [.pcell (.tab (.pair (.int .i64) (.pair (.int .i64) .unit)) x9052), .pcell (dI x9053), .pcell (.dat (.list (.list (.int .i64))) x9054), .pcell (dI x9055)])], []⟩ (impl_greatest_v3_n1) (fun (t : Unit) => (Exit.normal, ⟨mkE 21 0 [(0, dI x9050), (1, dI x9051), (2, .fn 44 [] [.pcell (.tab (.pair (.int .i64) (.pair (.int .i64) .unit)) x9052), .pcell (dI x9053), .pcell (.dat (.list (.list (.int .i64))) x9054), .pcell (dI x9055)]), (7, dI 0)], []⟩)) := by
  refine Link.of fun K h => ?_
  simp only [impl_greatest_v3_n1, wpO_bind, wpO_cond, wpO_map, wpO_some] at h
  exact Awp.of (by kernel_rfl) h

theorem impl_greatest_v3_n2_l (x9050 : Int) (x9051 : Int) (x9052 : List (Int × Int × Unit)) (x9053 : Int) (x9054 : List (List Int)) (x9055 : Int) : Link impl_greatest_v3_ctx LL (cq [0,0,1,1] (bodyOf Tryd.f26)) (aq [0,0,1,1] impl_greatest_v3_an) ⟨mkE 21 0 [(0, dI x9050), (1, dI x9051), (2, .fn 44 [] [.pcell (.tab (.pair (.int .i64) (.pair (.int .i64) .unit)) x9052), .pcell (dI x9053), .pcell (.dat (.list (.list (.int .i64))) x9054), .pcell (dI x9055)]), (7, dI 0)], []⟩ (impl_greatest_v3_n2) (fun (t : Unit) => (Exit.normal, ⟨mkE 21 0 [(1, dI x9051), (2, .fn 44 [] [.pcell (.tab (.pair (.int .i64) (.pair (.int .i64) .unit)) x9052), .pcell (dI x9053), .pcell (.dat (.list (.list (.int .i64))) x9054), .pcell (dI x9055)]), (7, dI 0), (8, dI x9050)], []⟩)) := by
  refine Link.of fun K h => ?_
  simp only [impl_greatest_v3_n2, wpO_bind, wpO_cond, wpO_map, wpO_some] at h
  exact Awp.of (by kernel_rfl) h

theorem impl_greatest_v3_n3_l (x9051 : Int) (x9052 : List (Int × Int × Unit)) (x9053 : Int) (x9054 : List (List Int)) (x9055 : Int) (x9099 : Int) (x9100 : Int) : Link impl_greatest_v3_ctx LL (cq [0,0,1,0,1,1] (bodyOf Tryd.f26)) (aq [0,0,1,0,1,1] impl_greatest_v3_an) ⟨mkE 21 0 [(1, dI x9051), (2, .fn 44 [] [.pcell (.tab (.pair (.int .i64) (.pair (.int .i64) .unit)) x9052), .pcell (dI x9053), .pcell (.dat (.list (.list (.int .i64))) x9054), .pcell (dI x9055)]), (7, dI x9099), (8, dI x9100)], []⟩ (impl_greatest_v3_n3 x9051 x9052 x9053 x9054 x9055 x9099 x9100) (Sum.elim (fun (t : Int × Int) => (Exit.normal, ⟨mkE 21 0 [(1, dI x9051), (2, .fn 44 [] [.pcell (.tab (.pair (.int .i64) (.pair (.int .i64) .unit)) x9052), .pcell (dI x9053), .pcell (.dat (.list (.list (.int .i64))) x9054), .pcell (dI x9055)]), (7, dI t.1), (8, dI t.2)], []⟩)) (fun (t : Int) => ((Exit.exit 0), ⟨mkE 21 0 [(7, dI t)], []⟩))) := by
  refine Link.of fun K h => ?_
  simp only [impl_greatest_v3_n3, wpO_bind, wpO_cond, wpO_map, wpO_some] at h
  exact Awp.of (by kernel_rfl) h

def impl_greatest_v3_n4_l (x9051 : Int) (x9052 : List (Int × Int × Unit)) (x9053 : Int) (x9054 : List (List Int)) (x9055 : Int) (x9050 : Int) := (link_loop (mk := fun (s : Int × Int) => ⟨mkE 21 0 [(1, dI x9051), (2, .fn 44 [] [.pcell (.tab (.pair (.int .i64) (.pair (.int .i64) .unit)) x9052), .pcell (dI x9053), .pcell (.dat (.list (.list (.int .i64))) x9054), .pcell (dI x9055)]), (7, dI s.1), (8, dI s.2)], []⟩) (fin := (fun (t : Int) => ((Exit.exit 0), ⟨mkE 21 0 [(7, dI t)], []⟩))) (by
  rintro t f K h
  · exact h) (fun s => link_map (impl_greatest_v3_n3_l x9051 x9052 x9053 x9054 x9055 s.1 s.2) (Sum.elim (fun (t : Int × Int) => Sum.inl (t.1, t.2)) (fun (t : Int) => Sum.inr t)) (by
  rintro (t | t)
  · kernel_rfl
  · kernel_rfl)) (0, x9050))

def impl_greatest_v3_n5_l (x9051 : Int) (x9052 : List (Int × Int × Unit)) (x9053 : Int) (x9054 : List (List Int)) (x9055 : Int) (x9050 : Int) := (link_block (fin2 := (fun (t : Int) => (Exit.normal, ⟨mkE 21 0 [(7, dI t)], []⟩))) (id := 0) (impl_greatest_v3_n4_l x9051 x9052 x9053 x9054 x9055 x9050) (fun (t : Int) => t) (by
  rintro t K h
  · exact Eq.mp (by kernel_rfl) h))

def impl_greatest_v3_n6_l (x9050 : Int) (x9051 : Int) (x9052 : List (Int × Int × Unit)) (x9053 : Int) (x9054 : List (List Int)) (x9055 : Int) := (link_seq (impl_greatest_v3_n2_l x9050 x9051 x9052 x9053 x9054 x9055) (fun (t : Unit) => (impl_greatest_v3_n5_l x9051 x9052 x9053 x9054 x9055 x9050)))

theorem impl_greatest_v3_n7_l (x9099 : Int) : Link impl_greatest_v3_ctx LL (cq [1,1,1] (bodyOf Tryd.f26)) (aq [1,1,1] impl_greatest_v3_an) ⟨mkE 21 0 [(7, dI x9099)], []⟩ (impl_greatest_v3_n7 x9099) (fun (t : Int) => (Exit.ret, ⟨mkE 21 0 [(6, dI t)], []⟩)) := by
  refine Link.of fun K h => ?_
  simp only [impl_greatest_v3_n7, wpO_bind, wpO_cond, wpO_map, wpO_some] at h
  exact Awp.of (by kernel_rfl) h

def impl_greatest_v3_n8_l (x9050 : Int) (x9051 : Int) (x9052 : List (Int × Int × Unit)) (x9053 : Int) (x9054 : List (List Int)) (x9055 : Int) := (link_seq (impl_greatest_v3_n6_l x9050 x9051 x9052 x9053 x9054 x9055) (fun (t : Int) => (impl_greatest_v3_n7_l t)))

def impl_greatest_v3_n9_l (x9050 : Int) (x9051 : Int) (x9052 : List (Int × Int × Unit)) (x9053 : Int) (x9054 : List (List Int)) (x9055 : Int) := (link_group (c := (cq [0,1] (bodyOf Tryd.f26))) (a := (aq [0,1] impl_greatest_v3_an)) [(cq [0] (bodyOf Tryd.f26))] [(aq [0] impl_greatest_v3_an)] rfl (link_seq (impl_greatest_v3_n1_l x9050 x9051 x9052 x9053 x9054 x9055) (fun (t : Unit) => (impl_greatest_v3_n8_l x9050 x9051 x9052 x9053 x9054 x9055))))

theorem impl_greatest_v3_e (x9050 : Int) (x9051 : Int) (x9052 : List (Int × Int × Unit)) (x9053 : Int) (x9054 : List (List Int)) (x9055 : Int) {r : AV} {H' : Heap} (h : (Ans.mk _ (impl_greatest_v3 x9050 x9051 x9052 x9053 x9054 x9055) (fun (t : Int) => (dI t, [])) [] none).run = some (r, H')) : Awp impl_greatest_v3_ctx LL (bodyOf Tryd.f26) impl_greatest_v3_an ⟨mkE 21 0 [(0, dI x9050), (1, dI x9051), (2, .fn 44 [] [.pcell (.tab (.pair (.int .i64) (.pair (.int .i64) .unit)) x9052), .pcell (dI x9053), .pcell (.dat (.list (.list (.int .i64))) x9054), .pcell (dI x9055)])], []⟩ (Ret (tlook tys) Tryd.f26.results.toList r H') :=
  ret_of' (Link.cast (by kernel_rfl) (by kernel_rfl) (impl_greatest_v3_n9_l x9050 x9051 x9052 x9053 x9054 x9055)) (by unfold impl_greatest_v3; kernel_rfl) (by
  intro t
  exact ret_mk [dI t] (by kernel_rfl) (by kernel_rfl) (by kernel_rfl) (by kernel_rfl)) h

def F_impl_greatest_v3 : Fun := fun avs H =>
  match avs, H with
  | [.dat (.int .i64) x9050, .dat (.int .i64) x9051, .fn 44 [] [.pcell (.tab (.pair (.int .i64) (.pair (.int .i64) .unit)) x9052), .pcell (.dat (.int .i64) x9053), .pcell (.dat (.list (.list (.int .i64))) x9054), .pcell (.dat (.int .i64) x9055)]], [] => ⟨_, impl_greatest_v3 x9050 x9051 x9052 x9053 x9054 x9055, fun (t : Int) => (dI t, []), [], none⟩
  | _, _ => Ans.no

theorem impl_greatest_v3_sound : Sound Tryd.prog 26 F_impl_greatest_v3 := by
  refine fn_sound' (C := impl_greatest_v3_ctx) (c := bodyOf Tryd.f26) (cok_of tys_ok (allc impl_partTable_joined_2_sound alln) (allc Tryd.call44 alln) (by kernel_rfl)) Tryd.func26 (by kernel_rfl) LL impl_greatest_v3_an ?_
  intro avs H r H' h
  unfold F_impl_greatest_v3 at h
  split at h
  · refine Awp.cast ?_ ?_ ?_ (impl_greatest_v3_e _ _ _ _ _ _ h) <;> kernel_rfl
  · simp [Ans.no, Ans.run] at h


/-! (*loop.example/headtrees/impl.partTable).joined -/

def impl_partTable_joined_an : Ann := (.seq (.leaf [4, 5, 6, 7, 8]) (.seq (.draw [4, 9] [0, 1, 2, 3, 5, 6, 7, 8, 4, 9, 10, 11] [] [8]) (.leaf [8])))

noncomputable def impl_partTable_joined_ctx : Ctx := ⟨tlook tys, olook [(26, (pickF 2 42 F_impl_greatest F_impl_greatest_v3))], ioF, 0, false, []⟩

theorem impl_partTable_joined_n1_l (x8910 : List (Int × Int × Unit)) (x8911 : List (List Int)) (x8912 : Int) (x8913 : Int) : Link impl_partTable_joined_ctx LL (bodyOf Tryd.f35) impl_partTable_joined_an ⟨mkE 20 0 [(0, .tab (.pair (.int .i64) (.pair (.int .i64) .unit)) x8910), (1, .dat (.list (.list (.int .i64))) x8911), (2, dI x8912), (3, dI x8913)], []⟩ (impl_partTable_joined_n1 x8910 x8911 x8912 x8913) (fun (t : Int × Int) => (Exit.ret, ⟨mkE 20 0 [(8, .ptr 0 0)], [some (.box [dI t.1, dI t.2])]⟩)) := by
  refine Link.of fun K h => ?_
  simp only [impl_partTable_joined_n1, wpO_bind, wpO_cond, wpO_map, wpO_some] at h
  exact Awp.of (by kernel_rfl) h

theorem impl_partTable_joined_e (x8910 : List (Int × Int × Unit)) (x8911 : List (List Int)) (x8912 : Int) (x8913 : Int) {r : AV} {H' : Heap} (h : (Ans.mk _ (impl_partTable_joined x8910 x8911 x8912 x8913) (fun (t : Int × Int) => (.agg [dI t.1, dI t.2], [some (.box [dI t.1, dI t.2])])) [] none).run = some (r, H')) : Awp impl_partTable_joined_ctx LL (bodyOf Tryd.f35) impl_partTable_joined_an ⟨mkE 20 0 [(0, .tab (.pair (.int .i64) (.pair (.int .i64) .unit)) x8910), (1, .dat (.list (.list (.int .i64))) x8911), (2, dI x8912), (3, dI x8913)], []⟩ (Ret (tlook tys) Tryd.f35.results.toList r H') :=
  ret_of' (impl_partTable_joined_n1_l x8910 x8911 x8912 x8913) (by unfold impl_partTable_joined; kernel_rfl) (by
  intro t
  exact ret_mk [.agg [dI t.1, dI t.2]] (by kernel_rfl) (by kernel_rfl) (by kernel_rfl) (by kernel_rfl)) h

def F_impl_partTable_joined : Fun := fun avs H =>
  match avs, H with
  | [.tab (.pair (.int .i64) (.pair (.int .i64) .unit)) x8910, .dat (.list (.list (.int .i64))) x8911, .dat (.int .i64) x8912, .dat (.int .i64) x8913], [] => ⟨_, impl_partTable_joined x8910 x8911 x8912 x8913, fun (t : Int × Int) => (.agg [dI t.1, dI t.2], [some (.box [dI t.1, dI t.2])]), [], none⟩
  | _, _ => Ans.no

theorem impl_partTable_joined_sound : Sound Tryd.prog 35 F_impl_partTable_joined := by
  refine fn_sound' (C := impl_partTable_joined_ctx) (c := bodyOf Tryd.f35) (cok_of tys_ok (allc (Sound.pick impl_greatest_sound impl_greatest_v3_sound 2 42) alln) (allc Tryd.call26 alln) (by kernel_rfl)) Tryd.func35 (by kernel_rfl) LL impl_partTable_joined_an ?_
  intro avs H r H' h
  unfold F_impl_partTable_joined at h
  split at h
  · refine Awp.cast ?_ ?_ ?_ (impl_partTable_joined_e _ _ _ _ h) <;> kernel_rfl
  · simp [Ans.no, Ans.run] at h


end Go.Rv
