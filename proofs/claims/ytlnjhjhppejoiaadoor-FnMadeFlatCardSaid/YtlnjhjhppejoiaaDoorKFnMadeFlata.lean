/-
  The checked code answers as the plain functions do; written by program. Conditions: none.
-/
import Derived.Test.YtlnjhjhppejoiaaDoorGFnMadeFlat
import Derived.Test.YtlnjhjhppejoiaaDoorProg
set_option linter.unusedVariables false
set_option linter.unusedSimpArgs false
set_option linter.defProp false
set_option maxRecDepth 100000
namespace Go.Rv
open Go.Proofs
theorem ty3 : TIOk Tryd.prog 3 ⟨.int .i64, 1, 8, some (.int .i64), [.int .i64 0], false⟩ := ⟨⟨infoOf (Tryd.prog.info? 3), by kernel_rfl, by kernel_rfl, by kernel_rfl, .int .i64 0, by kernel_rfl, by kernel_rfl⟩, (by kernel_rfl : Tryd.prog.underlying 3 = some (.int .i64)), no_eq⟩
theorem ty4 : TIOk Tryd.prog 4 ⟨.bool, 1, 1, some .bool, [.bool false], false⟩ := ⟨⟨infoOf (Tryd.prog.info? 4), by kernel_rfl, by kernel_rfl, by kernel_rfl, .bool false, by kernel_rfl, by kernel_rfl⟩, (by kernel_rfl : Tryd.prog.underlying 4 = some .bool), no_eq⟩
theorem ty5 : TIOk Tryd.prog 5 ⟨.int .u8, 1, 1, some (.int .u8), [.int .u8 0], false⟩ := ⟨⟨infoOf (Tryd.prog.info? 5), by kernel_rfl, by kernel_rfl, by kernel_rfl, .int .u8 0, by kernel_rfl, by kernel_rfl⟩, (by kernel_rfl : Tryd.prog.underlying 5 = some (.int .u8)), no_eq⟩
theorem ty9 : TIOk Tryd.prog 9 ⟨.str, 1, 16, some .str, [.string ByteArray.empty], false⟩ := ⟨⟨infoOf (Tryd.prog.info? 9), by kernel_rfl, by kernel_rfl, by kernel_rfl, .string ByteArray.empty, by kernel_rfl, by kernel_rfl⟩, (by kernel_rfl : Tryd.prog.underlying 9 = some .string), no_eq⟩
theorem ty22 : TIOk Tryd.prog 22 ⟨.slice 5, 1, 24, some (.list (.int .u8)), [.slice none 0 0], false⟩ := ⟨⟨infoOf (Tryd.prog.info? 22), by kernel_rfl, by kernel_rfl, by kernel_rfl, .slice none 0 0, by kernel_rfl, by kernel_rfl⟩, (by kernel_rfl : Tryd.prog.underlying 22 = some (.slice 5)), no_eq⟩
theorem ty23 : TIOk Tryd.prog 23 ⟨.slice 3, 1, 24, some (.list (.int .i64)), [.slice none 0 0], false⟩ := ⟨⟨infoOf (Tryd.prog.info? 23), by kernel_rfl, by kernel_rfl, by kernel_rfl, .slice none 0 0, by kernel_rfl, by kernel_rfl⟩, (by kernel_rfl : Tryd.prog.underlying 23 = some (.slice 3)), no_eq⟩
theorem ty40 : TIOk Tryd.prog 40 ⟨.scalar, 1, 8, none, [.pointer none], false⟩ := ⟨⟨infoOf (Tryd.prog.info? 40), by kernel_rfl, by kernel_rfl, by kernel_rfl, .pointer none, by kernel_rfl, by kernel_rfl⟩, ⟨descOf (Tryd.prog.underlying 40), by kernel_rfl, by kernel_rfl⟩, no_eq⟩
theorem ty42 : TIOk Tryd.prog 42 ⟨.map 5 46, 1, 8, none, [.map none], false⟩ := ⟨⟨infoOf (Tryd.prog.info? 42), by kernel_rfl, by kernel_rfl, by kernel_rfl, .map none, by kernel_rfl, by kernel_rfl⟩, (by kernel_rfl : Tryd.prog.underlying 42 = some (.map 5 46)), no_eq⟩
theorem ty46 : TIOk Tryd.prog 46 ⟨.scalar, 1, 8, none, [.nilFunc], false⟩ := ⟨⟨infoOf (Tryd.prog.info? 46), by kernel_rfl, by kernel_rfl, by kernel_rfl, .nilFunc, by kernel_rfl, by kernel_rfl⟩, ⟨descOf (Tryd.prog.underlying 46), by kernel_rfl, by kernel_rfl⟩, no_eq⟩
theorem ty50 : TIOk Tryd.prog 50 ⟨.strct [(0, 23), (1, 23), (2, 3), (3, 3)], 4, 64, some (.pair (.list (.int .i64)) (.pair (.list (.int .i64)) (.pair (.int .i64) (.pair (.int .i64) .unit)))), [.slice none 0 0, .slice none 0 0, .int .i64 0, .int .i64 0], false⟩ := ⟨⟨infoOf (Tryd.prog.info? 50), by kernel_rfl, by kernel_rfl, by kernel_rfl, .agg #[.slice none 0 0, .slice none 0 0, .int .i64 0, .int .i64 0], by kernel_rfl, by kernel_rfl⟩, ⟨fieldsOf (Tryd.prog.underlying 50), by kernel_rfl, by kernel_rfl⟩, no_eq⟩
theorem ty51 : TIOk Tryd.prog 51 ⟨.slice 54, 1, 24, some (.list (.int .u64)), [.slice none 0 0], false⟩ := ⟨⟨infoOf (Tryd.prog.info? 51), by kernel_rfl, by kernel_rfl, by kernel_rfl, .slice none 0 0, by kernel_rfl, by kernel_rfl⟩, (by kernel_rfl : Tryd.prog.underlying 51 = some (.slice 54)), no_eq⟩
theorem ty54 : TIOk Tryd.prog 54 ⟨.int .u64, 1, 8, some (.int .u64), [.int .u64 0], false⟩ := ⟨⟨infoOf (Tryd.prog.info? 54), by kernel_rfl, by kernel_rfl, by kernel_rfl, .int .u64 0, by kernel_rfl, by kernel_rfl⟩, (by kernel_rfl : Tryd.prog.underlying 54 = some (.int .u64)), no_eq⟩
theorem ty55 : TIOk Tryd.prog 55 ⟨.slice 4, 1, 24, some (.list .bool), [.slice none 0 0], false⟩ := ⟨⟨infoOf (Tryd.prog.info? 55), by kernel_rfl, by kernel_rfl, by kernel_rfl, .slice none 0 0, by kernel_rfl, by kernel_rfl⟩, (by kernel_rfl : Tryd.prog.underlying 55 = some (.slice 4)), no_eq⟩
theorem ty59 : TIOk Tryd.prog 59 ⟨.strct [(0, 22), (1, 3)], 2, 32, some (.pair (.list (.int .u8)) (.pair (.int .i64) .unit)), [.slice none 0 0, .int .i64 0], false⟩ := ⟨⟨infoOf (Tryd.prog.info? 59), by kernel_rfl, by kernel_rfl, by kernel_rfl, .agg #[.slice none 0 0, .int .i64 0], by kernel_rfl, by kernel_rfl⟩, ⟨fieldsOf (Tryd.prog.underlying 59), by kernel_rfl, by kernel_rfl⟩, no_eq⟩
theorem ty66 : TIOk Tryd.prog 66 ⟨.strct [(0, 23), (1, 3), (2, 3)], 3, 40, some (.pair (.list (.int .i64)) (.pair (.int .i64) (.pair (.int .i64) .unit))), [.slice none 0 0, .int .i64 0, .int .i64 0], false⟩ := ⟨⟨infoOf (Tryd.prog.info? 66), by kernel_rfl, by kernel_rfl, by kernel_rfl, .agg #[.slice none 0 0, .int .i64 0, .int .i64 0], by kernel_rfl, by kernel_rfl⟩, ⟨fieldsOf (Tryd.prog.underlying 66), by kernel_rfl, by kernel_rfl⟩, no_eq⟩
theorem ty68 : TIOk Tryd.prog 68 ⟨.scalar, 1, 8, none, [.nilFunc], false⟩ := ⟨⟨infoOf (Tryd.prog.info? 68), by kernel_rfl, by kernel_rfl, by kernel_rfl, .nilFunc, by kernel_rfl, by kernel_rfl⟩, ⟨descOf (Tryd.prog.underlying 68), by kernel_rfl, by kernel_rfl⟩, no_eq⟩
theorem ty77 : TIOk Tryd.prog 77 ⟨.arr 9 4, 9, 9, none, [.bool false, .bool false, .bool false, .bool false, .bool false, .bool false, .bool false, .bool false, .bool false], false⟩ := ⟨⟨infoOf (Tryd.prog.info? 77), by kernel_rfl, by kernel_rfl, by kernel_rfl, .agg #[.bool false, .bool false, .bool false, .bool false, .bool false, .bool false, .bool false, .bool false, .bool false], by kernel_rfl, by kernel_rfl⟩, (by kernel_rfl : Tryd.prog.underlying 77 = some (.array 9 4)), no_eq⟩
theorem ty91 : TIOk Tryd.prog 91 ⟨.int .u64, 1, 8, some (.int .u64), [.int .u64 0], false⟩ := ⟨⟨infoOf (Tryd.prog.info? 91), by kernel_rfl, by kernel_rfl, by kernel_rfl, .int .u64 0, by kernel_rfl, by kernel_rfl⟩, (by kernel_rfl : Tryd.prog.underlying 91 = some (.int .u64)), no_eq⟩
theorem ty93 : TIOk Tryd.prog 93 ⟨.arr 64 5, 64, 64, none, [.int .u8 0, .int .u8 0, .int .u8 0, .int .u8 0, .int .u8 0, .int .u8 0, .int .u8 0, .int .u8 0, .int .u8 0, .int .u8 0, .int .u8 0, .int .u8 0, .int .u8 0, .int .u8 0, .int .u8 0, .int .u8 0, .int .u8 0, .int .u8 0, .int .u8 0, .int .u8 0, .int .u8 0, .int .u8 0, .int .u8 0, .int .u8 0, .int .u8 0, .int .u8 0, .int .u8 0, .int .u8 0, .int .u8 0, .int .u8 0, .int .u8 0, .int .u8 0, .int .u8 0, .int .u8 0, .int .u8 0, .int .u8 0, .int .u8 0, .int .u8 0, .int .u8 0, .int .u8 0, .int .u8 0, .int .u8 0, .int .u8 0, .int .u8 0, .int .u8 0, .int .u8 0, .int .u8 0, .int .u8 0, .int .u8 0, .int .u8 0, .int .u8 0, .int .u8 0, .int .u8 0, .int .u8 0, .int .u8 0, .int .u8 0, .int .u8 0, .int .u8 0, .int .u8 0, .int .u8 0, .int .u8 0, .int .u8 0, .int .u8 0, .int .u8 0], false⟩ := ⟨⟨infoOf (Tryd.prog.info? 93), by kernel_rfl, by kernel_rfl, by kernel_rfl, .agg #[.int .u8 0, .int .u8 0, .int .u8 0, .int .u8 0, .int .u8 0, .int .u8 0, .int .u8 0, .int .u8 0, .int .u8 0, .int .u8 0, .int .u8 0, .int .u8 0, .int .u8 0, .int .u8 0, .int .u8 0, .int .u8 0, .int .u8 0, .int .u8 0, .int .u8 0, .int .u8 0, .int .u8 0, .int .u8 0, .int .u8 0, .int .u8 0, .int .u8 0, .int .u8 0, .int .u8 0, .int .u8 0, .int .u8 0, .int .u8 0, .int .u8 0, .int .u8 0, .int .u8 0, .int .u8 0, .int .u8 0, .int .u8 0, .int .u8 0, .int .u8 0, .int .u8 0, .int .u8 0, .int .u8 0, .int .u8 0, .int .u8 0, .int .u8 0, .int .u8 0, .int .u8 0, .int .u8 0, .int .u8 0, .int .u8 0, .int .u8 0, .int .u8 0, .int .u8 0, .int .u8 0, .int .u8 0, .int .u8 0, .int .u8 0, .int .u8 0, .int .u8 0, .int .u8 0, .int .u8 0, .int .u8 0, .int .u8 0, .int .u8 0, .int .u8 0], by kernel_rfl, by kernel_rfl⟩, (by kernel_rfl : Tryd.prog.underlying 93 = some (.array 64 5)), no_eq⟩
def tys : List (TypeId × TI) := [(3, ⟨.int .i64, 1, 8, some (.int .i64), [.int .i64 0], false⟩), (4, ⟨.bool, 1, 1, some .bool, [.bool false], false⟩), (5, ⟨.int .u8, 1, 1, some (.int .u8), [.int .u8 0], false⟩), (9, ⟨.str, 1, 16, some .str, [.string ByteArray.empty], false⟩), (22, ⟨.slice 5, 1, 24, some (.list (.int .u8)), [.slice none 0 0], false⟩), (23, ⟨.slice 3, 1, 24, some (.list (.int .i64)), [.slice none 0 0], false⟩), (40, ⟨.scalar, 1, 8, none, [.pointer none], false⟩), (42, ⟨.map 5 46, 1, 8, none, [.map none], false⟩), (46, ⟨.scalar, 1, 8, none, [.nilFunc], false⟩), (50, ⟨.strct [(0, 23), (1, 23), (2, 3), (3, 3)], 4, 64, some (.pair (.list (.int .i64)) (.pair (.list (.int .i64)) (.pair (.int .i64) (.pair (.int .i64) .unit)))), [.slice none 0 0, .slice none 0 0, .int .i64 0, .int .i64 0], false⟩), (51, ⟨.slice 54, 1, 24, some (.list (.int .u64)), [.slice none 0 0], false⟩), (54, ⟨.int .u64, 1, 8, some (.int .u64), [.int .u64 0], false⟩), (55, ⟨.slice 4, 1, 24, some (.list .bool), [.slice none 0 0], false⟩), (59, ⟨.strct [(0, 22), (1, 3)], 2, 32, some (.pair (.list (.int .u8)) (.pair (.int .i64) .unit)), [.slice none 0 0, .int .i64 0], false⟩), (66, ⟨.strct [(0, 23), (1, 3), (2, 3)], 3, 40, some (.pair (.list (.int .i64)) (.pair (.int .i64) (.pair (.int .i64) .unit))), [.slice none 0 0, .int .i64 0, .int .i64 0], false⟩), (68, ⟨.scalar, 1, 8, none, [.nilFunc], false⟩), (77, ⟨.arr 9 4, 9, 9, none, [.bool false, .bool false, .bool false, .bool false, .bool false, .bool false, .bool false, .bool false, .bool false], false⟩), (91, ⟨.int .u64, 1, 8, some (.int .u64), [.int .u64 0], false⟩), (93, ⟨.arr 64 5, 64, 64, none, [.int .u8 0, .int .u8 0, .int .u8 0, .int .u8 0, .int .u8 0, .int .u8 0, .int .u8 0, .int .u8 0, .int .u8 0, .int .u8 0, .int .u8 0, .int .u8 0, .int .u8 0, .int .u8 0, .int .u8 0, .int .u8 0, .int .u8 0, .int .u8 0, .int .u8 0, .int .u8 0, .int .u8 0, .int .u8 0, .int .u8 0, .int .u8 0, .int .u8 0, .int .u8 0, .int .u8 0, .int .u8 0, .int .u8 0, .int .u8 0, .int .u8 0, .int .u8 0, .int .u8 0, .int .u8 0, .int .u8 0, .int .u8 0, .int .u8 0, .int .u8 0, .int .u8 0, .int .u8 0, .int .u8 0, .int .u8 0, .int .u8 0, .int .u8 0, .int .u8 0, .int .u8 0, .int .u8 0, .int .u8 0, .int .u8 0, .int .u8 0, .int .u8 0, .int .u8 0, .int .u8 0, .int .u8 0, .int .u8 0, .int .u8 0, .int .u8 0, .int .u8 0, .int .u8 0, .int .u8 0, .int .u8 0, .int .u8 0, .int .u8 0, .int .u8 0], false⟩)]
theorem tys_ok : TOk Tryd.prog (tlook tys) := tok_of (allc ty3 (allc ty4 (allc ty5 (allc ty9 (allc ty22 (allc ty23 (allc ty40 (allc ty42 (allc ty46 (allc ty50 (allc ty51 (allc ty54 (allc ty55 (allc ty59 (allc ty66 (allc ty68 (allc ty77 (allc ty91 (allc ty93 alln)))))))))))))))))))
def ioF (f : FuncId) (i : Nat) : Bool := [(42, 0), (57, 0), (62, 1), (64, 0)].any fun (p : Nat × Nat) => Nat.beq p.1 f && Nat.beq p.2 i


/-! loop.example/headtrees/spec.l20Open -/

def spec_l20Open_an : Ann := (.seq (.leaf [0]) (.seq (.seq (.leaf [0, 5]) (.cond (.leaf [0]) (.leaf [0]))) (.seq (.leaf [2]) (.leaf [2]))))

noncomputable def spec_l20Open_ctx : Ctx := ⟨tlook tys, olook [], ioF, 0, false, []⟩

theorem spec_l20Open_n1_l (x12 : List Int) : Link spec_l20Open_ctx LL (bodyOf Tryd.f18) spec_l20Open_an ⟨mkE 11 0 [(0, dV x12)], []⟩ (spec_l20Open_n1 x12) (fun (t : (List Int)) => (Exit.ret, ⟨mkE 11 0 [(2, .ptr 0 0)], [some (.box [dV t, dI 0])]⟩)) := by
  refine Link.of fun K h => ?_
  simp only [spec_l20Open_n1, wpO_bind, wpO_cond, wpO_map, wpO_some] at h
  exact Awp.of (by kernel_rfl) h

theorem spec_l20Open_e (x12 : List Int) {r : AV} {H' : Heap} (h : (Ans.mk _ (spec_l20Open x12) (fun (t : (List Int)) => (.ptr 0 0, [some (.box [dV t, dI 0])])) [] none).run = some (r, H')) : Awp spec_l20Open_ctx LL (bodyOf Tryd.f18) spec_l20Open_an ⟨mkE 11 0 [(0, dV x12)], []⟩ (Ret (tlook tys) Tryd.f18.results.toList r H') :=
  ret_of' (spec_l20Open_n1_l x12) (by unfold spec_l20Open; kernel_rfl) (by
  intro t
  exact ret_mk [.ptr 0 0] (by kernel_rfl) (by kernel_rfl) (by kernel_rfl) (by kernel_rfl)) h

def F_spec_l20Open : Fun := fun avs H =>
  match avs, H with
  | [.dat (.list (.int .u8)) x12], [] => ⟨_, spec_l20Open x12, fun (t : (List Int)) => (.ptr 0 0, [some (.box [dV t, dI 0])]), [], none⟩
  | _, _ => Ans.no

theorem spec_l20Open_sound : Sound Tryd.prog 18 F_spec_l20Open := by
  refine fn_sound' (C := spec_l20Open_ctx) (c := bodyOf Tryd.f18) (cok_of tys_ok (alln) (alln) (by kernel_rfl)) Tryd.func18 (by kernel_rfl) LL spec_l20Open_an ?_
  intro avs H r H' h
  unfold F_spec_l20Open at h
  split at h
  · refine Awp.cast ?_ ?_ ?_ (spec_l20Open_e _ h) <;> kernel_rfl
  · simp [Ans.no, Ans.run] at h


/-! (*loop.example/headtrees/spec.l20Rd).pick -/

def spec_l20Rd_pick_an : Ann := (.seq (.leaf [0, 1]) (.seq (.leaf [0, 1]) (.seq (.seq (.leaf [0, 1, 24]) (.cond (.seq (.leaf [4]) (.leaf [4])) (.leaf [0, 1]))) (.seq (.leaf [0, 1, 5]) (.seq (.seq (.leaf [0, 1, 5, 36]) (.cond (.seq (.leaf [4]) (.leaf [4])) (.leaf [0, 1, 5]))) (.seq (.draw [] [0, 1, 2, 3, 4, 5, 6, 7, 8, 9, 10, 11, 12, 13, 14, 15, 16, 17, 18, 19, 20, 21, 22, 23, 24, 25, 26, 27, 28, 29, 30, 31, 32, 33, 34, 35, 36, 37, 38, 39, 40, 41, 42, 43, 44, 45] [] [1, 6]) (.seq (.leaf [1, 6]) (.seq (.leaf [4]) (.leaf [4])))))))))

noncomputable def spec_l20Rd_pick_ctx : Ctx := ⟨tlook tys, olook [], ioF, 1, false, []⟩

theorem spec_l20Rd_pick_n1_l (x41 : Int) (x42 : List Int) (x43 : Int) : Link spec_l20Rd_pick_ctx LL (bodyOf Tryd.f34) spec_l20Rd_pick_an ⟨mkE 99 0 [(0, .ptr 0 0), (1, dI x41)], [some (.box [dV x42, dI x43])]⟩ (spec_l20Rd_pick_n1 x41 x42 x43) (fun (t : Int × Int) => (Exit.ret, ⟨mkE 99 0 [(4, dI t.1)], [some (.box [dV x42, dI t.2])]⟩)) := by
  refine Link.of fun K h => ?_
  simp only [spec_l20Rd_pick_n1, wpO_bind, wpO_cond, wpO_map, wpO_some] at h
  exact Awp.of (by kernel_rfl) h

theorem spec_l20Rd_pick_e (x41 : Int) (x42 : List Int) (x43 : Int) {r : AV} {H' : Heap} (h : (Ans.mk _ (spec_l20Rd_pick x41 x42 x43) (fun (t : Int × Int) => (dI t.1, [some (.box [dV x42, dI t.2])])) [] none).run = some (r, H')) : Awp spec_l20Rd_pick_ctx LL (bodyOf Tryd.f34) spec_l20Rd_pick_an ⟨mkE 99 0 [(0, .ptr 0 0), (1, dI x41)], [some (.box [dV x42, dI x43])]⟩ (Ret (tlook tys) Tryd.f34.results.toList r H') :=
  ret_of' (spec_l20Rd_pick_n1_l x41 x42 x43) (by unfold spec_l20Rd_pick; kernel_rfl) (by
  intro t
  exact ret_mk [dI t.1] (by kernel_rfl) (by kernel_rfl) (by kernel_rfl) (by kernel_rfl)) h

def F_spec_l20Rd_pick : Fun := fun avs H =>
  match avs, H with
  | [.ptr 0 0, .dat (.int .i64) x41], [some (.box [.dat (.list (.int .u8)) x42, .dat (.int .i64) x43])] => ⟨_, spec_l20Rd_pick x41 x42 x43, fun (t : Int × Int) => (dI t.1, [some (.box [dV x42, dI t.2])]), [], none⟩
  | _, _ => Ans.no

theorem spec_l20Rd_pick_sound : Sound Tryd.prog 34 F_spec_l20Rd_pick := by
  refine fn_sound' (C := spec_l20Rd_pick_ctx) (c := bodyOf Tryd.f34) (cok_of tys_ok (alln) (alln) (by kernel_rfl)) Tryd.func34 (by kernel_rfl) LL spec_l20Rd_pick_an ?_
  intro avs H r H' h
  unfold F_spec_l20Rd_pick at h
  split at h
  · refine Awp.cast ?_ ?_ ?_ (spec_l20Rd_pick_e _ _ _ h) <;> kernel_rfl
  · simp [Ans.no, Ans.run] at h


/-! loop.example/headtrees/spec.l20Order -/

def spec_l20Order_an : Ann := (.seq (.leaf [0, 1]) (.seq (.leaf [0, 1, 5]) (.seq (.leaf [0, 1, 5, 6]) (.seq (.seq (.leaf [0, 1, 5, 6, 7]) (.block (.loop (.seq (.seq (.leaf [0, 1, 5, 6, 7, 15]) (.cond (.leaf [0, 1, 5, 6, 7]) (.leaf [5]))) (.seq (.block (.seq (.leaf [0, 1, 5, 6, 7, 8]) (.seq (.seq (.leaf [0, 1, 5, 6, 7, 8, 26]) (.cond (.leaf [0, 1, 5, 6, 7, 8]) (.leaf [0, 1, 5, 6, 7, 8]))) (.seq (.leaf [0, 1, 5, 6, 7, 8, 9]) (.seq (.leaf [0, 1, 5, 6, 7, 8, 9]) (.leaf [0, 1, 5, 6, 7])))))) (.leaf [0, 1, 5, 6, 7])))))) (.seq (.leaf [4]) (.leaf [4]))))))

noncomputable def spec_l20Order_ctx : Ctx := ⟨tlook tys, olook [(34, F_spec_l20Rd_pick)], ioF, 1, false, []⟩

theorem spec_l20Order_n1_l (x204 : Int) (x205 : List Int) (x206 : Int) : Link spec_l20Order_ctx LL (Code.seq (cq [0] (bodyOf Tryd.f36)) (Code.seq (cq [0,1] (bodyOf Tryd.f36)) (cq [0,1,1] (bodyOf Tryd.f36)))) (Ann.seq (aq [0] spec_l20Order_an) (Ann.seq (aq [0,1] spec_l20Order_an) (aq [0,1,1] spec_l20Order_an))) ⟨mkE 45 0 [(0, .ptr 0 0), (1, dI x204)], [some (.box [dV x205, dI x206])]⟩ (spec_l20Order_n1 x205 x206) (fun (t : Int × Int) => (Exit.normal, ⟨mkE 45 0 [(0, .ptr 0 0), (1, dI x204), (5, .slc 1), (6, dI t.1)], [some (.box [dV x205, dI t.2]), some (sI ([] : List Int))]⟩)) := by
  refine Link.of fun K h => ?_
  simp only [spec_l20Order_n1, wpO_bind, wpO_cond, wpO_map, wpO_some] at h
  exact Awp.of (by kernel_rfl) h

theorem spec_l20Order_n2_l (x204 : Int) (x209 : Int) (x205 : List Int) (x210 : Int) : Link spec_l20Order_ctx LL (cq [0,0,1,1,1] (bodyOf Tryd.f36)) (aq [0,0,1,1,1] spec_l20Order_an) ⟨mkE 45 0 [(0, .ptr 0 0), (1, dI x204), (5, .slc 1), (6, dI x209)], [some (.box [dV x205, dI x210]), some (sI ([] : List Int))]⟩ (spec_l20Order_n2) (fun (t : Unit) => (Exit.normal, ⟨mkE 45 0 [(0, .ptr 0 0), (1, dI x204), (5, .slc 1), (6, dI x209), (7, dI 1)], [some (.box [dV x205, dI x210]), some (sI ([] : List Int))]⟩)) := by
  refine Link.of fun K h => ?_
  simp only [spec_l20Order_n2, wpO_bind, wpO_cond, wpO_map, wpO_some] at h
  exact Awp.of (by kernel_rfl) h

theorem spec_l20Order_n3_l (x204 : Int) (x209 : Int) (x352 : Int) (x205 : List Int) (x353 : Int) (x354 : List Int) : Link spec_l20Order_ctx LL (cq [0,0,1,0,1,1,1] (bodyOf Tryd.f36)) (aq [0,0,1,0,1,1,1] spec_l20Order_an) ⟨mkE 45 0 [(0, .ptr 0 0), (1, dI x204), (5, .slc 1), (6, dI x209), (7, dI x352)], [some (.box [dV x205, dI x353]), some (sI x354)]⟩ (spec_l20Order_n3 x204 x209 x352 x205 x353 x354) (Sum.elim (fun (t : Int × Int × (List Int)) => (Exit.normal, ⟨mkE 45 0 [(0, .ptr 0 0), (1, dI x204), (5, .slc 1), (6, dI x209), (7, dI t.1)], [some (.box [dV x205, dI t.2.1]), some (sI t.2.2)]⟩)) (fun (t : Int × (List Int)) => ((Exit.exit 0), ⟨mkE 45 0 [(5, .slc 1)], [some (.box [dV x205, dI t.1]), some (sI t.2)]⟩))) := by
  refine Link.of fun K h => ?_
  simp only [spec_l20Order_n3, wpO_bind, wpO_cond, wpO_map, wpO_some] at h
  exact Awp.of (by kernel_rfl) h

def spec_l20Order_n4_l (x204 : Int) (x209 : Int) (x205 : List Int) (x210 : Int) := (link_loop (mk := fun (s : Int × Int × (List Int)) => ⟨mkE 45 0 [(0, .ptr 0 0), (1, dI x204), (5, .slc 1), (6, dI x209), (7, dI s.1)], [some (.box [dV x205, dI s.2.1]), some (sI s.2.2)]⟩) (fin := (fun (t : Int × (List Int)) => ((Exit.exit 0), ⟨mkE 45 0 [(5, .slc 1)], [some (.box [dV x205, dI t.1]), some (sI t.2)]⟩))) (by
  rintro t f K h
  · exact h) (fun s => link_map (spec_l20Order_n3_l x204 x209 s.1 x205 s.2.1 s.2.2) (Sum.elim (fun (t : Int × Int × (List Int)) => Sum.inl (t.1, t.2.1, t.2.2)) (fun (t : Int × (List Int)) => Sum.inr t)) (by
  rintro (t | t)
  · kernel_rfl
  · kernel_rfl)) (1, x210, ([] : List Int)))

def spec_l20Order_n5_l (x204 : Int) (x209 : Int) (x205 : List Int) (x210 : Int) := (link_block (fin2 := (fun (t : Int × (List Int)) => (Exit.normal, ⟨mkE 45 0 [(5, .slc 1)], [some (.box [dV x205, dI t.1]), some (sI t.2)]⟩))) (id := 0) (spec_l20Order_n4_l x204 x209 x205 x210) (fun (t : Int × (List Int)) => (t.1, t.2)) (by
  rintro t K h
  · exact Eq.mp (by kernel_rfl) h))

def spec_l20Order_n6_l (x204 : Int) (x209 : Int) (x205 : List Int) (x210 : Int) := (link_seq (spec_l20Order_n2_l x204 x209 x205 x210) (fun (t : Unit) => (spec_l20Order_n5_l x204 x209 x205 x210)))

theorem spec_l20Order_n7_l (x205 : List Int) (x353 : Int) (x354 : List Int) : Link spec_l20Order_ctx LL (cq [1,1,1,1] (bodyOf Tryd.f36)) (aq [1,1,1,1] spec_l20Order_an) ⟨mkE 45 0 [(5, .slc 1)], [some (.box [dV x205, dI x353]), some (sI x354)]⟩ (spec_l20Order_n7 x353 x354) (fun (t : Int × (List Int)) => (Exit.ret, ⟨mkE 45 0 [(4, .slc 1)], [some (.box [dV x205, dI t.1]), some (sI t.2)]⟩)) := by
  refine Link.of fun K h => ?_
  simp only [spec_l20Order_n7, wpO_bind, wpO_cond, wpO_map, wpO_some] at h
  exact Awp.of (by kernel_rfl) h

def spec_l20Order_n8_l (x204 : Int) (x209 : Int) (x205 : List Int) (x210 : Int) := (link_seq (spec_l20Order_n6_l x204 x209 x205 x210) (fun (t : Int × (List Int)) => (spec_l20Order_n7_l x205 t.1 t.2)))

def spec_l20Order_n9_l (x204 : Int) (x205 : List Int) (x206 : Int) := (link_group (c := (cq [0,1,1] (bodyOf Tryd.f36))) (a := (aq [0,1,1] spec_l20Order_an)) [(cq [0] (bodyOf Tryd.f36)), (cq [0,1] (bodyOf Tryd.f36))] [(aq [0] spec_l20Order_an), (aq [0,1] spec_l20Order_an)] rfl (link_seq (spec_l20Order_n1_l x204 x205 x206) (fun (t : Int × Int) => (spec_l20Order_n8_l x204 t.1 x205 t.2))))

theorem spec_l20Order_e (x204 : Int) (x205 : List Int) (x206 : Int) {r : AV} {H' : Heap} (h : (Ans.mk _ (spec_l20Order x204 x205 x206) (fun (t : Int × (List Int)) => (.slc 1, [some (.box [dV x205, dI t.1]), some (sI t.2)])) [] none).run = some (r, H')) : Awp spec_l20Order_ctx LL (bodyOf Tryd.f36) spec_l20Order_an ⟨mkE 45 0 [(0, .ptr 0 0), (1, dI x204)], [some (.box [dV x205, dI x206])]⟩ (Ret (tlook tys) Tryd.f36.results.toList r H') :=
  ret_of' (Link.cast (by kernel_rfl) (by kernel_rfl) (spec_l20Order_n9_l x204 x205 x206)) (by unfold spec_l20Order; kernel_rfl) (by
  intro t
  exact ret_mk [.slc 1] (by kernel_rfl) (by kernel_rfl) (by kernel_rfl) (by kernel_rfl)) h

def F_spec_l20Order : Fun := fun avs H =>
  match avs, H with
  | [.ptr 0 0, .dat (.int .i64) x204], [some (.box [.dat (.list (.int .u8)) x205, .dat (.int .i64) x206])] => ⟨_, spec_l20Order x204 x205 x206, fun (t : Int × (List Int)) => (.slc 1, [some (.box [dV x205, dI t.1]), some (sI t.2)]), [], none⟩
  | _, _ => Ans.no

theorem spec_l20Order_sound : Sound Tryd.prog 36 F_spec_l20Order := by
  refine fn_sound' (C := spec_l20Order_ctx) (c := bodyOf Tryd.f36) (cok_of tys_ok (allc spec_l20Rd_pick_sound alln) (allc Tryd.call34 alln) (by kernel_rfl)) Tryd.func36 (by kernel_rfl) LL spec_l20Order_an ?_
  intro avs H r H' h
  unfold F_spec_l20Order at h
  split at h
  · refine Awp.cast ?_ ?_ ?_ (spec_l20Order_e _ _ _ h) <;> kernel_rfl
  · simp [Ans.no, Ans.run] at h


/-! (*loop.example/headtrees/spec.l20Rd).odd -/

def spec_l20Rd_odd_an : Ann := (.seq (.leaf [0, 1]) (.seq (.leaf [4]) (.leaf [4])))

noncomputable def spec_l20Rd_odd_ctx : Ctx := ⟨tlook tys, olook [(34, F_spec_l20Rd_pick)], ioF, 1, false, []⟩

theorem spec_l20Rd_odd_n1_l (x661 : Int) (x662 : List Int) (x663 : Int) : Link spec_l20Rd_odd_ctx LL (bodyOf Tryd.f60) spec_l20Rd_odd_an ⟨mkE 15 0 [(0, .ptr 0 0), (1, dI x661)], [some (.box [dV x662, dI x663])]⟩ (spec_l20Rd_odd_n1 x661 x662 x663) (fun (t : Bool × Int) => (Exit.ret, ⟨mkE 15 0 [(4, dB t.1)], [some (.box [dV x662, dI t.2])]⟩)) := by
  refine Link.of fun K h => ?_
  simp only [spec_l20Rd_odd_n1, wpO_bind, wpO_cond, wpO_map, wpO_some] at h
  exact Awp.of (by kernel_rfl) h

theorem spec_l20Rd_odd_e (x661 : Int) (x662 : List Int) (x663 : Int) {r : AV} {H' : Heap} (h : (Ans.mk _ (spec_l20Rd_odd x661 x662 x663) (fun (t : Bool × Int) => (dB t.1, [some (.box [dV x662, dI t.2])])) [] none).run = some (r, H')) : Awp spec_l20Rd_odd_ctx LL (bodyOf Tryd.f60) spec_l20Rd_odd_an ⟨mkE 15 0 [(0, .ptr 0 0), (1, dI x661)], [some (.box [dV x662, dI x663])]⟩ (Ret (tlook tys) Tryd.f60.results.toList r H') :=
  ret_of' (spec_l20Rd_odd_n1_l x661 x662 x663) (by unfold spec_l20Rd_odd; kernel_rfl) (by
  intro t
  exact ret_mk [dB t.1] (by kernel_rfl) (by kernel_rfl) (by kernel_rfl) (by kernel_rfl)) h

def F_spec_l20Rd_odd : Fun := fun avs H =>
  match avs, H with
  | [.ptr 0 0, .dat (.int .i64) x661], [some (.box [.dat (.list (.int .u8)) x662, .dat (.int .i64) x663])] => ⟨_, spec_l20Rd_odd x661 x662 x663, fun (t : Bool × Int) => (dB t.1, [some (.box [dV x662, dI t.2])]), [], none⟩
  | _, _ => Ans.no

theorem spec_l20Rd_odd_sound : Sound Tryd.prog 60 F_spec_l20Rd_odd := by
  refine fn_sound' (C := spec_l20Rd_odd_ctx) (c := bodyOf Tryd.f60) (cok_of tys_ok (allc spec_l20Rd_pick_sound alln) (allc Tryd.call34 alln) (by kernel_rfl)) Tryd.func60 (by kernel_rfl) LL spec_l20Rd_odd_an ?_
  intro avs H r H' h
  unfold F_spec_l20Rd_odd at h
  split at h
  · refine Awp.cast ?_ ?_ ?_ (spec_l20Rd_odd_e _ _ _ h) <;> kernel_rfl
  · simp [Ans.no, Ans.run] at h


/-! loop.example/headtrees/spec.l20Tree -/

def spec_l20Tree_an : Ann := (.seq (.leaf [0, 1]) (.seq (.leaf [0, 1, 5]) (.seq (.leaf [0, 1, 5, 6]) (.seq (.leaf [0, 1, 5, 6, 7]) (.seq (.leaf [0, 1, 5, 6, 7, 8]) (.seq (.seq (.leaf [0, 1, 5, 6, 7, 8, 9]) (.block (.loop (.seq (.seq (.leaf [0, 1, 5, 6, 7, 8, 9, 23]) (.cond (.leaf [0, 1, 5, 6, 7, 8, 9]) (.leaf [0, 1, 5, 7]))) (.seq (.block (.seq (.leaf [0, 1, 5, 6, 7, 8, 9, 10]) (.seq (.seq (.leaf [0, 1, 5, 6, 7, 8, 9, 10, 35]) (.cond (.leaf [0, 1, 5, 6, 7, 8, 9, 10]) (.leaf [0, 1, 5, 6, 7, 8, 9, 10]))) (.draw [] [0, 1, 2, 3, 4, 5, 6, 7, 8, 9, 10, 11] [] [0, 1, 5, 6, 7, 8, 9])))) (.leaf [0, 1, 5, 6, 7, 8, 9])))))) (.seq (.seq (.leaf [0, 5, 7, 51]) (.cond (.seq (.leaf [0, 5, 7, 53]) (.block (.seq (.leaf [0, 5, 7, 53, 63]) (.cond (.seq (.leaf [4]) (.leaf [4])) (.seq (.leaf [0, 5, 7, 53, 66]) (.cond (.seq (.leaf [4]) (.leaf [4])) (.seq (.leaf [0, 5, 7, 69]) (.cond (.seq (.leaf [7]) (.seq (.leaf [4]) (.leaf [4]))) (.leaf [7]))))))))) (.leaf [7]))) (.seq (.leaf [4]) (.leaf [4])))))))))

noncomputable def spec_l20Tree_ctx : Ctx := ⟨tlook tys, olook [(34, F_spec_l20Rd_pick), (36, F_spec_l20Order), (60, F_spec_l20Rd_odd)], ioF, 1, false, []⟩

theorem spec_l20Tree_n1_l (x37 : Int) (x38 : List Int) (x39 : Int) : Link spec_l20Tree_ctx LL (Code.seq (cq [0] (bodyOf Tryd.f33)) (Code.seq (cq [0,1] (bodyOf Tryd.f33)) (Code.seq (cq [0,1,1] (bodyOf Tryd.f33)) (Code.seq (cq [0,1,1,1] (bodyOf Tryd.f33)) (cq [0,1,1,1,1] (bodyOf Tryd.f33)))))) (Ann.seq (aq [0] spec_l20Tree_an) (Ann.seq (aq [0,1] spec_l20Tree_an) (Ann.seq (aq [0,1,1] spec_l20Tree_an) (Ann.seq (aq [0,1,1,1] spec_l20Tree_an) (aq [0,1,1,1,1] spec_l20Tree_an))))) ⟨mkE 80 0 [(0, .ptr 0 0), (1, dI x37)], [some (.box [dV x38, dI x39])]⟩ (spec_l20Tree_n1 x38 x39) (fun (t : Int × Int × Int × (List Int) × (List Int)) => (Exit.normal, ⟨mkE 80 0 [(0, .ptr 0 0), (1, dI x37), (5, dI t.1), (6, .slc 1), (7, .slc 2), (8, dI t.2.1)], [some (.box [dV x38, dI t.2.2.1]), some (sI t.2.2.2.1), some (sI t.2.2.2.2)]⟩)) := by
  refine Link.of fun K h => ?_
  simp only [spec_l20Tree_n1, wpO_bind, wpO_cond, wpO_map, wpO_some] at h
  exact Awp.of (by kernel_rfl) h

theorem spec_l20Tree_n2_l (x37 : Int) (x511 : Int) (x518 : Int) (x38 : List Int) (x519 : Int) (x514 : List Int) (x516 : List Int) : Link spec_l20Tree_ctx LL (cq [0,0,1,1,1,1,1] (bodyOf Tryd.f33)) (aq [0,0,1,1,1,1,1] spec_l20Tree_an) ⟨mkE 80 0 [(0, .ptr 0 0), (1, dI x37), (5, dI x511), (6, .slc 1), (7, .slc 2), (8, dI x518)], [some (.box [dV x38, dI x519]), some (sI x514), some (sI x516)]⟩ (spec_l20Tree_n2) (fun (t : Unit) => (Exit.normal, ⟨mkE 80 0 [(0, .ptr 0 0), (1, dI x37), (5, dI x511), (6, .slc 1), (7, .slc 2), (8, dI x518), (9, dI 1)], [some (.box [dV x38, dI x519]), some (sI x514), some (sI x516)]⟩)) := by
  refine Link.of fun K h => ?_
  simp only [spec_l20Tree_n2, wpO_bind, wpO_cond, wpO_map, wpO_some] at h
  exact Awp.of (by kernel_rfl) h

theorem spec_l20Tree_n3_l (x37 : Int) (x511 : Int) (x518 : Int) (x589 : Int) (x38 : List Int) (x590 : Int) (x514 : List Int) (x591 : List Int) : Link spec_l20Tree_ctx LL (cq [0,0,1,0,1,1,1,1,1] (bodyOf Tryd.f33)) (aq [0,0,1,0,1,1,1,1,1] spec_l20Tree_an) ⟨mkE 80 0 [(0, .ptr 0 0), (1, dI x37), (5, dI x511), (6, .slc 1), (7, .slc 2), (8, dI x518), (9, dI x589)], [some (.box [dV x38, dI x590]), some (sI x514), some (sI x591)]⟩ (spec_l20Tree_n3 x511 x518 x589 x38 x590 x514 x591) (Sum.elim (fun (t : Int × Int × (List Int)) => (Exit.normal, ⟨mkE 80 0 [(0, .ptr 0 0), (1, dI x37), (5, dI x511), (6, .slc 1), (7, .slc 2), (8, dI x518), (9, dI t.1)], [some (.box [dV x38, dI t.2.1]), some (sI x514), some (sI t.2.2)]⟩)) (fun (t : Int × (List Int)) => ((Exit.exit 0), ⟨mkE 80 0 [(0, .ptr 0 0), (1, dI x37), (5, dI x511), (7, .slc 1)], [some (.box [dV x38, dI t.1]), some (sI t.2)]⟩))) := by
  refine Link.of fun K h => ?_
  simp only [spec_l20Tree_n3, wpO_bind, wpO_cond, wpO_map, wpO_some] at h
  exact Awp.of (by kernel_rfl) h

def spec_l20Tree_n4_l (x37 : Int) (x511 : Int) (x518 : Int) (x38 : List Int) (x519 : Int) (x514 : List Int) (x516 : List Int) := (link_loop (mk := fun (s : Int × Int × (List Int)) => ⟨mkE 80 0 [(0, .ptr 0 0), (1, dI x37), (5, dI x511), (6, .slc 1), (7, .slc 2), (8, dI x518), (9, dI s.1)], [some (.box [dV x38, dI s.2.1]), some (sI x514), some (sI s.2.2)]⟩) (fin := (fun (t : Int × (List Int)) => ((Exit.exit 0), ⟨mkE 80 0 [(0, .ptr 0 0), (1, dI x37), (5, dI x511), (7, .slc 1)], [some (.box [dV x38, dI t.1]), some (sI t.2)]⟩))) (by
  rintro t f K h
  · exact h) (fun s => link_map (spec_l20Tree_n3_l x37 x511 x518 s.1 x38 s.2.1 x514 s.2.2) (Sum.elim (fun (t : Int × Int × (List Int)) => Sum.inl (t.1, t.2.1, t.2.2)) (fun (t : Int × (List Int)) => Sum.inr t)) (by
  rintro (t | t)
  · kernel_rfl
  · kernel_rfl)) (1, x519, x516))

def spec_l20Tree_n5_l (x37 : Int) (x511 : Int) (x518 : Int) (x38 : List Int) (x519 : Int) (x514 : List Int) (x516 : List Int) := (link_block (fin2 := (fun (t : Int × (List Int)) => (Exit.normal, ⟨mkE 80 0 [(0, .ptr 0 0), (1, dI x37), (5, dI x511), (7, .slc 1)], [some (.box [dV x38, dI t.1]), some (sI t.2)]⟩))) (id := 0) (spec_l20Tree_n4_l x37 x511 x518 x38 x519 x514 x516) (fun (t : Int × (List Int)) => (t.1, t.2)) (by
  rintro t K h
  · exact Eq.mp (by kernel_rfl) h))

def spec_l20Tree_n6_l (x37 : Int) (x511 : Int) (x518 : Int) (x38 : List Int) (x519 : Int) (x514 : List Int) (x516 : List Int) := (link_seq (spec_l20Tree_n2_l x37 x511 x518 x38 x519 x514 x516) (fun (t : Unit) => (spec_l20Tree_n5_l x37 x511 x518 x38 x519 x514 x516)))

theorem spec_l20Tree_n7_l (x37 : Int) (x511 : Int) (x38 : List Int) (x590 : Int) (x591 : List Int) : Link spec_l20Tree_ctx LL (cq [1,1,1,1,1,1] (bodyOf Tryd.f33)) (aq [1,1,1,1,1,1] spec_l20Tree_an) ⟨mkE 80 0 [(0, .ptr 0 0), (1, dI x37), (5, dI x511), (7, .slc 1)], [some (.box [dV x38, dI x590]), some (sI x591)]⟩ (spec_l20Tree_n7 x37 x511 x38 x590 x591) (fun (t : Int × (List Int)) => (Exit.ret, ⟨mkE 80 0 [(4, .slc 1)], [some (.box [dV x38, dI t.1]), some (sI t.2)]⟩)) := by
  refine Link.of fun K h => ?_
  simp only [spec_l20Tree_n7, wpO_bind, wpO_cond, wpO_map, wpO_some] at h
  exact Awp.of (by kernel_rfl) h

def spec_l20Tree_n8_l (x37 : Int) (x511 : Int) (x518 : Int) (x38 : List Int) (x519 : Int) (x514 : List Int) (x516 : List Int) := (link_seq (spec_l20Tree_n6_l x37 x511 x518 x38 x519 x514 x516) (fun (t : Int × (List Int)) => (spec_l20Tree_n7_l x37 x511 x38 t.1 t.2)))

def spec_l20Tree_n9_l (x37 : Int) (x38 : List Int) (x39 : Int) := (link_group (c := (cq [0,1,1,1,1] (bodyOf Tryd.f33))) (a := (aq [0,1,1,1,1] spec_l20Tree_an)) [(cq [0] (bodyOf Tryd.f33)), (cq [0,1] (bodyOf Tryd.f33)), (cq [0,1,1] (bodyOf Tryd.f33)), (cq [0,1,1,1] (bodyOf Tryd.f33))] [(aq [0] spec_l20Tree_an), (aq [0,1] spec_l20Tree_an), (aq [0,1,1] spec_l20Tree_an), (aq [0,1,1,1] spec_l20Tree_an)] rfl (link_seq (spec_l20Tree_n1_l x37 x38 x39) (fun (t : Int × Int × Int × (List Int) × (List Int)) => (spec_l20Tree_n8_l x37 t.1 t.2.1 x38 t.2.2.1 t.2.2.2.1 t.2.2.2.2))))

theorem spec_l20Tree_e (x37 : Int) (x38 : List Int) (x39 : Int) {r : AV} {H' : Heap} (h : (Ans.mk _ (spec_l20Tree x37 x38 x39) (fun (t : Int × (List Int)) => (.slc 1, [some (.box [dV x38, dI t.1]), some (sI t.2)])) [] none).run = some (r, H')) : Awp spec_l20Tree_ctx LL (bodyOf Tryd.f33) spec_l20Tree_an ⟨mkE 80 0 [(0, .ptr 0 0), (1, dI x37)], [some (.box [dV x38, dI x39])]⟩ (Ret (tlook tys) Tryd.f33.results.toList r H') :=
  ret_of' (Link.cast (by kernel_rfl) (by kernel_rfl) (spec_l20Tree_n9_l x37 x38 x39)) (by unfold spec_l20Tree; kernel_rfl) (by
  intro t
  exact ret_mk [.slc 1] (by kernel_rfl) (by kernel_rfl) (by kernel_rfl) (by kernel_rfl)) h

def F_spec_l20Tree : Fun := fun avs H =>
  match avs, H with
  | [.ptr 0 0, .dat (.int .i64) x37], [some (.box [.dat (.list (.int .u8)) x38, .dat (.int .i64) x39])] => ⟨_, spec_l20Tree x37 x38 x39, fun (t : Int × (List Int)) => (.slc 1, [some (.box [dV x38, dI t.1]), some (sI t.2)]), [], none⟩
  | _, _ => Ans.no

theorem spec_l20Tree_sound : Sound Tryd.prog 33 F_spec_l20Tree := by
  refine fn_sound' (C := spec_l20Tree_ctx) (c := bodyOf Tryd.f33) (cok_of tys_ok (allc spec_l20Rd_pick_sound (allc spec_l20Order_sound (allc spec_l20Rd_odd_sound alln))) (allc Tryd.call34 (allc Tryd.call36 (allc Tryd.call60 alln))) (by kernel_rfl)) Tryd.func33 (by kernel_rfl) LL spec_l20Tree_an ?_
  intro avs H r H' h
  unfold F_spec_l20Tree at h
  split at h
  · refine Awp.cast ?_ ?_ ?_ (spec_l20Tree_e _ _ _ h) <;> kernel_rfl
  · simp [Ans.no, Ans.run] at h


/-! loop.example/headtrees/spec.l1In -/

def spec_l1In_an : Ann := (.seq (.leaf [0, 1, 2]) (.seq (.leaf [6]) (.leaf [6])))

noncomputable def spec_l1In_ctx : Ctx := ⟨tlook tys, olook [], ioF, 0, false, []⟩

theorem spec_l1In_n1_l (x780 : Int) (x781 : Int) (x782 : Int) : Link spec_l1In_ctx LL (bodyOf Tryd.f61) spec_l1In_an ⟨mkE 15 0 [(0, dI x780), (1, dI x781), (2, dI x782)], []⟩ (spec_l1In_n1 x780 x781 x782) (fun (t : Bool) => (Exit.ret, ⟨mkE 15 0 [(6, dB t)], []⟩)) := by
  refine Link.of fun K h => ?_
  simp only [spec_l1In_n1, wpO_bind, wpO_cond, wpO_map, wpO_some] at h
  exact Awp.of (by kernel_rfl) h

theorem spec_l1In_e (x780 : Int) (x781 : Int) (x782 : Int) {r : AV} {H' : Heap} (h : (Ans.mk _ (spec_l1In x780 x781 x782) (fun (t : Bool) => (dB t, [])) [] none).run = some (r, H')) : Awp spec_l1In_ctx LL (bodyOf Tryd.f61) spec_l1In_an ⟨mkE 15 0 [(0, dI x780), (1, dI x781), (2, dI x782)], []⟩ (Ret (tlook tys) Tryd.f61.results.toList r H') :=
  ret_of' (spec_l1In_n1_l x780 x781 x782) (by unfold spec_l1In; kernel_rfl) (by
  intro t
  exact ret_mk [dB t] (by kernel_rfl) (by kernel_rfl) (by kernel_rfl) (by kernel_rfl)) h

def F_spec_l1In : Fun := fun avs H =>
  match avs, H with
  | [.dat (.int .i64) x780, .dat (.int .i64) x781, .dat (.int .i64) x782], [] => ⟨_, spec_l1In x780 x781 x782, fun (t : Bool) => (dB t, []), [], none⟩
  | _, _ => Ans.no

theorem spec_l1In_sound : Sound Tryd.prog 61 F_spec_l1In := by
  refine fn_sound' (C := spec_l1In_ctx) (c := bodyOf Tryd.f61) (cok_of tys_ok (alln) (alln) (by kernel_rfl)) Tryd.func61 (by kernel_rfl) LL spec_l1In_an ?_
  intro avs H r H' h
  unfold F_spec_l1In at h
  split at h
  · refine Awp.cast ?_ ?_ ?_ (spec_l1In_e _ _ _ h) <;> kernel_rfl
  · simp [Ans.no, Ans.run] at h


/-! loop.example/headtrees/spec.TreeOk -/

def spec_TreeOk_an : Ann := (.seq (.leaf [0]) (.seq (.leaf [0, 3]) (.seq (.seq (.leaf [0, 3, 12]) (.cond (.seq (.leaf [2]) (.leaf [2])) (.leaf [0, 3]))) (.seq (.leaf [0, 3, 4]) (.seq (.seq (.leaf [0, 3, 4, 5]) (.block (.loop (.seq (.seq (.leaf [0, 3, 4, 5, 15]) (.cond (.leaf [0, 3, 4, 5]) (.leaf [4]))) (.seq (.block (.seq (.seq (.leaf [0, 3, 4, 5, 33]) (.cond (.seq (.leaf [2]) (.leaf [2])) (.leaf [0, 3, 4, 5]))) (.seq (.seq (.leaf [0, 3, 4, 5, 38]) (.cond (.leaf [0, 3, 4, 5]) (.leaf [0, 3, 4, 5]))) (.seq (.leaf [0, 3, 4, 5, 6]) (.seq (.seq (.leaf [0, 3, 4, 5, 6, 7]) (.block (.loop (.seq (.seq (.leaf [0, 3, 4, 5, 6, 7, 49]) (.cond (.leaf [0, 3, 4, 5, 6, 7]) (.leaf [0, 3, 4, 5, 6]))) (.seq (.block (.seq (.leaf [0, 3, 4, 5, 6, 7]) (.seq (.leaf [0, 3, 4, 5, 6, 7, 60]) (.cond (.seq (.leaf [2]) (.leaf [2])) (.leaf [0, 3, 4, 5, 6, 7]))))) (.leaf [0, 3, 4, 5, 6, 7])))))) (.seq (.leaf [0, 3, 4, 5, 62]) (.cond (.seq (.leaf [2]) (.leaf [2])) (.leaf [0, 3, 4, 5])))))))) (.leaf [0, 3, 4, 5])))))) (.seq (.leaf [2]) (.leaf [2])))))))

noncomputable def spec_TreeOk_ctx : Ctx := ⟨tlook tys, olook [(61, F_spec_l1In)], ioF, 0, false, []⟩

theorem spec_TreeOk_n1_l (x776 : List Int) : Link spec_TreeOk_ctx LL (Code.seq (cq [0] (bodyOf Tryd.f35)) (Code.seq (cq [0,1] (bodyOf Tryd.f35)) (Code.seq (cq [0,1,1] (bodyOf Tryd.f35)) (cq [0,1,1,1] (bodyOf Tryd.f35))))) (Ann.seq (aq [0] spec_TreeOk_an) (Ann.seq (aq [0,1] spec_TreeOk_an) (Ann.seq (aq [0,1,1] spec_TreeOk_an) (aq [0,1,1,1] spec_TreeOk_an)))) ⟨mkE 65 0 [(0, dL x776)], []⟩ (spec_TreeOk_n1 x776) (Sum.elim (fun (t : Int) => (Exit.normal, ⟨mkE 65 0 [(0, dL x776), (3, dI t), (4, dI 0)], []⟩)) (fun (t : Bool) => (Exit.ret, ⟨mkE 65 0 [(2, dB t)], []⟩))) := by
  refine Link.of fun K h => ?_
  simp only [spec_TreeOk_n1, wpO_bind, wpO_cond, wpO_map, wpO_some] at h
  exact Awp.of (by kernel_rfl) h

theorem spec_TreeOk_n2_l (x776 : List Int) (x790 : Int) : Link spec_TreeOk_ctx LL (cq [0,0,1,1,1,1] (bodyOf Tryd.f35)) (aq [0,0,1,1,1,1] spec_TreeOk_an) ⟨mkE 65 0 [(0, dL x776), (3, dI x790), (4, dI 0)], []⟩ (spec_TreeOk_n2) (fun (t : Unit) => (Exit.normal, ⟨mkE 65 0 [(0, dL x776), (3, dI x790), (4, dI 0), (5, dI 0)], []⟩)) := by
  refine Link.of fun K h => ?_
  simp only [spec_TreeOk_n2, wpO_bind, wpO_cond, wpO_map, wpO_some] at h
  exact Awp.of (by kernel_rfl) h

theorem spec_TreeOk_n3_l (x776 : List Int) (x790 : Int) (x857 : Int) (x858 : Int) : Link spec_TreeOk_ctx LL (cq [0,0,0,1,0,1,1,1,1] (bodyOf Tryd.f35)) (aq [0,0,0,1,0,1,1,1,1] spec_TreeOk_an) ⟨mkE 65 0 [(0, dL x776), (3, dI x790), (4, dI x857), (5, dI x858)], []⟩ (spec_TreeOk_n3 x790 x857 x858) (Sum.elim (fun (t : Unit) => (Exit.normal, ⟨mkE 65 0 [(0, dL x776), (3, dI x790), (4, dI x857), (5, dI x858)], []⟩)) (fun (t : Int) => ((Exit.exit 0), ⟨mkE 65 0 [(4, dI t)], []⟩))) := by
  refine Link.of fun K h => ?_
  simp only [spec_TreeOk_n3, wpO_bind, wpO_cond, wpO_map, wpO_some] at h
  exact Awp.of (by kernel_rfl) h

theorem spec_TreeOk_n4_l (x776 : List Int) (x790 : Int) (x857 : Int) (x858 : Int) : Link spec_TreeOk_ctx LL (Code.seq (cq [0,0,0,1,0,0,1,0,1,1,1,1] (bodyOf Tryd.f35)) (Code.seq (cq [0,1,0,0,1,0,0,1,0,1,1,1,1] (bodyOf Tryd.f35)) (cq [0,1,1,0,0,1,0,0,1,0,1,1,1,1] (bodyOf Tryd.f35)))) (Ann.seq (aq [0,0,0,1,0,0,1,0,1,1,1,1] spec_TreeOk_an) (Ann.seq (aq [0,1,0,0,1,0,0,1,0,1,1,1,1] spec_TreeOk_an) (aq [0,1,1,0,0,1,0,0,1,0,1,1,1,1] spec_TreeOk_an))) ⟨mkE 65 0 [(0, dL x776), (3, dI x790), (4, dI x857), (5, dI x858)], []⟩ (spec_TreeOk_n4 x776 x790 x857 x858) (Sum.elim (fun (t : Int × Int) => (Exit.normal, ⟨mkE 65 0 [(0, dL x776), (3, dI x790), (4, dI t.1), (5, dI x858), (6, dI t.2)], []⟩)) (fun (t : Bool) => (Exit.ret, ⟨mkE 65 0 [(2, dB t)], []⟩))) := by
  refine Link.of fun K h => ?_
  simp only [spec_TreeOk_n4, wpO_bind, wpO_cond, wpO_map, wpO_some] at h
  exact Awp.of (by kernel_rfl) h

theorem spec_TreeOk_n5_l (x776 : List Int) (x790 : Int) (x886 : Int) (x858 : Int) (x887 : Int) : Link spec_TreeOk_ctx LL (cq [0,0,1,1,1,0,0,1,0,0,1,0,1,1,1,1] (bodyOf Tryd.f35)) (aq [0,0,1,1,1,0,0,1,0,0,1,0,1,1,1,1] spec_TreeOk_an) ⟨mkE 65 0 [(0, dL x776), (3, dI x790), (4, dI x886), (5, dI x858), (6, dI x887)], []⟩ (spec_TreeOk_n5) (fun (t : Unit) => (Exit.normal, ⟨mkE 65 0 [(0, dL x776), (3, dI x790), (4, dI x886), (5, dI x858), (6, dI x887), (7, dI 0)], []⟩)) := by
  refine Link.of fun K h => ?_
  simp only [spec_TreeOk_n5, wpO_bind, wpO_cond, wpO_map, wpO_some] at h
  exact Awp.of (by kernel_rfl) h

theorem spec_TreeOk_n6_l (x776 : List Int) (x790 : Int) (x886 : Int) (x858 : Int) (x903 : Int) (x904 : Int) : Link spec_TreeOk_ctx LL (cq [0,0,1,0,1,1,1,0,0,1,0,0,1,0,1,1,1,1] (bodyOf Tryd.f35)) (aq [0,0,1,0,1,1,1,0,0,1,0,0,1,0,1,1,1,1] spec_TreeOk_an) ⟨mkE 65 0 [(0, dL x776), (3, dI x790), (4, dI x886), (5, dI x858), (6, dI x903), (7, dI x904)], []⟩ (spec_TreeOk_n6 x776 x790 x903 x904) (Sum.elim (fun (t : Int × Int) => (Exit.normal, ⟨mkE 65 0 [(0, dL x776), (3, dI x790), (4, dI x886), (5, dI x858), (6, dI t.1), (7, dI t.2)], []⟩)) (Sum.elim (fun (t : Bool) => (Exit.ret, ⟨mkE 65 0 [(2, dB t)], []⟩)) (fun (t : Int) => ((Exit.exit 2), ⟨mkE 65 0 [(0, dL x776), (3, dI x790), (4, dI x886), (5, dI x858), (6, dI t)], []⟩)))) := by
  refine Link.of fun K h => ?_
  simp only [spec_TreeOk_n6, wpO_bind, wpO_cond, wpO_map, wpO_some] at h
  exact Awp.of (by kernel_rfl) h

def spec_TreeOk_n7_l (x776 : List Int) (x790 : Int) (x886 : Int) (x858 : Int) (x887 : Int) := (link_loop (mk := fun (s : Int × Int) => ⟨mkE 65 0 [(0, dL x776), (3, dI x790), (4, dI x886), (5, dI x858), (6, dI s.1), (7, dI s.2)], []⟩) (fin := (Sum.elim (fun (t : Bool) => (Exit.ret, ⟨mkE 65 0 [(2, dB t)], []⟩)) (fun (t : Int) => ((Exit.exit 2), ⟨mkE 65 0 [(0, dL x776), (3, dI x790), (4, dI x886), (5, dI x858), (6, dI t)], []⟩)))) (by
  rintro (t | t) f K h
  · exact h
  · exact h) (fun s => link_map (spec_TreeOk_n6_l x776 x790 x886 x858 s.1 s.2) (Sum.elim (fun (t : Int × Int) => Sum.inl (t.1, t.2)) (Sum.elim (fun (t : Bool) => Sum.inr (Sum.inl t)) (fun (t : Int) => Sum.inr (Sum.inr t)))) (by
  rintro (t | t | t)
  · kernel_rfl
  · kernel_rfl
  · kernel_rfl)) (x887, 0))

def spec_TreeOk_n8_l (x776 : List Int) (x790 : Int) (x886 : Int) (x858 : Int) (x887 : Int) := (link_block (fin2 := (Sum.elim (fun (t : Int) => (Exit.normal, ⟨mkE 65 0 [(0, dL x776), (3, dI x790), (4, dI x886), (5, dI x858), (6, dI t)], []⟩)) (fun (t : Bool) => (Exit.ret, ⟨mkE 65 0 [(2, dB t)], []⟩)))) (id := 2) (spec_TreeOk_n7_l x776 x790 x886 x858 x887) (Sum.elim (fun (t : Bool) => (Sum.inr t)) (fun (t : Int) => (Sum.inl t))) (by
  rintro (t | t) K h
  · exact Eq.mp (by kernel_rfl) h
  · exact Eq.mp (by kernel_rfl) h))

def spec_TreeOk_n9_l (x776 : List Int) (x790 : Int) (x886 : Int) (x858 : Int) (x887 : Int) := (link_seq (spec_TreeOk_n5_l x776 x790 x886 x858 x887) (fun (t : Unit) => (spec_TreeOk_n8_l x776 x790 x886 x858 x887)))

theorem spec_TreeOk_n10_l (x776 : List Int) (x790 : Int) (x886 : Int) (x858 : Int) (x903 : Int) : Link spec_TreeOk_ctx LL (cq [1,1,1,1,0,0,1,0,0,1,0,1,1,1,1] (bodyOf Tryd.f35)) (aq [1,1,1,1,0,0,1,0,0,1,0,1,1,1,1] spec_TreeOk_an) ⟨mkE 65 0 [(0, dL x776), (3, dI x790), (4, dI x886), (5, dI x858), (6, dI x903)], []⟩ (spec_TreeOk_n10 x903) (Sum.elim (fun (t : Unit) => (Exit.normal, ⟨mkE 65 0 [(0, dL x776), (3, dI x790), (4, dI x886), (5, dI x858)], []⟩)) (fun (t : Bool) => (Exit.ret, ⟨mkE 65 0 [(2, dB t)], []⟩))) := by
  refine Link.of fun K h => ?_
  simp only [spec_TreeOk_n10, wpO_bind, wpO_cond, wpO_map, wpO_some] at h
  exact Awp.of (by kernel_rfl) h

def spec_TreeOk_n11_l (x776 : List Int) (x790 : Int) (x886 : Int) (x858 : Int) (x887 : Int) := (link_seq2 (spec_TreeOk_n9_l x776 x790 x886 x858 x887) (fun (t : Int) => (spec_TreeOk_n10_l x776 x790 x886 x858 t)) (fun (t : Bool) => (Sum.inr t)) (by
  rintro t
  · kernel_rfl) (by
  rintro t f K h
  · exact h))

def spec_TreeOk_n12_l (x776 : List Int) (x790 : Int) (x857 : Int) (x858 : Int) := (link_group (c := (cq [0,1,1,0,0,1,0,0,1,0,1,1,1,1] (bodyOf Tryd.f35))) (a := (aq [0,1,1,0,0,1,0,0,1,0,1,1,1,1] spec_TreeOk_an)) [(cq [0,0,0,1,0,0,1,0,1,1,1,1] (bodyOf Tryd.f35)), (cq [0,1,0,0,1,0,0,1,0,1,1,1,1] (bodyOf Tryd.f35))] [(aq [0,0,0,1,0,0,1,0,1,1,1,1] spec_TreeOk_an), (aq [0,1,0,0,1,0,0,1,0,1,1,1,1] spec_TreeOk_an)] rfl (link_seq2 (spec_TreeOk_n4_l x776 x790 x857 x858) (fun (t : Int × Int) => (link_map (fin2 := (Sum.elim (fun (t : Int) => (Exit.normal, ⟨mkE 65 0 [(0, dL x776), (3, dI x790), (4, dI t), (5, dI x858)], []⟩)) (fun (t : Bool) => (Exit.ret, ⟨mkE 65 0 [(2, dB t)], []⟩)))) (spec_TreeOk_n11_l x776 x790 t.1 x858 t.2) (Sum.elim (fun (u : Unit) => (Sum.inl t.1)) (fun (u : Bool) => (Sum.inr u))) (by
  rintro (t | t)
  · kernel_rfl
  · kernel_rfl))) (fun (t : Bool) => (Sum.inr t)) (by
  rintro t
  · kernel_rfl) (by
  rintro t f K h
  · exact h)))

def spec_TreeOk_n13_l (x776 : List Int) (x790 : Int) (x857 : Int) (x858 : Int) := (link_block (fin2 := (Sum.elim (fun (t : Int) => (Exit.normal, ⟨mkE 65 0 [(0, dL x776), (3, dI x790), (4, dI t), (5, dI x858)], []⟩)) (fun (t : Bool) => (Exit.ret, ⟨mkE 65 0 [(2, dB t)], []⟩)))) (id := 1) (spec_TreeOk_n12_l x776 x790 x857 x858) (Sum.elim (fun (t : Int) => (Sum.inl t)) (fun (t : Bool) => (Sum.inr t))) (by
  rintro (t | t) K h
  · exact Eq.mp (by kernel_rfl) h
  · exact Eq.mp (by kernel_rfl) h))

theorem spec_TreeOk_n14_l (x776 : List Int) (x790 : Int) (x886 : Int) (x858 : Int) : Link spec_TreeOk_ctx LL (cq [1,1,0,0,1,0,1,1,1,1] (bodyOf Tryd.f35)) (aq [1,1,0,0,1,0,1,1,1,1] spec_TreeOk_an) ⟨mkE 65 0 [(0, dL x776), (3, dI x790), (4, dI x886), (5, dI x858)], []⟩ (spec_TreeOk_n14 x858) (fun (t : Int) => (Exit.normal, ⟨mkE 65 0 [(0, dL x776), (3, dI x790), (4, dI x886), (5, dI t)], []⟩)) := by
  refine Link.of fun K h => ?_
  simp only [spec_TreeOk_n14, wpO_bind, wpO_cond, wpO_map, wpO_some] at h
  exact Awp.of (by kernel_rfl) h

def spec_TreeOk_n15_l (x776 : List Int) (x790 : Int) (x857 : Int) (x858 : Int) := (link_seq2 (spec_TreeOk_n13_l x776 x790 x857 x858) (fun (t : Int) => (link_map (fin2 := (Sum.elim (fun (t : Int × Int) => (Exit.normal, ⟨mkE 65 0 [(0, dL x776), (3, dI x790), (4, dI t.1), (5, dI t.2)], []⟩)) (fun (t : Bool) => (Exit.ret, ⟨mkE 65 0 [(2, dB t)], []⟩)))) (spec_TreeOk_n14_l x776 x790 t x858) (fun (u : Int) => (Sum.inl (t, u))) (by
  rintro t
  · kernel_rfl))) (fun (t : Bool) => (Sum.inr t)) (by
  rintro t
  · kernel_rfl) (by
  rintro t f K h
  · exact h))

def spec_TreeOk_n16_l (x776 : List Int) (x790 : Int) (x857 : Int) (x858 : Int) := (link_seq2 (spec_TreeOk_n3_l x776 x790 x857 x858) (fun (t : Unit) => (link_map (fin2 := (Sum.elim (fun (t : Int × Int) => (Exit.normal, ⟨mkE 65 0 [(0, dL x776), (3, dI x790), (4, dI t.1), (5, dI t.2)], []⟩)) (Sum.elim (fun (t : Bool) => (Exit.ret, ⟨mkE 65 0 [(2, dB t)], []⟩)) (fun (t : Int) => ((Exit.exit 0), ⟨mkE 65 0 [(4, dI t)], []⟩))))) (spec_TreeOk_n15_l x776 x790 x857 x858) (Sum.elim (fun (t : Int × Int) => (Sum.inl (t.1, t.2))) (fun (t : Bool) => (Sum.inr (Sum.inl t)))) (by
  rintro (t | t)
  · kernel_rfl
  · kernel_rfl))) (fun (t : Int) => (Sum.inr (Sum.inr t))) (by
  rintro t
  · kernel_rfl) (by
  rintro t f K h
  · exact h))

def spec_TreeOk_n17_l (x776 : List Int) (x790 : Int) := (link_loop (mk := fun (s : Int × Int) => ⟨mkE 65 0 [(0, dL x776), (3, dI x790), (4, dI s.1), (5, dI s.2)], []⟩) (fin := (Sum.elim (fun (t : Bool) => (Exit.ret, ⟨mkE 65 0 [(2, dB t)], []⟩)) (fun (t : Int) => ((Exit.exit 0), ⟨mkE 65 0 [(4, dI t)], []⟩)))) (by
  rintro (t | t) f K h
  · exact h
  · exact h) (fun s => link_map (spec_TreeOk_n16_l x776 x790 s.1 s.2) (Sum.elim (fun (t : Int × Int) => Sum.inl (t.1, t.2)) (Sum.elim (fun (t : Bool) => Sum.inr (Sum.inl t)) (fun (t : Int) => Sum.inr (Sum.inr t)))) (by
  rintro (t | t | t)
  · kernel_rfl
  · kernel_rfl
  · kernel_rfl)) (0, 0))

def spec_TreeOk_n18_l (x776 : List Int) (x790 : Int) := (link_block (fin2 := (Sum.elim (fun (t : Int) => (Exit.normal, ⟨mkE 65 0 [(4, dI t)], []⟩)) (fun (t : Bool) => (Exit.ret, ⟨mkE 65 0 [(2, dB t)], []⟩)))) (id := 0) (spec_TreeOk_n17_l x776 x790) (Sum.elim (fun (t : Bool) => (Sum.inr t)) (fun (t : Int) => (Sum.inl t))) (by
  rintro (t | t) K h
  · exact Eq.mp (by kernel_rfl) h
  · exact Eq.mp (by kernel_rfl) h))

def spec_TreeOk_n19_l (x776 : List Int) (x790 : Int) := (link_seq (spec_TreeOk_n2_l x776 x790) (fun (t : Unit) => (spec_TreeOk_n18_l x776 x790)))

theorem spec_TreeOk_n20_l (x857 : Int) : Link spec_TreeOk_ctx LL (cq [1,1,1,1,1] (bodyOf Tryd.f35)) (aq [1,1,1,1,1] spec_TreeOk_an) ⟨mkE 65 0 [(4, dI x857)], []⟩ (spec_TreeOk_n20 x857) (fun (t : Bool) => (Exit.ret, ⟨mkE 65 0 [(2, dB t)], []⟩)) := by
  refine Link.of fun K h => ?_
  simp only [spec_TreeOk_n20, wpO_bind, wpO_cond, wpO_map, wpO_some] at h
  exact Awp.of (by kernel_rfl) h

def spec_TreeOk_n21_l (x776 : List Int) (x790 : Int) := (link_seq2 (spec_TreeOk_n19_l x776 x790) (fun (t : Int) => (spec_TreeOk_n20_l t)) (fun (t : Bool) => t) (by
  rintro t
  · kernel_rfl) (by
  rintro t f K h
  · exact h))

def spec_TreeOk_n22_l (x776 : List Int) := (link_group (c := (cq [0,1,1,1] (bodyOf Tryd.f35))) (a := (aq [0,1,1,1] spec_TreeOk_an)) [(cq [0] (bodyOf Tryd.f35)), (cq [0,1] (bodyOf Tryd.f35)), (cq [0,1,1] (bodyOf Tryd.f35))] [(aq [0] spec_TreeOk_an), (aq [0,1] spec_TreeOk_an), (aq [0,1,1] spec_TreeOk_an)] rfl (link_seq2 (spec_TreeOk_n1_l x776) (fun (t : Int) => (spec_TreeOk_n21_l x776 t)) (fun (t : Bool) => t) (by
  rintro t
  · kernel_rfl) (by
  rintro t f K h
  · exact h)))

theorem spec_TreeOk_e (x776 : List Int) {r : AV} {H' : Heap} (h : (Ans.mk _ (spec_TreeOk x776) (fun (t : Bool) => (dB t, [])) [] none).run = some (r, H')) : Awp spec_TreeOk_ctx LL (bodyOf Tryd.f35) spec_TreeOk_an ⟨mkE 65 0 [(0, dL x776)], []⟩ (Ret (tlook tys) Tryd.f35.results.toList r H') :=
  ret_of' (Link.cast (by kernel_rfl) (by kernel_rfl) (spec_TreeOk_n22_l x776)) (by unfold spec_TreeOk; kernel_rfl) (by
  intro t
  exact ret_mk [dB t] (by kernel_rfl) (by kernel_rfl) (by kernel_rfl) (by kernel_rfl)) h

def F_spec_TreeOk : Fun := fun avs H =>
  match avs, H with
  | [.dat (.list (.int .i64)) x776], [] => ⟨_, spec_TreeOk x776, fun (t : Bool) => (dB t, []), [], none⟩
  | _, _ => Ans.no

theorem spec_TreeOk_sound : Sound Tryd.prog 35 F_spec_TreeOk := by
  refine fn_sound' (C := spec_TreeOk_ctx) (c := bodyOf Tryd.f35) (cok_of tys_ok (allc spec_l1In_sound alln) (allc Tryd.call61 alln) (by kernel_rfl)) Tryd.func35 (by kernel_rfl) LL spec_TreeOk_an ?_
  intro avs H r H' h
  unfold F_spec_TreeOk at h
  split at h
  · refine Awp.cast ?_ ?_ ?_ (spec_TreeOk_e _ h) <;> kernel_rfl
  · simp [Ans.no, Ans.run] at h


/-! loop.example/headtrees/spec.OrderOk -/

def spec_OrderOk_an : Ann := (.seq (.leaf [0, 1]) (.seq (.seq (.leaf [0, 1, 5]) (.block (.loop (.seq (.seq (.leaf [0, 1, 5, 10]) (.cond (.leaf [0, 1, 5]) (.leaf [0, 1]))) (.seq (.block (.seq (.seq (.leaf [0, 1, 5, 19]) (.cond (.seq (.leaf [4]) (.leaf [4])) (.leaf [0, 1, 5]))) (.seq (.leaf [0, 1, 5, 6]) (.block (.loop (.seq (.seq (.leaf [0, 1, 5, 6, 22]) (.cond (.leaf [0, 1, 5, 6]) (.leaf [0, 1, 5]))) (.seq (.block (.seq (.draw [] [0, 1, 2, 3, 4, 5, 6, 7, 8] [] [0, 1, 5, 6, 33]) (.cond (.seq (.leaf [4]) (.leaf [4])) (.leaf [0, 1, 5, 6])))) (.leaf [0, 1, 5, 6])))))))) (.leaf [0, 1, 5])))))) (.seq (.leaf [4]) (.leaf [4]))))

noncomputable def spec_OrderOk_ctx : Ctx := ⟨tlook tys, olook [(61, F_spec_l1In)], ioF, 0, false, []⟩

theorem spec_OrderOk_n1_l (x936 : List Int) (x937 : Int) : Link spec_OrderOk_ctx LL (cq [0] (bodyOf Tryd.f44)) (aq [0] spec_OrderOk_an) ⟨mkE 42 0 [(0, dL x936), (1, dI x937)], []⟩ (spec_OrderOk_n1) (fun (t : Unit) => (Exit.normal, ⟨mkE 42 0 [(0, dL x936), (1, dI x937)], []⟩)) := by
  refine Link.of fun K h => ?_
  simp only [spec_OrderOk_n1, wpO_bind, wpO_cond, wpO_map, wpO_some] at h
  exact Awp.of (by kernel_rfl) h

theorem spec_OrderOk_n2_l (x936 : List Int) (x937 : Int) : Link spec_OrderOk_ctx LL (cq [0,0,1] (bodyOf Tryd.f44)) (aq [0,0,1] spec_OrderOk_an) ⟨mkE 42 0 [(0, dL x936), (1, dI x937)], []⟩ (spec_OrderOk_n2) (fun (t : Unit) => (Exit.normal, ⟨mkE 42 0 [(0, dL x936), (1, dI x937), (5, dI 0)], []⟩)) := by
  refine Link.of fun K h => ?_
  simp only [spec_OrderOk_n2, wpO_bind, wpO_cond, wpO_map, wpO_some] at h
  exact Awp.of (by kernel_rfl) h

theorem spec_OrderOk_n3_l (x936 : List Int) (x937 : Int) (x968 : Int) : Link spec_OrderOk_ctx LL (cq [0,0,0,1,0,1] (bodyOf Tryd.f44)) (aq [0,0,0,1,0,1] spec_OrderOk_an) ⟨mkE 42 0 [(0, dL x936), (1, dI x937), (5, dI x968)], []⟩ (spec_OrderOk_n3 x936 x968) (Sum.elim (fun (t : Unit) => (Exit.normal, ⟨mkE 42 0 [(0, dL x936), (1, dI x937), (5, dI x968)], []⟩)) (fun (t : Unit) => ((Exit.exit 0), ⟨mkE 42 0 [(0, dL x936), (1, dI x937)], []⟩))) := by
  refine Link.of fun K h => ?_
  simp only [spec_OrderOk_n3, wpO_bind, wpO_cond, wpO_map, wpO_some] at h
  exact Awp.of (by kernel_rfl) h

theorem spec_OrderOk_n4_l (x936 : List Int) (x937 : Int) (x968 : Int) : Link spec_OrderOk_ctx LL (Code.seq (cq [0,0,0,1,0,0,1,0,1] (bodyOf Tryd.f44)) (cq [0,1,0,0,1,0,0,1,0,1] (bodyOf Tryd.f44))) (Ann.seq (aq [0,0,0,1,0,0,1,0,1] spec_OrderOk_an) (aq [0,1,0,0,1,0,0,1,0,1] spec_OrderOk_an)) ⟨mkE 42 0 [(0, dL x936), (1, dI x937), (5, dI x968)], []⟩ (spec_OrderOk_n4 x936 x937 x968) (Sum.elim (fun (t : Unit) => (Exit.normal, ⟨mkE 42 0 [(0, dL x936), (1, dI x937), (5, dI x968), (6, dI 0)], []⟩)) (fun (t : Bool) => (Exit.ret, ⟨mkE 42 0 [(4, dB t)], []⟩))) := by
  refine Link.of fun K h => ?_
  simp only [spec_OrderOk_n4, wpO_bind, wpO_cond, wpO_map, wpO_some] at h
  exact Awp.of (by kernel_rfl) h

theorem spec_OrderOk_n5_l (x936 : List Int) (x937 : Int) (x968 : Int) (x987 : Int) : Link spec_OrderOk_ctx LL (cq [0,0,1,1,0,0,1,0,0,1,0,1] (bodyOf Tryd.f44)) (aq [0,0,1,1,0,0,1,0,0,1,0,1] spec_OrderOk_an) ⟨mkE 42 0 [(0, dL x936), (1, dI x937), (5, dI x968), (6, dI x987)], []⟩ (spec_OrderOk_n5 x936 x968 x987) (Sum.elim (fun (t : Int) => (Exit.normal, ⟨mkE 42 0 [(0, dL x936), (1, dI x937), (5, dI x968), (6, dI t)], []⟩)) (Sum.elim (fun (t : Bool) => (Exit.ret, ⟨mkE 42 0 [(4, dB t)], []⟩)) (fun (t : Unit) => ((Exit.exit 2), ⟨mkE 42 0 [(0, dL x936), (1, dI x937), (5, dI x968)], []⟩)))) := by
  refine Link.of fun K h => ?_
  simp only [spec_OrderOk_n5, wpO_bind, wpO_cond, wpO_map, wpO_some] at h
  exact Awp.of (by kernel_rfl) h

def spec_OrderOk_n6_l (x936 : List Int) (x937 : Int) (x968 : Int) := (link_loop (mk := fun (s : Int) => ⟨mkE 42 0 [(0, dL x936), (1, dI x937), (5, dI x968), (6, dI s)], []⟩) (fin := (Sum.elim (fun (t : Bool) => (Exit.ret, ⟨mkE 42 0 [(4, dB t)], []⟩)) (fun (t : Unit) => ((Exit.exit 2), ⟨mkE 42 0 [(0, dL x936), (1, dI x937), (5, dI x968)], []⟩)))) (by
  rintro (t | t) f K h
  · exact h
  · exact h) (fun s => link_map (spec_OrderOk_n5_l x936 x937 x968 s) (Sum.elim (fun (t : Int) => Sum.inl t) (Sum.elim (fun (t : Bool) => Sum.inr (Sum.inl t)) (fun (t : Unit) => Sum.inr (Sum.inr t)))) (by
  rintro (t | t | t)
  · kernel_rfl
  · kernel_rfl
  · kernel_rfl)) 0)

def spec_OrderOk_n7_l (x936 : List Int) (x937 : Int) (x968 : Int) := (link_block (fin2 := (Sum.elim (fun (t : Unit) => (Exit.normal, ⟨mkE 42 0 [(0, dL x936), (1, dI x937), (5, dI x968)], []⟩)) (fun (t : Bool) => (Exit.ret, ⟨mkE 42 0 [(4, dB t)], []⟩)))) (id := 2) (spec_OrderOk_n6_l x936 x937 x968) (Sum.elim (fun (t : Bool) => (Sum.inr t)) (fun (t : Unit) => (Sum.inl ()))) (by
  rintro (t | t) K h
  · exact Eq.mp (by kernel_rfl) h
  · exact Eq.mp (by kernel_rfl) h))

def spec_OrderOk_n8_l (x936 : List Int) (x937 : Int) (x968 : Int) := (link_group (c := (cq [0,1,0,0,1,0,0,1,0,1] (bodyOf Tryd.f44))) (a := (aq [0,1,0,0,1,0,0,1,0,1] spec_OrderOk_an)) [(cq [0,0,0,1,0,0,1,0,1] (bodyOf Tryd.f44))] [(aq [0,0,0,1,0,0,1,0,1] spec_OrderOk_an)] rfl (link_seq2 (spec_OrderOk_n4_l x936 x937 x968) (fun (t : Unit) => (spec_OrderOk_n7_l x936 x937 x968)) (fun (t : Bool) => (Sum.inr t)) (by
  rintro t
  · kernel_rfl) (by
  rintro t f K h
  · exact h)))

def spec_OrderOk_n9_l (x936 : List Int) (x937 : Int) (x968 : Int) := (link_block (fin2 := (Sum.elim (fun (t : Unit) => (Exit.normal, ⟨mkE 42 0 [(0, dL x936), (1, dI x937), (5, dI x968)], []⟩)) (fun (t : Bool) => (Exit.ret, ⟨mkE 42 0 [(4, dB t)], []⟩)))) (id := 1) (spec_OrderOk_n8_l x936 x937 x968) (Sum.elim (fun (t : Unit) => (Sum.inl ())) (fun (t : Bool) => (Sum.inr t))) (by
  rintro (t | t) K h
  · exact Eq.mp (by kernel_rfl) h
  · exact Eq.mp (by kernel_rfl) h))

theorem spec_OrderOk_n10_l (x936 : List Int) (x937 : Int) (x968 : Int) : Link spec_OrderOk_ctx LL (cq [1,1,0,0,1,0,1] (bodyOf Tryd.f44)) (aq [1,1,0,0,1,0,1] spec_OrderOk_an) ⟨mkE 42 0 [(0, dL x936), (1, dI x937), (5, dI x968)], []⟩ (spec_OrderOk_n10 x968) (fun (t : Int) => (Exit.normal, ⟨mkE 42 0 [(0, dL x936), (1, dI x937), (5, dI t)], []⟩)) := by
  refine Link.of fun K h => ?_
  simp only [spec_OrderOk_n10, wpO_bind, wpO_cond, wpO_map, wpO_some] at h
  exact Awp.of (by kernel_rfl) h

def spec_OrderOk_n11_l (x936 : List Int) (x937 : Int) (x968 : Int) := (link_seq2 (spec_OrderOk_n9_l x936 x937 x968) (fun (t : Unit) => (link_map (fin2 := (Sum.elim (fun (t : Int) => (Exit.normal, ⟨mkE 42 0 [(0, dL x936), (1, dI x937), (5, dI t)], []⟩)) (fun (t : Bool) => (Exit.ret, ⟨mkE 42 0 [(4, dB t)], []⟩)))) (spec_OrderOk_n10_l x936 x937 x968) (fun (t : Int) => (Sum.inl t)) (by
  rintro t
  · kernel_rfl))) (fun (t : Bool) => (Sum.inr t)) (by
  rintro t
  · kernel_rfl) (by
  rintro t f K h
  · exact h))

def spec_OrderOk_n12_l (x936 : List Int) (x937 : Int) (x968 : Int) := (link_seq2 (spec_OrderOk_n3_l x936 x937 x968) (fun (t : Unit) => (link_map (fin2 := (Sum.elim (fun (t : Int) => (Exit.normal, ⟨mkE 42 0 [(0, dL x936), (1, dI x937), (5, dI t)], []⟩)) (Sum.elim (fun (t : Bool) => (Exit.ret, ⟨mkE 42 0 [(4, dB t)], []⟩)) (fun (t : Unit) => ((Exit.exit 0), ⟨mkE 42 0 [(0, dL x936), (1, dI x937)], []⟩))))) (spec_OrderOk_n11_l x936 x937 x968) (Sum.elim (fun (t : Int) => (Sum.inl t)) (fun (t : Bool) => (Sum.inr (Sum.inl t)))) (by
  rintro (t | t)
  · kernel_rfl
  · kernel_rfl))) (fun (t : Unit) => (Sum.inr (Sum.inr t))) (by
  rintro t
  · kernel_rfl) (by
  rintro t f K h
  · exact h))

def spec_OrderOk_n13_l (x936 : List Int) (x937 : Int) := (link_loop (mk := fun (s : Int) => ⟨mkE 42 0 [(0, dL x936), (1, dI x937), (5, dI s)], []⟩) (fin := (Sum.elim (fun (t : Bool) => (Exit.ret, ⟨mkE 42 0 [(4, dB t)], []⟩)) (fun (t : Unit) => ((Exit.exit 0), ⟨mkE 42 0 [(0, dL x936), (1, dI x937)], []⟩)))) (by
  rintro (t | t) f K h
  · exact h
  · exact h) (fun s => link_map (spec_OrderOk_n12_l x936 x937 s) (Sum.elim (fun (t : Int) => Sum.inl t) (Sum.elim (fun (t : Bool) => Sum.inr (Sum.inl t)) (fun (t : Unit) => Sum.inr (Sum.inr t)))) (by
  rintro (t | t | t)
  · kernel_rfl
  · kernel_rfl
  · kernel_rfl)) 0)

def spec_OrderOk_n14_l (x936 : List Int) (x937 : Int) := (link_block (fin2 := (Sum.elim (fun (t : Unit) => (Exit.normal, ⟨mkE 42 0 [(0, dL x936), (1, dI x937)], []⟩)) (fun (t : Bool) => (Exit.ret, ⟨mkE 42 0 [(4, dB t)], []⟩)))) (id := 0) (spec_OrderOk_n13_l x936 x937) (Sum.elim (fun (t : Bool) => (Sum.inr t)) (fun (t : Unit) => (Sum.inl ()))) (by
  rintro (t | t) K h
  · exact Eq.mp (by kernel_rfl) h
  · exact Eq.mp (by kernel_rfl) h))

def spec_OrderOk_n15_l (x936 : List Int) (x937 : Int) := (link_seq (spec_OrderOk_n2_l x936 x937) (fun (t : Unit) => (spec_OrderOk_n14_l x936 x937)))

theorem spec_OrderOk_n16_l (x936 : List Int) (x937 : Int) : Link spec_OrderOk_ctx LL (cq [1,1] (bodyOf Tryd.f44)) (aq [1,1] spec_OrderOk_an) ⟨mkE 42 0 [(0, dL x936), (1, dI x937)], []⟩ (spec_OrderOk_n16 x936 x937) (fun (t : Bool) => (Exit.ret, ⟨mkE 42 0 [(4, dB t)], []⟩)) := by
  refine Link.of fun K h => ?_
  simp only [spec_OrderOk_n16, wpO_bind, wpO_cond, wpO_map, wpO_some] at h
  exact Awp.of (by kernel_rfl) h

def spec_OrderOk_n17_l (x936 : List Int) (x937 : Int) := (link_seq2 (spec_OrderOk_n15_l x936 x937) (fun (t : Unit) => (spec_OrderOk_n16_l x936 x937)) (fun (t : Bool) => t) (by
  rintro t
  · kernel_rfl) (by
  rintro t f K h
  · exact h))

def spec_OrderOk_n18_l (x936 : List Int) (x937 : Int) := (link_seq (spec_OrderOk_n1_l x936 x937) (fun (t : Unit) => (spec_OrderOk_n17_l x936 x937)))

theorem spec_OrderOk_e (x936 : List Int) (x937 : Int) {r : AV} {H' : Heap} (h : (Ans.mk _ (spec_OrderOk x936 x937) (fun (t : Bool) => (dB t, [])) [] none).run = some (r, H')) : Awp spec_OrderOk_ctx LL (bodyOf Tryd.f44) spec_OrderOk_an ⟨mkE 42 0 [(0, dL x936), (1, dI x937)], []⟩ (Ret (tlook tys) Tryd.f44.results.toList r H') :=
  ret_of' (Link.cast (by kernel_rfl) (by kernel_rfl) (spec_OrderOk_n18_l x936 x937)) (by unfold spec_OrderOk; kernel_rfl) (by
  intro t
  exact ret_mk [dB t] (by kernel_rfl) (by kernel_rfl) (by kernel_rfl) (by kernel_rfl)) h

def F_spec_OrderOk : Fun := fun avs H =>
  match avs, H with
  | [.dat (.list (.int .i64)) x936, .dat (.int .i64) x937], [] => ⟨_, spec_OrderOk x936 x937, fun (t : Bool) => (dB t, []), [], none⟩
  | _, _ => Ans.no

theorem spec_OrderOk_sound : Sound Tryd.prog 44 F_spec_OrderOk := by
  refine fn_sound' (C := spec_OrderOk_ctx) (c := bodyOf Tryd.f44) (cok_of tys_ok (allc spec_l1In_sound alln) (allc Tryd.call61 alln) (by kernel_rfl)) Tryd.func44 (by kernel_rfl) LL spec_OrderOk_an ?_
  intro avs H r H' h
  unfold F_spec_OrderOk at h
  split at h
  · refine Awp.cast ?_ ?_ ?_ (spec_OrderOk_e _ _ h) <;> kernel_rfl
  · simp [Ans.no, Ans.run] at h


/-! loop.example/headtrees/spec.PutInOrder -/

def spec_PutInOrder_an : Ann := (.seq (.leaf [0, 1]) (.seq (.seq (.leaf [0, 1, 19]) (.cond (.seq (.leaf [4, 5]) (.leaf [4, 5])) (.leaf [0, 1]))) (.seq (.leaf [0, 1, 6]) (.seq (.seq (.leaf [0, 1, 6, 7]) (.block (.loop (.seq (.seq (.leaf [0, 1, 6, 7, 28]) (.cond (.leaf [0, 1, 6, 7]) (.leaf [0, 1, 6]))) (.seq (.block (.leaf [0, 1, 6, 7])) (.leaf [0, 1, 6, 7])))))) (.seq (.leaf [0, 1, 6, 8]) (.seq (.seq (.leaf [0, 1, 6, 8, 9]) (.block (.loop (.seq (.seq (.leaf [0, 1, 6, 8, 9, 43]) (.cond (.leaf [0, 1, 6, 8, 9]) (.leaf [8]))) (.seq (.block (.leaf [0, 1, 6, 8, 9])) (.leaf [0, 1, 6, 8, 9])))))) (.seq (.leaf [4, 5]) (.leaf [4, 5]))))))))

noncomputable def spec_PutInOrder_ctx : Ctx := ⟨tlook tys, olook [(35, F_spec_TreeOk), (44, F_spec_OrderOk)], ioF, 0, false, []⟩

theorem spec_PutInOrder_n1_l (x931 : List Int) (x932 : List Int) : Link spec_PutInOrder_ctx LL (Code.seq (cq [0] (bodyOf Tryd.f21)) (Code.seq (cq [0,1] (bodyOf Tryd.f21)) (cq [0,1,1] (bodyOf Tryd.f21)))) (Ann.seq (aq [0] spec_PutInOrder_an) (Ann.seq (aq [0,1] spec_PutInOrder_an) (aq [0,1,1] spec_PutInOrder_an))) ⟨mkE 61 0 [(0, dL x931), (1, dL x932)], []⟩ (spec_PutInOrder_n1 x931 x932) (Sum.elim (fun (t : (List Int)) => (Exit.normal, ⟨mkE 61 0 [(0, dL x931), (1, dL x932), (6, .slc 0)], [some (sI t)]⟩)) (fun (t : Bool × (List Int)) => (Exit.ret, ⟨mkE 61 0 [(4, .slc 0), (5, dB t.1)], [some (sI t.2)]⟩))) := by
  refine Link.of fun K h => ?_
  simp only [spec_PutInOrder_n1, wpO_bind, wpO_cond, wpO_map, wpO_some] at h
  exact Awp.of (by kernel_rfl) h

theorem spec_PutInOrder_n2_l (x931 : List Int) (x932 : List Int) (x1016 : List Int) : Link spec_PutInOrder_ctx LL (cq [0,0,1,1,1] (bodyOf Tryd.f21)) (aq [0,0,1,1,1] spec_PutInOrder_an) ⟨mkE 61 0 [(0, dL x931), (1, dL x932), (6, .slc 0)], [some (sI x1016)]⟩ (spec_PutInOrder_n2) (fun (t : Unit) => (Exit.normal, ⟨mkE 61 0 [(0, dL x931), (1, dL x932), (6, .slc 0), (7, dI 0)], [some (sI x1016)]⟩)) := by
  refine Link.of fun K h => ?_
  simp only [spec_PutInOrder_n2, wpO_bind, wpO_cond, wpO_map, wpO_some] at h
  exact Awp.of (by kernel_rfl) h

theorem spec_PutInOrder_n3_l (x931 : List Int) (x932 : List Int) (x1032 : Int) (x1033 : List Int) : Link spec_PutInOrder_ctx LL (cq [0,0,1,0,1,1,1] (bodyOf Tryd.f21)) (aq [0,0,1,0,1,1,1] spec_PutInOrder_an) ⟨mkE 61 0 [(0, dL x931), (1, dL x932), (6, .slc 0), (7, dI x1032)], [some (sI x1033)]⟩ (spec_PutInOrder_n3 x932 x1032 x1033) (Sum.elim (fun (t : Int × (List Int)) => (Exit.normal, ⟨mkE 61 0 [(0, dL x931), (1, dL x932), (6, .slc 0), (7, dI t.1)], [some (sI t.2)]⟩)) (fun (t : (List Int)) => ((Exit.exit 0), ⟨mkE 61 0 [(0, dL x931), (1, dL x932), (6, .slc 0)], [some (sI t)]⟩))) := by
  refine Link.of fun K h => ?_
  simp only [spec_PutInOrder_n3, wpO_bind, wpO_cond, wpO_map, wpO_some] at h
  exact Awp.of (by kernel_rfl) h

def spec_PutInOrder_n4_l (x931 : List Int) (x932 : List Int) (x1016 : List Int) := (link_loop (mk := fun (s : Int × (List Int)) => ⟨mkE 61 0 [(0, dL x931), (1, dL x932), (6, .slc 0), (7, dI s.1)], [some (sI s.2)]⟩) (fin := (fun (t : (List Int)) => ((Exit.exit 0), ⟨mkE 61 0 [(0, dL x931), (1, dL x932), (6, .slc 0)], [some (sI t)]⟩))) (by
  rintro t f K h
  · exact h) (fun s => link_map (spec_PutInOrder_n3_l x931 x932 s.1 s.2) (Sum.elim (fun (t : Int × (List Int)) => Sum.inl (t.1, t.2)) (fun (t : (List Int)) => Sum.inr t)) (by
  rintro (t | t)
  · kernel_rfl
  · kernel_rfl)) (0, x1016))

def spec_PutInOrder_n5_l (x931 : List Int) (x932 : List Int) (x1016 : List Int) := (link_block (fin2 := (fun (t : (List Int)) => (Exit.normal, ⟨mkE 61 0 [(0, dL x931), (1, dL x932), (6, .slc 0)], [some (sI t)]⟩))) (id := 0) (spec_PutInOrder_n4_l x931 x932 x1016) (fun (t : (List Int)) => t) (by
  rintro t K h
  · exact Eq.mp (by kernel_rfl) h))

def spec_PutInOrder_n6_l (x931 : List Int) (x932 : List Int) (x1016 : List Int) := (link_seq (spec_PutInOrder_n2_l x931 x932 x1016) (fun (t : Unit) => (spec_PutInOrder_n5_l x931 x932 x1016)))

theorem spec_PutInOrder_n7_l (x931 : List Int) (x932 : List Int) (x1033 : List Int) : Link spec_PutInOrder_ctx LL (cq [0,1,1,1,1] (bodyOf Tryd.f21)) (aq [0,1,1,1,1] spec_PutInOrder_an) ⟨mkE 61 0 [(0, dL x931), (1, dL x932), (6, .slc 0)], [some (sI x1033)]⟩ (spec_PutInOrder_n7) (fun (t : Unit) => (Exit.normal, ⟨mkE 61 0 [(0, dL x931), (1, dL x932), (6, .slc 0), (8, .slc 1)], [some (sI x1033), some (sI ([] : List Int))]⟩)) := by
  refine Link.of fun K h => ?_
  simp only [spec_PutInOrder_n7, wpO_bind, wpO_cond, wpO_map, wpO_some] at h
  exact Awp.of (by kernel_rfl) h

theorem spec_PutInOrder_n8_l (x931 : List Int) (x932 : List Int) (x1033 : List Int) : Link spec_PutInOrder_ctx LL (cq [0,0,1,1,1,1,1] (bodyOf Tryd.f21)) (aq [0,0,1,1,1,1,1] spec_PutInOrder_an) ⟨mkE 61 0 [(0, dL x931), (1, dL x932), (6, .slc 0), (8, .slc 1)], [some (sI x1033), some (sI ([] : List Int))]⟩ (spec_PutInOrder_n8) (fun (t : Unit) => (Exit.normal, ⟨mkE 61 0 [(0, dL x931), (1, dL x932), (6, .slc 0), (8, .slc 1), (9, dI 0)], [some (sI x1033), some (sI ([] : List Int))]⟩)) := by
  refine Link.of fun K h => ?_
  simp only [spec_PutInOrder_n8, wpO_bind, wpO_cond, wpO_map, wpO_some] at h
  exact Awp.of (by kernel_rfl) h

theorem spec_PutInOrder_n9_l (x931 : List Int) (x932 : List Int) (x1074 : Int) (x1033 : List Int) (x1075 : List Int) : Link spec_PutInOrder_ctx LL (cq [0,0,1,0,1,1,1,1,1] (bodyOf Tryd.f21)) (aq [0,0,1,0,1,1,1,1,1] spec_PutInOrder_an) ⟨mkE 61 0 [(0, dL x931), (1, dL x932), (6, .slc 0), (8, .slc 1), (9, dI x1074)], [some (sI x1033), some (sI x1075)]⟩ (spec_PutInOrder_n9 x931 x932 x1074 x1033 x1075) (Sum.elim (fun (t : Int × (List Int)) => (Exit.normal, ⟨mkE 61 0 [(0, dL x931), (1, dL x932), (6, .slc 0), (8, .slc 1), (9, dI t.1)], [some (sI x1033), some (sI t.2)]⟩)) (fun (t : (List Int)) => ((Exit.exit 2), ⟨mkE 61 0 [(8, .slc 0)], [some (sI t)]⟩))) := by
  refine Link.of fun K h => ?_
  simp only [spec_PutInOrder_n9, wpO_bind, wpO_cond, wpO_map, wpO_some] at h
  exact Awp.of (by kernel_rfl) h

def spec_PutInOrder_n10_l (x931 : List Int) (x932 : List Int) (x1033 : List Int) := (link_loop (mk := fun (s : Int × (List Int)) => ⟨mkE 61 0 [(0, dL x931), (1, dL x932), (6, .slc 0), (8, .slc 1), (9, dI s.1)], [some (sI x1033), some (sI s.2)]⟩) (fin := (fun (t : (List Int)) => ((Exit.exit 2), ⟨mkE 61 0 [(8, .slc 0)], [some (sI t)]⟩))) (by
  rintro t f K h
  · exact h) (fun s => link_map (spec_PutInOrder_n9_l x931 x932 s.1 x1033 s.2) (Sum.elim (fun (t : Int × (List Int)) => Sum.inl (t.1, t.2)) (fun (t : (List Int)) => Sum.inr t)) (by
  rintro (t | t)
  · kernel_rfl
  · kernel_rfl)) (0, ([] : List Int)))

def spec_PutInOrder_n11_l (x931 : List Int) (x932 : List Int) (x1033 : List Int) := (link_block (fin2 := (fun (t : (List Int)) => (Exit.normal, ⟨mkE 61 0 [(8, .slc 0)], [some (sI t)]⟩))) (id := 2) (spec_PutInOrder_n10_l x931 x932 x1033) (fun (t : (List Int)) => t) (by
  rintro t K h
  · exact Eq.mp (by kernel_rfl) h))

def spec_PutInOrder_n12_l (x931 : List Int) (x932 : List Int) (x1033 : List Int) := (link_seq (spec_PutInOrder_n8_l x931 x932 x1033) (fun (t : Unit) => (spec_PutInOrder_n11_l x931 x932 x1033)))

theorem spec_PutInOrder_n13_l (x1075 : List Int) : Link spec_PutInOrder_ctx LL (cq [1,1,1,1,1,1] (bodyOf Tryd.f21)) (aq [1,1,1,1,1,1] spec_PutInOrder_an) ⟨mkE 61 0 [(8, .slc 0)], [some (sI x1075)]⟩ (spec_PutInOrder_n13 x1075) (fun (t : Bool × (List Int)) => (Exit.ret, ⟨mkE 61 0 [(4, .slc 0), (5, dB t.1)], [some (sI t.2)]⟩)) := by
  refine Link.of fun K h => ?_
  simp only [spec_PutInOrder_n13, wpO_bind, wpO_cond, wpO_map, wpO_some] at h
  exact Awp.of (by kernel_rfl) h

def spec_PutInOrder_n14_l (x931 : List Int) (x932 : List Int) (x1033 : List Int) := (link_seq (spec_PutInOrder_n12_l x931 x932 x1033) (fun (t : (List Int)) => (spec_PutInOrder_n13_l t)))

def spec_PutInOrder_n15_l (x931 : List Int) (x932 : List Int) (x1033 : List Int) := (link_seq (spec_PutInOrder_n7_l x931 x932 x1033) (fun (t : Unit) => (spec_PutInOrder_n14_l x931 x932 x1033)))

def spec_PutInOrder_n16_l (x931 : List Int) (x932 : List Int) (x1016 : List Int) := (link_seq (spec_PutInOrder_n6_l x931 x932 x1016) (fun (t : (List Int)) => (spec_PutInOrder_n15_l x931 x932 t)))

def spec_PutInOrder_n17_l (x931 : List Int) (x932 : List Int) := (link_group (c := (cq [0,1,1] (bodyOf Tryd.f21))) (a := (aq [0,1,1] spec_PutInOrder_an)) [(cq [0] (bodyOf Tryd.f21)), (cq [0,1] (bodyOf Tryd.f21))] [(aq [0] spec_PutInOrder_an), (aq [0,1] spec_PutInOrder_an)] rfl (link_seq2 (spec_PutInOrder_n1_l x931 x932) (fun (t : (List Int)) => (spec_PutInOrder_n16_l x931 x932 t)) (fun (t : Bool × (List Int)) => t) (by
  rintro t
  · kernel_rfl) (by
  rintro t f K h
  · exact h)))

theorem spec_PutInOrder_e (x931 : List Int) (x932 : List Int) {r : AV} {H' : Heap} (h : (Ans.mk _ (spec_PutInOrder x931 x932) (fun (t : Bool × (List Int)) => (.tup [.slc 0, dB t.1], [some (sI t.2)])) [] none).run = some (r, H')) : Awp spec_PutInOrder_ctx LL (bodyOf Tryd.f21) spec_PutInOrder_an ⟨mkE 61 0 [(0, dL x931), (1, dL x932)], []⟩ (Ret (tlook tys) Tryd.f21.results.toList r H') :=
  ret_of' (Link.cast (by kernel_rfl) (by kernel_rfl) (spec_PutInOrder_n17_l x931 x932)) (by unfold spec_PutInOrder; kernel_rfl) (by
  intro t
  exact ret_mk [.slc 0, dB t.1] (by kernel_rfl) (by kernel_rfl) (by kernel_rfl) (by kernel_rfl)) h

def F_spec_PutInOrder : Fun := fun avs H =>
  match avs, H with
  | [.dat (.list (.int .i64)) x931, .dat (.list (.int .i64)) x932], [] => ⟨_, spec_PutInOrder x931 x932, fun (t : Bool × (List Int)) => (.tup [.slc 0, dB t.1], [some (sI t.2)]), [], none⟩
  | _, _ => Ans.no

theorem spec_PutInOrder_sound : Sound Tryd.prog 21 F_spec_PutInOrder := by
  refine fn_sound' (C := spec_PutInOrder_ctx) (c := bodyOf Tryd.f21) (cok_of tys_ok (allc spec_TreeOk_sound (allc spec_OrderOk_sound alln)) (allc Tryd.call35 (allc Tryd.call44 alln)) (by kernel_rfl)) Tryd.func21 (by kernel_rfl) LL spec_PutInOrder_an ?_
  intro avs H r H' h
  unfold F_spec_PutInOrder at h
  split at h
  · refine Awp.cast ?_ ?_ ?_ (spec_PutInOrder_e _ _ h) <;> kernel_rfl
  · simp [Ans.no, Ans.run] at h


/-! loop.example/headtrees/spec.l20Fill -/

def spec_l20Fill_an : Ann := (.seq (.seq (.leaf [0, 1, 2, 3, 4, 16]) (.cond (.leaf []) (.leaf [0, 1, 2, 3, 4]))) (.seq (.leaf [0, 1, 2, 3, 4, 10]) (.seq (.leaf [0, 1, 2, 3, 10]) (.seq (.leaf [0, 1, 3, 10, 11]) (.seq (.block (.loop (.seq (.seq (.leaf [0, 1, 3, 10, 11, 33]) (.cond (.leaf [0, 1, 3, 10, 11]) (.leaf [0, 1, 3, 10]))) (.block (.seq (.leaf [0, 1, 3, 10, 11, 12]) (.seq (.leaf [0, 1, 3, 10, 12]) (.leaf [0, 1, 3, 10, 11]))))))) (.seq (.leaf [0, 1, 3, 10, 11]) (.block (.loop (.seq (.seq (.leaf [0, 1, 3, 10, 11, 53]) (.cond (.leaf [0, 1, 3, 10, 11]) (.leaf []))) (.block (.seq (.leaf [0, 1, 3, 10, 11, 13]) (.seq (.leaf [0, 1, 3, 10, 13]) (.leaf [0, 1, 3, 10, 11])))))))))))))

def F_spec_l20Fill_fuel (n : Nat) : Fun := fun avs H =>
  match avs, H with
  | [.ptr 0 0, .slc 1, .dat (.int .i64) x1172, .dat (.int .i64) x1173, .dat (.int .i64) x1174], [some (.box [.dat (.list (.int .u8)) x1175, .dat (.int .i64) x1176]), some (.seq (.int .i64) x1177)] => ⟨_, spec_l20Fill_fuel n x1172 x1173 x1174 x1175 x1176 x1177, fun (t : Int × (List Int)) => (.tup [], [some (.box [dV x1175, dI t.1]), some (sI t.2)]), [], none⟩
  | _, _ => Ans.no

noncomputable def spec_l20Fill_ctx (n : Nat) : Ctx := ⟨tlook tys, olook [(34, F_spec_l20Rd_pick), (62, F_spec_l20Fill_fuel n)], ioF, 2, false, []⟩

theorem spec_l20Fill_n1_l (n : Nat) (x1172 : Int) (x1173 : Int) (x1174 : Int) (x1175 : List Int) (x1176 : Int) (x1177 : List Int) : Link (spec_l20Fill_ctx n) LL (Code.seq (cq [0] (bodyOf Tryd.f62)) (Code.seq (cq [0,1] (bodyOf Tryd.f62)) (Code.seq (cq [0,1,1] (bodyOf Tryd.f62)) (cq [0,1,1,1] (bodyOf Tryd.f62))))) (Ann.seq (aq [0] spec_l20Fill_an) (Ann.seq (aq [0,1] spec_l20Fill_an) (Ann.seq (aq [0,1,1] spec_l20Fill_an) (aq [0,1,1,1] spec_l20Fill_an)))) ⟨mkE 70 0 [(0, .ptr 0 0), (1, .slc 1), (2, dI x1172), (3, dI x1173), (4, dI x1174)], [some (.box [dV x1175, dI x1176]), some (sI x1177)]⟩ (spec_l20Fill_n1 (spec_l20Fill_fuel n) x1172 x1173 x1174 x1175 x1176 x1177) (Sum.elim (fun (t : Int × Int × (List Int)) => (Exit.normal, ⟨mkE 70 0 [(0, .ptr 0 0), (1, .slc 1), (3, dI x1173), (10, dI t.1), (11, dI x1172)], [some (.box [dV x1175, dI t.2.1]), some (sI t.2.2)]⟩)) (fun (t : Int × (List Int)) => (Exit.ret, ⟨mkE 70 0 [], [some (.box [dV x1175, dI t.1]), some (sI t.2)]⟩))) := by
  refine Link.of fun K h => ?_
  simp only [spec_l20Fill_n1, wpO_bind, wpO_cond, wpO_map, wpO_some] at h
  exact Awp.of (by kernel_rfl) h

theorem spec_l20Fill_n2_l (n : Nat) (x1173 : Int) (x1248 : Int) (x1263 : Int) (x1175 : List Int) (x1264 : Int) (x1265 : List Int) : Link (spec_l20Fill_ctx n) LL (cq [0,0,0,1,1,1,1] (bodyOf Tryd.f62)) (aq [0,0,0,1,1,1,1] spec_l20Fill_an) ⟨mkE 70 0 [(0, .ptr 0 0), (1, .slc 1), (3, dI x1173), (10, dI x1248), (11, dI x1263)], [some (.box [dV x1175, dI x1264]), some (sI x1265)]⟩ (spec_l20Fill_n2 (spec_l20Fill_fuel n) x1248 x1263 x1175 x1264 x1265) (Sum.elim (fun (t : Int × Int × (List Int)) => (Exit.normal, ⟨mkE 70 0 [(0, .ptr 0 0), (1, .slc 1), (3, dI x1173), (10, dI x1248), (11, dI t.1)], [some (.box [dV x1175, dI t.2.1]), some (sI t.2.2)]⟩)) (fun (t : Int × (List Int)) => ((Exit.exit 0), ⟨mkE 70 0 [(0, .ptr 0 0), (1, .slc 1), (3, dI x1173), (10, dI x1248)], [some (.box [dV x1175, dI t.1]), some (sI t.2)]⟩))) := by
  refine Link.of fun K h => ?_
  simp only [spec_l20Fill_n2, wpO_bind, wpO_cond, wpO_map, wpO_some] at h
  exact Awp.of (by kernel_rfl) h

def spec_l20Fill_n3_l (n : Nat) (x1173 : Int) (x1248 : Int) (x1172 : Int) (x1175 : List Int) (x1247 : Int) (x1251 : List Int) := (link_loop (mk := fun (s : Int × Int × (List Int)) => ⟨mkE 70 0 [(0, .ptr 0 0), (1, .slc 1), (3, dI x1173), (10, dI x1248), (11, dI s.1)], [some (.box [dV x1175, dI s.2.1]), some (sI s.2.2)]⟩) (fin := (fun (t : Int × (List Int)) => ((Exit.exit 0), ⟨mkE 70 0 [(0, .ptr 0 0), (1, .slc 1), (3, dI x1173), (10, dI x1248)], [some (.box [dV x1175, dI t.1]), some (sI t.2)]⟩))) (by
  rintro t f K h
  · exact h) (fun s => link_map (spec_l20Fill_n2_l n x1173 x1248 s.1 x1175 s.2.1 s.2.2) (Sum.elim (fun (t : Int × Int × (List Int)) => Sum.inl (t.1, t.2.1, t.2.2)) (fun (t : Int × (List Int)) => Sum.inr t)) (by
  rintro (t | t)
  · kernel_rfl
  · kernel_rfl)) (x1172, x1247, x1251))

def spec_l20Fill_n4_l (n : Nat) (x1173 : Int) (x1248 : Int) (x1172 : Int) (x1175 : List Int) (x1247 : Int) (x1251 : List Int) := (link_block (fin2 := (fun (t : Int × (List Int)) => (Exit.normal, ⟨mkE 70 0 [(0, .ptr 0 0), (1, .slc 1), (3, dI x1173), (10, dI x1248)], [some (.box [dV x1175, dI t.1]), some (sI t.2)]⟩))) (id := 0) (spec_l20Fill_n3_l n x1173 x1248 x1172 x1175 x1247 x1251) (fun (t : Int × (List Int)) => (t.1, t.2)) (by
  rintro t K h
  · exact Eq.mp (by kernel_rfl) h))

theorem spec_l20Fill_n5_l (n : Nat) (x1173 : Int) (x1248 : Int) (x1175 : List Int) (x1264 : Int) (x1265 : List Int) : Link (spec_l20Fill_ctx n) LL (cq [0,1,1,1,1,1] (bodyOf Tryd.f62)) (aq [0,1,1,1,1,1] spec_l20Fill_an) ⟨mkE 70 0 [(0, .ptr 0 0), (1, .slc 1), (3, dI x1173), (10, dI x1248)], [some (.box [dV x1175, dI x1264]), some (sI x1265)]⟩ (spec_l20Fill_n5 (spec_l20Fill_fuel n) x1248) (fun (t : Int) => (Exit.normal, ⟨mkE 70 0 [(0, .ptr 0 0), (1, .slc 1), (3, dI x1173), (10, dI x1248), (11, dI t)], [some (.box [dV x1175, dI x1264]), some (sI x1265)]⟩)) := by
  refine Link.of fun K h => ?_
  simp only [spec_l20Fill_n5, wpO_bind, wpO_cond, wpO_map, wpO_some] at h
  exact Awp.of (by kernel_rfl) h

theorem spec_l20Fill_n6_l (n : Nat) (x1173 : Int) (x1248 : Int) (x1290 : Int) (x1175 : List Int) (x1291 : Int) (x1292 : List Int) : Link (spec_l20Fill_ctx n) LL (cq [0,0,1,1,1,1,1,1] (bodyOf Tryd.f62)) (aq [0,0,1,1,1,1,1,1] spec_l20Fill_an) ⟨mkE 70 0 [(0, .ptr 0 0), (1, .slc 1), (3, dI x1173), (10, dI x1248), (11, dI x1290)], [some (.box [dV x1175, dI x1291]), some (sI x1292)]⟩ (spec_l20Fill_n6 (spec_l20Fill_fuel n) x1173 x1248 x1290 x1175 x1291 x1292) (Sum.elim (fun (t : Int × Int × (List Int)) => (Exit.normal, ⟨mkE 70 0 [(0, .ptr 0 0), (1, .slc 1), (3, dI x1173), (10, dI x1248), (11, dI t.1)], [some (.box [dV x1175, dI t.2.1]), some (sI t.2.2)]⟩)) (fun (t : Int × (List Int)) => ((Exit.exit 2), ⟨mkE 70 0 [], [some (.box [dV x1175, dI t.1]), some (sI t.2)]⟩))) := by
  refine Link.of fun K h => ?_
  simp only [spec_l20Fill_n6, wpO_bind, wpO_cond, wpO_map, wpO_some] at h
  exact Awp.of (by kernel_rfl) h

def spec_l20Fill_n7_l (n : Nat) (x1173 : Int) (x1248 : Int) (x1277 : Int) (x1175 : List Int) (x1264 : Int) (x1265 : List Int) := (link_loop (mk := fun (s : Int × Int × (List Int)) => ⟨mkE 70 0 [(0, .ptr 0 0), (1, .slc 1), (3, dI x1173), (10, dI x1248), (11, dI s.1)], [some (.box [dV x1175, dI s.2.1]), some (sI s.2.2)]⟩) (fin := (fun (t : Int × (List Int)) => ((Exit.exit 2), ⟨mkE 70 0 [], [some (.box [dV x1175, dI t.1]), some (sI t.2)]⟩))) (by
  rintro t f K h
  · exact h) (fun s => link_map (spec_l20Fill_n6_l n x1173 x1248 s.1 x1175 s.2.1 s.2.2) (Sum.elim (fun (t : Int × Int × (List Int)) => Sum.inl (t.1, t.2.1, t.2.2)) (fun (t : Int × (List Int)) => Sum.inr t)) (by
  rintro (t | t)
  · kernel_rfl
  · kernel_rfl)) (x1277, x1264, x1265))

def spec_l20Fill_n8_l (n : Nat) (x1173 : Int) (x1248 : Int) (x1277 : Int) (x1175 : List Int) (x1264 : Int) (x1265 : List Int) := (link_block (fin2 := (fun (t : Int × (List Int)) => (Exit.normal, ⟨mkE 70 0 [], [some (.box [dV x1175, dI t.1]), some (sI t.2)]⟩))) (id := 2) (spec_l20Fill_n7_l n x1173 x1248 x1277 x1175 x1264 x1265) (fun (t : Int × (List Int)) => (t.1, t.2)) (by
  rintro t K h
  · exact Eq.mp (by kernel_rfl) h))

def spec_l20Fill_n9_l (n : Nat) (x1173 : Int) (x1248 : Int) (x1175 : List Int) (x1264 : Int) (x1265 : List Int) := (link_seq (spec_l20Fill_n5_l n x1173 x1248 x1175 x1264 x1265) (fun (t : Int) => (spec_l20Fill_n8_l n x1173 x1248 t x1175 x1264 x1265)))

def spec_l20Fill_n10_l (n : Nat) (x1173 : Int) (x1248 : Int) (x1172 : Int) (x1175 : List Int) (x1247 : Int) (x1251 : List Int) := (link_seq (spec_l20Fill_n4_l n x1173 x1248 x1172 x1175 x1247 x1251) (fun (t : Int × (List Int)) => (spec_l20Fill_n9_l n x1173 x1248 x1175 t.1 t.2)))

def spec_l20Fill_n11_l (n : Nat) (x1172 : Int) (x1173 : Int) (x1174 : Int) (x1175 : List Int) (x1176 : Int) (x1177 : List Int) := (link_group (c := (cq [0,1,1,1] (bodyOf Tryd.f62))) (a := (aq [0,1,1,1] spec_l20Fill_an)) [(cq [0] (bodyOf Tryd.f62)), (cq [0,1] (bodyOf Tryd.f62)), (cq [0,1,1] (bodyOf Tryd.f62))] [(aq [0] spec_l20Fill_an), (aq [0,1] spec_l20Fill_an), (aq [0,1,1] spec_l20Fill_an)] rfl (link_seq2 (spec_l20Fill_n1_l n x1172 x1173 x1174 x1175 x1176 x1177) (fun (t : Int × Int × (List Int)) => (link_map (fin2 := (Sum.elim (fun (t : Int × (List Int)) => (Exit.normal, ⟨mkE 70 0 [], [some (.box [dV x1175, dI t.1]), some (sI t.2)]⟩)) (fun (t : Int × (List Int)) => (Exit.ret, ⟨mkE 70 0 [], [some (.box [dV x1175, dI t.1]), some (sI t.2)]⟩)))) (spec_l20Fill_n10_l n x1173 t.1 x1172 x1175 t.2.1 t.2.2) (fun (u : Int × (List Int)) => (Sum.inl (u.1, u.2))) (by
  rintro t
  · kernel_rfl))) (fun (t : Int × (List Int)) => (Sum.inr t)) (by
  rintro t
  · kernel_rfl) (by
  rintro t f K h
  · exact h)))

theorem spec_l20Fill_e (n : Nat) (x1172 : Int) (x1173 : Int) (x1174 : Int) (x1175 : List Int) (x1176 : Int) (x1177 : List Int) {r : AV} {H' : Heap} (h : (Ans.mk _ (spec_l20Fill_fuel (n + 1) x1172 x1173 x1174 x1175 x1176 x1177) (fun (t : Int × (List Int)) => (.tup [], [some (.box [dV x1175, dI t.1]), some (sI t.2)])) [] none).run = some (r, H')) : Awp (spec_l20Fill_ctx n) LL (bodyOf Tryd.f62) spec_l20Fill_an ⟨mkE 70 0 [(0, .ptr 0 0), (1, .slc 1), (2, dI x1172), (3, dI x1173), (4, dI x1174)], [some (.box [dV x1175, dI x1176]), some (sI x1177)]⟩ (Ret (tlook tys) Tryd.f62.results.toList r H') :=
  ret_of (Link.cast (by kernel_rfl) (by kernel_rfl) (spec_l20Fill_n11_l n x1172 x1173 x1174 x1175 x1176 x1177)) (Sum.elim (fun (t : Int × (List Int)) => (t.1, t.2)) (fun (t : Int × (List Int)) => t)) (by (show _ = _); kernel_rfl) (by
  rintro (t | t)
  · exact ret_mk [] (by kernel_rfl) (by kernel_rfl) (by kernel_rfl) (by kernel_rfl)
  · exact ret_mk [] (by kernel_rfl) (by kernel_rfl) (by kernel_rfl) (by kernel_rfl)) h

theorem spec_l20Fill_step (n : Nat) (h62 : Sound Tryd.prog 62 (F_spec_l20Fill_fuel n)) : Sound Tryd.prog 62 (F_spec_l20Fill_fuel (n + 1)) := by
  refine fn_sound' (C := spec_l20Fill_ctx n) (c := bodyOf Tryd.f62) (cok_of tys_ok (allc spec_l20Rd_pick_sound (allc h62 alln)) (allc Tryd.call34 (allc Tryd.call62 alln)) (by kernel_rfl)) Tryd.func62 (by kernel_rfl) LL spec_l20Fill_an ?_
  intro avs H r H' h
  unfold F_spec_l20Fill_fuel at h
  split at h
  · refine Awp.cast ?_ ?_ ?_ (spec_l20Fill_e n _ _ _ _ _ _ h) <;> kernel_rfl
  · simp [Ans.no, Ans.run] at h

theorem spec_l20Fill_null : Sound Tryd.prog 62 (F_spec_l20Fill_fuel 0) := by
  intro avs H r H' h
  unfold F_spec_l20Fill_fuel at h
  split at h
  · simp [spec_l20Fill_fuel, spec_l20Fill_knot, Ans.run] at h
  · simp [Ans.no, Ans.run] at h

theorem spec_l20Fill_knot_all : ∀ n, Sound Tryd.prog 62 (F_spec_l20Fill_fuel n)
  | 0 => spec_l20Fill_null
  | n + 1 => by
    have h62 := spec_l20Fill_knot_all n
    exact spec_l20Fill_step n h62

def F_spec_l20Fill : Fun := fun avs H =>
  match avs, H with
  | [.ptr 0 0, .slc 1, .dat (.int .i64) x1172, .dat (.int .i64) x1173, .dat (.int .i64) x1174], [some (.box [.dat (.list (.int .u8)) x1175, .dat (.int .i64) x1176]), some (.seq (.int .i64) x1177)] => ⟨_, spec_l20Fill x1172 x1173 x1174 x1175 x1176 x1177, fun (t : Int × (List Int)) => (.tup [], [some (.box [dV x1175, dI t.1]), some (sI t.2)]), [], none⟩
  | _, _ => Ans.no

theorem spec_l20Fill_sound : Sound Tryd.prog 62 F_spec_l20Fill := by
  have e : F_spec_l20Fill = F_spec_l20Fill_fuel RR := by
    funext avs H
    unfold F_spec_l20Fill F_spec_l20Fill_fuel
    split <;> first | rfl | (simp only [spec_l20Fill])
  rw [e]
  exact (spec_l20Fill_knot_all RR)


/-! loop.example/headtrees/spec.l20Flat -/

def spec_l20Flat_an : Ann := (.seq (.leaf [0, 1]) (.seq (.seq (.leaf [0, 1, 9]) (.cond (.seq (.leaf [4]) (.leaf [4])) (.leaf [0]))) (.seq (.leaf [0, 5]) (.seq (.leaf [0, 5, 6]) (.seq (.leaf [6]) (.seq (.leaf [4]) (.leaf [4])))))))

noncomputable def spec_l20Flat_ctx : Ctx := ⟨tlook tys, olook [(34, F_spec_l20Rd_pick), (33, F_spec_l20Tree), (62, F_spec_l20Fill)], ioF, 1, false, []⟩

theorem spec_l20Flat_n1_l (x1125 : Int) (x1126 : List Int) (x1127 : Int) : Link spec_l20Flat_ctx LL (bodyOf Tryd.f37) spec_l20Flat_an ⟨mkE 23 0 [(0, .ptr 0 0), (1, dI x1125)], [some (.box [dV x1126, dI x1127])]⟩ (spec_l20Flat_n1 x1125 x1126 x1127) (fun (t : Int × (List Int)) => (Exit.ret, ⟨mkE 23 0 [(4, .slc 1)], [some (.box [dV x1126, dI t.1]), some (sI t.2)]⟩)) := by
  refine Link.of fun K h => ?_
  simp only [spec_l20Flat_n1, wpO_bind, wpO_cond, wpO_map, wpO_some] at h
  exact Awp.of (by kernel_rfl) h

theorem spec_l20Flat_e (x1125 : Int) (x1126 : List Int) (x1127 : Int) {r : AV} {H' : Heap} (h : (Ans.mk _ (spec_l20Flat x1125 x1126 x1127) (fun (t : Int × (List Int)) => (.slc 1, [some (.box [dV x1126, dI t.1]), some (sI t.2)])) [] none).run = some (r, H')) : Awp spec_l20Flat_ctx LL (bodyOf Tryd.f37) spec_l20Flat_an ⟨mkE 23 0 [(0, .ptr 0 0), (1, dI x1125)], [some (.box [dV x1126, dI x1127])]⟩ (Ret (tlook tys) Tryd.f37.results.toList r H') :=
  ret_of' (spec_l20Flat_n1_l x1125 x1126 x1127) (by unfold spec_l20Flat; kernel_rfl) (by
  intro t
  exact ret_mk [.slc 1] (by kernel_rfl) (by kernel_rfl) (by kernel_rfl) (by kernel_rfl)) h

def F_spec_l20Flat : Fun := fun avs H =>
  match avs, H with
  | [.ptr 0 0, .dat (.int .i64) x1125], [some (.box [.dat (.list (.int .u8)) x1126, .dat (.int .i64) x1127])] => ⟨_, spec_l20Flat x1125 x1126 x1127, fun (t : Int × (List Int)) => (.slc 1, [some (.box [dV x1126, dI t.1]), some (sI t.2)]), [], none⟩
  | _, _ => Ans.no

theorem spec_l20Flat_sound : Sound Tryd.prog 37 F_spec_l20Flat := by
  refine fn_sound' (C := spec_l20Flat_ctx) (c := bodyOf Tryd.f37) (cok_of tys_ok (allc spec_l20Rd_pick_sound (allc spec_l20Tree_sound (allc spec_l20Fill_sound alln))) (allc Tryd.call34 (allc Tryd.call33 (allc Tryd.call62 alln))) (by kernel_rfl)) Tryd.func37 (by kernel_rfl) LL spec_l20Flat_an ?_
  intro avs H r H' h
  unfold F_spec_l20Flat at h
  split at h
  · refine Awp.cast ?_ ?_ ?_ (spec_l20Flat_e _ _ _ h) <;> kernel_rfl
  · simp [Ans.no, Ans.run] at h


/-! loop.example/headtrees/spec.l20Wild -/

def spec_l20Wild_an : Ann := (.seq (.leaf [0, 1]) (.seq (.leaf [0, 1, 5]) (.seq (.seq (.leaf [0, 1, 5, 17]) (.cond (.seq (.leaf [6]) (.seq (.leaf [4]) (.leaf [4]))) (.leaf [0, 1, 5]))) (.seq (.seq (.leaf [0, 1, 5, 30]) (.cond (.seq (.leaf [4]) (.leaf [4])) (.leaf [5]))) (.seq (.leaf [4]) (.leaf [4]))))))

noncomputable def spec_l20Wild_ctx : Ctx := ⟨tlook tys, olook [(33, F_spec_l20Tree), (34, F_spec_l20Rd_pick), (35, F_spec_TreeOk), (36, F_spec_l20Order), (21, F_spec_PutInOrder), (37, F_spec_l20Flat)], ioF, 1, false, []⟩

theorem spec_l20Wild_n1_l (x34 : Int) (x35 : List Int) (x36 : Int) : Link spec_l20Wild_ctx LL (bodyOf Tryd.f17) spec_l20Wild_an ⟨mkE 35 0 [(0, .ptr 0 0), (1, dI x34)], [some (.box [dV x35, dI x36])]⟩ (spec_l20Wild_n1 x34 x35 x36) (fun (t : Int × (List Int)) => (Exit.ret, ⟨mkE 35 0 [(4, .slc 1)], [some (.box [dV x35, dI t.1]), some (sI t.2)]⟩)) := by
  refine Link.of fun K h => ?_
  simp only [spec_l20Wild_n1, wpO_bind, wpO_cond, wpO_map, wpO_some] at h
  exact Awp.of (by kernel_rfl) h

theorem spec_l20Wild_e (x34 : Int) (x35 : List Int) (x36 : Int) {r : AV} {H' : Heap} (h : (Ans.mk _ (spec_l20Wild x34 x35 x36) (fun (t : Int × (List Int)) => (.slc 1, [some (.box [dV x35, dI t.1]), some (sI t.2)])) [] none).run = some (r, H')) : Awp spec_l20Wild_ctx LL (bodyOf Tryd.f17) spec_l20Wild_an ⟨mkE 35 0 [(0, .ptr 0 0), (1, dI x34)], [some (.box [dV x35, dI x36])]⟩ (Ret (tlook tys) Tryd.f17.results.toList r H') :=
  ret_of' (spec_l20Wild_n1_l x34 x35 x36) (by unfold spec_l20Wild; kernel_rfl) (by
  intro t
  exact ret_mk [.slc 1] (by kernel_rfl) (by kernel_rfl) (by kernel_rfl) (by kernel_rfl)) h

def F_spec_l20Wild : Fun := fun avs H =>
  match avs, H with
  | [.ptr 0 0, .dat (.int .i64) x34], [some (.box [.dat (.list (.int .u8)) x35, .dat (.int .i64) x36])] => ⟨_, spec_l20Wild x34 x35 x36, fun (t : Int × (List Int)) => (.slc 1, [some (.box [dV x35, dI t.1]), some (sI t.2)]), [], none⟩
  | _, _ => Ans.no

theorem spec_l20Wild_sound : Sound Tryd.prog 17 F_spec_l20Wild := by
  refine fn_sound' (C := spec_l20Wild_ctx) (c := bodyOf Tryd.f17) (cok_of tys_ok (allc spec_l20Tree_sound (allc spec_l20Rd_pick_sound (allc spec_TreeOk_sound (allc spec_l20Order_sound (allc spec_PutInOrder_sound (allc spec_l20Flat_sound alln)))))) (allc Tryd.call33 (allc Tryd.call34 (allc Tryd.call35 (allc Tryd.call36 (allc Tryd.call21 (allc Tryd.call37 alln)))))) (by kernel_rfl)) Tryd.func17 (by kernel_rfl) LL spec_l20Wild_an ?_
  intro avs H r H' h
  unfold F_spec_l20Wild at h
  split at h
  · refine Awp.cast ?_ ?_ ?_ (spec_l20Wild_e _ _ _ h) <;> kernel_rfl
  · simp [Ans.no, Ans.run] at h


/-! loop.example/headtrees/spec.DrawMadeFlat -/

def spec_DrawMadeFlat_an : Ann := (.seq (.leaf [0]) (.seq (.leaf [2]) (.leaf [2])))

noncomputable def spec_DrawMadeFlat_ctx : Ctx := ⟨tlook tys, olook [(18, F_spec_l20Open), (17, F_spec_l20Wild)], ioF, 0, false, []⟩

theorem spec_DrawMadeFlat_n1_l (x10 : List Int) : Link spec_DrawMadeFlat_ctx LL (bodyOf Tryd.f5) spec_DrawMadeFlat_an ⟨mkE 6 0 [(0, dV x10)], []⟩ (spec_DrawMadeFlat_n1 x10) (fun (t : (List Int)) => (Exit.ret, ⟨mkE 6 0 [(2, .slc 0)], [some (sI t)]⟩)) := by
  refine Link.of fun K h => ?_
  simp only [spec_DrawMadeFlat_n1, wpO_bind, wpO_cond, wpO_map, wpO_some] at h
  exact Awp.of (by kernel_rfl) h

theorem spec_DrawMadeFlat_e (x10 : List Int) {r : AV} {H' : Heap} (h : (Ans.mk _ (spec_DrawMadeFlat x10) (fun (t : (List Int)) => (.slc 0, [some (sI t)])) [] none).run = some (r, H')) : Awp spec_DrawMadeFlat_ctx LL (bodyOf Tryd.f5) spec_DrawMadeFlat_an ⟨mkE 6 0 [(0, dV x10)], []⟩ (Ret (tlook tys) Tryd.f5.results.toList r H') :=
  ret_of' (spec_DrawMadeFlat_n1_l x10) (by unfold spec_DrawMadeFlat; kernel_rfl) (by
  intro t
  exact ret_mk [.slc 0] (by kernel_rfl) (by kernel_rfl) (by kernel_rfl) (by kernel_rfl)) h

def F_spec_DrawMadeFlat : Fun := fun avs H =>
  match avs, H with
  | [.dat (.list (.int .u8)) x10], [] => ⟨_, spec_DrawMadeFlat x10, fun (t : (List Int)) => (.slc 0, [some (sI t)]), [], none⟩
  | _, _ => Ans.no

theorem spec_DrawMadeFlat_sound : Sound Tryd.prog 5 F_spec_DrawMadeFlat := by
  refine fn_sound' (C := spec_DrawMadeFlat_ctx) (c := bodyOf Tryd.f5) (cok_of tys_ok (allc spec_l20Open_sound (allc spec_l20Wild_sound alln)) (allc Tryd.call18 (allc Tryd.call17 alln)) (by kernel_rfl)) Tryd.func5 (by kernel_rfl) LL spec_DrawMadeFlat_an ?_
  intro avs H r H' h
  unfold F_spec_DrawMadeFlat at h
  split at h
  · refine Awp.cast ?_ ?_ ?_ (spec_DrawMadeFlat_e _ h) <;> kernel_rfl
  · simp [Ans.no, Ans.run] at h


/-! loop.example/headtrees/impl.oneRoot -/

def impl_oneRoot_an : Ann := (.seq (.leaf [0]) (.seq (.leaf [0, 3]) (.seq (.seq (.leaf [0, 3, 6, 7, 8]) (.block (.loop (.seq (.leaf [0, 3, 6, 7, 8, 9]) (.seq (.cond (.leaf [0, 3, 6, 7, 8]) (.leaf [3])) (.seq (.block (.seq (.leaf [0, 3, 5, 6, 7, 8]) (.seq (.seq (.leaf [0, 3, 5, 6, 7, 8, 19]) (.cond (.seq (.leaf [2]) (.leaf [2])) (.leaf [0, 3, 5, 6, 7, 8]))) (.seq (.leaf [0, 3, 6, 7, 8, 21]) (.cond (.leaf [0, 3, 6, 7, 8]) (.leaf [0, 3, 6, 7, 8])))))) (.leaf [0, 3, 6, 7, 8]))))))) (.seq (.leaf [2]) (.leaf [2])))))

noncomputable def impl_oneRoot_ctx : Ctx := ⟨tlook tys, olook [], ioF, 0, false, []⟩

theorem impl_oneRoot_n1_l (x1432 : List Int) : Link impl_oneRoot_ctx LL (Code.seq (cq [0] (bodyOf Tryd.f23)) (cq [0,1] (bodyOf Tryd.f23))) (Ann.seq (aq [0] impl_oneRoot_an) (aq [0,1] impl_oneRoot_an)) ⟨mkE 27 0 [(0, dL x1432)], []⟩ (impl_oneRoot_n1) (fun (t : Unit) => (Exit.normal, ⟨mkE 27 0 [(0, dL x1432), (3, dI 0)], []⟩)) := by
  refine Link.of fun K h => ?_
  simp only [impl_oneRoot_n1, wpO_bind, wpO_cond, wpO_map, wpO_some] at h
  exact Awp.of (by kernel_rfl) h

theorem impl_oneRoot_n2_l (x1432 : List Int) : Link impl_oneRoot_ctx LL (cq [0,0,1,1] (bodyOf Tryd.f23)) (aq [0,0,1,1] impl_oneRoot_an) ⟨mkE 27 0 [(0, dL x1432), (3, dI 0)], []⟩ (impl_oneRoot_n2 x1432) (fun (t : Int) => (Exit.normal, ⟨mkE 27 0 [(0, dL x1432), (3, dI 0), (6, dL x1432), (7, dI t), (8, dI 0)], []⟩)) := by
  refine Link.of fun K h => ?_
  simp only [impl_oneRoot_n2, wpO_bind, wpO_cond, wpO_map, wpO_some] at h
  exact Awp.of (by kernel_rfl) h

theorem impl_oneRoot_n3_l (x1432 : List Int) (x1454 : Int) (x1433 : Int) (x1455 : Int) : Link impl_oneRoot_ctx LL (cq [0,0,1,0,1,1] (bodyOf Tryd.f23)) (aq [0,0,1,0,1,1] impl_oneRoot_an) ⟨mkE 27 0 [(0, dL x1432), (3, dI x1454), (6, dL x1432), (7, dI x1433), (8, dI x1455)], []⟩ (impl_oneRoot_n3 x1432 x1454 x1433 x1455) (Sum.elim (fun (t : Int × Int) => (Exit.normal, ⟨mkE 27 0 [(0, dL x1432), (3, dI t.1), (6, dL x1432), (7, dI x1433), (8, dI t.2)], []⟩)) (Sum.elim (fun (t : Bool) => (Exit.ret, ⟨mkE 27 0 [(2, dB t)], []⟩)) (fun (t : Int) => ((Exit.exit 0), ⟨mkE 27 0 [(3, dI t)], []⟩)))) := by
  refine Link.of fun K h => ?_
  simp only [impl_oneRoot_n3, wpO_bind, wpO_cond, wpO_map, wpO_some] at h
  exact Awp.of (by kernel_rfl) h

def impl_oneRoot_n4_l (x1432 : List Int) (x1433 : Int) := (link_loop (mk := fun (s : Int × Int) => ⟨mkE 27 0 [(0, dL x1432), (3, dI s.1), (6, dL x1432), (7, dI x1433), (8, dI s.2)], []⟩) (fin := (Sum.elim (fun (t : Bool) => (Exit.ret, ⟨mkE 27 0 [(2, dB t)], []⟩)) (fun (t : Int) => ((Exit.exit 0), ⟨mkE 27 0 [(3, dI t)], []⟩)))) (by
  rintro (t | t) f K h
  · exact h
  · exact h) (fun s => link_map (impl_oneRoot_n3_l x1432 s.1 x1433 s.2) (Sum.elim (fun (t : Int × Int) => Sum.inl (t.1, t.2)) (Sum.elim (fun (t : Bool) => Sum.inr (Sum.inl t)) (fun (t : Int) => Sum.inr (Sum.inr t)))) (by
  rintro (t | t | t)
  · kernel_rfl
  · kernel_rfl
  · kernel_rfl)) (0, 0))

def impl_oneRoot_n5_l (x1432 : List Int) (x1433 : Int) := (link_block (fin2 := (Sum.elim (fun (t : Int) => (Exit.normal, ⟨mkE 27 0 [(3, dI t)], []⟩)) (fun (t : Bool) => (Exit.ret, ⟨mkE 27 0 [(2, dB t)], []⟩)))) (id := 0) (impl_oneRoot_n4_l x1432 x1433) (Sum.elim (fun (t : Bool) => (Sum.inr t)) (fun (t : Int) => (Sum.inl t))) (by
  rintro (t | t) K h
  · exact Eq.mp (by kernel_rfl) h
  · exact Eq.mp (by kernel_rfl) h))

def impl_oneRoot_n6_l (x1432 : List Int) := (link_seq (impl_oneRoot_n2_l x1432) (fun (t : Int) => (impl_oneRoot_n5_l x1432 t)))

theorem impl_oneRoot_n7_l (x1454 : Int) : Link impl_oneRoot_ctx LL (cq [1,1,1] (bodyOf Tryd.f23)) (aq [1,1,1] impl_oneRoot_an) ⟨mkE 27 0 [(3, dI x1454)], []⟩ (impl_oneRoot_n7 x1454) (fun (t : Bool) => (Exit.ret, ⟨mkE 27 0 [(2, dB t)], []⟩)) := by
  refine Link.of fun K h => ?_
  simp only [impl_oneRoot_n7, wpO_bind, wpO_cond, wpO_map, wpO_some] at h
  exact Awp.of (by kernel_rfl) h

def impl_oneRoot_n8_l (x1432 : List Int) := (link_seq2 (impl_oneRoot_n6_l x1432) (fun (t : Int) => (impl_oneRoot_n7_l t)) (fun (t : Bool) => t) (by
  rintro t
  · kernel_rfl) (by
  rintro t f K h
  · exact h))

def impl_oneRoot_n9_l (x1432 : List Int) := (link_group (c := (cq [0,1] (bodyOf Tryd.f23))) (a := (aq [0,1] impl_oneRoot_an)) [(cq [0] (bodyOf Tryd.f23))] [(aq [0] impl_oneRoot_an)] rfl (link_seq (impl_oneRoot_n1_l x1432) (fun (t : Unit) => (impl_oneRoot_n8_l x1432))))

theorem impl_oneRoot_e (x1432 : List Int) {r : AV} {H' : Heap} (h : (Ans.mk _ (impl_oneRoot x1432) (fun (t : Bool) => (dB t, [])) [] none).run = some (r, H')) : Awp impl_oneRoot_ctx LL (bodyOf Tryd.f23) impl_oneRoot_an ⟨mkE 27 0 [(0, dL x1432)], []⟩ (Ret (tlook tys) Tryd.f23.results.toList r H') :=
  ret_of' (Link.cast (by kernel_rfl) (by kernel_rfl) (impl_oneRoot_n9_l x1432)) (by unfold impl_oneRoot; kernel_rfl) (by
  intro t
  exact ret_mk [dB t] (by kernel_rfl) (by kernel_rfl) (by kernel_rfl) (by kernel_rfl)) h

def F_impl_oneRoot : Fun := fun avs H =>
  match avs, H with
  | [.dat (.list (.int .i64)) x1432], [] => ⟨_, impl_oneRoot x1432, fun (t : Bool) => (dB t, []), [], none⟩
  | _, _ => Ans.no

theorem impl_oneRoot_sound : Sound Tryd.prog 23 F_impl_oneRoot := by
  refine fn_sound' (C := impl_oneRoot_ctx) (c := bodyOf Tryd.f23) (cok_of tys_ok (alln) (alln) (by kernel_rfl)) Tryd.func23 (by kernel_rfl) LL impl_oneRoot_an ?_
  intro avs H r H' h
  unfold F_impl_oneRoot at h
  split at h
  · refine Awp.cast ?_ ?_ ?_ (impl_oneRoot_e _ h) <;> kernel_rfl
  · simp [Ans.no, Ans.run] at h


/-! (*loop.example/headtrees/impl.walker).up -/

def impl_walker_up_an : Ann := (.seq (.leaf [0]) (.seq (.draw [] [0, 1, 2, 3, 4, 5, 6, 7, 8, 9, 10, 11] [] [0, 3]) (.seq (.seq (.leaf [0, 3, 16]) (.cond (.seq (.leaf [2]) (.leaf [2])) (.leaf [0, 3]))) (.seq (.leaf [0]) (.seq (.leaf []) (.seq (.leaf [2]) (.leaf [2])))))))

noncomputable def impl_walker_up_ctx : Ctx := ⟨tlook tys, olook [], ioF, 1, false, []⟩

theorem impl_walker_up_n1_l (x1488 : List Int) (x1489 : Int) (x1490 : Int) : Link impl_walker_up_ctx LL (bodyOf Tryd.f47) impl_walker_up_an ⟨mkE 28 0 [(0, .ptr 0 0)], [some (.box [dL x1488, dI x1489, dI x1490])]⟩ (impl_walker_up_n1 x1488 x1489 x1490) (fun (t : Bool × Int × Int) => (Exit.ret, ⟨mkE 28 0 [(2, dB t.1)], [some (.box [dL x1488, dI t.2.1, dI t.2.2])]⟩)) := by
  refine Link.of fun K h => ?_
  simp only [impl_walker_up_n1, wpO_bind, wpO_cond, wpO_map, wpO_some] at h
  exact Awp.of (by kernel_rfl) h

theorem impl_walker_up_e (x1488 : List Int) (x1489 : Int) (x1490 : Int) {r : AV} {H' : Heap} (h : (Ans.mk _ (impl_walker_up x1488 x1489 x1490) (fun (t : Bool × Int × Int) => (dB t.1, [some (.box [dL x1488, dI t.2.1, dI t.2.2])])) [] none).run = some (r, H')) : Awp impl_walker_up_ctx LL (bodyOf Tryd.f47) impl_walker_up_an ⟨mkE 28 0 [(0, .ptr 0 0)], [some (.box [dL x1488, dI x1489, dI x1490])]⟩ (Ret (tlook tys) Tryd.f47.results.toList r H') :=
  ret_of' (impl_walker_up_n1_l x1488 x1489 x1490) (by unfold impl_walker_up; kernel_rfl) (by
  intro t
  exact ret_mk [dB t.1] (by kernel_rfl) (by kernel_rfl) (by kernel_rfl) (by kernel_rfl)) h

def F_impl_walker_up : Fun := fun avs H =>
  match avs, H with
  | [.ptr 0 0], [some (.box [.dat (.list (.int .i64)) x1488, .dat (.int .i64) x1489, .dat (.int .i64) x1490])] => ⟨_, impl_walker_up x1488 x1489 x1490, fun (t : Bool × Int × Int) => (dB t.1, [some (.box [dL x1488, dI t.2.1, dI t.2.2])]), [], none⟩
  | _, _ => Ans.no

theorem impl_walker_up_sound : Sound Tryd.prog 47 F_impl_walker_up := by
  refine fn_sound' (C := impl_walker_up_ctx) (c := bodyOf Tryd.f47) (cok_of tys_ok (alln) (alln) (by kernel_rfl)) Tryd.func47 (by kernel_rfl) LL impl_walker_up_an ?_
  intro avs H r H' h
  unfold F_impl_walker_up at h
  split at h
  · refine Awp.cast ?_ ?_ ?_ (impl_walker_up_e _ _ _ h) <;> kernel_rfl
  · simp [Ans.no, Ans.run] at h


/-! loop.example/headtrees/impl.stepsToRoot -/

def impl_stepsToRoot_an : Ann := (.seq (.leaf [0, 1]) (.seq (.leaf [0, 6]) (.seq (.block (.loop (.seq (.seq (.leaf [0, 6, 10]) (.cond (.leaf [0, 6]) (.leaf [6]))) (.block (.seq (.leaf [0, 6, 15]) (.cond (.seq (.leaf [4, 5]) (.leaf [4, 5])) (.leaf [0, 6]))))))) (.seq (.leaf [4, 5]) (.leaf [4, 5])))))

noncomputable def impl_stepsToRoot_ctx : Ctx := ⟨tlook tys, olook [(47, F_impl_walker_up)], ioF, 0, false, []⟩

theorem impl_stepsToRoot_n1_l (x1486 : List Int) (x1487 : Int) : Link impl_stepsToRoot_ctx LL (Code.seq (cq [0] (bodyOf Tryd.f24)) (cq [0,1] (bodyOf Tryd.f24))) (Ann.seq (aq [0] impl_stepsToRoot_an) (aq [0,1] impl_stepsToRoot_an)) ⟨mkE 18 0 [(0, dL x1486), (1, dI x1487)], []⟩ (impl_stepsToRoot_n1) (fun (t : Unit) => (Exit.normal, ⟨mkE 18 0 [(0, dL x1486), (6, .ptr 0 0)], [some (.box [dL x1486, dI x1487, dI 0])]⟩)) := by
  refine Link.of fun K h => ?_
  simp only [impl_stepsToRoot_n1, wpO_bind, wpO_cond, wpO_map, wpO_some] at h
  exact Awp.of (by kernel_rfl) h

theorem impl_stepsToRoot_n2_l (x1486 : List Int) (x1524 : Int) (x1525 : Int) : Link impl_stepsToRoot_ctx LL (cq [0,0,0,1,1] (bodyOf Tryd.f24)) (aq [0,0,0,1,1] impl_stepsToRoot_an) ⟨mkE 18 0 [(0, dL x1486), (6, .ptr 0 0)], [some (.box [dL x1486, dI x1524, dI x1525])]⟩ (impl_stepsToRoot_n2 x1486 x1524 x1525) (Sum.elim (fun (t : Int × Int) => (Exit.normal, ⟨mkE 18 0 [(0, dL x1486), (6, .ptr 0 0)], [some (.box [dL x1486, dI t.1, dI t.2])]⟩)) (Sum.elim (fun (t : Int × Bool) => (Exit.ret, ⟨mkE 18 0 [(4, dI t.1), (5, dB t.2)], []⟩)) (fun (t : Int × Int) => ((Exit.exit 0), ⟨mkE 18 0 [(6, .ptr 0 0)], [some (.box [dL x1486, dI t.1, dI t.2])]⟩)))) := by
  refine Link.of fun K h => ?_
  simp only [impl_stepsToRoot_n2, wpO_bind, wpO_cond, wpO_map, wpO_some] at h
  exact Awp.of (by kernel_rfl) h

def impl_stepsToRoot_n3_l (x1486 : List Int) (x1487 : Int) := (link_loop (mk := fun (s : Int × Int) => ⟨mkE 18 0 [(0, dL x1486), (6, .ptr 0 0)], [some (.box [dL x1486, dI s.1, dI s.2])]⟩) (fin := (Sum.elim (fun (t : Int × Bool) => (Exit.ret, ⟨mkE 18 0 [(4, dI t.1), (5, dB t.2)], []⟩)) (fun (t : Int × Int) => ((Exit.exit 0), ⟨mkE 18 0 [(6, .ptr 0 0)], [some (.box [dL x1486, dI t.1, dI t.2])]⟩)))) (by
  rintro (t | t) f K h
  · exact h
  · exact h) (fun s => link_map (impl_stepsToRoot_n2_l x1486 s.1 s.2) (Sum.elim (fun (t : Int × Int) => Sum.inl (t.1, t.2)) (Sum.elim (fun (t : Int × Bool) => Sum.inr (Sum.inl t)) (fun (t : Int × Int) => Sum.inr (Sum.inr t)))) (by
  rintro (t | t | t)
  · kernel_rfl
  · kernel_rfl
  · kernel_rfl)) (x1487, 0))

def impl_stepsToRoot_n4_l (x1486 : List Int) (x1487 : Int) := (link_block (fin2 := (Sum.elim (fun (t : Int × Int) => (Exit.normal, ⟨mkE 18 0 [(6, .ptr 0 0)], [some (.box [dL x1486, dI t.1, dI t.2])]⟩)) (fun (t : Int × Bool) => (Exit.ret, ⟨mkE 18 0 [(4, dI t.1), (5, dB t.2)], []⟩)))) (id := 0) (impl_stepsToRoot_n3_l x1486 x1487) (Sum.elim (fun (t : Int × Bool) => (Sum.inr t)) (fun (t : Int × Int) => (Sum.inl (t.1, t.2)))) (by
  rintro (t | t) K h
  · exact Eq.mp (by kernel_rfl) h
  · exact Eq.mp (by kernel_rfl) h))

theorem impl_stepsToRoot_n5_l (x1486 : List Int) (x1532 : Int) (x1533 : Int) : Link impl_stepsToRoot_ctx LL (cq [1,1,1] (bodyOf Tryd.f24)) (aq [1,1,1] impl_stepsToRoot_an) ⟨mkE 18 0 [(6, .ptr 0 0)], [some (.box [dL x1486, dI x1532, dI x1533])]⟩ (impl_stepsToRoot_n5 x1533) (fun (t : Int × Bool) => (Exit.ret, ⟨mkE 18 0 [(4, dI t.1), (5, dB t.2)], []⟩)) := by
  refine Link.of fun K h => ?_
  simp only [impl_stepsToRoot_n5, wpO_bind, wpO_cond, wpO_map, wpO_some] at h
  exact Awp.of (by kernel_rfl) h

def impl_stepsToRoot_n6_l (x1486 : List Int) (x1487 : Int) := (link_seq2 (impl_stepsToRoot_n4_l x1486 x1487) (fun (t : Int × Int) => (impl_stepsToRoot_n5_l x1486 t.1 t.2)) (fun (t : Int × Bool) => t) (by
  rintro t
  · kernel_rfl) (by
  rintro t f K h
  · exact h))

def impl_stepsToRoot_n7_l (x1486 : List Int) (x1487 : Int) := (link_group (c := (cq [0,1] (bodyOf Tryd.f24))) (a := (aq [0,1] impl_stepsToRoot_an)) [(cq [0] (bodyOf Tryd.f24))] [(aq [0] impl_stepsToRoot_an)] rfl (link_seq (impl_stepsToRoot_n1_l x1486 x1487) (fun (t : Unit) => (impl_stepsToRoot_n6_l x1486 x1487))))

theorem impl_stepsToRoot_e (x1486 : List Int) (x1487 : Int) {r : AV} {H' : Heap} (h : (Ans.mk _ (impl_stepsToRoot x1486 x1487) (fun (t : Int × Bool) => (.tup [dI t.1, dB t.2], [])) [] none).run = some (r, H')) : Awp impl_stepsToRoot_ctx LL (bodyOf Tryd.f24) impl_stepsToRoot_an ⟨mkE 18 0 [(0, dL x1486), (1, dI x1487)], []⟩ (Ret (tlook tys) Tryd.f24.results.toList r H') :=
  ret_of' (Link.cast (by kernel_rfl) (by kernel_rfl) (impl_stepsToRoot_n7_l x1486 x1487)) (by unfold impl_stepsToRoot; kernel_rfl) (by
  intro t
  exact ret_mk [dI t.1, dB t.2] (by kernel_rfl) (by kernel_rfl) (by kernel_rfl) (by kernel_rfl)) h

def F_impl_stepsToRoot : Fun := fun avs H =>
  match avs, H with
  | [.dat (.list (.int .i64)) x1486, .dat (.int .i64) x1487], [] => ⟨_, impl_stepsToRoot x1486 x1487, fun (t : Int × Bool) => (.tup [dI t.1, dB t.2], []), [], none⟩
  | _, _ => Ans.no

theorem impl_stepsToRoot_sound : Sound Tryd.prog 24 F_impl_stepsToRoot := by
  refine fn_sound' (C := impl_stepsToRoot_ctx) (c := bodyOf Tryd.f24) (cok_of tys_ok (allc impl_walker_up_sound alln) (allc Tryd.call47 alln) (by kernel_rfl)) Tryd.func24 (by kernel_rfl) LL impl_stepsToRoot_an ?_
  intro avs H r H' h
  unfold F_impl_stepsToRoot at h
  split at h
  · refine Awp.cast ?_ ?_ ?_ (impl_stepsToRoot_e _ _ h) <;> kernel_rfl
  · simp [Ans.no, Ans.run] at h


/-! loop.example/headtrees/impl.TreeOk -/

def impl_TreeOk_an : Ann := (.seq (.leaf [0]) (.seq (.seq (.leaf [0, 18]) (.cond (.seq (.leaf [2]) (.leaf [2])) (.leaf [0]))) (.seq (.seq (.leaf [0, 20, 21]) (.block (.loop (.seq (.leaf [0, 20, 21, 22]) (.seq (.cond (.leaf [0, 20, 21]) (.leaf [])) (.seq (.block (.seq (.leaf [0, 3, 20, 21]) (.seq (.leaf [0, 5, 20, 21]) (.seq (.leaf [0, 20, 21, 32]) (.cond (.seq (.leaf [2]) (.leaf [2])) (.leaf [0, 20, 21])))))) (.leaf [0, 20, 21]))))))) (.seq (.leaf [2]) (.leaf [2])))))

noncomputable def impl_TreeOk_ctx : Ctx := ⟨tlook tys, olook [(23, F_impl_oneRoot), (24, F_impl_stepsToRoot)], ioF, 0, false, []⟩

theorem impl_TreeOk_n1_l (x1427 : List Int) : Link impl_TreeOk_ctx LL (Code.seq (cq [0] (bodyOf Tryd.f9)) (cq [0,1] (bodyOf Tryd.f9))) (Ann.seq (aq [0] impl_TreeOk_an) (aq [0,1] impl_TreeOk_an)) ⟨mkE 34 0 [(0, dL x1427)], []⟩ (impl_TreeOk_n1 x1427) (Sum.elim (fun (t : Unit) => (Exit.normal, ⟨mkE 34 0 [(0, dL x1427)], []⟩)) (fun (t : Bool) => (Exit.ret, ⟨mkE 34 0 [(2, dB t)], []⟩))) := by
  refine Link.of fun K h => ?_
  simp only [impl_TreeOk_n1, wpO_bind, wpO_cond, wpO_map, wpO_some] at h
  exact Awp.of (by kernel_rfl) h

theorem impl_TreeOk_n2_l (x1427 : List Int) : Link impl_TreeOk_ctx LL (cq [0,0,1,1] (bodyOf Tryd.f9)) (aq [0,0,1,1] impl_TreeOk_an) ⟨mkE 34 0 [(0, dL x1427)], []⟩ (impl_TreeOk_n2 x1427) (fun (t : Int) => (Exit.normal, ⟨mkE 34 0 [(0, dL x1427), (20, dI t), (21, dI 0)], []⟩)) := by
  refine Link.of fun K h => ?_
  simp only [impl_TreeOk_n2, wpO_bind, wpO_cond, wpO_map, wpO_some] at h
  exact Awp.of (by kernel_rfl) h

theorem impl_TreeOk_n3_l (x1427 : List Int) (x1481 : Int) (x1549 : Int) : Link impl_TreeOk_ctx LL (cq [0,0,1,0,1,1] (bodyOf Tryd.f9)) (aq [0,0,1,0,1,1] impl_TreeOk_an) ⟨mkE 34 0 [(0, dL x1427), (20, dI x1481), (21, dI x1549)], []⟩ (impl_TreeOk_n3 x1427 x1481 x1549) (Sum.elim (fun (t : Int) => (Exit.normal, ⟨mkE 34 0 [(0, dL x1427), (20, dI x1481), (21, dI t)], []⟩)) (Sum.elim (fun (t : Bool) => (Exit.ret, ⟨mkE 34 0 [(2, dB t)], []⟩)) (fun (t : Unit) => ((Exit.exit 0), ⟨mkE 34 0 [], []⟩)))) := by
  refine Link.of fun K h => ?_
  simp only [impl_TreeOk_n3, wpO_bind, wpO_cond, wpO_map, wpO_some] at h
  exact Awp.of (by kernel_rfl) h

def impl_TreeOk_n4_l (x1427 : List Int) (x1481 : Int) := (link_loop (mk := fun (s : Int) => ⟨mkE 34 0 [(0, dL x1427), (20, dI x1481), (21, dI s)], []⟩) (fin := (Sum.elim (fun (t : Bool) => (Exit.ret, ⟨mkE 34 0 [(2, dB t)], []⟩)) (fun (t : Unit) => ((Exit.exit 0), ⟨mkE 34 0 [], []⟩)))) (by
  rintro (t | t) f K h
  · exact h
  · exact h) (fun s => link_map (impl_TreeOk_n3_l x1427 x1481 s) (Sum.elim (fun (t : Int) => Sum.inl t) (Sum.elim (fun (t : Bool) => Sum.inr (Sum.inl t)) (fun (t : Unit) => Sum.inr (Sum.inr t)))) (by
  rintro (t | t | t)
  · kernel_rfl
  · kernel_rfl
  · kernel_rfl)) 0)

def impl_TreeOk_n5_l (x1427 : List Int) (x1481 : Int) := (link_block (fin2 := (Sum.elim (fun (t : Unit) => (Exit.normal, ⟨mkE 34 0 [], []⟩)) (fun (t : Bool) => (Exit.ret, ⟨mkE 34 0 [(2, dB t)], []⟩)))) (id := 0) (impl_TreeOk_n4_l x1427 x1481) (Sum.elim (fun (t : Bool) => (Sum.inr t)) (fun (t : Unit) => (Sum.inl ()))) (by
  rintro (t | t) K h
  · exact Eq.mp (by kernel_rfl) h
  · exact Eq.mp (by kernel_rfl) h))

def impl_TreeOk_n6_l (x1427 : List Int) := (link_seq (impl_TreeOk_n2_l x1427) (fun (t : Int) => (impl_TreeOk_n5_l x1427 t)))

theorem impl_TreeOk_n7_l : Link impl_TreeOk_ctx LL (cq [1,1,1] (bodyOf Tryd.f9)) (aq [1,1,1] impl_TreeOk_an) ⟨mkE 34 0 [], []⟩ (impl_TreeOk_n7) (fun (t : Bool) => (Exit.ret, ⟨mkE 34 0 [(2, dB t)], []⟩)) := by
  refine Link.of fun K h => ?_
  simp only [impl_TreeOk_n7, wpO_bind, wpO_cond, wpO_map, wpO_some] at h
  exact Awp.of (by kernel_rfl) h

def impl_TreeOk_n8_l (x1427 : List Int) := (link_seq2 (impl_TreeOk_n6_l x1427) (fun (t : Unit) => (impl_TreeOk_n7_l)) (fun (t : Bool) => t) (by
  rintro t
  · kernel_rfl) (by
  rintro t f K h
  · exact h))

def impl_TreeOk_n9_l (x1427 : List Int) := (link_group (c := (cq [0,1] (bodyOf Tryd.f9))) (a := (aq [0,1] impl_TreeOk_an)) [(cq [0] (bodyOf Tryd.f9))] [(aq [0] impl_TreeOk_an)] rfl (link_seq2 (impl_TreeOk_n1_l x1427) (fun (t : Unit) => (impl_TreeOk_n8_l x1427)) (fun (t : Bool) => t) (by
  rintro t
  · kernel_rfl) (by
  rintro t f K h
  · exact h)))

theorem impl_TreeOk_e (x1427 : List Int) {r : AV} {H' : Heap} (h : (Ans.mk _ (impl_TreeOk x1427) (fun (t : Bool) => (dB t, [])) [] none).run = some (r, H')) : Awp impl_TreeOk_ctx LL (bodyOf Tryd.f9) impl_TreeOk_an ⟨mkE 34 0 [(0, dL x1427)], []⟩ (Ret (tlook tys) Tryd.f9.results.toList r H') :=
  ret_of' (Link.cast (by kernel_rfl) (by kernel_rfl) (impl_TreeOk_n9_l x1427)) (by unfold impl_TreeOk; kernel_rfl) (by
  intro t
  exact ret_mk [dB t] (by kernel_rfl) (by kernel_rfl) (by kernel_rfl) (by kernel_rfl)) h

def F_impl_TreeOk : Fun := fun avs H =>
  match avs, H with
  | [.dat (.list (.int .i64)) x1427], [] => ⟨_, impl_TreeOk x1427, fun (t : Bool) => (dB t, []), [], none⟩
  | _, _ => Ans.no

theorem impl_TreeOk_sound : Sound Tryd.prog 9 F_impl_TreeOk := by
  refine fn_sound' (C := impl_TreeOk_ctx) (c := bodyOf Tryd.f9) (cok_of tys_ok (allc impl_oneRoot_sound (allc impl_stepsToRoot_sound alln)) (allc Tryd.call23 (allc Tryd.call24 alln)) (by kernel_rfl)) Tryd.func9 (by kernel_rfl) LL impl_TreeOk_an ?_
  intro avs H r H' h
  unfold F_impl_TreeOk at h
  split at h
  · refine Awp.cast ?_ ?_ ?_ (impl_TreeOk_e _ h) <;> kernel_rfl
  · simp [Ans.no, Ans.run] at h


/-! loop.example/headtrees/impl.RootOf -/

def impl_RootOf_an : Ann := (.seq (.leaf [0]) (.seq (.seq (.leaf [0, 6]) (.cond (.seq (.leaf [2]) (.leaf [2])) (.leaf [0]))) (.seq (.leaf [3]) (.seq (.block (.loop (.seq (.seq (.leaf [3, 9]) (.cond (.leaf [3]) (.leaf [3]))) (.block (.leaf [3]))))) (.seq (.leaf [2]) (.leaf [2]))))))

noncomputable def impl_RootOf_ctx : Ctx := ⟨tlook tys, olook [(9, F_impl_TreeOk), (47, F_impl_walker_up)], ioF, 0, false, []⟩

theorem impl_RootOf_n1_l (x1571 : List Int) : Link impl_RootOf_ctx LL (Code.seq (cq [0] (bodyOf Tryd.f43)) (Code.seq (cq [0,1] (bodyOf Tryd.f43)) (cq [0,1,1] (bodyOf Tryd.f43)))) (Ann.seq (aq [0] impl_RootOf_an) (Ann.seq (aq [0,1] impl_RootOf_an) (aq [0,1,1] impl_RootOf_an))) ⟨mkE 12 0 [(0, dL x1571)], []⟩ (impl_RootOf_n1 x1571) (Sum.elim (fun (t : Unit) => (Exit.normal, ⟨mkE 12 0 [(3, .ptr 0 0)], [some (.box [dL x1571, dI 1, dI 0])]⟩)) (fun (t : Int) => (Exit.ret, ⟨mkE 12 0 [(2, dI t)], []⟩))) := by
  refine Link.of fun K h => ?_
  simp only [impl_RootOf_n1, wpO_bind, wpO_cond, wpO_map, wpO_some] at h
  exact Awp.of (by kernel_rfl) h

theorem impl_RootOf_n2_l (x1571 : List Int) (x1584 : Int) (x1585 : Int) : Link impl_RootOf_ctx LL (cq [0,0,0,1,1,1] (bodyOf Tryd.f43)) (aq [0,0,0,1,1,1] impl_RootOf_an) ⟨mkE 12 0 [(3, .ptr 0 0)], [some (.box [dL x1571, dI x1584, dI x1585])]⟩ (impl_RootOf_n2 x1571 x1584 x1585) (Sum.elim (fun (t : Int × Int) => (Exit.normal, ⟨mkE 12 0 [(3, .ptr 0 0)], [some (.box [dL x1571, dI t.1, dI t.2])]⟩)) (fun (t : Int × Int) => ((Exit.exit 0), ⟨mkE 12 0 [(3, .ptr 0 0)], [some (.box [dL x1571, dI t.1, dI t.2])]⟩))) := by
  refine Link.of fun K h => ?_
  simp only [impl_RootOf_n2, wpO_bind, wpO_cond, wpO_map, wpO_some] at h
  exact Awp.of (by kernel_rfl) h

def impl_RootOf_n3_l (x1571 : List Int) := (link_loop (mk := fun (s : Int × Int) => ⟨mkE 12 0 [(3, .ptr 0 0)], [some (.box [dL x1571, dI s.1, dI s.2])]⟩) (fin := (fun (t : Int × Int) => ((Exit.exit 0), ⟨mkE 12 0 [(3, .ptr 0 0)], [some (.box [dL x1571, dI t.1, dI t.2])]⟩))) (by
  rintro t f K h
  · exact h) (fun s => link_map (impl_RootOf_n2_l x1571 s.1 s.2) (Sum.elim (fun (t : Int × Int) => Sum.inl (t.1, t.2)) (fun (t : Int × Int) => Sum.inr t)) (by
  rintro (t | t)
  · kernel_rfl
  · kernel_rfl)) (1, 0))

def impl_RootOf_n4_l (x1571 : List Int) := (link_block (fin2 := (fun (t : Int × Int) => (Exit.normal, ⟨mkE 12 0 [(3, .ptr 0 0)], [some (.box [dL x1571, dI t.1, dI t.2])]⟩))) (id := 0) (impl_RootOf_n3_l x1571) (fun (t : Int × Int) => (t.1, t.2)) (by
  rintro t K h
  · exact Eq.mp (by kernel_rfl) h))

theorem impl_RootOf_n5_l (x1571 : List Int) (x1592 : Int) (x1593 : Int) : Link impl_RootOf_ctx LL (cq [1,1,1,1] (bodyOf Tryd.f43)) (aq [1,1,1,1] impl_RootOf_an) ⟨mkE 12 0 [(3, .ptr 0 0)], [some (.box [dL x1571, dI x1592, dI x1593])]⟩ (impl_RootOf_n5 x1592) (fun (t : Int) => (Exit.ret, ⟨mkE 12 0 [(2, dI t)], []⟩)) := by
  refine Link.of fun K h => ?_
  simp only [impl_RootOf_n5, wpO_bind, wpO_cond, wpO_map, wpO_some] at h
  exact Awp.of (by kernel_rfl) h

def impl_RootOf_n6_l (x1571 : List Int) := (link_seq (impl_RootOf_n4_l x1571) (fun (t : Int × Int) => (impl_RootOf_n5_l x1571 t.1 t.2)))

def impl_RootOf_n7_l (x1571 : List Int) := (link_group (c := (cq [0,1,1] (bodyOf Tryd.f43))) (a := (aq [0,1,1] impl_RootOf_an)) [(cq [0] (bodyOf Tryd.f43)), (cq [0,1] (bodyOf Tryd.f43))] [(aq [0] impl_RootOf_an), (aq [0,1] impl_RootOf_an)] rfl (link_seq2 (impl_RootOf_n1_l x1571) (fun (t : Unit) => (impl_RootOf_n6_l x1571)) (fun (t : Int) => t) (by
  rintro t
  · kernel_rfl) (by
  rintro t f K h
  · exact h)))

theorem impl_RootOf_e (x1571 : List Int) {r : AV} {H' : Heap} (h : (Ans.mk _ (impl_RootOf x1571) (fun (t : Int) => (dI t, [])) [] none).run = some (r, H')) : Awp impl_RootOf_ctx LL (bodyOf Tryd.f43) impl_RootOf_an ⟨mkE 12 0 [(0, dL x1571)], []⟩ (Ret (tlook tys) Tryd.f43.results.toList r H') :=
  ret_of' (Link.cast (by kernel_rfl) (by kernel_rfl) (impl_RootOf_n7_l x1571)) (by unfold impl_RootOf; kernel_rfl) (by
  intro t
  exact ret_mk [dI t] (by kernel_rfl) (by kernel_rfl) (by kernel_rfl) (by kernel_rfl)) h

def F_impl_RootOf : Fun := fun avs H =>
  match avs, H with
  | [.dat (.list (.int .i64)) x1571], [] => ⟨_, impl_RootOf x1571, fun (t : Int) => (dI t, []), [], none⟩
  | _, _ => Ans.no

theorem impl_RootOf_sound : Sound Tryd.prog 43 F_impl_RootOf := by
  refine fn_sound' (C := impl_RootOf_ctx) (c := bodyOf Tryd.f43) (cok_of tys_ok (allc impl_TreeOk_sound (allc impl_walker_up_sound alln)) (allc Tryd.call9 (allc Tryd.call47 alln)) (by kernel_rfl)) Tryd.func43 (by kernel_rfl) LL impl_RootOf_an ?_
  intro avs H r H' h
  unfold F_impl_RootOf at h
  split at h
  · refine Awp.cast ?_ ?_ ?_ (impl_RootOf_e _ h) <;> kernel_rfl
  · simp [Ans.no, Ans.run] at h


/-! loop.example/headtrees/impl.only -/

def impl_only_an : Ann := (.seq (.leaf [0]) (.seq (.leaf [2]) (.leaf [2])))

noncomputable def impl_only_ctx : Ctx := ⟨tlook tys, olook [], ioF, 0, false, []⟩

theorem impl_only_n1_l (x1620 : Int) : Link impl_only_ctx LL (bodyOf Tryd.f66) impl_only_an ⟨mkE 6 0 [(0, dI x1620)], []⟩ (impl_only_n1 x1620) (fun (t : Int) => (Exit.ret, ⟨mkE 6 0 [(2, dW t)], []⟩)) := by
  refine Link.of fun K h => ?_
  simp only [impl_only_n1, wpO_bind, wpO_cond, wpO_map, wpO_some] at h
  exact Awp.of (by kernel_rfl) h

theorem impl_only_e (x1620 : Int) {r : AV} {H' : Heap} (h : (Ans.mk _ (impl_only x1620) (fun (t : Int) => (dW t, [])) [] none).run = some (r, H')) : Awp impl_only_ctx LL (bodyOf Tryd.f66) impl_only_an ⟨mkE 6 0 [(0, dI x1620)], []⟩ (Ret (tlook tys) Tryd.f66.results.toList r H') :=
  ret_of' (impl_only_n1_l x1620) (by unfold impl_only; kernel_rfl) (by
  intro t
  exact ret_mk [dW t] (by kernel_rfl) (by kernel_rfl) (by kernel_rfl) (by kernel_rfl)) h

def F_impl_only : Fun := fun avs H =>
  match avs, H with
  | [.dat (.int .i64) x1620], [] => ⟨_, impl_only x1620, fun (t : Int) => (dW t, []), [], none⟩
  | _, _ => Ans.no

theorem impl_only_sound : Sound Tryd.prog 66 F_impl_only := by
  refine fn_sound' (C := impl_only_ctx) (c := bodyOf Tryd.f66) (cok_of tys_ok (alln) (alln) (by kernel_rfl)) Tryd.func66 (by kernel_rfl) LL impl_only_an ?_
  intro avs H r H' h
  unfold F_impl_only at h
  split at h
  · refine Awp.cast ?_ ?_ ?_ (impl_only_e _ h) <;> kernel_rfl
  · simp [Ans.no, Ans.run] at h


/-! loop.example/headtrees/impl.dependents -/

def impl_dependents_an : Ann := (.seq (.leaf [0, 1]) (.seq (.leaf [0, 1, 5]) (.seq (.seq (.leaf [0, 1, 5, 8, 9]) (.block (.loop (.seq (.leaf [0, 1, 5, 8, 9, 10]) (.seq (.cond (.leaf [0, 1, 5, 8, 9]) (.leaf [5])) (.seq (.block (.seq (.leaf [0, 1, 5, 6, 8, 9]) (.seq (.leaf [0, 1, 5, 6, 8, 9, 17]) (.cond (.leaf [0, 1, 5, 8, 9]) (.leaf [0, 1, 5, 8, 9]))))) (.leaf [0, 1, 5, 8, 9]))))))) (.seq (.leaf [4]) (.leaf [4])))))

noncomputable def impl_dependents_ctx : Ctx := ⟨tlook tys, olook [(66, F_impl_only)], ioF, 0, false, []⟩

theorem impl_dependents_n1_l (x1611 : List Int) (x1612 : Int) : Link impl_dependents_ctx LL (Code.seq (cq [0] (bodyOf Tryd.f52)) (cq [0,1] (bodyOf Tryd.f52))) (Ann.seq (aq [0] impl_dependents_an) (aq [0,1] impl_dependents_an)) ⟨mkE 25 0 [(0, dL x1611), (1, dI x1612)], []⟩ (impl_dependents_n1) (fun (t : Unit) => (Exit.normal, ⟨mkE 25 0 [(0, dL x1611), (1, dI x1612), (5, dW 0)], []⟩)) := by
  refine Link.of fun K h => ?_
  simp only [impl_dependents_n1, wpO_bind, wpO_cond, wpO_map, wpO_some] at h
  exact Awp.of (by kernel_rfl) h

theorem impl_dependents_n2_l (x1611 : List Int) (x1612 : Int) : Link impl_dependents_ctx LL (cq [0,0,1,1] (bodyOf Tryd.f52)) (aq [0,0,1,1] impl_dependents_an) ⟨mkE 25 0 [(0, dL x1611), (1, dI x1612), (5, dW 0)], []⟩ (impl_dependents_n2 x1611) (fun (t : Int) => (Exit.normal, ⟨mkE 25 0 [(0, dL x1611), (1, dI x1612), (5, dW 0), (8, dI t), (9, dI 0)], []⟩)) := by
  refine Link.of fun K h => ?_
  simp only [impl_dependents_n2, wpO_bind, wpO_cond, wpO_map, wpO_some] at h
  exact Awp.of (by kernel_rfl) h

theorem impl_dependents_n3_l (x1611 : List Int) (x1612 : Int) (x1637 : Int) (x1613 : Int) (x1638 : Int) : Link impl_dependents_ctx LL (cq [0,0,1,0,1,1] (bodyOf Tryd.f52)) (aq [0,0,1,0,1,1] impl_dependents_an) ⟨mkE 25 0 [(0, dL x1611), (1, dI x1612), (5, dW x1637), (8, dI x1613), (9, dI x1638)], []⟩ (impl_dependents_n3 x1611 x1612 x1637 x1613 x1638) (Sum.elim (fun (t : Int × Int) => (Exit.normal, ⟨mkE 25 0 [(0, dL x1611), (1, dI x1612), (5, dW t.1), (8, dI x1613), (9, dI t.2)], []⟩)) (fun (t : Int) => ((Exit.exit 0), ⟨mkE 25 0 [(5, dW t)], []⟩))) := by
  refine Link.of fun K h => ?_
  simp only [impl_dependents_n3, wpO_bind, wpO_cond, wpO_map, wpO_some] at h
  exact Awp.of (by kernel_rfl) h

def impl_dependents_n4_l (x1611 : List Int) (x1612 : Int) (x1613 : Int) := (link_loop (mk := fun (s : Int × Int) => ⟨mkE 25 0 [(0, dL x1611), (1, dI x1612), (5, dW s.1), (8, dI x1613), (9, dI s.2)], []⟩) (fin := (fun (t : Int) => ((Exit.exit 0), ⟨mkE 25 0 [(5, dW t)], []⟩))) (by
  rintro t f K h
  · exact h) (fun s => link_map (impl_dependents_n3_l x1611 x1612 s.1 x1613 s.2) (Sum.elim (fun (t : Int × Int) => Sum.inl (t.1, t.2)) (fun (t : Int) => Sum.inr t)) (by
  rintro (t | t)
  · kernel_rfl
  · kernel_rfl)) (0, 0))

def impl_dependents_n5_l (x1611 : List Int) (x1612 : Int) (x1613 : Int) := (link_block (fin2 := (fun (t : Int) => (Exit.normal, ⟨mkE 25 0 [(5, dW t)], []⟩))) (id := 0) (impl_dependents_n4_l x1611 x1612 x1613) (fun (t : Int) => t) (by
  rintro t K h
  · exact Eq.mp (by kernel_rfl) h))

def impl_dependents_n6_l (x1611 : List Int) (x1612 : Int) := (link_seq (impl_dependents_n2_l x1611 x1612) (fun (t : Int) => (impl_dependents_n5_l x1611 x1612 t)))

theorem impl_dependents_n7_l (x1637 : Int) : Link impl_dependents_ctx LL (cq [1,1,1] (bodyOf Tryd.f52)) (aq [1,1,1] impl_dependents_an) ⟨mkE 25 0 [(5, dW x1637)], []⟩ (impl_dependents_n7 x1637) (fun (t : Int) => (Exit.ret, ⟨mkE 25 0 [(4, dW t)], []⟩)) := by
  refine Link.of fun K h => ?_
  simp only [impl_dependents_n7, wpO_bind, wpO_cond, wpO_map, wpO_some] at h
  exact Awp.of (by kernel_rfl) h

def impl_dependents_n8_l (x1611 : List Int) (x1612 : Int) := (link_seq (impl_dependents_n6_l x1611 x1612) (fun (t : Int) => (impl_dependents_n7_l t)))

def impl_dependents_n9_l (x1611 : List Int) (x1612 : Int) := (link_group (c := (cq [0,1] (bodyOf Tryd.f52))) (a := (aq [0,1] impl_dependents_an)) [(cq [0] (bodyOf Tryd.f52))] [(aq [0] impl_dependents_an)] rfl (link_seq (impl_dependents_n1_l x1611 x1612) (fun (t : Unit) => (impl_dependents_n8_l x1611 x1612))))

theorem impl_dependents_e (x1611 : List Int) (x1612 : Int) {r : AV} {H' : Heap} (h : (Ans.mk _ (impl_dependents x1611 x1612) (fun (t : Int) => (dW t, [])) [] none).run = some (r, H')) : Awp impl_dependents_ctx LL (bodyOf Tryd.f52) impl_dependents_an ⟨mkE 25 0 [(0, dL x1611), (1, dI x1612)], []⟩ (Ret (tlook tys) Tryd.f52.results.toList r H') :=
  ret_of' (Link.cast (by kernel_rfl) (by kernel_rfl) (impl_dependents_n9_l x1611 x1612)) (by unfold impl_dependents; kernel_rfl) (by
  intro t
  exact ret_mk [dW t] (by kernel_rfl) (by kernel_rfl) (by kernel_rfl) (by kernel_rfl)) h

def F_impl_dependents : Fun := fun avs H =>
  match avs, H with
  | [.dat (.list (.int .i64)) x1611, .dat (.int .i64) x1612], [] => ⟨_, impl_dependents x1611 x1612, fun (t : Int) => (dW t, []), [], none⟩
  | _, _ => Ans.no

theorem impl_dependents_sound : Sound Tryd.prog 52 F_impl_dependents := by
  refine fn_sound' (C := impl_dependents_ctx) (c := bodyOf Tryd.f52) (cok_of tys_ok (allc impl_only_sound alln) (allc Tryd.call66 alln) (by kernel_rfl)) Tryd.func52 (by kernel_rfl) LL impl_dependents_an ?_
  intro avs H r H' h
  unfold F_impl_dependents at h
  split at h
  · refine Awp.cast ?_ ?_ ?_ (impl_dependents_e _ _ h) <;> kernel_rfl
  · simp [Ans.no, Ans.run] at h


/-! loop.example/headtrees/impl.before -/

def impl_before_an : Ann := (.seq (.leaf [0]) (.seq (.leaf [2]) (.leaf [2])))

noncomputable def impl_before_ctx : Ctx := ⟨tlook tys, olook [(66, F_impl_only)], ioF, 0, false, []⟩

theorem impl_before_n1_l (x1659 : Int) : Link impl_before_ctx LL (bodyOf Tryd.f68) impl_before_an ⟨mkE 6 0 [(0, dI x1659)], []⟩ (impl_before_n1 x1659) (fun (t : Int) => (Exit.ret, ⟨mkE 6 0 [(2, dW t)], []⟩)) := by
  refine Link.of fun K h => ?_
  simp only [impl_before_n1, wpO_bind, wpO_cond, wpO_map, wpO_some] at h
  exact Awp.of (by kernel_rfl) h

theorem impl_before_e (x1659 : Int) {r : AV} {H' : Heap} (h : (Ans.mk _ (impl_before x1659) (fun (t : Int) => (dW t, [])) [] none).run = some (r, H')) : Awp impl_before_ctx LL (bodyOf Tryd.f68) impl_before_an ⟨mkE 6 0 [(0, dI x1659)], []⟩ (Ret (tlook tys) Tryd.f68.results.toList r H') :=
  ret_of' (impl_before_n1_l x1659) (by unfold impl_before; kernel_rfl) (by
  intro t
  exact ret_mk [dW t] (by kernel_rfl) (by kernel_rfl) (by kernel_rfl) (by kernel_rfl)) h

def F_impl_before : Fun := fun avs H =>
  match avs, H with
  | [.dat (.int .i64) x1659], [] => ⟨_, impl_before x1659, fun (t : Int) => (dW t, []), [], none⟩
  | _, _ => Ans.no

theorem impl_before_sound : Sound Tryd.prog 68 F_impl_before := by
  refine fn_sound' (C := impl_before_ctx) (c := bodyOf Tryd.f68) (cok_of tys_ok (allc impl_only_sound alln) (allc Tryd.call66 alln) (by kernel_rfl)) Tryd.func68 (by kernel_rfl) LL impl_before_an ?_
  intro avs H r H' h
  unfold F_impl_before at h
  split at h
  · refine Awp.cast ?_ ?_ ?_ (impl_before_e _ h) <;> kernel_rfl
  · simp [Ans.no, Ans.run] at h


/-! loop.example/headtrees/impl.dependentsBeside -/

def impl_dependentsBeside_an : Ann := (.seq (.leaf [0, 1]) (.seq (.leaf [1, 6]) (.seq (.leaf [4, 5]) (.leaf [4, 5]))))

noncomputable def impl_dependentsBeside_ctx : Ctx := ⟨tlook tys, olook [(52, F_impl_dependents), (68, F_impl_before)], ioF, 0, false, []⟩

theorem impl_dependentsBeside_n1_l (x1609 : List Int) (x1610 : Int) : Link impl_dependentsBeside_ctx LL (bodyOf Tryd.f63) impl_dependentsBeside_an ⟨mkE 18 0 [(0, dL x1609), (1, dI x1610)], []⟩ (impl_dependentsBeside_n1 x1609 x1610) (fun (t : Int × Int) => (Exit.ret, ⟨mkE 18 0 [(4, dW t.1), (5, dW t.2)], []⟩)) := by
  refine Link.of fun K h => ?_
  simp only [impl_dependentsBeside_n1, wpO_bind, wpO_cond, wpO_map, wpO_some] at h
  exact Awp.of (by kernel_rfl) h

theorem impl_dependentsBeside_e (x1609 : List Int) (x1610 : Int) {r : AV} {H' : Heap} (h : (Ans.mk _ (impl_dependentsBeside x1609 x1610) (fun (t : Int × Int) => (.tup [dW t.1, dW t.2], [])) [] none).run = some (r, H')) : Awp impl_dependentsBeside_ctx LL (bodyOf Tryd.f63) impl_dependentsBeside_an ⟨mkE 18 0 [(0, dL x1609), (1, dI x1610)], []⟩ (Ret (tlook tys) Tryd.f63.results.toList r H') :=
  ret_of' (impl_dependentsBeside_n1_l x1609 x1610) (by unfold impl_dependentsBeside; kernel_rfl) (by
  intro t
  exact ret_mk [dW t.1, dW t.2] (by kernel_rfl) (by kernel_rfl) (by kernel_rfl) (by kernel_rfl)) h

def F_impl_dependentsBeside : Fun := fun avs H =>
  match avs, H with
  | [.dat (.list (.int .i64)) x1609, .dat (.int .i64) x1610], [] => ⟨_, impl_dependentsBeside x1609 x1610, fun (t : Int × Int) => (.tup [dW t.1, dW t.2], []), [], none⟩
  | _, _ => Ans.no

theorem impl_dependentsBeside_sound : Sound Tryd.prog 63 F_impl_dependentsBeside := by
  refine fn_sound' (C := impl_dependentsBeside_ctx) (c := bodyOf Tryd.f63) (cok_of tys_ok (allc impl_dependents_sound (allc impl_before_sound alln)) (allc Tryd.call52 (allc Tryd.call68 alln)) (by kernel_rfl)) Tryd.func63 (by kernel_rfl) LL impl_dependentsBeside_an ?_
  intro avs H r H' h
  unfold F_impl_dependentsBeside at h
  split at h
  · refine Awp.cast ?_ ?_ ?_ (impl_dependentsBeside_e _ _ h) <;> kernel_rfl
  · simp [Ans.no, Ans.run] at h


/-! math/bits.OnesCount64 -/

def math_bits_OnesCount64_an : Ann := (.seq (.leaf [0]) (.seq (.leaf [0]) (.seq (.leaf [0]) (.seq (.leaf [0]) (.seq (.leaf [0]) (.seq (.leaf [0]) (.seq (.leaf [0]) (.seq (.leaf [2]) (.leaf [2])))))))))

noncomputable def math_bits_OnesCount64_ctx : Ctx := ⟨tlook tys, olook [], ioF, 0, false, []⟩

theorem math_bits_OnesCount64_n1_l (x1685 : Int) : Link math_bits_OnesCount64_ctx LL (Code.seq (cq [0] (bodyOf Tryd.f75)) (cq [0,1] (bodyOf Tryd.f75))) (Ann.seq (aq [0] math_bits_OnesCount64_an) (aq [0,1] math_bits_OnesCount64_an)) ⟨mkE 35 0 [(0, dW x1685)], []⟩ (math_bits_OnesCount64_n1 x1685) (fun (t : Int) => (Exit.normal, ⟨mkE 35 0 [(0, dW t)], []⟩)) := by
  refine Link.of fun K h => ?_
  simp only [math_bits_OnesCount64_n1, wpO_bind, wpO_cond, wpO_map, wpO_some] at h
  exact Awp.of (by kernel_rfl) h

theorem math_bits_OnesCount64_n2_l (x1690 : Int) : Link math_bits_OnesCount64_ctx LL (cq [0,1,1] (bodyOf Tryd.f75)) (aq [0,1,1] math_bits_OnesCount64_an) ⟨mkE 35 0 [(0, dW x1690)], []⟩ (math_bits_OnesCount64_n2 x1690) (fun (t : Int) => (Exit.normal, ⟨mkE 35 0 [(0, dW t)], []⟩)) := by
  refine Link.of fun K h => ?_
  simp only [math_bits_OnesCount64_n2, wpO_bind, wpO_cond, wpO_map, wpO_some] at h
  exact Awp.of (by kernel_rfl) h

theorem math_bits_OnesCount64_n3_l (x1707 : Int) : Link math_bits_OnesCount64_ctx LL (cq [0,1,1,1] (bodyOf Tryd.f75)) (aq [0,1,1,1] math_bits_OnesCount64_an) ⟨mkE 35 0 [(0, dW x1707)], []⟩ (math_bits_OnesCount64_n3 x1707) (fun (t : Int) => (Exit.normal, ⟨mkE 35 0 [(0, dW t)], []⟩)) := by
  refine Link.of fun K h => ?_
  simp only [math_bits_OnesCount64_n3, wpO_bind, wpO_cond, wpO_map, wpO_some] at h
  exact Awp.of (by kernel_rfl) h

theorem math_bits_OnesCount64_n4_l (x1714 : Int) : Link math_bits_OnesCount64_ctx LL (cq [0,1,1,1,1] (bodyOf Tryd.f75)) (aq [0,1,1,1,1] math_bits_OnesCount64_an) ⟨mkE 35 0 [(0, dW x1714)], []⟩ (math_bits_OnesCount64_n4 x1714) (fun (t : Int) => (Exit.normal, ⟨mkE 35 0 [(0, dW t)], []⟩)) := by
  refine Link.of fun K h => ?_
  simp only [math_bits_OnesCount64_n4, wpO_bind, wpO_cond, wpO_map, wpO_some] at h
  exact Awp.of (by kernel_rfl) h

theorem math_bits_OnesCount64_n5_l (x1718 : Int) : Link math_bits_OnesCount64_ctx LL (cq [0,1,1,1,1,1] (bodyOf Tryd.f75)) (aq [0,1,1,1,1,1] math_bits_OnesCount64_an) ⟨mkE 35 0 [(0, dW x1718)], []⟩ (math_bits_OnesCount64_n5 x1718) (fun (t : Int) => (Exit.normal, ⟨mkE 35 0 [(0, dW t)], []⟩)) := by
  refine Link.of fun K h => ?_
  simp only [math_bits_OnesCount64_n5, wpO_bind, wpO_cond, wpO_map, wpO_some] at h
  exact Awp.of (by kernel_rfl) h

theorem math_bits_OnesCount64_n6_l (x1723 : Int) : Link math_bits_OnesCount64_ctx LL (cq [0,1,1,1,1,1,1] (bodyOf Tryd.f75)) (aq [0,1,1,1,1,1,1] math_bits_OnesCount64_an) ⟨mkE 35 0 [(0, dW x1723)], []⟩ (math_bits_OnesCount64_n6 x1723) (fun (t : Int) => (Exit.normal, ⟨mkE 35 0 [(0, dW t)], []⟩)) := by
  refine Link.of fun K h => ?_
  simp only [math_bits_OnesCount64_n6, wpO_bind, wpO_cond, wpO_map, wpO_some] at h
  exact Awp.of (by kernel_rfl) h

theorem math_bits_OnesCount64_n7_l (x1728 : Int) : Link math_bits_OnesCount64_ctx LL (cq [0,1,1,1,1,1,1,1] (bodyOf Tryd.f75)) (aq [0,1,1,1,1,1,1,1] math_bits_OnesCount64_an) ⟨mkE 35 0 [(0, dW x1728)], []⟩ (math_bits_OnesCount64_n7 x1728) (fun (t : Int) => (Exit.normal, ⟨mkE 35 0 [(2, dI t)], []⟩)) := by
  refine Link.of fun K h => ?_
  simp only [math_bits_OnesCount64_n7, wpO_bind, wpO_cond, wpO_map, wpO_some] at h
  exact Awp.of (by kernel_rfl) h

theorem math_bits_OnesCount64_n8_l (x1733 : Int) : Link math_bits_OnesCount64_ctx LL (cq [1,1,1,1,1,1,1,1] (bodyOf Tryd.f75)) (aq [1,1,1,1,1,1,1,1] math_bits_OnesCount64_an) ⟨mkE 35 0 [(2, dI x1733)], []⟩ (math_bits_OnesCount64_n8 x1733) (fun (t : Int) => (Exit.ret, ⟨mkE 35 0 [(2, dI t)], []⟩)) := by
  refine Link.of fun K h => ?_
  simp only [math_bits_OnesCount64_n8, wpO_bind, wpO_cond, wpO_map, wpO_some] at h
  exact Awp.of (by kernel_rfl) h

def math_bits_OnesCount64_n9_l (x1728 : Int) := (link_seq (math_bits_OnesCount64_n7_l x1728) (fun (t : Int) => (math_bits_OnesCount64_n8_l t)))

def math_bits_OnesCount64_n10_l (x1723 : Int) := (link_seq (math_bits_OnesCount64_n6_l x1723) (fun (t : Int) => (math_bits_OnesCount64_n9_l t)))

def math_bits_OnesCount64_n11_l (x1718 : Int) := (link_seq (math_bits_OnesCount64_n5_l x1718) (fun (t : Int) => (math_bits_OnesCount64_n10_l t)))

def math_bits_OnesCount64_n12_l (x1714 : Int) := (link_seq (math_bits_OnesCount64_n4_l x1714) (fun (t : Int) => (math_bits_OnesCount64_n11_l t)))

def math_bits_OnesCount64_n13_l (x1707 : Int) := (link_seq (math_bits_OnesCount64_n3_l x1707) (fun (t : Int) => (math_bits_OnesCount64_n12_l t)))

def math_bits_OnesCount64_n14_l (x1690 : Int) := (link_seq (math_bits_OnesCount64_n2_l x1690) (fun (t : Int) => (math_bits_OnesCount64_n13_l t)))

def math_bits_OnesCount64_n15_l (x1685 : Int) := (link_group (c := (cq [0,1] (bodyOf Tryd.f75))) (a := (aq [0,1] math_bits_OnesCount64_an)) [(cq [0] (bodyOf Tryd.f75))] [(aq [0] math_bits_OnesCount64_an)] rfl (link_seq (math_bits_OnesCount64_n1_l x1685) (fun (t : Int) => (math_bits_OnesCount64_n14_l t))))

theorem math_bits_OnesCount64_e (x1685 : Int) {r : AV} {H' : Heap} (h : (Ans.mk _ (math_bits_OnesCount64 x1685) (fun (t : Int) => (dI t, [])) [] none).run = some (r, H')) : Awp math_bits_OnesCount64_ctx LL (bodyOf Tryd.f75) math_bits_OnesCount64_an ⟨mkE 35 0 [(0, dW x1685)], []⟩ (Ret (tlook tys) Tryd.f75.results.toList r H') :=
  ret_of' (Link.cast (by kernel_rfl) (by kernel_rfl) (math_bits_OnesCount64_n15_l x1685)) (by unfold math_bits_OnesCount64; kernel_rfl) (by
  intro t
  exact ret_mk [dI t] (by kernel_rfl) (by kernel_rfl) (by kernel_rfl) (by kernel_rfl)) h

def F_math_bits_OnesCount64 : Fun := fun avs H =>
  match avs, H with
  | [.dat (.int .u64) x1685], [] => ⟨_, math_bits_OnesCount64 x1685, fun (t : Int) => (dI t, []), [], none⟩
  | _, _ => Ans.no

theorem math_bits_OnesCount64_sound : Sound Tryd.prog 75 F_math_bits_OnesCount64 := by
  refine fn_sound' (C := math_bits_OnesCount64_ctx) (c := bodyOf Tryd.f75) (cok_of tys_ok (alln) (alln) (by kernel_rfl)) Tryd.func75 (by kernel_rfl) LL math_bits_OnesCount64_an ?_
  intro avs H r H' h
  unfold F_math_bits_OnesCount64 at h
  split at h
  · refine Awp.cast ?_ ?_ ?_ (math_bits_OnesCount64_e _ h) <;> kernel_rfl
  · simp [Ans.no, Ans.run] at h


/-! math/bits.OnesCount -/

def math_bits_OnesCount_an : Ann := (.seq (.leaf [0]) (.seq (.cond (.seq (.leaf [2]) (.leaf [2])) (.leaf [0])) (.seq (.leaf [2]) (.leaf [2]))))

noncomputable def math_bits_OnesCount_ctx : Ctx := ⟨tlook tys, olook [(75, F_math_bits_OnesCount64)], ioF, 0, false, []⟩

theorem math_bits_OnesCount_n1_l (x1684 : Int) : Link math_bits_OnesCount_ctx LL (bodyOf Tryd.f71) math_bits_OnesCount_an ⟨mkE 8 0 [(0, dW x1684)], []⟩ (math_bits_OnesCount_n1 x1684) (fun (t : Int) => (Exit.ret, ⟨mkE 8 0 [(2, dI t)], []⟩)) := by
  refine Link.of fun K h => ?_
  simp only [math_bits_OnesCount_n1, wpO_bind, wpO_cond, wpO_map, wpO_some] at h
  exact Awp.of (by kernel_rfl) h

theorem math_bits_OnesCount_e (x1684 : Int) {r : AV} {H' : Heap} (h : (Ans.mk _ (math_bits_OnesCount x1684) (fun (t : Int) => (dI t, [])) [] none).run = some (r, H')) : Awp math_bits_OnesCount_ctx LL (bodyOf Tryd.f71) math_bits_OnesCount_an ⟨mkE 8 0 [(0, dW x1684)], []⟩ (Ret (tlook tys) Tryd.f71.results.toList r H') :=
  ret_of' (math_bits_OnesCount_n1_l x1684) (by unfold math_bits_OnesCount; kernel_rfl) (by
  intro t
  exact ret_mk [dI t] (by kernel_rfl) (by kernel_rfl) (by kernel_rfl) (by kernel_rfl)) h

def F_math_bits_OnesCount : Fun := fun avs H =>
  match avs, H with
  | [.dat (.int .u64) x1684], [] => ⟨_, math_bits_OnesCount x1684, fun (t : Int) => (dI t, []), [], none⟩
  | _, _ => Ans.no

theorem math_bits_OnesCount_sound : Sound Tryd.prog 71 F_math_bits_OnesCount := by
  refine fn_sound' (C := math_bits_OnesCount_ctx) (c := bodyOf Tryd.f71) (cok_of tys_ok (allc math_bits_OnesCount64_sound alln) (allc Tryd.call75 alln) (by kernel_rfl)) Tryd.func71 (by kernel_rfl) LL math_bits_OnesCount_an ?_
  intro avs H r H' h
  unfold F_math_bits_OnesCount at h
  split at h
  · refine Awp.cast ?_ ?_ ?_ (math_bits_OnesCount_e _ h) <;> kernel_rfl
  · simp [Ans.no, Ans.run] at h


/-! (loop.example/headtrees/impl.wordSet).count -/

def impl_wordSet_count_an : Ann := (.seq (.leaf [0]) (.seq (.leaf [2]) (.leaf [2])))

noncomputable def impl_wordSet_count_ctx : Ctx := ⟨tlook tys, olook [(71, F_math_bits_OnesCount)], ioF, 0, false, []⟩

theorem impl_wordSet_count_n1_l (x1683 : Int) : Link impl_wordSet_count_ctx LL (bodyOf Tryd.f69) impl_wordSet_count_an ⟨mkE 5 0 [(0, dW x1683)], []⟩ (impl_wordSet_count_n1 x1683) (fun (t : Int) => (Exit.ret, ⟨mkE 5 0 [(2, dI t)], []⟩)) := by
  refine Link.of fun K h => ?_
  simp only [impl_wordSet_count_n1, wpO_bind, wpO_cond, wpO_map, wpO_some] at h
  exact Awp.of (by kernel_rfl) h

theorem impl_wordSet_count_e (x1683 : Int) {r : AV} {H' : Heap} (h : (Ans.mk _ (impl_wordSet_count x1683) (fun (t : Int) => (dI t, [])) [] none).run = some (r, H')) : Awp impl_wordSet_count_ctx LL (bodyOf Tryd.f69) impl_wordSet_count_an ⟨mkE 5 0 [(0, dW x1683)], []⟩ (Ret (tlook tys) Tryd.f69.results.toList r H') :=
  ret_of' (impl_wordSet_count_n1_l x1683) (by unfold impl_wordSet_count; kernel_rfl) (by
  intro t
  exact ret_mk [dI t] (by kernel_rfl) (by kernel_rfl) (by kernel_rfl) (by kernel_rfl)) h

def F_impl_wordSet_count : Fun := fun avs H =>
  match avs, H with
  | [.dat (.int .u64) x1683], [] => ⟨_, impl_wordSet_count x1683, fun (t : Int) => (dI t, []), [], none⟩
  | _, _ => Ans.no

theorem impl_wordSet_count_sound : Sound Tryd.prog 69 F_impl_wordSet_count := by
  refine fn_sound' (C := impl_wordSet_count_ctx) (c := bodyOf Tryd.f69) (cok_of tys_ok (allc math_bits_OnesCount_sound alln) (allc Tryd.call71 alln) (by kernel_rfl)) Tryd.func69 (by kernel_rfl) LL impl_wordSet_count_an ?_
  intro avs H r H' h
  unfold F_impl_wordSet_count at h
  split at h
  · refine Awp.cast ?_ ?_ ?_ (impl_wordSet_count_e _ h) <;> kernel_rfl
  · simp [Ans.no, Ans.run] at h


/-! math/bits.TrailingZeros64 -/

def math_bits_TrailingZeros64_an : Ann := (.seq (.leaf [0]) (.seq (.seq (.leaf [0, 4]) (.cond (.seq (.leaf [2]) (.leaf [2])) (.leaf [0]))) (.seq (.leaf [2]) (.leaf [2]))))

noncomputable def math_bits_TrailingZeros64_ctx : Ctx := ⟨tlook tys, olook [], ioF, 0, false, []⟩

theorem math_bits_TrailingZeros64_n1_l (x1744 : Int) : Link math_bits_TrailingZeros64_ctx LL (bodyOf Tryd.f73) math_bits_TrailingZeros64_an ⟨mkE 14 0 [(0, dW x1744)], []⟩ (math_bits_TrailingZeros64_n1 x1744) (fun (t : Int) => (Exit.ret, ⟨mkE 14 0 [(2, dI t)], []⟩)) := by
  refine Link.of fun K h => ?_
  simp only [math_bits_TrailingZeros64_n1, wpO_bind, wpO_cond, wpO_map, wpO_some] at h
  exact Awp.of (by kernel_rfl) h

theorem math_bits_TrailingZeros64_e (x1744 : Int) {r : AV} {H' : Heap} (h : (Ans.mk _ (math_bits_TrailingZeros64 x1744) (fun (t : Int) => (dI t, [])) [] none).run = some (r, H')) : Awp math_bits_TrailingZeros64_ctx LL (bodyOf Tryd.f73) math_bits_TrailingZeros64_an ⟨mkE 14 0 [(0, dW x1744)], []⟩ (Ret (tlook tys) Tryd.f73.results.toList r H') :=
  ret_of' (math_bits_TrailingZeros64_n1_l x1744) (by unfold math_bits_TrailingZeros64; kernel_rfl) (by
  intro t
  exact ret_mk [dI t] (by kernel_rfl) (by kernel_rfl) (by kernel_rfl) (by kernel_rfl)) h

def F_math_bits_TrailingZeros64 : Fun := fun avs H =>
  match avs, H with
  | [.dat (.int .u64) x1744], [] => ⟨_, math_bits_TrailingZeros64 x1744, fun (t : Int) => (dI t, []), [], none⟩
  | _, _ => Ans.no

theorem math_bits_TrailingZeros64_sound : Sound Tryd.prog 73 F_math_bits_TrailingZeros64 := by
  refine fn_sound' (C := math_bits_TrailingZeros64_ctx) (c := bodyOf Tryd.f73) (cok_of tys_ok (alln) (alln) (by kernel_rfl)) Tryd.func73 (by kernel_rfl) LL math_bits_TrailingZeros64_an ?_
  intro avs H r H' h
  unfold F_math_bits_TrailingZeros64 at h
  split at h
  · refine Awp.cast ?_ ?_ ?_ (math_bits_TrailingZeros64_e _ h) <;> kernel_rfl
  · simp [Ans.no, Ans.run] at h


/-! math/bits.TrailingZeros -/

def math_bits_TrailingZeros_an : Ann := (.seq (.leaf [0]) (.seq (.cond (.seq (.leaf [2]) (.leaf [2])) (.leaf [0])) (.seq (.leaf [2]) (.leaf [2]))))

noncomputable def math_bits_TrailingZeros_ctx : Ctx := ⟨tlook tys, olook [(73, F_math_bits_TrailingZeros64)], ioF, 0, false, []⟩

theorem math_bits_TrailingZeros_n1_l (x1743 : Int) : Link math_bits_TrailingZeros_ctx LL (bodyOf Tryd.f70) math_bits_TrailingZeros_an ⟨mkE 8 0 [(0, dW x1743)], []⟩ (math_bits_TrailingZeros_n1 x1743) (fun (t : Int) => (Exit.ret, ⟨mkE 8 0 [(2, dI t)], []⟩)) := by
  refine Link.of fun K h => ?_
  simp only [math_bits_TrailingZeros_n1, wpO_bind, wpO_cond, wpO_map, wpO_some] at h
  exact Awp.of (by kernel_rfl) h

theorem math_bits_TrailingZeros_e (x1743 : Int) {r : AV} {H' : Heap} (h : (Ans.mk _ (math_bits_TrailingZeros x1743) (fun (t : Int) => (dI t, [])) [] none).run = some (r, H')) : Awp math_bits_TrailingZeros_ctx LL (bodyOf Tryd.f70) math_bits_TrailingZeros_an ⟨mkE 8 0 [(0, dW x1743)], []⟩ (Ret (tlook tys) Tryd.f70.results.toList r H') :=
  ret_of' (math_bits_TrailingZeros_n1_l x1743) (by unfold math_bits_TrailingZeros; kernel_rfl) (by
  intro t
  exact ret_mk [dI t] (by kernel_rfl) (by kernel_rfl) (by kernel_rfl) (by kernel_rfl)) h

def F_math_bits_TrailingZeros : Fun := fun avs H =>
  match avs, H with
  | [.dat (.int .u64) x1743], [] => ⟨_, math_bits_TrailingZeros x1743, fun (t : Int) => (dI t, []), [], none⟩
  | _, _ => Ans.no

theorem math_bits_TrailingZeros_sound : Sound Tryd.prog 70 F_math_bits_TrailingZeros := by
  refine fn_sound' (C := math_bits_TrailingZeros_ctx) (c := bodyOf Tryd.f70) (cok_of tys_ok (allc math_bits_TrailingZeros64_sound alln) (allc Tryd.call73 alln) (by kernel_rfl)) Tryd.func70 (by kernel_rfl) LL math_bits_TrailingZeros_an ?_
  intro avs H r H' h
  unfold F_math_bits_TrailingZeros at h
  split at h
  · refine Awp.cast ?_ ?_ ?_ (math_bits_TrailingZeros_e _ h) <;> kernel_rfl
  · simp [Ans.no, Ans.run] at h


/-! (loop.example/headtrees/impl.wordSet).list -/

def impl_wordSet_list_an : Ann := (.seq (.leaf [0]) (.seq (.leaf [0, 3]) (.seq (.seq (.leaf [3, 4]) (.block (.loop (.seq (.seq (.leaf [3, 4, 10]) (.cond (.leaf [3, 4]) (.leaf [3]))) (.seq (.block (.leaf [3, 4])) (.leaf [3, 4])))))) (.seq (.leaf [2]) (.leaf [2])))))

noncomputable def impl_wordSet_list_ctx : Ctx := ⟨tlook tys, olook [(69, F_impl_wordSet_count), (70, F_math_bits_TrailingZeros)], ioF, 0, false, []⟩

theorem impl_wordSet_list_n1_l (x1682 : Int) : Link impl_wordSet_list_ctx LL (Code.seq (cq [0] (bodyOf Tryd.f67)) (cq [0,1] (bodyOf Tryd.f67))) (Ann.seq (aq [0] impl_wordSet_list_an) (aq [0,1] impl_wordSet_list_an)) ⟨mkE 22 0 [(0, dW x1682)], []⟩ (impl_wordSet_list_n1 x1682) (fun (t : (List Int)) => (Exit.normal, ⟨mkE 22 0 [(0, dW x1682), (3, .slc 0)], [some (sI t)]⟩)) := by
  refine Link.of fun K h => ?_
  simp only [impl_wordSet_list_n1, wpO_bind, wpO_cond, wpO_map, wpO_some] at h
  exact Awp.of (by kernel_rfl) h

theorem impl_wordSet_list_n2_l (x1682 : Int) (x1740 : List Int) : Link impl_wordSet_list_ctx LL (cq [0,0,1,1] (bodyOf Tryd.f67)) (aq [0,0,1,1] impl_wordSet_list_an) ⟨mkE 22 0 [(0, dW x1682), (3, .slc 0)], [some (sI x1740)]⟩ (impl_wordSet_list_n2) (fun (t : Unit) => (Exit.normal, ⟨mkE 22 0 [(3, .slc 0), (4, dW x1682)], [some (sI x1740)]⟩)) := by
  refine Link.of fun K h => ?_
  simp only [impl_wordSet_list_n2, wpO_bind, wpO_cond, wpO_map, wpO_some] at h
  exact Awp.of (by kernel_rfl) h

theorem impl_wordSet_list_n3_l (x1783 : Int) (x1784 : List Int) : Link impl_wordSet_list_ctx LL (cq [0,0,1,0,1,1] (bodyOf Tryd.f67)) (aq [0,0,1,0,1,1] impl_wordSet_list_an) ⟨mkE 22 0 [(3, .slc 0), (4, dW x1783)], [some (sI x1784)]⟩ (impl_wordSet_list_n3 x1783 x1784) (Sum.elim (fun (t : Int × (List Int)) => (Exit.normal, ⟨mkE 22 0 [(3, .slc 0), (4, dW t.1)], [some (sI t.2)]⟩)) (fun (t : (List Int)) => ((Exit.exit 0), ⟨mkE 22 0 [(3, .slc 0)], [some (sI t)]⟩))) := by
  refine Link.of fun K h => ?_
  simp only [impl_wordSet_list_n3, wpO_bind, wpO_cond, wpO_map, wpO_some] at h
  exact Awp.of (by kernel_rfl) h

def impl_wordSet_list_n4_l (x1682 : Int) (x1740 : List Int) := (link_loop (mk := fun (s : Int × (List Int)) => ⟨mkE 22 0 [(3, .slc 0), (4, dW s.1)], [some (sI s.2)]⟩) (fin := (fun (t : (List Int)) => ((Exit.exit 0), ⟨mkE 22 0 [(3, .slc 0)], [some (sI t)]⟩))) (by
  rintro t f K h
  · exact h) (fun s => link_map (impl_wordSet_list_n3_l s.1 s.2) (Sum.elim (fun (t : Int × (List Int)) => Sum.inl (t.1, t.2)) (fun (t : (List Int)) => Sum.inr t)) (by
  rintro (t | t)
  · kernel_rfl
  · kernel_rfl)) (x1682, x1740))

def impl_wordSet_list_n5_l (x1682 : Int) (x1740 : List Int) := (link_block (fin2 := (fun (t : (List Int)) => (Exit.normal, ⟨mkE 22 0 [(3, .slc 0)], [some (sI t)]⟩))) (id := 0) (impl_wordSet_list_n4_l x1682 x1740) (fun (t : (List Int)) => t) (by
  rintro t K h
  · exact Eq.mp (by kernel_rfl) h))

def impl_wordSet_list_n6_l (x1682 : Int) (x1740 : List Int) := (link_seq (impl_wordSet_list_n2_l x1682 x1740) (fun (t : Unit) => (impl_wordSet_list_n5_l x1682 x1740)))

theorem impl_wordSet_list_n7_l (x1784 : List Int) : Link impl_wordSet_list_ctx LL (cq [1,1,1] (bodyOf Tryd.f67)) (aq [1,1,1] impl_wordSet_list_an) ⟨mkE 22 0 [(3, .slc 0)], [some (sI x1784)]⟩ (impl_wordSet_list_n7 x1784) (fun (t : (List Int)) => (Exit.ret, ⟨mkE 22 0 [(2, .slc 0)], [some (sI t)]⟩)) := by
  refine Link.of fun K h => ?_
  simp only [impl_wordSet_list_n7, wpO_bind, wpO_cond, wpO_map, wpO_some] at h
  exact Awp.of (by kernel_rfl) h

def impl_wordSet_list_n8_l (x1682 : Int) (x1740 : List Int) := (link_seq (impl_wordSet_list_n6_l x1682 x1740) (fun (t : (List Int)) => (impl_wordSet_list_n7_l t)))

def impl_wordSet_list_n9_l (x1682 : Int) := (link_group (c := (cq [0,1] (bodyOf Tryd.f67))) (a := (aq [0,1] impl_wordSet_list_an)) [(cq [0] (bodyOf Tryd.f67))] [(aq [0] impl_wordSet_list_an)] rfl (link_seq (impl_wordSet_list_n1_l x1682) (fun (t : (List Int)) => (impl_wordSet_list_n8_l x1682 t))))

theorem impl_wordSet_list_e (x1682 : Int) {r : AV} {H' : Heap} (h : (Ans.mk _ (impl_wordSet_list x1682) (fun (t : (List Int)) => (.slc 0, [some (sI t)])) [] none).run = some (r, H')) : Awp impl_wordSet_list_ctx LL (bodyOf Tryd.f67) impl_wordSet_list_an ⟨mkE 22 0 [(0, dW x1682)], []⟩ (Ret (tlook tys) Tryd.f67.results.toList r H') :=
  ret_of' (Link.cast (by kernel_rfl) (by kernel_rfl) (impl_wordSet_list_n9_l x1682)) (by unfold impl_wordSet_list; kernel_rfl) (by
  intro t
  exact ret_mk [.slc 0] (by kernel_rfl) (by kernel_rfl) (by kernel_rfl) (by kernel_rfl)) h

def F_impl_wordSet_list : Fun := fun avs H =>
  match avs, H with
  | [.dat (.int .u64) x1682], [] => ⟨_, impl_wordSet_list x1682, fun (t : (List Int)) => (.slc 0, [some (sI t)]), [], none⟩
  | _, _ => Ans.no

theorem impl_wordSet_list_sound : Sound Tryd.prog 67 F_impl_wordSet_list := by
  refine fn_sound' (C := impl_wordSet_list_ctx) (c := bodyOf Tryd.f67) (cok_of tys_ok (allc impl_wordSet_count_sound (allc math_bits_TrailingZeros_sound alln)) (allc Tryd.call69 (allc Tryd.call70 alln)) (by kernel_rfl)) Tryd.func67 (by kernel_rfl) LL impl_wordSet_list_an ?_
  intro avs H r H' h
  unfold F_impl_wordSet_list at h
  split at h
  · refine Awp.cast ?_ ?_ ?_ (impl_wordSet_list_e _ h) <;> kernel_rfl
  · simp [Ans.no, Ans.run] at h


/-! loop.example/headtrees/impl.appendFlat, loop.example/headtrees/impl.appendEachFlat -/

def impl_appendFlat_an : Ann := (.seq (.leaf [0, 1, 2]) (.seq (.leaf [0, 1, 2, 7, 8]) (.seq (.leaf [0, 1, 8]) (.seq (.leaf [6]) (.leaf [6])))))

def impl_appendEachFlat_an : Ann := (.seq (.leaf [0, 1, 2]) (.seq (.seq (.leaf [0, 1, 10, 11, 12]) (.block (.loop (.seq (.leaf [0, 1, 10, 11, 12, 13]) (.seq (.cond (.leaf [0, 1, 10, 11, 12]) (.leaf [0])) (.seq (.block (.seq (.leaf [0, 1, 8, 10, 11, 12]) (.leaf [0, 1, 10, 11, 12]))) (.leaf [0, 1, 10, 11, 12]))))))) (.seq (.leaf [6]) (.leaf [6]))))

def F_impl_appendFlat_fuel (n : Nat) : Fun := fun avs H =>
  match avs, H with
  | [.slc 0, .dat (.list (.int .i64)) x1606, .dat (.int .i64) x1607], [some (.seq (.int .i64) x1608)] => ⟨_, impl_appendFlat_fuel n x1606 x1607 x1608, fun (t : (List Int)) => (.slc 0, [some (sI t)]), [0], none⟩
  | _, _ => Ans.no

def F_impl_appendEachFlat_fuel (n : Nat) : Fun := fun avs H =>
  match avs, H with
  | [.slc 0, .dat (.list (.int .i64)) x1845, .dat (.int .u64) x1846], [some (.seq (.int .i64) x1847)] => ⟨_, impl_appendEachFlat_fuel n x1845 x1846 x1847, fun (t : (List Int)) => (.slc 0, [some (sI t)]), [0], none⟩
  | _, _ => Ans.no

noncomputable def impl_appendFlat_ctx (n : Nat) : Ctx := ⟨tlook tys, olook [(63, F_impl_dependentsBeside), (64, F_impl_appendEachFlat_fuel n)], ioF, 1, false, [0]⟩

noncomputable def impl_appendEachFlat_ctx (n : Nat) : Ctx := ⟨tlook tys, olook [(67, F_impl_wordSet_list), (42, F_impl_appendFlat_fuel n)], ioF, 1, false, [0]⟩

theorem impl_appendFlat_n1_l (n : Nat) (x1606 : List Int) (x1607 : Int) (x1608 : List Int) : Link (impl_appendFlat_ctx n) LL (bodyOf Tryd.f42) impl_appendFlat_an ⟨mkE 26 0 [(0, .slc 0), (1, dL x1606), (2, dI x1607)], [some (sI x1608)]⟩ (impl_appendFlat_n1 (impl_appendFlat_fuel n) (impl_appendEachFlat_fuel n) x1606 x1607 x1608) (fun (t : (List Int)) => (Exit.ret, ⟨mkE 26 0 [(6, .slc 0)], [some (sI t)]⟩)) := by
  refine Link.of fun K h => ?_
  simp only [impl_appendFlat_n1, wpO_bind, wpO_cond, wpO_map, wpO_some] at h
  exact Awp.of (by kernel_rfl) h

theorem impl_appendFlat_e (n : Nat) (x1606 : List Int) (x1607 : Int) (x1608 : List Int) {r : AV} {H' : Heap} (h : (Ans.mk _ (impl_appendFlat_fuel (n + 1) x1606 x1607 x1608) (fun (t : (List Int)) => (.slc 0, [some (sI t)])) [0] none).run = some (r, H')) : Awp (impl_appendFlat_ctx n) LL (bodyOf Tryd.f42) impl_appendFlat_an ⟨mkE 26 0 [(0, .slc 0), (1, dL x1606), (2, dI x1607)], [some (sI x1608)]⟩ (Ret (tlook tys) Tryd.f42.results.toList r H') :=
  ret_of' (impl_appendFlat_n1_l n x1606 x1607 x1608) (by (show _ = _); kernel_rfl) (by
  intro t
  exact ret_mk [.slc 0] (by kernel_rfl) (by kernel_rfl) (by kernel_rfl) (by kernel_rfl)) h

theorem impl_appendEachFlat_n1_l (n : Nat) (x1845 : List Int) (x1846 : Int) (x1847 : List Int) : Link (impl_appendEachFlat_ctx n) LL (cq [0] (bodyOf Tryd.f64)) (aq [0] impl_appendEachFlat_an) ⟨mkE 22 0 [(0, .slc 0), (1, dL x1845), (2, dW x1846)], [some (sI x1847)]⟩ (impl_appendEachFlat_n1 (impl_appendFlat_fuel n) (impl_appendEachFlat_fuel n)) (fun (t : Unit) => (Exit.normal, ⟨mkE 22 0 [(0, .slc 0), (1, dL x1845), (2, dW x1846)], [some (sI x1847)]⟩)) := by
  refine Link.of fun K h => ?_
  simp only [impl_appendEachFlat_n1, wpO_bind, wpO_cond, wpO_map, wpO_some] at h
  exact Awp.of (by kernel_rfl) h

theorem impl_appendEachFlat_n2_l (n : Nat) (x1845 : List Int) (x1846 : Int) (x1847 : List Int) : Link (impl_appendEachFlat_ctx n) LL (cq [0,0,1] (bodyOf Tryd.f64)) (aq [0,0,1] impl_appendEachFlat_an) ⟨mkE 22 0 [(0, .slc 0), (1, dL x1845), (2, dW x1846)], [some (sI x1847)]⟩ (impl_appendEachFlat_n2 (impl_appendFlat_fuel n) (impl_appendEachFlat_fuel n) x1846) (fun (t : Int × (List Int)) => (Exit.normal, ⟨mkE 22 0 [(0, .slc 0), (1, dL x1845), (10, .slc 1), (11, dI t.1), (12, dI 0)], [some (sI x1847), some (sI t.2)]⟩)) := by
  refine Link.of fun K h => ?_
  simp only [impl_appendEachFlat_n2, wpO_bind, wpO_cond, wpO_map, wpO_some] at h
  exact Awp.of (by kernel_rfl) h

theorem impl_appendEachFlat_n3_l (n : Nat) (x1845 : List Int) (x1875 : Int) (x1887 : Int) (x1888 : List Int) (x1874 : List Int) : Link (impl_appendEachFlat_ctx n) LL (cq [0,0,1,0,1] (bodyOf Tryd.f64)) (aq [0,0,1,0,1] impl_appendEachFlat_an) ⟨mkE 22 0 [(0, .slc 0), (1, dL x1845), (10, .slc 1), (11, dI x1875), (12, dI x1887)], [some (sI x1888), some (sI x1874)]⟩ (impl_appendEachFlat_n3 (impl_appendFlat_fuel n) (impl_appendEachFlat_fuel n) x1845 x1875 x1887 x1888 x1874) (Sum.elim (fun (t : Int × (List Int)) => (Exit.normal, ⟨mkE 22 0 [(0, .slc 0), (1, dL x1845), (10, .slc 1), (11, dI x1875), (12, dI t.1)], [some (sI t.2), some (sI x1874)]⟩)) (fun (t : (List Int)) => ((Exit.exit 0), ⟨mkE 22 0 [(0, .slc 0)], [some (sI t)]⟩))) := by
  refine Link.of fun K h => ?_
  simp only [impl_appendEachFlat_n3, wpO_bind, wpO_cond, wpO_map, wpO_some] at h
  exact Awp.of (by kernel_rfl) h

def impl_appendEachFlat_n4_l (n : Nat) (x1845 : List Int) (x1875 : Int) (x1847 : List Int) (x1874 : List Int) := (link_loop (mk := fun (s : Int × (List Int)) => ⟨mkE 22 0 [(0, .slc 0), (1, dL x1845), (10, .slc 1), (11, dI x1875), (12, dI s.1)], [some (sI s.2), some (sI x1874)]⟩) (fin := (fun (t : (List Int)) => ((Exit.exit 0), ⟨mkE 22 0 [(0, .slc 0)], [some (sI t)]⟩))) (by
  rintro t f K h
  · exact h) (fun s => link_map (impl_appendEachFlat_n3_l n x1845 x1875 s.1 s.2 x1874) (Sum.elim (fun (t : Int × (List Int)) => Sum.inl (t.1, t.2)) (fun (t : (List Int)) => Sum.inr t)) (by
  rintro (t | t)
  · kernel_rfl
  · kernel_rfl)) (0, x1847))

def impl_appendEachFlat_n5_l (n : Nat) (x1845 : List Int) (x1875 : Int) (x1847 : List Int) (x1874 : List Int) := (link_block (fin2 := (fun (t : (List Int)) => (Exit.normal, ⟨mkE 22 0 [(0, .slc 0)], [some (sI t)]⟩))) (id := 0) (impl_appendEachFlat_n4_l n x1845 x1875 x1847 x1874) (fun (t : (List Int)) => t) (by
  rintro t K h
  · exact Eq.mp (by kernel_rfl) h))

def impl_appendEachFlat_n6_l (n : Nat) (x1845 : List Int) (x1846 : Int) (x1847 : List Int) := (link_seq (impl_appendEachFlat_n2_l n x1845 x1846 x1847) (fun (t : Int × (List Int)) => (impl_appendEachFlat_n5_l n x1845 t.1 x1847 t.2)))

theorem impl_appendEachFlat_n7_l (n : Nat) (x1888 : List Int) : Link (impl_appendEachFlat_ctx n) LL (cq [1,1] (bodyOf Tryd.f64)) (aq [1,1] impl_appendEachFlat_an) ⟨mkE 22 0 [(0, .slc 0)], [some (sI x1888)]⟩ (impl_appendEachFlat_n7 (impl_appendFlat_fuel n) (impl_appendEachFlat_fuel n) x1888) (fun (t : (List Int)) => (Exit.ret, ⟨mkE 22 0 [(6, .slc 0)], [some (sI t)]⟩)) := by
  refine Link.of fun K h => ?_
  simp only [impl_appendEachFlat_n7, wpO_bind, wpO_cond, wpO_map, wpO_some] at h
  exact Awp.of (by kernel_rfl) h

def impl_appendEachFlat_n8_l (n : Nat) (x1845 : List Int) (x1846 : Int) (x1847 : List Int) := (link_seq (impl_appendEachFlat_n6_l n x1845 x1846 x1847) (fun (t : (List Int)) => (impl_appendEachFlat_n7_l n t)))

def impl_appendEachFlat_n9_l (n : Nat) (x1845 : List Int) (x1846 : Int) (x1847 : List Int) := (link_seq (impl_appendEachFlat_n1_l n x1845 x1846 x1847) (fun (t : Unit) => (impl_appendEachFlat_n8_l n x1845 x1846 x1847)))

theorem impl_appendEachFlat_e (n : Nat) (x1845 : List Int) (x1846 : Int) (x1847 : List Int) {r : AV} {H' : Heap} (h : (Ans.mk _ (impl_appendEachFlat_fuel (n + 1) x1845 x1846 x1847) (fun (t : (List Int)) => (.slc 0, [some (sI t)])) [0] none).run = some (r, H')) : Awp (impl_appendEachFlat_ctx n) LL (bodyOf Tryd.f64) impl_appendEachFlat_an ⟨mkE 22 0 [(0, .slc 0), (1, dL x1845), (2, dW x1846)], [some (sI x1847)]⟩ (Ret (tlook tys) Tryd.f64.results.toList r H') :=
  ret_of' (Link.cast (by kernel_rfl) (by kernel_rfl) (impl_appendEachFlat_n9_l n x1845 x1846 x1847)) (by (show _ = _); kernel_rfl) (by
  intro t
  exact ret_mk [.slc 0] (by kernel_rfl) (by kernel_rfl) (by kernel_rfl) (by kernel_rfl)) h

theorem impl_appendFlat_step (n : Nat) (h42 : Sound Tryd.prog 42 (F_impl_appendFlat_fuel n)) (h64 : Sound Tryd.prog 64 (F_impl_appendEachFlat_fuel n)) : Sound Tryd.prog 42 (F_impl_appendFlat_fuel (n + 1)) := by
  refine fn_sound' (C := impl_appendFlat_ctx n) (c := bodyOf Tryd.f42) (cok_of tys_ok (allc impl_dependentsBeside_sound (allc h64 alln)) (allc Tryd.call63 (allc Tryd.call64 alln)) (by kernel_rfl)) Tryd.func42 (by kernel_rfl) LL impl_appendFlat_an ?_
  intro avs H r H' h
  unfold F_impl_appendFlat_fuel at h
  split at h
  · refine Awp.cast ?_ ?_ ?_ (impl_appendFlat_e n _ _ _ h) <;> kernel_rfl
  · simp [Ans.no, Ans.run] at h

theorem impl_appendFlat_null : Sound Tryd.prog 42 (F_impl_appendFlat_fuel 0) := by
  intro avs H r H' h
  unfold F_impl_appendFlat_fuel at h
  split at h
  · simp [impl_appendFlat_fuel, impl_appendFlat_knot, Ans.run] at h
  · simp [Ans.no, Ans.run] at h

theorem impl_appendEachFlat_step (n : Nat) (h42 : Sound Tryd.prog 42 (F_impl_appendFlat_fuel n)) (h64 : Sound Tryd.prog 64 (F_impl_appendEachFlat_fuel n)) : Sound Tryd.prog 64 (F_impl_appendEachFlat_fuel (n + 1)) := by
  refine fn_sound' (C := impl_appendEachFlat_ctx n) (c := bodyOf Tryd.f64) (cok_of tys_ok (allc impl_wordSet_list_sound (allc h42 alln)) (allc Tryd.call67 (allc Tryd.call42 alln)) (by kernel_rfl)) Tryd.func64 (by kernel_rfl) LL impl_appendEachFlat_an ?_
  intro avs H r H' h
  unfold F_impl_appendEachFlat_fuel at h
  split at h
  · refine Awp.cast ?_ ?_ ?_ (impl_appendEachFlat_e n _ _ _ h) <;> kernel_rfl
  · simp [Ans.no, Ans.run] at h

theorem impl_appendEachFlat_null : Sound Tryd.prog 64 (F_impl_appendEachFlat_fuel 0) := by
  intro avs H r H' h
  unfold F_impl_appendEachFlat_fuel at h
  split at h
  · simp [impl_appendEachFlat_fuel, impl_appendFlat_knot, Ans.run] at h
  · simp [Ans.no, Ans.run] at h

theorem impl_appendFlat_knot_all : ∀ n, Sound Tryd.prog 42 (F_impl_appendFlat_fuel n) ∧ Sound Tryd.prog 64 (F_impl_appendEachFlat_fuel n)
  | 0 => ⟨impl_appendFlat_null, impl_appendEachFlat_null⟩
  | n + 1 => by
    obtain ⟨h42, h64⟩ := impl_appendFlat_knot_all n
    exact ⟨impl_appendFlat_step n h42 h64, impl_appendEachFlat_step n h42 h64⟩

def F_impl_appendFlat : Fun := fun avs H =>
  match avs, H with
  | [.slc 0, .dat (.list (.int .i64)) x1606, .dat (.int .i64) x1607], [some (.seq (.int .i64) x1608)] => ⟨_, impl_appendFlat x1606 x1607 x1608, fun (t : (List Int)) => (.slc 0, [some (sI t)]), [0], none⟩
  | _, _ => Ans.no

theorem impl_appendFlat_sound : Sound Tryd.prog 42 F_impl_appendFlat := by
  have e : F_impl_appendFlat = F_impl_appendFlat_fuel RR := by
    funext avs H
    unfold F_impl_appendFlat F_impl_appendFlat_fuel
    split <;> first | rfl | (simp only [impl_appendFlat])
  rw [e]
  exact (impl_appendFlat_knot_all RR).1

def F_impl_appendEachFlat : Fun := fun avs H =>
  match avs, H with
  | [.slc 0, .dat (.list (.int .i64)) x1845, .dat (.int .u64) x1846], [some (.seq (.int .i64) x1847)] => ⟨_, impl_appendEachFlat x1845 x1846 x1847, fun (t : (List Int)) => (.slc 0, [some (sI t)]), [0], none⟩
  | _, _ => Ans.no

theorem impl_appendEachFlat_sound : Sound Tryd.prog 64 F_impl_appendEachFlat := by
  have e : F_impl_appendEachFlat = F_impl_appendEachFlat_fuel RR := by
    funext avs H
    unfold F_impl_appendEachFlat F_impl_appendEachFlat_fuel
    split <;> first | rfl | (simp only [impl_appendEachFlat])
  rw [e]
  exact (impl_appendFlat_knot_all RR).2


/-! loop.example/headtrees/impl.FlatOrder -/

def impl_FlatOrder_an : Ann := (.seq (.leaf [0]) (.seq (.seq (.leaf [0, 5]) (.cond (.seq (.leaf [2]) (.leaf [2])) (.leaf [0]))) (.seq (.draw [5, 100006] [0, 1, 3, 4, 5, 2, 6, 7] [] [2]) (.leaf [2]))))

noncomputable def impl_FlatOrder_ctx : Ctx := ⟨tlook tys, olook [(9, F_impl_TreeOk), (43, F_impl_RootOf), (42, F_impl_appendFlat)], ioF, 0, false, []⟩

theorem impl_FlatOrder_n1_l (x1426 : List Int) : Link impl_FlatOrder_ctx LL (bodyOf Tryd.f20) impl_FlatOrder_an ⟨mkE 13 0 [(0, dL x1426)], []⟩ (impl_FlatOrder_n1 x1426) (fun (t : (List Int)) => (Exit.ret, ⟨mkE 13 0 [(2, .slc 0)], [some (sI t)]⟩)) := by
  refine Link.of fun K h => ?_
  simp only [impl_FlatOrder_n1, wpO_bind, wpO_cond, wpO_map, wpO_some] at h
  exact Awp.of (by kernel_rfl) h

theorem impl_FlatOrder_e (x1426 : List Int) {r : AV} {H' : Heap} (h : (Ans.mk _ (impl_FlatOrder x1426) (fun (t : (List Int)) => (.slc 0, [some (sI t)])) [] none).run = some (r, H')) : Awp impl_FlatOrder_ctx LL (bodyOf Tryd.f20) impl_FlatOrder_an ⟨mkE 13 0 [(0, dL x1426)], []⟩ (Ret (tlook tys) Tryd.f20.results.toList r H') :=
  ret_of' (impl_FlatOrder_n1_l x1426) (by unfold impl_FlatOrder; kernel_rfl) (by
  intro t
  exact ret_mk [.slc 0] (by kernel_rfl) (by kernel_rfl) (by kernel_rfl) (by kernel_rfl)) h

def F_impl_FlatOrder : Fun := fun avs H =>
  match avs, H with
  | [.dat (.list (.int .i64)) x1426], [] => ⟨_, impl_FlatOrder x1426, fun (t : (List Int)) => (.slc 0, [some (sI t)]), [], none⟩
  | _, _ => Ans.no

theorem impl_FlatOrder_sound : Sound Tryd.prog 20 F_impl_FlatOrder := by
  refine fn_sound' (C := impl_FlatOrder_ctx) (c := bodyOf Tryd.f20) (cok_of tys_ok (allc impl_TreeOk_sound (allc impl_RootOf_sound (allc impl_appendFlat_sound alln))) (allc Tryd.call9 (allc Tryd.call43 (allc Tryd.call42 alln))) (by kernel_rfl)) Tryd.func20 (by kernel_rfl) LL impl_FlatOrder_an ?_
  intro avs H r H' h
  unfold F_impl_FlatOrder at h
  split at h
  · refine Awp.cast ?_ ?_ ?_ (impl_FlatOrder_e _ h) <;> kernel_rfl
  · simp [Ans.no, Ans.run] at h


/-! loop.example/headtrees/impl.OrderOk -/

def impl_OrderOk_an : Ann := (.seq (.leaf [0, 1]) (.seq (.seq (.leaf [0, 1, 19]) (.cond (.seq (.leaf [4]) (.leaf [4])) (.leaf [0, 1]))) (.seq (.leaf [0, 1, 5]) (.seq (.seq (.leaf [1, 5, 20, 21, 22]) (.block (.loop (.seq (.leaf [1, 5, 20, 21, 22, 23]) (.seq (.cond (.leaf [1, 5, 20, 21, 22]) (.leaf [])) (.seq (.block (.seq (.leaf [1, 5, 7, 20, 21, 22]) (.seq (.seq (.leaf [1, 5, 7, 20, 21, 22, 37]) (.cond (.seq (.leaf [4]) (.leaf [4])) (.leaf [1, 5, 7, 20, 21, 22]))) (.leaf [1, 5, 20, 21, 22])))) (.leaf [1, 5, 20, 21, 22]))))))) (.seq (.leaf [4]) (.leaf [4]))))))

noncomputable def impl_OrderOk_ctx : Ctx := ⟨tlook tys, olook [], ioF, 0, false, []⟩

theorem impl_OrderOk_n1_l (x1946 : List Int) (x1947 : Int) : Link impl_OrderOk_ctx LL (Code.seq (cq [0] (bodyOf Tryd.f38)) (Code.seq (cq [0,1] (bodyOf Tryd.f38)) (cq [0,1,1] (bodyOf Tryd.f38)))) (Ann.seq (aq [0] impl_OrderOk_an) (Ann.seq (aq [0,1] impl_OrderOk_an) (aq [0,1,1] impl_OrderOk_an))) ⟨mkE 41 0 [(0, dL x1946), (1, dI x1947)], []⟩ (impl_OrderOk_n1 x1946 x1947) (Sum.elim (fun (t : Unit) => (Exit.normal, ⟨mkE 41 0 [(0, dL x1946), (1, dI x1947), (5, .ptr 0 0)], [some (.seq .bool (List.replicate 9 false))]⟩)) (fun (t : Bool) => (Exit.ret, ⟨mkE 41 0 [(4, dB t)], []⟩))) := by
  refine Link.of fun K h => ?_
  simp only [impl_OrderOk_n1, wpO_bind, wpO_cond, wpO_map, wpO_some] at h
  exact Awp.of (by kernel_rfl) h

theorem impl_OrderOk_n2_l (x1946 : List Int) (x1947 : Int) : Link impl_OrderOk_ctx LL (cq [0,0,1,1,1] (bodyOf Tryd.f38)) (aq [0,0,1,1,1] impl_OrderOk_an) ⟨mkE 41 0 [(0, dL x1946), (1, dI x1947), (5, .ptr 0 0)], [some (.seq .bool (List.replicate 9 false))]⟩ (impl_OrderOk_n2 x1946) (fun (t : Int) => (Exit.normal, ⟨mkE 41 0 [(1, dI x1947), (5, .ptr 0 0), (20, dL x1946), (21, dI t), (22, dI 0)], [some (.seq .bool (List.replicate 9 false))]⟩)) := by
  refine Link.of fun K h => ?_
  simp only [impl_OrderOk_n2, wpO_bind, wpO_cond, wpO_map, wpO_some] at h
  exact Awp.of (by kernel_rfl) h

theorem impl_OrderOk_n3_l (x1947 : Int) (x1946 : List Int) (x1957 : Int) (x1981 : Int) (x1982 : List Bool) : Link impl_OrderOk_ctx LL (cq [0,0,1,0,1,1,1] (bodyOf Tryd.f38)) (aq [0,0,1,0,1,1,1] impl_OrderOk_an) ⟨mkE 41 0 [(1, dI x1947), (5, .ptr 0 0), (20, dL x1946), (21, dI x1957), (22, dI x1981)], [some (.seq .bool x1982)]⟩ (impl_OrderOk_n3 x1947 x1946 x1957 x1981 x1982) (Sum.elim (fun (t : Int × (List Bool)) => (Exit.normal, ⟨mkE 41 0 [(1, dI x1947), (5, .ptr 0 0), (20, dL x1946), (21, dI x1957), (22, dI t.1)], [some (.seq .bool t.2)]⟩)) (Sum.elim (fun (t : Bool) => (Exit.ret, ⟨mkE 41 0 [(4, dB t)], []⟩)) (fun (t : Unit) => ((Exit.exit 0), ⟨mkE 41 0 [], []⟩)))) := by
  refine Link.of fun K h => ?_
  simp only [impl_OrderOk_n3, wpO_bind, wpO_cond, wpO_map, wpO_some] at h
  exact Awp.of (by kernel_rfl) h

def impl_OrderOk_n4_l (x1947 : Int) (x1946 : List Int) (x1957 : Int) := (link_loop (mk := fun (s : Int × (List Bool)) => ⟨mkE 41 0 [(1, dI x1947), (5, .ptr 0 0), (20, dL x1946), (21, dI x1957), (22, dI s.1)], [some (.seq .bool s.2)]⟩) (fin := (Sum.elim (fun (t : Bool) => (Exit.ret, ⟨mkE 41 0 [(4, dB t)], []⟩)) (fun (t : Unit) => ((Exit.exit 0), ⟨mkE 41 0 [], []⟩)))) (by
  rintro (t | t) f K h
  · exact h
  · exact h) (fun s => link_map (impl_OrderOk_n3_l x1947 x1946 x1957 s.1 s.2) (Sum.elim (fun (t : Int × (List Bool)) => Sum.inl (t.1, t.2)) (Sum.elim (fun (t : Bool) => Sum.inr (Sum.inl t)) (fun (t : Unit) => Sum.inr (Sum.inr t)))) (by
  rintro (t | t | t)
  · kernel_rfl
  · kernel_rfl
  · kernel_rfl)) (0, (List.replicate 9 false)))

def impl_OrderOk_n5_l (x1947 : Int) (x1946 : List Int) (x1957 : Int) := (link_block (fin2 := (Sum.elim (fun (t : Unit) => (Exit.normal, ⟨mkE 41 0 [], []⟩)) (fun (t : Bool) => (Exit.ret, ⟨mkE 41 0 [(4, dB t)], []⟩)))) (id := 0) (impl_OrderOk_n4_l x1947 x1946 x1957) (Sum.elim (fun (t : Bool) => (Sum.inr t)) (fun (t : Unit) => (Sum.inl ()))) (by
  rintro (t | t) K h
  · exact Eq.mp (by kernel_rfl) h
  · exact Eq.mp (by kernel_rfl) h))

def impl_OrderOk_n6_l (x1946 : List Int) (x1947 : Int) := (link_seq (impl_OrderOk_n2_l x1946 x1947) (fun (t : Int) => (impl_OrderOk_n5_l x1947 x1946 t)))

theorem impl_OrderOk_n7_l : Link impl_OrderOk_ctx LL (cq [1,1,1,1] (bodyOf Tryd.f38)) (aq [1,1,1,1] impl_OrderOk_an) ⟨mkE 41 0 [], []⟩ (impl_OrderOk_n7) (fun (t : Bool) => (Exit.ret, ⟨mkE 41 0 [(4, dB t)], []⟩)) := by
  refine Link.of fun K h => ?_
  simp only [impl_OrderOk_n7, wpO_bind, wpO_cond, wpO_map, wpO_some] at h
  exact Awp.of (by kernel_rfl) h

def impl_OrderOk_n8_l (x1946 : List Int) (x1947 : Int) := (link_seq2 (impl_OrderOk_n6_l x1946 x1947) (fun (t : Unit) => (impl_OrderOk_n7_l)) (fun (t : Bool) => t) (by
  rintro t
  · kernel_rfl) (by
  rintro t f K h
  · exact h))

def impl_OrderOk_n9_l (x1946 : List Int) (x1947 : Int) := (link_group (c := (cq [0,1,1] (bodyOf Tryd.f38))) (a := (aq [0,1,1] impl_OrderOk_an)) [(cq [0] (bodyOf Tryd.f38)), (cq [0,1] (bodyOf Tryd.f38))] [(aq [0] impl_OrderOk_an), (aq [0,1] impl_OrderOk_an)] rfl (link_seq2 (impl_OrderOk_n1_l x1946 x1947) (fun (t : Unit) => (impl_OrderOk_n8_l x1946 x1947)) (fun (t : Bool) => t) (by
  rintro t
  · kernel_rfl) (by
  rintro t f K h
  · exact h)))

theorem impl_OrderOk_e (x1946 : List Int) (x1947 : Int) {r : AV} {H' : Heap} (h : (Ans.mk _ (impl_OrderOk x1946 x1947) (fun (t : Bool) => (dB t, [])) [] none).run = some (r, H')) : Awp impl_OrderOk_ctx LL (bodyOf Tryd.f38) impl_OrderOk_an ⟨mkE 41 0 [(0, dL x1946), (1, dI x1947)], []⟩ (Ret (tlook tys) Tryd.f38.results.toList r H') :=
  ret_of' (Link.cast (by kernel_rfl) (by kernel_rfl) (impl_OrderOk_n9_l x1946 x1947)) (by unfold impl_OrderOk; kernel_rfl) (by
  intro t
  exact ret_mk [dB t] (by kernel_rfl) (by kernel_rfl) (by kernel_rfl) (by kernel_rfl)) h

def F_impl_OrderOk : Fun := fun avs H =>
  match avs, H with
  | [.dat (.list (.int .i64)) x1946, .dat (.int .i64) x1947], [] => ⟨_, impl_OrderOk x1946 x1947, fun (t : Bool) => (dB t, []), [], none⟩
  | _, _ => Ans.no

theorem impl_OrderOk_sound : Sound Tryd.prog 38 F_impl_OrderOk := by
  refine fn_sound' (C := impl_OrderOk_ctx) (c := bodyOf Tryd.f38) (cok_of tys_ok (alln) (alln) (by kernel_rfl)) Tryd.func38 (by kernel_rfl) LL impl_OrderOk_an ?_
  intro avs H r H' h
  unfold F_impl_OrderOk at h
  split at h
  · refine Awp.cast ?_ ?_ ?_ (impl_OrderOk_e _ _ h) <;> kernel_rfl
  · simp [Ans.no, Ans.run] at h


/-! loop.example/headtrees/impl.placesIn -/

def impl_placesIn_an : Ann := (.seq (.leaf [0]) (.seq (.leaf [0, 3]) (.seq (.seq (.leaf [3, 10, 11, 12]) (.block (.loop (.seq (.leaf [3, 10, 11, 12, 13]) (.seq (.cond (.leaf [3, 10, 11, 12]) (.leaf [3])) (.seq (.block (.seq (.leaf [3, 4, 5, 10, 11, 12]) (.leaf [3, 10, 11, 12]))) (.leaf [3, 10, 11, 12]))))))) (.seq (.leaf [2]) (.leaf [2])))))

noncomputable def impl_placesIn_ctx : Ctx := ⟨tlook tys, olook [], ioF, 0, false, []⟩

theorem impl_placesIn_n1_l (x2014 : List Int) : Link impl_placesIn_ctx LL (Code.seq (cq [0] (bodyOf Tryd.f39)) (cq [0,1] (bodyOf Tryd.f39))) (Ann.seq (aq [0] impl_placesIn_an) (aq [0,1] impl_placesIn_an)) ⟨mkE 24 0 [(0, dL x2014)], []⟩ (impl_placesIn_n1 x2014) (fun (t : (List Int)) => (Exit.normal, ⟨mkE 24 0 [(0, dL x2014), (3, .slc 0)], [some (sI t)]⟩)) := by
  refine Link.of fun K h => ?_
  simp only [impl_placesIn_n1, wpO_bind, wpO_cond, wpO_map, wpO_some] at h
  exact Awp.of (by kernel_rfl) h

theorem impl_placesIn_n2_l (x2014 : List Int) (x2018 : List Int) : Link impl_placesIn_ctx LL (cq [0,0,1,1] (bodyOf Tryd.f39)) (aq [0,0,1,1] impl_placesIn_an) ⟨mkE 24 0 [(0, dL x2014), (3, .slc 0)], [some (sI x2018)]⟩ (impl_placesIn_n2 x2014) (fun (t : Int) => (Exit.normal, ⟨mkE 24 0 [(3, .slc 0), (10, dL x2014), (11, dI t), (12, dI 0)], [some (sI x2018)]⟩)) := by
  refine Link.of fun K h => ?_
  simp only [impl_placesIn_n2, wpO_bind, wpO_cond, wpO_map, wpO_some] at h
  exact Awp.of (by kernel_rfl) h

theorem impl_placesIn_n3_l (x2014 : List Int) (x2019 : Int) (x2033 : Int) (x2034 : List Int) : Link impl_placesIn_ctx LL (cq [0,0,1,0,1,1] (bodyOf Tryd.f39)) (aq [0,0,1,0,1,1] impl_placesIn_an) ⟨mkE 24 0 [(3, .slc 0), (10, dL x2014), (11, dI x2019), (12, dI x2033)], [some (sI x2034)]⟩ (impl_placesIn_n3 x2014 x2019 x2033 x2034) (Sum.elim (fun (t : Int × (List Int)) => (Exit.normal, ⟨mkE 24 0 [(3, .slc 0), (10, dL x2014), (11, dI x2019), (12, dI t.1)], [some (sI t.2)]⟩)) (fun (t : (List Int)) => ((Exit.exit 0), ⟨mkE 24 0 [(3, .slc 0)], [some (sI t)]⟩))) := by
  refine Link.of fun K h => ?_
  simp only [impl_placesIn_n3, wpO_bind, wpO_cond, wpO_map, wpO_some] at h
  exact Awp.of (by kernel_rfl) h

def impl_placesIn_n4_l (x2014 : List Int) (x2019 : Int) (x2018 : List Int) := (link_loop (mk := fun (s : Int × (List Int)) => ⟨mkE 24 0 [(3, .slc 0), (10, dL x2014), (11, dI x2019), (12, dI s.1)], [some (sI s.2)]⟩) (fin := (fun (t : (List Int)) => ((Exit.exit 0), ⟨mkE 24 0 [(3, .slc 0)], [some (sI t)]⟩))) (by
  rintro t f K h
  · exact h) (fun s => link_map (impl_placesIn_n3_l x2014 x2019 s.1 s.2) (Sum.elim (fun (t : Int × (List Int)) => Sum.inl (t.1, t.2)) (fun (t : (List Int)) => Sum.inr t)) (by
  rintro (t | t)
  · kernel_rfl
  · kernel_rfl)) (0, x2018))

def impl_placesIn_n5_l (x2014 : List Int) (x2019 : Int) (x2018 : List Int) := (link_block (fin2 := (fun (t : (List Int)) => (Exit.normal, ⟨mkE 24 0 [(3, .slc 0)], [some (sI t)]⟩))) (id := 0) (impl_placesIn_n4_l x2014 x2019 x2018) (fun (t : (List Int)) => t) (by
  rintro t K h
  · exact Eq.mp (by kernel_rfl) h))

def impl_placesIn_n6_l (x2014 : List Int) (x2018 : List Int) := (link_seq (impl_placesIn_n2_l x2014 x2018) (fun (t : Int) => (impl_placesIn_n5_l x2014 t x2018)))

theorem impl_placesIn_n7_l (x2034 : List Int) : Link impl_placesIn_ctx LL (cq [1,1,1] (bodyOf Tryd.f39)) (aq [1,1,1] impl_placesIn_an) ⟨mkE 24 0 [(3, .slc 0)], [some (sI x2034)]⟩ (impl_placesIn_n7 x2034) (fun (t : (List Int)) => (Exit.ret, ⟨mkE 24 0 [(2, .slc 0)], [some (sI t)]⟩)) := by
  refine Link.of fun K h => ?_
  simp only [impl_placesIn_n7, wpO_bind, wpO_cond, wpO_map, wpO_some] at h
  exact Awp.of (by kernel_rfl) h

def impl_placesIn_n8_l (x2014 : List Int) (x2018 : List Int) := (link_seq (impl_placesIn_n6_l x2014 x2018) (fun (t : (List Int)) => (impl_placesIn_n7_l t)))

def impl_placesIn_n9_l (x2014 : List Int) := (link_group (c := (cq [0,1] (bodyOf Tryd.f39))) (a := (aq [0,1] impl_placesIn_an)) [(cq [0] (bodyOf Tryd.f39))] [(aq [0] impl_placesIn_an)] rfl (link_seq (impl_placesIn_n1_l x2014) (fun (t : (List Int)) => (impl_placesIn_n8_l x2014 t))))

theorem impl_placesIn_e (x2014 : List Int) {r : AV} {H' : Heap} (h : (Ans.mk _ (impl_placesIn x2014) (fun (t : (List Int)) => (.slc 0, [some (sI t)])) [] none).run = some (r, H')) : Awp impl_placesIn_ctx LL (bodyOf Tryd.f39) impl_placesIn_an ⟨mkE 24 0 [(0, dL x2014)], []⟩ (Ret (tlook tys) Tryd.f39.results.toList r H') :=
  ret_of' (Link.cast (by kernel_rfl) (by kernel_rfl) (impl_placesIn_n9_l x2014)) (by unfold impl_placesIn; kernel_rfl) (by
  intro t
  exact ret_mk [.slc 0] (by kernel_rfl) (by kernel_rfl) (by kernel_rfl) (by kernel_rfl)) h

def F_impl_placesIn : Fun := fun avs H =>
  match avs, H with
  | [.dat (.list (.int .i64)) x2014], [] => ⟨_, impl_placesIn x2014, fun (t : (List Int)) => (.slc 0, [some (sI t)]), [], none⟩
  | _, _ => Ans.no

theorem impl_placesIn_sound : Sound Tryd.prog 39 F_impl_placesIn := by
  refine fn_sound' (C := impl_placesIn_ctx) (c := bodyOf Tryd.f39) (cok_of tys_ok (alln) (alln) (by kernel_rfl)) Tryd.func39 (by kernel_rfl) LL impl_placesIn_an ?_
  intro avs H r H' h
  unfold F_impl_placesIn at h
  split at h
  · refine Awp.cast ?_ ?_ ?_ (impl_placesIn_e _ h) <;> kernel_rfl
  · simp [Ans.no, Ans.run] at h


/-! loop.example/headtrees/impl.PutInOrder$1 -/

def impl_PutInOrder_1_an : Ann := (.seq (.leaf [0, 1]) (.seq (.leaf [3]) (.leaf [3])))

noncomputable def impl_PutInOrder_1_ctx : Ctx := ⟨tlook tys, olook [], ioF, 2, false, []⟩

theorem impl_PutInOrder_1_n1_l (x2068 : Int) (x2069 : List Int) : Link impl_PutInOrder_1_ctx LL (bodyOf Tryd.f41) impl_PutInOrder_1_an ⟨mkE 8 0 [(0, dI x2068), (1, .ptr 0 0)], [some (.box [.slc 1]), some (sI x2069)]⟩ (impl_PutInOrder_1_n1 x2068 x2069) (fun (t : Int) => (Exit.ret, ⟨mkE 8 0 [(3, dI t)], [some (.box [.slc 1]), some (sI x2069)]⟩)) := by
  refine Link.of fun K h => ?_
  simp only [impl_PutInOrder_1_n1, wpO_bind, wpO_cond, wpO_map, wpO_some] at h
  exact Awp.of (by kernel_rfl) h

theorem impl_PutInOrder_1_e (x2068 : Int) (x2069 : List Int) {r : AV} {H' : Heap} (h : (Ans.mk _ (impl_PutInOrder_1 x2068 x2069) (fun (t : Int) => (dI t, [some (.box [.slc 1]), some (sI x2069)])) [] none).run = some (r, H')) : Awp impl_PutInOrder_1_ctx LL (bodyOf Tryd.f41) impl_PutInOrder_1_an ⟨mkE 8 0 [(0, dI x2068), (1, .ptr 0 0)], [some (.box [.slc 1]), some (sI x2069)]⟩ (Ret (tlook tys) Tryd.f41.results.toList r H') :=
  ret_of' (impl_PutInOrder_1_n1_l x2068 x2069) (by unfold impl_PutInOrder_1; kernel_rfl) (by
  intro t
  exact ret_mk [dI t] (by kernel_rfl) (by kernel_rfl) (by kernel_rfl) (by kernel_rfl)) h

def F_impl_PutInOrder_1 : Fun := fun avs H =>
  match avs, H with
  | [.dat (.int .i64) x2068, .ptr 0 0], [some (.box [.slc 1]), some (.seq (.int .i64) x2069)] => ⟨_, impl_PutInOrder_1 x2068 x2069, fun (t : Int) => (dI t, [some (.box [.slc 1]), some (sI x2069)]), [], none⟩
  | _, _ => Ans.no

theorem impl_PutInOrder_1_sound : Sound Tryd.prog 41 F_impl_PutInOrder_1 := by
  refine fn_sound' (C := impl_PutInOrder_1_ctx) (c := bodyOf Tryd.f41) (cok_of tys_ok (alln) (alln) (by kernel_rfl)) Tryd.func41 (by kernel_rfl) LL impl_PutInOrder_1_an ?_
  intro avs H r H' h
  unfold F_impl_PutInOrder_1 at h
  split at h
  · refine Awp.cast ?_ ?_ ?_ (impl_PutInOrder_1_e _ _ h) <;> kernel_rfl
  · simp [Ans.no, Ans.run] at h


/-! loop.example/headtrees/impl.renamed[int] -/

def impl_renamed_int_an : Ann := (.seq (.leaf [0, 1, 2]) (.seq (.leaf [0, 1, 2, 7]) (.seq (.seq (.leaf [0, 2, 7, 13, 14, 15]) (.block (.loop (.seq (.leaf [0, 2, 7, 13, 14, 15, 16]) (.seq (.cond (.leaf [0, 2, 7, 13, 14, 15]) (.leaf [7])) (.seq (.block (.seq (.leaf [0, 2, 7, 8, 9, 13, 14, 15]) (.leaf [0, 2, 7, 13, 14, 15]))) (.leaf [0, 2, 7, 13, 14, 15]))))))) (.seq (.leaf [6]) (.leaf [6])))))

noncomputable def impl_renamed_int_ctx : Ctx := ⟨tlook tys, olook [(41, F_impl_PutInOrder_1)], ioF, 2, false, []⟩

theorem impl_renamed_int_n1_l (x2055 : List Int) (x2056 : List Int) (x2057 : List Int) : Link impl_renamed_int_ctx LL (Code.seq (cq [0] (bodyOf Tryd.f40)) (cq [0,1] (bodyOf Tryd.f40))) (Ann.seq (aq [0] impl_renamed_int_an) (aq [0,1] impl_renamed_int_an)) ⟨mkE 32 0 [(0, dL x2055), (1, dL x2056), (2, .fn 41 [] [.ptr 0 0])], [some (.box [.slc 1]), some (sI x2057)]⟩ (impl_renamed_int_n1 x2056) (fun (t : (List Int)) => (Exit.normal, ⟨mkE 32 0 [(0, dL x2055), (1, dL x2056), (2, .fn 41 [] [.ptr 0 0]), (7, .slc 2)], [some (.box [.slc 1]), some (sI x2057), some (sI t)]⟩)) := by
  refine Link.of fun K h => ?_
  simp only [impl_renamed_int_n1, wpO_bind, wpO_cond, wpO_map, wpO_some] at h
  exact Awp.of (by kernel_rfl) h

theorem impl_renamed_int_n2_l (x2055 : List Int) (x2056 : List Int) (x2057 : List Int) (x2060 : List Int) : Link impl_renamed_int_ctx LL (cq [0,0,1,1] (bodyOf Tryd.f40)) (aq [0,0,1,1] impl_renamed_int_an) ⟨mkE 32 0 [(0, dL x2055), (1, dL x2056), (2, .fn 41 [] [.ptr 0 0]), (7, .slc 2)], [some (.box [.slc 1]), some (sI x2057), some (sI x2060)]⟩ (impl_renamed_int_n2 x2056) (fun (t : Int) => (Exit.normal, ⟨mkE 32 0 [(0, dL x2055), (2, .fn 41 [] [.ptr 0 0]), (7, .slc 2), (13, dL x2056), (14, dI t), (15, dI 0)], [some (.box [.slc 1]), some (sI x2057), some (sI x2060)]⟩)) := by
  refine Link.of fun K h => ?_
  simp only [impl_renamed_int_n2, wpO_bind, wpO_cond, wpO_map, wpO_some] at h
  exact Awp.of (by kernel_rfl) h

theorem impl_renamed_int_n3_l (x2055 : List Int) (x2056 : List Int) (x2061 : Int) (x2085 : Int) (x2057 : List Int) (x2086 : List Int) : Link impl_renamed_int_ctx LL (cq [0,0,1,0,1,1] (bodyOf Tryd.f40)) (aq [0,0,1,0,1,1] impl_renamed_int_an) ⟨mkE 32 0 [(0, dL x2055), (2, .fn 41 [] [.ptr 0 0]), (7, .slc 2), (13, dL x2056), (14, dI x2061), (15, dI x2085)], [some (.box [.slc 1]), some (sI x2057), some (sI x2086)]⟩ (impl_renamed_int_n3 x2055 x2056 x2061 x2085 x2057 x2086) (Sum.elim (fun (t : Int × (List Int)) => (Exit.normal, ⟨mkE 32 0 [(0, dL x2055), (2, .fn 41 [] [.ptr 0 0]), (7, .slc 2), (13, dL x2056), (14, dI x2061), (15, dI t.1)], [some (.box [.slc 1]), some (sI x2057), some (sI t.2)]⟩)) (fun (t : (List Int)) => ((Exit.exit 0), ⟨mkE 32 0 [(7, .slc 2)], [some (.box [.slc 1]), some (sI x2057), some (sI t)]⟩))) := by
  refine Link.of fun K h => ?_
  simp only [impl_renamed_int_n3, wpO_bind, wpO_cond, wpO_map, wpO_some] at h
  exact Awp.of (by kernel_rfl) h

def impl_renamed_int_n4_l (x2055 : List Int) (x2056 : List Int) (x2061 : Int) (x2057 : List Int) (x2060 : List Int) := (link_loop (mk := fun (s : Int × (List Int)) => ⟨mkE 32 0 [(0, dL x2055), (2, .fn 41 [] [.ptr 0 0]), (7, .slc 2), (13, dL x2056), (14, dI x2061), (15, dI s.1)], [some (.box [.slc 1]), some (sI x2057), some (sI s.2)]⟩) (fin := (fun (t : (List Int)) => ((Exit.exit 0), ⟨mkE 32 0 [(7, .slc 2)], [some (.box [.slc 1]), some (sI x2057), some (sI t)]⟩))) (by
  rintro t f K h
  · exact h) (fun s => link_map (impl_renamed_int_n3_l x2055 x2056 x2061 s.1 x2057 s.2) (Sum.elim (fun (t : Int × (List Int)) => Sum.inl (t.1, t.2)) (fun (t : (List Int)) => Sum.inr t)) (by
  rintro (t | t)
  · kernel_rfl
  · kernel_rfl)) (0, x2060))

def impl_renamed_int_n5_l (x2055 : List Int) (x2056 : List Int) (x2061 : Int) (x2057 : List Int) (x2060 : List Int) := (link_block (fin2 := (fun (t : (List Int)) => (Exit.normal, ⟨mkE 32 0 [(7, .slc 2)], [some (.box [.slc 1]), some (sI x2057), some (sI t)]⟩))) (id := 0) (impl_renamed_int_n4_l x2055 x2056 x2061 x2057 x2060) (fun (t : (List Int)) => t) (by
  rintro t K h
  · exact Eq.mp (by kernel_rfl) h))

def impl_renamed_int_n6_l (x2055 : List Int) (x2056 : List Int) (x2057 : List Int) (x2060 : List Int) := (link_seq (impl_renamed_int_n2_l x2055 x2056 x2057 x2060) (fun (t : Int) => (impl_renamed_int_n5_l x2055 x2056 t x2057 x2060)))

theorem impl_renamed_int_n7_l (x2057 : List Int) (x2086 : List Int) : Link impl_renamed_int_ctx LL (cq [1,1,1] (bodyOf Tryd.f40)) (aq [1,1,1] impl_renamed_int_an) ⟨mkE 32 0 [(7, .slc 2)], [some (.box [.slc 1]), some (sI x2057), some (sI x2086)]⟩ (impl_renamed_int_n7 x2086) (fun (t : (List Int)) => (Exit.ret, ⟨mkE 32 0 [(6, .slc 2)], [some (.box [.slc 1]), some (sI x2057), some (sI t)]⟩)) := by
  refine Link.of fun K h => ?_
  simp only [impl_renamed_int_n7, wpO_bind, wpO_cond, wpO_map, wpO_some] at h
  exact Awp.of (by kernel_rfl) h

def impl_renamed_int_n8_l (x2055 : List Int) (x2056 : List Int) (x2057 : List Int) (x2060 : List Int) := (link_seq (impl_renamed_int_n6_l x2055 x2056 x2057 x2060) (fun (t : (List Int)) => (impl_renamed_int_n7_l x2057 t)))

def impl_renamed_int_n9_l (x2055 : List Int) (x2056 : List Int) (x2057 : List Int) := (link_group (c := (cq [0,1] (bodyOf Tryd.f40))) (a := (aq [0,1] impl_renamed_int_an)) [(cq [0] (bodyOf Tryd.f40))] [(aq [0] impl_renamed_int_an)] rfl (link_seq (impl_renamed_int_n1_l x2055 x2056 x2057) (fun (t : (List Int)) => (impl_renamed_int_n8_l x2055 x2056 x2057 t))))

theorem impl_renamed_int_e (x2055 : List Int) (x2056 : List Int) (x2057 : List Int) {r : AV} {H' : Heap} (h : (Ans.mk _ (impl_renamed_int x2055 x2056 x2057) (fun (t : (List Int)) => (.slc 2, [some (.box [.slc 1]), some (sI x2057), some (sI t)])) [] none).run = some (r, H')) : Awp impl_renamed_int_ctx LL (bodyOf Tryd.f40) impl_renamed_int_an ⟨mkE 32 0 [(0, dL x2055), (1, dL x2056), (2, .fn 41 [] [.ptr 0 0])], [some (.box [.slc 1]), some (sI x2057)]⟩ (Ret (tlook tys) Tryd.f40.results.toList r H') :=
  ret_of' (Link.cast (by kernel_rfl) (by kernel_rfl) (impl_renamed_int_n9_l x2055 x2056 x2057)) (by unfold impl_renamed_int; kernel_rfl) (by
  intro t
  exact ret_mk [.slc 2] (by kernel_rfl) (by kernel_rfl) (by kernel_rfl) (by kernel_rfl)) h

def F_impl_renamed_int : Fun := fun avs H =>
  match avs, H with
  | [.dat (.list (.int .i64)) x2055, .dat (.list (.int .i64)) x2056, .fn 41 [] [.ptr 0 0]], [some (.box [.slc 1]), some (.seq (.int .i64) x2057)] => ⟨_, impl_renamed_int x2055 x2056 x2057, fun (t : (List Int)) => (.slc 2, [some (.box [.slc 1]), some (sI x2057), some (sI t)]), [], none⟩
  | _, _ => Ans.no

theorem impl_renamed_int_sound : Sound Tryd.prog 40 F_impl_renamed_int := by
  refine fn_sound' (C := impl_renamed_int_ctx) (c := bodyOf Tryd.f40) (cok_of tys_ok (allc impl_PutInOrder_1_sound alln) (allc Tryd.call41 alln) (by kernel_rfl)) Tryd.func40 (by kernel_rfl) LL impl_renamed_int_an ?_
  intro avs H r H' h
  unfold F_impl_renamed_int at h
  split at h
  · refine Awp.cast ?_ ?_ ?_ (impl_renamed_int_e _ _ _ h) <;> kernel_rfl
  · simp [Ans.no, Ans.run] at h


/-! loop.example/headtrees/impl.PutInOrder -/

def impl_PutInOrder_an : Ann := (.seq (.leaf [0, 1]) (.seq (.seq (.leaf [0, 1, 16]) (.cond (.seq (.leaf [4, 5]) (.leaf [4, 5])) (.leaf [0, 1]))) (.seq (.leaf [0, 1, 6]) (.seq (.leaf [4, 5]) (.leaf [4, 5])))))

noncomputable def impl_PutInOrder_ctx : Ctx := ⟨tlook tys, olook [(9, F_impl_TreeOk), (38, F_impl_OrderOk), (39, F_impl_placesIn), (40, F_impl_renamed_int)], ioF, 0, false, []⟩

theorem impl_PutInOrder_n1_l (x1941 : List Int) (x1942 : List Int) : Link impl_PutInOrder_ctx LL (bodyOf Tryd.f19) impl_PutInOrder_an ⟨mkE 23 0 [(0, dL x1941), (1, dL x1942)], []⟩ (impl_PutInOrder_n1 x1941 x1942) (fun (t : Bool × (List Int)) => (Exit.ret, ⟨mkE 23 0 [(4, .slc 0), (5, dB t.1)], [some (sI t.2)]⟩)) := by
  refine Link.of fun K h => ?_
  simp only [impl_PutInOrder_n1, wpO_bind, wpO_cond, wpO_map, wpO_some] at h
  exact Awp.of (by kernel_rfl) h

theorem impl_PutInOrder_e (x1941 : List Int) (x1942 : List Int) {r : AV} {H' : Heap} (h : (Ans.mk _ (impl_PutInOrder x1941 x1942) (fun (t : Bool × (List Int)) => (.tup [.slc 0, dB t.1], [some (sI t.2)])) [] none).run = some (r, H')) : Awp impl_PutInOrder_ctx LL (bodyOf Tryd.f19) impl_PutInOrder_an ⟨mkE 23 0 [(0, dL x1941), (1, dL x1942)], []⟩ (Ret (tlook tys) Tryd.f19.results.toList r H') :=
  ret_of' (impl_PutInOrder_n1_l x1941 x1942) (by unfold impl_PutInOrder; kernel_rfl) (by
  intro t
  exact ret_mk [.slc 0, dB t.1] (by kernel_rfl) (by kernel_rfl) (by kernel_rfl) (by kernel_rfl)) h

def F_impl_PutInOrder : Fun := fun avs H =>
  match avs, H with
  | [.dat (.list (.int .i64)) x1941, .dat (.list (.int .i64)) x1942], [] => ⟨_, impl_PutInOrder x1941 x1942, fun (t : Bool × (List Int)) => (.tup [.slc 0, dB t.1], [some (sI t.2)]), [], none⟩
  | _, _ => Ans.no

theorem impl_PutInOrder_sound : Sound Tryd.prog 19 F_impl_PutInOrder := by
  refine fn_sound' (C := impl_PutInOrder_ctx) (c := bodyOf Tryd.f19) (cok_of tys_ok (allc impl_TreeOk_sound (allc impl_OrderOk_sound (allc impl_placesIn_sound (allc impl_renamed_int_sound alln)))) (allc Tryd.call9 (allc Tryd.call38 (allc Tryd.call39 (allc Tryd.call40 alln)))) (by kernel_rfl)) Tryd.func19 (by kernel_rfl) LL impl_PutInOrder_an ?_
  intro avs H r H' h
  unfold F_impl_PutInOrder at h
  split at h
  · refine Awp.cast ?_ ?_ ?_ (impl_PutInOrder_e _ _ h) <;> kernel_rfl
  · simp [Ans.no, Ans.run] at h


/-! loop.example/headtrees/impl.MadeFlat -/

def impl_MadeFlat_an : Ann := (.seq (.leaf [0]) (.seq (.leaf [3]) (.seq (.leaf [2]) (.leaf [2]))))

noncomputable def impl_MadeFlat_ctx : Ctx := ⟨tlook tys, olook [(20, F_impl_FlatOrder), (19, F_impl_PutInOrder)], ioF, 0, false, []⟩

theorem impl_MadeFlat_n1_l (x1425 : List Int) : Link impl_MadeFlat_ctx LL (bodyOf Tryd.f6) impl_MadeFlat_an ⟨mkE 13 0 [(0, dL x1425)], []⟩ (impl_MadeFlat_n1 x1425) (fun (t : (List Int)) => (Exit.ret, ⟨mkE 13 0 [(2, .slc 0)], [some (sI t)]⟩)) := by
  refine Link.of fun K h => ?_
  simp only [impl_MadeFlat_n1, wpO_bind, wpO_cond, wpO_map, wpO_some] at h
  exact Awp.of (by kernel_rfl) h

theorem impl_MadeFlat_e (x1425 : List Int) {r : AV} {H' : Heap} (h : (Ans.mk _ (impl_MadeFlat x1425) (fun (t : (List Int)) => (.slc 0, [some (sI t)])) [] none).run = some (r, H')) : Awp impl_MadeFlat_ctx LL (bodyOf Tryd.f6) impl_MadeFlat_an ⟨mkE 13 0 [(0, dL x1425)], []⟩ (Ret (tlook tys) Tryd.f6.results.toList r H') :=
  ret_of' (impl_MadeFlat_n1_l x1425) (by unfold impl_MadeFlat; kernel_rfl) (by
  intro t
  exact ret_mk [.slc 0] (by kernel_rfl) (by kernel_rfl) (by kernel_rfl) (by kernel_rfl)) h

def F_impl_MadeFlat : Fun := fun avs H =>
  match avs, H with
  | [.dat (.list (.int .i64)) x1425], [] => ⟨_, impl_MadeFlat x1425, fun (t : (List Int)) => (.slc 0, [some (sI t)]), [], none⟩
  | _, _ => Ans.no

theorem impl_MadeFlat_sound : Sound Tryd.prog 6 F_impl_MadeFlat := by
  refine fn_sound' (C := impl_MadeFlat_ctx) (c := bodyOf Tryd.f6) (cok_of tys_ok (allc impl_FlatOrder_sound (allc impl_PutInOrder_sound alln)) (allc Tryd.call20 (allc Tryd.call19 alln)) (by kernel_rfl)) Tryd.func6 (by kernel_rfl) LL impl_MadeFlat_an ?_
  intro avs H r H' h
  unfold F_impl_MadeFlat at h
  split at h
  · refine Awp.cast ?_ ?_ ?_ (impl_MadeFlat_e _ h) <;> kernel_rfl
  · simp [Ans.no, Ans.run] at h


/-! loop.example/headtrees/spec.RootOf -/

def spec_RootOf_an : Ann := (.seq (.leaf [0]) (.seq (.seq (.leaf [0, 3]) (.block (.loop (.seq (.seq (.leaf [0, 3, 11]) (.cond (.leaf [0, 3]) (.leaf []))) (.seq (.block (.seq (.leaf [0, 3, 18]) (.cond (.seq (.leaf [2]) (.leaf [2])) (.leaf [0, 3])))) (.leaf [0, 3])))))) (.seq (.leaf [2]) (.leaf [2]))))

noncomputable def spec_RootOf_ctx : Ctx := ⟨tlook tys, olook [(35, F_spec_TreeOk)], ioF, 0, false, []⟩

theorem spec_RootOf_n1_l (x2136 : List Int) : Link spec_RootOf_ctx LL (cq [0] (bodyOf Tryd.f46)) (aq [0] spec_RootOf_an) ⟨mkE 21 0 [(0, dL x2136)], []⟩ (spec_RootOf_n1) (fun (t : Unit) => (Exit.normal, ⟨mkE 21 0 [(0, dL x2136)], []⟩)) := by
  refine Link.of fun K h => ?_
  simp only [spec_RootOf_n1, wpO_bind, wpO_cond, wpO_map, wpO_some] at h
  exact Awp.of (by kernel_rfl) h

theorem spec_RootOf_n2_l (x2136 : List Int) : Link spec_RootOf_ctx LL (cq [0,0,1] (bodyOf Tryd.f46)) (aq [0,0,1] spec_RootOf_an) ⟨mkE 21 0 [(0, dL x2136)], []⟩ (spec_RootOf_n2) (fun (t : Unit) => (Exit.normal, ⟨mkE 21 0 [(0, dL x2136), (3, dI 0)], []⟩)) := by
  refine Link.of fun K h => ?_
  simp only [spec_RootOf_n2, wpO_bind, wpO_cond, wpO_map, wpO_some] at h
  exact Awp.of (by kernel_rfl) h

theorem spec_RootOf_n3_l (x2136 : List Int) (x2153 : Int) : Link spec_RootOf_ctx LL (cq [0,0,1,0,1] (bodyOf Tryd.f46)) (aq [0,0,1,0,1] spec_RootOf_an) ⟨mkE 21 0 [(0, dL x2136), (3, dI x2153)], []⟩ (spec_RootOf_n3 x2136 x2153) (Sum.elim (fun (t : Int) => (Exit.normal, ⟨mkE 21 0 [(0, dL x2136), (3, dI t)], []⟩)) (Sum.elim (fun (t : Int) => (Exit.ret, ⟨mkE 21 0 [(2, dI t)], []⟩)) (fun (t : Unit) => ((Exit.exit 0), ⟨mkE 21 0 [], []⟩)))) := by
  refine Link.of fun K h => ?_
  simp only [spec_RootOf_n3, wpO_bind, wpO_cond, wpO_map, wpO_some] at h
  exact Awp.of (by kernel_rfl) h

def spec_RootOf_n4_l (x2136 : List Int) := (link_loop (mk := fun (s : Int) => ⟨mkE 21 0 [(0, dL x2136), (3, dI s)], []⟩) (fin := (Sum.elim (fun (t : Int) => (Exit.ret, ⟨mkE 21 0 [(2, dI t)], []⟩)) (fun (t : Unit) => ((Exit.exit 0), ⟨mkE 21 0 [], []⟩)))) (by
  rintro (t | t) f K h
  · exact h
  · exact h) (fun s => link_map (spec_RootOf_n3_l x2136 s) (Sum.elim (fun (t : Int) => Sum.inl t) (Sum.elim (fun (t : Int) => Sum.inr (Sum.inl t)) (fun (t : Unit) => Sum.inr (Sum.inr t)))) (by
  rintro (t | t | t)
  · kernel_rfl
  · kernel_rfl
  · kernel_rfl)) 0)

def spec_RootOf_n5_l (x2136 : List Int) := (link_block (fin2 := (Sum.elim (fun (t : Unit) => (Exit.normal, ⟨mkE 21 0 [], []⟩)) (fun (t : Int) => (Exit.ret, ⟨mkE 21 0 [(2, dI t)], []⟩)))) (id := 0) (spec_RootOf_n4_l x2136) (Sum.elim (fun (t : Int) => (Sum.inr t)) (fun (t : Unit) => (Sum.inl ()))) (by
  rintro (t | t) K h
  · exact Eq.mp (by kernel_rfl) h
  · exact Eq.mp (by kernel_rfl) h))

def spec_RootOf_n6_l (x2136 : List Int) := (link_seq (spec_RootOf_n2_l x2136) (fun (t : Unit) => (spec_RootOf_n5_l x2136)))

theorem spec_RootOf_n7_l : Link spec_RootOf_ctx LL (cq [1,1] (bodyOf Tryd.f46)) (aq [1,1] spec_RootOf_an) ⟨mkE 21 0 [], []⟩ (spec_RootOf_n7) (fun (t : Int) => (Exit.ret, ⟨mkE 21 0 [(2, dI t)], []⟩)) := by
  refine Link.of fun K h => ?_
  simp only [spec_RootOf_n7, wpO_bind, wpO_cond, wpO_map, wpO_some] at h
  exact Awp.of (by kernel_rfl) h

def spec_RootOf_n8_l (x2136 : List Int) := (link_seq2 (spec_RootOf_n6_l x2136) (fun (t : Unit) => (spec_RootOf_n7_l)) (fun (t : Int) => t) (by
  rintro t
  · kernel_rfl) (by
  rintro t f K h
  · exact h))

def spec_RootOf_n9_l (x2136 : List Int) := (link_seq (spec_RootOf_n1_l x2136) (fun (t : Unit) => (spec_RootOf_n8_l x2136)))

theorem spec_RootOf_e (x2136 : List Int) {r : AV} {H' : Heap} (h : (Ans.mk _ (spec_RootOf x2136) (fun (t : Int) => (dI t, [])) [] none).run = some (r, H')) : Awp spec_RootOf_ctx LL (bodyOf Tryd.f46) spec_RootOf_an ⟨mkE 21 0 [(0, dL x2136)], []⟩ (Ret (tlook tys) Tryd.f46.results.toList r H') :=
  ret_of' (Link.cast (by kernel_rfl) (by kernel_rfl) (spec_RootOf_n9_l x2136)) (by unfold spec_RootOf; kernel_rfl) (by
  intro t
  exact ret_mk [dI t] (by kernel_rfl) (by kernel_rfl) (by kernel_rfl) (by kernel_rfl)) h

def F_spec_RootOf : Fun := fun avs H =>
  match avs, H with
  | [.dat (.list (.int .i64)) x2136], [] => ⟨_, spec_RootOf x2136, fun (t : Int) => (dI t, []), [], none⟩
  | _, _ => Ans.no

theorem spec_RootOf_sound : Sound Tryd.prog 46 F_spec_RootOf := by
  refine fn_sound' (C := spec_RootOf_ctx) (c := bodyOf Tryd.f46) (cok_of tys_ok (allc spec_TreeOk_sound alln) (allc Tryd.call35 alln) (by kernel_rfl)) Tryd.func46 (by kernel_rfl) LL spec_RootOf_an ?_
  intro avs H r H' h
  unfold F_spec_RootOf at h
  split at h
  · refine Awp.cast ?_ ?_ ?_ (spec_RootOf_e _ h) <;> kernel_rfl
  · simp [Ans.no, Ans.run] at h


/-! loop.example/headtrees/spec.l8Walk -/

def spec_l8Walk_an : Ann := (.seq (.leaf [0, 1]) (.seq (.leaf [0, 1, 5]) (.seq (.seq (.leaf [0, 1, 5, 6]) (.block (.loop (.seq (.seq (.leaf [0, 1, 5, 6, 11]) (.cond (.leaf [0, 1, 5, 6]) (.leaf [0, 1, 5]))) (.seq (.block (.seq (.leaf [0, 1, 5, 6, 20]) (.cond (.leaf [0, 1, 5, 6]) (.leaf [0, 1, 5, 6])))) (.leaf [0, 1, 5, 6])))))) (.seq (.leaf [0, 1, 5]) (.seq (.seq (.leaf [0, 1, 5, 7]) (.block (.loop (.seq (.seq (.leaf [0, 1, 5, 7, 35]) (.cond (.leaf [0, 1, 5, 7]) (.leaf [5]))) (.seq (.block (.seq (.leaf [0, 1, 5, 7, 44]) (.cond (.leaf [0, 1, 5, 7]) (.leaf [0, 1, 5, 7])))) (.leaf [0, 1, 5, 7])))))) (.seq (.leaf [4]) (.leaf [4])))))))

def F_spec_l8Walk_fuel (n : Nat) : Fun := fun avs H =>
  match avs, H with
  | [.dat (.list (.int .i64)) x2172, .dat (.int .i64) x2173], [] => ⟨_, spec_l8Walk_fuel n x2172 x2173, fun (t : (List Int)) => (.slc 0, [some (sI t)]), [], none⟩
  | _, _ => Ans.no

noncomputable def spec_l8Walk_ctx (n : Nat) : Ctx := ⟨tlook tys, olook [(45, F_spec_l8Walk_fuel n)], ioF, 0, false, []⟩

theorem spec_l8Walk_n1_l (n : Nat) (x2172 : List Int) (x2173 : Int) : Link (spec_l8Walk_ctx n) LL (Code.seq (cq [0] (bodyOf Tryd.f45)) (cq [0,1] (bodyOf Tryd.f45))) (Ann.seq (aq [0] spec_l8Walk_an) (aq [0,1] spec_l8Walk_an)) ⟨mkE 51 0 [(0, dL x2172), (1, dI x2173)], []⟩ (spec_l8Walk_n1 (spec_l8Walk_fuel n)) (fun (t : Unit) => (Exit.normal, ⟨mkE 51 0 [(0, dL x2172), (1, dI x2173), (5, .slc 0)], [some (sI ([] : List Int))]⟩)) := by
  refine Link.of fun K h => ?_
  simp only [spec_l8Walk_n1, wpO_bind, wpO_cond, wpO_map, wpO_some] at h
  exact Awp.of (by kernel_rfl) h

theorem spec_l8Walk_n2_l (n : Nat) (x2172 : List Int) (x2173 : Int) : Link (spec_l8Walk_ctx n) LL (cq [0,0,1,1] (bodyOf Tryd.f45)) (aq [0,0,1,1] spec_l8Walk_an) ⟨mkE 51 0 [(0, dL x2172), (1, dI x2173), (5, .slc 0)], [some (sI ([] : List Int))]⟩ (spec_l8Walk_n2 (spec_l8Walk_fuel n)) (fun (t : Unit) => (Exit.normal, ⟨mkE 51 0 [(0, dL x2172), (1, dI x2173), (5, .slc 0), (6, dI 1)], [some (sI ([] : List Int))]⟩)) := by
  refine Link.of fun K h => ?_
  simp only [spec_l8Walk_n2, wpO_bind, wpO_cond, wpO_map, wpO_some] at h
  exact Awp.of (by kernel_rfl) h

theorem spec_l8Walk_n3_l (n : Nat) (x2172 : List Int) (x2173 : Int) (x2248 : Int) (x2249 : List Int) : Link (spec_l8Walk_ctx n) LL (cq [0,0,1,0,1,1] (bodyOf Tryd.f45)) (aq [0,0,1,0,1,1] spec_l8Walk_an) ⟨mkE 51 0 [(0, dL x2172), (1, dI x2173), (5, .slc 0), (6, dI x2248)], [some (sI x2249)]⟩ (spec_l8Walk_n3 (spec_l8Walk_fuel n) x2172 x2173 x2248 x2249) (Sum.elim (fun (t : Int × (List Int)) => (Exit.normal, ⟨mkE 51 0 [(0, dL x2172), (1, dI x2173), (5, .slc 0), (6, dI t.1)], [some (sI t.2)]⟩)) (fun (t : (List Int)) => ((Exit.exit 0), ⟨mkE 51 0 [(0, dL x2172), (1, dI x2173), (5, .slc 0)], [some (sI t)]⟩))) := by
  refine Link.of fun K h => ?_
  simp only [spec_l8Walk_n3, wpO_bind, wpO_cond, wpO_map, wpO_some] at h
  exact Awp.of (by kernel_rfl) h

def spec_l8Walk_n4_l (n : Nat) (x2172 : List Int) (x2173 : Int) := (link_loop (mk := fun (s : Int × (List Int)) => ⟨mkE 51 0 [(0, dL x2172), (1, dI x2173), (5, .slc 0), (6, dI s.1)], [some (sI s.2)]⟩) (fin := (fun (t : (List Int)) => ((Exit.exit 0), ⟨mkE 51 0 [(0, dL x2172), (1, dI x2173), (5, .slc 0)], [some (sI t)]⟩))) (by
  rintro t f K h
  · exact h) (fun s => link_map (spec_l8Walk_n3_l n x2172 x2173 s.1 s.2) (Sum.elim (fun (t : Int × (List Int)) => Sum.inl (t.1, t.2)) (fun (t : (List Int)) => Sum.inr t)) (by
  rintro (t | t)
  · kernel_rfl
  · kernel_rfl)) (1, ([] : List Int)))

def spec_l8Walk_n5_l (n : Nat) (x2172 : List Int) (x2173 : Int) := (link_block (fin2 := (fun (t : (List Int)) => (Exit.normal, ⟨mkE 51 0 [(0, dL x2172), (1, dI x2173), (5, .slc 0)], [some (sI t)]⟩))) (id := 0) (spec_l8Walk_n4_l n x2172 x2173) (fun (t : (List Int)) => t) (by
  rintro t K h
  · exact Eq.mp (by kernel_rfl) h))

def spec_l8Walk_n6_l (n : Nat) (x2172 : List Int) (x2173 : Int) := (link_seq (spec_l8Walk_n2_l n x2172 x2173) (fun (t : Unit) => (spec_l8Walk_n5_l n x2172 x2173)))

theorem spec_l8Walk_n7_l (n : Nat) (x2172 : List Int) (x2173 : Int) (x2249 : List Int) : Link (spec_l8Walk_ctx n) LL (cq [0,1,1,1] (bodyOf Tryd.f45)) (aq [0,1,1,1] spec_l8Walk_an) ⟨mkE 51 0 [(0, dL x2172), (1, dI x2173), (5, .slc 0)], [some (sI x2249)]⟩ (spec_l8Walk_n7 (spec_l8Walk_fuel n) x2173 x2249) (fun (t : (List Int)) => (Exit.normal, ⟨mkE 51 0 [(0, dL x2172), (1, dI x2173), (5, .slc 0)], [some (sI t)]⟩)) := by
  refine Link.of fun K h => ?_
  simp only [spec_l8Walk_n7, wpO_bind, wpO_cond, wpO_map, wpO_some] at h
  exact Awp.of (by kernel_rfl) h

theorem spec_l8Walk_n8_l (n : Nat) (x2172 : List Int) (x2173 : Int) (x2274 : List Int) : Link (spec_l8Walk_ctx n) LL (cq [0,0,1,1,1,1] (bodyOf Tryd.f45)) (aq [0,0,1,1,1,1] spec_l8Walk_an) ⟨mkE 51 0 [(0, dL x2172), (1, dI x2173), (5, .slc 0)], [some (sI x2274)]⟩ (spec_l8Walk_n8 (spec_l8Walk_fuel n) x2173) (fun (t : Int) => (Exit.normal, ⟨mkE 51 0 [(0, dL x2172), (1, dI x2173), (5, .slc 0), (7, dI t)], [some (sI x2274)]⟩)) := by
  refine Link.of fun K h => ?_
  simp only [spec_l8Walk_n8, wpO_bind, wpO_cond, wpO_map, wpO_some] at h
  exact Awp.of (by kernel_rfl) h

theorem spec_l8Walk_n9_l (n : Nat) (x2172 : List Int) (x2173 : Int) (x2300 : Int) (x2301 : List Int) : Link (spec_l8Walk_ctx n) LL (cq [0,0,1,0,1,1,1,1] (bodyOf Tryd.f45)) (aq [0,0,1,0,1,1,1,1] spec_l8Walk_an) ⟨mkE 51 0 [(0, dL x2172), (1, dI x2173), (5, .slc 0), (7, dI x2300)], [some (sI x2301)]⟩ (spec_l8Walk_n9 (spec_l8Walk_fuel n) x2172 x2173 x2300 x2301) (Sum.elim (fun (t : Int × (List Int)) => (Exit.normal, ⟨mkE 51 0 [(0, dL x2172), (1, dI x2173), (5, .slc 0), (7, dI t.1)], [some (sI t.2)]⟩)) (fun (t : (List Int)) => ((Exit.exit 2), ⟨mkE 51 0 [(5, .slc 0)], [some (sI t)]⟩))) := by
  refine Link.of fun K h => ?_
  simp only [spec_l8Walk_n9, wpO_bind, wpO_cond, wpO_map, wpO_some] at h
  exact Awp.of (by kernel_rfl) h

def spec_l8Walk_n10_l (n : Nat) (x2172 : List Int) (x2173 : Int) (x2275 : Int) (x2274 : List Int) := (link_loop (mk := fun (s : Int × (List Int)) => ⟨mkE 51 0 [(0, dL x2172), (1, dI x2173), (5, .slc 0), (7, dI s.1)], [some (sI s.2)]⟩) (fin := (fun (t : (List Int)) => ((Exit.exit 2), ⟨mkE 51 0 [(5, .slc 0)], [some (sI t)]⟩))) (by
  rintro t f K h
  · exact h) (fun s => link_map (spec_l8Walk_n9_l n x2172 x2173 s.1 s.2) (Sum.elim (fun (t : Int × (List Int)) => Sum.inl (t.1, t.2)) (fun (t : (List Int)) => Sum.inr t)) (by
  rintro (t | t)
  · kernel_rfl
  · kernel_rfl)) (x2275, x2274))

def spec_l8Walk_n11_l (n : Nat) (x2172 : List Int) (x2173 : Int) (x2275 : Int) (x2274 : List Int) := (link_block (fin2 := (fun (t : (List Int)) => (Exit.normal, ⟨mkE 51 0 [(5, .slc 0)], [some (sI t)]⟩))) (id := 2) (spec_l8Walk_n10_l n x2172 x2173 x2275 x2274) (fun (t : (List Int)) => t) (by
  rintro t K h
  · exact Eq.mp (by kernel_rfl) h))

def spec_l8Walk_n12_l (n : Nat) (x2172 : List Int) (x2173 : Int) (x2274 : List Int) := (link_seq (spec_l8Walk_n8_l n x2172 x2173 x2274) (fun (t : Int) => (spec_l8Walk_n11_l n x2172 x2173 t x2274)))

theorem spec_l8Walk_n13_l (n : Nat) (x2301 : List Int) : Link (spec_l8Walk_ctx n) LL (cq [1,1,1,1,1] (bodyOf Tryd.f45)) (aq [1,1,1,1,1] spec_l8Walk_an) ⟨mkE 51 0 [(5, .slc 0)], [some (sI x2301)]⟩ (spec_l8Walk_n13 (spec_l8Walk_fuel n) x2301) (fun (t : (List Int)) => (Exit.ret, ⟨mkE 51 0 [(4, .slc 0)], [some (sI t)]⟩)) := by
  refine Link.of fun K h => ?_
  simp only [spec_l8Walk_n13, wpO_bind, wpO_cond, wpO_map, wpO_some] at h
  exact Awp.of (by kernel_rfl) h

def spec_l8Walk_n14_l (n : Nat) (x2172 : List Int) (x2173 : Int) (x2274 : List Int) := (link_seq (spec_l8Walk_n12_l n x2172 x2173 x2274) (fun (t : (List Int)) => (spec_l8Walk_n13_l n t)))

def spec_l8Walk_n15_l (n : Nat) (x2172 : List Int) (x2173 : Int) (x2249 : List Int) := (link_seq (spec_l8Walk_n7_l n x2172 x2173 x2249) (fun (t : (List Int)) => (spec_l8Walk_n14_l n x2172 x2173 t)))

def spec_l8Walk_n16_l (n : Nat) (x2172 : List Int) (x2173 : Int) := (link_seq (spec_l8Walk_n6_l n x2172 x2173) (fun (t : (List Int)) => (spec_l8Walk_n15_l n x2172 x2173 t)))

def spec_l8Walk_n17_l (n : Nat) (x2172 : List Int) (x2173 : Int) := (link_group (c := (cq [0,1] (bodyOf Tryd.f45))) (a := (aq [0,1] spec_l8Walk_an)) [(cq [0] (bodyOf Tryd.f45))] [(aq [0] spec_l8Walk_an)] rfl (link_seq (spec_l8Walk_n1_l n x2172 x2173) (fun (t : Unit) => (spec_l8Walk_n16_l n x2172 x2173))))

theorem spec_l8Walk_e (n : Nat) (x2172 : List Int) (x2173 : Int) {r : AV} {H' : Heap} (h : (Ans.mk _ (spec_l8Walk_fuel (n + 1) x2172 x2173) (fun (t : (List Int)) => (.slc 0, [some (sI t)])) [] none).run = some (r, H')) : Awp (spec_l8Walk_ctx n) LL (bodyOf Tryd.f45) spec_l8Walk_an ⟨mkE 51 0 [(0, dL x2172), (1, dI x2173)], []⟩ (Ret (tlook tys) Tryd.f45.results.toList r H') :=
  ret_of' (Link.cast (by kernel_rfl) (by kernel_rfl) (spec_l8Walk_n17_l n x2172 x2173)) (by (show _ = _); kernel_rfl) (by
  intro t
  exact ret_mk [.slc 0] (by kernel_rfl) (by kernel_rfl) (by kernel_rfl) (by kernel_rfl)) h

theorem spec_l8Walk_step (n : Nat) (h45 : Sound Tryd.prog 45 (F_spec_l8Walk_fuel n)) : Sound Tryd.prog 45 (F_spec_l8Walk_fuel (n + 1)) := by
  refine fn_sound' (C := spec_l8Walk_ctx n) (c := bodyOf Tryd.f45) (cok_of tys_ok (allc h45 alln) (allc Tryd.call45 alln) (by kernel_rfl)) Tryd.func45 (by kernel_rfl) LL spec_l8Walk_an ?_
  intro avs H r H' h
  unfold F_spec_l8Walk_fuel at h
  split at h
  · refine Awp.cast ?_ ?_ ?_ (spec_l8Walk_e n _ _ h) <;> kernel_rfl
  · simp [Ans.no, Ans.run] at h

theorem spec_l8Walk_null : Sound Tryd.prog 45 (F_spec_l8Walk_fuel 0) := by
  intro avs H r H' h
  unfold F_spec_l8Walk_fuel at h
  split at h
  · simp [spec_l8Walk_fuel, spec_l8Walk_knot, Ans.run] at h
  · simp [Ans.no, Ans.run] at h

theorem spec_l8Walk_knot_all : ∀ n, Sound Tryd.prog 45 (F_spec_l8Walk_fuel n)
  | 0 => spec_l8Walk_null
  | n + 1 => by
    have h45 := spec_l8Walk_knot_all n
    exact spec_l8Walk_step n h45

def F_spec_l8Walk : Fun := fun avs H =>
  match avs, H with
  | [.dat (.list (.int .i64)) x2172, .dat (.int .i64) x2173], [] => ⟨_, spec_l8Walk x2172 x2173, fun (t : (List Int)) => (.slc 0, [some (sI t)]), [], none⟩
  | _, _ => Ans.no

theorem spec_l8Walk_sound : Sound Tryd.prog 45 F_spec_l8Walk := by
  have e : F_spec_l8Walk = F_spec_l8Walk_fuel RR := by
    funext avs H
    unfold F_spec_l8Walk F_spec_l8Walk_fuel
    split <;> first | rfl | (simp only [spec_l8Walk])
  rw [e]
  exact (spec_l8Walk_knot_all RR)


/-! loop.example/headtrees/spec.FlatOrder -/

def spec_FlatOrder_an : Ann := (.seq (.leaf [0]) (.seq (.seq (.leaf [0, 5]) (.cond (.seq (.leaf [2]) (.leaf [2])) (.leaf [0]))) (.seq (.leaf [2]) (.leaf [2]))))

noncomputable def spec_FlatOrder_ctx : Ctx := ⟨tlook tys, olook [(35, F_spec_TreeOk), (46, F_spec_RootOf), (45, F_spec_l8Walk)], ioF, 0, false, []⟩

theorem spec_FlatOrder_n1_l (x2131 : List Int) : Link spec_FlatOrder_ctx LL (bodyOf Tryd.f22) spec_FlatOrder_an ⟨mkE 11 0 [(0, dL x2131)], []⟩ (spec_FlatOrder_n1 x2131) (fun (t : (List Int)) => (Exit.ret, ⟨mkE 11 0 [(2, .slc 0)], [some (sI t)]⟩)) := by
  refine Link.of fun K h => ?_
  simp only [spec_FlatOrder_n1, wpO_bind, wpO_cond, wpO_map, wpO_some] at h
  exact Awp.of (by kernel_rfl) h

theorem spec_FlatOrder_e (x2131 : List Int) {r : AV} {H' : Heap} (h : (Ans.mk _ (spec_FlatOrder x2131) (fun (t : (List Int)) => (.slc 0, [some (sI t)])) [] none).run = some (r, H')) : Awp spec_FlatOrder_ctx LL (bodyOf Tryd.f22) spec_FlatOrder_an ⟨mkE 11 0 [(0, dL x2131)], []⟩ (Ret (tlook tys) Tryd.f22.results.toList r H') :=
  ret_of' (spec_FlatOrder_n1_l x2131) (by unfold spec_FlatOrder; kernel_rfl) (by
  intro t
  exact ret_mk [.slc 0] (by kernel_rfl) (by kernel_rfl) (by kernel_rfl) (by kernel_rfl)) h

def F_spec_FlatOrder : Fun := fun avs H =>
  match avs, H with
  | [.dat (.list (.int .i64)) x2131], [] => ⟨_, spec_FlatOrder x2131, fun (t : (List Int)) => (.slc 0, [some (sI t)]), [], none⟩
  | _, _ => Ans.no

theorem spec_FlatOrder_sound : Sound Tryd.prog 22 F_spec_FlatOrder := by
  refine fn_sound' (C := spec_FlatOrder_ctx) (c := bodyOf Tryd.f22) (cok_of tys_ok (allc spec_TreeOk_sound (allc spec_RootOf_sound (allc spec_l8Walk_sound alln))) (allc Tryd.call35 (allc Tryd.call46 (allc Tryd.call45 alln))) (by kernel_rfl)) Tryd.func22 (by kernel_rfl) LL spec_FlatOrder_an ?_
  intro avs H r H' h
  unfold F_spec_FlatOrder at h
  split at h
  · refine Awp.cast ?_ ?_ ?_ (spec_FlatOrder_e _ h) <;> kernel_rfl
  · simp [Ans.no, Ans.run] at h


/-! loop.example/headtrees/spec.MadeFlat -/

def spec_MadeFlat_an : Ann := (.seq (.leaf [0]) (.seq (.leaf [3]) (.seq (.leaf [2]) (.leaf [2]))))

noncomputable def spec_MadeFlat_ctx : Ctx := ⟨tlook tys, olook [(22, F_spec_FlatOrder), (21, F_spec_PutInOrder)], ioF, 0, false, []⟩

theorem spec_MadeFlat_n1_l (x2130 : List Int) : Link spec_MadeFlat_ctx LL (bodyOf Tryd.f8) spec_MadeFlat_an ⟨mkE 13 0 [(0, dL x2130)], []⟩ (spec_MadeFlat_n1 x2130) (fun (t : (List Int)) => (Exit.ret, ⟨mkE 13 0 [(2, .slc 0)], [some (sI t)]⟩)) := by
  refine Link.of fun K h => ?_
  simp only [spec_MadeFlat_n1, wpO_bind, wpO_cond, wpO_map, wpO_some] at h
  exact Awp.of (by kernel_rfl) h

theorem spec_MadeFlat_e (x2130 : List Int) {r : AV} {H' : Heap} (h : (Ans.mk _ (spec_MadeFlat x2130) (fun (t : (List Int)) => (.slc 0, [some (sI t)])) [] none).run = some (r, H')) : Awp spec_MadeFlat_ctx LL (bodyOf Tryd.f8) spec_MadeFlat_an ⟨mkE 13 0 [(0, dL x2130)], []⟩ (Ret (tlook tys) Tryd.f8.results.toList r H') :=
  ret_of' (spec_MadeFlat_n1_l x2130) (by unfold spec_MadeFlat; kernel_rfl) (by
  intro t
  exact ret_mk [.slc 0] (by kernel_rfl) (by kernel_rfl) (by kernel_rfl) (by kernel_rfl)) h

def F_spec_MadeFlat : Fun := fun avs H =>
  match avs, H with
  | [.dat (.list (.int .i64)) x2130], [] => ⟨_, spec_MadeFlat x2130, fun (t : (List Int)) => (.slc 0, [some (sI t)]), [], none⟩
  | _, _ => Ans.no

theorem spec_MadeFlat_sound : Sound Tryd.prog 8 F_spec_MadeFlat := by
  refine fn_sound' (C := spec_MadeFlat_ctx) (c := bodyOf Tryd.f8) (cok_of tys_ok (allc spec_FlatOrder_sound (allc spec_PutInOrder_sound alln)) (allc Tryd.call22 (allc Tryd.call21 alln)) (by kernel_rfl)) Tryd.func8 (by kernel_rfl) LL spec_MadeFlat_an ?_
  intro avs H r H' h
  unfold F_spec_MadeFlat at h
  split at h
  · refine Awp.cast ?_ ?_ ?_ (spec_MadeFlat_e _ h) <;> kernel_rfl
  · simp [Ans.no, Ans.run] at h


/-! loop.example/headtrees/laws.sameInts -/

def laws_sameInts_an : Ann := (.seq (.leaf [0, 1]) (.seq (.seq (.leaf [0, 1, 10]) (.cond (.seq (.leaf [4]) (.leaf [4])) (.leaf [0, 1]))) (.seq (.seq (.leaf [0, 1, 5]) (.block (.loop (.seq (.seq (.leaf [0, 1, 5, 14]) (.cond (.leaf [0, 1, 5]) (.leaf []))) (.seq (.block (.seq (.draw [] [0, 1, 2, 3, 4, 5, 6, 7, 8] [] [0, 1, 5, 25]) (.cond (.seq (.leaf [4]) (.leaf [4])) (.leaf [0, 1, 5])))) (.leaf [0, 1, 5])))))) (.seq (.leaf [4]) (.leaf [4])))))

noncomputable def laws_sameInts_ctx : Ctx := ⟨tlook tys, olook [], ioF, 0, false, []⟩

theorem laws_sameInts_n1_l (x2345 : List Int) (x2346 : List Int) : Link laws_sameInts_ctx LL (Code.seq (cq [0] (bodyOf Tryd.f7)) (cq [0,1] (bodyOf Tryd.f7))) (Ann.seq (aq [0] laws_sameInts_an) (aq [0,1] laws_sameInts_an)) ⟨mkE 26 0 [(0, dL x2345), (1, dL x2346)], []⟩ (laws_sameInts_n1 x2345 x2346) (Sum.elim (fun (t : Unit) => (Exit.normal, ⟨mkE 26 0 [(0, dL x2345), (1, dL x2346)], []⟩)) (fun (t : Bool) => (Exit.ret, ⟨mkE 26 0 [(4, dB t)], []⟩))) := by
  refine Link.of fun K h => ?_
  simp only [laws_sameInts_n1, wpO_bind, wpO_cond, wpO_map, wpO_some] at h
  exact Awp.of (by kernel_rfl) h

theorem laws_sameInts_n2_l (x2345 : List Int) (x2346 : List Int) : Link laws_sameInts_ctx LL (cq [0,0,1,1] (bodyOf Tryd.f7)) (aq [0,0,1,1] laws_sameInts_an) ⟨mkE 26 0 [(0, dL x2345), (1, dL x2346)], []⟩ (laws_sameInts_n2) (fun (t : Unit) => (Exit.normal, ⟨mkE 26 0 [(0, dL x2345), (1, dL x2346), (5, dI 0)], []⟩)) := by
  refine Link.of fun K h => ?_
  simp only [laws_sameInts_n2, wpO_bind, wpO_cond, wpO_map, wpO_some] at h
  exact Awp.of (by kernel_rfl) h

theorem laws_sameInts_n3_l (x2345 : List Int) (x2346 : List Int) (x2363 : Int) : Link laws_sameInts_ctx LL (cq [0,0,1,0,1,1] (bodyOf Tryd.f7)) (aq [0,0,1,0,1,1] laws_sameInts_an) ⟨mkE 26 0 [(0, dL x2345), (1, dL x2346), (5, dI x2363)], []⟩ (laws_sameInts_n3 x2345 x2346 x2363) (Sum.elim (fun (t : Int) => (Exit.normal, ⟨mkE 26 0 [(0, dL x2345), (1, dL x2346), (5, dI t)], []⟩)) (Sum.elim (fun (t : Bool) => (Exit.ret, ⟨mkE 26 0 [(4, dB t)], []⟩)) (fun (t : Unit) => ((Exit.exit 0), ⟨mkE 26 0 [], []⟩)))) := by
  refine Link.of fun K h => ?_
  simp only [laws_sameInts_n3, wpO_bind, wpO_cond, wpO_map, wpO_some] at h
  exact Awp.of (by kernel_rfl) h

def laws_sameInts_n4_l (x2345 : List Int) (x2346 : List Int) := (link_loop (mk := fun (s : Int) => ⟨mkE 26 0 [(0, dL x2345), (1, dL x2346), (5, dI s)], []⟩) (fin := (Sum.elim (fun (t : Bool) => (Exit.ret, ⟨mkE 26 0 [(4, dB t)], []⟩)) (fun (t : Unit) => ((Exit.exit 0), ⟨mkE 26 0 [], []⟩)))) (by
  rintro (t | t) f K h
  · exact h
  · exact h) (fun s => link_map (laws_sameInts_n3_l x2345 x2346 s) (Sum.elim (fun (t : Int) => Sum.inl t) (Sum.elim (fun (t : Bool) => Sum.inr (Sum.inl t)) (fun (t : Unit) => Sum.inr (Sum.inr t)))) (by
  rintro (t | t | t)
  · kernel_rfl
  · kernel_rfl
  · kernel_rfl)) 0)

def laws_sameInts_n5_l (x2345 : List Int) (x2346 : List Int) := (link_block (fin2 := (Sum.elim (fun (t : Unit) => (Exit.normal, ⟨mkE 26 0 [], []⟩)) (fun (t : Bool) => (Exit.ret, ⟨mkE 26 0 [(4, dB t)], []⟩)))) (id := 0) (laws_sameInts_n4_l x2345 x2346) (Sum.elim (fun (t : Bool) => (Sum.inr t)) (fun (t : Unit) => (Sum.inl ()))) (by
  rintro (t | t) K h
  · exact Eq.mp (by kernel_rfl) h
  · exact Eq.mp (by kernel_rfl) h))

def laws_sameInts_n6_l (x2345 : List Int) (x2346 : List Int) := (link_seq (laws_sameInts_n2_l x2345 x2346) (fun (t : Unit) => (laws_sameInts_n5_l x2345 x2346)))

theorem laws_sameInts_n7_l : Link laws_sameInts_ctx LL (cq [1,1,1] (bodyOf Tryd.f7)) (aq [1,1,1] laws_sameInts_an) ⟨mkE 26 0 [], []⟩ (laws_sameInts_n7) (fun (t : Bool) => (Exit.ret, ⟨mkE 26 0 [(4, dB t)], []⟩)) := by
  refine Link.of fun K h => ?_
  simp only [laws_sameInts_n7, wpO_bind, wpO_cond, wpO_map, wpO_some] at h
  exact Awp.of (by kernel_rfl) h

def laws_sameInts_n8_l (x2345 : List Int) (x2346 : List Int) := (link_seq2 (laws_sameInts_n6_l x2345 x2346) (fun (t : Unit) => (laws_sameInts_n7_l)) (fun (t : Bool) => t) (by
  rintro t
  · kernel_rfl) (by
  rintro t f K h
  · exact h))

def laws_sameInts_n9_l (x2345 : List Int) (x2346 : List Int) := (link_group (c := (cq [0,1] (bodyOf Tryd.f7))) (a := (aq [0,1] laws_sameInts_an)) [(cq [0] (bodyOf Tryd.f7))] [(aq [0] laws_sameInts_an)] rfl (link_seq2 (laws_sameInts_n1_l x2345 x2346) (fun (t : Unit) => (laws_sameInts_n8_l x2345 x2346)) (fun (t : Bool) => t) (by
  rintro t
  · kernel_rfl) (by
  rintro t f K h
  · exact h)))

theorem laws_sameInts_e (x2345 : List Int) (x2346 : List Int) {r : AV} {H' : Heap} (h : (Ans.mk _ (laws_sameInts x2345 x2346) (fun (t : Bool) => (dB t, [])) [] none).run = some (r, H')) : Awp laws_sameInts_ctx LL (bodyOf Tryd.f7) laws_sameInts_an ⟨mkE 26 0 [(0, dL x2345), (1, dL x2346)], []⟩ (Ret (tlook tys) Tryd.f7.results.toList r H') :=
  ret_of' (Link.cast (by kernel_rfl) (by kernel_rfl) (laws_sameInts_n9_l x2345 x2346)) (by unfold laws_sameInts; kernel_rfl) (by
  intro t
  exact ret_mk [dB t] (by kernel_rfl) (by kernel_rfl) (by kernel_rfl) (by kernel_rfl)) h

def F_laws_sameInts : Fun := fun avs H =>
  match avs, H with
  | [.dat (.list (.int .i64)) x2345, .dat (.list (.int .i64)) x2346], [] => ⟨_, laws_sameInts x2345 x2346, fun (t : Bool) => (dB t, []), [], none⟩
  | _, _ => Ans.no

theorem laws_sameInts_sound : Sound Tryd.prog 7 F_laws_sameInts := by
  refine fn_sound' (C := laws_sameInts_ctx) (c := bodyOf Tryd.f7) (cok_of tys_ok (alln) (alln) (by kernel_rfl)) Tryd.func7 (by kernel_rfl) LL laws_sameInts_an ?_
  intro avs H r H' h
  unfold F_laws_sameInts at h
  split at h
  · refine Awp.cast ?_ ?_ ?_ (laws_sameInts_e _ _ h) <;> kernel_rfl
  · simp [Ans.no, Ans.run] at h


/-! loop.example/headtrees/laws.alive -/

def laws_alive_an : Ann := (.seq (.leaf []) (.seq (.leaf [0]) (.leaf [0])))

noncomputable def laws_alive_ctx : Ctx := ⟨tlook tys, olook [(9, F_impl_TreeOk)], ioF, 0, false, []⟩

theorem laws_alive_n1_l : Link laws_alive_ctx LL (bodyOf Tryd.f10) laws_alive_an ⟨mkE 8 0 [], []⟩ (laws_alive_n1) (fun (t : Bool) => (Exit.ret, ⟨mkE 8 0 [(0, dB t)], []⟩)) := by
  refine Link.of fun K h => ?_
  simp only [laws_alive_n1, wpO_bind, wpO_cond, wpO_map, wpO_some] at h
  exact Awp.of (by kernel_rfl) h

theorem laws_alive_e {r : AV} {H' : Heap} (h : (Ans.mk _ (laws_alive) (fun (t : Bool) => (dB t, [])) [] none).run = some (r, H')) : Awp laws_alive_ctx LL (bodyOf Tryd.f10) laws_alive_an ⟨mkE 8 0 [], []⟩ (Ret (tlook tys) Tryd.f10.results.toList r H') :=
  ret_of' (laws_alive_n1_l) (by unfold laws_alive; kernel_rfl) (by
  intro t
  exact ret_mk [dB t] (by kernel_rfl) (by kernel_rfl) (by kernel_rfl) (by kernel_rfl)) h

def F_laws_alive : Fun := fun avs H =>
  match avs, H with
  | [], [] => ⟨_, laws_alive, fun (t : Bool) => (dB t, []), [], none⟩
  | _, _ => Ans.no

theorem laws_alive_sound : Sound Tryd.prog 10 F_laws_alive := by
  refine fn_sound' (C := laws_alive_ctx) (c := bodyOf Tryd.f10) (cok_of tys_ok (allc impl_TreeOk_sound alln) (allc Tryd.call9 alln) (by kernel_rfl)) Tryd.func10 (by kernel_rfl) LL laws_alive_an ?_
  intro avs H r H' h
  unfold F_laws_alive at h
  split at h
  · refine Awp.cast ?_ ?_ ?_ (laws_alive_e h) <;> kernel_rfl
  · simp [Ans.no, Ans.run] at h


/-! loop.example/headtrees/impl.fillYields -/

def impl_fillYields_an : Ann := (.seq (.leaf [0, 1, 2]) (.seq (.leaf [0, 1, 2, 7]) (.seq (.seq (.leaf [0, 1, 2, 7, 15, 16, 17]) (.block (.loop (.seq (.leaf [0, 1, 2, 7, 15, 16, 17, 18]) (.seq (.cond (.leaf [0, 1, 2, 7, 15, 16, 17]) (.leaf [0, 2, 7])) (.seq (.block (.seq (.leaf [0, 1, 2, 7, 9, 15, 16, 17]) (.leaf [0, 1, 2, 7, 15, 16, 17]))) (.leaf [0, 1, 2, 7, 15, 16, 17]))))))) (.seq (.leaf [7]) (.seq (.leaf [6]) (.leaf [6]))))))

def F_impl_fillYields_fuel (n : Nat) : Fun := fun avs H =>
  match avs, H with
  | [.slc 0, .dat (.list (.int .i64)) x2428, .dat (.int .i64) x2429], [some (.seq (.int .u64) x2430)] => ⟨_, impl_fillYields_fuel n x2428 x2429 x2430, fun (t : Int × (List Int)) => (dW t.1, [some (.seq (.int .u64) t.2)]), [], none⟩
  | _, _ => Ans.no

noncomputable def impl_fillYields_ctx (n : Nat) : Ctx := ⟨tlook tys, olook [(66, F_impl_only), (52, F_impl_dependents), (67, F_impl_wordSet_list), (57, F_impl_fillYields_fuel n)], ioF, 1, false, []⟩

theorem impl_fillYields_n1_l (n : Nat) (x2428 : List Int) (x2429 : Int) (x2430 : List Int) : Link (impl_fillYields_ctx n) LL (Code.seq (cq [0] (bodyOf Tryd.f57)) (cq [0,1] (bodyOf Tryd.f57))) (Ann.seq (aq [0] impl_fillYields_an) (aq [0,1] impl_fillYields_an)) ⟨mkE 34 0 [(0, .slc 0), (1, dL x2428), (2, dI x2429)], [some (.seq (.int .u64) x2430)]⟩ (impl_fillYields_n1 (impl_fillYields_fuel n) x2429) (fun (t : Int) => (Exit.normal, ⟨mkE 34 0 [(0, .slc 0), (1, dL x2428), (2, dI x2429), (7, dW t)], [some (.seq (.int .u64) x2430)]⟩)) := by
  refine Link.of fun K h => ?_
  simp only [impl_fillYields_n1, wpO_bind, wpO_cond, wpO_map, wpO_some] at h
  exact Awp.of (by kernel_rfl) h

theorem impl_fillYields_n2_l (n : Nat) (x2428 : List Int) (x2429 : Int) (x2449 : Int) (x2430 : List Int) : Link (impl_fillYields_ctx n) LL (cq [0,0,1,1] (bodyOf Tryd.f57)) (aq [0,0,1,1] impl_fillYields_an) ⟨mkE 34 0 [(0, .slc 0), (1, dL x2428), (2, dI x2429), (7, dW x2449)], [some (.seq (.int .u64) x2430)]⟩ (impl_fillYields_n2 (impl_fillYields_fuel n) x2428 x2429) (fun (t : Int × (List Int)) => (Exit.normal, ⟨mkE 34 0 [(0, .slc 0), (1, dL x2428), (2, dI x2429), (7, dW x2449), (15, .slc 1), (16, dI t.1), (17, dI 0)], [some (.seq (.int .u64) x2430), some (sI t.2)]⟩)) := by
  refine Link.of fun K h => ?_
  simp only [impl_fillYields_n2, wpO_bind, wpO_cond, wpO_map, wpO_some] at h
  exact Awp.of (by kernel_rfl) h

theorem impl_fillYields_n3_l (n : Nat) (x2428 : List Int) (x2429 : Int) (x2470 : Int) (x2452 : Int) (x2471 : Int) (x2472 : List Int) (x2451 : List Int) : Link (impl_fillYields_ctx n) LL (cq [0,0,1,0,1,1] (bodyOf Tryd.f57)) (aq [0,0,1,0,1,1] impl_fillYields_an) ⟨mkE 34 0 [(0, .slc 0), (1, dL x2428), (2, dI x2429), (7, dW x2470), (15, .slc 1), (16, dI x2452), (17, dI x2471)], [some (.seq (.int .u64) x2472), some (sI x2451)]⟩ (impl_fillYields_n3 (impl_fillYields_fuel n) x2428 x2470 x2452 x2471 x2472 x2451) (Sum.elim (fun (t : Int × Int × (List Int)) => (Exit.normal, ⟨mkE 34 0 [(0, .slc 0), (1, dL x2428), (2, dI x2429), (7, dW t.1), (15, .slc 1), (16, dI x2452), (17, dI t.2.1)], [some (.seq (.int .u64) t.2.2), some (sI x2451)]⟩)) (fun (t : Int × (List Int)) => ((Exit.exit 0), ⟨mkE 34 0 [(0, .slc 0), (2, dI x2429), (7, dW t.1)], [some (.seq (.int .u64) t.2)]⟩))) := by
  refine Link.of fun K h => ?_
  simp only [impl_fillYields_n3, wpO_bind, wpO_cond, wpO_map, wpO_some] at h
  exact Awp.of (by kernel_rfl) h

def impl_fillYields_n4_l (n : Nat) (x2428 : List Int) (x2429 : Int) (x2449 : Int) (x2452 : Int) (x2430 : List Int) (x2451 : List Int) := (link_loop (mk := fun (s : Int × Int × (List Int)) => ⟨mkE 34 0 [(0, .slc 0), (1, dL x2428), (2, dI x2429), (7, dW s.1), (15, .slc 1), (16, dI x2452), (17, dI s.2.1)], [some (.seq (.int .u64) s.2.2), some (sI x2451)]⟩) (fin := (fun (t : Int × (List Int)) => ((Exit.exit 0), ⟨mkE 34 0 [(0, .slc 0), (2, dI x2429), (7, dW t.1)], [some (.seq (.int .u64) t.2)]⟩))) (by
  rintro t f K h
  · exact h) (fun s => link_map (impl_fillYields_n3_l n x2428 x2429 s.1 x2452 s.2.1 s.2.2 x2451) (Sum.elim (fun (t : Int × Int × (List Int)) => Sum.inl (t.1, t.2.1, t.2.2)) (fun (t : Int × (List Int)) => Sum.inr t)) (by
  rintro (t | t)
  · kernel_rfl
  · kernel_rfl)) (x2449, 0, x2430))

def impl_fillYields_n5_l (n : Nat) (x2428 : List Int) (x2429 : Int) (x2449 : Int) (x2452 : Int) (x2430 : List Int) (x2451 : List Int) := (link_block (fin2 := (fun (t : Int × (List Int)) => (Exit.normal, ⟨mkE 34 0 [(0, .slc 0), (2, dI x2429), (7, dW t.1)], [some (.seq (.int .u64) t.2)]⟩))) (id := 0) (impl_fillYields_n4_l n x2428 x2429 x2449 x2452 x2430 x2451) (fun (t : Int × (List Int)) => (t.1, t.2)) (by
  rintro t K h
  · exact Eq.mp (by kernel_rfl) h))

def impl_fillYields_n6_l (n : Nat) (x2428 : List Int) (x2429 : Int) (x2449 : Int) (x2430 : List Int) := (link_seq (impl_fillYields_n2_l n x2428 x2429 x2449 x2430) (fun (t : Int × (List Int)) => (impl_fillYields_n5_l n x2428 x2429 x2449 t.1 x2430 t.2)))

theorem impl_fillYields_n7_l (n : Nat) (x2429 : Int) (x2470 : Int) (x2472 : List Int) : Link (impl_fillYields_ctx n) LL (cq [1,1,1] (bodyOf Tryd.f57)) (aq [1,1,1] impl_fillYields_an) ⟨mkE 34 0 [(0, .slc 0), (2, dI x2429), (7, dW x2470)], [some (.seq (.int .u64) x2472)]⟩ (impl_fillYields_n7 (impl_fillYields_fuel n) x2429 x2470 x2472) (fun (t : Int × (List Int)) => (Exit.ret, ⟨mkE 34 0 [(6, dW t.1)], [some (.seq (.int .u64) t.2)]⟩)) := by
  refine Link.of fun K h => ?_
  simp only [impl_fillYields_n7, wpO_bind, wpO_cond, wpO_map, wpO_some] at h
  exact Awp.of (by kernel_rfl) h

def impl_fillYields_n8_l (n : Nat) (x2428 : List Int) (x2429 : Int) (x2449 : Int) (x2430 : List Int) := (link_seq (impl_fillYields_n6_l n x2428 x2429 x2449 x2430) (fun (t : Int × (List Int)) => (impl_fillYields_n7_l n x2429 t.1 t.2)))

def impl_fillYields_n9_l (n : Nat) (x2428 : List Int) (x2429 : Int) (x2430 : List Int) := (link_group (c := (cq [0,1] (bodyOf Tryd.f57))) (a := (aq [0,1] impl_fillYields_an)) [(cq [0] (bodyOf Tryd.f57))] [(aq [0] impl_fillYields_an)] rfl (link_seq (impl_fillYields_n1_l n x2428 x2429 x2430) (fun (t : Int) => (impl_fillYields_n8_l n x2428 x2429 t x2430))))

theorem impl_fillYields_e (n : Nat) (x2428 : List Int) (x2429 : Int) (x2430 : List Int) {r : AV} {H' : Heap} (h : (Ans.mk _ (impl_fillYields_fuel (n + 1) x2428 x2429 x2430) (fun (t : Int × (List Int)) => (dW t.1, [some (.seq (.int .u64) t.2)])) [] none).run = some (r, H')) : Awp (impl_fillYields_ctx n) LL (bodyOf Tryd.f57) impl_fillYields_an ⟨mkE 34 0 [(0, .slc 0), (1, dL x2428), (2, dI x2429)], [some (.seq (.int .u64) x2430)]⟩ (Ret (tlook tys) Tryd.f57.results.toList r H') :=
  ret_of' (Link.cast (by kernel_rfl) (by kernel_rfl) (impl_fillYields_n9_l n x2428 x2429 x2430)) (by (show _ = _); kernel_rfl) (by
  intro t
  exact ret_mk [dW t.1] (by kernel_rfl) (by kernel_rfl) (by kernel_rfl) (by kernel_rfl)) h

theorem impl_fillYields_step (n : Nat) (h57 : Sound Tryd.prog 57 (F_impl_fillYields_fuel n)) : Sound Tryd.prog 57 (F_impl_fillYields_fuel (n + 1)) := by
  refine fn_sound' (C := impl_fillYields_ctx n) (c := bodyOf Tryd.f57) (cok_of tys_ok (allc impl_only_sound (allc impl_dependents_sound (allc impl_wordSet_list_sound (allc h57 alln)))) (allc Tryd.call66 (allc Tryd.call52 (allc Tryd.call67 (allc Tryd.call57 alln)))) (by kernel_rfl)) Tryd.func57 (by kernel_rfl) LL impl_fillYields_an ?_
  intro avs H r H' h
  unfold F_impl_fillYields_fuel at h
  split at h
  · refine Awp.cast ?_ ?_ ?_ (impl_fillYields_e n _ _ _ h) <;> kernel_rfl
  · simp [Ans.no, Ans.run] at h

theorem impl_fillYields_null : Sound Tryd.prog 57 (F_impl_fillYields_fuel 0) := by
  intro avs H r H' h
  unfold F_impl_fillYields_fuel at h
  split at h
  · simp [impl_fillYields_fuel, impl_fillYields_knot, Ans.run] at h
  · simp [Ans.no, Ans.run] at h

theorem impl_fillYields_knot_all : ∀ n, Sound Tryd.prog 57 (F_impl_fillYields_fuel n)
  | 0 => impl_fillYields_null
  | n + 1 => by
    have h57 := impl_fillYields_knot_all n
    exact impl_fillYields_step n h57

def F_impl_fillYields : Fun := fun avs H =>
  match avs, H with
  | [.slc 0, .dat (.list (.int .i64)) x2428, .dat (.int .i64) x2429], [some (.seq (.int .u64) x2430)] => ⟨_, impl_fillYields x2428 x2429 x2430, fun (t : Int × (List Int)) => (dW t.1, [some (.seq (.int .u64) t.2)]), [], none⟩
  | _, _ => Ans.no

theorem impl_fillYields_sound : Sound Tryd.prog 57 F_impl_fillYields := by
  have e : F_impl_fillYields = F_impl_fillYields_fuel RR := by
    funext avs H
    unfold F_impl_fillYields F_impl_fillYields_fuel
    split <;> first | rfl | (simp only [impl_fillYields])
  rw [e]
  exact (impl_fillYields_knot_all RR)


/-! loop.example/headtrees/impl.yieldsOf -/

def impl_yieldsOf_an : Ann := (.seq (.leaf [0]) (.seq (.leaf [0, 3]) (.seq (.leaf [3]) (.seq (.leaf [2]) (.leaf [2])))))

noncomputable def impl_yieldsOf_ctx : Ctx := ⟨tlook tys, olook [(43, F_impl_RootOf), (57, F_impl_fillYields)], ioF, 0, false, []⟩

theorem impl_yieldsOf_n1_l (x2420 : List Int) : Link impl_yieldsOf_ctx LL (bodyOf Tryd.f29) impl_yieldsOf_an ⟨mkE 13 0 [(0, dL x2420)], []⟩ (impl_yieldsOf_n1 x2420) (fun (t : (List Int)) => (Exit.ret, ⟨mkE 13 0 [(2, .slc 0)], [some (.seq (.int .u64) t)]⟩)) := by
  refine Link.of fun K h => ?_
  simp only [impl_yieldsOf_n1, wpO_bind, wpO_cond, wpO_map, wpO_some] at h
  exact Awp.of (by kernel_rfl) h

theorem impl_yieldsOf_e (x2420 : List Int) {r : AV} {H' : Heap} (h : (Ans.mk _ (impl_yieldsOf x2420) (fun (t : (List Int)) => (.slc 0, [some (.seq (.int .u64) t)])) [] none).run = some (r, H')) : Awp impl_yieldsOf_ctx LL (bodyOf Tryd.f29) impl_yieldsOf_an ⟨mkE 13 0 [(0, dL x2420)], []⟩ (Ret (tlook tys) Tryd.f29.results.toList r H') :=
  ret_of' (impl_yieldsOf_n1_l x2420) (by unfold impl_yieldsOf; kernel_rfl) (by
  intro t
  exact ret_mk [.slc 0] (by kernel_rfl) (by kernel_rfl) (by kernel_rfl) (by kernel_rfl)) h

def F_impl_yieldsOf : Fun := fun avs H =>
  match avs, H with
  | [.dat (.list (.int .i64)) x2420], [] => ⟨_, impl_yieldsOf x2420, fun (t : (List Int)) => (.slc 0, [some (.seq (.int .u64) t)]), [], none⟩
  | _, _ => Ans.no

theorem impl_yieldsOf_sound : Sound Tryd.prog 29 F_impl_yieldsOf := by
  refine fn_sound' (C := impl_yieldsOf_ctx) (c := bodyOf Tryd.f29) (cok_of tys_ok (allc impl_RootOf_sound (allc impl_fillYields_sound alln)) (allc Tryd.call43 (allc Tryd.call57 alln)) (by kernel_rfl)) Tryd.func29 (by kernel_rfl) LL impl_yieldsOf_an ?_
  intro avs H r H' h
  unfold F_impl_yieldsOf at h
  split at h
  · refine Awp.cast ?_ ?_ ?_ (impl_yieldsOf_e _ h) <;> kernel_rfl
  · simp [Ans.no, Ans.run] at h


/-! (loop.example/headtrees/impl.wordSet).isRow -/

def impl_wordSet_isRow_an : Ann := (.seq (.leaf [0]) (.seq (.leaf [0, 3]) (.seq (.leaf [2]) (.leaf [2]))))

noncomputable def impl_wordSet_isRow_ctx : Ctx := ⟨tlook tys, olook [], ioF, 0, false, []⟩

theorem impl_wordSet_isRow_n1_l (x2523 : Int) : Link impl_wordSet_isRow_ctx LL (bodyOf Tryd.f30) impl_wordSet_isRow_an ⟨mkE 14 0 [(0, dW x2523)], []⟩ (impl_wordSet_isRow_n1 x2523) (fun (t : Bool) => (Exit.ret, ⟨mkE 14 0 [(2, dB t)], []⟩)) := by
  refine Link.of fun K h => ?_
  simp only [impl_wordSet_isRow_n1, wpO_bind, wpO_cond, wpO_map, wpO_some] at h
  exact Awp.of (by kernel_rfl) h

theorem impl_wordSet_isRow_e (x2523 : Int) {r : AV} {H' : Heap} (h : (Ans.mk _ (impl_wordSet_isRow x2523) (fun (t : Bool) => (dB t, [])) [] none).run = some (r, H')) : Awp impl_wordSet_isRow_ctx LL (bodyOf Tryd.f30) impl_wordSet_isRow_an ⟨mkE 14 0 [(0, dW x2523)], []⟩ (Ret (tlook tys) Tryd.f30.results.toList r H') :=
  ret_of' (impl_wordSet_isRow_n1_l x2523) (by unfold impl_wordSet_isRow; kernel_rfl) (by
  intro t
  exact ret_mk [dB t] (by kernel_rfl) (by kernel_rfl) (by kernel_rfl) (by kernel_rfl)) h

def F_impl_wordSet_isRow : Fun := fun avs H =>
  match avs, H with
  | [.dat (.int .u64) x2523], [] => ⟨_, impl_wordSet_isRow x2523, fun (t : Bool) => (dB t, []), [], none⟩
  | _, _ => Ans.no

theorem impl_wordSet_isRow_sound : Sound Tryd.prog 30 F_impl_wordSet_isRow := by
  refine fn_sound' (C := impl_wordSet_isRow_ctx) (c := bodyOf Tryd.f30) (cok_of tys_ok (alln) (alln) (by kernel_rfl)) Tryd.func30 (by kernel_rfl) LL impl_wordSet_isRow_an ?_
  intro avs H r H' h
  unfold F_impl_wordSet_isRow at h
  split at h
  · refine Awp.cast ?_ ?_ ?_ (impl_wordSet_isRow_e _ h) <;> kernel_rfl
  · simp [Ans.no, Ans.run] at h


/-! loop.example/headtrees/impl.FlatOk -/

def impl_FlatOk_an : Ann := (.seq (.leaf [0]) (.seq (.seq (.leaf [0, 7]) (.cond (.seq (.leaf [2]) (.leaf [2])) (.leaf [0]))) (.seq (.seq (.leaf [9, 10, 11]) (.block (.loop (.seq (.leaf [9, 10, 11, 12]) (.seq (.cond (.leaf [9, 10, 11]) (.leaf [])) (.seq (.block (.seq (.leaf [4, 9, 10, 11]) (.seq (.leaf [9, 10, 11, 17]) (.cond (.seq (.leaf [2]) (.leaf [2])) (.leaf [9, 10, 11]))))) (.leaf [9, 10, 11]))))))) (.seq (.leaf [2]) (.leaf [2])))))

noncomputable def impl_FlatOk_ctx : Ctx := ⟨tlook tys, olook [(9, F_impl_TreeOk), (29, F_impl_yieldsOf), (30, F_impl_wordSet_isRow)], ioF, 0, false, []⟩

theorem impl_FlatOk_n1_l (x2417 : List Int) : Link impl_FlatOk_ctx LL (Code.seq (cq [0] (bodyOf Tryd.f13)) (cq [0,1] (bodyOf Tryd.f13))) (Ann.seq (aq [0] impl_FlatOk_an) (aq [0,1] impl_FlatOk_an)) ⟨mkE 19 0 [(0, dL x2417)], []⟩ (impl_FlatOk_n1 x2417) (Sum.elim (fun (t : Unit) => (Exit.normal, ⟨mkE 19 0 [(0, dL x2417)], []⟩)) (fun (t : Bool) => (Exit.ret, ⟨mkE 19 0 [(2, dB t)], []⟩))) := by
  refine Link.of fun K h => ?_
  simp only [impl_FlatOk_n1, wpO_bind, wpO_cond, wpO_map, wpO_some] at h
  exact Awp.of (by kernel_rfl) h

theorem impl_FlatOk_n2_l (x2417 : List Int) : Link impl_FlatOk_ctx LL (cq [0,0,1,1] (bodyOf Tryd.f13)) (aq [0,0,1,1] impl_FlatOk_an) ⟨mkE 19 0 [(0, dL x2417)], []⟩ (impl_FlatOk_n2 x2417) (fun (t : Int × (List Int)) => (Exit.normal, ⟨mkE 19 0 [(9, .slc 0), (10, dI t.1), (11, dI 0)], [some (.seq (.int .u64) t.2)]⟩)) := by
  refine Link.of fun K h => ?_
  simp only [impl_FlatOk_n2, wpO_bind, wpO_cond, wpO_map, wpO_some] at h
  exact Awp.of (by kernel_rfl) h

theorem impl_FlatOk_n3_l (x2517 : Int) (x2544 : Int) (x2516 : List Int) : Link impl_FlatOk_ctx LL (cq [0,0,1,0,1,1] (bodyOf Tryd.f13)) (aq [0,0,1,0,1,1] impl_FlatOk_an) ⟨mkE 19 0 [(9, .slc 0), (10, dI x2517), (11, dI x2544)], [some (.seq (.int .u64) x2516)]⟩ (impl_FlatOk_n3 x2517 x2544 x2516) (Sum.elim (fun (t : Int) => (Exit.normal, ⟨mkE 19 0 [(9, .slc 0), (10, dI x2517), (11, dI t)], [some (.seq (.int .u64) x2516)]⟩)) (Sum.elim (fun (t : Bool) => (Exit.ret, ⟨mkE 19 0 [(2, dB t)], []⟩)) (fun (t : Unit) => ((Exit.exit 0), ⟨mkE 19 0 [], []⟩)))) := by
  refine Link.of fun K h => ?_
  simp only [impl_FlatOk_n3, wpO_bind, wpO_cond, wpO_map, wpO_some] at h
  exact Awp.of (by kernel_rfl) h

def impl_FlatOk_n4_l (x2517 : Int) (x2516 : List Int) := (link_loop (mk := fun (s : Int) => ⟨mkE 19 0 [(9, .slc 0), (10, dI x2517), (11, dI s)], [some (.seq (.int .u64) x2516)]⟩) (fin := (Sum.elim (fun (t : Bool) => (Exit.ret, ⟨mkE 19 0 [(2, dB t)], []⟩)) (fun (t : Unit) => ((Exit.exit 0), ⟨mkE 19 0 [], []⟩)))) (by
  rintro (t | t) f K h
  · exact h
  · exact h) (fun s => link_map (impl_FlatOk_n3_l x2517 s x2516) (Sum.elim (fun (t : Int) => Sum.inl t) (Sum.elim (fun (t : Bool) => Sum.inr (Sum.inl t)) (fun (t : Unit) => Sum.inr (Sum.inr t)))) (by
  rintro (t | t | t)
  · kernel_rfl
  · kernel_rfl
  · kernel_rfl)) 0)

def impl_FlatOk_n5_l (x2517 : Int) (x2516 : List Int) := (link_block (fin2 := (Sum.elim (fun (t : Unit) => (Exit.normal, ⟨mkE 19 0 [], []⟩)) (fun (t : Bool) => (Exit.ret, ⟨mkE 19 0 [(2, dB t)], []⟩)))) (id := 0) (impl_FlatOk_n4_l x2517 x2516) (Sum.elim (fun (t : Bool) => (Sum.inr t)) (fun (t : Unit) => (Sum.inl ()))) (by
  rintro (t | t) K h
  · exact Eq.mp (by kernel_rfl) h
  · exact Eq.mp (by kernel_rfl) h))

def impl_FlatOk_n6_l (x2417 : List Int) := (link_seq (impl_FlatOk_n2_l x2417) (fun (t : Int × (List Int)) => (impl_FlatOk_n5_l t.1 t.2)))

theorem impl_FlatOk_n7_l : Link impl_FlatOk_ctx LL (cq [1,1,1] (bodyOf Tryd.f13)) (aq [1,1,1] impl_FlatOk_an) ⟨mkE 19 0 [], []⟩ (impl_FlatOk_n7) (fun (t : Bool) => (Exit.ret, ⟨mkE 19 0 [(2, dB t)], []⟩)) := by
  refine Link.of fun K h => ?_
  simp only [impl_FlatOk_n7, wpO_bind, wpO_cond, wpO_map, wpO_some] at h
  exact Awp.of (by kernel_rfl) h

def impl_FlatOk_n8_l (x2417 : List Int) := (link_seq2 (impl_FlatOk_n6_l x2417) (fun (t : Unit) => (impl_FlatOk_n7_l)) (fun (t : Bool) => t) (by
  rintro t
  · kernel_rfl) (by
  rintro t f K h
  · exact h))

def impl_FlatOk_n9_l (x2417 : List Int) := (link_group (c := (cq [0,1] (bodyOf Tryd.f13))) (a := (aq [0,1] impl_FlatOk_an)) [(cq [0] (bodyOf Tryd.f13))] [(aq [0] impl_FlatOk_an)] rfl (link_seq2 (impl_FlatOk_n1_l x2417) (fun (t : Unit) => (impl_FlatOk_n8_l x2417)) (fun (t : Bool) => t) (by
  rintro t
  · kernel_rfl) (by
  rintro t f K h
  · exact h)))

theorem impl_FlatOk_e (x2417 : List Int) {r : AV} {H' : Heap} (h : (Ans.mk _ (impl_FlatOk x2417) (fun (t : Bool) => (dB t, [])) [] none).run = some (r, H')) : Awp impl_FlatOk_ctx LL (bodyOf Tryd.f13) impl_FlatOk_an ⟨mkE 19 0 [(0, dL x2417)], []⟩ (Ret (tlook tys) Tryd.f13.results.toList r H') :=
  ret_of' (Link.cast (by kernel_rfl) (by kernel_rfl) (impl_FlatOk_n9_l x2417)) (by unfold impl_FlatOk; kernel_rfl) (by
  intro t
  exact ret_mk [dB t] (by kernel_rfl) (by kernel_rfl) (by kernel_rfl) (by kernel_rfl)) h

def F_impl_FlatOk : Fun := fun avs H =>
  match avs, H with
  | [.dat (.list (.int .i64)) x2417], [] => ⟨_, impl_FlatOk x2417, fun (t : Bool) => (dB t, []), [], none⟩
  | _, _ => Ans.no

theorem impl_FlatOk_sound : Sound Tryd.prog 13 F_impl_FlatOk := by
  refine fn_sound' (C := impl_FlatOk_ctx) (c := bodyOf Tryd.f13) (cok_of tys_ok (allc impl_TreeOk_sound (allc impl_yieldsOf_sound (allc impl_wordSet_isRow_sound alln))) (allc Tryd.call9 (allc Tryd.call29 (allc Tryd.call30 alln))) (by kernel_rfl)) Tryd.func13 (by kernel_rfl) LL impl_FlatOk_an ?_
  intro avs H r H' h
  unfold F_impl_FlatOk at h
  split at h
  · refine Awp.cast ?_ ?_ ?_ (impl_FlatOk_e _ h) <;> kernel_rfl
  · simp [Ans.no, Ans.run] at h


/-! loop.example/headtrees/impl.newStackMachine -/

def impl_newStackMachine_an : Ann := (.seq (.leaf [0]) (.seq (.leaf [2]) (.leaf [2])))

noncomputable def impl_newStackMachine_ctx : Ctx := ⟨tlook tys, olook [], ioF, 0, false, []⟩

theorem impl_newStackMachine_n1_l (x2564 : Int) : Link impl_newStackMachine_ctx LL (bodyOf Tryd.f25) impl_newStackMachine_an ⟨mkE 7 0 [(0, dI x2564)], []⟩ (impl_newStackMachine_n1 x2564) (fun (t : (List Int)) => (Exit.ret, ⟨mkE 7 0 [(2, .ptr 0 0)], [some (.box [.slc 1, .nils, dI 0, dI 0]), some (sI t)]⟩)) := by
  refine Link.of fun K h => ?_
  simp only [impl_newStackMachine_n1, wpO_bind, wpO_cond, wpO_map, wpO_some] at h
  exact Awp.of (by kernel_rfl) h

theorem impl_newStackMachine_e (x2564 : Int) {r : AV} {H' : Heap} (h : (Ans.mk _ (impl_newStackMachine x2564) (fun (t : (List Int)) => (.ptr 0 0, [some (.box [.slc 1, .nils, dI 0, dI 0]), some (sI t)])) [] none).run = some (r, H')) : Awp impl_newStackMachine_ctx LL (bodyOf Tryd.f25) impl_newStackMachine_an ⟨mkE 7 0 [(0, dI x2564)], []⟩ (Ret (tlook tys) Tryd.f25.results.toList r H') :=
  ret_of' (impl_newStackMachine_n1_l x2564) (by unfold impl_newStackMachine; kernel_rfl) (by
  intro t
  exact ret_mk [.ptr 0 0] (by kernel_rfl) (by kernel_rfl) (by kernel_rfl) (by kernel_rfl)) h

def F_impl_newStackMachine : Fun := fun avs H =>
  match avs, H with
  | [.dat (.int .i64) x2564], [] => ⟨_, impl_newStackMachine x2564, fun (t : (List Int)) => (.ptr 0 0, [some (.box [.slc 1, .nils, dI 0, dI 0]), some (sI t)]), [], none⟩
  | _, _ => Ans.no

theorem impl_newStackMachine_sound : Sound Tryd.prog 25 F_impl_newStackMachine := by
  refine fn_sound' (C := impl_newStackMachine_ctx) (c := bodyOf Tryd.f25) (cok_of tys_ok (alln) (alln) (by kernel_rfl)) Tryd.func25 (by kernel_rfl) LL impl_newStackMachine_an ?_
  intro avs H r H' h
  unfold F_impl_newStackMachine at h
  split at h
  · refine Awp.cast ?_ ?_ ?_ (impl_newStackMachine_e _ h) <;> kernel_rfl
  · simp [Ans.no, Ans.run] at h


/-! loop.example/headtrees/impl.stackMoves -/

def F_impl_stackMoves : Fun := F_map [(.int .u8 83, .func 48), (.int .u8 76, .func 49), (.int .u8 82, .func 50)]

theorem impl_stackMoves_sound : Sound Tryd.prog 26 F_impl_stackMoves :=
  mapfn_sound (mt := 42) (kt := 5) (et := 46) (d := .int .u8) Tryd.func26 (by kernel_rfl) (by kernel_rfl) (by kernel_rfl) (by kernel_rfl) (by kernel_rfl)


/-! (*loop.example/headtrees/impl.stackMachine).ruleFor -/

def impl_stackMachine_ruleFor_an : Ann := (.seq (.leaf [2, 3]) (.seq (.leaf [2, 5]) (.seq (.leaf [4]) (.leaf [4]))))

noncomputable def impl_stackMachine_ruleFor_ctx : Ctx := ⟨tlook tys, olook [], ioF, 2, false, []⟩

theorem impl_stackMachine_ruleFor_n1_l (x2576 : List Int) (x2577 : Int) (x2578 : Int) (x2579 : List Int) : Link impl_stackMachine_ruleFor_ctx LL (bodyOf Tryd.f27) impl_stackMachine_ruleFor_an ⟨mkE 8 0 [(0, .ptr 0 0), (1, dL x2576)], [some (.box [.slc 1, .nils, dI x2577, dI x2578]), some (sI x2579)]⟩ (impl_stackMachine_ruleFor_n1) (fun (t : Unit) => (Exit.ret, ⟨mkE 8 0 [(4, .fn 53 [] [.ptr 2 0, .ptr 3 0])], [some (.box [.slc 1, .nils, dI x2577, dI x2578]), some (sI x2579), some (.box [.ptr 0 0]), some (.box [.fn 51 [] [.ptr 4 0, .ptr 2 0]]), some (.box [dL x2576])]⟩)) := by
  refine Link.of fun K h => ?_
  simp only [impl_stackMachine_ruleFor_n1, wpO_bind, wpO_cond, wpO_map, wpO_some] at h
  exact Awp.of (by kernel_rfl) h

theorem impl_stackMachine_ruleFor_e (x2576 : List Int) (x2577 : Int) (x2578 : Int) (x2579 : List Int) {r : AV} {H' : Heap} (h : (Ans.mk _ (impl_stackMachine_ruleFor x2576 x2577 x2578 x2579) (fun (t : Unit) => (.fn 53 [] [.ptr 2 0, .ptr 3 0], [some (.box [.slc 1, .nils, dI x2577, dI x2578]), some (sI x2579), some (.box [.ptr 0 0]), some (.box [.fn 51 [] [.ptr 4 0, .ptr 2 0]]), some (.box [dL x2576])])) [] none).run = some (r, H')) : Awp impl_stackMachine_ruleFor_ctx LL (bodyOf Tryd.f27) impl_stackMachine_ruleFor_an ⟨mkE 8 0 [(0, .ptr 0 0), (1, dL x2576)], [some (.box [.slc 1, .nils, dI x2577, dI x2578]), some (sI x2579)]⟩ (Ret (tlook tys) Tryd.f27.results.toList r H') :=
  ret_of' (impl_stackMachine_ruleFor_n1_l x2576 x2577 x2578 x2579) (by unfold impl_stackMachine_ruleFor; kernel_rfl) (by
  intro t
  exact ret_mk [.fn 53 [] [.ptr 2 0, .ptr 3 0]] (by kernel_rfl) (by kernel_rfl) (by kernel_rfl) (by kernel_rfl)) h

def F_impl_stackMachine_ruleFor : Fun := fun avs H =>
  match avs, H with
  | [.ptr 0 0, .dat (.list (.int .i64)) x2576], [some (.box [.slc 1, .nils, .dat (.int .i64) x2577, .dat (.int .i64) x2578]), some (.seq (.int .i64) x2579)] => ⟨_, impl_stackMachine_ruleFor x2576 x2577 x2578 x2579, fun (t : Unit) => (.fn 53 [] [.ptr 2 0, .ptr 3 0], [some (.box [.slc 1, .nils, dI x2577, dI x2578]), some (sI x2579), some (.box [.ptr 0 0]), some (.box [.fn 51 [] [.ptr 4 0, .ptr 2 0]]), some (.box [dL x2576])]), [], none⟩
  | _, _ => Ans.no

theorem impl_stackMachine_ruleFor_sound : Sound Tryd.prog 27 F_impl_stackMachine_ruleFor := by
  refine fn_sound' (C := impl_stackMachine_ruleFor_ctx) (c := bodyOf Tryd.f27) (cok_of tys_ok (alln) (alln) (by kernel_rfl)) Tryd.func27 (by kernel_rfl) LL impl_stackMachine_ruleFor_an ?_
  intro avs H r H' h
  unfold F_impl_stackMachine_ruleFor at h
  split at h
  · refine Awp.cast ?_ ?_ ?_ (impl_stackMachine_ruleFor_e _ _ _ _ h) <;> kernel_rfl
  · simp [Ans.no, Ans.run] at h


/-! (*loop.example/headtrees/impl.stackMachine).upperTwo -/

def impl_stackMachine_upperTwo_an : Ann := (.seq (.leaf [0]) (.seq (.leaf [0, 5]) (.seq (.seq (.leaf [0, 5, 12]) (.cond (.seq (.leaf [2, 3, 4]) (.leaf [2, 3, 4])) (.leaf [0, 5]))) (.seq (.draw [] [0, 1, 2, 3, 4, 5, 6, 7, 8, 9, 10, 11, 12, 13, 14, 15, 16, 17, 18] [] [2, 3, 4]) (.leaf [2, 3, 4])))))

noncomputable def impl_stackMachine_upperTwo_ctx : Ctx := ⟨tlook tys, olook [], ioF, 3, false, []⟩

theorem impl_stackMachine_upperTwo_n1_l (x2604 : Int) (x2605 : Int) (x2606 : List Int) (x2607 : List Int) : Link impl_stackMachine_upperTwo_ctx LL (bodyOf Tryd.f54) impl_stackMachine_upperTwo_an ⟨mkE 29 0 [(0, .ptr 0 0)], [some (.box [.slc 1, .slc 2, dI x2604, dI x2605]), some (sI x2606), some (sI x2607)]⟩ (impl_stackMachine_upperTwo_n1 x2607) (fun (t : Int × Int × Bool) => (Exit.ret, ⟨mkE 29 0 [(2, dI t.1), (3, dI t.2.1), (4, dB t.2.2)], [some (.box [.slc 1, .slc 2, dI x2604, dI x2605]), some (sI x2606), some (sI x2607)]⟩)) := by
  refine Link.of fun K h => ?_
  simp only [impl_stackMachine_upperTwo_n1, wpO_bind, wpO_cond, wpO_map, wpO_some] at h
  exact Awp.of (by kernel_rfl) h

theorem impl_stackMachine_upperTwo_e (x2604 : Int) (x2605 : Int) (x2606 : List Int) (x2607 : List Int) {r : AV} {H' : Heap} (h : (Ans.mk _ (impl_stackMachine_upperTwo x2604 x2605 x2606 x2607) (fun (t : Int × Int × Bool) => (.tup [dI t.1, dI t.2.1, dB t.2.2], [some (.box [.slc 1, .slc 2, dI x2604, dI x2605]), some (sI x2606), some (sI x2607)])) [] none).run = some (r, H')) : Awp impl_stackMachine_upperTwo_ctx LL (bodyOf Tryd.f54) impl_stackMachine_upperTwo_an ⟨mkE 29 0 [(0, .ptr 0 0)], [some (.box [.slc 1, .slc 2, dI x2604, dI x2605]), some (sI x2606), some (sI x2607)]⟩ (Ret (tlook tys) Tryd.f54.results.toList r H') :=
  ret_of' (impl_stackMachine_upperTwo_n1_l x2604 x2605 x2606 x2607) (by unfold impl_stackMachine_upperTwo; kernel_rfl) (by
  intro t
  exact ret_mk [dI t.1, dI t.2.1, dB t.2.2] (by kernel_rfl) (by kernel_rfl) (by kernel_rfl) (by kernel_rfl)) h

def F_impl_stackMachine_upperTwo : Fun := fun avs H =>
  match avs, H with
  | [.ptr 0 0], [some (.box [.slc 1, .slc 2, .dat (.int .i64) x2604, .dat (.int .i64) x2605]), some (.seq (.int .i64) x2606), some (.seq (.int .i64) x2607)] => ⟨_, impl_stackMachine_upperTwo x2604 x2605 x2606 x2607, fun (t : Int × Int × Bool) => (.tup [dI t.1, dI t.2.1, dB t.2.2], [some (.box [.slc 1, .slc 2, dI x2604, dI x2605]), some (sI x2606), some (sI x2607)]), [], none⟩
  | _, _ => Ans.no

theorem impl_stackMachine_upperTwo_sound : Sound Tryd.prog 54 F_impl_stackMachine_upperTwo := by
  refine fn_sound' (C := impl_stackMachine_upperTwo_ctx) (c := bodyOf Tryd.f54) (cok_of tys_ok (alln) (alln) (by kernel_rfl)) Tryd.func54 (by kernel_rfl) LL impl_stackMachine_upperTwo_an ?_
  intro avs H r H' h
  unfold F_impl_stackMachine_upperTwo at h
  split at h
  · refine Awp.cast ?_ ?_ ?_ (impl_stackMachine_upperTwo_e _ _ _ _ h) <;> kernel_rfl
  · simp [Ans.no, Ans.run] at h


/-! (*loop.example/headtrees/impl.stackMachine).ruleFor$1 -/

def impl_stackMachine_ruleFor_1_an : Ann := (.seq (.leaf [0, 1, 2, 3]) (.seq (.draw [10, 16] [0, 1, 2, 3, 4, 5, 6, 7, 8, 9, 11, 12, 13, 14, 15, 10, 16, 17, 18, 19] [] [6]) (.leaf [6])))

noncomputable def impl_stackMachine_ruleFor_1_ctx : Ctx := ⟨tlook tys, olook [(52, F_impl_dependents)], ioF, 5, false, []⟩

theorem impl_stackMachine_ruleFor_1_n1_l (x2638 : Int) (x2639 : Int) (x2640 : List Int) (x2641 : Int) (x2642 : Int) (x2643 : List Int) (x2644 : List Int) : Link impl_stackMachine_ruleFor_1_ctx LL (bodyOf Tryd.f51) impl_stackMachine_ruleFor_1_an ⟨mkE 26 0 [(0, dI x2638), (1, dI x2639), (2, .ptr 0 0), (3, .ptr 1 0)], [some (.box [dL x2640]), some (.box [.ptr 2 0]), some (.box [.slc 3, .slc 4, dI x2641, dI x2642]), some (sI x2643), some (sI x2644)]⟩ (impl_stackMachine_ruleFor_1_n1 x2638 x2639 x2640 x2643) (fun (t : Bool) => (Exit.ret, ⟨mkE 26 0 [(6, dB t)], [some (.box [dL x2640]), some (.box [.ptr 2 0]), some (.box [.slc 3, .slc 4, dI x2641, dI x2642]), some (sI x2643), some (sI x2644)]⟩)) := by
  refine Link.of fun K h => ?_
  simp only [impl_stackMachine_ruleFor_1_n1, wpO_bind, wpO_cond, wpO_map, wpO_some] at h
  exact Awp.of (by kernel_rfl) h

theorem impl_stackMachine_ruleFor_1_e (x2638 : Int) (x2639 : Int) (x2640 : List Int) (x2641 : Int) (x2642 : Int) (x2643 : List Int) (x2644 : List Int) {r : AV} {H' : Heap} (h : (Ans.mk _ (impl_stackMachine_ruleFor_1 x2638 x2639 x2640 x2641 x2642 x2643 x2644) (fun (t : Bool) => (dB t, [some (.box [dL x2640]), some (.box [.ptr 2 0]), some (.box [.slc 3, .slc 4, dI x2641, dI x2642]), some (sI x2643), some (sI x2644)])) [] none).run = some (r, H')) : Awp impl_stackMachine_ruleFor_1_ctx LL (bodyOf Tryd.f51) impl_stackMachine_ruleFor_1_an ⟨mkE 26 0 [(0, dI x2638), (1, dI x2639), (2, .ptr 0 0), (3, .ptr 1 0)], [some (.box [dL x2640]), some (.box [.ptr 2 0]), some (.box [.slc 3, .slc 4, dI x2641, dI x2642]), some (sI x2643), some (sI x2644)]⟩ (Ret (tlook tys) Tryd.f51.results.toList r H') :=
  ret_of' (impl_stackMachine_ruleFor_1_n1_l x2638 x2639 x2640 x2641 x2642 x2643 x2644) (by unfold impl_stackMachine_ruleFor_1; kernel_rfl) (by
  intro t
  exact ret_mk [dB t] (by kernel_rfl) (by kernel_rfl) (by kernel_rfl) (by kernel_rfl)) h

def F_impl_stackMachine_ruleFor_1 : Fun := fun avs H =>
  match avs, H with
  | [.dat (.int .i64) x2638, .dat (.int .i64) x2639, .ptr 0 0, .ptr 1 0], [some (.box [.dat (.list (.int .i64)) x2640]), some (.box [.ptr 2 0]), some (.box [.slc 3, .slc 4, .dat (.int .i64) x2641, .dat (.int .i64) x2642]), some (.seq (.int .i64) x2643), some (.seq (.int .i64) x2644)] => ⟨_, impl_stackMachine_ruleFor_1 x2638 x2639 x2640 x2641 x2642 x2643 x2644, fun (t : Bool) => (dB t, [some (.box [dL x2640]), some (.box [.ptr 2 0]), some (.box [.slc 3, .slc 4, dI x2641, dI x2642]), some (sI x2643), some (sI x2644)]), [], none⟩
  | _, _ => Ans.no

theorem impl_stackMachine_ruleFor_1_sound : Sound Tryd.prog 51 F_impl_stackMachine_ruleFor_1 := by
  refine fn_sound' (C := impl_stackMachine_ruleFor_1_ctx) (c := bodyOf Tryd.f51) (cok_of tys_ok (allc impl_dependents_sound alln) (allc Tryd.call52 alln) (by kernel_rfl)) Tryd.func51 (by kernel_rfl) LL impl_stackMachine_ruleFor_1_an ?_
  intro avs H r H' h
  unfold F_impl_stackMachine_ruleFor_1 at h
  split at h
  · refine Awp.cast ?_ ?_ ?_ (impl_stackMachine_ruleFor_1_e _ _ _ _ _ _ _ h) <;> kernel_rfl
  · simp [Ans.no, Ans.run] at h


/-! (*loop.example/headtrees/impl.stackMachine).ruleFor$2 -/

def impl_stackMachine_ruleFor_2_an : Ann := (.seq (.leaf [0, 1]) (.seq (.leaf [1, 3, 4, 5]) (.seq (.block (.seq (.leaf [1, 3, 4, 5, 12]) (.cond (.seq (.leaf [2]) (.leaf [2])) (.seq (.leaf [20]) (.cond (.seq (.leaf [2]) (.leaf [2])) (.leaf [])))))) (.seq (.leaf [2]) (.leaf [2])))))

noncomputable def impl_stackMachine_ruleFor_2_ctx : Ctx := ⟨tlook tys, olook [(54, F_impl_stackMachine_upperTwo), (51, F_impl_stackMachine_ruleFor_1)], ioF, 6, false, []⟩

theorem impl_stackMachine_ruleFor_2_n1_l (x2902 : Int) (x2903 : Int) (x2904 : List Int) (x2905 : List Int) (x2906 : List Int) : Link impl_stackMachine_ruleFor_2_ctx LL (bodyOf Tryd.f53) impl_stackMachine_ruleFor_2_an ⟨mkE 28 0 [(0, .ptr 0 0), (1, .ptr 1 0)], [some (.box [.ptr 2 0]), some (.box [.fn 51 [] [.ptr 3 0, .ptr 0 0]]), some (.box [.slc 4, .slc 5, dI x2902, dI x2903]), some (.box [dL x2904]), some (sI x2905), some (sI x2906)]⟩ (impl_stackMachine_ruleFor_2_n1 x2902 x2903 x2904 x2905 x2906) (fun (t : Int) => (Exit.ret, ⟨mkE 28 0 [(2, dU t)], [some (.box [.ptr 2 0]), some (.box [.fn 51 [] [.ptr 3 0, .ptr 0 0]]), some (.box [.slc 4, .slc 5, dI x2902, dI x2903]), some (.box [dL x2904]), some (sI x2905), some (sI x2906)]⟩)) := by
  refine Link.of fun K h => ?_
  simp only [impl_stackMachine_ruleFor_2_n1, wpO_bind, wpO_cond, wpO_map, wpO_some] at h
  exact Awp.of (by kernel_rfl) h

theorem impl_stackMachine_ruleFor_2_e (x2902 : Int) (x2903 : Int) (x2904 : List Int) (x2905 : List Int) (x2906 : List Int) {r : AV} {H' : Heap} (h : (Ans.mk _ (impl_stackMachine_ruleFor_2 x2902 x2903 x2904 x2905 x2906) (fun (t : Int) => (dU t, [some (.box [.ptr 2 0]), some (.box [.fn 51 [] [.ptr 3 0, .ptr 0 0]]), some (.box [.slc 4, .slc 5, dI x2902, dI x2903]), some (.box [dL x2904]), some (sI x2905), some (sI x2906)])) [] none).run = some (r, H')) : Awp impl_stackMachine_ruleFor_2_ctx LL (bodyOf Tryd.f53) impl_stackMachine_ruleFor_2_an ⟨mkE 28 0 [(0, .ptr 0 0), (1, .ptr 1 0)], [some (.box [.ptr 2 0]), some (.box [.fn 51 [] [.ptr 3 0, .ptr 0 0]]), some (.box [.slc 4, .slc 5, dI x2902, dI x2903]), some (.box [dL x2904]), some (sI x2905), some (sI x2906)]⟩ (Ret (tlook tys) Tryd.f53.results.toList r H') :=
  ret_of' (impl_stackMachine_ruleFor_2_n1_l x2902 x2903 x2904 x2905 x2906) (by unfold impl_stackMachine_ruleFor_2; kernel_rfl) (by
  intro t
  exact ret_mk [dU t] (by kernel_rfl) (by kernel_rfl) (by kernel_rfl) (by kernel_rfl)) h

def F_impl_stackMachine_ruleFor_2 : Fun := fun avs H =>
  match avs, H with
  | [.ptr 0 0, .ptr 1 0], [some (.box [.ptr 2 0]), some (.box [.fn 51 [] [.ptr 3 0, .ptr 0 0]]), some (.box [.slc 4, .slc 5, .dat (.int .i64) x2902, .dat (.int .i64) x2903]), some (.box [.dat (.list (.int .i64)) x2904]), some (.seq (.int .i64) x2905), some (.seq (.int .i64) x2906)] => ⟨_, impl_stackMachine_ruleFor_2 x2902 x2903 x2904 x2905 x2906, fun (t : Int) => (dU t, [some (.box [.ptr 2 0]), some (.box [.fn 51 [] [.ptr 3 0, .ptr 0 0]]), some (.box [.slc 4, .slc 5, dI x2902, dI x2903]), some (.box [dL x2904]), some (sI x2905), some (sI x2906)]), [], none⟩
  | _, _ => Ans.no

theorem impl_stackMachine_ruleFor_2_sound : Sound Tryd.prog 53 F_impl_stackMachine_ruleFor_2 := by
  refine fn_sound' (C := impl_stackMachine_ruleFor_2_ctx) (c := bodyOf Tryd.f53) (cok_of tys_ok (allc impl_stackMachine_upperTwo_sound (allc impl_stackMachine_ruleFor_1_sound alln)) (allc Tryd.call54 (allc Tryd.call51 alln)) (by kernel_rfl)) Tryd.func53 (by kernel_rfl) LL impl_stackMachine_ruleFor_2_an ?_
  intro avs H r H' h
  unfold F_impl_stackMachine_ruleFor_2 at h
  split at h
  · refine Awp.cast ?_ ?_ ?_ (impl_stackMachine_ruleFor_2_e _ _ _ _ _ h) <;> kernel_rfl
  · simp [Ans.no, Ans.run] at h


/-! (*loop.example/headtrees/impl.stackMachine).putNext -/

def impl_stackMachine_putNext_an : Ann := (.seq (.leaf [0]) (.seq (.seq (.draw [] [0, 1, 2, 3, 4, 5, 6, 7, 8, 9] [] [0, 12]) (.cond (.seq (.leaf [2]) (.leaf [2])) (.leaf [0]))) (.seq (.leaf [0]) (.seq (.draw [] [0, 1, 2, 3, 4, 5, 6, 7, 8, 9, 10, 11, 12, 13] [] [0]) (.seq (.draw [] [0, 1, 2, 3, 4, 5, 6, 7, 8, 9, 10, 11, 12, 13] [] []) (.seq (.leaf [2]) (.leaf [2])))))))

noncomputable def impl_stackMachine_putNext_ctx : Ctx := ⟨tlook tys, olook [], ioF, 3, false, [2]⟩

theorem impl_stackMachine_putNext_n1_l (x2681 : Int) (x2682 : Int) (x2683 : List Int) (x2684 : List Int) : Link impl_stackMachine_putNext_ctx LL (bodyOf Tryd.f48) impl_stackMachine_putNext_an ⟨mkE 46 0 [(0, .ptr 0 0)], [some (.box [.slc 1, .slc 2, dI x2681, dI x2682]), some (sI x2683), some (sI x2684)]⟩ (impl_stackMachine_putNext_n1 x2681 x2682 x2683 x2684) (fun (t : Bool × Int × Int × (List Int)) => (Exit.ret, ⟨mkE 46 0 [(2, dB t.1)], [some (.box [.slc 1, .slc 2, dI t.2.1, dI t.2.2.1]), some (sI x2683), some (sI t.2.2.2)]⟩)) := by
  refine Link.of fun K h => ?_
  simp only [impl_stackMachine_putNext_n1, wpO_bind, wpO_cond, wpO_map, wpO_some] at h
  exact Awp.of (by kernel_rfl) h

theorem impl_stackMachine_putNext_e (x2681 : Int) (x2682 : Int) (x2683 : List Int) (x2684 : List Int) {r : AV} {H' : Heap} (h : (Ans.mk _ (impl_stackMachine_putNext x2681 x2682 x2683 x2684) (fun (t : Bool × Int × Int × (List Int)) => (dB t.1, [some (.box [.slc 1, .slc 2, dI t.2.1, dI t.2.2.1]), some (sI x2683), some (sI t.2.2.2)])) [2] none).run = some (r, H')) : Awp impl_stackMachine_putNext_ctx LL (bodyOf Tryd.f48) impl_stackMachine_putNext_an ⟨mkE 46 0 [(0, .ptr 0 0)], [some (.box [.slc 1, .slc 2, dI x2681, dI x2682]), some (sI x2683), some (sI x2684)]⟩ (Ret (tlook tys) Tryd.f48.results.toList r H') :=
  ret_of' (impl_stackMachine_putNext_n1_l x2681 x2682 x2683 x2684) (by unfold impl_stackMachine_putNext; kernel_rfl) (by
  intro t
  exact ret_mk [dB t.1] (by kernel_rfl) (by kernel_rfl) (by kernel_rfl) (by kernel_rfl)) h

def F_impl_stackMachine_putNext : Fun := fun avs H =>
  match avs, H with
  | [.ptr 0 0], [some (.box [.slc 1, .slc 2, .dat (.int .i64) x2681, .dat (.int .i64) x2682]), some (.seq (.int .i64) x2683), some (.seq (.int .i64) x2684)] => ⟨_, impl_stackMachine_putNext x2681 x2682 x2683 x2684, fun (t : Bool × Int × Int × (List Int)) => (dB t.1, [some (.box [.slc 1, .slc 2, dI t.2.1, dI t.2.2.1]), some (sI x2683), some (sI t.2.2.2)]), [2], none⟩
  | _, _ => Ans.no

theorem impl_stackMachine_putNext_sound : Sound Tryd.prog 48 F_impl_stackMachine_putNext := by
  refine fn_sound' (C := impl_stackMachine_putNext_ctx) (c := bodyOf Tryd.f48) (cok_of tys_ok (alln) (alln) (by kernel_rfl)) Tryd.func48 (by kernel_rfl) LL impl_stackMachine_putNext_an ?_
  intro avs H r H' h
  unfold F_impl_stackMachine_putNext at h
  split at h
  · refine Awp.cast ?_ ?_ ?_ (impl_stackMachine_putNext_e _ _ _ _ h) <;> kernel_rfl
  · simp [Ans.no, Ans.run] at h


/-! (*loop.example/headtrees/impl.stackMachine).join -/

def impl_stackMachine_join_an : Ann := (.seq (.leaf [0, 2]) (.draw [] [0, 1, 2, 3, 4, 5, 6, 7, 8, 9, 10, 11, 12, 13, 14, 15, 16, 17] [] []))

noncomputable def impl_stackMachine_join_ctx : Ctx := ⟨tlook tys, olook [], ioF, 3, false, [2]⟩

theorem impl_stackMachine_join_n1_l (x2750 : Int) (x2751 : Int) (x2752 : Int) (x2753 : Int) (x2754 : List Int) (x2755 : List Int) : Link impl_stackMachine_join_ctx LL (bodyOf Tryd.f65) impl_stackMachine_join_an ⟨mkE 31 0 [(0, .ptr 0 0), (1, dI x2750), (2, dI x2751)], [some (.box [.slc 1, .slc 2, dI x2752, dI x2753]), some (sI x2754), some (sI x2755)]⟩ (impl_stackMachine_join_n1 x2750 x2751 x2754 x2755) (fun (t : (List Int) × (List Int)) => (Exit.normal, ⟨mkE 31 0 [], [some (.box [.slc 1, .slc 2, dI x2752, dI x2753]), some (sI t.1), some (sI t.2)]⟩)) := by
  refine Link.of fun K h => ?_
  simp only [impl_stackMachine_join_n1, wpO_bind, wpO_cond, wpO_map, wpO_some] at h
  exact Awp.of (by kernel_rfl) h

theorem impl_stackMachine_join_e (x2750 : Int) (x2751 : Int) (x2752 : Int) (x2753 : Int) (x2754 : List Int) (x2755 : List Int) {r : AV} {H' : Heap} (h : (Ans.mk _ (impl_stackMachine_join x2750 x2751 x2752 x2753 x2754 x2755) (fun (t : (List Int) × (List Int)) => (.tup [], [some (.box [.slc 1, .slc 2, dI x2752, dI x2753]), some (sI t.1), some (sI t.2)])) [2] none).run = some (r, H')) : Awp impl_stackMachine_join_ctx LL (bodyOf Tryd.f65) impl_stackMachine_join_an ⟨mkE 31 0 [(0, .ptr 0 0), (1, dI x2750), (2, dI x2751)], [some (.box [.slc 1, .slc 2, dI x2752, dI x2753]), some (sI x2754), some (sI x2755)]⟩ (Ret (tlook tys) Tryd.f65.results.toList r H') :=
  ret_of (impl_stackMachine_join_n1_l x2750 x2751 x2752 x2753 x2754 x2755) (fun (t : (List Int) × (List Int)) => (t.1, t.2)) (by unfold impl_stackMachine_join; kernel_rfl) (by
  rintro t
  · exact ret_mk [] (by kernel_rfl) (by kernel_rfl) (by kernel_rfl) (by kernel_rfl)) h

def F_impl_stackMachine_join : Fun := fun avs H =>
  match avs, H with
  | [.ptr 0 0, .dat (.int .i64) x2750, .dat (.int .i64) x2751], [some (.box [.slc 1, .slc 2, .dat (.int .i64) x2752, .dat (.int .i64) x2753]), some (.seq (.int .i64) x2754), some (.seq (.int .i64) x2755)] => ⟨_, impl_stackMachine_join x2750 x2751 x2752 x2753 x2754 x2755, fun (t : (List Int) × (List Int)) => (.tup [], [some (.box [.slc 1, .slc 2, dI x2752, dI x2753]), some (sI t.1), some (sI t.2)]), [2], none⟩
  | _, _ => Ans.no

theorem impl_stackMachine_join_sound : Sound Tryd.prog 65 F_impl_stackMachine_join := by
  refine fn_sound' (C := impl_stackMachine_join_ctx) (c := bodyOf Tryd.f65) (cok_of tys_ok (alln) (alln) (by kernel_rfl)) Tryd.func65 (by kernel_rfl) LL impl_stackMachine_join_an ?_
  intro avs H r H' h
  unfold F_impl_stackMachine_join at h
  split at h
  · refine Awp.cast ?_ ?_ ?_ (impl_stackMachine_join_e _ _ _ _ _ _ h) <;> kernel_rfl
  · simp [Ans.no, Ans.run] at h


/-! (*loop.example/headtrees/impl.stackMachine).takeBelow -/

def impl_stackMachine_takeBelow_an : Ann := (.seq (.leaf [0]) (.seq (.leaf [0, 3, 4, 5]) (.seq (.seq (.leaf [0, 3, 4, 5, 12]) (.cond (.leaf [5]) (.leaf [5]))) (.seq (.leaf [2]) (.leaf [2])))))

noncomputable def impl_stackMachine_takeBelow_ctx : Ctx := ⟨tlook tys, olook [(54, F_impl_stackMachine_upperTwo), (65, F_impl_stackMachine_join)], ioF, 3, false, [2]⟩

theorem impl_stackMachine_takeBelow_n1_l (x2738 : Int) (x2739 : Int) (x2740 : List Int) (x2741 : List Int) : Link impl_stackMachine_takeBelow_ctx LL (bodyOf Tryd.f49) impl_stackMachine_takeBelow_an ⟨mkE 18 0 [(0, .ptr 0 0)], [some (.box [.slc 1, .slc 2, dI x2738, dI x2739]), some (sI x2740), some (sI x2741)]⟩ (impl_stackMachine_takeBelow_n1 x2738 x2739 x2740 x2741) (fun (t : Bool × (List Int) × (List Int)) => (Exit.ret, ⟨mkE 18 0 [(2, dB t.1)], [some (.box [.slc 1, .slc 2, dI x2738, dI x2739]), some (sI t.2.1), some (sI t.2.2)]⟩)) := by
  refine Link.of fun K h => ?_
  simp only [impl_stackMachine_takeBelow_n1, wpO_bind, wpO_cond, wpO_map, wpO_some] at h
  exact Awp.of (by kernel_rfl) h

theorem impl_stackMachine_takeBelow_e (x2738 : Int) (x2739 : Int) (x2740 : List Int) (x2741 : List Int) {r : AV} {H' : Heap} (h : (Ans.mk _ (impl_stackMachine_takeBelow x2738 x2739 x2740 x2741) (fun (t : Bool × (List Int) × (List Int)) => (dB t.1, [some (.box [.slc 1, .slc 2, dI x2738, dI x2739]), some (sI t.2.1), some (sI t.2.2)])) [2] none).run = some (r, H')) : Awp impl_stackMachine_takeBelow_ctx LL (bodyOf Tryd.f49) impl_stackMachine_takeBelow_an ⟨mkE 18 0 [(0, .ptr 0 0)], [some (.box [.slc 1, .slc 2, dI x2738, dI x2739]), some (sI x2740), some (sI x2741)]⟩ (Ret (tlook tys) Tryd.f49.results.toList r H') :=
  ret_of' (impl_stackMachine_takeBelow_n1_l x2738 x2739 x2740 x2741) (by unfold impl_stackMachine_takeBelow; kernel_rfl) (by
  intro t
  exact ret_mk [dB t.1] (by kernel_rfl) (by kernel_rfl) (by kernel_rfl) (by kernel_rfl)) h

def F_impl_stackMachine_takeBelow : Fun := fun avs H =>
  match avs, H with
  | [.ptr 0 0], [some (.box [.slc 1, .slc 2, .dat (.int .i64) x2738, .dat (.int .i64) x2739]), some (.seq (.int .i64) x2740), some (.seq (.int .i64) x2741)] => ⟨_, impl_stackMachine_takeBelow x2738 x2739 x2740 x2741, fun (t : Bool × (List Int) × (List Int)) => (dB t.1, [some (.box [.slc 1, .slc 2, dI x2738, dI x2739]), some (sI t.2.1), some (sI t.2.2)]), [2], none⟩
  | _, _ => Ans.no

theorem impl_stackMachine_takeBelow_sound : Sound Tryd.prog 49 F_impl_stackMachine_takeBelow := by
  refine fn_sound' (C := impl_stackMachine_takeBelow_ctx) (c := bodyOf Tryd.f49) (cok_of tys_ok (allc impl_stackMachine_upperTwo_sound (allc impl_stackMachine_join_sound alln)) (allc Tryd.call54 (allc Tryd.call65 alln)) (by kernel_rfl)) Tryd.func49 (by kernel_rfl) LL impl_stackMachine_takeBelow_an ?_
  intro avs H r H' h
  unfold F_impl_stackMachine_takeBelow at h
  split at h
  · refine Awp.cast ?_ ?_ ?_ (impl_stackMachine_takeBelow_e _ _ _ _ h) <;> kernel_rfl
  · simp [Ans.no, Ans.run] at h


/-! (*loop.example/headtrees/impl.stackMachine).takeUpper -/

def impl_stackMachine_takeUpper_an : Ann := (.seq (.leaf [0]) (.seq (.leaf [0, 3, 4, 5]) (.seq (.seq (.leaf [0, 3, 4, 5, 12]) (.cond (.leaf [5]) (.leaf [5]))) (.seq (.leaf [2]) (.leaf [2])))))

noncomputable def impl_stackMachine_takeUpper_ctx : Ctx := ⟨tlook tys, olook [(54, F_impl_stackMachine_upperTwo), (65, F_impl_stackMachine_join)], ioF, 3, false, [2]⟩

theorem impl_stackMachine_takeUpper_n1_l (x2799 : Int) (x2800 : Int) (x2801 : List Int) (x2802 : List Int) : Link impl_stackMachine_takeUpper_ctx LL (bodyOf Tryd.f50) impl_stackMachine_takeUpper_an ⟨mkE 18 0 [(0, .ptr 0 0)], [some (.box [.slc 1, .slc 2, dI x2799, dI x2800]), some (sI x2801), some (sI x2802)]⟩ (impl_stackMachine_takeUpper_n1 x2799 x2800 x2801 x2802) (fun (t : Bool × (List Int) × (List Int)) => (Exit.ret, ⟨mkE 18 0 [(2, dB t.1)], [some (.box [.slc 1, .slc 2, dI x2799, dI x2800]), some (sI t.2.1), some (sI t.2.2)]⟩)) := by
  refine Link.of fun K h => ?_
  simp only [impl_stackMachine_takeUpper_n1, wpO_bind, wpO_cond, wpO_map, wpO_some] at h
  exact Awp.of (by kernel_rfl) h

theorem impl_stackMachine_takeUpper_e (x2799 : Int) (x2800 : Int) (x2801 : List Int) (x2802 : List Int) {r : AV} {H' : Heap} (h : (Ans.mk _ (impl_stackMachine_takeUpper x2799 x2800 x2801 x2802) (fun (t : Bool × (List Int) × (List Int)) => (dB t.1, [some (.box [.slc 1, .slc 2, dI x2799, dI x2800]), some (sI t.2.1), some (sI t.2.2)])) [2] none).run = some (r, H')) : Awp impl_stackMachine_takeUpper_ctx LL (bodyOf Tryd.f50) impl_stackMachine_takeUpper_an ⟨mkE 18 0 [(0, .ptr 0 0)], [some (.box [.slc 1, .slc 2, dI x2799, dI x2800]), some (sI x2801), some (sI x2802)]⟩ (Ret (tlook tys) Tryd.f50.results.toList r H') :=
  ret_of' (impl_stackMachine_takeUpper_n1_l x2799 x2800 x2801 x2802) (by unfold impl_stackMachine_takeUpper; kernel_rfl) (by
  intro t
  exact ret_mk [dB t.1] (by kernel_rfl) (by kernel_rfl) (by kernel_rfl) (by kernel_rfl)) h

def F_impl_stackMachine_takeUpper : Fun := fun avs H =>
  match avs, H with
  | [.ptr 0 0], [some (.box [.slc 1, .slc 2, .dat (.int .i64) x2799, .dat (.int .i64) x2800]), some (.seq (.int .i64) x2801), some (.seq (.int .i64) x2802)] => ⟨_, impl_stackMachine_takeUpper x2799 x2800 x2801 x2802, fun (t : Bool × (List Int) × (List Int)) => (dB t.1, [some (.box [.slc 1, .slc 2, dI x2799, dI x2800]), some (sI t.2.1), some (sI t.2.2)]), [2], none⟩
  | _, _ => Ans.no

theorem impl_stackMachine_takeUpper_sound : Sound Tryd.prog 50 F_impl_stackMachine_takeUpper := by
  refine fn_sound' (C := impl_stackMachine_takeUpper_ctx) (c := bodyOf Tryd.f50) (cok_of tys_ok (allc impl_stackMachine_upperTwo_sound (allc impl_stackMachine_join_sound alln)) (allc Tryd.call54 (allc Tryd.call65 alln)) (by kernel_rfl)) Tryd.func50 (by kernel_rfl) LL impl_stackMachine_takeUpper_an ?_
  intro avs H r H' h
  unfold F_impl_stackMachine_takeUpper at h
  split at h
  · refine Awp.cast ?_ ?_ ?_ (impl_stackMachine_takeUpper_e _ _ _ _ h) <;> kernel_rfl
  · simp [Ans.no, Ans.run] at h


end Go.Rv
