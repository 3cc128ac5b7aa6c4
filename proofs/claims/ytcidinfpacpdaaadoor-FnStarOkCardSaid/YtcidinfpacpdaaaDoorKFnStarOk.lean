/-
  The checked code answers as the plain functions do; written by program. Conditions: none.
-/
import Derived.Test.YtcidinfpacpdaaaDoorGFnStarOk
import Derived.Test.YtcidinfpacpdaaaDoorProg
set_option linter.unusedVariables false
set_option linter.unusedSimpArgs false
set_option linter.defProp false
set_option maxRecDepth 100000
namespace Go.Rv
open Go.Proofs
theorem ty3 : TIOk Tryd.prog 3 ⟨.int .i64, 1, 8, some (.int .i64), [.int .i64 0], false⟩ := ⟨⟨infoOf (Tryd.prog.info? 3), by kernel_rfl, by kernel_rfl, by kernel_rfl, .int .i64 0, by kernel_rfl, by kernel_rfl⟩, (by kernel_rfl : Tryd.prog.underlying 3 = some (.int .i64)), no_eq⟩
theorem ty4 : TIOk Tryd.prog 4 ⟨.bool, 1, 1, some .bool, [.bool false], false⟩ := ⟨⟨infoOf (Tryd.prog.info? 4), by kernel_rfl, by kernel_rfl, by kernel_rfl, .bool false, by kernel_rfl, by kernel_rfl⟩, (by kernel_rfl : Tryd.prog.underlying 4 = some .bool), no_eq⟩
theorem ty5 : TIOk Tryd.prog 5 ⟨.int .u8, 1, 1, some (.int .u8), [.int .u8 0], false⟩ := ⟨⟨infoOf (Tryd.prog.info? 5), by kernel_rfl, by kernel_rfl, by kernel_rfl, .int .u8 0, by kernel_rfl, by kernel_rfl⟩, (by kernel_rfl : Tryd.prog.underlying 5 = some (.int .u8)), no_eq⟩
theorem ty22 : TIOk Tryd.prog 22 ⟨.slice 5, 1, 24, some (.list (.int .u8)), [.slice none 0 0], false⟩ := ⟨⟨infoOf (Tryd.prog.info? 22), by kernel_rfl, by kernel_rfl, by kernel_rfl, .slice none 0 0, by kernel_rfl, by kernel_rfl⟩, (by kernel_rfl : Tryd.prog.underlying 22 = some (.slice 5)), no_eq⟩
theorem ty23 : TIOk Tryd.prog 23 ⟨.slice 3, 1, 24, some (.list (.int .i64)), [.slice none 0 0], false⟩ := ⟨⟨infoOf (Tryd.prog.info? 23), by kernel_rfl, by kernel_rfl, by kernel_rfl, .slice none 0 0, by kernel_rfl, by kernel_rfl⟩, (by kernel_rfl : Tryd.prog.underlying 23 = some (.slice 3)), no_eq⟩
theorem ty38 : TIOk Tryd.prog 38 ⟨.strct [(0, 3), (1, 3)], 2, 16, some (.pair (.int .i64) (.pair (.int .i64) .unit)), [.int .i64 0, .int .i64 0], false⟩ := ⟨⟨infoOf (Tryd.prog.info? 38), by kernel_rfl, by kernel_rfl, by kernel_rfl, .agg #[.int .i64 0, .int .i64 0], by kernel_rfl, by kernel_rfl⟩, ⟨fieldsOf (Tryd.prog.underlying 38), by kernel_rfl, by kernel_rfl⟩, no_eq⟩
theorem ty39 : TIOk Tryd.prog 39 ⟨.slice 38, 1, 24, some (.list (.pair (.int .i64) (.pair (.int .i64) .unit))), [.slice none 0 0], false⟩ := ⟨⟨infoOf (Tryd.prog.info? 39), by kernel_rfl, by kernel_rfl, by kernel_rfl, .slice none 0 0, by kernel_rfl, by kernel_rfl⟩, (by kernel_rfl : Tryd.prog.underlying 39 = some (.slice 38)), no_eq⟩
theorem ty46 : TIOk Tryd.prog 46 ⟨.strct [(0, 22), (1, 3)], 2, 32, some (.pair (.list (.int .u8)) (.pair (.int .i64) .unit)), [.slice none 0 0, .int .i64 0], false⟩ := ⟨⟨infoOf (Tryd.prog.info? 46), by kernel_rfl, by kernel_rfl, by kernel_rfl, .agg #[.slice none 0 0, .int .i64 0], by kernel_rfl, by kernel_rfl⟩, ⟨fieldsOf (Tryd.prog.underlying 46), by kernel_rfl, by kernel_rfl⟩, no_eq⟩
theorem ty49 : TIOk Tryd.prog 49 ⟨.arr 9 3, 9, 72, none, [.int .i64 0, .int .i64 0, .int .i64 0, .int .i64 0, .int .i64 0, .int .i64 0, .int .i64 0, .int .i64 0, .int .i64 0], false⟩ := ⟨⟨infoOf (Tryd.prog.info? 49), by kernel_rfl, by kernel_rfl, by kernel_rfl, .agg #[.int .i64 0, .int .i64 0, .int .i64 0, .int .i64 0, .int .i64 0, .int .i64 0, .int .i64 0, .int .i64 0, .int .i64 0], by kernel_rfl, by kernel_rfl⟩, (by kernel_rfl : Tryd.prog.underlying 49 = some (.array 9 3)), no_eq⟩
theorem ty60 : TIOk Tryd.prog 60 ⟨.strct [(0, 23), (1, 3), (2, 3)], 3, 40, some (.pair (.list (.int .i64)) (.pair (.int .i64) (.pair (.int .i64) .unit))), [.slice none 0 0, .int .i64 0, .int .i64 0], false⟩ := ⟨⟨infoOf (Tryd.prog.info? 60), by kernel_rfl, by kernel_rfl, by kernel_rfl, .agg #[.slice none 0 0, .int .i64 0, .int .i64 0], by kernel_rfl, by kernel_rfl⟩, ⟨fieldsOf (Tryd.prog.underlying 60), by kernel_rfl, by kernel_rfl⟩, no_eq⟩
theorem ty61 : TIOk Tryd.prog 61 ⟨.arr 9 4, 9, 9, none, [.bool false, .bool false, .bool false, .bool false, .bool false, .bool false, .bool false, .bool false, .bool false], false⟩ := ⟨⟨infoOf (Tryd.prog.info? 61), by kernel_rfl, by kernel_rfl, by kernel_rfl, .agg #[.bool false, .bool false, .bool false, .bool false, .bool false, .bool false, .bool false, .bool false, .bool false], by kernel_rfl, by kernel_rfl⟩, (by kernel_rfl : Tryd.prog.underlying 61 = some (.array 9 4)), no_eq⟩
theorem ty63 : TIOk Tryd.prog 63 ⟨.int .u64, 1, 8, some (.int .u64), [.int .u64 0], false⟩ := ⟨⟨infoOf (Tryd.prog.info? 63), by kernel_rfl, by kernel_rfl, by kernel_rfl, .int .u64 0, by kernel_rfl, by kernel_rfl⟩, (by kernel_rfl : Tryd.prog.underlying 63 = some (.int .u64)), no_eq⟩
theorem ty76 : TIOk Tryd.prog 76 ⟨.int .u64, 1, 8, some (.int .u64), [.int .u64 0], false⟩ := ⟨⟨infoOf (Tryd.prog.info? 76), by kernel_rfl, by kernel_rfl, by kernel_rfl, .int .u64 0, by kernel_rfl, by kernel_rfl⟩, (by kernel_rfl : Tryd.prog.underlying 76 = some (.int .u64)), no_eq⟩
theorem ty78 : TIOk Tryd.prog 78 ⟨.arr 64 5, 64, 64, none, [.int .u8 0, .int .u8 0, .int .u8 0, .int .u8 0, .int .u8 0, .int .u8 0, .int .u8 0, .int .u8 0, .int .u8 0, .int .u8 0, .int .u8 0, .int .u8 0, .int .u8 0, .int .u8 0, .int .u8 0, .int .u8 0, .int .u8 0, .int .u8 0, .int .u8 0, .int .u8 0, .int .u8 0, .int .u8 0, .int .u8 0, .int .u8 0, .int .u8 0, .int .u8 0, .int .u8 0, .int .u8 0, .int .u8 0, .int .u8 0, .int .u8 0, .int .u8 0, .int .u8 0, .int .u8 0, .int .u8 0, .int .u8 0, .int .u8 0, .int .u8 0, .int .u8 0, .int .u8 0, .int .u8 0, .int .u8 0, .int .u8 0, .int .u8 0, .int .u8 0, .int .u8 0, .int .u8 0, .int .u8 0, .int .u8 0, .int .u8 0, .int .u8 0, .int .u8 0, .int .u8 0, .int .u8 0, .int .u8 0, .int .u8 0, .int .u8 0, .int .u8 0, .int .u8 0, .int .u8 0, .int .u8 0, .int .u8 0, .int .u8 0, .int .u8 0], false⟩ := ⟨⟨infoOf (Tryd.prog.info? 78), by kernel_rfl, by kernel_rfl, by kernel_rfl, .agg #[.int .u8 0, .int .u8 0, .int .u8 0, .int .u8 0, .int .u8 0, .int .u8 0, .int .u8 0, .int .u8 0, .int .u8 0, .int .u8 0, .int .u8 0, .int .u8 0, .int .u8 0, .int .u8 0, .int .u8 0, .int .u8 0, .int .u8 0, .int .u8 0, .int .u8 0, .int .u8 0, .int .u8 0, .int .u8 0, .int .u8 0, .int .u8 0, .int .u8 0, .int .u8 0, .int .u8 0, .int .u8 0, .int .u8 0, .int .u8 0, .int .u8 0, .int .u8 0, .int .u8 0, .int .u8 0, .int .u8 0, .int .u8 0, .int .u8 0, .int .u8 0, .int .u8 0, .int .u8 0, .int .u8 0, .int .u8 0, .int .u8 0, .int .u8 0, .int .u8 0, .int .u8 0, .int .u8 0, .int .u8 0, .int .u8 0, .int .u8 0, .int .u8 0, .int .u8 0, .int .u8 0, .int .u8 0, .int .u8 0, .int .u8 0, .int .u8 0, .int .u8 0, .int .u8 0, .int .u8 0, .int .u8 0, .int .u8 0, .int .u8 0, .int .u8 0], by kernel_rfl, by kernel_rfl⟩, (by kernel_rfl : Tryd.prog.underlying 78 = some (.array 64 5)), no_eq⟩
def tys : List (TypeId × TI) := [(3, ⟨.int .i64, 1, 8, some (.int .i64), [.int .i64 0], false⟩), (4, ⟨.bool, 1, 1, some .bool, [.bool false], false⟩), (5, ⟨.int .u8, 1, 1, some (.int .u8), [.int .u8 0], false⟩), (22, ⟨.slice 5, 1, 24, some (.list (.int .u8)), [.slice none 0 0], false⟩), (23, ⟨.slice 3, 1, 24, some (.list (.int .i64)), [.slice none 0 0], false⟩), (38, ⟨.strct [(0, 3), (1, 3)], 2, 16, some (.pair (.int .i64) (.pair (.int .i64) .unit)), [.int .i64 0, .int .i64 0], false⟩), (39, ⟨.slice 38, 1, 24, some (.list (.pair (.int .i64) (.pair (.int .i64) .unit))), [.slice none 0 0], false⟩), (46, ⟨.strct [(0, 22), (1, 3)], 2, 32, some (.pair (.list (.int .u8)) (.pair (.int .i64) .unit)), [.slice none 0 0, .int .i64 0], false⟩), (49, ⟨.arr 9 3, 9, 72, none, [.int .i64 0, .int .i64 0, .int .i64 0, .int .i64 0, .int .i64 0, .int .i64 0, .int .i64 0, .int .i64 0, .int .i64 0], false⟩), (60, ⟨.strct [(0, 23), (1, 3), (2, 3)], 3, 40, some (.pair (.list (.int .i64)) (.pair (.int .i64) (.pair (.int .i64) .unit))), [.slice none 0 0, .int .i64 0, .int .i64 0], false⟩), (61, ⟨.arr 9 4, 9, 9, none, [.bool false, .bool false, .bool false, .bool false, .bool false, .bool false, .bool false, .bool false, .bool false], false⟩), (63, ⟨.int .u64, 1, 8, some (.int .u64), [.int .u64 0], false⟩), (76, ⟨.int .u64, 1, 8, some (.int .u64), [.int .u64 0], false⟩), (78, ⟨.arr 64 5, 64, 64, none, [.int .u8 0, .int .u8 0, .int .u8 0, .int .u8 0, .int .u8 0, .int .u8 0, .int .u8 0, .int .u8 0, .int .u8 0, .int .u8 0, .int .u8 0, .int .u8 0, .int .u8 0, .int .u8 0, .int .u8 0, .int .u8 0, .int .u8 0, .int .u8 0, .int .u8 0, .int .u8 0, .int .u8 0, .int .u8 0, .int .u8 0, .int .u8 0, .int .u8 0, .int .u8 0, .int .u8 0, .int .u8 0, .int .u8 0, .int .u8 0, .int .u8 0, .int .u8 0, .int .u8 0, .int .u8 0, .int .u8 0, .int .u8 0, .int .u8 0, .int .u8 0, .int .u8 0, .int .u8 0, .int .u8 0, .int .u8 0, .int .u8 0, .int .u8 0, .int .u8 0, .int .u8 0, .int .u8 0, .int .u8 0, .int .u8 0, .int .u8 0, .int .u8 0, .int .u8 0, .int .u8 0, .int .u8 0, .int .u8 0, .int .u8 0, .int .u8 0, .int .u8 0, .int .u8 0, .int .u8 0, .int .u8 0, .int .u8 0, .int .u8 0, .int .u8 0], false⟩)]
theorem tys_ok : TOk Tryd.prog (tlook tys) := tok_of (allc ty3 (allc ty4 (allc ty5 (allc ty22 (allc ty23 (allc ty38 (allc ty39 (allc ty46 (allc ty49 (allc ty60 (allc ty61 (allc ty63 (allc ty76 (allc ty78 alln))))))))))))))
def ioF (f : FuncId) (i : Nat) : Bool := [(40, 0), (44, 1), (47, 0)].any fun (p : Nat × Nat) => Nat.beq p.1 f && Nat.beq p.2 i


/-! loop.example/headtrees/spec.l20Open -/

def spec_l20Open_an : Ann := (.seq (.leaf [0]) (.seq (.seq (.leaf [0, 5]) (.cond (.leaf [0]) (.leaf [0]))) (.seq (.leaf [2]) (.leaf [2]))))

noncomputable def spec_l20Open_ctx : Ctx := ⟨tlook tys, olook [], ioF, 0, false, []⟩

theorem spec_l20Open_n1_l (x12 : List Int) : Link spec_l20Open_ctx LL (bodyOf Tryd.f11) spec_l20Open_an ⟨mkE 11 0 [(0, dV x12)], []⟩ (spec_l20Open_n1 x12) (fun (t : (List Int)) => (Exit.ret, ⟨mkE 11 0 [(2, .ptr 0 0)], [some (.box [dV t, dI 0])]⟩)) := .of fun K h => by
  simp only [spec_l20Open_n1, wpW] at h
  exact .of (by kernel_rfl) h

theorem spec_l20Open_e (x12 : List Int) {r : AV} {H' : Heap} (h : (Ans.mk _ (spec_l20Open x12) (fun (t : (List Int)) => (.ptr 0 0, [some (.box [dV t, dI 0])])) [] none).run = some (r, H')) : Awp spec_l20Open_ctx LL (bodyOf Tryd.f11) spec_l20Open_an ⟨mkE 11 0 [(0, dV x12)], []⟩ (Ret (tlook tys) Tryd.f11.results.toList r H') :=
  ret_of' (spec_l20Open_n1_l x12) (by unfold spec_l20Open; kernel_rfl) (by
  intro t
  exact ret_mk [.ptr 0 0] (by kernel_rfl) (by kernel_rfl) (by kernel_rfl) (by kernel_rfl)) h

def F_spec_l20Open : Fun := fun avs H =>
  match avs, H with
  | [.dat (.list (.int .u8)) x12], [] => ⟨_, spec_l20Open x12, fun (t : (List Int)) => (.ptr 0 0, [some (.box [dV t, dI 0])]), [], none⟩
  | _, _ => Ans.no

theorem spec_l20Open_sound : Sound Tryd.prog 11 F_spec_l20Open := by
  refine fn_sound' (C := spec_l20Open_ctx) (c := bodyOf Tryd.f11) (cok_of tys_ok (alln) (alln) (by kernel_rfl)) Tryd.func11 (by kernel_rfl) LL spec_l20Open_an ?_
  intro avs H r H' h
  unfold F_spec_l20Open at h
  split at h
  · refine Awp.cast ?_ ?_ ?_ (spec_l20Open_e _ h) <;> kernel_rfl
  · simp [Ans.no, Ans.run] at h


/-! (*loop.example/headtrees/spec.l20Rd).pick -/

def spec_l20Rd_pick_an : Ann := (.seq (.leaf [0, 1]) (.seq (.leaf [0, 1]) (.seq (.seq (.leaf [0, 1, 24]) (.cond (.seq (.leaf [4]) (.leaf [4])) (.leaf [0, 1]))) (.seq (.leaf [0, 1, 5]) (.seq (.seq (.leaf [0, 1, 5, 36]) (.cond (.seq (.leaf [4]) (.leaf [4])) (.leaf [0, 1, 5]))) (.seq (.draw [] [0, 1, 2, 3, 4, 5, 6, 7, 8, 9, 10, 11, 12, 13, 14, 15, 16, 17, 18, 19, 20, 21, 22, 23, 24, 25, 26, 27, 28, 29, 30, 31, 32, 33, 34, 35, 36, 37, 38, 39, 40, 41, 42, 43, 44, 45] [] [1, 6]) (.seq (.leaf [1, 6]) (.seq (.leaf [4]) (.leaf [4])))))))))

noncomputable def spec_l20Rd_pick_ctx : Ctx := ⟨tlook tys, olook [], ioF, 1, false, []⟩

theorem spec_l20Rd_pick_n1_l (x34 : Int) (x35 : List Int) (x36 : Int) : Link spec_l20Rd_pick_ctx LL (bodyOf Tryd.f12) spec_l20Rd_pick_an ⟨mkE 99 0 [(0, .ptr 0 0), (1, dI x34)], [some (.box [dV x35, dI x36])]⟩ (spec_l20Rd_pick_n1 x34 x35 x36) (fun (t : Int × Int) => (Exit.ret, ⟨mkE 99 0 [(4, dI t.1)], [some (.box [dV x35, dI t.2])]⟩)) := .of fun K h => by
  simp only [spec_l20Rd_pick_n1, wpW] at h
  exact .of (by kernel_rfl) h

theorem spec_l20Rd_pick_e (x34 : Int) (x35 : List Int) (x36 : Int) {r : AV} {H' : Heap} (h : (Ans.mk _ (spec_l20Rd_pick x34 x35 x36) (fun (t : Int × Int) => (dI t.1, [some (.box [dV x35, dI t.2])])) [] none).run = some (r, H')) : Awp spec_l20Rd_pick_ctx LL (bodyOf Tryd.f12) spec_l20Rd_pick_an ⟨mkE 99 0 [(0, .ptr 0 0), (1, dI x34)], [some (.box [dV x35, dI x36])]⟩ (Ret (tlook tys) Tryd.f12.results.toList r H') :=
  ret_of' (spec_l20Rd_pick_n1_l x34 x35 x36) (by unfold spec_l20Rd_pick; kernel_rfl) (by
  intro t
  exact ret_mk [dI t.1] (by kernel_rfl) (by kernel_rfl) (by kernel_rfl) (by kernel_rfl)) h

def F_spec_l20Rd_pick : Fun := fun avs H =>
  match avs, H with
  | [.ptr 0 0, .dat (.int .i64) x34], [some (.box [.dat (.list (.int .u8)) x35, .dat (.int .i64) x36])] => ⟨_, spec_l20Rd_pick x34 x35 x36, fun (t : Int × Int) => (dI t.1, [some (.box [dV x35, dI t.2])]), [], none⟩
  | _, _ => Ans.no

theorem spec_l20Rd_pick_sound : Sound Tryd.prog 12 F_spec_l20Rd_pick := by
  refine fn_sound' (C := spec_l20Rd_pick_ctx) (c := bodyOf Tryd.f12) (cok_of tys_ok (alln) (alln) (by kernel_rfl)) Tryd.func12 (by kernel_rfl) LL spec_l20Rd_pick_an ?_
  intro avs H r H' h
  unfold F_spec_l20Rd_pick at h
  split at h
  · refine Awp.cast ?_ ?_ ?_ (spec_l20Rd_pick_e _ _ _ h) <;> kernel_rfl
  · simp [Ans.no, Ans.run] at h


/-! loop.example/headtrees/spec.l20Order -/

def spec_l20Order_an : Ann := (.seq (.leaf [0, 1]) (.seq (.leaf [0, 1, 5]) (.seq (.leaf [0, 1, 5, 6]) (.seq (.seq (.leaf [0, 1, 5, 6, 7]) (.block (.loop (.seq (.seq (.leaf [0, 1, 5, 6, 7, 15]) (.cond (.leaf [0, 1, 5, 6, 7]) (.leaf [5]))) (.seq (.block (.seq (.leaf [0, 1, 5, 6, 7, 8]) (.seq (.seq (.leaf [0, 1, 5, 6, 7, 8, 26]) (.cond (.leaf [0, 1, 5, 6, 7, 8]) (.leaf [0, 1, 5, 6, 7, 8]))) (.seq (.leaf [0, 1, 5, 6, 7, 8, 9]) (.seq (.leaf [0, 1, 5, 6, 7, 8, 9]) (.leaf [0, 1, 5, 6, 7])))))) (.leaf [0, 1, 5, 6, 7])))))) (.seq (.leaf [4]) (.leaf [4]))))))

noncomputable def spec_l20Order_ctx : Ctx := ⟨tlook tys, olook [(12, F_spec_l20Rd_pick)], ioF, 1, false, []⟩

theorem spec_l20Order_n1_l (x312 : Int) (x313 : List Int) (x314 : Int) : Link spec_l20Order_ctx LL (Code.seq (cq [0] (bodyOf Tryd.f26)) (Code.seq (cq [0,1] (bodyOf Tryd.f26)) (cq [0,1,1] (bodyOf Tryd.f26)))) (Ann.seq (aq [0] spec_l20Order_an) (Ann.seq (aq [0,1] spec_l20Order_an) (aq [0,1,1] spec_l20Order_an))) ⟨mkE 45 0 [(0, .ptr 0 0), (1, dI x312)], [some (.box [dV x313, dI x314])]⟩ (spec_l20Order_n1 x313 x314) (fun (t : Int × Int) => (Exit.normal, ⟨mkE 45 0 [(0, .ptr 0 0), (1, dI x312), (5, .slc 1), (6, dI t.1)], [some (.box [dV x313, dI t.2]), some (sI ([] : List Int))]⟩)) := .of fun K h => by
  simp only [spec_l20Order_n1, wpW] at h
  exact .of (by kernel_rfl) h

theorem spec_l20Order_n2_l (x312 : Int) (x316 : Int) (x313 : List Int) (x317 : Int) : Link spec_l20Order_ctx LL (cq [0,0,1,1,1] (bodyOf Tryd.f26)) (aq [0,0,1,1,1] spec_l20Order_an) ⟨mkE 45 0 [(0, .ptr 0 0), (1, dI x312), (5, .slc 1), (6, dI x316)], [some (.box [dV x313, dI x317]), some (sI ([] : List Int))]⟩ (spec_l20Order_n2) (fun (t : Unit) => (Exit.normal, ⟨mkE 45 0 [(0, .ptr 0 0), (1, dI x312), (5, .slc 1), (6, dI x316), (7, dI 1)], [some (.box [dV x313, dI x317]), some (sI ([] : List Int))]⟩)) := .of fun K h => by
  simp only [spec_l20Order_n2, wpW] at h
  exact .of (by kernel_rfl) h

theorem spec_l20Order_n3_l (x312 : Int) (x316 : Int) (x459 : Int) (x313 : List Int) (x460 : Int) (x461 : List Int) : Link spec_l20Order_ctx LL (cq [0,0,1,0,1,1,1] (bodyOf Tryd.f26)) (aq [0,0,1,0,1,1,1] spec_l20Order_an) ⟨mkE 45 0 [(0, .ptr 0 0), (1, dI x312), (5, .slc 1), (6, dI x316), (7, dI x459)], [some (.box [dV x313, dI x460]), some (sI x461)]⟩ (spec_l20Order_n3 x312 x316 x459 x313 x460 x461) (Sum.elim (fun (t : Int × Int × (List Int)) => (Exit.normal, ⟨mkE 45 0 [(0, .ptr 0 0), (1, dI x312), (5, .slc 1), (6, dI x316), (7, dI t.1)], [some (.box [dV x313, dI t.2.1]), some (sI t.2.2)]⟩)) (fun (t : Int × (List Int)) => ((Exit.exit 0), ⟨mkE 45 0 [(5, .slc 1)], [some (.box [dV x313, dI t.1]), some (sI t.2)]⟩))) := .of fun K h => by
  simp only [spec_l20Order_n3, wpW] at h
  exact .of (by kernel_rfl) h

def spec_l20Order_n4_l (x312 : Int) (x316 : Int) (x313 : List Int) (x317 : Int) := (link_loop (mk := fun (s : Int × Int × (List Int)) => ⟨mkE 45 0 [(0, .ptr 0 0), (1, dI x312), (5, .slc 1), (6, dI x316), (7, dI s.1)], [some (.box [dV x313, dI s.2.1]), some (sI s.2.2)]⟩) (fin := (fun (t : Int × (List Int)) => ((Exit.exit 0), ⟨mkE 45 0 [(5, .slc 1)], [some (.box [dV x313, dI t.1]), some (sI t.2)]⟩))) (by
  rintro t f K h
  · exact h) (fun s => link_map (spec_l20Order_n3_l x312 x316 s.1 x313 s.2.1 s.2.2) (Sum.elim (fun (t : Int × Int × (List Int)) => Sum.inl (t.1, t.2.1, t.2.2)) (fun (t : Int × (List Int)) => Sum.inr t)) (by
  rintro (t | t)
  · kernel_rfl
  · kernel_rfl)) (1, x317, ([] : List Int)))

def spec_l20Order_n5_l (x312 : Int) (x316 : Int) (x313 : List Int) (x317 : Int) := (link_block (fin2 := (fun (t : Int × (List Int)) => (Exit.normal, ⟨mkE 45 0 [(5, .slc 1)], [some (.box [dV x313, dI t.1]), some (sI t.2)]⟩))) (id := 0) (spec_l20Order_n4_l x312 x316 x313 x317) (fun (t : Int × (List Int)) => (t.1, t.2)) (by
  rintro t K h
  · exact Eq.mp (by kernel_rfl) h))

def spec_l20Order_n6_l (x312 : Int) (x316 : Int) (x313 : List Int) (x317 : Int) := (link_seq (spec_l20Order_n2_l x312 x316 x313 x317) (fun (t : Unit) => (spec_l20Order_n5_l x312 x316 x313 x317)))

theorem spec_l20Order_n7_l (x313 : List Int) (x460 : Int) (x461 : List Int) : Link spec_l20Order_ctx LL (cq [1,1,1,1] (bodyOf Tryd.f26)) (aq [1,1,1,1] spec_l20Order_an) ⟨mkE 45 0 [(5, .slc 1)], [some (.box [dV x313, dI x460]), some (sI x461)]⟩ (spec_l20Order_n7 x460 x461) (fun (t : Int × (List Int)) => (Exit.ret, ⟨mkE 45 0 [(4, .slc 1)], [some (.box [dV x313, dI t.1]), some (sI t.2)]⟩)) := .of fun K h => by
  simp only [spec_l20Order_n7, wpW] at h
  exact .of (by kernel_rfl) h

def spec_l20Order_n8_l (x312 : Int) (x316 : Int) (x313 : List Int) (x317 : Int) := (link_seq (spec_l20Order_n6_l x312 x316 x313 x317) (fun (t : Int × (List Int)) => (spec_l20Order_n7_l x313 t.1 t.2)))

def spec_l20Order_n9_l (x312 : Int) (x313 : List Int) (x314 : Int) := (link_group (c := (cq [0,1,1] (bodyOf Tryd.f26))) (a := (aq [0,1,1] spec_l20Order_an)) [(cq [0] (bodyOf Tryd.f26)), (cq [0,1] (bodyOf Tryd.f26))] [(aq [0] spec_l20Order_an), (aq [0,1] spec_l20Order_an)] rfl (link_seq (spec_l20Order_n1_l x312 x313 x314) (fun (t : Int × Int) => (spec_l20Order_n8_l x312 t.1 x313 t.2))))

theorem spec_l20Order_e (x312 : Int) (x313 : List Int) (x314 : Int) {r : AV} {H' : Heap} (h : (Ans.mk _ (spec_l20Order x312 x313 x314) (fun (t : Int × (List Int)) => (.slc 1, [some (.box [dV x313, dI t.1]), some (sI t.2)])) [] none).run = some (r, H')) : Awp spec_l20Order_ctx LL (bodyOf Tryd.f26) spec_l20Order_an ⟨mkE 45 0 [(0, .ptr 0 0), (1, dI x312)], [some (.box [dV x313, dI x314])]⟩ (Ret (tlook tys) Tryd.f26.results.toList r H') :=
  ret_of' (Link.cast (by kernel_rfl) (by kernel_rfl) (spec_l20Order_n9_l x312 x313 x314)) (by unfold spec_l20Order; kernel_rfl) (by
  intro t
  exact ret_mk [.slc 1] (by kernel_rfl) (by kernel_rfl) (by kernel_rfl) (by kernel_rfl)) h

def F_spec_l20Order : Fun := fun avs H =>
  match avs, H with
  | [.ptr 0 0, .dat (.int .i64) x312], [some (.box [.dat (.list (.int .u8)) x313, .dat (.int .i64) x314])] => ⟨_, spec_l20Order x312 x313 x314, fun (t : Int × (List Int)) => (.slc 1, [some (.box [dV x313, dI t.1]), some (sI t.2)]), [], none⟩
  | _, _ => Ans.no

theorem spec_l20Order_sound : Sound Tryd.prog 26 F_spec_l20Order := by
  refine fn_sound' (C := spec_l20Order_ctx) (c := bodyOf Tryd.f26) (cok_of tys_ok (allc spec_l20Rd_pick_sound alln) (allc Tryd.call12 alln) (by kernel_rfl)) Tryd.func26 (by kernel_rfl) LL spec_l20Order_an ?_
  intro avs H r H' h
  unfold F_spec_l20Order at h
  split at h
  · refine Awp.cast ?_ ?_ ?_ (spec_l20Order_e _ _ _ h) <;> kernel_rfl
  · simp [Ans.no, Ans.run] at h


/-! (*loop.example/headtrees/spec.l20Rd).odd -/

def spec_l20Rd_odd_an : Ann := (.seq (.leaf [0, 1]) (.seq (.leaf [4]) (.leaf [4])))

noncomputable def spec_l20Rd_odd_ctx : Ctx := ⟨tlook tys, olook [(12, F_spec_l20Rd_pick)], ioF, 1, false, []⟩

theorem spec_l20Rd_odd_n1_l (x768 : Int) (x769 : List Int) (x770 : Int) : Link spec_l20Rd_odd_ctx LL (bodyOf Tryd.f42) spec_l20Rd_odd_an ⟨mkE 15 0 [(0, .ptr 0 0), (1, dI x768)], [some (.box [dV x769, dI x770])]⟩ (spec_l20Rd_odd_n1 x768 x769 x770) (fun (t : Bool × Int) => (Exit.ret, ⟨mkE 15 0 [(4, dB t.1)], [some (.box [dV x769, dI t.2])]⟩)) := .of fun K h => by
  simp only [spec_l20Rd_odd_n1, wpW] at h
  exact .of (by kernel_rfl) h

theorem spec_l20Rd_odd_e (x768 : Int) (x769 : List Int) (x770 : Int) {r : AV} {H' : Heap} (h : (Ans.mk _ (spec_l20Rd_odd x768 x769 x770) (fun (t : Bool × Int) => (dB t.1, [some (.box [dV x769, dI t.2])])) [] none).run = some (r, H')) : Awp spec_l20Rd_odd_ctx LL (bodyOf Tryd.f42) spec_l20Rd_odd_an ⟨mkE 15 0 [(0, .ptr 0 0), (1, dI x768)], [some (.box [dV x769, dI x770])]⟩ (Ret (tlook tys) Tryd.f42.results.toList r H') :=
  ret_of' (spec_l20Rd_odd_n1_l x768 x769 x770) (by unfold spec_l20Rd_odd; kernel_rfl) (by
  intro t
  exact ret_mk [dB t.1] (by kernel_rfl) (by kernel_rfl) (by kernel_rfl) (by kernel_rfl)) h

def F_spec_l20Rd_odd : Fun := fun avs H =>
  match avs, H with
  | [.ptr 0 0, .dat (.int .i64) x768], [some (.box [.dat (.list (.int .u8)) x769, .dat (.int .i64) x770])] => ⟨_, spec_l20Rd_odd x768 x769 x770, fun (t : Bool × Int) => (dB t.1, [some (.box [dV x769, dI t.2])]), [], none⟩
  | _, _ => Ans.no

theorem spec_l20Rd_odd_sound : Sound Tryd.prog 42 F_spec_l20Rd_odd := by
  refine fn_sound' (C := spec_l20Rd_odd_ctx) (c := bodyOf Tryd.f42) (cok_of tys_ok (allc spec_l20Rd_pick_sound alln) (allc Tryd.call12 alln) (by kernel_rfl)) Tryd.func42 (by kernel_rfl) LL spec_l20Rd_odd_an ?_
  intro avs H r H' h
  unfold F_spec_l20Rd_odd at h
  split at h
  · refine Awp.cast ?_ ?_ ?_ (spec_l20Rd_odd_e _ _ _ h) <;> kernel_rfl
  · simp [Ans.no, Ans.run] at h


/-! loop.example/headtrees/spec.l20Tree -/

def spec_l20Tree_an : Ann := (.seq (.leaf [0, 1]) (.seq (.leaf [0, 1, 5]) (.seq (.leaf [0, 1, 5, 6]) (.seq (.leaf [0, 1, 5, 6, 7]) (.seq (.leaf [0, 1, 5, 6, 7, 8]) (.seq (.seq (.leaf [0, 1, 5, 6, 7, 8, 9]) (.block (.loop (.seq (.seq (.leaf [0, 1, 5, 6, 7, 8, 9, 23]) (.cond (.leaf [0, 1, 5, 6, 7, 8, 9]) (.leaf [0, 1, 5, 7]))) (.seq (.block (.seq (.leaf [0, 1, 5, 6, 7, 8, 9, 10]) (.seq (.seq (.leaf [0, 1, 5, 6, 7, 8, 9, 10, 35]) (.cond (.leaf [0, 1, 5, 6, 7, 8, 9, 10]) (.leaf [0, 1, 5, 6, 7, 8, 9, 10]))) (.draw [] [0, 1, 2, 3, 4, 5, 6, 7, 8, 9, 10, 11] [] [0, 1, 5, 6, 7, 8, 9])))) (.leaf [0, 1, 5, 6, 7, 8, 9])))))) (.seq (.seq (.leaf [0, 5, 7, 51]) (.cond (.seq (.leaf [0, 5, 7, 53]) (.block (.seq (.leaf [0, 5, 7, 53, 63]) (.cond (.seq (.leaf [4]) (.leaf [4])) (.seq (.leaf [0, 5, 7, 53, 66]) (.cond (.seq (.leaf [4]) (.leaf [4])) (.seq (.leaf [0, 5, 7, 69]) (.cond (.seq (.leaf [7]) (.seq (.leaf [4]) (.leaf [4]))) (.leaf [7]))))))))) (.leaf [7]))) (.seq (.leaf [4]) (.leaf [4])))))))))

noncomputable def spec_l20Tree_ctx : Ctx := ⟨tlook tys, olook [(12, F_spec_l20Rd_pick), (26, F_spec_l20Order), (42, F_spec_l20Rd_odd)], ioF, 1, false, []⟩

theorem spec_l20Tree_n1_l (x301 : Int) (x302 : List Int) (x303 : Int) : Link spec_l20Tree_ctx LL (Code.seq (cq [0] (bodyOf Tryd.f24)) (Code.seq (cq [0,1] (bodyOf Tryd.f24)) (Code.seq (cq [0,1,1] (bodyOf Tryd.f24)) (Code.seq (cq [0,1,1,1] (bodyOf Tryd.f24)) (cq [0,1,1,1,1] (bodyOf Tryd.f24)))))) (Ann.seq (aq [0] spec_l20Tree_an) (Ann.seq (aq [0,1] spec_l20Tree_an) (Ann.seq (aq [0,1,1] spec_l20Tree_an) (Ann.seq (aq [0,1,1,1] spec_l20Tree_an) (aq [0,1,1,1,1] spec_l20Tree_an))))) ⟨mkE 80 0 [(0, .ptr 0 0), (1, dI x301)], [some (.box [dV x302, dI x303])]⟩ (spec_l20Tree_n1 x302 x303) (fun (t : Int × Int × Int × (List Int) × (List Int)) => (Exit.normal, ⟨mkE 80 0 [(0, .ptr 0 0), (1, dI x301), (5, dI t.1), (6, .slc 1), (7, .slc 2), (8, dI t.2.1)], [some (.box [dV x302, dI t.2.2.1]), some (sI t.2.2.2.1), some (sI t.2.2.2.2)]⟩)) := .of fun K h => by
  simp only [spec_l20Tree_n1, wpW] at h
  exact .of (by kernel_rfl) h

theorem spec_l20Tree_n2_l (x301 : Int) (x618 : Int) (x625 : Int) (x302 : List Int) (x626 : Int) (x621 : List Int) (x623 : List Int) : Link spec_l20Tree_ctx LL (cq [0,0,1,1,1,1,1] (bodyOf Tryd.f24)) (aq [0,0,1,1,1,1,1] spec_l20Tree_an) ⟨mkE 80 0 [(0, .ptr 0 0), (1, dI x301), (5, dI x618), (6, .slc 1), (7, .slc 2), (8, dI x625)], [some (.box [dV x302, dI x626]), some (sI x621), some (sI x623)]⟩ (spec_l20Tree_n2) (fun (t : Unit) => (Exit.normal, ⟨mkE 80 0 [(0, .ptr 0 0), (1, dI x301), (5, dI x618), (6, .slc 1), (7, .slc 2), (8, dI x625), (9, dI 1)], [some (.box [dV x302, dI x626]), some (sI x621), some (sI x623)]⟩)) := .of fun K h => by
  simp only [spec_l20Tree_n2, wpW] at h
  exact .of (by kernel_rfl) h

theorem spec_l20Tree_n3_l (x301 : Int) (x618 : Int) (x625 : Int) (x696 : Int) (x302 : List Int) (x697 : Int) (x621 : List Int) (x698 : List Int) : Link spec_l20Tree_ctx LL (cq [0,0,1,0,1,1,1,1,1] (bodyOf Tryd.f24)) (aq [0,0,1,0,1,1,1,1,1] spec_l20Tree_an) ⟨mkE 80 0 [(0, .ptr 0 0), (1, dI x301), (5, dI x618), (6, .slc 1), (7, .slc 2), (8, dI x625), (9, dI x696)], [some (.box [dV x302, dI x697]), some (sI x621), some (sI x698)]⟩ (spec_l20Tree_n3 x618 x625 x696 x302 x697 x621 x698) (Sum.elim (fun (t : Int × Int × (List Int)) => (Exit.normal, ⟨mkE 80 0 [(0, .ptr 0 0), (1, dI x301), (5, dI x618), (6, .slc 1), (7, .slc 2), (8, dI x625), (9, dI t.1)], [some (.box [dV x302, dI t.2.1]), some (sI x621), some (sI t.2.2)]⟩)) (fun (t : Int × (List Int)) => ((Exit.exit 0), ⟨mkE 80 0 [(0, .ptr 0 0), (1, dI x301), (5, dI x618), (7, .slc 1)], [some (.box [dV x302, dI t.1]), some (sI t.2)]⟩))) := .of fun K h => by
  simp only [spec_l20Tree_n3, wpW] at h
  exact .of (by kernel_rfl) h

def spec_l20Tree_n4_l (x301 : Int) (x618 : Int) (x625 : Int) (x302 : List Int) (x626 : Int) (x621 : List Int) (x623 : List Int) := (link_loop (mk := fun (s : Int × Int × (List Int)) => ⟨mkE 80 0 [(0, .ptr 0 0), (1, dI x301), (5, dI x618), (6, .slc 1), (7, .slc 2), (8, dI x625), (9, dI s.1)], [some (.box [dV x302, dI s.2.1]), some (sI x621), some (sI s.2.2)]⟩) (fin := (fun (t : Int × (List Int)) => ((Exit.exit 0), ⟨mkE 80 0 [(0, .ptr 0 0), (1, dI x301), (5, dI x618), (7, .slc 1)], [some (.box [dV x302, dI t.1]), some (sI t.2)]⟩))) (by
  rintro t f K h
  · exact h) (fun s => link_map (spec_l20Tree_n3_l x301 x618 x625 s.1 x302 s.2.1 x621 s.2.2) (Sum.elim (fun (t : Int × Int × (List Int)) => Sum.inl (t.1, t.2.1, t.2.2)) (fun (t : Int × (List Int)) => Sum.inr t)) (by
  rintro (t | t)
  · kernel_rfl
  · kernel_rfl)) (1, x626, x623))

def spec_l20Tree_n5_l (x301 : Int) (x618 : Int) (x625 : Int) (x302 : List Int) (x626 : Int) (x621 : List Int) (x623 : List Int) := (link_block (fin2 := (fun (t : Int × (List Int)) => (Exit.normal, ⟨mkE 80 0 [(0, .ptr 0 0), (1, dI x301), (5, dI x618), (7, .slc 1)], [some (.box [dV x302, dI t.1]), some (sI t.2)]⟩))) (id := 0) (spec_l20Tree_n4_l x301 x618 x625 x302 x626 x621 x623) (fun (t : Int × (List Int)) => (t.1, t.2)) (by
  rintro t K h
  · exact Eq.mp (by kernel_rfl) h))

def spec_l20Tree_n6_l (x301 : Int) (x618 : Int) (x625 : Int) (x302 : List Int) (x626 : Int) (x621 : List Int) (x623 : List Int) := (link_seq (spec_l20Tree_n2_l x301 x618 x625 x302 x626 x621 x623) (fun (t : Unit) => (spec_l20Tree_n5_l x301 x618 x625 x302 x626 x621 x623)))

theorem spec_l20Tree_n7_l (x301 : Int) (x618 : Int) (x302 : List Int) (x697 : Int) (x698 : List Int) : Link spec_l20Tree_ctx LL (cq [1,1,1,1,1,1] (bodyOf Tryd.f24)) (aq [1,1,1,1,1,1] spec_l20Tree_an) ⟨mkE 80 0 [(0, .ptr 0 0), (1, dI x301), (5, dI x618), (7, .slc 1)], [some (.box [dV x302, dI x697]), some (sI x698)]⟩ (spec_l20Tree_n7 x301 x618 x302 x697 x698) (fun (t : Int × (List Int)) => (Exit.ret, ⟨mkE 80 0 [(4, .slc 1)], [some (.box [dV x302, dI t.1]), some (sI t.2)]⟩)) := .of fun K h => by
  simp only [spec_l20Tree_n7, wpW] at h
  exact .of (by kernel_rfl) h

def spec_l20Tree_n8_l (x301 : Int) (x618 : Int) (x625 : Int) (x302 : List Int) (x626 : Int) (x621 : List Int) (x623 : List Int) := (link_seq (spec_l20Tree_n6_l x301 x618 x625 x302 x626 x621 x623) (fun (t : Int × (List Int)) => (spec_l20Tree_n7_l x301 x618 x302 t.1 t.2)))

def spec_l20Tree_n9_l (x301 : Int) (x302 : List Int) (x303 : Int) := (link_group (c := (cq [0,1,1,1,1] (bodyOf Tryd.f24))) (a := (aq [0,1,1,1,1] spec_l20Tree_an)) [(cq [0] (bodyOf Tryd.f24)), (cq [0,1] (bodyOf Tryd.f24)), (cq [0,1,1] (bodyOf Tryd.f24)), (cq [0,1,1,1] (bodyOf Tryd.f24))] [(aq [0] spec_l20Tree_an), (aq [0,1] spec_l20Tree_an), (aq [0,1,1] spec_l20Tree_an), (aq [0,1,1,1] spec_l20Tree_an)] rfl (link_seq (spec_l20Tree_n1_l x301 x302 x303) (fun (t : Int × Int × Int × (List Int) × (List Int)) => (spec_l20Tree_n8_l x301 t.1 t.2.1 x302 t.2.2.1 t.2.2.2.1 t.2.2.2.2))))

theorem spec_l20Tree_e (x301 : Int) (x302 : List Int) (x303 : Int) {r : AV} {H' : Heap} (h : (Ans.mk _ (spec_l20Tree x301 x302 x303) (fun (t : Int × (List Int)) => (.slc 1, [some (.box [dV x302, dI t.1]), some (sI t.2)])) [] none).run = some (r, H')) : Awp spec_l20Tree_ctx LL (bodyOf Tryd.f24) spec_l20Tree_an ⟨mkE 80 0 [(0, .ptr 0 0), (1, dI x301)], [some (.box [dV x302, dI x303])]⟩ (Ret (tlook tys) Tryd.f24.results.toList r H') :=
  ret_of' (Link.cast (by kernel_rfl) (by kernel_rfl) (spec_l20Tree_n9_l x301 x302 x303)) (by unfold spec_l20Tree; kernel_rfl) (by
  intro t
  exact ret_mk [.slc 1] (by kernel_rfl) (by kernel_rfl) (by kernel_rfl) (by kernel_rfl)) h

def F_spec_l20Tree : Fun := fun avs H =>
  match avs, H with
  | [.ptr 0 0, .dat (.int .i64) x301], [some (.box [.dat (.list (.int .u8)) x302, .dat (.int .i64) x303])] => ⟨_, spec_l20Tree x301 x302 x303, fun (t : Int × (List Int)) => (.slc 1, [some (.box [dV x302, dI t.1]), some (sI t.2)]), [], none⟩
  | _, _ => Ans.no

theorem spec_l20Tree_sound : Sound Tryd.prog 24 F_spec_l20Tree := by
  refine fn_sound' (C := spec_l20Tree_ctx) (c := bodyOf Tryd.f24) (cok_of tys_ok (allc spec_l20Rd_pick_sound (allc spec_l20Order_sound (allc spec_l20Rd_odd_sound alln))) (allc Tryd.call12 (allc Tryd.call26 (allc Tryd.call42 alln))) (by kernel_rfl)) Tryd.func24 (by kernel_rfl) LL spec_l20Tree_an ?_
  intro avs H r H' h
  unfold F_spec_l20Tree at h
  split at h
  · refine Awp.cast ?_ ?_ ?_ (spec_l20Tree_e _ _ _ h) <;> kernel_rfl
  · simp [Ans.no, Ans.run] at h


/-! loop.example/headtrees/spec.l1In -/

def spec_l1In_an : Ann := (.seq (.leaf [0, 1, 2]) (.seq (.leaf [6]) (.leaf [6])))

noncomputable def spec_l1In_ctx : Ctx := ⟨tlook tys, olook [], ioF, 0, false, []⟩

theorem spec_l1In_n1_l (x887 : Int) (x888 : Int) (x889 : Int) : Link spec_l1In_ctx LL (bodyOf Tryd.f17) spec_l1In_an ⟨mkE 15 0 [(0, dI x887), (1, dI x888), (2, dI x889)], []⟩ (spec_l1In_n1 x887 x888 x889) (fun (t : Bool) => (Exit.ret, ⟨mkE 15 0 [(6, dB t)], []⟩)) := .of fun K h => by
  simp only [spec_l1In_n1, wpW] at h
  exact .of (by kernel_rfl) h

theorem spec_l1In_e (x887 : Int) (x888 : Int) (x889 : Int) {r : AV} {H' : Heap} (h : (Ans.mk _ (spec_l1In x887 x888 x889) (fun (t : Bool) => (dB t, [])) [] none).run = some (r, H')) : Awp spec_l1In_ctx LL (bodyOf Tryd.f17) spec_l1In_an ⟨mkE 15 0 [(0, dI x887), (1, dI x888), (2, dI x889)], []⟩ (Ret (tlook tys) Tryd.f17.results.toList r H') :=
  ret_of' (spec_l1In_n1_l x887 x888 x889) (by unfold spec_l1In; kernel_rfl) (by
  intro t
  exact ret_mk [dB t] (by kernel_rfl) (by kernel_rfl) (by kernel_rfl) (by kernel_rfl)) h

def F_spec_l1In : Fun := fun avs H =>
  match avs, H with
  | [.dat (.int .i64) x887, .dat (.int .i64) x888, .dat (.int .i64) x889], [] => ⟨_, spec_l1In x887 x888 x889, fun (t : Bool) => (dB t, []), [], none⟩
  | _, _ => Ans.no

theorem spec_l1In_sound : Sound Tryd.prog 17 F_spec_l1In := by
  refine fn_sound' (C := spec_l1In_ctx) (c := bodyOf Tryd.f17) (cok_of tys_ok (alln) (alln) (by kernel_rfl)) Tryd.func17 (by kernel_rfl) LL spec_l1In_an ?_
  intro avs H r H' h
  unfold F_spec_l1In at h
  split at h
  · refine Awp.cast ?_ ?_ ?_ (spec_l1In_e _ _ _ h) <;> kernel_rfl
  · simp [Ans.no, Ans.run] at h


/-! loop.example/headtrees/spec.TreeOk -/

def spec_TreeOk_an : Ann := (.seq (.leaf [0]) (.seq (.leaf [0, 3]) (.seq (.seq (.leaf [0, 3, 12]) (.cond (.seq (.leaf [2]) (.leaf [2])) (.leaf [0, 3]))) (.seq (.leaf [0, 3, 4]) (.seq (.seq (.leaf [0, 3, 4, 5]) (.block (.loop (.seq (.seq (.leaf [0, 3, 4, 5, 15]) (.cond (.leaf [0, 3, 4, 5]) (.leaf [4]))) (.seq (.block (.seq (.seq (.leaf [0, 3, 4, 5, 33]) (.cond (.seq (.leaf [2]) (.leaf [2])) (.leaf [0, 3, 4, 5]))) (.seq (.seq (.leaf [0, 3, 4, 5, 38]) (.cond (.leaf [0, 3, 4, 5]) (.leaf [0, 3, 4, 5]))) (.seq (.leaf [0, 3, 4, 5, 6]) (.seq (.seq (.leaf [0, 3, 4, 5, 6, 7]) (.block (.loop (.seq (.seq (.leaf [0, 3, 4, 5, 6, 7, 49]) (.cond (.leaf [0, 3, 4, 5, 6, 7]) (.leaf [0, 3, 4, 5, 6]))) (.seq (.block (.seq (.leaf [0, 3, 4, 5, 6, 7]) (.seq (.leaf [0, 3, 4, 5, 6, 7, 60]) (.cond (.seq (.leaf [2]) (.leaf [2])) (.leaf [0, 3, 4, 5, 6, 7]))))) (.leaf [0, 3, 4, 5, 6, 7])))))) (.seq (.leaf [0, 3, 4, 5, 62]) (.cond (.seq (.leaf [2]) (.leaf [2])) (.leaf [0, 3, 4, 5])))))))) (.leaf [0, 3, 4, 5])))))) (.seq (.leaf [2]) (.leaf [2])))))))

noncomputable def spec_TreeOk_ctx : Ctx := ⟨tlook tys, olook [(17, F_spec_l1In)], ioF, 0, false, []⟩

theorem spec_TreeOk_n1_l (x883 : List Int) : Link spec_TreeOk_ctx LL (Code.seq (cq [0] (bodyOf Tryd.f7)) (Code.seq (cq [0,1] (bodyOf Tryd.f7)) (Code.seq (cq [0,1,1] (bodyOf Tryd.f7)) (cq [0,1,1,1] (bodyOf Tryd.f7))))) (Ann.seq (aq [0] spec_TreeOk_an) (Ann.seq (aq [0,1] spec_TreeOk_an) (Ann.seq (aq [0,1,1] spec_TreeOk_an) (aq [0,1,1,1] spec_TreeOk_an)))) ⟨mkE 65 0 [(0, dL x883)], []⟩ (spec_TreeOk_n1 x883) (Sum.elim (fun (t : Int) => (Exit.normal, ⟨mkE 65 0 [(0, dL x883), (3, dI t), (4, dI 0)], []⟩)) (fun (t : Bool) => (Exit.ret, ⟨mkE 65 0 [(2, dB t)], []⟩))) := .of fun K h => by
  simp only [spec_TreeOk_n1, wpW] at h
  exact .of (by kernel_rfl) h

theorem spec_TreeOk_n2_l (x883 : List Int) (x897 : Int) : Link spec_TreeOk_ctx LL (cq [0,0,1,1,1,1] (bodyOf Tryd.f7)) (aq [0,0,1,1,1,1] spec_TreeOk_an) ⟨mkE 65 0 [(0, dL x883), (3, dI x897), (4, dI 0)], []⟩ (spec_TreeOk_n2) (fun (t : Unit) => (Exit.normal, ⟨mkE 65 0 [(0, dL x883), (3, dI x897), (4, dI 0), (5, dI 0)], []⟩)) := .of fun K h => by
  simp only [spec_TreeOk_n2, wpW] at h
  exact .of (by kernel_rfl) h

theorem spec_TreeOk_n3_l (x883 : List Int) (x897 : Int) (x964 : Int) (x965 : Int) : Link spec_TreeOk_ctx LL (cq [0,0,0,1,0,1,1,1,1] (bodyOf Tryd.f7)) (aq [0,0,0,1,0,1,1,1,1] spec_TreeOk_an) ⟨mkE 65 0 [(0, dL x883), (3, dI x897), (4, dI x964), (5, dI x965)], []⟩ (spec_TreeOk_n3 x897 x964 x965) (Sum.elim (fun (t : Unit) => (Exit.normal, ⟨mkE 65 0 [(0, dL x883), (3, dI x897), (4, dI x964), (5, dI x965)], []⟩)) (fun (t : Int) => ((Exit.exit 0), ⟨mkE 65 0 [(4, dI t)], []⟩))) := .of fun K h => by
  simp only [spec_TreeOk_n3, wpW] at h
  exact .of (by kernel_rfl) h

theorem spec_TreeOk_n4_l (x883 : List Int) (x897 : Int) (x964 : Int) (x965 : Int) : Link spec_TreeOk_ctx LL (Code.seq (cq [0,0,0,1,0,0,1,0,1,1,1,1] (bodyOf Tryd.f7)) (Code.seq (cq [0,1,0,0,1,0,0,1,0,1,1,1,1] (bodyOf Tryd.f7)) (cq [0,1,1,0,0,1,0,0,1,0,1,1,1,1] (bodyOf Tryd.f7)))) (Ann.seq (aq [0,0,0,1,0,0,1,0,1,1,1,1] spec_TreeOk_an) (Ann.seq (aq [0,1,0,0,1,0,0,1,0,1,1,1,1] spec_TreeOk_an) (aq [0,1,1,0,0,1,0,0,1,0,1,1,1,1] spec_TreeOk_an))) ⟨mkE 65 0 [(0, dL x883), (3, dI x897), (4, dI x964), (5, dI x965)], []⟩ (spec_TreeOk_n4 x883 x897 x964 x965) (Sum.elim (fun (t : Int × Int) => (Exit.normal, ⟨mkE 65 0 [(0, dL x883), (3, dI x897), (4, dI t.1), (5, dI x965), (6, dI t.2)], []⟩)) (fun (t : Bool) => (Exit.ret, ⟨mkE 65 0 [(2, dB t)], []⟩))) := .of fun K h => by
  simp only [spec_TreeOk_n4, wpW] at h
  exact .of (by kernel_rfl) h

theorem spec_TreeOk_n5_l (x883 : List Int) (x897 : Int) (x993 : Int) (x965 : Int) (x994 : Int) : Link spec_TreeOk_ctx LL (cq [0,0,1,1,1,0,0,1,0,0,1,0,1,1,1,1] (bodyOf Tryd.f7)) (aq [0,0,1,1,1,0,0,1,0,0,1,0,1,1,1,1] spec_TreeOk_an) ⟨mkE 65 0 [(0, dL x883), (3, dI x897), (4, dI x993), (5, dI x965), (6, dI x994)], []⟩ (spec_TreeOk_n5) (fun (t : Unit) => (Exit.normal, ⟨mkE 65 0 [(0, dL x883), (3, dI x897), (4, dI x993), (5, dI x965), (6, dI x994), (7, dI 0)], []⟩)) := .of fun K h => by
  simp only [spec_TreeOk_n5, wpW] at h
  exact .of (by kernel_rfl) h

theorem spec_TreeOk_n6_l (x883 : List Int) (x897 : Int) (x993 : Int) (x965 : Int) (x1010 : Int) (x1011 : Int) : Link spec_TreeOk_ctx LL (cq [0,0,1,0,1,1,1,0,0,1,0,0,1,0,1,1,1,1] (bodyOf Tryd.f7)) (aq [0,0,1,0,1,1,1,0,0,1,0,0,1,0,1,1,1,1] spec_TreeOk_an) ⟨mkE 65 0 [(0, dL x883), (3, dI x897), (4, dI x993), (5, dI x965), (6, dI x1010), (7, dI x1011)], []⟩ (spec_TreeOk_n6 x883 x897 x1010 x1011) (Sum.elim (fun (t : Int × Int) => (Exit.normal, ⟨mkE 65 0 [(0, dL x883), (3, dI x897), (4, dI x993), (5, dI x965), (6, dI t.1), (7, dI t.2)], []⟩)) (Sum.elim (fun (t : Bool) => (Exit.ret, ⟨mkE 65 0 [(2, dB t)], []⟩)) (fun (t : Int) => ((Exit.exit 2), ⟨mkE 65 0 [(0, dL x883), (3, dI x897), (4, dI x993), (5, dI x965), (6, dI t)], []⟩)))) := .of fun K h => by
  simp only [spec_TreeOk_n6, wpW] at h
  exact .of (by kernel_rfl) h

def spec_TreeOk_n7_l (x883 : List Int) (x897 : Int) (x993 : Int) (x965 : Int) (x994 : Int) := (link_loop (mk := fun (s : Int × Int) => ⟨mkE 65 0 [(0, dL x883), (3, dI x897), (4, dI x993), (5, dI x965), (6, dI s.1), (7, dI s.2)], []⟩) (fin := (Sum.elim (fun (t : Bool) => (Exit.ret, ⟨mkE 65 0 [(2, dB t)], []⟩)) (fun (t : Int) => ((Exit.exit 2), ⟨mkE 65 0 [(0, dL x883), (3, dI x897), (4, dI x993), (5, dI x965), (6, dI t)], []⟩)))) (by
  rintro (t | t) f K h
  · exact h
  · exact h) (fun s => link_map (spec_TreeOk_n6_l x883 x897 x993 x965 s.1 s.2) (Sum.elim (fun (t : Int × Int) => Sum.inl (t.1, t.2)) (Sum.elim (fun (t : Bool) => Sum.inr (Sum.inl t)) (fun (t : Int) => Sum.inr (Sum.inr t)))) (by
  rintro (t | t | t)
  · kernel_rfl
  · kernel_rfl
  · kernel_rfl)) (x994, 0))

def spec_TreeOk_n8_l (x883 : List Int) (x897 : Int) (x993 : Int) (x965 : Int) (x994 : Int) := (link_block (fin2 := (Sum.elim (fun (t : Int) => (Exit.normal, ⟨mkE 65 0 [(0, dL x883), (3, dI x897), (4, dI x993), (5, dI x965), (6, dI t)], []⟩)) (fun (t : Bool) => (Exit.ret, ⟨mkE 65 0 [(2, dB t)], []⟩)))) (id := 2) (spec_TreeOk_n7_l x883 x897 x993 x965 x994) (Sum.elim (fun (t : Bool) => (Sum.inr t)) (fun (t : Int) => (Sum.inl t))) (by
  rintro (t | t) K h
  · exact Eq.mp (by kernel_rfl) h
  · exact Eq.mp (by kernel_rfl) h))

def spec_TreeOk_n9_l (x883 : List Int) (x897 : Int) (x993 : Int) (x965 : Int) (x994 : Int) := (link_seq (spec_TreeOk_n5_l x883 x897 x993 x965 x994) (fun (t : Unit) => (spec_TreeOk_n8_l x883 x897 x993 x965 x994)))

theorem spec_TreeOk_n10_l (x883 : List Int) (x897 : Int) (x993 : Int) (x965 : Int) (x1010 : Int) : Link spec_TreeOk_ctx LL (cq [1,1,1,1,0,0,1,0,0,1,0,1,1,1,1] (bodyOf Tryd.f7)) (aq [1,1,1,1,0,0,1,0,0,1,0,1,1,1,1] spec_TreeOk_an) ⟨mkE 65 0 [(0, dL x883), (3, dI x897), (4, dI x993), (5, dI x965), (6, dI x1010)], []⟩ (spec_TreeOk_n10 x1010) (Sum.elim (fun (t : Unit) => (Exit.normal, ⟨mkE 65 0 [(0, dL x883), (3, dI x897), (4, dI x993), (5, dI x965)], []⟩)) (fun (t : Bool) => (Exit.ret, ⟨mkE 65 0 [(2, dB t)], []⟩))) := .of fun K h => by
  simp only [spec_TreeOk_n10, wpW] at h
  exact .of (by kernel_rfl) h

def spec_TreeOk_n11_l (x883 : List Int) (x897 : Int) (x993 : Int) (x965 : Int) (x994 : Int) := (link_seq2 (spec_TreeOk_n9_l x883 x897 x993 x965 x994) (fun (t : Int) => (spec_TreeOk_n10_l x883 x897 x993 x965 t)) (fun (t : Bool) => (Sum.inr t)) (by
  rintro t
  · kernel_rfl) (by
  rintro t f K h
  · exact h))

def spec_TreeOk_n12_l (x883 : List Int) (x897 : Int) (x964 : Int) (x965 : Int) := (link_group (c := (cq [0,1,1,0,0,1,0,0,1,0,1,1,1,1] (bodyOf Tryd.f7))) (a := (aq [0,1,1,0,0,1,0,0,1,0,1,1,1,1] spec_TreeOk_an)) [(cq [0,0,0,1,0,0,1,0,1,1,1,1] (bodyOf Tryd.f7)), (cq [0,1,0,0,1,0,0,1,0,1,1,1,1] (bodyOf Tryd.f7))] [(aq [0,0,0,1,0,0,1,0,1,1,1,1] spec_TreeOk_an), (aq [0,1,0,0,1,0,0,1,0,1,1,1,1] spec_TreeOk_an)] rfl (link_seq2 (spec_TreeOk_n4_l x883 x897 x964 x965) (fun (t : Int × Int) => (link_map (fin2 := (Sum.elim (fun (t : Int) => (Exit.normal, ⟨mkE 65 0 [(0, dL x883), (3, dI x897), (4, dI t), (5, dI x965)], []⟩)) (fun (t : Bool) => (Exit.ret, ⟨mkE 65 0 [(2, dB t)], []⟩)))) (spec_TreeOk_n11_l x883 x897 t.1 x965 t.2) (Sum.elim (fun (u : Unit) => (Sum.inl t.1)) (fun (u : Bool) => (Sum.inr u))) (by
  rintro (t | t)
  · kernel_rfl
  · kernel_rfl))) (fun (t : Bool) => (Sum.inr t)) (by
  rintro t
  · kernel_rfl) (by
  rintro t f K h
  · exact h)))

def spec_TreeOk_n13_l (x883 : List Int) (x897 : Int) (x964 : Int) (x965 : Int) := (link_block (fin2 := (Sum.elim (fun (t : Int) => (Exit.normal, ⟨mkE 65 0 [(0, dL x883), (3, dI x897), (4, dI t), (5, dI x965)], []⟩)) (fun (t : Bool) => (Exit.ret, ⟨mkE 65 0 [(2, dB t)], []⟩)))) (id := 1) (spec_TreeOk_n12_l x883 x897 x964 x965) (Sum.elim (fun (t : Int) => (Sum.inl t)) (fun (t : Bool) => (Sum.inr t))) (by
  rintro (t | t) K h
  · exact Eq.mp (by kernel_rfl) h
  · exact Eq.mp (by kernel_rfl) h))

theorem spec_TreeOk_n14_l (x883 : List Int) (x897 : Int) (x993 : Int) (x965 : Int) : Link spec_TreeOk_ctx LL (cq [1,1,0,0,1,0,1,1,1,1] (bodyOf Tryd.f7)) (aq [1,1,0,0,1,0,1,1,1,1] spec_TreeOk_an) ⟨mkE 65 0 [(0, dL x883), (3, dI x897), (4, dI x993), (5, dI x965)], []⟩ (spec_TreeOk_n14 x965) (fun (t : Int) => (Exit.normal, ⟨mkE 65 0 [(0, dL x883), (3, dI x897), (4, dI x993), (5, dI t)], []⟩)) := .of fun K h => by
  simp only [spec_TreeOk_n14, wpW] at h
  exact .of (by kernel_rfl) h

def spec_TreeOk_n15_l (x883 : List Int) (x897 : Int) (x964 : Int) (x965 : Int) := (link_seq2 (spec_TreeOk_n13_l x883 x897 x964 x965) (fun (t : Int) => (link_map (fin2 := (Sum.elim (fun (t : Int × Int) => (Exit.normal, ⟨mkE 65 0 [(0, dL x883), (3, dI x897), (4, dI t.1), (5, dI t.2)], []⟩)) (fun (t : Bool) => (Exit.ret, ⟨mkE 65 0 [(2, dB t)], []⟩)))) (spec_TreeOk_n14_l x883 x897 t x965) (fun (u : Int) => (Sum.inl (t, u))) (by
  rintro t
  · kernel_rfl))) (fun (t : Bool) => (Sum.inr t)) (by
  rintro t
  · kernel_rfl) (by
  rintro t f K h
  · exact h))

def spec_TreeOk_n16_l (x883 : List Int) (x897 : Int) (x964 : Int) (x965 : Int) := (link_seq2 (spec_TreeOk_n3_l x883 x897 x964 x965) (fun (t : Unit) => (link_map (fin2 := (Sum.elim (fun (t : Int × Int) => (Exit.normal, ⟨mkE 65 0 [(0, dL x883), (3, dI x897), (4, dI t.1), (5, dI t.2)], []⟩)) (Sum.elim (fun (t : Bool) => (Exit.ret, ⟨mkE 65 0 [(2, dB t)], []⟩)) (fun (t : Int) => ((Exit.exit 0), ⟨mkE 65 0 [(4, dI t)], []⟩))))) (spec_TreeOk_n15_l x883 x897 x964 x965) (Sum.elim (fun (t : Int × Int) => (Sum.inl (t.1, t.2))) (fun (t : Bool) => (Sum.inr (Sum.inl t)))) (by
  rintro (t | t)
  · kernel_rfl
  · kernel_rfl))) (fun (t : Int) => (Sum.inr (Sum.inr t))) (by
  rintro t
  · kernel_rfl) (by
  rintro t f K h
  · exact h))

def spec_TreeOk_n17_l (x883 : List Int) (x897 : Int) := (link_loop (mk := fun (s : Int × Int) => ⟨mkE 65 0 [(0, dL x883), (3, dI x897), (4, dI s.1), (5, dI s.2)], []⟩) (fin := (Sum.elim (fun (t : Bool) => (Exit.ret, ⟨mkE 65 0 [(2, dB t)], []⟩)) (fun (t : Int) => ((Exit.exit 0), ⟨mkE 65 0 [(4, dI t)], []⟩)))) (by
  rintro (t | t) f K h
  · exact h
  · exact h) (fun s => link_map (spec_TreeOk_n16_l x883 x897 s.1 s.2) (Sum.elim (fun (t : Int × Int) => Sum.inl (t.1, t.2)) (Sum.elim (fun (t : Bool) => Sum.inr (Sum.inl t)) (fun (t : Int) => Sum.inr (Sum.inr t)))) (by
  rintro (t | t | t)
  · kernel_rfl
  · kernel_rfl
  · kernel_rfl)) (0, 0))

def spec_TreeOk_n18_l (x883 : List Int) (x897 : Int) := (link_block (fin2 := (Sum.elim (fun (t : Int) => (Exit.normal, ⟨mkE 65 0 [(4, dI t)], []⟩)) (fun (t : Bool) => (Exit.ret, ⟨mkE 65 0 [(2, dB t)], []⟩)))) (id := 0) (spec_TreeOk_n17_l x883 x897) (Sum.elim (fun (t : Bool) => (Sum.inr t)) (fun (t : Int) => (Sum.inl t))) (by
  rintro (t | t) K h
  · exact Eq.mp (by kernel_rfl) h
  · exact Eq.mp (by kernel_rfl) h))

def spec_TreeOk_n19_l (x883 : List Int) (x897 : Int) := (link_seq (spec_TreeOk_n2_l x883 x897) (fun (t : Unit) => (spec_TreeOk_n18_l x883 x897)))

theorem spec_TreeOk_n20_l (x964 : Int) : Link spec_TreeOk_ctx LL (cq [1,1,1,1,1] (bodyOf Tryd.f7)) (aq [1,1,1,1,1] spec_TreeOk_an) ⟨mkE 65 0 [(4, dI x964)], []⟩ (spec_TreeOk_n20 x964) (fun (t : Bool) => (Exit.ret, ⟨mkE 65 0 [(2, dB t)], []⟩)) := .of fun K h => by
  simp only [spec_TreeOk_n20, wpW] at h
  exact .of (by kernel_rfl) h

def spec_TreeOk_n21_l (x883 : List Int) (x897 : Int) := (link_seq2 (spec_TreeOk_n19_l x883 x897) (fun (t : Int) => (spec_TreeOk_n20_l t)) (fun (t : Bool) => t) (by
  rintro t
  · kernel_rfl) (by
  rintro t f K h
  · exact h))

def spec_TreeOk_n22_l (x883 : List Int) := (link_group (c := (cq [0,1,1,1] (bodyOf Tryd.f7))) (a := (aq [0,1,1,1] spec_TreeOk_an)) [(cq [0] (bodyOf Tryd.f7)), (cq [0,1] (bodyOf Tryd.f7)), (cq [0,1,1] (bodyOf Tryd.f7))] [(aq [0] spec_TreeOk_an), (aq [0,1] spec_TreeOk_an), (aq [0,1,1] spec_TreeOk_an)] rfl (link_seq2 (spec_TreeOk_n1_l x883) (fun (t : Int) => (spec_TreeOk_n21_l x883 t)) (fun (t : Bool) => t) (by
  rintro t
  · kernel_rfl) (by
  rintro t f K h
  · exact h)))

theorem spec_TreeOk_e (x883 : List Int) {r : AV} {H' : Heap} (h : (Ans.mk _ (spec_TreeOk x883) (fun (t : Bool) => (dB t, [])) [] none).run = some (r, H')) : Awp spec_TreeOk_ctx LL (bodyOf Tryd.f7) spec_TreeOk_an ⟨mkE 65 0 [(0, dL x883)], []⟩ (Ret (tlook tys) Tryd.f7.results.toList r H') :=
  ret_of' (Link.cast (by kernel_rfl) (by kernel_rfl) (spec_TreeOk_n22_l x883)) (by unfold spec_TreeOk; kernel_rfl) (by
  intro t
  exact ret_mk [dB t] (by kernel_rfl) (by kernel_rfl) (by kernel_rfl) (by kernel_rfl)) h

def F_spec_TreeOk : Fun := fun avs H =>
  match avs, H with
  | [.dat (.list (.int .i64)) x883], [] => ⟨_, spec_TreeOk x883, fun (t : Bool) => (dB t, []), [], none⟩
  | _, _ => Ans.no

theorem spec_TreeOk_sound : Sound Tryd.prog 7 F_spec_TreeOk := by
  refine fn_sound' (C := spec_TreeOk_ctx) (c := bodyOf Tryd.f7) (cok_of tys_ok (allc spec_l1In_sound alln) (allc Tryd.call17 alln) (by kernel_rfl)) Tryd.func7 (by kernel_rfl) LL spec_TreeOk_an ?_
  intro avs H r H' h
  unfold F_spec_TreeOk at h
  split at h
  · refine Awp.cast ?_ ?_ ?_ (spec_TreeOk_e _ h) <;> kernel_rfl
  · simp [Ans.no, Ans.run] at h


/-! loop.example/headtrees/spec.OrderOk -/

def spec_OrderOk_an : Ann := (.seq (.leaf [0, 1]) (.seq (.seq (.leaf [0, 1, 5]) (.block (.loop (.seq (.seq (.leaf [0, 1, 5, 10]) (.cond (.leaf [0, 1, 5]) (.leaf [0, 1]))) (.seq (.block (.seq (.seq (.leaf [0, 1, 5, 19]) (.cond (.seq (.leaf [4]) (.leaf [4])) (.leaf [0, 1, 5]))) (.seq (.leaf [0, 1, 5, 6]) (.block (.loop (.seq (.seq (.leaf [0, 1, 5, 6, 22]) (.cond (.leaf [0, 1, 5, 6]) (.leaf [0, 1, 5]))) (.seq (.block (.seq (.draw [] [0, 1, 2, 3, 4, 5, 6, 7, 8] [] [0, 1, 5, 6, 33]) (.cond (.seq (.leaf [4]) (.leaf [4])) (.leaf [0, 1, 5, 6])))) (.leaf [0, 1, 5, 6])))))))) (.leaf [0, 1, 5])))))) (.seq (.leaf [4]) (.leaf [4]))))

noncomputable def spec_OrderOk_ctx : Ctx := ⟨tlook tys, olook [(17, F_spec_l1In)], ioF, 0, false, []⟩

theorem spec_OrderOk_n1_l (x1043 : List Int) (x1044 : Int) : Link spec_OrderOk_ctx LL (cq [0] (bodyOf Tryd.f43)) (aq [0] spec_OrderOk_an) ⟨mkE 42 0 [(0, dL x1043), (1, dI x1044)], []⟩ (spec_OrderOk_n1) (fun (t : Unit) => (Exit.normal, ⟨mkE 42 0 [(0, dL x1043), (1, dI x1044)], []⟩)) := .of fun K h => by
  simp only [spec_OrderOk_n1, wpW] at h
  exact .of (by kernel_rfl) h

theorem spec_OrderOk_n2_l (x1043 : List Int) (x1044 : Int) : Link spec_OrderOk_ctx LL (cq [0,0,1] (bodyOf Tryd.f43)) (aq [0,0,1] spec_OrderOk_an) ⟨mkE 42 0 [(0, dL x1043), (1, dI x1044)], []⟩ (spec_OrderOk_n2) (fun (t : Unit) => (Exit.normal, ⟨mkE 42 0 [(0, dL x1043), (1, dI x1044), (5, dI 0)], []⟩)) := .of fun K h => by
  simp only [spec_OrderOk_n2, wpW] at h
  exact .of (by kernel_rfl) h

theorem spec_OrderOk_n3_l (x1043 : List Int) (x1044 : Int) (x1075 : Int) : Link spec_OrderOk_ctx LL (cq [0,0,0,1,0,1] (bodyOf Tryd.f43)) (aq [0,0,0,1,0,1] spec_OrderOk_an) ⟨mkE 42 0 [(0, dL x1043), (1, dI x1044), (5, dI x1075)], []⟩ (spec_OrderOk_n3 x1043 x1075) (Sum.elim (fun (t : Unit) => (Exit.normal, ⟨mkE 42 0 [(0, dL x1043), (1, dI x1044), (5, dI x1075)], []⟩)) (fun (t : Unit) => ((Exit.exit 0), ⟨mkE 42 0 [(0, dL x1043), (1, dI x1044)], []⟩))) := .of fun K h => by
  simp only [spec_OrderOk_n3, wpW] at h
  exact .of (by kernel_rfl) h

theorem spec_OrderOk_n4_l (x1043 : List Int) (x1044 : Int) (x1075 : Int) : Link spec_OrderOk_ctx LL (Code.seq (cq [0,0,0,1,0,0,1,0,1] (bodyOf Tryd.f43)) (cq [0,1,0,0,1,0,0,1,0,1] (bodyOf Tryd.f43))) (Ann.seq (aq [0,0,0,1,0,0,1,0,1] spec_OrderOk_an) (aq [0,1,0,0,1,0,0,1,0,1] spec_OrderOk_an)) ⟨mkE 42 0 [(0, dL x1043), (1, dI x1044), (5, dI x1075)], []⟩ (spec_OrderOk_n4 x1043 x1044 x1075) (Sum.elim (fun (t : Unit) => (Exit.normal, ⟨mkE 42 0 [(0, dL x1043), (1, dI x1044), (5, dI x1075), (6, dI 0)], []⟩)) (fun (t : Bool) => (Exit.ret, ⟨mkE 42 0 [(4, dB t)], []⟩))) := .of fun K h => by
  simp only [spec_OrderOk_n4, wpW] at h
  exact .of (by kernel_rfl) h

theorem spec_OrderOk_n5_l (x1043 : List Int) (x1044 : Int) (x1075 : Int) (x1094 : Int) : Link spec_OrderOk_ctx LL (cq [0,0,1,1,0,0,1,0,0,1,0,1] (bodyOf Tryd.f43)) (aq [0,0,1,1,0,0,1,0,0,1,0,1] spec_OrderOk_an) ⟨mkE 42 0 [(0, dL x1043), (1, dI x1044), (5, dI x1075), (6, dI x1094)], []⟩ (spec_OrderOk_n5 x1043 x1075 x1094) (Sum.elim (fun (t : Int) => (Exit.normal, ⟨mkE 42 0 [(0, dL x1043), (1, dI x1044), (5, dI x1075), (6, dI t)], []⟩)) (Sum.elim (fun (t : Bool) => (Exit.ret, ⟨mkE 42 0 [(4, dB t)], []⟩)) (fun (t : Unit) => ((Exit.exit 2), ⟨mkE 42 0 [(0, dL x1043), (1, dI x1044), (5, dI x1075)], []⟩)))) := .of fun K h => by
  simp only [spec_OrderOk_n5, wpW] at h
  exact .of (by kernel_rfl) h

def spec_OrderOk_n6_l (x1043 : List Int) (x1044 : Int) (x1075 : Int) := (link_loop (mk := fun (s : Int) => ⟨mkE 42 0 [(0, dL x1043), (1, dI x1044), (5, dI x1075), (6, dI s)], []⟩) (fin := (Sum.elim (fun (t : Bool) => (Exit.ret, ⟨mkE 42 0 [(4, dB t)], []⟩)) (fun (t : Unit) => ((Exit.exit 2), ⟨mkE 42 0 [(0, dL x1043), (1, dI x1044), (5, dI x1075)], []⟩)))) (by
  rintro (t | t) f K h
  · exact h
  · exact h) (fun s => link_map (spec_OrderOk_n5_l x1043 x1044 x1075 s) (Sum.elim (fun (t : Int) => Sum.inl t) (Sum.elim (fun (t : Bool) => Sum.inr (Sum.inl t)) (fun (t : Unit) => Sum.inr (Sum.inr t)))) (by
  rintro (t | t | t)
  · kernel_rfl
  · kernel_rfl
  · kernel_rfl)) 0)

def spec_OrderOk_n7_l (x1043 : List Int) (x1044 : Int) (x1075 : Int) := (link_block (fin2 := (Sum.elim (fun (t : Unit) => (Exit.normal, ⟨mkE 42 0 [(0, dL x1043), (1, dI x1044), (5, dI x1075)], []⟩)) (fun (t : Bool) => (Exit.ret, ⟨mkE 42 0 [(4, dB t)], []⟩)))) (id := 2) (spec_OrderOk_n6_l x1043 x1044 x1075) (Sum.elim (fun (t : Bool) => (Sum.inr t)) (fun (t : Unit) => (Sum.inl ()))) (by
  rintro (t | t) K h
  · exact Eq.mp (by kernel_rfl) h
  · exact Eq.mp (by kernel_rfl) h))

def spec_OrderOk_n8_l (x1043 : List Int) (x1044 : Int) (x1075 : Int) := (link_group (c := (cq [0,1,0,0,1,0,0,1,0,1] (bodyOf Tryd.f43))) (a := (aq [0,1,0,0,1,0,0,1,0,1] spec_OrderOk_an)) [(cq [0,0,0,1,0,0,1,0,1] (bodyOf Tryd.f43))] [(aq [0,0,0,1,0,0,1,0,1] spec_OrderOk_an)] rfl (link_seq2 (spec_OrderOk_n4_l x1043 x1044 x1075) (fun (t : Unit) => (spec_OrderOk_n7_l x1043 x1044 x1075)) (fun (t : Bool) => (Sum.inr t)) (by
  rintro t
  · kernel_rfl) (by
  rintro t f K h
  · exact h)))

def spec_OrderOk_n9_l (x1043 : List Int) (x1044 : Int) (x1075 : Int) := (link_block (fin2 := (Sum.elim (fun (t : Unit) => (Exit.normal, ⟨mkE 42 0 [(0, dL x1043), (1, dI x1044), (5, dI x1075)], []⟩)) (fun (t : Bool) => (Exit.ret, ⟨mkE 42 0 [(4, dB t)], []⟩)))) (id := 1) (spec_OrderOk_n8_l x1043 x1044 x1075) (Sum.elim (fun (t : Unit) => (Sum.inl ())) (fun (t : Bool) => (Sum.inr t))) (by
  rintro (t | t) K h
  · exact Eq.mp (by kernel_rfl) h
  · exact Eq.mp (by kernel_rfl) h))

theorem spec_OrderOk_n10_l (x1043 : List Int) (x1044 : Int) (x1075 : Int) : Link spec_OrderOk_ctx LL (cq [1,1,0,0,1,0,1] (bodyOf Tryd.f43)) (aq [1,1,0,0,1,0,1] spec_OrderOk_an) ⟨mkE 42 0 [(0, dL x1043), (1, dI x1044), (5, dI x1075)], []⟩ (spec_OrderOk_n10 x1075) (fun (t : Int) => (Exit.normal, ⟨mkE 42 0 [(0, dL x1043), (1, dI x1044), (5, dI t)], []⟩)) := .of fun K h => by
  simp only [spec_OrderOk_n10, wpW] at h
  exact .of (by kernel_rfl) h

def spec_OrderOk_n11_l (x1043 : List Int) (x1044 : Int) (x1075 : Int) := (link_seq2 (spec_OrderOk_n9_l x1043 x1044 x1075) (fun (t : Unit) => (link_map (fin2 := (Sum.elim (fun (t : Int) => (Exit.normal, ⟨mkE 42 0 [(0, dL x1043), (1, dI x1044), (5, dI t)], []⟩)) (fun (t : Bool) => (Exit.ret, ⟨mkE 42 0 [(4, dB t)], []⟩)))) (spec_OrderOk_n10_l x1043 x1044 x1075) (fun (t : Int) => (Sum.inl t)) (by
  rintro t
  · kernel_rfl))) (fun (t : Bool) => (Sum.inr t)) (by
  rintro t
  · kernel_rfl) (by
  rintro t f K h
  · exact h))

def spec_OrderOk_n12_l (x1043 : List Int) (x1044 : Int) (x1075 : Int) := (link_seq2 (spec_OrderOk_n3_l x1043 x1044 x1075) (fun (t : Unit) => (link_map (fin2 := (Sum.elim (fun (t : Int) => (Exit.normal, ⟨mkE 42 0 [(0, dL x1043), (1, dI x1044), (5, dI t)], []⟩)) (Sum.elim (fun (t : Bool) => (Exit.ret, ⟨mkE 42 0 [(4, dB t)], []⟩)) (fun (t : Unit) => ((Exit.exit 0), ⟨mkE 42 0 [(0, dL x1043), (1, dI x1044)], []⟩))))) (spec_OrderOk_n11_l x1043 x1044 x1075) (Sum.elim (fun (t : Int) => (Sum.inl t)) (fun (t : Bool) => (Sum.inr (Sum.inl t)))) (by
  rintro (t | t)
  · kernel_rfl
  · kernel_rfl))) (fun (t : Unit) => (Sum.inr (Sum.inr t))) (by
  rintro t
  · kernel_rfl) (by
  rintro t f K h
  · exact h))

def spec_OrderOk_n13_l (x1043 : List Int) (x1044 : Int) := (link_loop (mk := fun (s : Int) => ⟨mkE 42 0 [(0, dL x1043), (1, dI x1044), (5, dI s)], []⟩) (fin := (Sum.elim (fun (t : Bool) => (Exit.ret, ⟨mkE 42 0 [(4, dB t)], []⟩)) (fun (t : Unit) => ((Exit.exit 0), ⟨mkE 42 0 [(0, dL x1043), (1, dI x1044)], []⟩)))) (by
  rintro (t | t) f K h
  · exact h
  · exact h) (fun s => link_map (spec_OrderOk_n12_l x1043 x1044 s) (Sum.elim (fun (t : Int) => Sum.inl t) (Sum.elim (fun (t : Bool) => Sum.inr (Sum.inl t)) (fun (t : Unit) => Sum.inr (Sum.inr t)))) (by
  rintro (t | t | t)
  · kernel_rfl
  · kernel_rfl
  · kernel_rfl)) 0)

def spec_OrderOk_n14_l (x1043 : List Int) (x1044 : Int) := (link_block (fin2 := (Sum.elim (fun (t : Unit) => (Exit.normal, ⟨mkE 42 0 [(0, dL x1043), (1, dI x1044)], []⟩)) (fun (t : Bool) => (Exit.ret, ⟨mkE 42 0 [(4, dB t)], []⟩)))) (id := 0) (spec_OrderOk_n13_l x1043 x1044) (Sum.elim (fun (t : Bool) => (Sum.inr t)) (fun (t : Unit) => (Sum.inl ()))) (by
  rintro (t | t) K h
  · exact Eq.mp (by kernel_rfl) h
  · exact Eq.mp (by kernel_rfl) h))

def spec_OrderOk_n15_l (x1043 : List Int) (x1044 : Int) := (link_seq (spec_OrderOk_n2_l x1043 x1044) (fun (t : Unit) => (spec_OrderOk_n14_l x1043 x1044)))

theorem spec_OrderOk_n16_l (x1043 : List Int) (x1044 : Int) : Link spec_OrderOk_ctx LL (cq [1,1] (bodyOf Tryd.f43)) (aq [1,1] spec_OrderOk_an) ⟨mkE 42 0 [(0, dL x1043), (1, dI x1044)], []⟩ (spec_OrderOk_n16 x1043 x1044) (fun (t : Bool) => (Exit.ret, ⟨mkE 42 0 [(4, dB t)], []⟩)) := .of fun K h => by
  simp only [spec_OrderOk_n16, wpW] at h
  exact .of (by kernel_rfl) h

def spec_OrderOk_n17_l (x1043 : List Int) (x1044 : Int) := (link_seq2 (spec_OrderOk_n15_l x1043 x1044) (fun (t : Unit) => (spec_OrderOk_n16_l x1043 x1044)) (fun (t : Bool) => t) (by
  rintro t
  · kernel_rfl) (by
  rintro t f K h
  · exact h))

def spec_OrderOk_n18_l (x1043 : List Int) (x1044 : Int) := (link_seq (spec_OrderOk_n1_l x1043 x1044) (fun (t : Unit) => (spec_OrderOk_n17_l x1043 x1044)))

theorem spec_OrderOk_e (x1043 : List Int) (x1044 : Int) {r : AV} {H' : Heap} (h : (Ans.mk _ (spec_OrderOk x1043 x1044) (fun (t : Bool) => (dB t, [])) [] none).run = some (r, H')) : Awp spec_OrderOk_ctx LL (bodyOf Tryd.f43) spec_OrderOk_an ⟨mkE 42 0 [(0, dL x1043), (1, dI x1044)], []⟩ (Ret (tlook tys) Tryd.f43.results.toList r H') :=
  ret_of' (Link.cast (by kernel_rfl) (by kernel_rfl) (spec_OrderOk_n18_l x1043 x1044)) (by unfold spec_OrderOk; kernel_rfl) (by
  intro t
  exact ret_mk [dB t] (by kernel_rfl) (by kernel_rfl) (by kernel_rfl) (by kernel_rfl)) h

def F_spec_OrderOk : Fun := fun avs H =>
  match avs, H with
  | [.dat (.list (.int .i64)) x1043, .dat (.int .i64) x1044], [] => ⟨_, spec_OrderOk x1043 x1044, fun (t : Bool) => (dB t, []), [], none⟩
  | _, _ => Ans.no

theorem spec_OrderOk_sound : Sound Tryd.prog 43 F_spec_OrderOk := by
  refine fn_sound' (C := spec_OrderOk_ctx) (c := bodyOf Tryd.f43) (cok_of tys_ok (allc spec_l1In_sound alln) (allc Tryd.call17 alln) (by kernel_rfl)) Tryd.func43 (by kernel_rfl) LL spec_OrderOk_an ?_
  intro avs H r H' h
  unfold F_spec_OrderOk at h
  split at h
  · refine Awp.cast ?_ ?_ ?_ (spec_OrderOk_e _ _ h) <;> kernel_rfl
  · simp [Ans.no, Ans.run] at h


/-! loop.example/headtrees/spec.PutInOrder -/

def spec_PutInOrder_an : Ann := (.seq (.leaf [0, 1]) (.seq (.seq (.leaf [0, 1, 19]) (.cond (.seq (.leaf [4, 5]) (.leaf [4, 5])) (.leaf [0, 1]))) (.seq (.leaf [0, 1, 6]) (.seq (.seq (.leaf [0, 1, 6, 7]) (.block (.loop (.seq (.seq (.leaf [0, 1, 6, 7, 28]) (.cond (.leaf [0, 1, 6, 7]) (.leaf [0, 1, 6]))) (.seq (.block (.leaf [0, 1, 6, 7])) (.leaf [0, 1, 6, 7])))))) (.seq (.leaf [0, 1, 6, 8]) (.seq (.seq (.leaf [0, 1, 6, 8, 9]) (.block (.loop (.seq (.seq (.leaf [0, 1, 6, 8, 9, 43]) (.cond (.leaf [0, 1, 6, 8, 9]) (.leaf [8]))) (.seq (.block (.leaf [0, 1, 6, 8, 9])) (.leaf [0, 1, 6, 8, 9])))))) (.seq (.leaf [4, 5]) (.leaf [4, 5]))))))))

noncomputable def spec_PutInOrder_ctx : Ctx := ⟨tlook tys, olook [(7, F_spec_TreeOk), (43, F_spec_OrderOk)], ioF, 0, false, []⟩

theorem spec_PutInOrder_n1_l (x1038 : List Int) (x1039 : List Int) : Link spec_PutInOrder_ctx LL (Code.seq (cq [0] (bodyOf Tryd.f25)) (Code.seq (cq [0,1] (bodyOf Tryd.f25)) (cq [0,1,1] (bodyOf Tryd.f25)))) (Ann.seq (aq [0] spec_PutInOrder_an) (Ann.seq (aq [0,1] spec_PutInOrder_an) (aq [0,1,1] spec_PutInOrder_an))) ⟨mkE 61 0 [(0, dL x1038), (1, dL x1039)], []⟩ (spec_PutInOrder_n1 x1038 x1039) (Sum.elim (fun (t : (List Int)) => (Exit.normal, ⟨mkE 61 0 [(0, dL x1038), (1, dL x1039), (6, .slc 0)], [some (sI t)]⟩)) (fun (t : Bool × (List Int)) => (Exit.ret, ⟨mkE 61 0 [(4, .slc 0), (5, dB t.1)], [some (sI t.2)]⟩))) := .of fun K h => by
  simp only [spec_PutInOrder_n1, wpW] at h
  exact .of (by kernel_rfl) h

theorem spec_PutInOrder_n2_l (x1038 : List Int) (x1039 : List Int) (x1123 : List Int) : Link spec_PutInOrder_ctx LL (cq [0,0,1,1,1] (bodyOf Tryd.f25)) (aq [0,0,1,1,1] spec_PutInOrder_an) ⟨mkE 61 0 [(0, dL x1038), (1, dL x1039), (6, .slc 0)], [some (sI x1123)]⟩ (spec_PutInOrder_n2) (fun (t : Unit) => (Exit.normal, ⟨mkE 61 0 [(0, dL x1038), (1, dL x1039), (6, .slc 0), (7, dI 0)], [some (sI x1123)]⟩)) := .of fun K h => by
  simp only [spec_PutInOrder_n2, wpW] at h
  exact .of (by kernel_rfl) h

theorem spec_PutInOrder_n3_l (x1038 : List Int) (x1039 : List Int) (x1139 : Int) (x1140 : List Int) : Link spec_PutInOrder_ctx LL (cq [0,0,1,0,1,1,1] (bodyOf Tryd.f25)) (aq [0,0,1,0,1,1,1] spec_PutInOrder_an) ⟨mkE 61 0 [(0, dL x1038), (1, dL x1039), (6, .slc 0), (7, dI x1139)], [some (sI x1140)]⟩ (spec_PutInOrder_n3 x1039 x1139 x1140) (Sum.elim (fun (t : Int × (List Int)) => (Exit.normal, ⟨mkE 61 0 [(0, dL x1038), (1, dL x1039), (6, .slc 0), (7, dI t.1)], [some (sI t.2)]⟩)) (fun (t : (List Int)) => ((Exit.exit 0), ⟨mkE 61 0 [(0, dL x1038), (1, dL x1039), (6, .slc 0)], [some (sI t)]⟩))) := .of fun K h => by
  simp only [spec_PutInOrder_n3, wpW] at h
  exact .of (by kernel_rfl) h

def spec_PutInOrder_n4_l (x1038 : List Int) (x1039 : List Int) (x1123 : List Int) := (link_loop (mk := fun (s : Int × (List Int)) => ⟨mkE 61 0 [(0, dL x1038), (1, dL x1039), (6, .slc 0), (7, dI s.1)], [some (sI s.2)]⟩) (fin := (fun (t : (List Int)) => ((Exit.exit 0), ⟨mkE 61 0 [(0, dL x1038), (1, dL x1039), (6, .slc 0)], [some (sI t)]⟩))) (by
  rintro t f K h
  · exact h) (fun s => link_map (spec_PutInOrder_n3_l x1038 x1039 s.1 s.2) (Sum.elim (fun (t : Int × (List Int)) => Sum.inl (t.1, t.2)) (fun (t : (List Int)) => Sum.inr t)) (by
  rintro (t | t)
  · kernel_rfl
  · kernel_rfl)) (0, x1123))

def spec_PutInOrder_n5_l (x1038 : List Int) (x1039 : List Int) (x1123 : List Int) := (link_block (fin2 := (fun (t : (List Int)) => (Exit.normal, ⟨mkE 61 0 [(0, dL x1038), (1, dL x1039), (6, .slc 0)], [some (sI t)]⟩))) (id := 0) (spec_PutInOrder_n4_l x1038 x1039 x1123) (fun (t : (List Int)) => t) (by
  rintro t K h
  · exact Eq.mp (by kernel_rfl) h))

def spec_PutInOrder_n6_l (x1038 : List Int) (x1039 : List Int) (x1123 : List Int) := (link_seq (spec_PutInOrder_n2_l x1038 x1039 x1123) (fun (t : Unit) => (spec_PutInOrder_n5_l x1038 x1039 x1123)))

theorem spec_PutInOrder_n7_l (x1038 : List Int) (x1039 : List Int) (x1140 : List Int) : Link spec_PutInOrder_ctx LL (cq [0,1,1,1,1] (bodyOf Tryd.f25)) (aq [0,1,1,1,1] spec_PutInOrder_an) ⟨mkE 61 0 [(0, dL x1038), (1, dL x1039), (6, .slc 0)], [some (sI x1140)]⟩ (spec_PutInOrder_n7) (fun (t : Unit) => (Exit.normal, ⟨mkE 61 0 [(0, dL x1038), (1, dL x1039), (6, .slc 0), (8, .slc 1)], [some (sI x1140), some (sI ([] : List Int))]⟩)) := .of fun K h => by
  simp only [spec_PutInOrder_n7, wpW] at h
  exact .of (by kernel_rfl) h

theorem spec_PutInOrder_n8_l (x1038 : List Int) (x1039 : List Int) (x1140 : List Int) : Link spec_PutInOrder_ctx LL (cq [0,0,1,1,1,1,1] (bodyOf Tryd.f25)) (aq [0,0,1,1,1,1,1] spec_PutInOrder_an) ⟨mkE 61 0 [(0, dL x1038), (1, dL x1039), (6, .slc 0), (8, .slc 1)], [some (sI x1140), some (sI ([] : List Int))]⟩ (spec_PutInOrder_n8) (fun (t : Unit) => (Exit.normal, ⟨mkE 61 0 [(0, dL x1038), (1, dL x1039), (6, .slc 0), (8, .slc 1), (9, dI 0)], [some (sI x1140), some (sI ([] : List Int))]⟩)) := .of fun K h => by
  simp only [spec_PutInOrder_n8, wpW] at h
  exact .of (by kernel_rfl) h

theorem spec_PutInOrder_n9_l (x1038 : List Int) (x1039 : List Int) (x1181 : Int) (x1140 : List Int) (x1182 : List Int) : Link spec_PutInOrder_ctx LL (cq [0,0,1,0,1,1,1,1,1] (bodyOf Tryd.f25)) (aq [0,0,1,0,1,1,1,1,1] spec_PutInOrder_an) ⟨mkE 61 0 [(0, dL x1038), (1, dL x1039), (6, .slc 0), (8, .slc 1), (9, dI x1181)], [some (sI x1140), some (sI x1182)]⟩ (spec_PutInOrder_n9 x1038 x1039 x1181 x1140 x1182) (Sum.elim (fun (t : Int × (List Int)) => (Exit.normal, ⟨mkE 61 0 [(0, dL x1038), (1, dL x1039), (6, .slc 0), (8, .slc 1), (9, dI t.1)], [some (sI x1140), some (sI t.2)]⟩)) (fun (t : (List Int)) => ((Exit.exit 2), ⟨mkE 61 0 [(8, .slc 0)], [some (sI t)]⟩))) := .of fun K h => by
  simp only [spec_PutInOrder_n9, wpW] at h
  exact .of (by kernel_rfl) h

def spec_PutInOrder_n10_l (x1038 : List Int) (x1039 : List Int) (x1140 : List Int) := (link_loop (mk := fun (s : Int × (List Int)) => ⟨mkE 61 0 [(0, dL x1038), (1, dL x1039), (6, .slc 0), (8, .slc 1), (9, dI s.1)], [some (sI x1140), some (sI s.2)]⟩) (fin := (fun (t : (List Int)) => ((Exit.exit 2), ⟨mkE 61 0 [(8, .slc 0)], [some (sI t)]⟩))) (by
  rintro t f K h
  · exact h) (fun s => link_map (spec_PutInOrder_n9_l x1038 x1039 s.1 x1140 s.2) (Sum.elim (fun (t : Int × (List Int)) => Sum.inl (t.1, t.2)) (fun (t : (List Int)) => Sum.inr t)) (by
  rintro (t | t)
  · kernel_rfl
  · kernel_rfl)) (0, ([] : List Int)))

def spec_PutInOrder_n11_l (x1038 : List Int) (x1039 : List Int) (x1140 : List Int) := (link_block (fin2 := (fun (t : (List Int)) => (Exit.normal, ⟨mkE 61 0 [(8, .slc 0)], [some (sI t)]⟩))) (id := 2) (spec_PutInOrder_n10_l x1038 x1039 x1140) (fun (t : (List Int)) => t) (by
  rintro t K h
  · exact Eq.mp (by kernel_rfl) h))

def spec_PutInOrder_n12_l (x1038 : List Int) (x1039 : List Int) (x1140 : List Int) := (link_seq (spec_PutInOrder_n8_l x1038 x1039 x1140) (fun (t : Unit) => (spec_PutInOrder_n11_l x1038 x1039 x1140)))

theorem spec_PutInOrder_n13_l (x1182 : List Int) : Link spec_PutInOrder_ctx LL (cq [1,1,1,1,1,1] (bodyOf Tryd.f25)) (aq [1,1,1,1,1,1] spec_PutInOrder_an) ⟨mkE 61 0 [(8, .slc 0)], [some (sI x1182)]⟩ (spec_PutInOrder_n13 x1182) (fun (t : Bool × (List Int)) => (Exit.ret, ⟨mkE 61 0 [(4, .slc 0), (5, dB t.1)], [some (sI t.2)]⟩)) := .of fun K h => by
  simp only [spec_PutInOrder_n13, wpW] at h
  exact .of (by kernel_rfl) h

def spec_PutInOrder_n14_l (x1038 : List Int) (x1039 : List Int) (x1140 : List Int) := (link_seq (spec_PutInOrder_n12_l x1038 x1039 x1140) (fun (t : (List Int)) => (spec_PutInOrder_n13_l t)))

def spec_PutInOrder_n15_l (x1038 : List Int) (x1039 : List Int) (x1140 : List Int) := (link_seq (spec_PutInOrder_n7_l x1038 x1039 x1140) (fun (t : Unit) => (spec_PutInOrder_n14_l x1038 x1039 x1140)))

def spec_PutInOrder_n16_l (x1038 : List Int) (x1039 : List Int) (x1123 : List Int) := (link_seq (spec_PutInOrder_n6_l x1038 x1039 x1123) (fun (t : (List Int)) => (spec_PutInOrder_n15_l x1038 x1039 t)))

def spec_PutInOrder_n17_l (x1038 : List Int) (x1039 : List Int) := (link_group (c := (cq [0,1,1] (bodyOf Tryd.f25))) (a := (aq [0,1,1] spec_PutInOrder_an)) [(cq [0] (bodyOf Tryd.f25)), (cq [0,1] (bodyOf Tryd.f25))] [(aq [0] spec_PutInOrder_an), (aq [0,1] spec_PutInOrder_an)] rfl (link_seq2 (spec_PutInOrder_n1_l x1038 x1039) (fun (t : (List Int)) => (spec_PutInOrder_n16_l x1038 x1039 t)) (fun (t : Bool × (List Int)) => t) (by
  rintro t
  · kernel_rfl) (by
  rintro t f K h
  · exact h)))

theorem spec_PutInOrder_e (x1038 : List Int) (x1039 : List Int) {r : AV} {H' : Heap} (h : (Ans.mk _ (spec_PutInOrder x1038 x1039) (fun (t : Bool × (List Int)) => (.tup [.slc 0, dB t.1], [some (sI t.2)])) [] none).run = some (r, H')) : Awp spec_PutInOrder_ctx LL (bodyOf Tryd.f25) spec_PutInOrder_an ⟨mkE 61 0 [(0, dL x1038), (1, dL x1039)], []⟩ (Ret (tlook tys) Tryd.f25.results.toList r H') :=
  ret_of' (Link.cast (by kernel_rfl) (by kernel_rfl) (spec_PutInOrder_n17_l x1038 x1039)) (by unfold spec_PutInOrder; kernel_rfl) (by
  intro t
  exact ret_mk [.slc 0, dB t.1] (by kernel_rfl) (by kernel_rfl) (by kernel_rfl) (by kernel_rfl)) h

def F_spec_PutInOrder : Fun := fun avs H =>
  match avs, H with
  | [.dat (.list (.int .i64)) x1038, .dat (.list (.int .i64)) x1039], [] => ⟨_, spec_PutInOrder x1038 x1039, fun (t : Bool × (List Int)) => (.tup [.slc 0, dB t.1], [some (sI t.2)]), [], none⟩
  | _, _ => Ans.no

theorem spec_PutInOrder_sound : Sound Tryd.prog 25 F_spec_PutInOrder := by
  refine fn_sound' (C := spec_PutInOrder_ctx) (c := bodyOf Tryd.f25) (cok_of tys_ok (allc spec_TreeOk_sound (allc spec_OrderOk_sound alln)) (allc Tryd.call7 (allc Tryd.call43 alln)) (by kernel_rfl)) Tryd.func25 (by kernel_rfl) LL spec_PutInOrder_an ?_
  intro avs H r H' h
  unfold F_spec_PutInOrder at h
  split at h
  · refine Awp.cast ?_ ?_ ?_ (spec_PutInOrder_e _ _ h) <;> kernel_rfl
  · simp [Ans.no, Ans.run] at h


/-! loop.example/headtrees/spec.l20Fill -/

def spec_l20Fill_an : Ann := (.seq (.seq (.leaf [0, 1, 2, 3, 4, 16]) (.cond (.leaf []) (.leaf [0, 1, 2, 3, 4]))) (.seq (.leaf [0, 1, 2, 3, 4, 10]) (.seq (.leaf [0, 1, 2, 3, 10]) (.seq (.leaf [0, 1, 3, 10, 11]) (.seq (.block (.loop (.seq (.seq (.leaf [0, 1, 3, 10, 11, 33]) (.cond (.leaf [0, 1, 3, 10, 11]) (.leaf [0, 1, 3, 10]))) (.block (.seq (.leaf [0, 1, 3, 10, 11, 12]) (.seq (.leaf [0, 1, 3, 10, 12]) (.leaf [0, 1, 3, 10, 11]))))))) (.seq (.leaf [0, 1, 3, 10, 11]) (.block (.loop (.seq (.seq (.leaf [0, 1, 3, 10, 11, 53]) (.cond (.leaf [0, 1, 3, 10, 11]) (.leaf []))) (.block (.seq (.leaf [0, 1, 3, 10, 11, 13]) (.seq (.leaf [0, 1, 3, 10, 13]) (.leaf [0, 1, 3, 10, 11])))))))))))))

def F_spec_l20Fill_fuel (n : Nat) : Fun := fun avs H =>
  match avs, H with
  | [.ptr 0 0, .slc 1, .dat (.int .i64) x1279, .dat (.int .i64) x1280, .dat (.int .i64) x1281], [some (.box [.dat (.list (.int .u8)) x1282, .dat (.int .i64) x1283]), some (.seq (.int .i64) x1284)] => ⟨_, spec_l20Fill_fuel n x1279 x1280 x1281 x1282 x1283 x1284, fun (t : Int × (List Int)) => (.tup [], [some (.box [dV x1282, dI t.1]), some (sI t.2)]), [], none⟩
  | _, _ => Ans.no

noncomputable def spec_l20Fill_ctx (n : Nat) : Ctx := ⟨tlook tys, olook [(12, F_spec_l20Rd_pick), (44, F_spec_l20Fill_fuel n)], ioF, 2, false, []⟩

theorem spec_l20Fill_n1_l (n : Nat) (x1279 : Int) (x1280 : Int) (x1281 : Int) (x1282 : List Int) (x1283 : Int) (x1284 : List Int) : Link (spec_l20Fill_ctx n) LL (Code.seq (cq [0] (bodyOf Tryd.f44)) (Code.seq (cq [0,1] (bodyOf Tryd.f44)) (Code.seq (cq [0,1,1] (bodyOf Tryd.f44)) (cq [0,1,1,1] (bodyOf Tryd.f44))))) (Ann.seq (aq [0] spec_l20Fill_an) (Ann.seq (aq [0,1] spec_l20Fill_an) (Ann.seq (aq [0,1,1] spec_l20Fill_an) (aq [0,1,1,1] spec_l20Fill_an)))) ⟨mkE 70 0 [(0, .ptr 0 0), (1, .slc 1), (2, dI x1279), (3, dI x1280), (4, dI x1281)], [some (.box [dV x1282, dI x1283]), some (sI x1284)]⟩ (spec_l20Fill_n1 (spec_l20Fill_fuel n) x1279 x1280 x1281 x1282 x1283 x1284) (Sum.elim (fun (t : Int × Int × (List Int)) => (Exit.normal, ⟨mkE 70 0 [(0, .ptr 0 0), (1, .slc 1), (3, dI x1280), (10, dI t.1), (11, dI x1279)], [some (.box [dV x1282, dI t.2.1]), some (sI t.2.2)]⟩)) (fun (t : Int × (List Int)) => (Exit.ret, ⟨mkE 70 0 [], [some (.box [dV x1282, dI t.1]), some (sI t.2)]⟩))) := .of fun K h => by
  simp only [spec_l20Fill_n1, wpW] at h
  exact .of (by kernel_rfl) h

theorem spec_l20Fill_n2_l (n : Nat) (x1280 : Int) (x1355 : Int) (x1370 : Int) (x1282 : List Int) (x1371 : Int) (x1372 : List Int) : Link (spec_l20Fill_ctx n) LL (cq [0,0,0,1,1,1,1] (bodyOf Tryd.f44)) (aq [0,0,0,1,1,1,1] spec_l20Fill_an) ⟨mkE 70 0 [(0, .ptr 0 0), (1, .slc 1), (3, dI x1280), (10, dI x1355), (11, dI x1370)], [some (.box [dV x1282, dI x1371]), some (sI x1372)]⟩ (spec_l20Fill_n2 (spec_l20Fill_fuel n) x1355 x1370 x1282 x1371 x1372) (Sum.elim (fun (t : Int × Int × (List Int)) => (Exit.normal, ⟨mkE 70 0 [(0, .ptr 0 0), (1, .slc 1), (3, dI x1280), (10, dI x1355), (11, dI t.1)], [some (.box [dV x1282, dI t.2.1]), some (sI t.2.2)]⟩)) (fun (t : Int × (List Int)) => ((Exit.exit 0), ⟨mkE 70 0 [(0, .ptr 0 0), (1, .slc 1), (3, dI x1280), (10, dI x1355)], [some (.box [dV x1282, dI t.1]), some (sI t.2)]⟩))) := .of fun K h => by
  simp only [spec_l20Fill_n2, wpW] at h
  exact .of (by kernel_rfl) h

def spec_l20Fill_n3_l (n : Nat) (x1280 : Int) (x1355 : Int) (x1279 : Int) (x1282 : List Int) (x1354 : Int) (x1358 : List Int) := (link_loop (mk := fun (s : Int × Int × (List Int)) => ⟨mkE 70 0 [(0, .ptr 0 0), (1, .slc 1), (3, dI x1280), (10, dI x1355), (11, dI s.1)], [some (.box [dV x1282, dI s.2.1]), some (sI s.2.2)]⟩) (fin := (fun (t : Int × (List Int)) => ((Exit.exit 0), ⟨mkE 70 0 [(0, .ptr 0 0), (1, .slc 1), (3, dI x1280), (10, dI x1355)], [some (.box [dV x1282, dI t.1]), some (sI t.2)]⟩))) (by
  rintro t f K h
  · exact h) (fun s => link_map (spec_l20Fill_n2_l n x1280 x1355 s.1 x1282 s.2.1 s.2.2) (Sum.elim (fun (t : Int × Int × (List Int)) => Sum.inl (t.1, t.2.1, t.2.2)) (fun (t : Int × (List Int)) => Sum.inr t)) (by
  rintro (t | t)
  · kernel_rfl
  · kernel_rfl)) (x1279, x1354, x1358))

def spec_l20Fill_n4_l (n : Nat) (x1280 : Int) (x1355 : Int) (x1279 : Int) (x1282 : List Int) (x1354 : Int) (x1358 : List Int) := (link_block (fin2 := (fun (t : Int × (List Int)) => (Exit.normal, ⟨mkE 70 0 [(0, .ptr 0 0), (1, .slc 1), (3, dI x1280), (10, dI x1355)], [some (.box [dV x1282, dI t.1]), some (sI t.2)]⟩))) (id := 0) (spec_l20Fill_n3_l n x1280 x1355 x1279 x1282 x1354 x1358) (fun (t : Int × (List Int)) => (t.1, t.2)) (by
  rintro t K h
  · exact Eq.mp (by kernel_rfl) h))

theorem spec_l20Fill_n5_l (n : Nat) (x1280 : Int) (x1355 : Int) (x1282 : List Int) (x1371 : Int) (x1372 : List Int) : Link (spec_l20Fill_ctx n) LL (cq [0,1,1,1,1,1] (bodyOf Tryd.f44)) (aq [0,1,1,1,1,1] spec_l20Fill_an) ⟨mkE 70 0 [(0, .ptr 0 0), (1, .slc 1), (3, dI x1280), (10, dI x1355)], [some (.box [dV x1282, dI x1371]), some (sI x1372)]⟩ (spec_l20Fill_n5 (spec_l20Fill_fuel n) x1355) (fun (t : Int) => (Exit.normal, ⟨mkE 70 0 [(0, .ptr 0 0), (1, .slc 1), (3, dI x1280), (10, dI x1355), (11, dI t)], [some (.box [dV x1282, dI x1371]), some (sI x1372)]⟩)) := .of fun K h => by
  simp only [spec_l20Fill_n5, wpW] at h
  exact .of (by kernel_rfl) h

theorem spec_l20Fill_n6_l (n : Nat) (x1280 : Int) (x1355 : Int) (x1397 : Int) (x1282 : List Int) (x1398 : Int) (x1399 : List Int) : Link (spec_l20Fill_ctx n) LL (cq [0,0,1,1,1,1,1,1] (bodyOf Tryd.f44)) (aq [0,0,1,1,1,1,1,1] spec_l20Fill_an) ⟨mkE 70 0 [(0, .ptr 0 0), (1, .slc 1), (3, dI x1280), (10, dI x1355), (11, dI x1397)], [some (.box [dV x1282, dI x1398]), some (sI x1399)]⟩ (spec_l20Fill_n6 (spec_l20Fill_fuel n) x1280 x1355 x1397 x1282 x1398 x1399) (Sum.elim (fun (t : Int × Int × (List Int)) => (Exit.normal, ⟨mkE 70 0 [(0, .ptr 0 0), (1, .slc 1), (3, dI x1280), (10, dI x1355), (11, dI t.1)], [some (.box [dV x1282, dI t.2.1]), some (sI t.2.2)]⟩)) (fun (t : Int × (List Int)) => ((Exit.exit 2), ⟨mkE 70 0 [], [some (.box [dV x1282, dI t.1]), some (sI t.2)]⟩))) := .of fun K h => by
  simp only [spec_l20Fill_n6, wpW] at h
  exact .of (by kernel_rfl) h

def spec_l20Fill_n7_l (n : Nat) (x1280 : Int) (x1355 : Int) (x1384 : Int) (x1282 : List Int) (x1371 : Int) (x1372 : List Int) := (link_loop (mk := fun (s : Int × Int × (List Int)) => ⟨mkE 70 0 [(0, .ptr 0 0), (1, .slc 1), (3, dI x1280), (10, dI x1355), (11, dI s.1)], [some (.box [dV x1282, dI s.2.1]), some (sI s.2.2)]⟩) (fin := (fun (t : Int × (List Int)) => ((Exit.exit 2), ⟨mkE 70 0 [], [some (.box [dV x1282, dI t.1]), some (sI t.2)]⟩))) (by
  rintro t f K h
  · exact h) (fun s => link_map (spec_l20Fill_n6_l n x1280 x1355 s.1 x1282 s.2.1 s.2.2) (Sum.elim (fun (t : Int × Int × (List Int)) => Sum.inl (t.1, t.2.1, t.2.2)) (fun (t : Int × (List Int)) => Sum.inr t)) (by
  rintro (t | t)
  · kernel_rfl
  · kernel_rfl)) (x1384, x1371, x1372))

def spec_l20Fill_n8_l (n : Nat) (x1280 : Int) (x1355 : Int) (x1384 : Int) (x1282 : List Int) (x1371 : Int) (x1372 : List Int) := (link_block (fin2 := (fun (t : Int × (List Int)) => (Exit.normal, ⟨mkE 70 0 [], [some (.box [dV x1282, dI t.1]), some (sI t.2)]⟩))) (id := 2) (spec_l20Fill_n7_l n x1280 x1355 x1384 x1282 x1371 x1372) (fun (t : Int × (List Int)) => (t.1, t.2)) (by
  rintro t K h
  · exact Eq.mp (by kernel_rfl) h))

def spec_l20Fill_n9_l (n : Nat) (x1280 : Int) (x1355 : Int) (x1282 : List Int) (x1371 : Int) (x1372 : List Int) := (link_seq (spec_l20Fill_n5_l n x1280 x1355 x1282 x1371 x1372) (fun (t : Int) => (spec_l20Fill_n8_l n x1280 x1355 t x1282 x1371 x1372)))

def spec_l20Fill_n10_l (n : Nat) (x1280 : Int) (x1355 : Int) (x1279 : Int) (x1282 : List Int) (x1354 : Int) (x1358 : List Int) := (link_seq (spec_l20Fill_n4_l n x1280 x1355 x1279 x1282 x1354 x1358) (fun (t : Int × (List Int)) => (spec_l20Fill_n9_l n x1280 x1355 x1282 t.1 t.2)))

def spec_l20Fill_n11_l (n : Nat) (x1279 : Int) (x1280 : Int) (x1281 : Int) (x1282 : List Int) (x1283 : Int) (x1284 : List Int) := (link_group (c := (cq [0,1,1,1] (bodyOf Tryd.f44))) (a := (aq [0,1,1,1] spec_l20Fill_an)) [(cq [0] (bodyOf Tryd.f44)), (cq [0,1] (bodyOf Tryd.f44)), (cq [0,1,1] (bodyOf Tryd.f44))] [(aq [0] spec_l20Fill_an), (aq [0,1] spec_l20Fill_an), (aq [0,1,1] spec_l20Fill_an)] rfl (link_seq2 (spec_l20Fill_n1_l n x1279 x1280 x1281 x1282 x1283 x1284) (fun (t : Int × Int × (List Int)) => (link_map (fin2 := (Sum.elim (fun (t : Int × (List Int)) => (Exit.normal, ⟨mkE 70 0 [], [some (.box [dV x1282, dI t.1]), some (sI t.2)]⟩)) (fun (t : Int × (List Int)) => (Exit.ret, ⟨mkE 70 0 [], [some (.box [dV x1282, dI t.1]), some (sI t.2)]⟩)))) (spec_l20Fill_n10_l n x1280 t.1 x1279 x1282 t.2.1 t.2.2) (fun (u : Int × (List Int)) => (Sum.inl (u.1, u.2))) (by
  rintro t
  · kernel_rfl))) (fun (t : Int × (List Int)) => (Sum.inr t)) (by
  rintro t
  · kernel_rfl) (by
  rintro t f K h
  · exact h)))

theorem spec_l20Fill_e (n : Nat) (x1279 : Int) (x1280 : Int) (x1281 : Int) (x1282 : List Int) (x1283 : Int) (x1284 : List Int) {r : AV} {H' : Heap} (h : (Ans.mk _ (spec_l20Fill_fuel (n + 1) x1279 x1280 x1281 x1282 x1283 x1284) (fun (t : Int × (List Int)) => (.tup [], [some (.box [dV x1282, dI t.1]), some (sI t.2)])) [] none).run = some (r, H')) : Awp (spec_l20Fill_ctx n) LL (bodyOf Tryd.f44) spec_l20Fill_an ⟨mkE 70 0 [(0, .ptr 0 0), (1, .slc 1), (2, dI x1279), (3, dI x1280), (4, dI x1281)], [some (.box [dV x1282, dI x1283]), some (sI x1284)]⟩ (Ret (tlook tys) Tryd.f44.results.toList r H') :=
  ret_of (Link.cast (by kernel_rfl) (by kernel_rfl) (spec_l20Fill_n11_l n x1279 x1280 x1281 x1282 x1283 x1284)) (Sum.elim (fun (t : Int × (List Int)) => (t.1, t.2)) (fun (t : Int × (List Int)) => t)) (by (show _ = _); kernel_rfl) (by
  rintro (t | t)
  · exact ret_mk [] (by kernel_rfl) (by kernel_rfl) (by kernel_rfl) (by kernel_rfl)
  · exact ret_mk [] (by kernel_rfl) (by kernel_rfl) (by kernel_rfl) (by kernel_rfl)) h

theorem spec_l20Fill_step (n : Nat) (h44 : Sound Tryd.prog 44 (F_spec_l20Fill_fuel n)) : Sound Tryd.prog 44 (F_spec_l20Fill_fuel (n + 1)) := by
  refine fn_sound' (C := spec_l20Fill_ctx n) (c := bodyOf Tryd.f44) (cok_of tys_ok (allc spec_l20Rd_pick_sound (allc h44 alln)) (allc Tryd.call12 (allc Tryd.call44 alln)) (by kernel_rfl)) Tryd.func44 (by kernel_rfl) LL spec_l20Fill_an ?_
  intro avs H r H' h
  unfold F_spec_l20Fill_fuel at h
  split at h
  · refine Awp.cast ?_ ?_ ?_ (spec_l20Fill_e n _ _ _ _ _ _ h) <;> kernel_rfl
  · simp [Ans.no, Ans.run] at h

theorem spec_l20Fill_null : Sound Tryd.prog 44 (F_spec_l20Fill_fuel 0) := by
  intro avs H r H' h
  unfold F_spec_l20Fill_fuel at h
  split at h
  · simp [spec_l20Fill_fuel, spec_l20Fill_knot, Ans.run] at h
  · simp [Ans.no, Ans.run] at h

theorem spec_l20Fill_knot_all : ∀ n, Sound Tryd.prog 44 (F_spec_l20Fill_fuel n)
  | 0 => spec_l20Fill_null
  | n + 1 => by
    have h44 := spec_l20Fill_knot_all n
    exact spec_l20Fill_step n h44

def F_spec_l20Fill : Fun := fun avs H =>
  match avs, H with
  | [.ptr 0 0, .slc 1, .dat (.int .i64) x1279, .dat (.int .i64) x1280, .dat (.int .i64) x1281], [some (.box [.dat (.list (.int .u8)) x1282, .dat (.int .i64) x1283]), some (.seq (.int .i64) x1284)] => ⟨_, spec_l20Fill x1279 x1280 x1281 x1282 x1283 x1284, fun (t : Int × (List Int)) => (.tup [], [some (.box [dV x1282, dI t.1]), some (sI t.2)]), [], none⟩
  | _, _ => Ans.no

theorem spec_l20Fill_sound : Sound Tryd.prog 44 F_spec_l20Fill := by
  have e : F_spec_l20Fill = F_spec_l20Fill_fuel RR := by
    funext avs H
    unfold F_spec_l20Fill F_spec_l20Fill_fuel
    split <;> first | rfl | (simp only [spec_l20Fill])
  rw [e]
  exact (spec_l20Fill_knot_all RR)


/-! loop.example/headtrees/spec.l20Flat -/

def spec_l20Flat_an : Ann := (.seq (.leaf [0, 1]) (.seq (.seq (.leaf [0, 1, 9]) (.cond (.seq (.leaf [4]) (.leaf [4])) (.leaf [0]))) (.seq (.leaf [0, 5]) (.seq (.leaf [0, 5, 6]) (.seq (.leaf [6]) (.seq (.leaf [4]) (.leaf [4])))))))

noncomputable def spec_l20Flat_ctx : Ctx := ⟨tlook tys, olook [(12, F_spec_l20Rd_pick), (24, F_spec_l20Tree), (44, F_spec_l20Fill)], ioF, 1, false, []⟩

theorem spec_l20Flat_n1_l (x1232 : Int) (x1233 : List Int) (x1234 : Int) : Link spec_l20Flat_ctx LL (bodyOf Tryd.f27) spec_l20Flat_an ⟨mkE 23 0 [(0, .ptr 0 0), (1, dI x1232)], [some (.box [dV x1233, dI x1234])]⟩ (spec_l20Flat_n1 x1232 x1233 x1234) (fun (t : Int × (List Int)) => (Exit.ret, ⟨mkE 23 0 [(4, .slc 1)], [some (.box [dV x1233, dI t.1]), some (sI t.2)]⟩)) := .of fun K h => by
  simp only [spec_l20Flat_n1, wpW] at h
  exact .of (by kernel_rfl) h

theorem spec_l20Flat_e (x1232 : Int) (x1233 : List Int) (x1234 : Int) {r : AV} {H' : Heap} (h : (Ans.mk _ (spec_l20Flat x1232 x1233 x1234) (fun (t : Int × (List Int)) => (.slc 1, [some (.box [dV x1233, dI t.1]), some (sI t.2)])) [] none).run = some (r, H')) : Awp spec_l20Flat_ctx LL (bodyOf Tryd.f27) spec_l20Flat_an ⟨mkE 23 0 [(0, .ptr 0 0), (1, dI x1232)], [some (.box [dV x1233, dI x1234])]⟩ (Ret (tlook tys) Tryd.f27.results.toList r H') :=
  ret_of' (spec_l20Flat_n1_l x1232 x1233 x1234) (by unfold spec_l20Flat; kernel_rfl) (by
  intro t
  exact ret_mk [.slc 1] (by kernel_rfl) (by kernel_rfl) (by kernel_rfl) (by kernel_rfl)) h

def F_spec_l20Flat : Fun := fun avs H =>
  match avs, H with
  | [.ptr 0 0, .dat (.int .i64) x1232], [some (.box [.dat (.list (.int .u8)) x1233, .dat (.int .i64) x1234])] => ⟨_, spec_l20Flat x1232 x1233 x1234, fun (t : Int × (List Int)) => (.slc 1, [some (.box [dV x1233, dI t.1]), some (sI t.2)]), [], none⟩
  | _, _ => Ans.no

theorem spec_l20Flat_sound : Sound Tryd.prog 27 F_spec_l20Flat := by
  refine fn_sound' (C := spec_l20Flat_ctx) (c := bodyOf Tryd.f27) (cok_of tys_ok (allc spec_l20Rd_pick_sound (allc spec_l20Tree_sound (allc spec_l20Fill_sound alln))) (allc Tryd.call12 (allc Tryd.call24 (allc Tryd.call44 alln))) (by kernel_rfl)) Tryd.func27 (by kernel_rfl) LL spec_l20Flat_an ?_
  intro avs H r H' h
  unfold F_spec_l20Flat at h
  split at h
  · refine Awp.cast ?_ ?_ ?_ (spec_l20Flat_e _ _ _ h) <;> kernel_rfl
  · simp [Ans.no, Ans.run] at h


/-! loop.example/headtrees/spec.l20Wild -/

def spec_l20Wild_an : Ann := (.seq (.leaf [0, 1]) (.seq (.leaf [0, 1, 5]) (.seq (.seq (.leaf [0, 1, 5, 17]) (.cond (.seq (.leaf [6]) (.seq (.leaf [4]) (.leaf [4]))) (.leaf [0, 1, 5]))) (.seq (.seq (.leaf [0, 1, 5, 30]) (.cond (.seq (.leaf [4]) (.leaf [4])) (.leaf [5]))) (.seq (.leaf [4]) (.leaf [4]))))))

noncomputable def spec_l20Wild_ctx : Ctx := ⟨tlook tys, olook [(24, F_spec_l20Tree), (12, F_spec_l20Rd_pick), (7, F_spec_TreeOk), (26, F_spec_l20Order), (25, F_spec_PutInOrder), (27, F_spec_l20Flat)], ioF, 1, false, []⟩

theorem spec_l20Wild_n1_l (x298 : Int) (x299 : List Int) (x300 : Int) : Link spec_l20Wild_ctx LL (bodyOf Tryd.f13) spec_l20Wild_an ⟨mkE 35 0 [(0, .ptr 0 0), (1, dI x298)], [some (.box [dV x299, dI x300])]⟩ (spec_l20Wild_n1 x298 x299 x300) (fun (t : Int × (List Int)) => (Exit.ret, ⟨mkE 35 0 [(4, .slc 1)], [some (.box [dV x299, dI t.1]), some (sI t.2)]⟩)) := .of fun K h => by
  simp only [spec_l20Wild_n1, wpW] at h
  exact .of (by kernel_rfl) h

theorem spec_l20Wild_e (x298 : Int) (x299 : List Int) (x300 : Int) {r : AV} {H' : Heap} (h : (Ans.mk _ (spec_l20Wild x298 x299 x300) (fun (t : Int × (List Int)) => (.slc 1, [some (.box [dV x299, dI t.1]), some (sI t.2)])) [] none).run = some (r, H')) : Awp spec_l20Wild_ctx LL (bodyOf Tryd.f13) spec_l20Wild_an ⟨mkE 35 0 [(0, .ptr 0 0), (1, dI x298)], [some (.box [dV x299, dI x300])]⟩ (Ret (tlook tys) Tryd.f13.results.toList r H') :=
  ret_of' (spec_l20Wild_n1_l x298 x299 x300) (by unfold spec_l20Wild; kernel_rfl) (by
  intro t
  exact ret_mk [.slc 1] (by kernel_rfl) (by kernel_rfl) (by kernel_rfl) (by kernel_rfl)) h

def F_spec_l20Wild : Fun := fun avs H =>
  match avs, H with
  | [.ptr 0 0, .dat (.int .i64) x298], [some (.box [.dat (.list (.int .u8)) x299, .dat (.int .i64) x300])] => ⟨_, spec_l20Wild x298 x299 x300, fun (t : Int × (List Int)) => (.slc 1, [some (.box [dV x299, dI t.1]), some (sI t.2)]), [], none⟩
  | _, _ => Ans.no

theorem spec_l20Wild_sound : Sound Tryd.prog 13 F_spec_l20Wild := by
  refine fn_sound' (C := spec_l20Wild_ctx) (c := bodyOf Tryd.f13) (cok_of tys_ok (allc spec_l20Tree_sound (allc spec_l20Rd_pick_sound (allc spec_TreeOk_sound (allc spec_l20Order_sound (allc spec_PutInOrder_sound (allc spec_l20Flat_sound alln)))))) (allc Tryd.call24 (allc Tryd.call12 (allc Tryd.call7 (allc Tryd.call26 (allc Tryd.call25 (allc Tryd.call27 alln)))))) (by kernel_rfl)) Tryd.func13 (by kernel_rfl) LL spec_l20Wild_an ?_
  intro avs H r H' h
  unfold F_spec_l20Wild at h
  split at h
  · refine Awp.cast ?_ ?_ ?_ (spec_l20Wild_e _ _ _ h) <;> kernel_rfl
  · simp [Ans.no, Ans.run] at h


/-! loop.example/headtrees/spec.DrawStarOk -/

def spec_DrawStarOk_an : Ann := (.seq (.leaf [0]) (.seq (.leaf [3]) (.seq (.seq (.leaf [3, 13]) (.cond (.seq (.leaf [3, 4]) (.seq (.leaf [3, 4, 5]) (.seq (.leaf [3, 4, 5, 6]) (.seq (.seq (.leaf [3, 4, 5, 6, 7]) (.block (.loop (.seq (.seq (.leaf [3, 4, 5, 6, 7, 25]) (.cond (.leaf [3, 4, 5, 6, 7]) (.leaf [3, 4, 5, 6]))) (.seq (.block (.seq (.leaf [3, 4, 5, 6, 7, 31]) (.cond (.leaf [3, 4, 5, 6, 7]) (.leaf [3, 4, 5, 6, 7])))) (.leaf [3, 4, 5, 6, 7])))))) (.seq (.seq (.leaf [3, 4, 5, 6, 42]) (.cond (.seq (.leaf [5, 6, 8]) (.seq (.leaf [5, 8]) (.leaf [5]))) (.leaf [5]))) (.seq (.leaf [2]) (.leaf [2]))))))) (.leaf [3]))) (.seq (.leaf [2]) (.leaf [2])))))

noncomputable def spec_DrawStarOk_ctx : Ctx := ⟨tlook tys, olook [(11, F_spec_l20Open), (12, F_spec_l20Rd_pick), (13, F_spec_l20Wild)], ioF, 0, false, []⟩

theorem spec_DrawStarOk_n1_l (x10 : List Int) : Link spec_DrawStarOk_ctx LL (Code.seq (cq [0] (bodyOf Tryd.f4)) (cq [0,1] (bodyOf Tryd.f4))) (Ann.seq (aq [0] spec_DrawStarOk_an) (aq [0,1] spec_DrawStarOk_an)) ⟨mkE 63 0 [(0, dV x10)], []⟩ (spec_DrawStarOk_n1 x10) (fun (t : (List Int)) => (Exit.normal, ⟨mkE 63 0 [(3, .ptr 0 0)], [some (.box [dV t, dI 0])]⟩)) := .of fun K h => by
  simp only [spec_DrawStarOk_n1, wpW] at h
  exact .of (by kernel_rfl) h

theorem spec_DrawStarOk_n2_l (x32 : List Int) : Link spec_DrawStarOk_ctx LL (cq [0,0,1,1] (bodyOf Tryd.f4)) (aq [0,0,1,1] spec_DrawStarOk_an) ⟨mkE 63 0 [(3, .ptr 0 0)], [some (.box [dV x32, dI 0])]⟩ (spec_DrawStarOk_n2 x32) (fun (t : Bool × Int) => (Exit.normal, ⟨mkE 63 0 [(3, .ptr 0 0), (13, dB t.1)], [some (.box [dV x32, dI t.2])]⟩)) := .of fun K h => by
  simp only [spec_DrawStarOk_n2, wpW] at h
  exact .of (by kernel_rfl) h

theorem spec_DrawStarOk_n3_l (x193 : Bool) (x32 : List Int) (x192 : Int) : Link spec_DrawStarOk_ctx LL (Code.seq (cq [0,0,1,0,1,1] (bodyOf Tryd.f4)) (Code.seq (cq [0,1,0,1,0,1,1] (bodyOf Tryd.f4)) (cq [0,1,1,0,1,0,1,1] (bodyOf Tryd.f4)))) (Ann.seq (aq [0,0,1,0,1,1] spec_DrawStarOk_an) (Ann.seq (aq [0,1,0,1,0,1,1] spec_DrawStarOk_an) (aq [0,1,1,0,1,0,1,1] spec_DrawStarOk_an))) ⟨mkE 63 0 [(3, .ptr 0 0), (13, dB x193)], [some (.box [dV x32, dI x192])]⟩ (spec_DrawStarOk_n3 x32 x192) (fun (t : Int × Int × Int × (List Int)) => (Exit.normal, ⟨mkE 63 0 [(3, .ptr 0 0), (4, dI t.1), (5, .slc 1), (6, dI t.2.1)], [some (.box [dV x32, dI t.2.2.1]), some (sI t.2.2.2)]⟩)) := .of fun K h => by
  simp only [spec_DrawStarOk_n3, wpW] at h
  exact .of (by kernel_rfl) h

theorem spec_DrawStarOk_n4_l (x207 : Int) (x213 : Int) (x32 : List Int) (x212 : Int) (x209 : List Int) : Link spec_DrawStarOk_ctx LL (cq [0,0,1,1,1,0,1,0,1,1] (bodyOf Tryd.f4)) (aq [0,0,1,1,1,0,1,0,1,1] spec_DrawStarOk_an) ⟨mkE 63 0 [(3, .ptr 0 0), (4, dI x207), (5, .slc 1), (6, dI x213)], [some (.box [dV x32, dI x212]), some (sI x209)]⟩ (spec_DrawStarOk_n4) (fun (t : Unit) => (Exit.normal, ⟨mkE 63 0 [(3, .ptr 0 0), (4, dI x207), (5, .slc 1), (6, dI x213), (7, dI 0)], [some (.box [dV x32, dI x212]), some (sI x209)]⟩)) := .of fun K h => by
  simp only [spec_DrawStarOk_n4, wpW] at h
  exact .of (by kernel_rfl) h

theorem spec_DrawStarOk_n5_l (x207 : Int) (x213 : Int) (x229 : Int) (x32 : List Int) (x212 : Int) (x230 : List Int) : Link spec_DrawStarOk_ctx LL (cq [0,0,1,0,1,1,1,0,1,0,1,1] (bodyOf Tryd.f4)) (aq [0,0,1,0,1,1,1,0,1,0,1,1] spec_DrawStarOk_an) ⟨mkE 63 0 [(3, .ptr 0 0), (4, dI x207), (5, .slc 1), (6, dI x213), (7, dI x229)], [some (.box [dV x32, dI x212]), some (sI x230)]⟩ (spec_DrawStarOk_n5 x207 x213 x229 x230) (Sum.elim (fun (t : Int × (List Int)) => (Exit.normal, ⟨mkE 63 0 [(3, .ptr 0 0), (4, dI x207), (5, .slc 1), (6, dI x213), (7, dI t.1)], [some (.box [dV x32, dI x212]), some (sI t.2)]⟩)) (fun (t : (List Int)) => ((Exit.exit 0), ⟨mkE 63 0 [(3, .ptr 0 0), (4, dI x207), (5, .slc 1), (6, dI x213)], [some (.box [dV x32, dI x212]), some (sI t)]⟩))) := .of fun K h => by
  simp only [spec_DrawStarOk_n5, wpW] at h
  exact .of (by kernel_rfl) h

def spec_DrawStarOk_n6_l (x207 : Int) (x213 : Int) (x32 : List Int) (x212 : Int) (x209 : List Int) := (link_loop (mk := fun (s : Int × (List Int)) => ⟨mkE 63 0 [(3, .ptr 0 0), (4, dI x207), (5, .slc 1), (6, dI x213), (7, dI s.1)], [some (.box [dV x32, dI x212]), some (sI s.2)]⟩) (fin := (fun (t : (List Int)) => ((Exit.exit 0), ⟨mkE 63 0 [(3, .ptr 0 0), (4, dI x207), (5, .slc 1), (6, dI x213)], [some (.box [dV x32, dI x212]), some (sI t)]⟩))) (by
  rintro t f K h
  · exact h) (fun s => link_map (spec_DrawStarOk_n5_l x207 x213 s.1 x32 x212 s.2) (Sum.elim (fun (t : Int × (List Int)) => Sum.inl (t.1, t.2)) (fun (t : (List Int)) => Sum.inr t)) (by
  rintro (t | t)
  · kernel_rfl
  · kernel_rfl)) (0, x209))

def spec_DrawStarOk_n7_l (x207 : Int) (x213 : Int) (x32 : List Int) (x212 : Int) (x209 : List Int) := (link_block (fin2 := (fun (t : (List Int)) => (Exit.normal, ⟨mkE 63 0 [(3, .ptr 0 0), (4, dI x207), (5, .slc 1), (6, dI x213)], [some (.box [dV x32, dI x212]), some (sI t)]⟩))) (id := 0) (spec_DrawStarOk_n6_l x207 x213 x32 x212 x209) (fun (t : (List Int)) => t) (by
  rintro t K h
  · exact Eq.mp (by kernel_rfl) h))

def spec_DrawStarOk_n8_l (x207 : Int) (x213 : Int) (x32 : List Int) (x212 : Int) (x209 : List Int) := (link_seq (spec_DrawStarOk_n4_l x207 x213 x32 x212 x209) (fun (t : Unit) => (spec_DrawStarOk_n7_l x207 x213 x32 x212 x209)))

theorem spec_DrawStarOk_n9_l (x207 : Int) (x213 : Int) (x32 : List Int) (x212 : Int) (x230 : List Int) : Link spec_DrawStarOk_ctx LL (cq [1,1,1,1,0,1,0,1,1] (bodyOf Tryd.f4)) (aq [1,1,1,1,0,1,0,1,1] spec_DrawStarOk_an) ⟨mkE 63 0 [(3, .ptr 0 0), (4, dI x207), (5, .slc 1), (6, dI x213)], [some (.box [dV x32, dI x212]), some (sI x230)]⟩ (spec_DrawStarOk_n9 x207 x213 x32 x212 x230) (fun (t : (List Int)) => (Exit.ret, ⟨mkE 63 0 [(2, .slc 0)], [some (sI t)]⟩)) := .of fun K h => by
  simp only [spec_DrawStarOk_n9, wpW] at h
  exact .of (by kernel_rfl) h

def spec_DrawStarOk_n10_l (x207 : Int) (x213 : Int) (x32 : List Int) (x212 : Int) (x209 : List Int) := (link_seq (spec_DrawStarOk_n8_l x207 x213 x32 x212 x209) (fun (t : (List Int)) => (spec_DrawStarOk_n9_l x207 x213 x32 x212 t)))

def spec_DrawStarOk_n11_l (x193 : Bool) (x32 : List Int) (x192 : Int) := (link_group (c := (cq [0,1,1,0,1,0,1,1] (bodyOf Tryd.f4))) (a := (aq [0,1,1,0,1,0,1,1] spec_DrawStarOk_an)) [(cq [0,0,1,0,1,1] (bodyOf Tryd.f4)), (cq [0,1,0,1,0,1,1] (bodyOf Tryd.f4))] [(aq [0,0,1,0,1,1] spec_DrawStarOk_an), (aq [0,1,0,1,0,1,1] spec_DrawStarOk_an)] rfl (link_seq (spec_DrawStarOk_n3_l x193 x32 x192) (fun (t : Int × Int × Int × (List Int)) => (spec_DrawStarOk_n10_l t.1 t.2.1 x32 t.2.2.1 t.2.2.2))))

theorem spec_DrawStarOk_n12_l (x193 : Bool) (x32 : List Int) (x192 : Int) : Link spec_DrawStarOk_ctx LL (cq [1,1,0,1,1] (bodyOf Tryd.f4)) (aq [1,1,0,1,1] spec_DrawStarOk_an) ⟨mkE 63 0 [(3, .ptr 0 0), (13, dB x193)], [some (.box [dV x32, dI x192])]⟩ (spec_DrawStarOk_n12) (fun (t : Unit) => (Exit.normal, ⟨mkE 63 0 [(3, .ptr 0 0)], [some (.box [dV x32, dI x192])]⟩)) := .of fun K h => by
  simp only [spec_DrawStarOk_n12, wpW] at h
  exact .of (by kernel_rfl) h

def spec_DrawStarOk_n13_l (x193 : Bool) (x32 : List Int) (x192 : Int) := (link_cond (c := .tmp 13) (g := x193) (by kernel_rfl) ((link_map (fin2 := (Sum.elim (fun (t : Unit) => (Exit.normal, ⟨mkE 63 0 [(3, .ptr 0 0)], [some (.box [dV x32, dI x192])]⟩)) (fun (t : (List Int)) => (Exit.ret, ⟨mkE 63 0 [(2, .slc 0)], [some (sI t)]⟩)))) (spec_DrawStarOk_n11_l x193 x32 x192) (fun (t : (List Int)) => (Sum.inr t)) (by
  rintro t
  · kernel_rfl))) ((link_map (fin2 := (Sum.elim (fun (t : Unit) => (Exit.normal, ⟨mkE 63 0 [(3, .ptr 0 0)], [some (.box [dV x32, dI x192])]⟩)) (fun (t : (List Int)) => (Exit.ret, ⟨mkE 63 0 [(2, .slc 0)], [some (sI t)]⟩)))) (spec_DrawStarOk_n12_l x193 x32 x192) (fun (t : Unit) => (Sum.inl ())) (by
  rintro t
  · kernel_rfl))))

def spec_DrawStarOk_n14_l (x32 : List Int) := (link_seq (spec_DrawStarOk_n2_l x32) (fun (t : Bool × Int) => (link_map (fin2 := (Sum.elim (fun (t : Int) => (Exit.normal, ⟨mkE 63 0 [(3, .ptr 0 0)], [some (.box [dV x32, dI t])]⟩)) (fun (t : (List Int)) => (Exit.ret, ⟨mkE 63 0 [(2, .slc 0)], [some (sI t)]⟩)))) (spec_DrawStarOk_n13_l t.1 x32 t.2) (Sum.elim (fun (u : Unit) => (Sum.inl t.2)) (fun (u : (List Int)) => (Sum.inr u))) (by
  rintro (t | t)
  · kernel_rfl
  · kernel_rfl))))

theorem spec_DrawStarOk_n15_l (x32 : List Int) (x192 : Int) : Link spec_DrawStarOk_ctx LL (cq [1,1,1] (bodyOf Tryd.f4)) (aq [1,1,1] spec_DrawStarOk_an) ⟨mkE 63 0 [(3, .ptr 0 0)], [some (.box [dV x32, dI x192])]⟩ (spec_DrawStarOk_n15 x32 x192) (fun (t : (List Int)) => (Exit.ret, ⟨mkE 63 0 [(2, .slc 0)], [some (sI t)]⟩)) := .of fun K h => by
  simp only [spec_DrawStarOk_n15, wpW] at h
  exact .of (by kernel_rfl) h

def spec_DrawStarOk_n16_l (x32 : List Int) := (link_seq2 (spec_DrawStarOk_n14_l x32) (fun (t : Int) => (spec_DrawStarOk_n15_l x32 t)) (fun (t : (List Int)) => t) (by
  rintro t
  · kernel_rfl) (by
  rintro t f K h
  · exact h))

def spec_DrawStarOk_n17_l (x10 : List Int) := (link_group (c := (cq [0,1] (bodyOf Tryd.f4))) (a := (aq [0,1] spec_DrawStarOk_an)) [(cq [0] (bodyOf Tryd.f4))] [(aq [0] spec_DrawStarOk_an)] rfl (link_seq (spec_DrawStarOk_n1_l x10) (fun (t : (List Int)) => (spec_DrawStarOk_n16_l t))))

theorem spec_DrawStarOk_e (x10 : List Int) {r : AV} {H' : Heap} (h : (Ans.mk _ (spec_DrawStarOk x10) (fun (t : (List Int)) => (.slc 0, [some (sI t)])) [] none).run = some (r, H')) : Awp spec_DrawStarOk_ctx LL (bodyOf Tryd.f4) spec_DrawStarOk_an ⟨mkE 63 0 [(0, dV x10)], []⟩ (Ret (tlook tys) Tryd.f4.results.toList r H') :=
  ret_of' (Link.cast (by kernel_rfl) (by kernel_rfl) (spec_DrawStarOk_n17_l x10)) (by unfold spec_DrawStarOk; kernel_rfl) (by
  intro t
  exact ret_mk [.slc 0] (by kernel_rfl) (by kernel_rfl) (by kernel_rfl) (by kernel_rfl)) h

def F_spec_DrawStarOk : Fun := fun avs H =>
  match avs, H with
  | [.dat (.list (.int .u8)) x10], [] => ⟨_, spec_DrawStarOk x10, fun (t : (List Int)) => (.slc 0, [some (sI t)]), [], none⟩
  | _, _ => Ans.no

theorem spec_DrawStarOk_sound : Sound Tryd.prog 4 F_spec_DrawStarOk := by
  refine fn_sound' (C := spec_DrawStarOk_ctx) (c := bodyOf Tryd.f4) (cok_of tys_ok (allc spec_l20Open_sound (allc spec_l20Rd_pick_sound (allc spec_l20Wild_sound alln))) (allc Tryd.call11 (allc Tryd.call12 (allc Tryd.call13 alln))) (by kernel_rfl)) Tryd.func4 (by kernel_rfl) LL spec_DrawStarOk_an ?_
  intro avs H r H' h
  unfold F_spec_DrawStarOk at h
  split at h
  · refine Awp.cast ?_ ?_ ?_ (spec_DrawStarOk_e _ h) <;> kernel_rfl
  · simp [Ans.no, Ans.run] at h


/-! loop.example/headtrees/impl.oneRoot -/

def impl_oneRoot_an : Ann := (.seq (.leaf [0]) (.seq (.leaf [0, 3]) (.seq (.seq (.leaf [0, 3, 6, 7, 8]) (.block (.loop (.seq (.leaf [0, 3, 6, 7, 8, 9]) (.seq (.cond (.leaf [0, 3, 6, 7, 8]) (.leaf [3])) (.seq (.block (.seq (.leaf [0, 3, 5, 6, 7, 8]) (.seq (.seq (.leaf [0, 3, 5, 6, 7, 8, 19]) (.cond (.seq (.leaf [2]) (.leaf [2])) (.leaf [0, 3, 5, 6, 7, 8]))) (.seq (.leaf [0, 3, 6, 7, 8, 21]) (.cond (.leaf [0, 3, 6, 7, 8]) (.leaf [0, 3, 6, 7, 8])))))) (.leaf [0, 3, 6, 7, 8]))))))) (.seq (.leaf [2]) (.leaf [2])))))

noncomputable def impl_oneRoot_ctx : Ctx := ⟨tlook tys, olook [], ioF, 0, false, []⟩

theorem impl_oneRoot_n1_l (x1539 : List Int) : Link impl_oneRoot_ctx LL (Code.seq (cq [0] (bodyOf Tryd.f31)) (cq [0,1] (bodyOf Tryd.f31))) (Ann.seq (aq [0] impl_oneRoot_an) (aq [0,1] impl_oneRoot_an)) ⟨mkE 27 0 [(0, dL x1539)], []⟩ (impl_oneRoot_n1) (fun (t : Unit) => (Exit.normal, ⟨mkE 27 0 [(0, dL x1539), (3, dI 0)], []⟩)) := .of fun K h => by
  simp only [impl_oneRoot_n1, wpW] at h
  exact .of (by kernel_rfl) h

theorem impl_oneRoot_n2_l (x1539 : List Int) : Link impl_oneRoot_ctx LL (cq [0,0,1,1] (bodyOf Tryd.f31)) (aq [0,0,1,1] impl_oneRoot_an) ⟨mkE 27 0 [(0, dL x1539), (3, dI 0)], []⟩ (impl_oneRoot_n2 x1539) (fun (t : Int) => (Exit.normal, ⟨mkE 27 0 [(0, dL x1539), (3, dI 0), (6, dL x1539), (7, dI t), (8, dI 0)], []⟩)) := .of fun K h => by
  simp only [impl_oneRoot_n2, wpW] at h
  exact .of (by kernel_rfl) h

theorem impl_oneRoot_n3_l (x1539 : List Int) (x1561 : Int) (x1540 : Int) (x1562 : Int) : Link impl_oneRoot_ctx LL (cq [0,0,1,0,1,1] (bodyOf Tryd.f31)) (aq [0,0,1,0,1,1] impl_oneRoot_an) ⟨mkE 27 0 [(0, dL x1539), (3, dI x1561), (6, dL x1539), (7, dI x1540), (8, dI x1562)], []⟩ (impl_oneRoot_n3 x1539 x1561 x1540 x1562) (Sum.elim (fun (t : Int × Int) => (Exit.normal, ⟨mkE 27 0 [(0, dL x1539), (3, dI t.1), (6, dL x1539), (7, dI x1540), (8, dI t.2)], []⟩)) (Sum.elim (fun (t : Bool) => (Exit.ret, ⟨mkE 27 0 [(2, dB t)], []⟩)) (fun (t : Int) => ((Exit.exit 0), ⟨mkE 27 0 [(3, dI t)], []⟩)))) := .of fun K h => by
  simp only [impl_oneRoot_n3, wpW] at h
  exact .of (by kernel_rfl) h

def impl_oneRoot_n4_l (x1539 : List Int) (x1540 : Int) := (link_loop (mk := fun (s : Int × Int) => ⟨mkE 27 0 [(0, dL x1539), (3, dI s.1), (6, dL x1539), (7, dI x1540), (8, dI s.2)], []⟩) (fin := (Sum.elim (fun (t : Bool) => (Exit.ret, ⟨mkE 27 0 [(2, dB t)], []⟩)) (fun (t : Int) => ((Exit.exit 0), ⟨mkE 27 0 [(3, dI t)], []⟩)))) (by
  rintro (t | t) f K h
  · exact h
  · exact h) (fun s => link_map (impl_oneRoot_n3_l x1539 s.1 x1540 s.2) (Sum.elim (fun (t : Int × Int) => Sum.inl (t.1, t.2)) (Sum.elim (fun (t : Bool) => Sum.inr (Sum.inl t)) (fun (t : Int) => Sum.inr (Sum.inr t)))) (by
  rintro (t | t | t)
  · kernel_rfl
  · kernel_rfl
  · kernel_rfl)) (0, 0))

def impl_oneRoot_n5_l (x1539 : List Int) (x1540 : Int) := (link_block (fin2 := (Sum.elim (fun (t : Int) => (Exit.normal, ⟨mkE 27 0 [(3, dI t)], []⟩)) (fun (t : Bool) => (Exit.ret, ⟨mkE 27 0 [(2, dB t)], []⟩)))) (id := 0) (impl_oneRoot_n4_l x1539 x1540) (Sum.elim (fun (t : Bool) => (Sum.inr t)) (fun (t : Int) => (Sum.inl t))) (by
  rintro (t | t) K h
  · exact Eq.mp (by kernel_rfl) h
  · exact Eq.mp (by kernel_rfl) h))

def impl_oneRoot_n6_l (x1539 : List Int) := (link_seq (impl_oneRoot_n2_l x1539) (fun (t : Int) => (impl_oneRoot_n5_l x1539 t)))

theorem impl_oneRoot_n7_l (x1561 : Int) : Link impl_oneRoot_ctx LL (cq [1,1,1] (bodyOf Tryd.f31)) (aq [1,1,1] impl_oneRoot_an) ⟨mkE 27 0 [(3, dI x1561)], []⟩ (impl_oneRoot_n7 x1561) (fun (t : Bool) => (Exit.ret, ⟨mkE 27 0 [(2, dB t)], []⟩)) := .of fun K h => by
  simp only [impl_oneRoot_n7, wpW] at h
  exact .of (by kernel_rfl) h

def impl_oneRoot_n8_l (x1539 : List Int) := (link_seq2 (impl_oneRoot_n6_l x1539) (fun (t : Int) => (impl_oneRoot_n7_l t)) (fun (t : Bool) => t) (by
  rintro t
  · kernel_rfl) (by
  rintro t f K h
  · exact h))

def impl_oneRoot_n9_l (x1539 : List Int) := (link_group (c := (cq [0,1] (bodyOf Tryd.f31))) (a := (aq [0,1] impl_oneRoot_an)) [(cq [0] (bodyOf Tryd.f31))] [(aq [0] impl_oneRoot_an)] rfl (link_seq (impl_oneRoot_n1_l x1539) (fun (t : Unit) => (impl_oneRoot_n8_l x1539))))

theorem impl_oneRoot_e (x1539 : List Int) {r : AV} {H' : Heap} (h : (Ans.mk _ (impl_oneRoot x1539) (fun (t : Bool) => (dB t, [])) [] none).run = some (r, H')) : Awp impl_oneRoot_ctx LL (bodyOf Tryd.f31) impl_oneRoot_an ⟨mkE 27 0 [(0, dL x1539)], []⟩ (Ret (tlook tys) Tryd.f31.results.toList r H') :=
  ret_of' (Link.cast (by kernel_rfl) (by kernel_rfl) (impl_oneRoot_n9_l x1539)) (by unfold impl_oneRoot; kernel_rfl) (by
  intro t
  exact ret_mk [dB t] (by kernel_rfl) (by kernel_rfl) (by kernel_rfl) (by kernel_rfl)) h

def F_impl_oneRoot : Fun := fun avs H =>
  match avs, H with
  | [.dat (.list (.int .i64)) x1539], [] => ⟨_, impl_oneRoot x1539, fun (t : Bool) => (dB t, []), [], none⟩
  | _, _ => Ans.no

theorem impl_oneRoot_sound : Sound Tryd.prog 31 F_impl_oneRoot := by
  refine fn_sound' (C := impl_oneRoot_ctx) (c := bodyOf Tryd.f31) (cok_of tys_ok (alln) (alln) (by kernel_rfl)) Tryd.func31 (by kernel_rfl) LL impl_oneRoot_an ?_
  intro avs H r H' h
  unfold F_impl_oneRoot at h
  split at h
  · refine Awp.cast ?_ ?_ ?_ (impl_oneRoot_e _ h) <;> kernel_rfl
  · simp [Ans.no, Ans.run] at h


/-! (*loop.example/headtrees/impl.walker).up -/

def impl_walker_up_an : Ann := (.seq (.leaf [0]) (.seq (.draw [] [0, 1, 2, 3, 4, 5, 6, 7, 8, 9, 10, 11] [] [0, 3]) (.seq (.seq (.leaf [0, 3, 16]) (.cond (.seq (.leaf [2]) (.leaf [2])) (.leaf [0, 3]))) (.seq (.leaf [0]) (.seq (.leaf []) (.seq (.leaf [2]) (.leaf [2])))))))

noncomputable def impl_walker_up_ctx : Ctx := ⟨tlook tys, olook [], ioF, 1, false, []⟩

theorem impl_walker_up_n1_l (x1595 : List Int) (x1596 : Int) (x1597 : Int) : Link impl_walker_up_ctx LL (bodyOf Tryd.f45) impl_walker_up_an ⟨mkE 28 0 [(0, .ptr 0 0)], [some (.box [dL x1595, dI x1596, dI x1597])]⟩ (impl_walker_up_n1 x1595 x1596 x1597) (fun (t : Bool × Int × Int) => (Exit.ret, ⟨mkE 28 0 [(2, dB t.1)], [some (.box [dL x1595, dI t.2.1, dI t.2.2])]⟩)) := .of fun K h => by
  simp only [impl_walker_up_n1, wpW] at h
  exact .of (by kernel_rfl) h

theorem impl_walker_up_e (x1595 : List Int) (x1596 : Int) (x1597 : Int) {r : AV} {H' : Heap} (h : (Ans.mk _ (impl_walker_up x1595 x1596 x1597) (fun (t : Bool × Int × Int) => (dB t.1, [some (.box [dL x1595, dI t.2.1, dI t.2.2])])) [] none).run = some (r, H')) : Awp impl_walker_up_ctx LL (bodyOf Tryd.f45) impl_walker_up_an ⟨mkE 28 0 [(0, .ptr 0 0)], [some (.box [dL x1595, dI x1596, dI x1597])]⟩ (Ret (tlook tys) Tryd.f45.results.toList r H') :=
  ret_of' (impl_walker_up_n1_l x1595 x1596 x1597) (by unfold impl_walker_up; kernel_rfl) (by
  intro t
  exact ret_mk [dB t.1] (by kernel_rfl) (by kernel_rfl) (by kernel_rfl) (by kernel_rfl)) h

def F_impl_walker_up : Fun := fun avs H =>
  match avs, H with
  | [.ptr 0 0], [some (.box [.dat (.list (.int .i64)) x1595, .dat (.int .i64) x1596, .dat (.int .i64) x1597])] => ⟨_, impl_walker_up x1595 x1596 x1597, fun (t : Bool × Int × Int) => (dB t.1, [some (.box [dL x1595, dI t.2.1, dI t.2.2])]), [], none⟩
  | _, _ => Ans.no

theorem impl_walker_up_sound : Sound Tryd.prog 45 F_impl_walker_up := by
  refine fn_sound' (C := impl_walker_up_ctx) (c := bodyOf Tryd.f45) (cok_of tys_ok (alln) (alln) (by kernel_rfl)) Tryd.func45 (by kernel_rfl) LL impl_walker_up_an ?_
  intro avs H r H' h
  unfold F_impl_walker_up at h
  split at h
  · refine Awp.cast ?_ ?_ ?_ (impl_walker_up_e _ _ _ h) <;> kernel_rfl
  · simp [Ans.no, Ans.run] at h


/-! loop.example/headtrees/impl.stepsToRoot -/

def impl_stepsToRoot_an : Ann := (.seq (.leaf [0, 1]) (.seq (.leaf [0, 6]) (.seq (.block (.loop (.seq (.seq (.leaf [0, 6, 10]) (.cond (.leaf [0, 6]) (.leaf [6]))) (.block (.seq (.leaf [0, 6, 15]) (.cond (.seq (.leaf [4, 5]) (.leaf [4, 5])) (.leaf [0, 6]))))))) (.seq (.leaf [4, 5]) (.leaf [4, 5])))))

noncomputable def impl_stepsToRoot_ctx : Ctx := ⟨tlook tys, olook [(45, F_impl_walker_up)], ioF, 0, false, []⟩

theorem impl_stepsToRoot_n1_l (x1593 : List Int) (x1594 : Int) : Link impl_stepsToRoot_ctx LL (Code.seq (cq [0] (bodyOf Tryd.f32)) (cq [0,1] (bodyOf Tryd.f32))) (Ann.seq (aq [0] impl_stepsToRoot_an) (aq [0,1] impl_stepsToRoot_an)) ⟨mkE 18 0 [(0, dL x1593), (1, dI x1594)], []⟩ (impl_stepsToRoot_n1) (fun (t : Unit) => (Exit.normal, ⟨mkE 18 0 [(0, dL x1593), (6, .ptr 0 0)], [some (.box [dL x1593, dI x1594, dI 0])]⟩)) := .of fun K h => by
  simp only [impl_stepsToRoot_n1, wpW] at h
  exact .of (by kernel_rfl) h

theorem impl_stepsToRoot_n2_l (x1593 : List Int) (x1631 : Int) (x1632 : Int) : Link impl_stepsToRoot_ctx LL (cq [0,0,0,1,1] (bodyOf Tryd.f32)) (aq [0,0,0,1,1] impl_stepsToRoot_an) ⟨mkE 18 0 [(0, dL x1593), (6, .ptr 0 0)], [some (.box [dL x1593, dI x1631, dI x1632])]⟩ (impl_stepsToRoot_n2 x1593 x1631 x1632) (Sum.elim (fun (t : Int × Int) => (Exit.normal, ⟨mkE 18 0 [(0, dL x1593), (6, .ptr 0 0)], [some (.box [dL x1593, dI t.1, dI t.2])]⟩)) (Sum.elim (fun (t : Int × Bool) => (Exit.ret, ⟨mkE 18 0 [(4, dI t.1), (5, dB t.2)], []⟩)) (fun (t : Int × Int) => ((Exit.exit 0), ⟨mkE 18 0 [(6, .ptr 0 0)], [some (.box [dL x1593, dI t.1, dI t.2])]⟩)))) := .of fun K h => by
  simp only [impl_stepsToRoot_n2, wpW] at h
  exact .of (by kernel_rfl) h

def impl_stepsToRoot_n3_l (x1593 : List Int) (x1594 : Int) := (link_loop (mk := fun (s : Int × Int) => ⟨mkE 18 0 [(0, dL x1593), (6, .ptr 0 0)], [some (.box [dL x1593, dI s.1, dI s.2])]⟩) (fin := (Sum.elim (fun (t : Int × Bool) => (Exit.ret, ⟨mkE 18 0 [(4, dI t.1), (5, dB t.2)], []⟩)) (fun (t : Int × Int) => ((Exit.exit 0), ⟨mkE 18 0 [(6, .ptr 0 0)], [some (.box [dL x1593, dI t.1, dI t.2])]⟩)))) (by
  rintro (t | t) f K h
  · exact h
  · exact h) (fun s => link_map (impl_stepsToRoot_n2_l x1593 s.1 s.2) (Sum.elim (fun (t : Int × Int) => Sum.inl (t.1, t.2)) (Sum.elim (fun (t : Int × Bool) => Sum.inr (Sum.inl t)) (fun (t : Int × Int) => Sum.inr (Sum.inr t)))) (by
  rintro (t | t | t)
  · kernel_rfl
  · kernel_rfl
  · kernel_rfl)) (x1594, 0))

def impl_stepsToRoot_n4_l (x1593 : List Int) (x1594 : Int) := (link_block (fin2 := (Sum.elim (fun (t : Int × Int) => (Exit.normal, ⟨mkE 18 0 [(6, .ptr 0 0)], [some (.box [dL x1593, dI t.1, dI t.2])]⟩)) (fun (t : Int × Bool) => (Exit.ret, ⟨mkE 18 0 [(4, dI t.1), (5, dB t.2)], []⟩)))) (id := 0) (impl_stepsToRoot_n3_l x1593 x1594) (Sum.elim (fun (t : Int × Bool) => (Sum.inr t)) (fun (t : Int × Int) => (Sum.inl (t.1, t.2)))) (by
  rintro (t | t) K h
  · exact Eq.mp (by kernel_rfl) h
  · exact Eq.mp (by kernel_rfl) h))

theorem impl_stepsToRoot_n5_l (x1593 : List Int) (x1639 : Int) (x1640 : Int) : Link impl_stepsToRoot_ctx LL (cq [1,1,1] (bodyOf Tryd.f32)) (aq [1,1,1] impl_stepsToRoot_an) ⟨mkE 18 0 [(6, .ptr 0 0)], [some (.box [dL x1593, dI x1639, dI x1640])]⟩ (impl_stepsToRoot_n5 x1640) (fun (t : Int × Bool) => (Exit.ret, ⟨mkE 18 0 [(4, dI t.1), (5, dB t.2)], []⟩)) := .of fun K h => by
  simp only [impl_stepsToRoot_n5, wpW] at h
  exact .of (by kernel_rfl) h

def impl_stepsToRoot_n6_l (x1593 : List Int) (x1594 : Int) := (link_seq2 (impl_stepsToRoot_n4_l x1593 x1594) (fun (t : Int × Int) => (impl_stepsToRoot_n5_l x1593 t.1 t.2)) (fun (t : Int × Bool) => t) (by
  rintro t
  · kernel_rfl) (by
  rintro t f K h
  · exact h))

def impl_stepsToRoot_n7_l (x1593 : List Int) (x1594 : Int) := (link_group (c := (cq [0,1] (bodyOf Tryd.f32))) (a := (aq [0,1] impl_stepsToRoot_an)) [(cq [0] (bodyOf Tryd.f32))] [(aq [0] impl_stepsToRoot_an)] rfl (link_seq (impl_stepsToRoot_n1_l x1593 x1594) (fun (t : Unit) => (impl_stepsToRoot_n6_l x1593 x1594))))

theorem impl_stepsToRoot_e (x1593 : List Int) (x1594 : Int) {r : AV} {H' : Heap} (h : (Ans.mk _ (impl_stepsToRoot x1593 x1594) (fun (t : Int × Bool) => (.tup [dI t.1, dB t.2], [])) [] none).run = some (r, H')) : Awp impl_stepsToRoot_ctx LL (bodyOf Tryd.f32) impl_stepsToRoot_an ⟨mkE 18 0 [(0, dL x1593), (1, dI x1594)], []⟩ (Ret (tlook tys) Tryd.f32.results.toList r H') :=
  ret_of' (Link.cast (by kernel_rfl) (by kernel_rfl) (impl_stepsToRoot_n7_l x1593 x1594)) (by unfold impl_stepsToRoot; kernel_rfl) (by
  intro t
  exact ret_mk [dI t.1, dB t.2] (by kernel_rfl) (by kernel_rfl) (by kernel_rfl) (by kernel_rfl)) h

def F_impl_stepsToRoot : Fun := fun avs H =>
  match avs, H with
  | [.dat (.list (.int .i64)) x1593, .dat (.int .i64) x1594], [] => ⟨_, impl_stepsToRoot x1593 x1594, fun (t : Int × Bool) => (.tup [dI t.1, dB t.2], []), [], none⟩
  | _, _ => Ans.no

theorem impl_stepsToRoot_sound : Sound Tryd.prog 32 F_impl_stepsToRoot := by
  refine fn_sound' (C := impl_stepsToRoot_ctx) (c := bodyOf Tryd.f32) (cok_of tys_ok (allc impl_walker_up_sound alln) (allc Tryd.call45 alln) (by kernel_rfl)) Tryd.func32 (by kernel_rfl) LL impl_stepsToRoot_an ?_
  intro avs H r H' h
  unfold F_impl_stepsToRoot at h
  split at h
  · refine Awp.cast ?_ ?_ ?_ (impl_stepsToRoot_e _ _ h) <;> kernel_rfl
  · simp [Ans.no, Ans.run] at h


/-! loop.example/headtrees/impl.TreeOk -/

def impl_TreeOk_an : Ann := (.seq (.leaf [0]) (.seq (.seq (.leaf [0, 18]) (.cond (.seq (.leaf [2]) (.leaf [2])) (.leaf [0]))) (.seq (.seq (.leaf [0, 20, 21]) (.block (.loop (.seq (.leaf [0, 20, 21, 22]) (.seq (.cond (.leaf [0, 20, 21]) (.leaf [])) (.seq (.block (.seq (.leaf [0, 3, 20, 21]) (.seq (.leaf [0, 5, 20, 21]) (.seq (.leaf [0, 20, 21, 32]) (.cond (.seq (.leaf [2]) (.leaf [2])) (.leaf [0, 20, 21])))))) (.leaf [0, 20, 21]))))))) (.seq (.leaf [2]) (.leaf [2])))))

noncomputable def impl_TreeOk_ctx : Ctx := ⟨tlook tys, olook [(31, F_impl_oneRoot), (32, F_impl_stepsToRoot)], ioF, 0, false, []⟩

theorem impl_TreeOk_n1_l (x1534 : List Int) : Link impl_TreeOk_ctx LL (Code.seq (cq [0] (bodyOf Tryd.f18)) (cq [0,1] (bodyOf Tryd.f18))) (Ann.seq (aq [0] impl_TreeOk_an) (aq [0,1] impl_TreeOk_an)) ⟨mkE 34 0 [(0, dL x1534)], []⟩ (impl_TreeOk_n1 x1534) (Sum.elim (fun (t : Unit) => (Exit.normal, ⟨mkE 34 0 [(0, dL x1534)], []⟩)) (fun (t : Bool) => (Exit.ret, ⟨mkE 34 0 [(2, dB t)], []⟩))) := .of fun K h => by
  simp only [impl_TreeOk_n1, wpW] at h
  exact .of (by kernel_rfl) h

theorem impl_TreeOk_n2_l (x1534 : List Int) : Link impl_TreeOk_ctx LL (cq [0,0,1,1] (bodyOf Tryd.f18)) (aq [0,0,1,1] impl_TreeOk_an) ⟨mkE 34 0 [(0, dL x1534)], []⟩ (impl_TreeOk_n2 x1534) (fun (t : Int) => (Exit.normal, ⟨mkE 34 0 [(0, dL x1534), (20, dI t), (21, dI 0)], []⟩)) := .of fun K h => by
  simp only [impl_TreeOk_n2, wpW] at h
  exact .of (by kernel_rfl) h

theorem impl_TreeOk_n3_l (x1534 : List Int) (x1588 : Int) (x1656 : Int) : Link impl_TreeOk_ctx LL (cq [0,0,1,0,1,1] (bodyOf Tryd.f18)) (aq [0,0,1,0,1,1] impl_TreeOk_an) ⟨mkE 34 0 [(0, dL x1534), (20, dI x1588), (21, dI x1656)], []⟩ (impl_TreeOk_n3 x1534 x1588 x1656) (Sum.elim (fun (t : Int) => (Exit.normal, ⟨mkE 34 0 [(0, dL x1534), (20, dI x1588), (21, dI t)], []⟩)) (Sum.elim (fun (t : Bool) => (Exit.ret, ⟨mkE 34 0 [(2, dB t)], []⟩)) (fun (t : Unit) => ((Exit.exit 0), ⟨mkE 34 0 [], []⟩)))) := .of fun K h => by
  simp only [impl_TreeOk_n3, wpW] at h
  exact .of (by kernel_rfl) h

def impl_TreeOk_n4_l (x1534 : List Int) (x1588 : Int) := (link_loop (mk := fun (s : Int) => ⟨mkE 34 0 [(0, dL x1534), (20, dI x1588), (21, dI s)], []⟩) (fin := (Sum.elim (fun (t : Bool) => (Exit.ret, ⟨mkE 34 0 [(2, dB t)], []⟩)) (fun (t : Unit) => ((Exit.exit 0), ⟨mkE 34 0 [], []⟩)))) (by
  rintro (t | t) f K h
  · exact h
  · exact h) (fun s => link_map (impl_TreeOk_n3_l x1534 x1588 s) (Sum.elim (fun (t : Int) => Sum.inl t) (Sum.elim (fun (t : Bool) => Sum.inr (Sum.inl t)) (fun (t : Unit) => Sum.inr (Sum.inr t)))) (by
  rintro (t | t | t)
  · kernel_rfl
  · kernel_rfl
  · kernel_rfl)) 0)

def impl_TreeOk_n5_l (x1534 : List Int) (x1588 : Int) := (link_block (fin2 := (Sum.elim (fun (t : Unit) => (Exit.normal, ⟨mkE 34 0 [], []⟩)) (fun (t : Bool) => (Exit.ret, ⟨mkE 34 0 [(2, dB t)], []⟩)))) (id := 0) (impl_TreeOk_n4_l x1534 x1588) (Sum.elim (fun (t : Bool) => (Sum.inr t)) (fun (t : Unit) => (Sum.inl ()))) (by
  rintro (t | t) K h
  · exact Eq.mp (by kernel_rfl) h
  · exact Eq.mp (by kernel_rfl) h))

def impl_TreeOk_n6_l (x1534 : List Int) := (link_seq (impl_TreeOk_n2_l x1534) (fun (t : Int) => (impl_TreeOk_n5_l x1534 t)))

theorem impl_TreeOk_n7_l : Link impl_TreeOk_ctx LL (cq [1,1,1] (bodyOf Tryd.f18)) (aq [1,1,1] impl_TreeOk_an) ⟨mkE 34 0 [], []⟩ (impl_TreeOk_n7) (fun (t : Bool) => (Exit.ret, ⟨mkE 34 0 [(2, dB t)], []⟩)) := .of fun K h => by
  simp only [impl_TreeOk_n7, wpW] at h
  exact .of (by kernel_rfl) h

def impl_TreeOk_n8_l (x1534 : List Int) := (link_seq2 (impl_TreeOk_n6_l x1534) (fun (t : Unit) => (impl_TreeOk_n7_l)) (fun (t : Bool) => t) (by
  rintro t
  · kernel_rfl) (by
  rintro t f K h
  · exact h))

def impl_TreeOk_n9_l (x1534 : List Int) := (link_group (c := (cq [0,1] (bodyOf Tryd.f18))) (a := (aq [0,1] impl_TreeOk_an)) [(cq [0] (bodyOf Tryd.f18))] [(aq [0] impl_TreeOk_an)] rfl (link_seq2 (impl_TreeOk_n1_l x1534) (fun (t : Unit) => (impl_TreeOk_n8_l x1534)) (fun (t : Bool) => t) (by
  rintro t
  · kernel_rfl) (by
  rintro t f K h
  · exact h)))

theorem impl_TreeOk_e (x1534 : List Int) {r : AV} {H' : Heap} (h : (Ans.mk _ (impl_TreeOk x1534) (fun (t : Bool) => (dB t, [])) [] none).run = some (r, H')) : Awp impl_TreeOk_ctx LL (bodyOf Tryd.f18) impl_TreeOk_an ⟨mkE 34 0 [(0, dL x1534)], []⟩ (Ret (tlook tys) Tryd.f18.results.toList r H') :=
  ret_of' (Link.cast (by kernel_rfl) (by kernel_rfl) (impl_TreeOk_n9_l x1534)) (by unfold impl_TreeOk; kernel_rfl) (by
  intro t
  exact ret_mk [dB t] (by kernel_rfl) (by kernel_rfl) (by kernel_rfl) (by kernel_rfl)) h

def F_impl_TreeOk : Fun := fun avs H =>
  match avs, H with
  | [.dat (.list (.int .i64)) x1534], [] => ⟨_, impl_TreeOk x1534, fun (t : Bool) => (dB t, []), [], none⟩
  | _, _ => Ans.no

theorem impl_TreeOk_sound : Sound Tryd.prog 18 F_impl_TreeOk := by
  refine fn_sound' (C := impl_TreeOk_ctx) (c := bodyOf Tryd.f18) (cok_of tys_ok (allc impl_oneRoot_sound (allc impl_stepsToRoot_sound alln)) (allc Tryd.call31 (allc Tryd.call32 alln)) (by kernel_rfl)) Tryd.func18 (by kernel_rfl) LL impl_TreeOk_an ?_
  intro avs H r H' h
  unfold F_impl_TreeOk at h
  split at h
  · refine Awp.cast ?_ ?_ ?_ (impl_TreeOk_e _ h) <;> kernel_rfl
  · simp [Ans.no, Ans.run] at h


/-! loop.example/headtrees/impl.arcBetween -/

def impl_arcBetween_an : Ann := (.seq (.leaf [0, 1, 4]) (.seq (.seq (.leaf [0, 1, 4, 16]) (.cond (.seq (.leaf [4, 5]) (.leaf [4, 5])) (.leaf [0, 1, 4]))) (.seq (.leaf [4, 5]) (.leaf [4, 5]))))

noncomputable def impl_arcBetween_ctx : Ctx := ⟨tlook tys, olook [], ioF, 0, false, []⟩

theorem impl_arcBetween_n1_l (x1688 : Int) (x1689 : Int) : Link impl_arcBetween_ctx LL (bodyOf Tryd.f33) impl_arcBetween_an ⟨mkE 25 0 [(0, dI x1688), (1, dI x1689)], []⟩ (impl_arcBetween_n1 x1688 x1689) (fun (t : Bool × Int × Int) => (Exit.ret, ⟨mkE 25 0 [(4, .ptr 0 0), (5, dB t.1)], [some (.box [dI t.2.1, dI t.2.2])]⟩)) := .of fun K h => by
  simp only [impl_arcBetween_n1, wpW] at h
  exact .of (by kernel_rfl) h

theorem impl_arcBetween_e (x1688 : Int) (x1689 : Int) {r : AV} {H' : Heap} (h : (Ans.mk _ (impl_arcBetween x1688 x1689) (fun (t : Bool × Int × Int) => (.tup [.agg [dI t.2.1, dI t.2.2], dB t.1], [some (.box [dI t.2.1, dI t.2.2])])) [] none).run = some (r, H')) : Awp impl_arcBetween_ctx LL (bodyOf Tryd.f33) impl_arcBetween_an ⟨mkE 25 0 [(0, dI x1688), (1, dI x1689)], []⟩ (Ret (tlook tys) Tryd.f33.results.toList r H') :=
  ret_of' (impl_arcBetween_n1_l x1688 x1689) (by unfold impl_arcBetween; kernel_rfl) (by
  intro t
  exact ret_mk [.agg [dI t.2.1, dI t.2.2], dB t.1] (by kernel_rfl) (by kernel_rfl) (by kernel_rfl) (by kernel_rfl)) h

def F_impl_arcBetween : Fun := fun avs H =>
  match avs, H with
  | [.dat (.int .i64) x1688, .dat (.int .i64) x1689], [] => ⟨_, impl_arcBetween x1688 x1689, fun (t : Bool × Int × Int) => (.tup [.agg [dI t.2.1, dI t.2.2], dB t.1], [some (.box [dI t.2.1, dI t.2.2])]), [], none⟩
  | _, _ => Ans.no

theorem impl_arcBetween_sound : Sound Tryd.prog 33 F_impl_arcBetween := by
  refine fn_sound' (C := impl_arcBetween_ctx) (c := bodyOf Tryd.f33) (cok_of tys_ok (alln) (alln) (by kernel_rfl)) Tryd.func33 (by kernel_rfl) LL impl_arcBetween_an ?_
  intro avs H r H' h
  unfold F_impl_arcBetween at h
  split at h
  · refine Awp.cast ?_ ?_ ?_ (impl_arcBetween_e _ _ h) <;> kernel_rfl
  · simp [Ans.no, Ans.run] at h


/-! loop.example/headtrees/impl.arcsOf -/

def impl_arcsOf_an : Ann := (.seq (.leaf [0]) (.seq (.leaf [0, 3]) (.seq (.seq (.leaf [3, 11, 12, 13]) (.block (.loop (.seq (.leaf [3, 11, 12, 13, 14]) (.seq (.cond (.leaf [3, 11, 12, 13]) (.leaf [3])) (.seq (.block (.seq (.leaf [3, 4, 5, 11, 12, 13]) (.seq (.leaf [3, 6, 7, 11, 12, 13]) (.seq (.leaf [3, 6, 11, 12, 13, 25]) (.cond (.leaf [3, 11, 12, 13]) (.leaf [3, 11, 12, 13])))))) (.leaf [3, 11, 12, 13]))))))) (.seq (.leaf [2]) (.leaf [2])))))

noncomputable def impl_arcsOf_ctx : Ctx := ⟨tlook tys, olook [(33, F_impl_arcBetween)], ioF, 0, false, []⟩

theorem impl_arcsOf_n1_l (x1677 : List Int) : Link impl_arcsOf_ctx LL (Code.seq (cq [0] (bodyOf Tryd.f20)) (cq [0,1] (bodyOf Tryd.f20))) (Ann.seq (aq [0] impl_arcsOf_an) (aq [0,1] impl_arcsOf_an)) ⟨mkE 32 0 [(0, dL x1677)], []⟩ (impl_arcsOf_n1 x1677) (fun (t : (List (Int × Int × Unit))) => (Exit.normal, ⟨mkE 32 0 [(0, dL x1677), (3, .slc 0)], [some (.seq (.pair (.int .i64) (.pair (.int .i64) .unit)) t)]⟩)) := .of fun K h => by
  simp only [impl_arcsOf_n1, wpW] at h
  exact .of (by kernel_rfl) h

theorem impl_arcsOf_n2_l (x1677 : List Int) (x1681 : List (Int × Int × Unit)) : Link impl_arcsOf_ctx LL (cq [0,0,1,1] (bodyOf Tryd.f20)) (aq [0,0,1,1] impl_arcsOf_an) ⟨mkE 32 0 [(0, dL x1677), (3, .slc 0)], [some (.seq (.pair (.int .i64) (.pair (.int .i64) .unit)) x1681)]⟩ (impl_arcsOf_n2 x1677) (fun (t : Int) => (Exit.normal, ⟨mkE 32 0 [(3, .slc 0), (11, dL x1677), (12, dI t), (13, dI 0)], [some (.seq (.pair (.int .i64) (.pair (.int .i64) .unit)) x1681)]⟩)) := .of fun K h => by
  simp only [impl_arcsOf_n2, wpW] at h
  exact .of (by kernel_rfl) h

theorem impl_arcsOf_n3_l (x1677 : List Int) (x1682 : Int) (x1734 : Int) (x1735 : List (Int × Int × Unit)) : Link impl_arcsOf_ctx LL (cq [0,0,1,0,1,1] (bodyOf Tryd.f20)) (aq [0,0,1,0,1,1] impl_arcsOf_an) ⟨mkE 32 0 [(3, .slc 0), (11, dL x1677), (12, dI x1682), (13, dI x1734)], [some (.seq (.pair (.int .i64) (.pair (.int .i64) .unit)) x1735)]⟩ (impl_arcsOf_n3 x1677 x1682 x1734 x1735) (Sum.elim (fun (t : Int × (List (Int × Int × Unit))) => (Exit.normal, ⟨mkE 32 0 [(3, .slc 0), (11, dL x1677), (12, dI x1682), (13, dI t.1)], [some (.seq (.pair (.int .i64) (.pair (.int .i64) .unit)) t.2)]⟩)) (fun (t : (List (Int × Int × Unit))) => ((Exit.exit 0), ⟨mkE 32 0 [(3, .slc 0)], [some (.seq (.pair (.int .i64) (.pair (.int .i64) .unit)) t)]⟩))) := .of fun K h => by
  simp only [impl_arcsOf_n3, wpW] at h
  exact .of (by kernel_rfl) h

def impl_arcsOf_n4_l (x1677 : List Int) (x1682 : Int) (x1681 : List (Int × Int × Unit)) := (link_loop (mk := fun (s : Int × (List (Int × Int × Unit))) => ⟨mkE 32 0 [(3, .slc 0), (11, dL x1677), (12, dI x1682), (13, dI s.1)], [some (.seq (.pair (.int .i64) (.pair (.int .i64) .unit)) s.2)]⟩) (fin := (fun (t : (List (Int × Int × Unit))) => ((Exit.exit 0), ⟨mkE 32 0 [(3, .slc 0)], [some (.seq (.pair (.int .i64) (.pair (.int .i64) .unit)) t)]⟩))) (by
  rintro t f K h
  · exact h) (fun s => link_map (impl_arcsOf_n3_l x1677 x1682 s.1 s.2) (Sum.elim (fun (t : Int × (List (Int × Int × Unit))) => Sum.inl (t.1, t.2)) (fun (t : (List (Int × Int × Unit))) => Sum.inr t)) (by
  rintro (t | t)
  · kernel_rfl
  · kernel_rfl)) (0, x1681))

def impl_arcsOf_n5_l (x1677 : List Int) (x1682 : Int) (x1681 : List (Int × Int × Unit)) := (link_block (fin2 := (fun (t : (List (Int × Int × Unit))) => (Exit.normal, ⟨mkE 32 0 [(3, .slc 0)], [some (.seq (.pair (.int .i64) (.pair (.int .i64) .unit)) t)]⟩))) (id := 0) (impl_arcsOf_n4_l x1677 x1682 x1681) (fun (t : (List (Int × Int × Unit))) => t) (by
  rintro t K h
  · exact Eq.mp (by kernel_rfl) h))

def impl_arcsOf_n6_l (x1677 : List Int) (x1681 : List (Int × Int × Unit)) := (link_seq (impl_arcsOf_n2_l x1677 x1681) (fun (t : Int) => (impl_arcsOf_n5_l x1677 t x1681)))

theorem impl_arcsOf_n7_l (x1735 : List (Int × Int × Unit)) : Link impl_arcsOf_ctx LL (cq [1,1,1] (bodyOf Tryd.f20)) (aq [1,1,1] impl_arcsOf_an) ⟨mkE 32 0 [(3, .slc 0)], [some (.seq (.pair (.int .i64) (.pair (.int .i64) .unit)) x1735)]⟩ (impl_arcsOf_n7 x1735) (fun (t : (List (Int × Int × Unit))) => (Exit.ret, ⟨mkE 32 0 [(2, .slc 0)], [some (.seq (.pair (.int .i64) (.pair (.int .i64) .unit)) t)]⟩)) := .of fun K h => by
  simp only [impl_arcsOf_n7, wpW] at h
  exact .of (by kernel_rfl) h

def impl_arcsOf_n8_l (x1677 : List Int) (x1681 : List (Int × Int × Unit)) := (link_seq (impl_arcsOf_n6_l x1677 x1681) (fun (t : (List (Int × Int × Unit))) => (impl_arcsOf_n7_l t)))

def impl_arcsOf_n9_l (x1677 : List Int) := (link_group (c := (cq [0,1] (bodyOf Tryd.f20))) (a := (aq [0,1] impl_arcsOf_an)) [(cq [0] (bodyOf Tryd.f20))] [(aq [0] impl_arcsOf_an)] rfl (link_seq (impl_arcsOf_n1_l x1677) (fun (t : (List (Int × Int × Unit))) => (impl_arcsOf_n8_l x1677 t))))

theorem impl_arcsOf_e (x1677 : List Int) {r : AV} {H' : Heap} (h : (Ans.mk _ (impl_arcsOf x1677) (fun (t : (List (Int × Int × Unit))) => (.slc 0, [some (.seq (.pair (.int .i64) (.pair (.int .i64) .unit)) t)])) [] none).run = some (r, H')) : Awp impl_arcsOf_ctx LL (bodyOf Tryd.f20) impl_arcsOf_an ⟨mkE 32 0 [(0, dL x1677)], []⟩ (Ret (tlook tys) Tryd.f20.results.toList r H') :=
  ret_of' (Link.cast (by kernel_rfl) (by kernel_rfl) (impl_arcsOf_n9_l x1677)) (by unfold impl_arcsOf; kernel_rfl) (by
  intro t
  exact ret_mk [.slc 0] (by kernel_rfl) (by kernel_rfl) (by kernel_rfl) (by kernel_rfl)) h

def F_impl_arcsOf : Fun := fun avs H =>
  match avs, H with
  | [.dat (.list (.int .i64)) x1677], [] => ⟨_, impl_arcsOf x1677, fun (t : (List (Int × Int × Unit))) => (.slc 0, [some (.seq (.pair (.int .i64) (.pair (.int .i64) .unit)) t)]), [], none⟩
  | _, _ => Ans.no

theorem impl_arcsOf_sound : Sound Tryd.prog 20 F_impl_arcsOf := by
  refine fn_sound' (C := impl_arcsOf_ctx) (c := bodyOf Tryd.f20) (cok_of tys_ok (allc impl_arcBetween_sound alln) (allc Tryd.call33 alln) (by kernel_rfl)) Tryd.func20 (by kernel_rfl) LL impl_arcsOf_an ?_
  intro avs H r H' h
  unfold F_impl_arcsOf at h
  split at h
  · refine Awp.cast ?_ ?_ ?_ (impl_arcsOf_e _ h) <;> kernel_rfl
  · simp [Ans.no, Ans.run] at h


/-! loop.example/headtrees/impl.countEnds -/

def impl_countEnds_an : Ann := (.seq (.leaf [0, 2]) (.seq (.leaf [0, 2, 3]) (.seq (.seq (.leaf [2, 3, 6, 7, 8]) (.block (.loop (.seq (.leaf [2, 3, 6, 7, 8, 9]) (.seq (.cond (.leaf [2, 3, 6, 7, 8]) (.leaf [2, 3])) (.seq (.block (.seq (.leaf [2, 3, 5, 6, 7, 8]) (.seq (.leaf [2, 3, 5, 6, 7, 8]) (.leaf [2, 3, 6, 7, 8])))) (.leaf [2, 3, 6, 7, 8]))))))) (.seq (.leaf [2]) (.leaf [2])))))

noncomputable def impl_countEnds_ctx : Ctx := ⟨tlook tys, olook [], ioF, 0, false, []⟩

theorem impl_countEnds_n1_l (x1769 : List (Int × Int × Unit)) : Link impl_countEnds_ctx LL (Code.seq (cq [0] (bodyOf Tryd.f29)) (cq [0,1] (bodyOf Tryd.f29))) (Ann.seq (aq [0] impl_countEnds_an) (aq [0,1] impl_countEnds_an)) ⟨mkE 26 0 [(0, .dat (.list (.pair (.int .i64) (.pair (.int .i64) .unit))) x1769)], []⟩ (impl_countEnds_n1) (fun (t : Unit) => (Exit.normal, ⟨mkE 26 0 [(0, .dat (.list (.pair (.int .i64) (.pair (.int .i64) .unit))) x1769), (2, .ptr 0 0), (3, .ptr 1 0)], [some (sI (List.replicate 9 (0 : Int))), some (sI (List.replicate 9 (0 : Int)))]⟩)) := .of fun K h => by
  simp only [impl_countEnds_n1, wpW] at h
  exact .of (by kernel_rfl) h

theorem impl_countEnds_n2_l (x1769 : List (Int × Int × Unit)) : Link impl_countEnds_ctx LL (cq [0,0,1,1] (bodyOf Tryd.f29)) (aq [0,0,1,1] impl_countEnds_an) ⟨mkE 26 0 [(0, .dat (.list (.pair (.int .i64) (.pair (.int .i64) .unit))) x1769), (2, .ptr 0 0), (3, .ptr 1 0)], [some (sI (List.replicate 9 (0 : Int))), some (sI (List.replicate 9 (0 : Int)))]⟩ (impl_countEnds_n2 x1769) (fun (t : Int) => (Exit.normal, ⟨mkE 26 0 [(2, .ptr 0 0), (3, .ptr 1 0), (6, .dat (.list (.pair (.int .i64) (.pair (.int .i64) .unit))) x1769), (7, dI t), (8, dI 0)], [some (sI (List.replicate 9 (0 : Int))), some (sI (List.replicate 9 (0 : Int)))]⟩)) := .of fun K h => by
  simp only [impl_countEnds_n2, wpW] at h
  exact .of (by kernel_rfl) h

theorem impl_countEnds_n3_l (x1769 : List (Int × Int × Unit)) (x1771 : Int) (x1815 : Int) (x1816 : List Int) : Link impl_countEnds_ctx LL (cq [0,0,1,0,1,1] (bodyOf Tryd.f29)) (aq [0,0,1,0,1,1] impl_countEnds_an) ⟨mkE 26 0 [(2, .ptr 0 0), (3, .ptr 1 0), (6, .dat (.list (.pair (.int .i64) (.pair (.int .i64) .unit))) x1769), (7, dI x1771), (8, dI x1815)], [some (sI (List.replicate 9 (0 : Int))), some (sI x1816)]⟩ (impl_countEnds_n3 x1769 x1771 x1815 x1816) (Sum.elim (fun (t : Int × (List Int)) => (Exit.normal, ⟨mkE 26 0 [(2, .ptr 0 0), (3, .ptr 1 0), (6, .dat (.list (.pair (.int .i64) (.pair (.int .i64) .unit))) x1769), (7, dI x1771), (8, dI t.1)], [some (sI (List.replicate 9 (0 : Int))), some (sI t.2)]⟩)) (fun (t : (List Int)) => ((Exit.exit 0), ⟨mkE 26 0 [(2, .ptr 0 0), (3, .ptr 1 0)], [some (sI (List.replicate 9 (0 : Int))), some (sI t)]⟩))) := .of fun K h => by
  simp only [impl_countEnds_n3, wpW] at h
  exact .of (by kernel_rfl) h

def impl_countEnds_n4_l (x1769 : List (Int × Int × Unit)) (x1771 : Int) := (link_loop (mk := fun (s : Int × (List Int)) => ⟨mkE 26 0 [(2, .ptr 0 0), (3, .ptr 1 0), (6, .dat (.list (.pair (.int .i64) (.pair (.int .i64) .unit))) x1769), (7, dI x1771), (8, dI s.1)], [some (sI (List.replicate 9 (0 : Int))), some (sI s.2)]⟩) (fin := (fun (t : (List Int)) => ((Exit.exit 0), ⟨mkE 26 0 [(2, .ptr 0 0), (3, .ptr 1 0)], [some (sI (List.replicate 9 (0 : Int))), some (sI t)]⟩))) (by
  rintro t f K h
  · exact h) (fun s => link_map (impl_countEnds_n3_l x1769 x1771 s.1 s.2) (Sum.elim (fun (t : Int × (List Int)) => Sum.inl (t.1, t.2)) (fun (t : (List Int)) => Sum.inr t)) (by
  rintro (t | t)
  · kernel_rfl
  · kernel_rfl)) (0, (List.replicate 9 (0 : Int))))

def impl_countEnds_n5_l (x1769 : List (Int × Int × Unit)) (x1771 : Int) := (link_block (fin2 := (fun (t : (List Int)) => (Exit.normal, ⟨mkE 26 0 [(2, .ptr 0 0), (3, .ptr 1 0)], [some (sI (List.replicate 9 (0 : Int))), some (sI t)]⟩))) (id := 0) (impl_countEnds_n4_l x1769 x1771) (fun (t : (List Int)) => t) (by
  rintro t K h
  · exact Eq.mp (by kernel_rfl) h))

def impl_countEnds_n6_l (x1769 : List (Int × Int × Unit)) := (link_seq (impl_countEnds_n2_l x1769) (fun (t : Int) => (impl_countEnds_n5_l x1769 t)))

theorem impl_countEnds_n7_l (x1816 : List Int) : Link impl_countEnds_ctx LL (cq [1,1,1] (bodyOf Tryd.f29)) (aq [1,1,1] impl_countEnds_an) ⟨mkE 26 0 [(2, .ptr 0 0), (3, .ptr 1 0)], [some (sI (List.replicate 9 (0 : Int))), some (sI x1816)]⟩ (impl_countEnds_n7 x1816) (fun (t : Int × Int × Int × Int × Int × Int × Int × Int × Int) => (Exit.ret, ⟨mkE 26 0 [(2, .ptr 0 0)], [some (sI ([t.1, t.2.1, t.2.2.1, t.2.2.2.1, t.2.2.2.2.1, t.2.2.2.2.2.1, t.2.2.2.2.2.2.1, t.2.2.2.2.2.2.2.1, t.2.2.2.2.2.2.2.2]))]⟩)) := .of fun K h => by
  simp only [impl_countEnds_n7, wpW] at h
  exact .of (by kernel_rfl) h

def impl_countEnds_n8_l (x1769 : List (Int × Int × Unit)) := (link_seq (impl_countEnds_n6_l x1769) (fun (t : (List Int)) => (impl_countEnds_n7_l t)))

def impl_countEnds_n9_l (x1769 : List (Int × Int × Unit)) := (link_group (c := (cq [0,1] (bodyOf Tryd.f29))) (a := (aq [0,1] impl_countEnds_an)) [(cq [0] (bodyOf Tryd.f29))] [(aq [0] impl_countEnds_an)] rfl (link_seq (impl_countEnds_n1_l x1769) (fun (t : Unit) => (impl_countEnds_n8_l x1769))))

theorem impl_countEnds_e (x1769 : List (Int × Int × Unit)) {r : AV} {H' : Heap} (h : (Ans.mk _ (impl_countEnds x1769) (fun (t : Int × Int × Int × Int × Int × Int × Int × Int × Int) => (.agg [dI t.1, dI t.2.1, dI t.2.2.1, dI t.2.2.2.1, dI t.2.2.2.2.1, dI t.2.2.2.2.2.1, dI t.2.2.2.2.2.2.1, dI t.2.2.2.2.2.2.2.1, dI t.2.2.2.2.2.2.2.2], [some (sI ([t.1, t.2.1, t.2.2.1, t.2.2.2.1, t.2.2.2.2.1, t.2.2.2.2.2.1, t.2.2.2.2.2.2.1, t.2.2.2.2.2.2.2.1, t.2.2.2.2.2.2.2.2]))])) [] none).run = some (r, H')) : Awp impl_countEnds_ctx LL (bodyOf Tryd.f29) impl_countEnds_an ⟨mkE 26 0 [(0, .dat (.list (.pair (.int .i64) (.pair (.int .i64) .unit))) x1769)], []⟩ (Ret (tlook tys) Tryd.f29.results.toList r H') :=
  ret_of' (Link.cast (by kernel_rfl) (by kernel_rfl) (impl_countEnds_n9_l x1769)) (by unfold impl_countEnds; kernel_rfl) (by
  intro t
  exact ret_mk [.agg [dI t.1, dI t.2.1, dI t.2.2.1, dI t.2.2.2.1, dI t.2.2.2.2.1, dI t.2.2.2.2.2.1, dI t.2.2.2.2.2.2.1, dI t.2.2.2.2.2.2.2.1, dI t.2.2.2.2.2.2.2.2]] (by kernel_rfl) (by kernel_rfl) (by kernel_rfl) (by kernel_rfl)) h

def F_impl_countEnds : Fun := fun avs H =>
  match avs, H with
  | [.dat (.list (.pair (.int .i64) (.pair (.int .i64) .unit))) x1769], [] => ⟨_, impl_countEnds x1769, fun (t : Int × Int × Int × Int × Int × Int × Int × Int × Int) => (.agg [dI t.1, dI t.2.1, dI t.2.2.1, dI t.2.2.2.1, dI t.2.2.2.2.1, dI t.2.2.2.2.2.1, dI t.2.2.2.2.2.2.1, dI t.2.2.2.2.2.2.2.1, dI t.2.2.2.2.2.2.2.2], [some (sI ([t.1, t.2.1, t.2.2.1, t.2.2.2.1, t.2.2.2.2.1, t.2.2.2.2.2.1, t.2.2.2.2.2.2.1, t.2.2.2.2.2.2.2.1, t.2.2.2.2.2.2.2.2]))]), [], none⟩
  | _, _ => Ans.no

theorem impl_countEnds_sound : Sound Tryd.prog 29 F_impl_countEnds := by
  refine fn_sound' (C := impl_countEnds_ctx) (c := bodyOf Tryd.f29) (cok_of tys_ok (alln) (alln) (by kernel_rfl)) Tryd.func29 (by kernel_rfl) LL impl_countEnds_an ?_
  intro avs H r H' h
  unfold F_impl_countEnds at h
  split at h
  · refine Awp.cast ?_ ?_ ?_ (impl_countEnds_e _ h) <;> kernel_rfl
  · simp [Ans.no, Ans.run] at h


/-! slices.Clone[[]int,int] -/

def slices_Clone_int_int_an : Ann := (.seq (.leaf [0]) (.seq (.seq (.leaf [0, 4]) (.cond (.seq (.leaf [2]) (.leaf [2])) (.leaf [0]))) (.seq (.leaf [2]) (.leaf [2]))))

noncomputable def slices_Clone_int_int_ctx : Ctx := ⟨tlook tys, olook [], ioF, 0, false, []⟩

theorem slices_Clone_int_int_n1_l (x1949 : List Int) : Link slices_Clone_int_int_ctx LL (bodyOf Tryd.f30) slices_Clone_int_int_an ⟨mkE 8 0 [(0, dL x1949)], []⟩ (slices_Clone_int_int_n1 x1949) (fun (t : (List Int)) => (Exit.ret, ⟨mkE 8 0 [(2, .slc 0)], [some (sI t)]⟩)) := .of fun K h => by
  simp only [slices_Clone_int_int_n1, wpW] at h
  exact .of (by kernel_rfl) h

theorem slices_Clone_int_int_e (x1949 : List Int) {r : AV} {H' : Heap} (h : (Ans.mk _ (slices_Clone_int_int x1949) (fun (t : (List Int)) => (.slc 0, [some (sI t)])) [] none).run = some (r, H')) : Awp slices_Clone_int_int_ctx LL (bodyOf Tryd.f30) slices_Clone_int_int_an ⟨mkE 8 0 [(0, dL x1949)], []⟩ (Ret (tlook tys) Tryd.f30.results.toList r H') :=
  ret_of' (slices_Clone_int_int_n1_l x1949) (by unfold slices_Clone_int_int; kernel_rfl) (by
  intro t
  exact ret_mk [.slc 0] (by kernel_rfl) (by kernel_rfl) (by kernel_rfl) (by kernel_rfl)) h

def F_slices_Clone_int_int : Fun := fun avs H =>
  match avs, H with
  | [.dat (.list (.int .i64)) x1949], [] => ⟨_, slices_Clone_int_int x1949, fun (t : (List Int)) => (.slc 0, [some (sI t)]), [], none⟩
  | _, _ => Ans.no

theorem slices_Clone_int_int_sound : Sound Tryd.prog 30 F_slices_Clone_int_int := by
  refine fn_sound' (C := slices_Clone_int_int_ctx) (c := bodyOf Tryd.f30) (cok_of tys_ok (alln) (alln) (by kernel_rfl)) Tryd.func30 (by kernel_rfl) LL slices_Clone_int_int_an ?_
  intro avs H r H' h
  unfold F_slices_Clone_int_int at h
  split at h
  · refine Awp.cast ?_ ?_ ?_ (slices_Clone_int_int_e _ h) <;> kernel_rfl
  · simp [Ans.no, Ans.run] at h


/-! loop.example/headtrees/impl.EndsOf -/

def impl_EndsOf_an : Ann := (.seq (.leaf [0]) (.seq (.seq (.leaf [0, 6]) (.cond (.seq (.leaf [2]) (.leaf [2])) (.leaf [0]))) (.seq (.leaf [0, 3]) (.seq (.leafF [⟨3, 3, false, none, none⟩] [2]) (.leaf [2])))))

noncomputable def impl_EndsOf_ctx : Ctx := ⟨tlook tys, olook [(18, F_impl_TreeOk), (20, F_impl_arcsOf), (29, F_impl_countEnds), (30, F_slices_Clone_int_int)], ioF, 0, false, []⟩

theorem impl_EndsOf_n1_l (x1533 : List Int) : Link impl_EndsOf_ctx LL (bodyOf Tryd.f15) impl_EndsOf_an ⟨mkE 15 0 [(0, dL x1533)], []⟩ (impl_EndsOf_n1 x1533) (fun (t : (List Int)) => (Exit.ret, ⟨mkE 15 0 [(2, .slc 0)], [some (sI t)]⟩)) := .of fun K h => by
  simp only [impl_EndsOf_n1, wpW] at h
  exact .of (by kernel_rfl) h

theorem impl_EndsOf_e (x1533 : List Int) {r : AV} {H' : Heap} (h : (Ans.mk _ (impl_EndsOf x1533) (fun (t : (List Int)) => (.slc 0, [some (sI t)])) [] none).run = some (r, H')) : Awp impl_EndsOf_ctx LL (bodyOf Tryd.f15) impl_EndsOf_an ⟨mkE 15 0 [(0, dL x1533)], []⟩ (Ret (tlook tys) Tryd.f15.results.toList r H') :=
  ret_of' (impl_EndsOf_n1_l x1533) (by unfold impl_EndsOf; kernel_rfl) (by
  intro t
  exact ret_mk [.slc 0] (by kernel_rfl) (by kernel_rfl) (by kernel_rfl) (by kernel_rfl)) h

def F_impl_EndsOf : Fun := fun avs H =>
  match avs, H with
  | [.dat (.list (.int .i64)) x1533], [] => ⟨_, impl_EndsOf x1533, fun (t : (List Int)) => (.slc 0, [some (sI t)]), [], none⟩
  | _, _ => Ans.no

theorem impl_EndsOf_sound : Sound Tryd.prog 15 F_impl_EndsOf := by
  refine fn_sound' (C := impl_EndsOf_ctx) (c := bodyOf Tryd.f15) (cok_of tys_ok (allc impl_TreeOk_sound (allc impl_arcsOf_sound (allc impl_countEnds_sound (allc slices_Clone_int_int_sound alln)))) (allc Tryd.call18 (allc Tryd.call20 (allc Tryd.call29 (allc Tryd.call30 alln)))) (by kernel_rfl)) Tryd.func15 (by kernel_rfl) LL impl_EndsOf_an ?_
  intro avs H r H' h
  unfold F_impl_EndsOf at h
  split at h
  · refine Awp.cast ?_ ?_ ?_ (impl_EndsOf_e _ h) <;> kernel_rfl
  · simp [Ans.no, Ans.run] at h


/-! slices.Index[[]int,int] -/

def slices_Index_int_int_an : Ann := (.seq (.leaf [0, 1]) (.seq (.seq (.leaf [0, 1, 7, 8]) (.block (.loop (.seq (.leaf [0, 1, 7, 8, 9]) (.seq (.cond (.leaf [0, 1, 7, 8]) (.leaf [])) (.seq (.block (.seq (.leaf [0, 1, 5, 7, 8]) (.seq (.leaf [0, 1, 5, 7, 8, 16]) (.cond (.seq (.leaf [4]) (.leaf [4])) (.leaf [0, 1, 7, 8]))))) (.leaf [0, 1, 7, 8]))))))) (.seq (.leaf [4]) (.leaf [4]))))

noncomputable def slices_Index_int_int_ctx : Ctx := ⟨tlook tys, olook [], ioF, 0, false, []⟩

theorem slices_Index_int_int_n1_l (x1991 : List Int) (x1992 : Int) : Link slices_Index_int_int_ctx LL (cq [0] (bodyOf Tryd.f28)) (aq [0] slices_Index_int_int_an) ⟨mkE 19 0 [(0, dL x1991), (1, dI x1992)], []⟩ (slices_Index_int_int_n1) (fun (t : Unit) => (Exit.normal, ⟨mkE 19 0 [(0, dL x1991), (1, dI x1992)], []⟩)) := .of fun K h => by
  simp only [slices_Index_int_int_n1, wpW] at h
  exact .of (by kernel_rfl) h

theorem slices_Index_int_int_n2_l (x1991 : List Int) (x1992 : Int) : Link slices_Index_int_int_ctx LL (cq [0,0,1] (bodyOf Tryd.f28)) (aq [0,0,1] slices_Index_int_int_an) ⟨mkE 19 0 [(0, dL x1991), (1, dI x1992)], []⟩ (slices_Index_int_int_n2 x1991) (fun (t : Int) => (Exit.normal, ⟨mkE 19 0 [(0, dL x1991), (1, dI x1992), (7, dI t), (8, dI 0)], []⟩)) := .of fun K h => by
  simp only [slices_Index_int_int_n2, wpW] at h
  exact .of (by kernel_rfl) h

theorem slices_Index_int_int_n3_l (x1991 : List Int) (x1992 : Int) (x1993 : Int) (x2003 : Int) : Link slices_Index_int_int_ctx LL (cq [0,0,1,0,1] (bodyOf Tryd.f28)) (aq [0,0,1,0,1] slices_Index_int_int_an) ⟨mkE 19 0 [(0, dL x1991), (1, dI x1992), (7, dI x1993), (8, dI x2003)], []⟩ (slices_Index_int_int_n3 x1991 x1992 x1993 x2003) (Sum.elim (fun (t : Int) => (Exit.normal, ⟨mkE 19 0 [(0, dL x1991), (1, dI x1992), (7, dI x1993), (8, dI t)], []⟩)) (Sum.elim (fun (t : Int) => (Exit.ret, ⟨mkE 19 0 [(4, dI t)], []⟩)) (fun (t : Unit) => ((Exit.exit 0), ⟨mkE 19 0 [], []⟩)))) := .of fun K h => by
  simp only [slices_Index_int_int_n3, wpW] at h
  exact .of (by kernel_rfl) h

def slices_Index_int_int_n4_l (x1991 : List Int) (x1992 : Int) (x1993 : Int) := (link_loop (mk := fun (s : Int) => ⟨mkE 19 0 [(0, dL x1991), (1, dI x1992), (7, dI x1993), (8, dI s)], []⟩) (fin := (Sum.elim (fun (t : Int) => (Exit.ret, ⟨mkE 19 0 [(4, dI t)], []⟩)) (fun (t : Unit) => ((Exit.exit 0), ⟨mkE 19 0 [], []⟩)))) (by
  rintro (t | t) f K h
  · exact h
  · exact h) (fun s => link_map (slices_Index_int_int_n3_l x1991 x1992 x1993 s) (Sum.elim (fun (t : Int) => Sum.inl t) (Sum.elim (fun (t : Int) => Sum.inr (Sum.inl t)) (fun (t : Unit) => Sum.inr (Sum.inr t)))) (by
  rintro (t | t | t)
  · kernel_rfl
  · kernel_rfl
  · kernel_rfl)) 0)

def slices_Index_int_int_n5_l (x1991 : List Int) (x1992 : Int) (x1993 : Int) := (link_block (fin2 := (Sum.elim (fun (t : Unit) => (Exit.normal, ⟨mkE 19 0 [], []⟩)) (fun (t : Int) => (Exit.ret, ⟨mkE 19 0 [(4, dI t)], []⟩)))) (id := 0) (slices_Index_int_int_n4_l x1991 x1992 x1993) (Sum.elim (fun (t : Int) => (Sum.inr t)) (fun (t : Unit) => (Sum.inl ()))) (by
  rintro (t | t) K h
  · exact Eq.mp (by kernel_rfl) h
  · exact Eq.mp (by kernel_rfl) h))

def slices_Index_int_int_n6_l (x1991 : List Int) (x1992 : Int) := (link_seq (slices_Index_int_int_n2_l x1991 x1992) (fun (t : Int) => (slices_Index_int_int_n5_l x1991 x1992 t)))

theorem slices_Index_int_int_n7_l : Link slices_Index_int_int_ctx LL (cq [1,1] (bodyOf Tryd.f28)) (aq [1,1] slices_Index_int_int_an) ⟨mkE 19 0 [], []⟩ (slices_Index_int_int_n7) (fun (t : Int) => (Exit.ret, ⟨mkE 19 0 [(4, dI t)], []⟩)) := .of fun K h => by
  simp only [slices_Index_int_int_n7, wpW] at h
  exact .of (by kernel_rfl) h

def slices_Index_int_int_n8_l (x1991 : List Int) (x1992 : Int) := (link_seq2 (slices_Index_int_int_n6_l x1991 x1992) (fun (t : Unit) => (slices_Index_int_int_n7_l)) (fun (t : Int) => t) (by
  rintro t
  · kernel_rfl) (by
  rintro t f K h
  · exact h))

def slices_Index_int_int_n9_l (x1991 : List Int) (x1992 : Int) := (link_seq (slices_Index_int_int_n1_l x1991 x1992) (fun (t : Unit) => (slices_Index_int_int_n8_l x1991 x1992)))

theorem slices_Index_int_int_e (x1991 : List Int) (x1992 : Int) {r : AV} {H' : Heap} (h : (Ans.mk _ (slices_Index_int_int x1991 x1992) (fun (t : Int) => (dI t, [])) [] none).run = some (r, H')) : Awp slices_Index_int_int_ctx LL (bodyOf Tryd.f28) slices_Index_int_int_an ⟨mkE 19 0 [(0, dL x1991), (1, dI x1992)], []⟩ (Ret (tlook tys) Tryd.f28.results.toList r H') :=
  ret_of' (Link.cast (by kernel_rfl) (by kernel_rfl) (slices_Index_int_int_n9_l x1991 x1992)) (by unfold slices_Index_int_int; kernel_rfl) (by
  intro t
  exact ret_mk [dI t] (by kernel_rfl) (by kernel_rfl) (by kernel_rfl) (by kernel_rfl)) h

def F_slices_Index_int_int : Fun := fun avs H =>
  match avs, H with
  | [.dat (.list (.int .i64)) x1991, .dat (.int .i64) x1992], [] => ⟨_, slices_Index_int_int x1991 x1992, fun (t : Int) => (dI t, []), [], none⟩
  | _, _ => Ans.no

theorem slices_Index_int_int_sound : Sound Tryd.prog 28 F_slices_Index_int_int := by
  refine fn_sound' (C := slices_Index_int_int_ctx) (c := bodyOf Tryd.f28) (cok_of tys_ok (alln) (alln) (by kernel_rfl)) Tryd.func28 (by kernel_rfl) LL slices_Index_int_int_an ?_
  intro avs H r H' h
  unfold F_slices_Index_int_int at h
  split at h
  · refine Awp.cast ?_ ?_ ?_ (slices_Index_int_int_e _ _ h) <;> kernel_rfl
  · simp [Ans.no, Ans.run] at h


/-! slices.Contains[[]int,int] -/

def slices_Contains_int_int_an : Ann := (.seq (.leaf [0, 1]) (.seq (.leaf [4]) (.leaf [4])))

noncomputable def slices_Contains_int_int_ctx : Ctx := ⟨tlook tys, olook [(28, F_slices_Index_int_int)], ioF, 0, false, []⟩

theorem slices_Contains_int_int_n1_l (x1989 : List Int) (x1990 : Int) : Link slices_Contains_int_int_ctx LL (bodyOf Tryd.f14) slices_Contains_int_int_an ⟨mkE 9 0 [(0, dL x1989), (1, dI x1990)], []⟩ (slices_Contains_int_int_n1 x1989 x1990) (fun (t : Bool) => (Exit.ret, ⟨mkE 9 0 [(4, dB t)], []⟩)) := .of fun K h => by
  simp only [slices_Contains_int_int_n1, wpW] at h
  exact .of (by kernel_rfl) h

theorem slices_Contains_int_int_e (x1989 : List Int) (x1990 : Int) {r : AV} {H' : Heap} (h : (Ans.mk _ (slices_Contains_int_int x1989 x1990) (fun (t : Bool) => (dB t, [])) [] none).run = some (r, H')) : Awp slices_Contains_int_int_ctx LL (bodyOf Tryd.f14) slices_Contains_int_int_an ⟨mkE 9 0 [(0, dL x1989), (1, dI x1990)], []⟩ (Ret (tlook tys) Tryd.f14.results.toList r H') :=
  ret_of' (slices_Contains_int_int_n1_l x1989 x1990) (by unfold slices_Contains_int_int; kernel_rfl) (by
  intro t
  exact ret_mk [dB t] (by kernel_rfl) (by kernel_rfl) (by kernel_rfl) (by kernel_rfl)) h

def F_slices_Contains_int_int : Fun := fun avs H =>
  match avs, H with
  | [.dat (.list (.int .i64)) x1989, .dat (.int .i64) x1990], [] => ⟨_, slices_Contains_int_int x1989 x1990, fun (t : Bool) => (dB t, []), [], none⟩
  | _, _ => Ans.no

theorem slices_Contains_int_int_sound : Sound Tryd.prog 14 F_slices_Contains_int_int := by
  refine fn_sound' (C := slices_Contains_int_int_ctx) (c := bodyOf Tryd.f14) (cok_of tys_ok (allc slices_Index_int_int_sound alln) (allc Tryd.call28 alln) (by kernel_rfl)) Tryd.func14 (by kernel_rfl) LL slices_Contains_int_int_an ?_
  intro avs H r H' h
  unfold F_slices_Contains_int_int at h
  split at h
  · refine Awp.cast ?_ ?_ ?_ (slices_Contains_int_int_e _ _ h) <;> kernel_rfl
  · simp [Ans.no, Ans.run] at h


/-! loop.example/headtrees/impl.StarOk -/

def impl_StarOk_an : Ann := (.seq (.leaf [0]) (.seq (.leaf [2]) (.leaf [2])))

noncomputable def impl_StarOk_ctx : Ctx := ⟨tlook tys, olook [(15, F_impl_EndsOf), (14, F_slices_Contains_int_int)], ioF, 0, false, []⟩

theorem impl_StarOk_n1_l (x1532 : List Int) : Link impl_StarOk_ctx LL (bodyOf Tryd.f5) impl_StarOk_an ⟨mkE 9 0 [(0, dL x1532)], []⟩ (impl_StarOk_n1 x1532) (fun (t : Bool) => (Exit.ret, ⟨mkE 9 0 [(2, dB t)], []⟩)) := .of fun K h => by
  simp only [impl_StarOk_n1, wpW] at h
  exact .of (by kernel_rfl) h

theorem impl_StarOk_e (x1532 : List Int) {r : AV} {H' : Heap} (h : (Ans.mk _ (impl_StarOk x1532) (fun (t : Bool) => (dB t, [])) [] none).run = some (r, H')) : Awp impl_StarOk_ctx LL (bodyOf Tryd.f5) impl_StarOk_an ⟨mkE 9 0 [(0, dL x1532)], []⟩ (Ret (tlook tys) Tryd.f5.results.toList r H') :=
  ret_of' (impl_StarOk_n1_l x1532) (by unfold impl_StarOk; kernel_rfl) (by
  intro t
  exact ret_mk [dB t] (by kernel_rfl) (by kernel_rfl) (by kernel_rfl) (by kernel_rfl)) h

def F_impl_StarOk : Fun := fun avs H =>
  match avs, H with
  | [.dat (.list (.int .i64)) x1532], [] => ⟨_, impl_StarOk x1532, fun (t : Bool) => (dB t, []), [], none⟩
  | _, _ => Ans.no

theorem impl_StarOk_sound : Sound Tryd.prog 5 F_impl_StarOk := by
  refine fn_sound' (C := impl_StarOk_ctx) (c := bodyOf Tryd.f5) (cok_of tys_ok (allc impl_EndsOf_sound (allc slices_Contains_int_int_sound alln)) (allc Tryd.call15 (allc Tryd.call14 alln)) (by kernel_rfl)) Tryd.func5 (by kernel_rfl) LL impl_StarOk_an ?_
  intro avs H r H' h
  unfold F_impl_StarOk at h
  split at h
  · refine Awp.cast ?_ ?_ ?_ (impl_StarOk_e _ h) <;> kernel_rfl
  · simp [Ans.no, Ans.run] at h


/-! loop.example/headtrees/spec.EndsOf -/

def spec_EndsOf_an : Ann := (.seq (.leaf [0]) (.seq (.leaf [0, 3]) (.seq (.seq (.leaf [0, 3, 4]) (.block (.loop (.seq (.seq (.leaf [0, 3, 4, 15]) (.cond (.leaf [0, 3, 4]) (.leaf [3]))) (.seq (.block (.seq (.leaf [0, 3, 4, 5]) (.seq (.seq (.leaf [0, 3, 4, 5, 22]) (.cond (.leaf [0, 3, 4, 5]) (.leaf [0, 3, 4, 5]))) (.seq (.seq (.leaf [0, 3, 4, 5, 6]) (.block (.loop (.seq (.seq (.leaf [0, 3, 4, 5, 6, 26]) (.cond (.leaf [0, 3, 4, 5, 6]) (.leaf [0, 3, 4, 5]))) (.seq (.block (.seq (.leaf [0, 3, 4, 5, 6, 35]) (.cond (.leaf [0, 3, 4, 5, 6]) (.leaf [0, 3, 4, 5, 6])))) (.leaf [0, 3, 4, 5, 6])))))) (.leaf [0, 3, 4]))))) (.leaf [0, 3, 4])))))) (.seq (.leaf [2]) (.leaf [2])))))

noncomputable def spec_EndsOf_ctx : Ctx := ⟨tlook tys, olook [(7, F_spec_TreeOk)], ioF, 0, false, []⟩

theorem spec_EndsOf_n1_l (x2029 : List Int) : Link spec_EndsOf_ctx LL (Code.seq (cq [0] (bodyOf Tryd.f16)) (cq [0,1] (bodyOf Tryd.f16))) (Ann.seq (aq [0] spec_EndsOf_an) (aq [0,1] spec_EndsOf_an)) ⟨mkE 43 0 [(0, dL x2029)], []⟩ (spec_EndsOf_n1) (fun (t : Unit) => (Exit.normal, ⟨mkE 43 0 [(0, dL x2029), (3, .slc 0)], [some (sI ([] : List Int))]⟩)) := .of fun K h => by
  simp only [spec_EndsOf_n1, wpW] at h
  exact .of (by kernel_rfl) h

theorem spec_EndsOf_n2_l (x2029 : List Int) : Link spec_EndsOf_ctx LL (cq [0,0,1,1] (bodyOf Tryd.f16)) (aq [0,0,1,1] spec_EndsOf_an) ⟨mkE 43 0 [(0, dL x2029), (3, .slc 0)], [some (sI ([] : List Int))]⟩ (spec_EndsOf_n2) (fun (t : Unit) => (Exit.normal, ⟨mkE 43 0 [(0, dL x2029), (3, .slc 0), (4, dI 0)], [some (sI ([] : List Int))]⟩)) := .of fun K h => by
  simp only [spec_EndsOf_n2, wpW] at h
  exact .of (by kernel_rfl) h

theorem spec_EndsOf_n3_l (x2029 : List Int) (x2079 : Int) (x2080 : List Int) : Link spec_EndsOf_ctx LL (cq [0,0,0,1,0,1,1] (bodyOf Tryd.f16)) (aq [0,0,0,1,0,1,1] spec_EndsOf_an) ⟨mkE 43 0 [(0, dL x2029), (3, .slc 0), (4, dI x2079)], [some (sI x2080)]⟩ (spec_EndsOf_n3 x2029 x2079 x2080) (Sum.elim (fun (t : Unit) => (Exit.normal, ⟨mkE 43 0 [(0, dL x2029), (3, .slc 0), (4, dI x2079)], [some (sI x2080)]⟩)) (fun (t : (List Int)) => ((Exit.exit 0), ⟨mkE 43 0 [(3, .slc 0)], [some (sI t)]⟩))) := .of fun K h => by
  simp only [spec_EndsOf_n3, wpW] at h
  exact .of (by kernel_rfl) h

theorem spec_EndsOf_n4_l (x2029 : List Int) (x2079 : Int) (x2080 : List Int) : Link spec_EndsOf_ctx LL (Code.seq (cq [0,0,0,1,0,0,1,0,1,1] (bodyOf Tryd.f16)) (cq [0,1,0,0,1,0,0,1,0,1,1] (bodyOf Tryd.f16))) (Ann.seq (aq [0,0,0,1,0,0,1,0,1,1] spec_EndsOf_an) (aq [0,1,0,0,1,0,0,1,0,1,1] spec_EndsOf_an)) ⟨mkE 43 0 [(0, dL x2029), (3, .slc 0), (4, dI x2079)], [some (sI x2080)]⟩ (spec_EndsOf_n4 x2029 x2079) (fun (t : Int) => (Exit.normal, ⟨mkE 43 0 [(0, dL x2029), (3, .slc 0), (4, dI x2079), (5, dI t)], [some (sI x2080)]⟩)) := .of fun K h => by
  simp only [spec_EndsOf_n4, wpW] at h
  exact .of (by kernel_rfl) h

theorem spec_EndsOf_n5_l (x2029 : List Int) (x2079 : Int) (x2086 : Int) (x2080 : List Int) : Link spec_EndsOf_ctx LL (cq [0,0,1,1,0,0,1,0,0,1,0,1,1] (bodyOf Tryd.f16)) (aq [0,0,1,1,0,0,1,0,0,1,0,1,1] spec_EndsOf_an) ⟨mkE 43 0 [(0, dL x2029), (3, .slc 0), (4, dI x2079), (5, dI x2086)], [some (sI x2080)]⟩ (spec_EndsOf_n5) (fun (t : Unit) => (Exit.normal, ⟨mkE 43 0 [(0, dL x2029), (3, .slc 0), (4, dI x2079), (5, dI x2086), (6, dI 0)], [some (sI x2080)]⟩)) := .of fun K h => by
  simp only [spec_EndsOf_n5, wpW] at h
  exact .of (by kernel_rfl) h

theorem spec_EndsOf_n6_l (x2029 : List Int) (x2079 : Int) (x2105 : Int) (x2106 : Int) (x2080 : List Int) : Link spec_EndsOf_ctx LL (cq [0,0,1,0,1,1,0,0,1,0,0,1,0,1,1] (bodyOf Tryd.f16)) (aq [0,0,1,0,1,1,0,0,1,0,0,1,0,1,1] spec_EndsOf_an) ⟨mkE 43 0 [(0, dL x2029), (3, .slc 0), (4, dI x2079), (5, dI x2105), (6, dI x2106)], [some (sI x2080)]⟩ (spec_EndsOf_n6 x2029 x2079 x2105 x2106) (Sum.elim (fun (t : Int × Int) => (Exit.normal, ⟨mkE 43 0 [(0, dL x2029), (3, .slc 0), (4, dI x2079), (5, dI t.1), (6, dI t.2)], [some (sI x2080)]⟩)) (fun (t : Int) => ((Exit.exit 2), ⟨mkE 43 0 [(0, dL x2029), (3, .slc 0), (4, dI x2079), (5, dI t)], [some (sI x2080)]⟩))) := .of fun K h => by
  simp only [spec_EndsOf_n6, wpW] at h
  exact .of (by kernel_rfl) h

def spec_EndsOf_n7_l (x2029 : List Int) (x2079 : Int) (x2086 : Int) (x2080 : List Int) := (link_loop (mk := fun (s : Int × Int) => ⟨mkE 43 0 [(0, dL x2029), (3, .slc 0), (4, dI x2079), (5, dI s.1), (6, dI s.2)], [some (sI x2080)]⟩) (fin := (fun (t : Int) => ((Exit.exit 2), ⟨mkE 43 0 [(0, dL x2029), (3, .slc 0), (4, dI x2079), (5, dI t)], [some (sI x2080)]⟩))) (by
  rintro t f K h
  · exact h) (fun s => link_map (spec_EndsOf_n6_l x2029 x2079 s.1 s.2 x2080) (Sum.elim (fun (t : Int × Int) => Sum.inl (t.1, t.2)) (fun (t : Int) => Sum.inr t)) (by
  rintro (t | t)
  · kernel_rfl
  · kernel_rfl)) (x2086, 0))

def spec_EndsOf_n8_l (x2029 : List Int) (x2079 : Int) (x2086 : Int) (x2080 : List Int) := (link_block (fin2 := (fun (t : Int) => (Exit.normal, ⟨mkE 43 0 [(0, dL x2029), (3, .slc 0), (4, dI x2079), (5, dI t)], [some (sI x2080)]⟩))) (id := 2) (spec_EndsOf_n7_l x2029 x2079 x2086 x2080) (fun (t : Int) => t) (by
  rintro t K h
  · exact Eq.mp (by kernel_rfl) h))

def spec_EndsOf_n9_l (x2029 : List Int) (x2079 : Int) (x2086 : Int) (x2080 : List Int) := (link_seq (spec_EndsOf_n5_l x2029 x2079 x2086 x2080) (fun (t : Unit) => (spec_EndsOf_n8_l x2029 x2079 x2086 x2080)))

theorem spec_EndsOf_n10_l (x2029 : List Int) (x2079 : Int) (x2105 : Int) (x2080 : List Int) : Link spec_EndsOf_ctx LL (cq [1,1,1,0,0,1,0,0,1,0,1,1] (bodyOf Tryd.f16)) (aq [1,1,1,0,0,1,0,0,1,0,1,1] spec_EndsOf_an) ⟨mkE 43 0 [(0, dL x2029), (3, .slc 0), (4, dI x2079), (5, dI x2105)], [some (sI x2080)]⟩ (spec_EndsOf_n10 x2105 x2080) (fun (t : (List Int)) => (Exit.normal, ⟨mkE 43 0 [(0, dL x2029), (3, .slc 0), (4, dI x2079)], [some (sI t)]⟩)) := .of fun K h => by
  simp only [spec_EndsOf_n10, wpW] at h
  exact .of (by kernel_rfl) h

def spec_EndsOf_n11_l (x2029 : List Int) (x2079 : Int) (x2086 : Int) (x2080 : List Int) := (link_seq (spec_EndsOf_n9_l x2029 x2079 x2086 x2080) (fun (t : Int) => (spec_EndsOf_n10_l x2029 x2079 t x2080)))

def spec_EndsOf_n12_l (x2029 : List Int) (x2079 : Int) (x2080 : List Int) := (link_group (c := (cq [0,1,0,0,1,0,0,1,0,1,1] (bodyOf Tryd.f16))) (a := (aq [0,1,0,0,1,0,0,1,0,1,1] spec_EndsOf_an)) [(cq [0,0,0,1,0,0,1,0,1,1] (bodyOf Tryd.f16))] [(aq [0,0,0,1,0,0,1,0,1,1] spec_EndsOf_an)] rfl (link_seq (spec_EndsOf_n4_l x2029 x2079 x2080) (fun (t : Int) => (spec_EndsOf_n11_l x2029 x2079 t x2080))))

def spec_EndsOf_n13_l (x2029 : List Int) (x2079 : Int) (x2080 : List Int) := (link_block (fin2 := (fun (t : (List Int)) => (Exit.normal, ⟨mkE 43 0 [(0, dL x2029), (3, .slc 0), (4, dI x2079)], [some (sI t)]⟩))) (id := 1) (spec_EndsOf_n12_l x2029 x2079 x2080) (fun (t : (List Int)) => t) (by
  rintro t K h
  · exact Eq.mp (by kernel_rfl) h))

theorem spec_EndsOf_n14_l (x2029 : List Int) (x2079 : Int) (x2128 : List Int) : Link spec_EndsOf_ctx LL (cq [1,1,0,0,1,0,1,1] (bodyOf Tryd.f16)) (aq [1,1,0,0,1,0,1,1] spec_EndsOf_an) ⟨mkE 43 0 [(0, dL x2029), (3, .slc 0), (4, dI x2079)], [some (sI x2128)]⟩ (spec_EndsOf_n14 x2079) (fun (t : Int) => (Exit.normal, ⟨mkE 43 0 [(0, dL x2029), (3, .slc 0), (4, dI t)], [some (sI x2128)]⟩)) := .of fun K h => by
  simp only [spec_EndsOf_n14, wpW] at h
  exact .of (by kernel_rfl) h

def spec_EndsOf_n15_l (x2029 : List Int) (x2079 : Int) (x2080 : List Int) := (link_seq (spec_EndsOf_n13_l x2029 x2079 x2080) (fun (t : (List Int)) => (link_map (fin2 := (fun (t : Int × (List Int)) => (Exit.normal, ⟨mkE 43 0 [(0, dL x2029), (3, .slc 0), (4, dI t.1)], [some (sI t.2)]⟩))) (spec_EndsOf_n14_l x2029 x2079 t) (fun (u : Int) => (u, t)) (by
  rintro t
  · kernel_rfl))))

def spec_EndsOf_n16_l (x2029 : List Int) (x2079 : Int) (x2080 : List Int) := (link_seq2 (spec_EndsOf_n3_l x2029 x2079 x2080) (fun (t : Unit) => (link_map (fin2 := (Sum.elim (fun (t : Int × (List Int)) => (Exit.normal, ⟨mkE 43 0 [(0, dL x2029), (3, .slc 0), (4, dI t.1)], [some (sI t.2)]⟩)) (fun (t : (List Int)) => ((Exit.exit 0), ⟨mkE 43 0 [(3, .slc 0)], [some (sI t)]⟩)))) (spec_EndsOf_n15_l x2029 x2079 x2080) (fun (t : Int × (List Int)) => (Sum.inl (t.1, t.2))) (by
  rintro t
  · kernel_rfl))) (fun (t : (List Int)) => (Sum.inr t)) (by
  rintro t
  · kernel_rfl) (by
  rintro t f K h
  · exact h))

def spec_EndsOf_n17_l (x2029 : List Int) := (link_loop (mk := fun (s : Int × (List Int)) => ⟨mkE 43 0 [(0, dL x2029), (3, .slc 0), (4, dI s.1)], [some (sI s.2)]⟩) (fin := (fun (t : (List Int)) => ((Exit.exit 0), ⟨mkE 43 0 [(3, .slc 0)], [some (sI t)]⟩))) (by
  rintro t f K h
  · exact h) (fun s => link_map (spec_EndsOf_n16_l x2029 s.1 s.2) (Sum.elim (fun (t : Int × (List Int)) => Sum.inl (t.1, t.2)) (fun (t : (List Int)) => Sum.inr t)) (by
  rintro (t | t)
  · kernel_rfl
  · kernel_rfl)) (0, ([] : List Int)))

def spec_EndsOf_n18_l (x2029 : List Int) := (link_block (fin2 := (fun (t : (List Int)) => (Exit.normal, ⟨mkE 43 0 [(3, .slc 0)], [some (sI t)]⟩))) (id := 0) (spec_EndsOf_n17_l x2029) (fun (t : (List Int)) => t) (by
  rintro t K h
  · exact Eq.mp (by kernel_rfl) h))

def spec_EndsOf_n19_l (x2029 : List Int) := (link_seq (spec_EndsOf_n2_l x2029) (fun (t : Unit) => (spec_EndsOf_n18_l x2029)))

theorem spec_EndsOf_n20_l (x2080 : List Int) : Link spec_EndsOf_ctx LL (cq [1,1,1] (bodyOf Tryd.f16)) (aq [1,1,1] spec_EndsOf_an) ⟨mkE 43 0 [(3, .slc 0)], [some (sI x2080)]⟩ (spec_EndsOf_n20 x2080) (fun (t : (List Int)) => (Exit.ret, ⟨mkE 43 0 [(2, .slc 0)], [some (sI t)]⟩)) := .of fun K h => by
  simp only [spec_EndsOf_n20, wpW] at h
  exact .of (by kernel_rfl) h

def spec_EndsOf_n21_l (x2029 : List Int) := (link_seq (spec_EndsOf_n19_l x2029) (fun (t : (List Int)) => (spec_EndsOf_n20_l t)))

def spec_EndsOf_n22_l (x2029 : List Int) := (link_group (c := (cq [0,1] (bodyOf Tryd.f16))) (a := (aq [0,1] spec_EndsOf_an)) [(cq [0] (bodyOf Tryd.f16))] [(aq [0] spec_EndsOf_an)] rfl (link_seq (spec_EndsOf_n1_l x2029) (fun (t : Unit) => (spec_EndsOf_n21_l x2029))))

theorem spec_EndsOf_e (x2029 : List Int) {r : AV} {H' : Heap} (h : (Ans.mk _ (spec_EndsOf x2029) (fun (t : (List Int)) => (.slc 0, [some (sI t)])) [] none).run = some (r, H')) : Awp spec_EndsOf_ctx LL (bodyOf Tryd.f16) spec_EndsOf_an ⟨mkE 43 0 [(0, dL x2029)], []⟩ (Ret (tlook tys) Tryd.f16.results.toList r H') :=
  ret_of' (Link.cast (by kernel_rfl) (by kernel_rfl) (spec_EndsOf_n22_l x2029)) (by unfold spec_EndsOf; kernel_rfl) (by
  intro t
  exact ret_mk [.slc 0] (by kernel_rfl) (by kernel_rfl) (by kernel_rfl) (by kernel_rfl)) h

def F_spec_EndsOf : Fun := fun avs H =>
  match avs, H with
  | [.dat (.list (.int .i64)) x2029], [] => ⟨_, spec_EndsOf x2029, fun (t : (List Int)) => (.slc 0, [some (sI t)]), [], none⟩
  | _, _ => Ans.no

theorem spec_EndsOf_sound : Sound Tryd.prog 16 F_spec_EndsOf := by
  refine fn_sound' (C := spec_EndsOf_ctx) (c := bodyOf Tryd.f16) (cok_of tys_ok (allc spec_TreeOk_sound alln) (allc Tryd.call7 alln) (by kernel_rfl)) Tryd.func16 (by kernel_rfl) LL spec_EndsOf_an ?_
  intro avs H r H' h
  unfold F_spec_EndsOf at h
  split at h
  · refine Awp.cast ?_ ?_ ?_ (spec_EndsOf_e _ h) <;> kernel_rfl
  · simp [Ans.no, Ans.run] at h


/-! loop.example/headtrees/spec.StarOk -/

def spec_StarOk_an : Ann := (.seq (.leaf [0]) (.seq (.leaf [0, 3]) (.seq (.seq (.leaf [0, 3, 4]) (.block (.loop (.seq (.seq (.leaf [0, 3, 4, 10]) (.cond (.leaf [0, 3, 4]) (.leaf []))) (.seq (.block (.seq (.leaf [0, 3, 4, 20]) (.cond (.seq (.leaf [2]) (.leaf [2])) (.leaf [0, 3, 4])))) (.leaf [0, 3, 4])))))) (.seq (.leaf [2]) (.leaf [2])))))

noncomputable def spec_StarOk_ctx : Ctx := ⟨tlook tys, olook [(16, F_spec_EndsOf)], ioF, 0, false, []⟩

theorem spec_StarOk_n1_l (x2028 : List Int) : Link spec_StarOk_ctx LL (Code.seq (cq [0] (bodyOf Tryd.f6)) (cq [0,1] (bodyOf Tryd.f6))) (Ann.seq (aq [0] spec_StarOk_an) (aq [0,1] spec_StarOk_an)) ⟨mkE 21 0 [(0, dL x2028)], []⟩ (spec_StarOk_n1 x2028) (fun (t : (List Int)) => (Exit.normal, ⟨mkE 21 0 [(0, dL x2028), (3, .slc 0)], [some (sI t)]⟩)) := .of fun K h => by
  simp only [spec_StarOk_n1, wpW] at h
  exact .of (by kernel_rfl) h

theorem spec_StarOk_n2_l (x2028 : List Int) (x2130 : List Int) : Link spec_StarOk_ctx LL (cq [0,0,1,1] (bodyOf Tryd.f6)) (aq [0,0,1,1] spec_StarOk_an) ⟨mkE 21 0 [(0, dL x2028), (3, .slc 0)], [some (sI x2130)]⟩ (spec_StarOk_n2) (fun (t : Unit) => (Exit.normal, ⟨mkE 21 0 [(0, dL x2028), (3, .slc 0), (4, dI 0)], [some (sI x2130)]⟩)) := .of fun K h => by
  simp only [spec_StarOk_n2, wpW] at h
  exact .of (by kernel_rfl) h

theorem spec_StarOk_n3_l (x2028 : List Int) (x2148 : Int) (x2130 : List Int) : Link spec_StarOk_ctx LL (cq [0,0,1,0,1,1] (bodyOf Tryd.f6)) (aq [0,0,1,0,1,1] spec_StarOk_an) ⟨mkE 21 0 [(0, dL x2028), (3, .slc 0), (4, dI x2148)], [some (sI x2130)]⟩ (spec_StarOk_n3 x2028 x2148 x2130) (Sum.elim (fun (t : Int) => (Exit.normal, ⟨mkE 21 0 [(0, dL x2028), (3, .slc 0), (4, dI t)], [some (sI x2130)]⟩)) (Sum.elim (fun (t : Bool) => (Exit.ret, ⟨mkE 21 0 [(2, dB t)], []⟩)) (fun (t : Unit) => ((Exit.exit 0), ⟨mkE 21 0 [], []⟩)))) := .of fun K h => by
  simp only [spec_StarOk_n3, wpW] at h
  exact .of (by kernel_rfl) h

def spec_StarOk_n4_l (x2028 : List Int) (x2130 : List Int) := (link_loop (mk := fun (s : Int) => ⟨mkE 21 0 [(0, dL x2028), (3, .slc 0), (4, dI s)], [some (sI x2130)]⟩) (fin := (Sum.elim (fun (t : Bool) => (Exit.ret, ⟨mkE 21 0 [(2, dB t)], []⟩)) (fun (t : Unit) => ((Exit.exit 0), ⟨mkE 21 0 [], []⟩)))) (by
  rintro (t | t) f K h
  · exact h
  · exact h) (fun s => link_map (spec_StarOk_n3_l x2028 s x2130) (Sum.elim (fun (t : Int) => Sum.inl t) (Sum.elim (fun (t : Bool) => Sum.inr (Sum.inl t)) (fun (t : Unit) => Sum.inr (Sum.inr t)))) (by
  rintro (t | t | t)
  · kernel_rfl
  · kernel_rfl
  · kernel_rfl)) 0)

def spec_StarOk_n5_l (x2028 : List Int) (x2130 : List Int) := (link_block (fin2 := (Sum.elim (fun (t : Unit) => (Exit.normal, ⟨mkE 21 0 [], []⟩)) (fun (t : Bool) => (Exit.ret, ⟨mkE 21 0 [(2, dB t)], []⟩)))) (id := 0) (spec_StarOk_n4_l x2028 x2130) (Sum.elim (fun (t : Bool) => (Sum.inr t)) (fun (t : Unit) => (Sum.inl ()))) (by
  rintro (t | t) K h
  · exact Eq.mp (by kernel_rfl) h
  · exact Eq.mp (by kernel_rfl) h))

def spec_StarOk_n6_l (x2028 : List Int) (x2130 : List Int) := (link_seq (spec_StarOk_n2_l x2028 x2130) (fun (t : Unit) => (spec_StarOk_n5_l x2028 x2130)))

theorem spec_StarOk_n7_l : Link spec_StarOk_ctx LL (cq [1,1,1] (bodyOf Tryd.f6)) (aq [1,1,1] spec_StarOk_an) ⟨mkE 21 0 [], []⟩ (spec_StarOk_n7) (fun (t : Bool) => (Exit.ret, ⟨mkE 21 0 [(2, dB t)], []⟩)) := .of fun K h => by
  simp only [spec_StarOk_n7, wpW] at h
  exact .of (by kernel_rfl) h

def spec_StarOk_n8_l (x2028 : List Int) (x2130 : List Int) := (link_seq2 (spec_StarOk_n6_l x2028 x2130) (fun (t : Unit) => (spec_StarOk_n7_l)) (fun (t : Bool) => t) (by
  rintro t
  · kernel_rfl) (by
  rintro t f K h
  · exact h))

def spec_StarOk_n9_l (x2028 : List Int) := (link_group (c := (cq [0,1] (bodyOf Tryd.f6))) (a := (aq [0,1] spec_StarOk_an)) [(cq [0] (bodyOf Tryd.f6))] [(aq [0] spec_StarOk_an)] rfl (link_seq (spec_StarOk_n1_l x2028) (fun (t : (List Int)) => (spec_StarOk_n8_l x2028 t))))

theorem spec_StarOk_e (x2028 : List Int) {r : AV} {H' : Heap} (h : (Ans.mk _ (spec_StarOk x2028) (fun (t : Bool) => (dB t, [])) [] none).run = some (r, H')) : Awp spec_StarOk_ctx LL (bodyOf Tryd.f6) spec_StarOk_an ⟨mkE 21 0 [(0, dL x2028)], []⟩ (Ret (tlook tys) Tryd.f6.results.toList r H') :=
  ret_of' (Link.cast (by kernel_rfl) (by kernel_rfl) (spec_StarOk_n9_l x2028)) (by unfold spec_StarOk; kernel_rfl) (by
  intro t
  exact ret_mk [dB t] (by kernel_rfl) (by kernel_rfl) (by kernel_rfl) (by kernel_rfl)) h

def F_spec_StarOk : Fun := fun avs H =>
  match avs, H with
  | [.dat (.list (.int .i64)) x2028], [] => ⟨_, spec_StarOk x2028, fun (t : Bool) => (dB t, []), [], none⟩
  | _, _ => Ans.no

theorem spec_StarOk_sound : Sound Tryd.prog 6 F_spec_StarOk := by
  refine fn_sound' (C := spec_StarOk_ctx) (c := bodyOf Tryd.f6) (cok_of tys_ok (allc spec_EndsOf_sound alln) (allc Tryd.call16 alln) (by kernel_rfl)) Tryd.func6 (by kernel_rfl) LL spec_StarOk_an ?_
  intro avs H r H' h
  unfold F_spec_StarOk at h
  split at h
  · refine Awp.cast ?_ ?_ ?_ (spec_StarOk_e _ h) <;> kernel_rfl
  · simp [Ans.no, Ans.run] at h


/-! loop.example/headtrees/laws.alive -/

def laws_alive_an : Ann := (.seq (.leaf []) (.seq (.leaf [0]) (.leaf [0])))

noncomputable def laws_alive_ctx : Ctx := ⟨tlook tys, olook [(18, F_impl_TreeOk)], ioF, 0, false, []⟩

theorem laws_alive_n1_l : Link laws_alive_ctx LL (bodyOf Tryd.f8) laws_alive_an ⟨mkE 8 0 [], []⟩ (laws_alive_n1) (fun (t : Bool) => (Exit.ret, ⟨mkE 8 0 [(0, dB t)], []⟩)) := .of fun K h => by
  simp only [laws_alive_n1, wpW] at h
  exact .of (by kernel_rfl) h

theorem laws_alive_e {r : AV} {H' : Heap} (h : (Ans.mk _ (laws_alive) (fun (t : Bool) => (dB t, [])) [] none).run = some (r, H')) : Awp laws_alive_ctx LL (bodyOf Tryd.f8) laws_alive_an ⟨mkE 8 0 [], []⟩ (Ret (tlook tys) Tryd.f8.results.toList r H') :=
  ret_of' (laws_alive_n1_l) (by unfold laws_alive; kernel_rfl) (by
  intro t
  exact ret_mk [dB t] (by kernel_rfl) (by kernel_rfl) (by kernel_rfl) (by kernel_rfl)) h

def F_laws_alive : Fun := fun avs H =>
  match avs, H with
  | [], [] => ⟨_, laws_alive, fun (t : Bool) => (dB t, []), [], none⟩
  | _, _ => Ans.no

theorem laws_alive_sound : Sound Tryd.prog 8 F_laws_alive := by
  refine fn_sound' (C := laws_alive_ctx) (c := bodyOf Tryd.f8) (cok_of tys_ok (allc impl_TreeOk_sound alln) (allc Tryd.call18 alln) (by kernel_rfl)) Tryd.func8 (by kernel_rfl) LL laws_alive_an ?_
  intro avs H r H' h
  unfold F_laws_alive at h
  split at h
  · refine Awp.cast ?_ ?_ ?_ (laws_alive_e h) <;> kernel_rfl
  · simp [Ans.no, Ans.run] at h


/-! loop.example/headtrees/impl.RootOf -/

def impl_RootOf_an : Ann := (.seq (.leaf [0]) (.seq (.seq (.leaf [0, 6]) (.cond (.seq (.leaf [2]) (.leaf [2])) (.leaf [0]))) (.seq (.leaf [3]) (.seq (.block (.loop (.seq (.seq (.leaf [3, 9]) (.cond (.leaf [3]) (.leaf [3]))) (.block (.leaf [3]))))) (.seq (.leaf [2]) (.leaf [2]))))))

noncomputable def impl_RootOf_ctx : Ctx := ⟨tlook tys, olook [(18, F_impl_TreeOk), (45, F_impl_walker_up)], ioF, 0, false, []⟩

theorem impl_RootOf_n1_l (x2210 : List Int) : Link impl_RootOf_ctx LL (Code.seq (cq [0] (bodyOf Tryd.f41)) (Code.seq (cq [0,1] (bodyOf Tryd.f41)) (cq [0,1,1] (bodyOf Tryd.f41)))) (Ann.seq (aq [0] impl_RootOf_an) (Ann.seq (aq [0,1] impl_RootOf_an) (aq [0,1,1] impl_RootOf_an))) ⟨mkE 12 0 [(0, dL x2210)], []⟩ (impl_RootOf_n1 x2210) (Sum.elim (fun (t : Unit) => (Exit.normal, ⟨mkE 12 0 [(3, .ptr 0 0)], [some (.box [dL x2210, dI 1, dI 0])]⟩)) (fun (t : Int) => (Exit.ret, ⟨mkE 12 0 [(2, dI t)], []⟩))) := .of fun K h => by
  simp only [impl_RootOf_n1, wpW] at h
  exact .of (by kernel_rfl) h

theorem impl_RootOf_n2_l (x2210 : List Int) (x2223 : Int) (x2224 : Int) : Link impl_RootOf_ctx LL (cq [0,0,0,1,1,1] (bodyOf Tryd.f41)) (aq [0,0,0,1,1,1] impl_RootOf_an) ⟨mkE 12 0 [(3, .ptr 0 0)], [some (.box [dL x2210, dI x2223, dI x2224])]⟩ (impl_RootOf_n2 x2210 x2223 x2224) (Sum.elim (fun (t : Int × Int) => (Exit.normal, ⟨mkE 12 0 [(3, .ptr 0 0)], [some (.box [dL x2210, dI t.1, dI t.2])]⟩)) (fun (t : Int × Int) => ((Exit.exit 0), ⟨mkE 12 0 [(3, .ptr 0 0)], [some (.box [dL x2210, dI t.1, dI t.2])]⟩))) := .of fun K h => by
  simp only [impl_RootOf_n2, wpW] at h
  exact .of (by kernel_rfl) h

def impl_RootOf_n3_l (x2210 : List Int) := (link_loop (mk := fun (s : Int × Int) => ⟨mkE 12 0 [(3, .ptr 0 0)], [some (.box [dL x2210, dI s.1, dI s.2])]⟩) (fin := (fun (t : Int × Int) => ((Exit.exit 0), ⟨mkE 12 0 [(3, .ptr 0 0)], [some (.box [dL x2210, dI t.1, dI t.2])]⟩))) (by
  rintro t f K h
  · exact h) (fun s => link_map (impl_RootOf_n2_l x2210 s.1 s.2) (Sum.elim (fun (t : Int × Int) => Sum.inl (t.1, t.2)) (fun (t : Int × Int) => Sum.inr t)) (by
  rintro (t | t)
  · kernel_rfl
  · kernel_rfl)) (1, 0))

def impl_RootOf_n4_l (x2210 : List Int) := (link_block (fin2 := (fun (t : Int × Int) => (Exit.normal, ⟨mkE 12 0 [(3, .ptr 0 0)], [some (.box [dL x2210, dI t.1, dI t.2])]⟩))) (id := 0) (impl_RootOf_n3_l x2210) (fun (t : Int × Int) => (t.1, t.2)) (by
  rintro t K h
  · exact Eq.mp (by kernel_rfl) h))

theorem impl_RootOf_n5_l (x2210 : List Int) (x2231 : Int) (x2232 : Int) : Link impl_RootOf_ctx LL (cq [1,1,1,1] (bodyOf Tryd.f41)) (aq [1,1,1,1] impl_RootOf_an) ⟨mkE 12 0 [(3, .ptr 0 0)], [some (.box [dL x2210, dI x2231, dI x2232])]⟩ (impl_RootOf_n5 x2231) (fun (t : Int) => (Exit.ret, ⟨mkE 12 0 [(2, dI t)], []⟩)) := .of fun K h => by
  simp only [impl_RootOf_n5, wpW] at h
  exact .of (by kernel_rfl) h

def impl_RootOf_n6_l (x2210 : List Int) := (link_seq (impl_RootOf_n4_l x2210) (fun (t : Int × Int) => (impl_RootOf_n5_l x2210 t.1 t.2)))

def impl_RootOf_n7_l (x2210 : List Int) := (link_group (c := (cq [0,1,1] (bodyOf Tryd.f41))) (a := (aq [0,1,1] impl_RootOf_an)) [(cq [0] (bodyOf Tryd.f41)), (cq [0,1] (bodyOf Tryd.f41))] [(aq [0] impl_RootOf_an), (aq [0,1] impl_RootOf_an)] rfl (link_seq2 (impl_RootOf_n1_l x2210) (fun (t : Unit) => (impl_RootOf_n6_l x2210)) (fun (t : Int) => t) (by
  rintro t
  · kernel_rfl) (by
  rintro t f K h
  · exact h)))

theorem impl_RootOf_e (x2210 : List Int) {r : AV} {H' : Heap} (h : (Ans.mk _ (impl_RootOf x2210) (fun (t : Int) => (dI t, [])) [] none).run = some (r, H')) : Awp impl_RootOf_ctx LL (bodyOf Tryd.f41) impl_RootOf_an ⟨mkE 12 0 [(0, dL x2210)], []⟩ (Ret (tlook tys) Tryd.f41.results.toList r H') :=
  ret_of' (Link.cast (by kernel_rfl) (by kernel_rfl) (impl_RootOf_n7_l x2210)) (by unfold impl_RootOf; kernel_rfl) (by
  intro t
  exact ret_mk [dI t] (by kernel_rfl) (by kernel_rfl) (by kernel_rfl) (by kernel_rfl)) h

def F_impl_RootOf : Fun := fun avs H =>
  match avs, H with
  | [.dat (.list (.int .i64)) x2210], [] => ⟨_, impl_RootOf x2210, fun (t : Int) => (dI t, []), [], none⟩
  | _, _ => Ans.no

theorem impl_RootOf_sound : Sound Tryd.prog 41 F_impl_RootOf := by
  refine fn_sound' (C := impl_RootOf_ctx) (c := bodyOf Tryd.f41) (cok_of tys_ok (allc impl_TreeOk_sound (allc impl_walker_up_sound alln)) (allc Tryd.call18 (allc Tryd.call45 alln)) (by kernel_rfl)) Tryd.func41 (by kernel_rfl) LL impl_RootOf_an ?_
  intro avs H r H' h
  unfold F_impl_RootOf at h
  split at h
  · refine Awp.cast ?_ ?_ ?_ (impl_RootOf_e _ h) <;> kernel_rfl
  · simp [Ans.no, Ans.run] at h


/-! loop.example/headtrees/impl.only -/

def impl_only_an : Ann := (.seq (.leaf [0]) (.seq (.leaf [2]) (.leaf [2])))

noncomputable def impl_only_ctx : Ctx := ⟨tlook tys, olook [], ioF, 0, false, []⟩

theorem impl_only_n1_l (x2259 : Int) : Link impl_only_ctx LL (bodyOf Tryd.f51) impl_only_an ⟨mkE 6 0 [(0, dI x2259)], []⟩ (impl_only_n1 x2259) (fun (t : Int) => (Exit.ret, ⟨mkE 6 0 [(2, dW t)], []⟩)) := .of fun K h => by
  simp only [impl_only_n1, wpW] at h
  exact .of (by kernel_rfl) h

theorem impl_only_e (x2259 : Int) {r : AV} {H' : Heap} (h : (Ans.mk _ (impl_only x2259) (fun (t : Int) => (dW t, [])) [] none).run = some (r, H')) : Awp impl_only_ctx LL (bodyOf Tryd.f51) impl_only_an ⟨mkE 6 0 [(0, dI x2259)], []⟩ (Ret (tlook tys) Tryd.f51.results.toList r H') :=
  ret_of' (impl_only_n1_l x2259) (by unfold impl_only; kernel_rfl) (by
  intro t
  exact ret_mk [dW t] (by kernel_rfl) (by kernel_rfl) (by kernel_rfl) (by kernel_rfl)) h

def F_impl_only : Fun := fun avs H =>
  match avs, H with
  | [.dat (.int .i64) x2259], [] => ⟨_, impl_only x2259, fun (t : Int) => (dW t, []), [], none⟩
  | _, _ => Ans.no

theorem impl_only_sound : Sound Tryd.prog 51 F_impl_only := by
  refine fn_sound' (C := impl_only_ctx) (c := bodyOf Tryd.f51) (cok_of tys_ok (alln) (alln) (by kernel_rfl)) Tryd.func51 (by kernel_rfl) LL impl_only_an ?_
  intro avs H r H' h
  unfold F_impl_only at h
  split at h
  · refine Awp.cast ?_ ?_ ?_ (impl_only_e _ h) <;> kernel_rfl
  · simp [Ans.no, Ans.run] at h


/-! loop.example/headtrees/impl.dependents -/

def impl_dependents_an : Ann := (.seq (.leaf [0, 1]) (.seq (.leaf [0, 1, 5]) (.seq (.seq (.leaf [0, 1, 5, 8, 9]) (.block (.loop (.seq (.leaf [0, 1, 5, 8, 9, 10]) (.seq (.cond (.leaf [0, 1, 5, 8, 9]) (.leaf [5])) (.seq (.block (.seq (.leaf [0, 1, 5, 6, 8, 9]) (.seq (.leaf [0, 1, 5, 6, 8, 9, 17]) (.cond (.leaf [0, 1, 5, 8, 9]) (.leaf [0, 1, 5, 8, 9]))))) (.leaf [0, 1, 5, 8, 9]))))))) (.seq (.leaf [4]) (.leaf [4])))))

noncomputable def impl_dependents_ctx : Ctx := ⟨tlook tys, olook [(51, F_impl_only)], ioF, 0, false, []⟩

theorem impl_dependents_n1_l (x2250 : List Int) (x2251 : Int) : Link impl_dependents_ctx LL (Code.seq (cq [0] (bodyOf Tryd.f48)) (cq [0,1] (bodyOf Tryd.f48))) (Ann.seq (aq [0] impl_dependents_an) (aq [0,1] impl_dependents_an)) ⟨mkE 25 0 [(0, dL x2250), (1, dI x2251)], []⟩ (impl_dependents_n1) (fun (t : Unit) => (Exit.normal, ⟨mkE 25 0 [(0, dL x2250), (1, dI x2251), (5, dW 0)], []⟩)) := .of fun K h => by
  simp only [impl_dependents_n1, wpW] at h
  exact .of (by kernel_rfl) h

theorem impl_dependents_n2_l (x2250 : List Int) (x2251 : Int) : Link impl_dependents_ctx LL (cq [0,0,1,1] (bodyOf Tryd.f48)) (aq [0,0,1,1] impl_dependents_an) ⟨mkE 25 0 [(0, dL x2250), (1, dI x2251), (5, dW 0)], []⟩ (impl_dependents_n2 x2250) (fun (t : Int) => (Exit.normal, ⟨mkE 25 0 [(0, dL x2250), (1, dI x2251), (5, dW 0), (8, dI t), (9, dI 0)], []⟩)) := .of fun K h => by
  simp only [impl_dependents_n2, wpW] at h
  exact .of (by kernel_rfl) h

theorem impl_dependents_n3_l (x2250 : List Int) (x2251 : Int) (x2276 : Int) (x2252 : Int) (x2277 : Int) : Link impl_dependents_ctx LL (cq [0,0,1,0,1,1] (bodyOf Tryd.f48)) (aq [0,0,1,0,1,1] impl_dependents_an) ⟨mkE 25 0 [(0, dL x2250), (1, dI x2251), (5, dW x2276), (8, dI x2252), (9, dI x2277)], []⟩ (impl_dependents_n3 x2250 x2251 x2276 x2252 x2277) (Sum.elim (fun (t : Int × Int) => (Exit.normal, ⟨mkE 25 0 [(0, dL x2250), (1, dI x2251), (5, dW t.1), (8, dI x2252), (9, dI t.2)], []⟩)) (fun (t : Int) => ((Exit.exit 0), ⟨mkE 25 0 [(5, dW t)], []⟩))) := .of fun K h => by
  simp only [impl_dependents_n3, wpW] at h
  exact .of (by kernel_rfl) h

def impl_dependents_n4_l (x2250 : List Int) (x2251 : Int) (x2252 : Int) := (link_loop (mk := fun (s : Int × Int) => ⟨mkE 25 0 [(0, dL x2250), (1, dI x2251), (5, dW s.1), (8, dI x2252), (9, dI s.2)], []⟩) (fin := (fun (t : Int) => ((Exit.exit 0), ⟨mkE 25 0 [(5, dW t)], []⟩))) (by
  rintro t f K h
  · exact h) (fun s => link_map (impl_dependents_n3_l x2250 x2251 s.1 x2252 s.2) (Sum.elim (fun (t : Int × Int) => Sum.inl (t.1, t.2)) (fun (t : Int) => Sum.inr t)) (by
  rintro (t | t)
  · kernel_rfl
  · kernel_rfl)) (0, 0))

def impl_dependents_n5_l (x2250 : List Int) (x2251 : Int) (x2252 : Int) := (link_block (fin2 := (fun (t : Int) => (Exit.normal, ⟨mkE 25 0 [(5, dW t)], []⟩))) (id := 0) (impl_dependents_n4_l x2250 x2251 x2252) (fun (t : Int) => t) (by
  rintro t K h
  · exact Eq.mp (by kernel_rfl) h))

def impl_dependents_n6_l (x2250 : List Int) (x2251 : Int) := (link_seq (impl_dependents_n2_l x2250 x2251) (fun (t : Int) => (impl_dependents_n5_l x2250 x2251 t)))

theorem impl_dependents_n7_l (x2276 : Int) : Link impl_dependents_ctx LL (cq [1,1,1] (bodyOf Tryd.f48)) (aq [1,1,1] impl_dependents_an) ⟨mkE 25 0 [(5, dW x2276)], []⟩ (impl_dependents_n7 x2276) (fun (t : Int) => (Exit.ret, ⟨mkE 25 0 [(4, dW t)], []⟩)) := .of fun K h => by
  simp only [impl_dependents_n7, wpW] at h
  exact .of (by kernel_rfl) h

def impl_dependents_n8_l (x2250 : List Int) (x2251 : Int) := (link_seq (impl_dependents_n6_l x2250 x2251) (fun (t : Int) => (impl_dependents_n7_l t)))

def impl_dependents_n9_l (x2250 : List Int) (x2251 : Int) := (link_group (c := (cq [0,1] (bodyOf Tryd.f48))) (a := (aq [0,1] impl_dependents_an)) [(cq [0] (bodyOf Tryd.f48))] [(aq [0] impl_dependents_an)] rfl (link_seq (impl_dependents_n1_l x2250 x2251) (fun (t : Unit) => (impl_dependents_n8_l x2250 x2251))))

theorem impl_dependents_e (x2250 : List Int) (x2251 : Int) {r : AV} {H' : Heap} (h : (Ans.mk _ (impl_dependents x2250 x2251) (fun (t : Int) => (dW t, [])) [] none).run = some (r, H')) : Awp impl_dependents_ctx LL (bodyOf Tryd.f48) impl_dependents_an ⟨mkE 25 0 [(0, dL x2250), (1, dI x2251)], []⟩ (Ret (tlook tys) Tryd.f48.results.toList r H') :=
  ret_of' (Link.cast (by kernel_rfl) (by kernel_rfl) (impl_dependents_n9_l x2250 x2251)) (by unfold impl_dependents; kernel_rfl) (by
  intro t
  exact ret_mk [dW t] (by kernel_rfl) (by kernel_rfl) (by kernel_rfl) (by kernel_rfl)) h

def F_impl_dependents : Fun := fun avs H =>
  match avs, H with
  | [.dat (.list (.int .i64)) x2250, .dat (.int .i64) x2251], [] => ⟨_, impl_dependents x2250 x2251, fun (t : Int) => (dW t, []), [], none⟩
  | _, _ => Ans.no

theorem impl_dependents_sound : Sound Tryd.prog 48 F_impl_dependents := by
  refine fn_sound' (C := impl_dependents_ctx) (c := bodyOf Tryd.f48) (cok_of tys_ok (allc impl_only_sound alln) (allc Tryd.call51 alln) (by kernel_rfl)) Tryd.func48 (by kernel_rfl) LL impl_dependents_an ?_
  intro avs H r H' h
  unfold F_impl_dependents at h
  split at h
  · refine Awp.cast ?_ ?_ ?_ (impl_dependents_e _ _ h) <;> kernel_rfl
  · simp [Ans.no, Ans.run] at h


/-! loop.example/headtrees/impl.before -/

def impl_before_an : Ann := (.seq (.leaf [0]) (.seq (.leaf [2]) (.leaf [2])))

noncomputable def impl_before_ctx : Ctx := ⟨tlook tys, olook [(51, F_impl_only)], ioF, 0, false, []⟩

theorem impl_before_n1_l (x2298 : Int) : Link impl_before_ctx LL (bodyOf Tryd.f49) impl_before_an ⟨mkE 6 0 [(0, dI x2298)], []⟩ (impl_before_n1 x2298) (fun (t : Int) => (Exit.ret, ⟨mkE 6 0 [(2, dW t)], []⟩)) := .of fun K h => by
  simp only [impl_before_n1, wpW] at h
  exact .of (by kernel_rfl) h

theorem impl_before_e (x2298 : Int) {r : AV} {H' : Heap} (h : (Ans.mk _ (impl_before x2298) (fun (t : Int) => (dW t, [])) [] none).run = some (r, H')) : Awp impl_before_ctx LL (bodyOf Tryd.f49) impl_before_an ⟨mkE 6 0 [(0, dI x2298)], []⟩ (Ret (tlook tys) Tryd.f49.results.toList r H') :=
  ret_of' (impl_before_n1_l x2298) (by unfold impl_before; kernel_rfl) (by
  intro t
  exact ret_mk [dW t] (by kernel_rfl) (by kernel_rfl) (by kernel_rfl) (by kernel_rfl)) h

def F_impl_before : Fun := fun avs H =>
  match avs, H with
  | [.dat (.int .i64) x2298], [] => ⟨_, impl_before x2298, fun (t : Int) => (dW t, []), [], none⟩
  | _, _ => Ans.no

theorem impl_before_sound : Sound Tryd.prog 49 F_impl_before := by
  refine fn_sound' (C := impl_before_ctx) (c := bodyOf Tryd.f49) (cok_of tys_ok (allc impl_only_sound alln) (allc Tryd.call51 alln) (by kernel_rfl)) Tryd.func49 (by kernel_rfl) LL impl_before_an ?_
  intro avs H r H' h
  unfold F_impl_before at h
  split at h
  · refine Awp.cast ?_ ?_ ?_ (impl_before_e _ h) <;> kernel_rfl
  · simp [Ans.no, Ans.run] at h


/-! loop.example/headtrees/impl.dependentsBeside -/

def impl_dependentsBeside_an : Ann := (.seq (.leaf [0, 1]) (.seq (.leaf [1, 6]) (.seq (.leaf [4, 5]) (.leaf [4, 5]))))

noncomputable def impl_dependentsBeside_ctx : Ctx := ⟨tlook tys, olook [(48, F_impl_dependents), (49, F_impl_before)], ioF, 0, false, []⟩

theorem impl_dependentsBeside_n1_l (x2248 : List Int) (x2249 : Int) : Link impl_dependentsBeside_ctx LL (bodyOf Tryd.f46) impl_dependentsBeside_an ⟨mkE 18 0 [(0, dL x2248), (1, dI x2249)], []⟩ (impl_dependentsBeside_n1 x2248 x2249) (fun (t : Int × Int) => (Exit.ret, ⟨mkE 18 0 [(4, dW t.1), (5, dW t.2)], []⟩)) := .of fun K h => by
  simp only [impl_dependentsBeside_n1, wpW] at h
  exact .of (by kernel_rfl) h

theorem impl_dependentsBeside_e (x2248 : List Int) (x2249 : Int) {r : AV} {H' : Heap} (h : (Ans.mk _ (impl_dependentsBeside x2248 x2249) (fun (t : Int × Int) => (.tup [dW t.1, dW t.2], [])) [] none).run = some (r, H')) : Awp impl_dependentsBeside_ctx LL (bodyOf Tryd.f46) impl_dependentsBeside_an ⟨mkE 18 0 [(0, dL x2248), (1, dI x2249)], []⟩ (Ret (tlook tys) Tryd.f46.results.toList r H') :=
  ret_of' (impl_dependentsBeside_n1_l x2248 x2249) (by unfold impl_dependentsBeside; kernel_rfl) (by
  intro t
  exact ret_mk [dW t.1, dW t.2] (by kernel_rfl) (by kernel_rfl) (by kernel_rfl) (by kernel_rfl)) h

def F_impl_dependentsBeside : Fun := fun avs H =>
  match avs, H with
  | [.dat (.list (.int .i64)) x2248, .dat (.int .i64) x2249], [] => ⟨_, impl_dependentsBeside x2248 x2249, fun (t : Int × Int) => (.tup [dW t.1, dW t.2], []), [], none⟩
  | _, _ => Ans.no

theorem impl_dependentsBeside_sound : Sound Tryd.prog 46 F_impl_dependentsBeside := by
  refine fn_sound' (C := impl_dependentsBeside_ctx) (c := bodyOf Tryd.f46) (cok_of tys_ok (allc impl_dependents_sound (allc impl_before_sound alln)) (allc Tryd.call48 (allc Tryd.call49 alln)) (by kernel_rfl)) Tryd.func46 (by kernel_rfl) LL impl_dependentsBeside_an ?_
  intro avs H r H' h
  unfold F_impl_dependentsBeside at h
  split at h
  · refine Awp.cast ?_ ?_ ?_ (impl_dependentsBeside_e _ _ h) <;> kernel_rfl
  · simp [Ans.no, Ans.run] at h


/-! math/bits.OnesCount64 -/

def math_bits_OnesCount64_an : Ann := (.seq (.leaf [0]) (.seq (.leaf [0]) (.seq (.leaf [0]) (.seq (.leaf [0]) (.seq (.leaf [0]) (.seq (.leaf [0]) (.seq (.leaf [0]) (.seq (.leaf [2]) (.leaf [2])))))))))

noncomputable def math_bits_OnesCount64_ctx : Ctx := ⟨tlook tys, olook [], ioF, 0, false, []⟩

theorem math_bits_OnesCount64_n1_l (x2324 : Int) : Link math_bits_OnesCount64_ctx LL (Code.seq (cq [0] (bodyOf Tryd.f58)) (cq [0,1] (bodyOf Tryd.f58))) (Ann.seq (aq [0] math_bits_OnesCount64_an) (aq [0,1] math_bits_OnesCount64_an)) ⟨mkE 35 0 [(0, dW x2324)], []⟩ (math_bits_OnesCount64_n1 x2324) (fun (t : Int) => (Exit.normal, ⟨mkE 35 0 [(0, dW t)], []⟩)) := .of fun K h => by
  simp only [math_bits_OnesCount64_n1, wpW] at h
  exact .of (by kernel_rfl) h

theorem math_bits_OnesCount64_n2_l (x2329 : Int) : Link math_bits_OnesCount64_ctx LL (cq [0,1,1] (bodyOf Tryd.f58)) (aq [0,1,1] math_bits_OnesCount64_an) ⟨mkE 35 0 [(0, dW x2329)], []⟩ (math_bits_OnesCount64_n2 x2329) (fun (t : Int) => (Exit.normal, ⟨mkE 35 0 [(0, dW t)], []⟩)) := .of fun K h => by
  simp only [math_bits_OnesCount64_n2, wpW] at h
  exact .of (by kernel_rfl) h

theorem math_bits_OnesCount64_n3_l (x2346 : Int) : Link math_bits_OnesCount64_ctx LL (cq [0,1,1,1] (bodyOf Tryd.f58)) (aq [0,1,1,1] math_bits_OnesCount64_an) ⟨mkE 35 0 [(0, dW x2346)], []⟩ (math_bits_OnesCount64_n3 x2346) (fun (t : Int) => (Exit.normal, ⟨mkE 35 0 [(0, dW t)], []⟩)) := .of fun K h => by
  simp only [math_bits_OnesCount64_n3, wpW] at h
  exact .of (by kernel_rfl) h

theorem math_bits_OnesCount64_n4_l (x2353 : Int) : Link math_bits_OnesCount64_ctx LL (cq [0,1,1,1,1] (bodyOf Tryd.f58)) (aq [0,1,1,1,1] math_bits_OnesCount64_an) ⟨mkE 35 0 [(0, dW x2353)], []⟩ (math_bits_OnesCount64_n4 x2353) (fun (t : Int) => (Exit.normal, ⟨mkE 35 0 [(0, dW t)], []⟩)) := .of fun K h => by
  simp only [math_bits_OnesCount64_n4, wpW] at h
  exact .of (by kernel_rfl) h

theorem math_bits_OnesCount64_n5_l (x2357 : Int) : Link math_bits_OnesCount64_ctx LL (cq [0,1,1,1,1,1] (bodyOf Tryd.f58)) (aq [0,1,1,1,1,1] math_bits_OnesCount64_an) ⟨mkE 35 0 [(0, dW x2357)], []⟩ (math_bits_OnesCount64_n5 x2357) (fun (t : Int) => (Exit.normal, ⟨mkE 35 0 [(0, dW t)], []⟩)) := .of fun K h => by
  simp only [math_bits_OnesCount64_n5, wpW] at h
  exact .of (by kernel_rfl) h

theorem math_bits_OnesCount64_n6_l (x2362 : Int) : Link math_bits_OnesCount64_ctx LL (cq [0,1,1,1,1,1,1] (bodyOf Tryd.f58)) (aq [0,1,1,1,1,1,1] math_bits_OnesCount64_an) ⟨mkE 35 0 [(0, dW x2362)], []⟩ (math_bits_OnesCount64_n6 x2362) (fun (t : Int) => (Exit.normal, ⟨mkE 35 0 [(0, dW t)], []⟩)) := .of fun K h => by
  simp only [math_bits_OnesCount64_n6, wpW] at h
  exact .of (by kernel_rfl) h

theorem math_bits_OnesCount64_n7_l (x2367 : Int) : Link math_bits_OnesCount64_ctx LL (cq [0,1,1,1,1,1,1,1] (bodyOf Tryd.f58)) (aq [0,1,1,1,1,1,1,1] math_bits_OnesCount64_an) ⟨mkE 35 0 [(0, dW x2367)], []⟩ (math_bits_OnesCount64_n7 x2367) (fun (t : Int) => (Exit.normal, ⟨mkE 35 0 [(2, dI t)], []⟩)) := .of fun K h => by
  simp only [math_bits_OnesCount64_n7, wpW] at h
  exact .of (by kernel_rfl) h

theorem math_bits_OnesCount64_n8_l (x2372 : Int) : Link math_bits_OnesCount64_ctx LL (cq [1,1,1,1,1,1,1,1] (bodyOf Tryd.f58)) (aq [1,1,1,1,1,1,1,1] math_bits_OnesCount64_an) ⟨mkE 35 0 [(2, dI x2372)], []⟩ (math_bits_OnesCount64_n8 x2372) (fun (t : Int) => (Exit.ret, ⟨mkE 35 0 [(2, dI t)], []⟩)) := .of fun K h => by
  simp only [math_bits_OnesCount64_n8, wpW] at h
  exact .of (by kernel_rfl) h

def math_bits_OnesCount64_n9_l (x2367 : Int) := (link_seq (math_bits_OnesCount64_n7_l x2367) (fun (t : Int) => (math_bits_OnesCount64_n8_l t)))

def math_bits_OnesCount64_n10_l (x2362 : Int) := (link_seq (math_bits_OnesCount64_n6_l x2362) (fun (t : Int) => (math_bits_OnesCount64_n9_l t)))

def math_bits_OnesCount64_n11_l (x2357 : Int) := (link_seq (math_bits_OnesCount64_n5_l x2357) (fun (t : Int) => (math_bits_OnesCount64_n10_l t)))

def math_bits_OnesCount64_n12_l (x2353 : Int) := (link_seq (math_bits_OnesCount64_n4_l x2353) (fun (t : Int) => (math_bits_OnesCount64_n11_l t)))

def math_bits_OnesCount64_n13_l (x2346 : Int) := (link_seq (math_bits_OnesCount64_n3_l x2346) (fun (t : Int) => (math_bits_OnesCount64_n12_l t)))

def math_bits_OnesCount64_n14_l (x2329 : Int) := (link_seq (math_bits_OnesCount64_n2_l x2329) (fun (t : Int) => (math_bits_OnesCount64_n13_l t)))

def math_bits_OnesCount64_n15_l (x2324 : Int) := (link_group (c := (cq [0,1] (bodyOf Tryd.f58))) (a := (aq [0,1] math_bits_OnesCount64_an)) [(cq [0] (bodyOf Tryd.f58))] [(aq [0] math_bits_OnesCount64_an)] rfl (link_seq (math_bits_OnesCount64_n1_l x2324) (fun (t : Int) => (math_bits_OnesCount64_n14_l t))))

theorem math_bits_OnesCount64_e (x2324 : Int) {r : AV} {H' : Heap} (h : (Ans.mk _ (math_bits_OnesCount64 x2324) (fun (t : Int) => (dI t, [])) [] none).run = some (r, H')) : Awp math_bits_OnesCount64_ctx LL (bodyOf Tryd.f58) math_bits_OnesCount64_an ⟨mkE 35 0 [(0, dW x2324)], []⟩ (Ret (tlook tys) Tryd.f58.results.toList r H') :=
  ret_of' (Link.cast (by kernel_rfl) (by kernel_rfl) (math_bits_OnesCount64_n15_l x2324)) (by unfold math_bits_OnesCount64; kernel_rfl) (by
  intro t
  exact ret_mk [dI t] (by kernel_rfl) (by kernel_rfl) (by kernel_rfl) (by kernel_rfl)) h

def F_math_bits_OnesCount64 : Fun := fun avs H =>
  match avs, H with
  | [.dat (.int .u64) x2324], [] => ⟨_, math_bits_OnesCount64 x2324, fun (t : Int) => (dI t, []), [], none⟩
  | _, _ => Ans.no

theorem math_bits_OnesCount64_sound : Sound Tryd.prog 58 F_math_bits_OnesCount64 := by
  refine fn_sound' (C := math_bits_OnesCount64_ctx) (c := bodyOf Tryd.f58) (cok_of tys_ok (alln) (alln) (by kernel_rfl)) Tryd.func58 (by kernel_rfl) LL math_bits_OnesCount64_an ?_
  intro avs H r H' h
  unfold F_math_bits_OnesCount64 at h
  split at h
  · refine Awp.cast ?_ ?_ ?_ (math_bits_OnesCount64_e _ h) <;> kernel_rfl
  · simp [Ans.no, Ans.run] at h


/-! math/bits.OnesCount -/

def math_bits_OnesCount_an : Ann := (.seq (.leaf [0]) (.seq (.cond (.seq (.leaf [2]) (.leaf [2])) (.leaf [0])) (.seq (.leaf [2]) (.leaf [2]))))

noncomputable def math_bits_OnesCount_ctx : Ctx := ⟨tlook tys, olook [(58, F_math_bits_OnesCount64)], ioF, 0, false, []⟩

theorem math_bits_OnesCount_n1_l (x2323 : Int) : Link math_bits_OnesCount_ctx LL (bodyOf Tryd.f54) math_bits_OnesCount_an ⟨mkE 8 0 [(0, dW x2323)], []⟩ (math_bits_OnesCount_n1 x2323) (fun (t : Int) => (Exit.ret, ⟨mkE 8 0 [(2, dI t)], []⟩)) := .of fun K h => by
  simp only [math_bits_OnesCount_n1, wpW] at h
  exact .of (by kernel_rfl) h

theorem math_bits_OnesCount_e (x2323 : Int) {r : AV} {H' : Heap} (h : (Ans.mk _ (math_bits_OnesCount x2323) (fun (t : Int) => (dI t, [])) [] none).run = some (r, H')) : Awp math_bits_OnesCount_ctx LL (bodyOf Tryd.f54) math_bits_OnesCount_an ⟨mkE 8 0 [(0, dW x2323)], []⟩ (Ret (tlook tys) Tryd.f54.results.toList r H') :=
  ret_of' (math_bits_OnesCount_n1_l x2323) (by unfold math_bits_OnesCount; kernel_rfl) (by
  intro t
  exact ret_mk [dI t] (by kernel_rfl) (by kernel_rfl) (by kernel_rfl) (by kernel_rfl)) h

def F_math_bits_OnesCount : Fun := fun avs H =>
  match avs, H with
  | [.dat (.int .u64) x2323], [] => ⟨_, math_bits_OnesCount x2323, fun (t : Int) => (dI t, []), [], none⟩
  | _, _ => Ans.no

theorem math_bits_OnesCount_sound : Sound Tryd.prog 54 F_math_bits_OnesCount := by
  refine fn_sound' (C := math_bits_OnesCount_ctx) (c := bodyOf Tryd.f54) (cok_of tys_ok (allc math_bits_OnesCount64_sound alln) (allc Tryd.call58 alln) (by kernel_rfl)) Tryd.func54 (by kernel_rfl) LL math_bits_OnesCount_an ?_
  intro avs H r H' h
  unfold F_math_bits_OnesCount at h
  split at h
  · refine Awp.cast ?_ ?_ ?_ (math_bits_OnesCount_e _ h) <;> kernel_rfl
  · simp [Ans.no, Ans.run] at h


/-! (loop.example/headtrees/impl.wordSet).count -/

def impl_wordSet_count_an : Ann := (.seq (.leaf [0]) (.seq (.leaf [2]) (.leaf [2])))

noncomputable def impl_wordSet_count_ctx : Ctx := ⟨tlook tys, olook [(54, F_math_bits_OnesCount)], ioF, 0, false, []⟩

theorem impl_wordSet_count_n1_l (x2322 : Int) : Link impl_wordSet_count_ctx LL (bodyOf Tryd.f52) impl_wordSet_count_an ⟨mkE 5 0 [(0, dW x2322)], []⟩ (impl_wordSet_count_n1 x2322) (fun (t : Int) => (Exit.ret, ⟨mkE 5 0 [(2, dI t)], []⟩)) := .of fun K h => by
  simp only [impl_wordSet_count_n1, wpW] at h
  exact .of (by kernel_rfl) h

theorem impl_wordSet_count_e (x2322 : Int) {r : AV} {H' : Heap} (h : (Ans.mk _ (impl_wordSet_count x2322) (fun (t : Int) => (dI t, [])) [] none).run = some (r, H')) : Awp impl_wordSet_count_ctx LL (bodyOf Tryd.f52) impl_wordSet_count_an ⟨mkE 5 0 [(0, dW x2322)], []⟩ (Ret (tlook tys) Tryd.f52.results.toList r H') :=
  ret_of' (impl_wordSet_count_n1_l x2322) (by unfold impl_wordSet_count; kernel_rfl) (by
  intro t
  exact ret_mk [dI t] (by kernel_rfl) (by kernel_rfl) (by kernel_rfl) (by kernel_rfl)) h

def F_impl_wordSet_count : Fun := fun avs H =>
  match avs, H with
  | [.dat (.int .u64) x2322], [] => ⟨_, impl_wordSet_count x2322, fun (t : Int) => (dI t, []), [], none⟩
  | _, _ => Ans.no

theorem impl_wordSet_count_sound : Sound Tryd.prog 52 F_impl_wordSet_count := by
  refine fn_sound' (C := impl_wordSet_count_ctx) (c := bodyOf Tryd.f52) (cok_of tys_ok (allc math_bits_OnesCount_sound alln) (allc Tryd.call54 alln) (by kernel_rfl)) Tryd.func52 (by kernel_rfl) LL impl_wordSet_count_an ?_
  intro avs H r H' h
  unfold F_impl_wordSet_count at h
  split at h
  · refine Awp.cast ?_ ?_ ?_ (impl_wordSet_count_e _ h) <;> kernel_rfl
  · simp [Ans.no, Ans.run] at h


/-! math/bits.TrailingZeros64 -/

def math_bits_TrailingZeros64_an : Ann := (.seq (.leaf [0]) (.seq (.seq (.leaf [0, 4]) (.cond (.seq (.leaf [2]) (.leaf [2])) (.leaf [0]))) (.seq (.leaf [2]) (.leaf [2]))))

noncomputable def math_bits_TrailingZeros64_ctx : Ctx := ⟨tlook tys, olook [], ioF, 0, false, []⟩

theorem math_bits_TrailingZeros64_n1_l (x2383 : Int) : Link math_bits_TrailingZeros64_ctx LL (bodyOf Tryd.f56) math_bits_TrailingZeros64_an ⟨mkE 14 0 [(0, dW x2383)], []⟩ (math_bits_TrailingZeros64_n1 x2383) (fun (t : Int) => (Exit.ret, ⟨mkE 14 0 [(2, dI t)], []⟩)) := .of fun K h => by
  simp only [math_bits_TrailingZeros64_n1, wpW] at h
  exact .of (by kernel_rfl) h

theorem math_bits_TrailingZeros64_e (x2383 : Int) {r : AV} {H' : Heap} (h : (Ans.mk _ (math_bits_TrailingZeros64 x2383) (fun (t : Int) => (dI t, [])) [] none).run = some (r, H')) : Awp math_bits_TrailingZeros64_ctx LL (bodyOf Tryd.f56) math_bits_TrailingZeros64_an ⟨mkE 14 0 [(0, dW x2383)], []⟩ (Ret (tlook tys) Tryd.f56.results.toList r H') :=
  ret_of' (math_bits_TrailingZeros64_n1_l x2383) (by unfold math_bits_TrailingZeros64; kernel_rfl) (by
  intro t
  exact ret_mk [dI t] (by kernel_rfl) (by kernel_rfl) (by kernel_rfl) (by kernel_rfl)) h

def F_math_bits_TrailingZeros64 : Fun := fun avs H =>
  match avs, H with
  | [.dat (.int .u64) x2383], [] => ⟨_, math_bits_TrailingZeros64 x2383, fun (t : Int) => (dI t, []), [], none⟩
  | _, _ => Ans.no

theorem math_bits_TrailingZeros64_sound : Sound Tryd.prog 56 F_math_bits_TrailingZeros64 := by
  refine fn_sound' (C := math_bits_TrailingZeros64_ctx) (c := bodyOf Tryd.f56) (cok_of tys_ok (alln) (alln) (by kernel_rfl)) Tryd.func56 (by kernel_rfl) LL math_bits_TrailingZeros64_an ?_
  intro avs H r H' h
  unfold F_math_bits_TrailingZeros64 at h
  split at h
  · refine Awp.cast ?_ ?_ ?_ (math_bits_TrailingZeros64_e _ h) <;> kernel_rfl
  · simp [Ans.no, Ans.run] at h


/-! math/bits.TrailingZeros -/

def math_bits_TrailingZeros_an : Ann := (.seq (.leaf [0]) (.seq (.cond (.seq (.leaf [2]) (.leaf [2])) (.leaf [0])) (.seq (.leaf [2]) (.leaf [2]))))

noncomputable def math_bits_TrailingZeros_ctx : Ctx := ⟨tlook tys, olook [(56, F_math_bits_TrailingZeros64)], ioF, 0, false, []⟩

theorem math_bits_TrailingZeros_n1_l (x2382 : Int) : Link math_bits_TrailingZeros_ctx LL (bodyOf Tryd.f53) math_bits_TrailingZeros_an ⟨mkE 8 0 [(0, dW x2382)], []⟩ (math_bits_TrailingZeros_n1 x2382) (fun (t : Int) => (Exit.ret, ⟨mkE 8 0 [(2, dI t)], []⟩)) := .of fun K h => by
  simp only [math_bits_TrailingZeros_n1, wpW] at h
  exact .of (by kernel_rfl) h

theorem math_bits_TrailingZeros_e (x2382 : Int) {r : AV} {H' : Heap} (h : (Ans.mk _ (math_bits_TrailingZeros x2382) (fun (t : Int) => (dI t, [])) [] none).run = some (r, H')) : Awp math_bits_TrailingZeros_ctx LL (bodyOf Tryd.f53) math_bits_TrailingZeros_an ⟨mkE 8 0 [(0, dW x2382)], []⟩ (Ret (tlook tys) Tryd.f53.results.toList r H') :=
  ret_of' (math_bits_TrailingZeros_n1_l x2382) (by unfold math_bits_TrailingZeros; kernel_rfl) (by
  intro t
  exact ret_mk [dI t] (by kernel_rfl) (by kernel_rfl) (by kernel_rfl) (by kernel_rfl)) h

def F_math_bits_TrailingZeros : Fun := fun avs H =>
  match avs, H with
  | [.dat (.int .u64) x2382], [] => ⟨_, math_bits_TrailingZeros x2382, fun (t : Int) => (dI t, []), [], none⟩
  | _, _ => Ans.no

theorem math_bits_TrailingZeros_sound : Sound Tryd.prog 53 F_math_bits_TrailingZeros := by
  refine fn_sound' (C := math_bits_TrailingZeros_ctx) (c := bodyOf Tryd.f53) (cok_of tys_ok (allc math_bits_TrailingZeros64_sound alln) (allc Tryd.call56 alln) (by kernel_rfl)) Tryd.func53 (by kernel_rfl) LL math_bits_TrailingZeros_an ?_
  intro avs H r H' h
  unfold F_math_bits_TrailingZeros at h
  split at h
  · refine Awp.cast ?_ ?_ ?_ (math_bits_TrailingZeros_e _ h) <;> kernel_rfl
  · simp [Ans.no, Ans.run] at h


/-! (loop.example/headtrees/impl.wordSet).list -/

def impl_wordSet_list_an : Ann := (.seq (.leaf [0]) (.seq (.leaf [0, 3]) (.seq (.seq (.leaf [3, 4]) (.block (.loop (.seq (.seq (.leaf [3, 4, 10]) (.cond (.leaf [3, 4]) (.leaf [3]))) (.seq (.block (.leaf [3, 4])) (.leaf [3, 4])))))) (.seq (.leaf [2]) (.leaf [2])))))

noncomputable def impl_wordSet_list_ctx : Ctx := ⟨tlook tys, olook [(52, F_impl_wordSet_count), (53, F_math_bits_TrailingZeros)], ioF, 0, false, []⟩

theorem impl_wordSet_list_n1_l (x2321 : Int) : Link impl_wordSet_list_ctx LL (Code.seq (cq [0] (bodyOf Tryd.f50)) (cq [0,1] (bodyOf Tryd.f50))) (Ann.seq (aq [0] impl_wordSet_list_an) (aq [0,1] impl_wordSet_list_an)) ⟨mkE 22 0 [(0, dW x2321)], []⟩ (impl_wordSet_list_n1 x2321) (fun (t : (List Int)) => (Exit.normal, ⟨mkE 22 0 [(0, dW x2321), (3, .slc 0)], [some (sI t)]⟩)) := .of fun K h => by
  simp only [impl_wordSet_list_n1, wpW] at h
  exact .of (by kernel_rfl) h

theorem impl_wordSet_list_n2_l (x2321 : Int) (x2379 : List Int) : Link impl_wordSet_list_ctx LL (cq [0,0,1,1] (bodyOf Tryd.f50)) (aq [0,0,1,1] impl_wordSet_list_an) ⟨mkE 22 0 [(0, dW x2321), (3, .slc 0)], [some (sI x2379)]⟩ (impl_wordSet_list_n2) (fun (t : Unit) => (Exit.normal, ⟨mkE 22 0 [(3, .slc 0), (4, dW x2321)], [some (sI x2379)]⟩)) := .of fun K h => by
  simp only [impl_wordSet_list_n2, wpW] at h
  exact .of (by kernel_rfl) h

theorem impl_wordSet_list_n3_l (x2422 : Int) (x2423 : List Int) : Link impl_wordSet_list_ctx LL (cq [0,0,1,0,1,1] (bodyOf Tryd.f50)) (aq [0,0,1,0,1,1] impl_wordSet_list_an) ⟨mkE 22 0 [(3, .slc 0), (4, dW x2422)], [some (sI x2423)]⟩ (impl_wordSet_list_n3 x2422 x2423) (Sum.elim (fun (t : Int × (List Int)) => (Exit.normal, ⟨mkE 22 0 [(3, .slc 0), (4, dW t.1)], [some (sI t.2)]⟩)) (fun (t : (List Int)) => ((Exit.exit 0), ⟨mkE 22 0 [(3, .slc 0)], [some (sI t)]⟩))) := .of fun K h => by
  simp only [impl_wordSet_list_n3, wpW] at h
  exact .of (by kernel_rfl) h

def impl_wordSet_list_n4_l (x2321 : Int) (x2379 : List Int) := (link_loop (mk := fun (s : Int × (List Int)) => ⟨mkE 22 0 [(3, .slc 0), (4, dW s.1)], [some (sI s.2)]⟩) (fin := (fun (t : (List Int)) => ((Exit.exit 0), ⟨mkE 22 0 [(3, .slc 0)], [some (sI t)]⟩))) (by
  rintro t f K h
  · exact h) (fun s => link_map (impl_wordSet_list_n3_l s.1 s.2) (Sum.elim (fun (t : Int × (List Int)) => Sum.inl (t.1, t.2)) (fun (t : (List Int)) => Sum.inr t)) (by
  rintro (t | t)
  · kernel_rfl
  · kernel_rfl)) (x2321, x2379))

def impl_wordSet_list_n5_l (x2321 : Int) (x2379 : List Int) := (link_block (fin2 := (fun (t : (List Int)) => (Exit.normal, ⟨mkE 22 0 [(3, .slc 0)], [some (sI t)]⟩))) (id := 0) (impl_wordSet_list_n4_l x2321 x2379) (fun (t : (List Int)) => t) (by
  rintro t K h
  · exact Eq.mp (by kernel_rfl) h))

def impl_wordSet_list_n6_l (x2321 : Int) (x2379 : List Int) := (link_seq (impl_wordSet_list_n2_l x2321 x2379) (fun (t : Unit) => (impl_wordSet_list_n5_l x2321 x2379)))

theorem impl_wordSet_list_n7_l (x2423 : List Int) : Link impl_wordSet_list_ctx LL (cq [1,1,1] (bodyOf Tryd.f50)) (aq [1,1,1] impl_wordSet_list_an) ⟨mkE 22 0 [(3, .slc 0)], [some (sI x2423)]⟩ (impl_wordSet_list_n7 x2423) (fun (t : (List Int)) => (Exit.ret, ⟨mkE 22 0 [(2, .slc 0)], [some (sI t)]⟩)) := .of fun K h => by
  simp only [impl_wordSet_list_n7, wpW] at h
  exact .of (by kernel_rfl) h

def impl_wordSet_list_n8_l (x2321 : Int) (x2379 : List Int) := (link_seq (impl_wordSet_list_n6_l x2321 x2379) (fun (t : (List Int)) => (impl_wordSet_list_n7_l t)))

def impl_wordSet_list_n9_l (x2321 : Int) := (link_group (c := (cq [0,1] (bodyOf Tryd.f50))) (a := (aq [0,1] impl_wordSet_list_an)) [(cq [0] (bodyOf Tryd.f50))] [(aq [0] impl_wordSet_list_an)] rfl (link_seq (impl_wordSet_list_n1_l x2321) (fun (t : (List Int)) => (impl_wordSet_list_n8_l x2321 t))))

theorem impl_wordSet_list_e (x2321 : Int) {r : AV} {H' : Heap} (h : (Ans.mk _ (impl_wordSet_list x2321) (fun (t : (List Int)) => (.slc 0, [some (sI t)])) [] none).run = some (r, H')) : Awp impl_wordSet_list_ctx LL (bodyOf Tryd.f50) impl_wordSet_list_an ⟨mkE 22 0 [(0, dW x2321)], []⟩ (Ret (tlook tys) Tryd.f50.results.toList r H') :=
  ret_of' (Link.cast (by kernel_rfl) (by kernel_rfl) (impl_wordSet_list_n9_l x2321)) (by unfold impl_wordSet_list; kernel_rfl) (by
  intro t
  exact ret_mk [.slc 0] (by kernel_rfl) (by kernel_rfl) (by kernel_rfl) (by kernel_rfl)) h

def F_impl_wordSet_list : Fun := fun avs H =>
  match avs, H with
  | [.dat (.int .u64) x2321], [] => ⟨_, impl_wordSet_list x2321, fun (t : (List Int)) => (.slc 0, [some (sI t)]), [], none⟩
  | _, _ => Ans.no

theorem impl_wordSet_list_sound : Sound Tryd.prog 50 F_impl_wordSet_list := by
  refine fn_sound' (C := impl_wordSet_list_ctx) (c := bodyOf Tryd.f50) (cok_of tys_ok (allc impl_wordSet_count_sound (allc math_bits_TrailingZeros_sound alln)) (allc Tryd.call52 (allc Tryd.call53 alln)) (by kernel_rfl)) Tryd.func50 (by kernel_rfl) LL impl_wordSet_list_an ?_
  intro avs H r H' h
  unfold F_impl_wordSet_list at h
  split at h
  · refine Awp.cast ?_ ?_ ?_ (impl_wordSet_list_e _ h) <;> kernel_rfl
  · simp [Ans.no, Ans.run] at h


/-! loop.example/headtrees/impl.appendFlat, loop.example/headtrees/impl.appendEachFlat -/

def impl_appendFlat_an : Ann := (.seq (.leaf [0, 1, 2]) (.seq (.leaf [0, 1, 2, 7, 8]) (.seq (.leaf [0, 1, 8]) (.seq (.leaf [6]) (.leaf [6])))))

def impl_appendEachFlat_an : Ann := (.seq (.leaf [0, 1, 2]) (.seq (.seq (.leaf [0, 1, 10, 11, 12]) (.block (.loop (.seq (.leaf [0, 1, 10, 11, 12, 13]) (.seq (.cond (.leaf [0, 1, 10, 11, 12]) (.leaf [0])) (.seq (.block (.seq (.leaf [0, 1, 8, 10, 11, 12]) (.leaf [0, 1, 10, 11, 12]))) (.leaf [0, 1, 10, 11, 12]))))))) (.seq (.leaf [6]) (.leaf [6]))))

def F_impl_appendFlat_fuel (n : Nat) : Fun := fun avs H =>
  match avs, H with
  | [.slc 0, .dat (.list (.int .i64)) x2245, .dat (.int .i64) x2246], [some (.seq (.int .i64) x2247)] => ⟨_, impl_appendFlat_fuel n x2245 x2246 x2247, fun (t : (List Int)) => (.slc 0, [some (sI t)]), [0], none⟩
  | _, _ => Ans.no

def F_impl_appendEachFlat_fuel (n : Nat) : Fun := fun avs H =>
  match avs, H with
  | [.slc 0, .dat (.list (.int .i64)) x2484, .dat (.int .u64) x2485], [some (.seq (.int .i64) x2486)] => ⟨_, impl_appendEachFlat_fuel n x2484 x2485 x2486, fun (t : (List Int)) => (.slc 0, [some (sI t)]), [0], none⟩
  | _, _ => Ans.no

noncomputable def impl_appendFlat_ctx (n : Nat) : Ctx := ⟨tlook tys, olook [(46, F_impl_dependentsBeside), (47, F_impl_appendEachFlat_fuel n)], ioF, 1, false, [0]⟩

noncomputable def impl_appendEachFlat_ctx (n : Nat) : Ctx := ⟨tlook tys, olook [(50, F_impl_wordSet_list), (40, F_impl_appendFlat_fuel n)], ioF, 1, false, [0]⟩

theorem impl_appendFlat_n1_l (n : Nat) (x2245 : List Int) (x2246 : Int) (x2247 : List Int) : Link (impl_appendFlat_ctx n) LL (bodyOf Tryd.f40) impl_appendFlat_an ⟨mkE 26 0 [(0, .slc 0), (1, dL x2245), (2, dI x2246)], [some (sI x2247)]⟩ (impl_appendFlat_n1 (impl_appendFlat_fuel n) (impl_appendEachFlat_fuel n) x2245 x2246 x2247) (fun (t : (List Int)) => (Exit.ret, ⟨mkE 26 0 [(6, .slc 0)], [some (sI t)]⟩)) := .of fun K h => by
  simp only [impl_appendFlat_n1, wpW] at h
  exact .of (by kernel_rfl) h

theorem impl_appendFlat_e (n : Nat) (x2245 : List Int) (x2246 : Int) (x2247 : List Int) {r : AV} {H' : Heap} (h : (Ans.mk _ (impl_appendFlat_fuel (n + 1) x2245 x2246 x2247) (fun (t : (List Int)) => (.slc 0, [some (sI t)])) [0] none).run = some (r, H')) : Awp (impl_appendFlat_ctx n) LL (bodyOf Tryd.f40) impl_appendFlat_an ⟨mkE 26 0 [(0, .slc 0), (1, dL x2245), (2, dI x2246)], [some (sI x2247)]⟩ (Ret (tlook tys) Tryd.f40.results.toList r H') :=
  ret_of' (impl_appendFlat_n1_l n x2245 x2246 x2247) (by (show _ = _); kernel_rfl) (by
  intro t
  exact ret_mk [.slc 0] (by kernel_rfl) (by kernel_rfl) (by kernel_rfl) (by kernel_rfl)) h

theorem impl_appendEachFlat_n1_l (n : Nat) (x2484 : List Int) (x2485 : Int) (x2486 : List Int) : Link (impl_appendEachFlat_ctx n) LL (cq [0] (bodyOf Tryd.f47)) (aq [0] impl_appendEachFlat_an) ⟨mkE 22 0 [(0, .slc 0), (1, dL x2484), (2, dW x2485)], [some (sI x2486)]⟩ (impl_appendEachFlat_n1 (impl_appendFlat_fuel n) (impl_appendEachFlat_fuel n)) (fun (t : Unit) => (Exit.normal, ⟨mkE 22 0 [(0, .slc 0), (1, dL x2484), (2, dW x2485)], [some (sI x2486)]⟩)) := .of fun K h => by
  simp only [impl_appendEachFlat_n1, wpW] at h
  exact .of (by kernel_rfl) h

theorem impl_appendEachFlat_n2_l (n : Nat) (x2484 : List Int) (x2485 : Int) (x2486 : List Int) : Link (impl_appendEachFlat_ctx n) LL (cq [0,0,1] (bodyOf Tryd.f47)) (aq [0,0,1] impl_appendEachFlat_an) ⟨mkE 22 0 [(0, .slc 0), (1, dL x2484), (2, dW x2485)], [some (sI x2486)]⟩ (impl_appendEachFlat_n2 (impl_appendFlat_fuel n) (impl_appendEachFlat_fuel n) x2485) (fun (t : Int × (List Int)) => (Exit.normal, ⟨mkE 22 0 [(0, .slc 0), (1, dL x2484), (10, .slc 1), (11, dI t.1), (12, dI 0)], [some (sI x2486), some (sI t.2)]⟩)) := .of fun K h => by
  simp only [impl_appendEachFlat_n2, wpW] at h
  exact .of (by kernel_rfl) h

theorem impl_appendEachFlat_n3_l (n : Nat) (x2484 : List Int) (x2514 : Int) (x2526 : Int) (x2527 : List Int) (x2513 : List Int) : Link (impl_appendEachFlat_ctx n) LL (cq [0,0,1,0,1] (bodyOf Tryd.f47)) (aq [0,0,1,0,1] impl_appendEachFlat_an) ⟨mkE 22 0 [(0, .slc 0), (1, dL x2484), (10, .slc 1), (11, dI x2514), (12, dI x2526)], [some (sI x2527), some (sI x2513)]⟩ (impl_appendEachFlat_n3 (impl_appendFlat_fuel n) (impl_appendEachFlat_fuel n) x2484 x2514 x2526 x2527 x2513) (Sum.elim (fun (t : Int × (List Int)) => (Exit.normal, ⟨mkE 22 0 [(0, .slc 0), (1, dL x2484), (10, .slc 1), (11, dI x2514), (12, dI t.1)], [some (sI t.2), some (sI x2513)]⟩)) (fun (t : (List Int)) => ((Exit.exit 0), ⟨mkE 22 0 [(0, .slc 0)], [some (sI t)]⟩))) := .of fun K h => by
  simp only [impl_appendEachFlat_n3, wpW] at h
  exact .of (by kernel_rfl) h

def impl_appendEachFlat_n4_l (n : Nat) (x2484 : List Int) (x2514 : Int) (x2486 : List Int) (x2513 : List Int) := (link_loop (mk := fun (s : Int × (List Int)) => ⟨mkE 22 0 [(0, .slc 0), (1, dL x2484), (10, .slc 1), (11, dI x2514), (12, dI s.1)], [some (sI s.2), some (sI x2513)]⟩) (fin := (fun (t : (List Int)) => ((Exit.exit 0), ⟨mkE 22 0 [(0, .slc 0)], [some (sI t)]⟩))) (by
  rintro t f K h
  · exact h) (fun s => link_map (impl_appendEachFlat_n3_l n x2484 x2514 s.1 s.2 x2513) (Sum.elim (fun (t : Int × (List Int)) => Sum.inl (t.1, t.2)) (fun (t : (List Int)) => Sum.inr t)) (by
  rintro (t | t)
  · kernel_rfl
  · kernel_rfl)) (0, x2486))

def impl_appendEachFlat_n5_l (n : Nat) (x2484 : List Int) (x2514 : Int) (x2486 : List Int) (x2513 : List Int) := (link_block (fin2 := (fun (t : (List Int)) => (Exit.normal, ⟨mkE 22 0 [(0, .slc 0)], [some (sI t)]⟩))) (id := 0) (impl_appendEachFlat_n4_l n x2484 x2514 x2486 x2513) (fun (t : (List Int)) => t) (by
  rintro t K h
  · exact Eq.mp (by kernel_rfl) h))

def impl_appendEachFlat_n6_l (n : Nat) (x2484 : List Int) (x2485 : Int) (x2486 : List Int) := (link_seq (impl_appendEachFlat_n2_l n x2484 x2485 x2486) (fun (t : Int × (List Int)) => (impl_appendEachFlat_n5_l n x2484 t.1 x2486 t.2)))

theorem impl_appendEachFlat_n7_l (n : Nat) (x2527 : List Int) : Link (impl_appendEachFlat_ctx n) LL (cq [1,1] (bodyOf Tryd.f47)) (aq [1,1] impl_appendEachFlat_an) ⟨mkE 22 0 [(0, .slc 0)], [some (sI x2527)]⟩ (impl_appendEachFlat_n7 (impl_appendFlat_fuel n) (impl_appendEachFlat_fuel n) x2527) (fun (t : (List Int)) => (Exit.ret, ⟨mkE 22 0 [(6, .slc 0)], [some (sI t)]⟩)) := .of fun K h => by
  simp only [impl_appendEachFlat_n7, wpW] at h
  exact .of (by kernel_rfl) h

def impl_appendEachFlat_n8_l (n : Nat) (x2484 : List Int) (x2485 : Int) (x2486 : List Int) := (link_seq (impl_appendEachFlat_n6_l n x2484 x2485 x2486) (fun (t : (List Int)) => (impl_appendEachFlat_n7_l n t)))

def impl_appendEachFlat_n9_l (n : Nat) (x2484 : List Int) (x2485 : Int) (x2486 : List Int) := (link_seq (impl_appendEachFlat_n1_l n x2484 x2485 x2486) (fun (t : Unit) => (impl_appendEachFlat_n8_l n x2484 x2485 x2486)))

theorem impl_appendEachFlat_e (n : Nat) (x2484 : List Int) (x2485 : Int) (x2486 : List Int) {r : AV} {H' : Heap} (h : (Ans.mk _ (impl_appendEachFlat_fuel (n + 1) x2484 x2485 x2486) (fun (t : (List Int)) => (.slc 0, [some (sI t)])) [0] none).run = some (r, H')) : Awp (impl_appendEachFlat_ctx n) LL (bodyOf Tryd.f47) impl_appendEachFlat_an ⟨mkE 22 0 [(0, .slc 0), (1, dL x2484), (2, dW x2485)], [some (sI x2486)]⟩ (Ret (tlook tys) Tryd.f47.results.toList r H') :=
  ret_of' (Link.cast (by kernel_rfl) (by kernel_rfl) (impl_appendEachFlat_n9_l n x2484 x2485 x2486)) (by (show _ = _); kernel_rfl) (by
  intro t
  exact ret_mk [.slc 0] (by kernel_rfl) (by kernel_rfl) (by kernel_rfl) (by kernel_rfl)) h

theorem impl_appendFlat_step (n : Nat) (h40 : Sound Tryd.prog 40 (F_impl_appendFlat_fuel n)) (h47 : Sound Tryd.prog 47 (F_impl_appendEachFlat_fuel n)) : Sound Tryd.prog 40 (F_impl_appendFlat_fuel (n + 1)) := by
  refine fn_sound' (C := impl_appendFlat_ctx n) (c := bodyOf Tryd.f40) (cok_of tys_ok (allc impl_dependentsBeside_sound (allc h47 alln)) (allc Tryd.call46 (allc Tryd.call47 alln)) (by kernel_rfl)) Tryd.func40 (by kernel_rfl) LL impl_appendFlat_an ?_
  intro avs H r H' h
  unfold F_impl_appendFlat_fuel at h
  split at h
  · refine Awp.cast ?_ ?_ ?_ (impl_appendFlat_e n _ _ _ h) <;> kernel_rfl
  · simp [Ans.no, Ans.run] at h

theorem impl_appendFlat_null : Sound Tryd.prog 40 (F_impl_appendFlat_fuel 0) := by
  intro avs H r H' h
  unfold F_impl_appendFlat_fuel at h
  split at h
  · simp [impl_appendFlat_fuel, impl_appendFlat_knot, Ans.run] at h
  · simp [Ans.no, Ans.run] at h

theorem impl_appendEachFlat_step (n : Nat) (h40 : Sound Tryd.prog 40 (F_impl_appendFlat_fuel n)) (h47 : Sound Tryd.prog 47 (F_impl_appendEachFlat_fuel n)) : Sound Tryd.prog 47 (F_impl_appendEachFlat_fuel (n + 1)) := by
  refine fn_sound' (C := impl_appendEachFlat_ctx n) (c := bodyOf Tryd.f47) (cok_of tys_ok (allc impl_wordSet_list_sound (allc h40 alln)) (allc Tryd.call50 (allc Tryd.call40 alln)) (by kernel_rfl)) Tryd.func47 (by kernel_rfl) LL impl_appendEachFlat_an ?_
  intro avs H r H' h
  unfold F_impl_appendEachFlat_fuel at h
  split at h
  · refine Awp.cast ?_ ?_ ?_ (impl_appendEachFlat_e n _ _ _ h) <;> kernel_rfl
  · simp [Ans.no, Ans.run] at h

theorem impl_appendEachFlat_null : Sound Tryd.prog 47 (F_impl_appendEachFlat_fuel 0) := by
  intro avs H r H' h
  unfold F_impl_appendEachFlat_fuel at h
  split at h
  · simp [impl_appendEachFlat_fuel, impl_appendFlat_knot, Ans.run] at h
  · simp [Ans.no, Ans.run] at h

theorem impl_appendFlat_knot_all : ∀ n, Sound Tryd.prog 40 (F_impl_appendFlat_fuel n) ∧ Sound Tryd.prog 47 (F_impl_appendEachFlat_fuel n)
  | 0 => ⟨impl_appendFlat_null, impl_appendEachFlat_null⟩
  | n + 1 => by
    obtain ⟨h40, h47⟩ := impl_appendFlat_knot_all n
    exact ⟨impl_appendFlat_step n h40 h47, impl_appendEachFlat_step n h40 h47⟩

def F_impl_appendFlat : Fun := fun avs H =>
  match avs, H with
  | [.slc 0, .dat (.list (.int .i64)) x2245, .dat (.int .i64) x2246], [some (.seq (.int .i64) x2247)] => ⟨_, impl_appendFlat x2245 x2246 x2247, fun (t : (List Int)) => (.slc 0, [some (sI t)]), [0], none⟩
  | _, _ => Ans.no

theorem impl_appendFlat_sound : Sound Tryd.prog 40 F_impl_appendFlat := by
  have e : F_impl_appendFlat = F_impl_appendFlat_fuel RR := by
    funext avs H
    unfold F_impl_appendFlat F_impl_appendFlat_fuel
    split <;> first | rfl | (simp only [impl_appendFlat])
  rw [e]
  exact (impl_appendFlat_knot_all RR).1

def F_impl_appendEachFlat : Fun := fun avs H =>
  match avs, H with
  | [.slc 0, .dat (.list (.int .i64)) x2484, .dat (.int .u64) x2485], [some (.seq (.int .i64) x2486)] => ⟨_, impl_appendEachFlat x2484 x2485 x2486, fun (t : (List Int)) => (.slc 0, [some (sI t)]), [0], none⟩
  | _, _ => Ans.no

theorem impl_appendEachFlat_sound : Sound Tryd.prog 47 F_impl_appendEachFlat := by
  have e : F_impl_appendEachFlat = F_impl_appendEachFlat_fuel RR := by
    funext avs H
    unfold F_impl_appendEachFlat F_impl_appendEachFlat_fuel
    split <;> first | rfl | (simp only [impl_appendEachFlat])
  rw [e]
  exact (impl_appendFlat_knot_all RR).2


/-! loop.example/headtrees/impl.FlatOrder -/

def impl_FlatOrder_an : Ann := (.seq (.leaf [0]) (.seq (.seq (.leaf [0, 5]) (.cond (.seq (.leaf [2]) (.leaf [2])) (.leaf [0]))) (.seq (.draw [5, 100006] [0, 1, 3, 4, 5, 2, 6, 7] [] [2]) (.leaf [2]))))

noncomputable def impl_FlatOrder_ctx : Ctx := ⟨tlook tys, olook [(18, F_impl_TreeOk), (41, F_impl_RootOf), (40, F_impl_appendFlat)], ioF, 0, false, []⟩

theorem impl_FlatOrder_n1_l (x2204 : List Int) : Link impl_FlatOrder_ctx LL (bodyOf Tryd.f23) impl_FlatOrder_an ⟨mkE 13 0 [(0, dL x2204)], []⟩ (impl_FlatOrder_n1 x2204) (fun (t : (List Int)) => (Exit.ret, ⟨mkE 13 0 [(2, .slc 0)], [some (sI t)]⟩)) := .of fun K h => by
  simp only [impl_FlatOrder_n1, wpW] at h
  exact .of (by kernel_rfl) h

theorem impl_FlatOrder_e (x2204 : List Int) {r : AV} {H' : Heap} (h : (Ans.mk _ (impl_FlatOrder x2204) (fun (t : (List Int)) => (.slc 0, [some (sI t)])) [] none).run = some (r, H')) : Awp impl_FlatOrder_ctx LL (bodyOf Tryd.f23) impl_FlatOrder_an ⟨mkE 13 0 [(0, dL x2204)], []⟩ (Ret (tlook tys) Tryd.f23.results.toList r H') :=
  ret_of' (impl_FlatOrder_n1_l x2204) (by unfold impl_FlatOrder; kernel_rfl) (by
  intro t
  exact ret_mk [.slc 0] (by kernel_rfl) (by kernel_rfl) (by kernel_rfl) (by kernel_rfl)) h

def F_impl_FlatOrder : Fun := fun avs H =>
  match avs, H with
  | [.dat (.list (.int .i64)) x2204], [] => ⟨_, impl_FlatOrder x2204, fun (t : (List Int)) => (.slc 0, [some (sI t)]), [], none⟩
  | _, _ => Ans.no

theorem impl_FlatOrder_sound : Sound Tryd.prog 23 F_impl_FlatOrder := by
  refine fn_sound' (C := impl_FlatOrder_ctx) (c := bodyOf Tryd.f23) (cok_of tys_ok (allc impl_TreeOk_sound (allc impl_RootOf_sound (allc impl_appendFlat_sound alln))) (allc Tryd.call18 (allc Tryd.call41 (allc Tryd.call40 alln))) (by kernel_rfl)) Tryd.func23 (by kernel_rfl) LL impl_FlatOrder_an ?_
  intro avs H r H' h
  unfold F_impl_FlatOrder at h
  split at h
  · refine Awp.cast ?_ ?_ ?_ (impl_FlatOrder_e _ h) <;> kernel_rfl
  · simp [Ans.no, Ans.run] at h


/-! loop.example/headtrees/impl.OrderOk -/

def impl_OrderOk_an : Ann := (.seq (.leaf [0, 1]) (.seq (.seq (.leaf [0, 1, 19]) (.cond (.seq (.leaf [4]) (.leaf [4])) (.leaf [0, 1]))) (.seq (.leaf [0, 1, 5]) (.seq (.seq (.leaf [1, 5, 20, 21, 22]) (.block (.loop (.seq (.leaf [1, 5, 20, 21, 22, 23]) (.seq (.cond (.leaf [1, 5, 20, 21, 22]) (.leaf [])) (.seq (.block (.seq (.leaf [1, 5, 7, 20, 21, 22]) (.seq (.seq (.leaf [1, 5, 7, 20, 21, 22, 37]) (.cond (.seq (.leaf [4]) (.leaf [4])) (.leaf [1, 5, 7, 20, 21, 22]))) (.leaf [1, 5, 20, 21, 22])))) (.leaf [1, 5, 20, 21, 22]))))))) (.seq (.leaf [4]) (.leaf [4]))))))

noncomputable def impl_OrderOk_ctx : Ctx := ⟨tlook tys, olook [], ioF, 0, false, []⟩

theorem impl_OrderOk_n1_l (x2585 : List Int) (x2586 : Int) : Link impl_OrderOk_ctx LL (Code.seq (cq [0] (bodyOf Tryd.f36)) (Code.seq (cq [0,1] (bodyOf Tryd.f36)) (cq [0,1,1] (bodyOf Tryd.f36)))) (Ann.seq (aq [0] impl_OrderOk_an) (Ann.seq (aq [0,1] impl_OrderOk_an) (aq [0,1,1] impl_OrderOk_an))) ⟨mkE 41 0 [(0, dL x2585), (1, dI x2586)], []⟩ (impl_OrderOk_n1 x2585 x2586) (Sum.elim (fun (t : Unit) => (Exit.normal, ⟨mkE 41 0 [(0, dL x2585), (1, dI x2586), (5, .ptr 0 0)], [some (.seq .bool (List.replicate 9 false))]⟩)) (fun (t : Bool) => (Exit.ret, ⟨mkE 41 0 [(4, dB t)], []⟩))) := .of fun K h => by
  simp only [impl_OrderOk_n1, wpW] at h
  exact .of (by kernel_rfl) h

theorem impl_OrderOk_n2_l (x2585 : List Int) (x2586 : Int) : Link impl_OrderOk_ctx LL (cq [0,0,1,1,1] (bodyOf Tryd.f36)) (aq [0,0,1,1,1] impl_OrderOk_an) ⟨mkE 41 0 [(0, dL x2585), (1, dI x2586), (5, .ptr 0 0)], [some (.seq .bool (List.replicate 9 false))]⟩ (impl_OrderOk_n2 x2585) (fun (t : Int) => (Exit.normal, ⟨mkE 41 0 [(1, dI x2586), (5, .ptr 0 0), (20, dL x2585), (21, dI t), (22, dI 0)], [some (.seq .bool (List.replicate 9 false))]⟩)) := .of fun K h => by
  simp only [impl_OrderOk_n2, wpW] at h
  exact .of (by kernel_rfl) h

theorem impl_OrderOk_n3_l (x2586 : Int) (x2585 : List Int) (x2596 : Int) (x2620 : Int) (x2621 : List Bool) : Link impl_OrderOk_ctx LL (cq [0,0,1,0,1,1,1] (bodyOf Tryd.f36)) (aq [0,0,1,0,1,1,1] impl_OrderOk_an) ⟨mkE 41 0 [(1, dI x2586), (5, .ptr 0 0), (20, dL x2585), (21, dI x2596), (22, dI x2620)], [some (.seq .bool x2621)]⟩ (impl_OrderOk_n3 x2586 x2585 x2596 x2620 x2621) (Sum.elim (fun (t : Int × (List Bool)) => (Exit.normal, ⟨mkE 41 0 [(1, dI x2586), (5, .ptr 0 0), (20, dL x2585), (21, dI x2596), (22, dI t.1)], [some (.seq .bool t.2)]⟩)) (Sum.elim (fun (t : Bool) => (Exit.ret, ⟨mkE 41 0 [(4, dB t)], []⟩)) (fun (t : Unit) => ((Exit.exit 0), ⟨mkE 41 0 [], []⟩)))) := .of fun K h => by
  simp only [impl_OrderOk_n3, wpW] at h
  exact .of (by kernel_rfl) h

def impl_OrderOk_n4_l (x2586 : Int) (x2585 : List Int) (x2596 : Int) := (link_loop (mk := fun (s : Int × (List Bool)) => ⟨mkE 41 0 [(1, dI x2586), (5, .ptr 0 0), (20, dL x2585), (21, dI x2596), (22, dI s.1)], [some (.seq .bool s.2)]⟩) (fin := (Sum.elim (fun (t : Bool) => (Exit.ret, ⟨mkE 41 0 [(4, dB t)], []⟩)) (fun (t : Unit) => ((Exit.exit 0), ⟨mkE 41 0 [], []⟩)))) (by
  rintro (t | t) f K h
  · exact h
  · exact h) (fun s => link_map (impl_OrderOk_n3_l x2586 x2585 x2596 s.1 s.2) (Sum.elim (fun (t : Int × (List Bool)) => Sum.inl (t.1, t.2)) (Sum.elim (fun (t : Bool) => Sum.inr (Sum.inl t)) (fun (t : Unit) => Sum.inr (Sum.inr t)))) (by
  rintro (t | t | t)
  · kernel_rfl
  · kernel_rfl
  · kernel_rfl)) (0, (List.replicate 9 false)))

def impl_OrderOk_n5_l (x2586 : Int) (x2585 : List Int) (x2596 : Int) := (link_block (fin2 := (Sum.elim (fun (t : Unit) => (Exit.normal, ⟨mkE 41 0 [], []⟩)) (fun (t : Bool) => (Exit.ret, ⟨mkE 41 0 [(4, dB t)], []⟩)))) (id := 0) (impl_OrderOk_n4_l x2586 x2585 x2596) (Sum.elim (fun (t : Bool) => (Sum.inr t)) (fun (t : Unit) => (Sum.inl ()))) (by
  rintro (t | t) K h
  · exact Eq.mp (by kernel_rfl) h
  · exact Eq.mp (by kernel_rfl) h))

def impl_OrderOk_n6_l (x2585 : List Int) (x2586 : Int) := (link_seq (impl_OrderOk_n2_l x2585 x2586) (fun (t : Int) => (impl_OrderOk_n5_l x2586 x2585 t)))

theorem impl_OrderOk_n7_l : Link impl_OrderOk_ctx LL (cq [1,1,1,1] (bodyOf Tryd.f36)) (aq [1,1,1,1] impl_OrderOk_an) ⟨mkE 41 0 [], []⟩ (impl_OrderOk_n7) (fun (t : Bool) => (Exit.ret, ⟨mkE 41 0 [(4, dB t)], []⟩)) := .of fun K h => by
  simp only [impl_OrderOk_n7, wpW] at h
  exact .of (by kernel_rfl) h

def impl_OrderOk_n8_l (x2585 : List Int) (x2586 : Int) := (link_seq2 (impl_OrderOk_n6_l x2585 x2586) (fun (t : Unit) => (impl_OrderOk_n7_l)) (fun (t : Bool) => t) (by
  rintro t
  · kernel_rfl) (by
  rintro t f K h
  · exact h))

def impl_OrderOk_n9_l (x2585 : List Int) (x2586 : Int) := (link_group (c := (cq [0,1,1] (bodyOf Tryd.f36))) (a := (aq [0,1,1] impl_OrderOk_an)) [(cq [0] (bodyOf Tryd.f36)), (cq [0,1] (bodyOf Tryd.f36))] [(aq [0] impl_OrderOk_an), (aq [0,1] impl_OrderOk_an)] rfl (link_seq2 (impl_OrderOk_n1_l x2585 x2586) (fun (t : Unit) => (impl_OrderOk_n8_l x2585 x2586)) (fun (t : Bool) => t) (by
  rintro t
  · kernel_rfl) (by
  rintro t f K h
  · exact h)))

theorem impl_OrderOk_e (x2585 : List Int) (x2586 : Int) {r : AV} {H' : Heap} (h : (Ans.mk _ (impl_OrderOk x2585 x2586) (fun (t : Bool) => (dB t, [])) [] none).run = some (r, H')) : Awp impl_OrderOk_ctx LL (bodyOf Tryd.f36) impl_OrderOk_an ⟨mkE 41 0 [(0, dL x2585), (1, dI x2586)], []⟩ (Ret (tlook tys) Tryd.f36.results.toList r H') :=
  ret_of' (Link.cast (by kernel_rfl) (by kernel_rfl) (impl_OrderOk_n9_l x2585 x2586)) (by unfold impl_OrderOk; kernel_rfl) (by
  intro t
  exact ret_mk [dB t] (by kernel_rfl) (by kernel_rfl) (by kernel_rfl) (by kernel_rfl)) h

def F_impl_OrderOk : Fun := fun avs H =>
  match avs, H with
  | [.dat (.list (.int .i64)) x2585, .dat (.int .i64) x2586], [] => ⟨_, impl_OrderOk x2585 x2586, fun (t : Bool) => (dB t, []), [], none⟩
  | _, _ => Ans.no

theorem impl_OrderOk_sound : Sound Tryd.prog 36 F_impl_OrderOk := by
  refine fn_sound' (C := impl_OrderOk_ctx) (c := bodyOf Tryd.f36) (cok_of tys_ok (alln) (alln) (by kernel_rfl)) Tryd.func36 (by kernel_rfl) LL impl_OrderOk_an ?_
  intro avs H r H' h
  unfold F_impl_OrderOk at h
  split at h
  · refine Awp.cast ?_ ?_ ?_ (impl_OrderOk_e _ _ h) <;> kernel_rfl
  · simp [Ans.no, Ans.run] at h


/-! loop.example/headtrees/impl.placesIn -/

def impl_placesIn_an : Ann := (.seq (.leaf [0]) (.seq (.leaf [0, 3]) (.seq (.seq (.leaf [3, 10, 11, 12]) (.block (.loop (.seq (.leaf [3, 10, 11, 12, 13]) (.seq (.cond (.leaf [3, 10, 11, 12]) (.leaf [3])) (.seq (.block (.seq (.leaf [3, 4, 5, 10, 11, 12]) (.leaf [3, 10, 11, 12]))) (.leaf [3, 10, 11, 12]))))))) (.seq (.leaf [2]) (.leaf [2])))))

noncomputable def impl_placesIn_ctx : Ctx := ⟨tlook tys, olook [], ioF, 0, false, []⟩

theorem impl_placesIn_n1_l (x2653 : List Int) : Link impl_placesIn_ctx LL (Code.seq (cq [0] (bodyOf Tryd.f37)) (cq [0,1] (bodyOf Tryd.f37))) (Ann.seq (aq [0] impl_placesIn_an) (aq [0,1] impl_placesIn_an)) ⟨mkE 24 0 [(0, dL x2653)], []⟩ (impl_placesIn_n1 x2653) (fun (t : (List Int)) => (Exit.normal, ⟨mkE 24 0 [(0, dL x2653), (3, .slc 0)], [some (sI t)]⟩)) := .of fun K h => by
  simp only [impl_placesIn_n1, wpW] at h
  exact .of (by kernel_rfl) h

theorem impl_placesIn_n2_l (x2653 : List Int) (x2657 : List Int) : Link impl_placesIn_ctx LL (cq [0,0,1,1] (bodyOf Tryd.f37)) (aq [0,0,1,1] impl_placesIn_an) ⟨mkE 24 0 [(0, dL x2653), (3, .slc 0)], [some (sI x2657)]⟩ (impl_placesIn_n2 x2653) (fun (t : Int) => (Exit.normal, ⟨mkE 24 0 [(3, .slc 0), (10, dL x2653), (11, dI t), (12, dI 0)], [some (sI x2657)]⟩)) := .of fun K h => by
  simp only [impl_placesIn_n2, wpW] at h
  exact .of (by kernel_rfl) h

theorem impl_placesIn_n3_l (x2653 : List Int) (x2658 : Int) (x2672 : Int) (x2673 : List Int) : Link impl_placesIn_ctx LL (cq [0,0,1,0,1,1] (bodyOf Tryd.f37)) (aq [0,0,1,0,1,1] impl_placesIn_an) ⟨mkE 24 0 [(3, .slc 0), (10, dL x2653), (11, dI x2658), (12, dI x2672)], [some (sI x2673)]⟩ (impl_placesIn_n3 x2653 x2658 x2672 x2673) (Sum.elim (fun (t : Int × (List Int)) => (Exit.normal, ⟨mkE 24 0 [(3, .slc 0), (10, dL x2653), (11, dI x2658), (12, dI t.1)], [some (sI t.2)]⟩)) (fun (t : (List Int)) => ((Exit.exit 0), ⟨mkE 24 0 [(3, .slc 0)], [some (sI t)]⟩))) := .of fun K h => by
  simp only [impl_placesIn_n3, wpW] at h
  exact .of (by kernel_rfl) h

def impl_placesIn_n4_l (x2653 : List Int) (x2658 : Int) (x2657 : List Int) := (link_loop (mk := fun (s : Int × (List Int)) => ⟨mkE 24 0 [(3, .slc 0), (10, dL x2653), (11, dI x2658), (12, dI s.1)], [some (sI s.2)]⟩) (fin := (fun (t : (List Int)) => ((Exit.exit 0), ⟨mkE 24 0 [(3, .slc 0)], [some (sI t)]⟩))) (by
  rintro t f K h
  · exact h) (fun s => link_map (impl_placesIn_n3_l x2653 x2658 s.1 s.2) (Sum.elim (fun (t : Int × (List Int)) => Sum.inl (t.1, t.2)) (fun (t : (List Int)) => Sum.inr t)) (by
  rintro (t | t)
  · kernel_rfl
  · kernel_rfl)) (0, x2657))

def impl_placesIn_n5_l (x2653 : List Int) (x2658 : Int) (x2657 : List Int) := (link_block (fin2 := (fun (t : (List Int)) => (Exit.normal, ⟨mkE 24 0 [(3, .slc 0)], [some (sI t)]⟩))) (id := 0) (impl_placesIn_n4_l x2653 x2658 x2657) (fun (t : (List Int)) => t) (by
  rintro t K h
  · exact Eq.mp (by kernel_rfl) h))

def impl_placesIn_n6_l (x2653 : List Int) (x2657 : List Int) := (link_seq (impl_placesIn_n2_l x2653 x2657) (fun (t : Int) => (impl_placesIn_n5_l x2653 t x2657)))

theorem impl_placesIn_n7_l (x2673 : List Int) : Link impl_placesIn_ctx LL (cq [1,1,1] (bodyOf Tryd.f37)) (aq [1,1,1] impl_placesIn_an) ⟨mkE 24 0 [(3, .slc 0)], [some (sI x2673)]⟩ (impl_placesIn_n7 x2673) (fun (t : (List Int)) => (Exit.ret, ⟨mkE 24 0 [(2, .slc 0)], [some (sI t)]⟩)) := .of fun K h => by
  simp only [impl_placesIn_n7, wpW] at h
  exact .of (by kernel_rfl) h

def impl_placesIn_n8_l (x2653 : List Int) (x2657 : List Int) := (link_seq (impl_placesIn_n6_l x2653 x2657) (fun (t : (List Int)) => (impl_placesIn_n7_l t)))

def impl_placesIn_n9_l (x2653 : List Int) := (link_group (c := (cq [0,1] (bodyOf Tryd.f37))) (a := (aq [0,1] impl_placesIn_an)) [(cq [0] (bodyOf Tryd.f37))] [(aq [0] impl_placesIn_an)] rfl (link_seq (impl_placesIn_n1_l x2653) (fun (t : (List Int)) => (impl_placesIn_n8_l x2653 t))))

theorem impl_placesIn_e (x2653 : List Int) {r : AV} {H' : Heap} (h : (Ans.mk _ (impl_placesIn x2653) (fun (t : (List Int)) => (.slc 0, [some (sI t)])) [] none).run = some (r, H')) : Awp impl_placesIn_ctx LL (bodyOf Tryd.f37) impl_placesIn_an ⟨mkE 24 0 [(0, dL x2653)], []⟩ (Ret (tlook tys) Tryd.f37.results.toList r H') :=
  ret_of' (Link.cast (by kernel_rfl) (by kernel_rfl) (impl_placesIn_n9_l x2653)) (by unfold impl_placesIn; kernel_rfl) (by
  intro t
  exact ret_mk [.slc 0] (by kernel_rfl) (by kernel_rfl) (by kernel_rfl) (by kernel_rfl)) h

def F_impl_placesIn : Fun := fun avs H =>
  match avs, H with
  | [.dat (.list (.int .i64)) x2653], [] => ⟨_, impl_placesIn x2653, fun (t : (List Int)) => (.slc 0, [some (sI t)]), [], none⟩
  | _, _ => Ans.no

theorem impl_placesIn_sound : Sound Tryd.prog 37 F_impl_placesIn := by
  refine fn_sound' (C := impl_placesIn_ctx) (c := bodyOf Tryd.f37) (cok_of tys_ok (alln) (alln) (by kernel_rfl)) Tryd.func37 (by kernel_rfl) LL impl_placesIn_an ?_
  intro avs H r H' h
  unfold F_impl_placesIn at h
  split at h
  · refine Awp.cast ?_ ?_ ?_ (impl_placesIn_e _ h) <;> kernel_rfl
  · simp [Ans.no, Ans.run] at h


/-! loop.example/headtrees/impl.PutInOrder$1 -/

def impl_PutInOrder_1_an : Ann := (.seq (.leaf [0, 1]) (.seq (.leaf [3]) (.leaf [3])))

noncomputable def impl_PutInOrder_1_ctx : Ctx := ⟨tlook tys, olook [], ioF, 2, false, []⟩

theorem impl_PutInOrder_1_n1_l (x2707 : Int) (x2708 : List Int) : Link impl_PutInOrder_1_ctx LL (bodyOf Tryd.f39) impl_PutInOrder_1_an ⟨mkE 8 0 [(0, dI x2707), (1, .ptr 0 0)], [some (.box [.slc 1]), some (sI x2708)]⟩ (impl_PutInOrder_1_n1 x2707 x2708) (fun (t : Int) => (Exit.ret, ⟨mkE 8 0 [(3, dI t)], [some (.box [.slc 1]), some (sI x2708)]⟩)) := .of fun K h => by
  simp only [impl_PutInOrder_1_n1, wpW] at h
  exact .of (by kernel_rfl) h

theorem impl_PutInOrder_1_e (x2707 : Int) (x2708 : List Int) {r : AV} {H' : Heap} (h : (Ans.mk _ (impl_PutInOrder_1 x2707 x2708) (fun (t : Int) => (dI t, [some (.box [.slc 1]), some (sI x2708)])) [] none).run = some (r, H')) : Awp impl_PutInOrder_1_ctx LL (bodyOf Tryd.f39) impl_PutInOrder_1_an ⟨mkE 8 0 [(0, dI x2707), (1, .ptr 0 0)], [some (.box [.slc 1]), some (sI x2708)]⟩ (Ret (tlook tys) Tryd.f39.results.toList r H') :=
  ret_of' (impl_PutInOrder_1_n1_l x2707 x2708) (by unfold impl_PutInOrder_1; kernel_rfl) (by
  intro t
  exact ret_mk [dI t] (by kernel_rfl) (by kernel_rfl) (by kernel_rfl) (by kernel_rfl)) h

def F_impl_PutInOrder_1 : Fun := fun avs H =>
  match avs, H with
  | [.dat (.int .i64) x2707, .ptr 0 0], [some (.box [.slc 1]), some (.seq (.int .i64) x2708)] => ⟨_, impl_PutInOrder_1 x2707 x2708, fun (t : Int) => (dI t, [some (.box [.slc 1]), some (sI x2708)]), [], none⟩
  | _, _ => Ans.no

theorem impl_PutInOrder_1_sound : Sound Tryd.prog 39 F_impl_PutInOrder_1 := by
  refine fn_sound' (C := impl_PutInOrder_1_ctx) (c := bodyOf Tryd.f39) (cok_of tys_ok (alln) (alln) (by kernel_rfl)) Tryd.func39 (by kernel_rfl) LL impl_PutInOrder_1_an ?_
  intro avs H r H' h
  unfold F_impl_PutInOrder_1 at h
  split at h
  · refine Awp.cast ?_ ?_ ?_ (impl_PutInOrder_1_e _ _ h) <;> kernel_rfl
  · simp [Ans.no, Ans.run] at h


/-! loop.example/headtrees/impl.renamed[int] -/

def impl_renamed_int_an : Ann := (.seq (.leaf [0, 1, 2]) (.seq (.leaf [0, 1, 2, 7]) (.seq (.seq (.leaf [0, 2, 7, 13, 14, 15]) (.block (.loop (.seq (.leaf [0, 2, 7, 13, 14, 15, 16]) (.seq (.cond (.leaf [0, 2, 7, 13, 14, 15]) (.leaf [7])) (.seq (.block (.seq (.leaf [0, 2, 7, 8, 9, 13, 14, 15]) (.leaf [0, 2, 7, 13, 14, 15]))) (.leaf [0, 2, 7, 13, 14, 15]))))))) (.seq (.leaf [6]) (.leaf [6])))))

noncomputable def impl_renamed_int_ctx : Ctx := ⟨tlook tys, olook [(39, F_impl_PutInOrder_1)], ioF, 2, false, []⟩

theorem impl_renamed_int_n1_l (x2694 : List Int) (x2695 : List Int) (x2696 : List Int) : Link impl_renamed_int_ctx LL (Code.seq (cq [0] (bodyOf Tryd.f38)) (cq [0,1] (bodyOf Tryd.f38))) (Ann.seq (aq [0] impl_renamed_int_an) (aq [0,1] impl_renamed_int_an)) ⟨mkE 32 0 [(0, dL x2694), (1, dL x2695), (2, .fn 39 [] [.ptr 0 0])], [some (.box [.slc 1]), some (sI x2696)]⟩ (impl_renamed_int_n1 x2695) (fun (t : (List Int)) => (Exit.normal, ⟨mkE 32 0 [(0, dL x2694), (1, dL x2695), (2, .fn 39 [] [.ptr 0 0]), (7, .slc 2)], [some (.box [.slc 1]), some (sI x2696), some (sI t)]⟩)) := .of fun K h => by
  simp only [impl_renamed_int_n1, wpW] at h
  exact .of (by kernel_rfl) h

theorem impl_renamed_int_n2_l (x2694 : List Int) (x2695 : List Int) (x2696 : List Int) (x2699 : List Int) : Link impl_renamed_int_ctx LL (cq [0,0,1,1] (bodyOf Tryd.f38)) (aq [0,0,1,1] impl_renamed_int_an) ⟨mkE 32 0 [(0, dL x2694), (1, dL x2695), (2, .fn 39 [] [.ptr 0 0]), (7, .slc 2)], [some (.box [.slc 1]), some (sI x2696), some (sI x2699)]⟩ (impl_renamed_int_n2 x2695) (fun (t : Int) => (Exit.normal, ⟨mkE 32 0 [(0, dL x2694), (2, .fn 39 [] [.ptr 0 0]), (7, .slc 2), (13, dL x2695), (14, dI t), (15, dI 0)], [some (.box [.slc 1]), some (sI x2696), some (sI x2699)]⟩)) := .of fun K h => by
  simp only [impl_renamed_int_n2, wpW] at h
  exact .of (by kernel_rfl) h

theorem impl_renamed_int_n3_l (x2694 : List Int) (x2695 : List Int) (x2700 : Int) (x2724 : Int) (x2696 : List Int) (x2725 : List Int) : Link impl_renamed_int_ctx LL (cq [0,0,1,0,1,1] (bodyOf Tryd.f38)) (aq [0,0,1,0,1,1] impl_renamed_int_an) ⟨mkE 32 0 [(0, dL x2694), (2, .fn 39 [] [.ptr 0 0]), (7, .slc 2), (13, dL x2695), (14, dI x2700), (15, dI x2724)], [some (.box [.slc 1]), some (sI x2696), some (sI x2725)]⟩ (impl_renamed_int_n3 x2694 x2695 x2700 x2724 x2696 x2725) (Sum.elim (fun (t : Int × (List Int)) => (Exit.normal, ⟨mkE 32 0 [(0, dL x2694), (2, .fn 39 [] [.ptr 0 0]), (7, .slc 2), (13, dL x2695), (14, dI x2700), (15, dI t.1)], [some (.box [.slc 1]), some (sI x2696), some (sI t.2)]⟩)) (fun (t : (List Int)) => ((Exit.exit 0), ⟨mkE 32 0 [(7, .slc 2)], [some (.box [.slc 1]), some (sI x2696), some (sI t)]⟩))) := .of fun K h => by
  simp only [impl_renamed_int_n3, wpW] at h
  exact .of (by kernel_rfl) h

def impl_renamed_int_n4_l (x2694 : List Int) (x2695 : List Int) (x2700 : Int) (x2696 : List Int) (x2699 : List Int) := (link_loop (mk := fun (s : Int × (List Int)) => ⟨mkE 32 0 [(0, dL x2694), (2, .fn 39 [] [.ptr 0 0]), (7, .slc 2), (13, dL x2695), (14, dI x2700), (15, dI s.1)], [some (.box [.slc 1]), some (sI x2696), some (sI s.2)]⟩) (fin := (fun (t : (List Int)) => ((Exit.exit 0), ⟨mkE 32 0 [(7, .slc 2)], [some (.box [.slc 1]), some (sI x2696), some (sI t)]⟩))) (by
  rintro t f K h
  · exact h) (fun s => link_map (impl_renamed_int_n3_l x2694 x2695 x2700 s.1 x2696 s.2) (Sum.elim (fun (t : Int × (List Int)) => Sum.inl (t.1, t.2)) (fun (t : (List Int)) => Sum.inr t)) (by
  rintro (t | t)
  · kernel_rfl
  · kernel_rfl)) (0, x2699))

def impl_renamed_int_n5_l (x2694 : List Int) (x2695 : List Int) (x2700 : Int) (x2696 : List Int) (x2699 : List Int) := (link_block (fin2 := (fun (t : (List Int)) => (Exit.normal, ⟨mkE 32 0 [(7, .slc 2)], [some (.box [.slc 1]), some (sI x2696), some (sI t)]⟩))) (id := 0) (impl_renamed_int_n4_l x2694 x2695 x2700 x2696 x2699) (fun (t : (List Int)) => t) (by
  rintro t K h
  · exact Eq.mp (by kernel_rfl) h))

def impl_renamed_int_n6_l (x2694 : List Int) (x2695 : List Int) (x2696 : List Int) (x2699 : List Int) := (link_seq (impl_renamed_int_n2_l x2694 x2695 x2696 x2699) (fun (t : Int) => (impl_renamed_int_n5_l x2694 x2695 t x2696 x2699)))

theorem impl_renamed_int_n7_l (x2696 : List Int) (x2725 : List Int) : Link impl_renamed_int_ctx LL (cq [1,1,1] (bodyOf Tryd.f38)) (aq [1,1,1] impl_renamed_int_an) ⟨mkE 32 0 [(7, .slc 2)], [some (.box [.slc 1]), some (sI x2696), some (sI x2725)]⟩ (impl_renamed_int_n7 x2725) (fun (t : (List Int)) => (Exit.ret, ⟨mkE 32 0 [(6, .slc 2)], [some (.box [.slc 1]), some (sI x2696), some (sI t)]⟩)) := .of fun K h => by
  simp only [impl_renamed_int_n7, wpW] at h
  exact .of (by kernel_rfl) h

def impl_renamed_int_n8_l (x2694 : List Int) (x2695 : List Int) (x2696 : List Int) (x2699 : List Int) := (link_seq (impl_renamed_int_n6_l x2694 x2695 x2696 x2699) (fun (t : (List Int)) => (impl_renamed_int_n7_l x2696 t)))

def impl_renamed_int_n9_l (x2694 : List Int) (x2695 : List Int) (x2696 : List Int) := (link_group (c := (cq [0,1] (bodyOf Tryd.f38))) (a := (aq [0,1] impl_renamed_int_an)) [(cq [0] (bodyOf Tryd.f38))] [(aq [0] impl_renamed_int_an)] rfl (link_seq (impl_renamed_int_n1_l x2694 x2695 x2696) (fun (t : (List Int)) => (impl_renamed_int_n8_l x2694 x2695 x2696 t))))

theorem impl_renamed_int_e (x2694 : List Int) (x2695 : List Int) (x2696 : List Int) {r : AV} {H' : Heap} (h : (Ans.mk _ (impl_renamed_int x2694 x2695 x2696) (fun (t : (List Int)) => (.slc 2, [some (.box [.slc 1]), some (sI x2696), some (sI t)])) [] none).run = some (r, H')) : Awp impl_renamed_int_ctx LL (bodyOf Tryd.f38) impl_renamed_int_an ⟨mkE 32 0 [(0, dL x2694), (1, dL x2695), (2, .fn 39 [] [.ptr 0 0])], [some (.box [.slc 1]), some (sI x2696)]⟩ (Ret (tlook tys) Tryd.f38.results.toList r H') :=
  ret_of' (Link.cast (by kernel_rfl) (by kernel_rfl) (impl_renamed_int_n9_l x2694 x2695 x2696)) (by unfold impl_renamed_int; kernel_rfl) (by
  intro t
  exact ret_mk [.slc 2] (by kernel_rfl) (by kernel_rfl) (by kernel_rfl) (by kernel_rfl)) h

def F_impl_renamed_int : Fun := fun avs H =>
  match avs, H with
  | [.dat (.list (.int .i64)) x2694, .dat (.list (.int .i64)) x2695, .fn 39 [] [.ptr 0 0]], [some (.box [.slc 1]), some (.seq (.int .i64) x2696)] => ⟨_, impl_renamed_int x2694 x2695 x2696, fun (t : (List Int)) => (.slc 2, [some (.box [.slc 1]), some (sI x2696), some (sI t)]), [], none⟩
  | _, _ => Ans.no

theorem impl_renamed_int_sound : Sound Tryd.prog 38 F_impl_renamed_int := by
  refine fn_sound' (C := impl_renamed_int_ctx) (c := bodyOf Tryd.f38) (cok_of tys_ok (allc impl_PutInOrder_1_sound alln) (allc Tryd.call39 alln) (by kernel_rfl)) Tryd.func38 (by kernel_rfl) LL impl_renamed_int_an ?_
  intro avs H r H' h
  unfold F_impl_renamed_int at h
  split at h
  · refine Awp.cast ?_ ?_ ?_ (impl_renamed_int_e _ _ _ h) <;> kernel_rfl
  · simp [Ans.no, Ans.run] at h


/-! loop.example/headtrees/impl.PutInOrder -/

def impl_PutInOrder_an : Ann := (.seq (.leaf [0, 1]) (.seq (.seq (.leaf [0, 1, 16]) (.cond (.seq (.leaf [4, 5]) (.leaf [4, 5])) (.leaf [0, 1]))) (.seq (.leaf [0, 1, 6]) (.seq (.leaf [4, 5]) (.leaf [4, 5])))))

noncomputable def impl_PutInOrder_ctx : Ctx := ⟨tlook tys, olook [(18, F_impl_TreeOk), (36, F_impl_OrderOk), (37, F_impl_placesIn), (38, F_impl_renamed_int)], ioF, 0, false, []⟩

theorem impl_PutInOrder_n1_l (x2580 : List Int) (x2581 : List Int) : Link impl_PutInOrder_ctx LL (bodyOf Tryd.f22) impl_PutInOrder_an ⟨mkE 23 0 [(0, dL x2580), (1, dL x2581)], []⟩ (impl_PutInOrder_n1 x2580 x2581) (fun (t : Bool × (List Int)) => (Exit.ret, ⟨mkE 23 0 [(4, .slc 0), (5, dB t.1)], [some (sI t.2)]⟩)) := .of fun K h => by
  simp only [impl_PutInOrder_n1, wpW] at h
  exact .of (by kernel_rfl) h

theorem impl_PutInOrder_e (x2580 : List Int) (x2581 : List Int) {r : AV} {H' : Heap} (h : (Ans.mk _ (impl_PutInOrder x2580 x2581) (fun (t : Bool × (List Int)) => (.tup [.slc 0, dB t.1], [some (sI t.2)])) [] none).run = some (r, H')) : Awp impl_PutInOrder_ctx LL (bodyOf Tryd.f22) impl_PutInOrder_an ⟨mkE 23 0 [(0, dL x2580), (1, dL x2581)], []⟩ (Ret (tlook tys) Tryd.f22.results.toList r H') :=
  ret_of' (impl_PutInOrder_n1_l x2580 x2581) (by unfold impl_PutInOrder; kernel_rfl) (by
  intro t
  exact ret_mk [.slc 0, dB t.1] (by kernel_rfl) (by kernel_rfl) (by kernel_rfl) (by kernel_rfl)) h

def F_impl_PutInOrder : Fun := fun avs H =>
  match avs, H with
  | [.dat (.list (.int .i64)) x2580, .dat (.list (.int .i64)) x2581], [] => ⟨_, impl_PutInOrder x2580 x2581, fun (t : Bool × (List Int)) => (.tup [.slc 0, dB t.1], [some (sI t.2)]), [], none⟩
  | _, _ => Ans.no

theorem impl_PutInOrder_sound : Sound Tryd.prog 22 F_impl_PutInOrder := by
  refine fn_sound' (C := impl_PutInOrder_ctx) (c := bodyOf Tryd.f22) (cok_of tys_ok (allc impl_TreeOk_sound (allc impl_OrderOk_sound (allc impl_placesIn_sound (allc impl_renamed_int_sound alln)))) (allc Tryd.call18 (allc Tryd.call36 (allc Tryd.call37 (allc Tryd.call38 alln)))) (by kernel_rfl)) Tryd.func22 (by kernel_rfl) LL impl_PutInOrder_an ?_
  intro avs H r H' h
  unfold F_impl_PutInOrder at h
  split at h
  · refine Awp.cast ?_ ?_ ?_ (impl_PutInOrder_e _ _ h) <;> kernel_rfl
  · simp [Ans.no, Ans.run] at h


/-! loop.example/headtrees/impl.MadeFlat -/

def impl_MadeFlat_an : Ann := (.seq (.leaf [0]) (.seq (.leaf [3]) (.seq (.leaf [2]) (.leaf [2]))))

noncomputable def impl_MadeFlat_ctx : Ctx := ⟨tlook tys, olook [(23, F_impl_FlatOrder), (22, F_impl_PutInOrder)], ioF, 0, false, []⟩

theorem impl_MadeFlat_n1_l (x2203 : List Int) : Link impl_MadeFlat_ctx LL (bodyOf Tryd.f10) impl_MadeFlat_an ⟨mkE 13 0 [(0, dL x2203)], []⟩ (impl_MadeFlat_n1 x2203) (fun (t : (List Int)) => (Exit.ret, ⟨mkE 13 0 [(2, .slc 0)], [some (sI t)]⟩)) := .of fun K h => by
  simp only [impl_MadeFlat_n1, wpW] at h
  exact .of (by kernel_rfl) h

theorem impl_MadeFlat_e (x2203 : List Int) {r : AV} {H' : Heap} (h : (Ans.mk _ (impl_MadeFlat x2203) (fun (t : (List Int)) => (.slc 0, [some (sI t)])) [] none).run = some (r, H')) : Awp impl_MadeFlat_ctx LL (bodyOf Tryd.f10) impl_MadeFlat_an ⟨mkE 13 0 [(0, dL x2203)], []⟩ (Ret (tlook tys) Tryd.f10.results.toList r H') :=
  ret_of' (impl_MadeFlat_n1_l x2203) (by unfold impl_MadeFlat; kernel_rfl) (by
  intro t
  exact ret_mk [.slc 0] (by kernel_rfl) (by kernel_rfl) (by kernel_rfl) (by kernel_rfl)) h

def F_impl_MadeFlat : Fun := fun avs H =>
  match avs, H with
  | [.dat (.list (.int .i64)) x2203], [] => ⟨_, impl_MadeFlat x2203, fun (t : (List Int)) => (.slc 0, [some (sI t)]), [], none⟩
  | _, _ => Ans.no

theorem impl_MadeFlat_sound : Sound Tryd.prog 10 F_impl_MadeFlat := by
  refine fn_sound' (C := impl_MadeFlat_ctx) (c := bodyOf Tryd.f10) (cok_of tys_ok (allc impl_FlatOrder_sound (allc impl_PutInOrder_sound alln)) (allc Tryd.call23 (allc Tryd.call22 alln)) (by kernel_rfl)) Tryd.func10 (by kernel_rfl) LL impl_MadeFlat_an ?_
  intro avs H r H' h
  unfold F_impl_MadeFlat at h
  split at h
  · refine Awp.cast ?_ ?_ ?_ (impl_MadeFlat_e _ h) <;> kernel_rfl
  · simp [Ans.no, Ans.run] at h


/-! (loop.example/headtrees/impl.arc).covers -/

def impl_arc_covers_an : Ann := (.seq (.leaf [1, 2]) (.seq (.leaf [4]) (.leaf [4])))

noncomputable def impl_arc_covers_ctx : Ctx := ⟨tlook tys, olook [], ioF, 0, false, []⟩

theorem impl_arc_covers_n1_l (x2807 : Int) (x2808 : Int) (x2809 : Int) : Link impl_arc_covers_ctx LL (bodyOf Tryd.f34) impl_arc_covers_an ⟨mkE 15 0 [(0, .agg [dI x2807, dI x2808]), (1, dI x2809)], []⟩ (impl_arc_covers_n1 x2807 x2808 x2809) (fun (t : Bool) => (Exit.ret, ⟨mkE 15 0 [(4, dB t)], []⟩)) := .of fun K h => by
  simp only [impl_arc_covers_n1, wpW] at h
  exact .of (by kernel_rfl) h

theorem impl_arc_covers_e (x2807 : Int) (x2808 : Int) (x2809 : Int) {r : AV} {H' : Heap} (h : (Ans.mk _ (impl_arc_covers x2807 x2808 x2809) (fun (t : Bool) => (dB t, [])) [] none).run = some (r, H')) : Awp impl_arc_covers_ctx LL (bodyOf Tryd.f34) impl_arc_covers_an ⟨mkE 15 0 [(0, .agg [dI x2807, dI x2808]), (1, dI x2809)], []⟩ (Ret (tlook tys) Tryd.f34.results.toList r H') :=
  ret_of' (impl_arc_covers_n1_l x2807 x2808 x2809) (by unfold impl_arc_covers; kernel_rfl) (by
  intro t
  exact ret_mk [dB t] (by kernel_rfl) (by kernel_rfl) (by kernel_rfl) (by kernel_rfl)) h

def F_impl_arc_covers : Fun := fun avs H =>
  match avs, H with
  | [.agg [.dat (.int .i64) x2807, .dat (.int .i64) x2808], .dat (.int .i64) x2809], [] => ⟨_, impl_arc_covers x2807 x2808 x2809, fun (t : Bool) => (dB t, []), [], none⟩
  | _, _ => Ans.no

theorem impl_arc_covers_sound : Sound Tryd.prog 34 F_impl_arc_covers := by
  refine fn_sound' (C := impl_arc_covers_ctx) (c := bodyOf Tryd.f34) (cok_of tys_ok (alln) (alln) (by kernel_rfl)) Tryd.func34 (by kernel_rfl) LL impl_arc_covers_an ?_
  intro avs H r H' h
  unfold F_impl_arc_covers at h
  split at h
  · refine Awp.cast ?_ ?_ ?_ (impl_arc_covers_e _ _ _ h) <;> kernel_rfl
  · simp [Ans.no, Ans.run] at h


/-! (loop.example/headtrees/impl.arc).leavesOut -/

def impl_arc_leavesOut_an : Ann := (.seq (.leaf [1, 2]) (.seq (.leaf [4]) (.leaf [4])))

noncomputable def impl_arc_leavesOut_ctx : Ctx := ⟨tlook tys, olook [], ioF, 0, false, []⟩

theorem impl_arc_leavesOut_n1_l (x2816 : Int) (x2817 : Int) (x2818 : Int) : Link impl_arc_leavesOut_ctx LL (bodyOf Tryd.f35) impl_arc_leavesOut_an ⟨mkE 15 0 [(0, .agg [dI x2816, dI x2817]), (1, dI x2818)], []⟩ (impl_arc_leavesOut_n1 x2816 x2817 x2818) (fun (t : Bool) => (Exit.ret, ⟨mkE 15 0 [(4, dB t)], []⟩)) := .of fun K h => by
  simp only [impl_arc_leavesOut_n1, wpW] at h
  exact .of (by kernel_rfl) h

theorem impl_arc_leavesOut_e (x2816 : Int) (x2817 : Int) (x2818 : Int) {r : AV} {H' : Heap} (h : (Ans.mk _ (impl_arc_leavesOut x2816 x2817 x2818) (fun (t : Bool) => (dB t, [])) [] none).run = some (r, H')) : Awp impl_arc_leavesOut_ctx LL (bodyOf Tryd.f35) impl_arc_leavesOut_an ⟨mkE 15 0 [(0, .agg [dI x2816, dI x2817]), (1, dI x2818)], []⟩ (Ret (tlook tys) Tryd.f35.results.toList r H') :=
  ret_of' (impl_arc_leavesOut_n1_l x2816 x2817 x2818) (by unfold impl_arc_leavesOut; kernel_rfl) (by
  intro t
  exact ret_mk [dB t] (by kernel_rfl) (by kernel_rfl) (by kernel_rfl) (by kernel_rfl)) h

def F_impl_arc_leavesOut : Fun := fun avs H =>
  match avs, H with
  | [.agg [.dat (.int .i64) x2816, .dat (.int .i64) x2817], .dat (.int .i64) x2818], [] => ⟨_, impl_arc_leavesOut x2816 x2817 x2818, fun (t : Bool) => (dB t, []), [], none⟩
  | _, _ => Ans.no

theorem impl_arc_leavesOut_sound : Sound Tryd.prog 35 F_impl_arc_leavesOut := by
  refine fn_sound' (C := impl_arc_leavesOut_ctx) (c := bodyOf Tryd.f35) (cok_of tys_ok (alln) (alln) (by kernel_rfl)) Tryd.func35 (by kernel_rfl) LL impl_arc_leavesOut_an ?_
  intro avs H r H' h
  unfold F_impl_arc_leavesOut at h
  split at h
  · refine Awp.cast ?_ ?_ ?_ (impl_arc_leavesOut_e _ _ _ h) <;> kernel_rfl
  · simp [Ans.no, Ans.run] at h


/-! (loop.example/headtrees/impl.arc).crosses -/

def impl_arc_crosses_an : Ann := (.seq (.leaf [2, 3]) (.seq (.leaf [4]) (.leaf [4])))

noncomputable def impl_arc_crosses_ctx : Ctx := ⟨tlook tys, olook [(34, F_impl_arc_covers), (35, F_impl_arc_leavesOut)], ioF, 0, false, []⟩

theorem impl_arc_crosses_n1_l (x2803 : Int) (x2804 : Int) (x2805 : Int) (x2806 : Int) : Link impl_arc_crosses_ctx LL (bodyOf Tryd.f21) impl_arc_crosses_an ⟨mkE 27 0 [(0, .agg [dI x2803, dI x2804]), (1, .agg [dI x2805, dI x2806])], []⟩ (impl_arc_crosses_n1 x2803 x2804 x2805 x2806) (fun (t : Bool) => (Exit.ret, ⟨mkE 27 0 [(4, dB t)], []⟩)) := .of fun K h => by
  simp only [impl_arc_crosses_n1, wpW] at h
  exact .of (by kernel_rfl) h

theorem impl_arc_crosses_e (x2803 : Int) (x2804 : Int) (x2805 : Int) (x2806 : Int) {r : AV} {H' : Heap} (h : (Ans.mk _ (impl_arc_crosses x2803 x2804 x2805 x2806) (fun (t : Bool) => (dB t, [])) [] none).run = some (r, H')) : Awp impl_arc_crosses_ctx LL (bodyOf Tryd.f21) impl_arc_crosses_an ⟨mkE 27 0 [(0, .agg [dI x2803, dI x2804]), (1, .agg [dI x2805, dI x2806])], []⟩ (Ret (tlook tys) Tryd.f21.results.toList r H') :=
  ret_of' (impl_arc_crosses_n1_l x2803 x2804 x2805 x2806) (by unfold impl_arc_crosses; kernel_rfl) (by
  intro t
  exact ret_mk [dB t] (by kernel_rfl) (by kernel_rfl) (by kernel_rfl) (by kernel_rfl)) h

def F_impl_arc_crosses : Fun := fun avs H =>
  match avs, H with
  | [.agg [.dat (.int .i64) x2803, .dat (.int .i64) x2804], .agg [.dat (.int .i64) x2805, .dat (.int .i64) x2806]], [] => ⟨_, impl_arc_crosses x2803 x2804 x2805 x2806, fun (t : Bool) => (dB t, []), [], none⟩
  | _, _ => Ans.no

theorem impl_arc_crosses_sound : Sound Tryd.prog 21 F_impl_arc_crosses := by
  refine fn_sound' (C := impl_arc_crosses_ctx) (c := bodyOf Tryd.f21) (cok_of tys_ok (allc impl_arc_covers_sound (allc impl_arc_leavesOut_sound alln)) (allc Tryd.call34 (allc Tryd.call35 alln)) (by kernel_rfl)) Tryd.func21 (by kernel_rfl) LL impl_arc_crosses_an ?_
  intro avs H r H' h
  unfold F_impl_arc_crosses at h
  split at h
  · refine Awp.cast ?_ ?_ ?_ (impl_arc_crosses_e _ _ _ _ h) <;> kernel_rfl
  · simp [Ans.no, Ans.run] at h


/-! loop.example/headtrees/impl.countPairs[loop.example/headtrees/impl.arc] -/

def impl_countPairs_impl_arc_an : Ann := (.seq (.leaf [0, 1]) (.seq (.leaf [0, 1, 5]) (.seq (.seq (.leaf [0, 1, 5, 10, 11, 12]) (.block (.loop (.seq (.leaf [0, 1, 5, 10, 11, 12, 13]) (.seq (.cond (.leaf [0, 1, 5, 10, 11, 12]) (.leaf [5])) (.seq (.block (.seq (.leaf [0, 1, 5, 6, 7, 10, 11, 12]) (.seq (.leaf [0, 1, 5, 7, 10, 11, 12, 20, 21, 22]) (.block (.loop (.seq (.leaf [0, 1, 5, 7, 10, 11, 12, 20, 21, 22, 23]) (.seq (.cond (.leaf [0, 1, 5, 7, 10, 11, 12, 20, 21, 22]) (.leaf [0, 1, 5, 10, 11, 12])) (.seq (.block (.seq (.leaf [0, 1, 5, 7, 9, 10, 11, 12, 20, 21, 22]) (.seq (.leaf [0, 1, 5, 7, 10, 11, 12, 20, 21, 22, 29]) (.cond (.leaf [0, 1, 5, 7, 10, 11, 12, 20, 21, 22]) (.leaf [0, 1, 5, 7, 10, 11, 12, 20, 21, 22]))))) (.leaf [0, 1, 5, 7, 10, 11, 12, 20, 21, 22]))))))))) (.leaf [0, 1, 5, 10, 11, 12]))))))) (.seq (.leaf [4]) (.leaf [4])))))

noncomputable def impl_countPairs_impl_arc_ctx : Ctx := ⟨tlook tys, olook [(21, F_impl_arc_crosses)], ioF, 0, false, []⟩

theorem impl_countPairs_impl_arc_n1_l (x2776 : List (Int × Int × Unit)) : Link impl_countPairs_impl_arc_ctx LL (Code.seq (cq [0] (bodyOf Tryd.f19)) (cq [0,1] (bodyOf Tryd.f19))) (Ann.seq (aq [0] impl_countPairs_impl_arc_an) (aq [0,1] impl_countPairs_impl_arc_an)) ⟨mkE 35 0 [(0, .dat (.list (.pair (.int .i64) (.pair (.int .i64) .unit))) x2776), (1, .fn 21 [] [])], []⟩ (impl_countPairs_impl_arc_n1) (fun (t : Unit) => (Exit.normal, ⟨mkE 35 0 [(0, .dat (.list (.pair (.int .i64) (.pair (.int .i64) .unit))) x2776), (1, .fn 21 [] []), (5, dI 0)], []⟩)) := .of fun K h => by
  simp only [impl_countPairs_impl_arc_n1, wpW] at h
  exact .of (by kernel_rfl) h

theorem impl_countPairs_impl_arc_n2_l (x2776 : List (Int × Int × Unit)) : Link impl_countPairs_impl_arc_ctx LL (cq [0,0,1,1] (bodyOf Tryd.f19)) (aq [0,0,1,1] impl_countPairs_impl_arc_an) ⟨mkE 35 0 [(0, .dat (.list (.pair (.int .i64) (.pair (.int .i64) .unit))) x2776), (1, .fn 21 [] []), (5, dI 0)], []⟩ (impl_countPairs_impl_arc_n2 x2776) (fun (t : Int) => (Exit.normal, ⟨mkE 35 0 [(0, .dat (.list (.pair (.int .i64) (.pair (.int .i64) .unit))) x2776), (1, .fn 21 [] []), (5, dI 0), (10, .dat (.list (.pair (.int .i64) (.pair (.int .i64) .unit))) x2776), (11, dI t), (12, dI 0)], []⟩)) := .of fun K h => by
  simp only [impl_countPairs_impl_arc_n2, wpW] at h
  exact .of (by kernel_rfl) h

theorem impl_countPairs_impl_arc_n3_l (x2776 : List (Int × Int × Unit)) (x2875 : Int) (x2777 : Int) (x2876 : Int) : Link impl_countPairs_impl_arc_ctx LL (Code.seq (cq [0,0,0,1,0,1,1] (bodyOf Tryd.f19)) (cq [0,1,0,0,1,0,1,1] (bodyOf Tryd.f19))) (Ann.seq (aq [0,0,0,1,0,1,1] impl_countPairs_impl_arc_an) (aq [0,1,0,0,1,0,1,1] impl_countPairs_impl_arc_an)) ⟨mkE 35 0 [(0, .dat (.list (.pair (.int .i64) (.pair (.int .i64) .unit))) x2776), (1, .fn 21 [] []), (5, dI x2875), (10, .dat (.list (.pair (.int .i64) (.pair (.int .i64) .unit))) x2776), (11, dI x2777), (12, dI x2876)], []⟩ (impl_countPairs_impl_arc_n3 x2875 x2777 x2876) (Sum.elim (fun (t : Unit) => (Exit.normal, ⟨mkE 35 0 [(0, .dat (.list (.pair (.int .i64) (.pair (.int .i64) .unit))) x2776), (1, .fn 21 [] []), (5, dI x2875), (10, .dat (.list (.pair (.int .i64) (.pair (.int .i64) .unit))) x2776), (11, dI x2777), (12, dI x2876)], []⟩)) (fun (t : Int) => ((Exit.exit 0), ⟨mkE 35 0 [(5, dI t)], []⟩))) := .of fun K h => by
  simp only [impl_countPairs_impl_arc_n3, wpW] at h
  exact .of (by kernel_rfl) h

theorem impl_countPairs_impl_arc_n4_l (x2776 : List (Int × Int × Unit)) (x2875 : Int) (x2777 : Int) (x2876 : Int) : Link impl_countPairs_impl_arc_ctx LL (Code.seq (cq [0,0,0,1,1,0,0,1,0,1,1] (bodyOf Tryd.f19)) (cq [0,1,0,0,1,1,0,0,1,0,1,1] (bodyOf Tryd.f19))) (Ann.seq (aq [0,0,0,1,1,0,0,1,0,1,1] impl_countPairs_impl_arc_an) (aq [0,1,0,0,1,1,0,0,1,0,1,1] impl_countPairs_impl_arc_an)) ⟨mkE 35 0 [(0, .dat (.list (.pair (.int .i64) (.pair (.int .i64) .unit))) x2776), (1, .fn 21 [] []), (5, dI x2875), (10, .dat (.list (.pair (.int .i64) (.pair (.int .i64) .unit))) x2776), (11, dI x2777), (12, dI x2876)], []⟩ (impl_countPairs_impl_arc_n4 x2776 x2876) (fun (t : (List (Int × Int × Unit)) × Int × Int × Int) => (Exit.normal, ⟨mkE 35 0 [(0, .dat (.list (.pair (.int .i64) (.pair (.int .i64) .unit))) x2776), (1, .fn 21 [] []), (5, dI x2875), (7, .ptr 0 0), (10, .dat (.list (.pair (.int .i64) (.pair (.int .i64) .unit))) x2776), (11, dI x2777), (12, dI x2876), (20, .dat (.list (.pair (.int .i64) (.pair (.int .i64) .unit))) t.1), (21, dI t.2.1), (22, dI 0)], [some (.box [dI t.2.2.1, dI t.2.2.2])]⟩)) := .of fun K h => by
  simp only [impl_countPairs_impl_arc_n4, wpW] at h
  exact .of (by kernel_rfl) h

theorem impl_countPairs_impl_arc_n5_l (x2776 : List (Int × Int × Unit)) (x2916 : Int) (x2777 : Int) (x2876 : Int) (x2892 : List (Int × Int × Unit)) (x2893 : Int) (x2917 : Int) (x2885 : Int) (x2887 : Int) : Link impl_countPairs_impl_arc_ctx LL (cq [0,0,1,1,0,0,1,1,0,0,1,0,1,1] (bodyOf Tryd.f19)) (aq [0,0,1,1,0,0,1,1,0,0,1,0,1,1] impl_countPairs_impl_arc_an) ⟨mkE 35 0 [(0, .dat (.list (.pair (.int .i64) (.pair (.int .i64) .unit))) x2776), (1, .fn 21 [] []), (5, dI x2916), (7, .ptr 0 0), (10, .dat (.list (.pair (.int .i64) (.pair (.int .i64) .unit))) x2776), (11, dI x2777), (12, dI x2876), (20, .dat (.list (.pair (.int .i64) (.pair (.int .i64) .unit))) x2892), (21, dI x2893), (22, dI x2917)], [some (.box [dI x2885, dI x2887])]⟩ (impl_countPairs_impl_arc_n5 x2916 x2892 x2893 x2917 x2885 x2887) (Sum.elim (fun (t : Int × Int) => (Exit.normal, ⟨mkE 35 0 [(0, .dat (.list (.pair (.int .i64) (.pair (.int .i64) .unit))) x2776), (1, .fn 21 [] []), (5, dI t.1), (7, .ptr 0 0), (10, .dat (.list (.pair (.int .i64) (.pair (.int .i64) .unit))) x2776), (11, dI x2777), (12, dI x2876), (20, .dat (.list (.pair (.int .i64) (.pair (.int .i64) .unit))) x2892), (21, dI x2893), (22, dI t.2)], [some (.box [dI x2885, dI x2887])]⟩)) (fun (t : Int) => ((Exit.exit 2), ⟨mkE 35 0 [(0, .dat (.list (.pair (.int .i64) (.pair (.int .i64) .unit))) x2776), (1, .fn 21 [] []), (5, dI t), (10, .dat (.list (.pair (.int .i64) (.pair (.int .i64) .unit))) x2776), (11, dI x2777), (12, dI x2876)], []⟩))) := .of fun K h => by
  simp only [impl_countPairs_impl_arc_n5, wpW] at h
  exact .of (by kernel_rfl) h

def impl_countPairs_impl_arc_n6_l (x2776 : List (Int × Int × Unit)) (x2875 : Int) (x2777 : Int) (x2876 : Int) (x2892 : List (Int × Int × Unit)) (x2893 : Int) (x2885 : Int) (x2887 : Int) := (link_loop (mk := fun (s : Int × Int) => ⟨mkE 35 0 [(0, .dat (.list (.pair (.int .i64) (.pair (.int .i64) .unit))) x2776), (1, .fn 21 [] []), (5, dI s.1), (7, .ptr 0 0), (10, .dat (.list (.pair (.int .i64) (.pair (.int .i64) .unit))) x2776), (11, dI x2777), (12, dI x2876), (20, .dat (.list (.pair (.int .i64) (.pair (.int .i64) .unit))) x2892), (21, dI x2893), (22, dI s.2)], [some (.box [dI x2885, dI x2887])]⟩) (fin := (fun (t : Int) => ((Exit.exit 2), ⟨mkE 35 0 [(0, .dat (.list (.pair (.int .i64) (.pair (.int .i64) .unit))) x2776), (1, .fn 21 [] []), (5, dI t), (10, .dat (.list (.pair (.int .i64) (.pair (.int .i64) .unit))) x2776), (11, dI x2777), (12, dI x2876)], []⟩))) (by
  rintro t f K h
  · exact h) (fun s => link_map (impl_countPairs_impl_arc_n5_l x2776 s.1 x2777 x2876 x2892 x2893 s.2 x2885 x2887) (Sum.elim (fun (t : Int × Int) => Sum.inl (t.1, t.2)) (fun (t : Int) => Sum.inr t)) (by
  rintro (t | t)
  · kernel_rfl
  · kernel_rfl)) (x2875, 0))

def impl_countPairs_impl_arc_n7_l (x2776 : List (Int × Int × Unit)) (x2875 : Int) (x2777 : Int) (x2876 : Int) (x2892 : List (Int × Int × Unit)) (x2893 : Int) (x2885 : Int) (x2887 : Int) := (link_block (fin2 := (fun (t : Int) => (Exit.normal, ⟨mkE 35 0 [(0, .dat (.list (.pair (.int .i64) (.pair (.int .i64) .unit))) x2776), (1, .fn 21 [] []), (5, dI t), (10, .dat (.list (.pair (.int .i64) (.pair (.int .i64) .unit))) x2776), (11, dI x2777), (12, dI x2876)], []⟩))) (id := 2) (impl_countPairs_impl_arc_n6_l x2776 x2875 x2777 x2876 x2892 x2893 x2885 x2887) (fun (t : Int) => t) (by
  rintro t K h
  · exact Eq.mp (by kernel_rfl) h))

def impl_countPairs_impl_arc_n8_l (x2776 : List (Int × Int × Unit)) (x2875 : Int) (x2777 : Int) (x2876 : Int) := (link_group (c := (cq [0,1,0,0,1,1,0,0,1,0,1,1] (bodyOf Tryd.f19))) (a := (aq [0,1,0,0,1,1,0,0,1,0,1,1] impl_countPairs_impl_arc_an)) [(cq [0,0,0,1,1,0,0,1,0,1,1] (bodyOf Tryd.f19))] [(aq [0,0,0,1,1,0,0,1,0,1,1] impl_countPairs_impl_arc_an)] rfl (link_seq (impl_countPairs_impl_arc_n4_l x2776 x2875 x2777 x2876) (fun (t : (List (Int × Int × Unit)) × Int × Int × Int) => (impl_countPairs_impl_arc_n7_l x2776 x2875 x2777 x2876 t.1 t.2.1 t.2.2.1 t.2.2.2))))

def impl_countPairs_impl_arc_n9_l (x2776 : List (Int × Int × Unit)) (x2875 : Int) (x2777 : Int) (x2876 : Int) := (link_block (fin2 := (fun (t : Int) => (Exit.normal, ⟨mkE 35 0 [(0, .dat (.list (.pair (.int .i64) (.pair (.int .i64) .unit))) x2776), (1, .fn 21 [] []), (5, dI t), (10, .dat (.list (.pair (.int .i64) (.pair (.int .i64) .unit))) x2776), (11, dI x2777), (12, dI x2876)], []⟩))) (id := 1) (impl_countPairs_impl_arc_n8_l x2776 x2875 x2777 x2876) (fun (t : Int) => t) (by
  rintro t K h
  · exact Eq.mp (by kernel_rfl) h))

theorem impl_countPairs_impl_arc_n10_l (x2776 : List (Int × Int × Unit)) (x2916 : Int) (x2777 : Int) (x2876 : Int) : Link impl_countPairs_impl_arc_ctx LL (cq [1,1,1,0,0,1,0,1,1] (bodyOf Tryd.f19)) (aq [1,1,1,0,0,1,0,1,1] impl_countPairs_impl_arc_an) ⟨mkE 35 0 [(0, .dat (.list (.pair (.int .i64) (.pair (.int .i64) .unit))) x2776), (1, .fn 21 [] []), (5, dI x2916), (10, .dat (.list (.pair (.int .i64) (.pair (.int .i64) .unit))) x2776), (11, dI x2777), (12, dI x2876)], []⟩ (impl_countPairs_impl_arc_n10 x2876) (fun (t : Int) => (Exit.normal, ⟨mkE 35 0 [(0, .dat (.list (.pair (.int .i64) (.pair (.int .i64) .unit))) x2776), (1, .fn 21 [] []), (5, dI x2916), (10, .dat (.list (.pair (.int .i64) (.pair (.int .i64) .unit))) x2776), (11, dI x2777), (12, dI t)], []⟩)) := .of fun K h => by
  simp only [impl_countPairs_impl_arc_n10, wpW] at h
  exact .of (by kernel_rfl) h

def impl_countPairs_impl_arc_n11_l (x2776 : List (Int × Int × Unit)) (x2875 : Int) (x2777 : Int) (x2876 : Int) := (link_seq (impl_countPairs_impl_arc_n9_l x2776 x2875 x2777 x2876) (fun (t : Int) => (link_map (fin2 := (fun (t : Int × Int) => (Exit.normal, ⟨mkE 35 0 [(0, .dat (.list (.pair (.int .i64) (.pair (.int .i64) .unit))) x2776), (1, .fn 21 [] []), (5, dI t.1), (10, .dat (.list (.pair (.int .i64) (.pair (.int .i64) .unit))) x2776), (11, dI x2777), (12, dI t.2)], []⟩))) (impl_countPairs_impl_arc_n10_l x2776 t x2777 x2876) (fun (u : Int) => (t, u)) (by
  rintro t
  · kernel_rfl))))

def impl_countPairs_impl_arc_n12_l (x2776 : List (Int × Int × Unit)) (x2875 : Int) (x2777 : Int) (x2876 : Int) := (link_group (c := (cq [0,1,0,0,1,0,1,1] (bodyOf Tryd.f19))) (a := (aq [0,1,0,0,1,0,1,1] impl_countPairs_impl_arc_an)) [(cq [0,0,0,1,0,1,1] (bodyOf Tryd.f19))] [(aq [0,0,0,1,0,1,1] impl_countPairs_impl_arc_an)] rfl (link_seq2 (impl_countPairs_impl_arc_n3_l x2776 x2875 x2777 x2876) (fun (t : Unit) => (link_map (fin2 := (Sum.elim (fun (t : Int × Int) => (Exit.normal, ⟨mkE 35 0 [(0, .dat (.list (.pair (.int .i64) (.pair (.int .i64) .unit))) x2776), (1, .fn 21 [] []), (5, dI t.1), (10, .dat (.list (.pair (.int .i64) (.pair (.int .i64) .unit))) x2776), (11, dI x2777), (12, dI t.2)], []⟩)) (fun (t : Int) => ((Exit.exit 0), ⟨mkE 35 0 [(5, dI t)], []⟩)))) (impl_countPairs_impl_arc_n11_l x2776 x2875 x2777 x2876) (fun (t : Int × Int) => (Sum.inl (t.1, t.2))) (by
  rintro t
  · kernel_rfl))) (fun (t : Int) => (Sum.inr t)) (by
  rintro t
  · kernel_rfl) (by
  rintro t f K h
  · exact h)))

def impl_countPairs_impl_arc_n13_l (x2776 : List (Int × Int × Unit)) (x2777 : Int) := (link_loop (mk := fun (s : Int × Int) => ⟨mkE 35 0 [(0, .dat (.list (.pair (.int .i64) (.pair (.int .i64) .unit))) x2776), (1, .fn 21 [] []), (5, dI s.1), (10, .dat (.list (.pair (.int .i64) (.pair (.int .i64) .unit))) x2776), (11, dI x2777), (12, dI s.2)], []⟩) (fin := (fun (t : Int) => ((Exit.exit 0), ⟨mkE 35 0 [(5, dI t)], []⟩))) (by
  rintro t f K h
  · exact h) (fun s => link_map (impl_countPairs_impl_arc_n12_l x2776 s.1 x2777 s.2) (Sum.elim (fun (t : Int × Int) => Sum.inl (t.1, t.2)) (fun (t : Int) => Sum.inr t)) (by
  rintro (t | t)
  · kernel_rfl
  · kernel_rfl)) (0, 0))

def impl_countPairs_impl_arc_n14_l (x2776 : List (Int × Int × Unit)) (x2777 : Int) := (link_block (fin2 := (fun (t : Int) => (Exit.normal, ⟨mkE 35 0 [(5, dI t)], []⟩))) (id := 0) (impl_countPairs_impl_arc_n13_l x2776 x2777) (fun (t : Int) => t) (by
  rintro t K h
  · exact Eq.mp (by kernel_rfl) h))

def impl_countPairs_impl_arc_n15_l (x2776 : List (Int × Int × Unit)) := (link_seq (impl_countPairs_impl_arc_n2_l x2776) (fun (t : Int) => (impl_countPairs_impl_arc_n14_l x2776 t)))

theorem impl_countPairs_impl_arc_n16_l (x2875 : Int) : Link impl_countPairs_impl_arc_ctx LL (cq [1,1,1] (bodyOf Tryd.f19)) (aq [1,1,1] impl_countPairs_impl_arc_an) ⟨mkE 35 0 [(5, dI x2875)], []⟩ (impl_countPairs_impl_arc_n16 x2875) (fun (t : Int) => (Exit.ret, ⟨mkE 35 0 [(4, dI t)], []⟩)) := .of fun K h => by
  simp only [impl_countPairs_impl_arc_n16, wpW] at h
  exact .of (by kernel_rfl) h

def impl_countPairs_impl_arc_n17_l (x2776 : List (Int × Int × Unit)) := (link_seq (impl_countPairs_impl_arc_n15_l x2776) (fun (t : Int) => (impl_countPairs_impl_arc_n16_l t)))

def impl_countPairs_impl_arc_n18_l (x2776 : List (Int × Int × Unit)) := (link_group (c := (cq [0,1] (bodyOf Tryd.f19))) (a := (aq [0,1] impl_countPairs_impl_arc_an)) [(cq [0] (bodyOf Tryd.f19))] [(aq [0] impl_countPairs_impl_arc_an)] rfl (link_seq (impl_countPairs_impl_arc_n1_l x2776) (fun (t : Unit) => (impl_countPairs_impl_arc_n17_l x2776))))

theorem impl_countPairs_impl_arc_e (x2776 : List (Int × Int × Unit)) {r : AV} {H' : Heap} (h : (Ans.mk _ (impl_countPairs_impl_arc x2776) (fun (t : Int) => (dI t, [])) [] none).run = some (r, H')) : Awp impl_countPairs_impl_arc_ctx LL (bodyOf Tryd.f19) impl_countPairs_impl_arc_an ⟨mkE 35 0 [(0, .dat (.list (.pair (.int .i64) (.pair (.int .i64) .unit))) x2776), (1, .fn 21 [] [])], []⟩ (Ret (tlook tys) Tryd.f19.results.toList r H') :=
  ret_of' (Link.cast (by kernel_rfl) (by kernel_rfl) (impl_countPairs_impl_arc_n18_l x2776)) (by unfold impl_countPairs_impl_arc; kernel_rfl) (by
  intro t
  exact ret_mk [dI t] (by kernel_rfl) (by kernel_rfl) (by kernel_rfl) (by kernel_rfl)) h

def F_impl_countPairs_impl_arc : Fun := fun avs H =>
  match avs, H with
  | [.dat (.list (.pair (.int .i64) (.pair (.int .i64) .unit))) x2776, .fn 21 [] []], [] => ⟨_, impl_countPairs_impl_arc x2776, fun (t : Int) => (dI t, []), [], none⟩
  | _, _ => Ans.no

theorem impl_countPairs_impl_arc_sound : Sound Tryd.prog 19 F_impl_countPairs_impl_arc := by
  refine fn_sound' (C := impl_countPairs_impl_arc_ctx) (c := bodyOf Tryd.f19) (cok_of tys_ok (allc impl_arc_crosses_sound alln) (allc Tryd.call21 alln) (by kernel_rfl)) Tryd.func19 (by kernel_rfl) LL impl_countPairs_impl_arc_an ?_
  intro avs H r H' h
  unfold F_impl_countPairs_impl_arc at h
  split at h
  · refine Awp.cast ?_ ?_ ?_ (impl_countPairs_impl_arc_e _ h) <;> kernel_rfl
  · simp [Ans.no, Ans.run] at h


/-! loop.example/headtrees/impl.CrossingsOf -/

def impl_CrossingsOf_an : Ann := (.seq (.leaf [0]) (.seq (.seq (.leaf [0, 5]) (.cond (.seq (.leaf [2]) (.leaf [2])) (.leaf [0]))) (.seq (.leaf [2]) (.leaf [2]))))

noncomputable def impl_CrossingsOf_ctx : Ctx := ⟨tlook tys, olook [(18, F_impl_TreeOk), (20, F_impl_arcsOf), (19, F_impl_countPairs_impl_arc)], ioF, 0, false, []⟩

theorem impl_CrossingsOf_n1_l (x2770 : List Int) : Link impl_CrossingsOf_ctx LL (bodyOf Tryd.f9) impl_CrossingsOf_an ⟨mkE 9 0 [(0, dL x2770)], []⟩ (impl_CrossingsOf_n1 x2770) (fun (t : Int) => (Exit.ret, ⟨mkE 9 0 [(2, dI t)], []⟩)) := .of fun K h => by
  simp only [impl_CrossingsOf_n1, wpW] at h
  exact .of (by kernel_rfl) h

theorem impl_CrossingsOf_e (x2770 : List Int) {r : AV} {H' : Heap} (h : (Ans.mk _ (impl_CrossingsOf x2770) (fun (t : Int) => (dI t, [])) [] none).run = some (r, H')) : Awp impl_CrossingsOf_ctx LL (bodyOf Tryd.f9) impl_CrossingsOf_an ⟨mkE 9 0 [(0, dL x2770)], []⟩ (Ret (tlook tys) Tryd.f9.results.toList r H') :=
  ret_of' (impl_CrossingsOf_n1_l x2770) (by unfold impl_CrossingsOf; kernel_rfl) (by
  intro t
  exact ret_mk [dI t] (by kernel_rfl) (by kernel_rfl) (by kernel_rfl) (by kernel_rfl)) h

def F_impl_CrossingsOf : Fun := fun avs H =>
  match avs, H with
  | [.dat (.list (.int .i64)) x2770], [] => ⟨_, impl_CrossingsOf x2770, fun (t : Int) => (dI t, []), [], none⟩
  | _, _ => Ans.no

theorem impl_CrossingsOf_sound : Sound Tryd.prog 9 F_impl_CrossingsOf := by
  refine fn_sound' (C := impl_CrossingsOf_ctx) (c := bodyOf Tryd.f9) (cok_of tys_ok (allc impl_TreeOk_sound (allc impl_arcsOf_sound (allc impl_countPairs_impl_arc_sound alln))) (allc Tryd.call18 (allc Tryd.call20 (allc Tryd.call19 alln))) (by kernel_rfl)) Tryd.func9 (by kernel_rfl) LL impl_CrossingsOf_an ?_
  intro avs H r H' h
  unfold F_impl_CrossingsOf at h
  split at h
  · refine Awp.cast ?_ ?_ ?_ (impl_CrossingsOf_e _ h) <;> kernel_rfl
  · simp [Ans.no, Ans.run] at h


/-! loop.example/headtrees/laws.FnStarOk -/

def laws_FnStarOk_an : Ann := (.seq (.leaf [0]) (.seq (.seq (.leaf [0, 7]) (.cond (.seq (.leaf [2]) (.leaf [2])) (.leaf [0]))) (.seq (.leaf [3]) (.seq (.leaf [3, 4]) (.seq (.seq (.leaf [3, 4, 15]) (.cond (.seq (.leaf [2]) (.leaf [2])) (.leaf [3, 4]))) (.seq (.seq (.leaf [3, 4, 18]) (.cond (.seq (.leaf [2]) (.leaf [2])) (.leaf [3, 4]))) (.seq (.leaf [2]) (.leaf [2]))))))))

noncomputable def laws_FnStarOk_ctx : Ctx := ⟨tlook tys, olook [(4, F_spec_DrawStarOk), (5, F_impl_StarOk), (6, F_spec_StarOk), (7, F_spec_TreeOk), (8, F_laws_alive), (10, F_impl_MadeFlat), (9, F_impl_CrossingsOf)], ioF, 0, false, []⟩

theorem laws_FnStarOk_n1_l (x2 : List Int) : Link laws_FnStarOk_ctx LL (bodyOf Tryd.f3) laws_FnStarOk_an ⟨mkE 46 0 [(0, dV x2)], []⟩ (laws_FnStarOk_n1 x2) (fun (t : Bool) => (Exit.ret, ⟨mkE 46 0 [(2, dB t)], []⟩)) := .of fun K h => by
  simp only [laws_FnStarOk_n1, wpW] at h
  exact .of (by kernel_rfl) h

theorem laws_FnStarOk_e (x2 : List Int) {r : AV} {H' : Heap} (h : (Ans.mk _ (laws_FnStarOk x2) (fun (t : Bool) => (dB t, [])) [] none).run = some (r, H')) : Awp laws_FnStarOk_ctx LL (bodyOf Tryd.f3) laws_FnStarOk_an ⟨mkE 46 0 [(0, dV x2)], []⟩ (Ret (tlook tys) Tryd.f3.results.toList r H') :=
  ret_of' (laws_FnStarOk_n1_l x2) (by unfold laws_FnStarOk; kernel_rfl) (by
  intro t
  exact ret_mk [dB t] (by kernel_rfl) (by kernel_rfl) (by kernel_rfl) (by kernel_rfl)) h

def F_laws_FnStarOk : Fun := fun avs H =>
  match avs, H with
  | [.dat (.list (.int .u8)) x2], [] => ⟨_, laws_FnStarOk x2, fun (t : Bool) => (dB t, []), [], none⟩
  | _, _ => Ans.no

theorem laws_FnStarOk_sound : Sound Tryd.prog 3 F_laws_FnStarOk := by
  refine fn_sound' (C := laws_FnStarOk_ctx) (c := bodyOf Tryd.f3) (cok_of tys_ok (allc spec_DrawStarOk_sound (allc impl_StarOk_sound (allc spec_StarOk_sound (allc spec_TreeOk_sound (allc laws_alive_sound (allc impl_MadeFlat_sound (allc impl_CrossingsOf_sound alln))))))) (allc Tryd.call4 (allc Tryd.call5 (allc Tryd.call6 (allc Tryd.call7 (allc Tryd.call8 (allc Tryd.call10 (allc Tryd.call9 alln))))))) (by kernel_rfl)) Tryd.func3 (by kernel_rfl) LL laws_FnStarOk_an ?_
  intro avs H r H' h
  unfold F_laws_FnStarOk at h
  split at h
  · refine Awp.cast ?_ ?_ ?_ (laws_FnStarOk_e _ h) <;> kernel_rfl
  · simp [Ans.no, Ans.run] at h

end Go.Rv
