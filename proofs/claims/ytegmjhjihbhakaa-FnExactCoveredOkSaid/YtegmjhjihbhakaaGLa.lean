/-
  The checked code answers as the plain functions do; written by program. Conditions: none.
-/
import Derived.Test.YtegmjhjihbhakaaGN
import Derived.Test.YtegmjhjihbhakaaProg
set_option linter.unusedVariables false
set_option linter.unusedSimpArgs false
set_option maxRecDepth 100000
namespace Go.Rv
open Go.Proofs
theorem ty3 : TIOk Try.prog 3 ⟨.int .i64, 1, 8, some (.int .i64), [.int .i64 0]⟩ := ⟨⟨infoOf (Try.prog.info? 3), by kernel_rfl, by kernel_rfl, by kernel_rfl, .int .i64 0, by kernel_rfl, by kernel_rfl⟩, (by kernel_rfl : Try.prog.underlying 3 = some (.int .i64))⟩
theorem ty4 : TIOk Try.prog 4 ⟨.bool, 1, 1, some .bool, [.bool false]⟩ := ⟨⟨infoOf (Try.prog.info? 4), by kernel_rfl, by kernel_rfl, by kernel_rfl, .bool false, by kernel_rfl, by kernel_rfl⟩, (by kernel_rfl : Try.prog.underlying 4 = some .bool)⟩
theorem ty5 : TIOk Try.prog 5 ⟨.int .u8, 1, 1, some (.int .u8), [.int .u8 0]⟩ := ⟨⟨infoOf (Try.prog.info? 5), by kernel_rfl, by kernel_rfl, by kernel_rfl, .int .u8 0, by kernel_rfl, by kernel_rfl⟩, (by kernel_rfl : Try.prog.underlying 5 = some (.int .u8))⟩
theorem ty22 : TIOk Try.prog 22 ⟨.slice 5, 1, 24, some (.list (.int .u8)), [.slice none 0 0]⟩ := ⟨⟨infoOf (Try.prog.info? 22), by kernel_rfl, by kernel_rfl, by kernel_rfl, .slice none 0 0, by kernel_rfl, by kernel_rfl⟩, (by kernel_rfl : Try.prog.underlying 22 = some (.slice 5))⟩
theorem ty27 : TIOk Try.prog 27 ⟨.slice 3, 1, 24, some (.list (.int .i64)), [.slice none 0 0]⟩ := ⟨⟨infoOf (Try.prog.info? 27), by kernel_rfl, by kernel_rfl, by kernel_rfl, .slice none 0 0, by kernel_rfl, by kernel_rfl⟩, (by kernel_rfl : Try.prog.underlying 27 = some (.slice 3))⟩
theorem ty43 : TIOk Try.prog 43 ⟨.strct [(0, 3), (1, 3)], 2, 16, some (.pair (.int .i64) (.pair (.int .i64) .unit)), [.int .i64 0, .int .i64 0]⟩ := ⟨⟨infoOf (Try.prog.info? 43), by kernel_rfl, by kernel_rfl, by kernel_rfl, .agg #[.int .i64 0, .int .i64 0], by kernel_rfl, by kernel_rfl⟩, ⟨fieldsOf (Try.prog.underlying 43), by kernel_rfl, by kernel_rfl⟩⟩
theorem ty48 : TIOk Try.prog 48 ⟨.slice 43, 1, 24, some (.list (.pair (.int .i64) (.pair (.int .i64) .unit))), [.slice none 0 0]⟩ := ⟨⟨infoOf (Try.prog.info? 48), by kernel_rfl, by kernel_rfl, by kernel_rfl, .slice none 0 0, by kernel_rfl, by kernel_rfl⟩, (by kernel_rfl : Try.prog.underlying 48 = some (.slice 43))⟩
theorem ty51 : TIOk Try.prog 51 ⟨.slice 27, 1, 24, some (.list (.list (.int .i64))), [.slice none 0 0]⟩ := ⟨⟨infoOf (Try.prog.info? 51), by kernel_rfl, by kernel_rfl, by kernel_rfl, .slice none 0 0, by kernel_rfl, by kernel_rfl⟩, (by kernel_rfl : Try.prog.underlying 51 = some (.slice 27))⟩
theorem ty65 : TIOk Try.prog 65 ⟨.strct [(0, 22), (1, 3)], 2, 32, some (.pair (.list (.int .u8)) (.pair (.int .i64) .unit)), [.slice none 0 0, .int .i64 0]⟩ := ⟨⟨infoOf (Try.prog.info? 65), by kernel_rfl, by kernel_rfl, by kernel_rfl, .agg #[.slice none 0 0, .int .i64 0], by kernel_rfl, by kernel_rfl⟩, ⟨fieldsOf (Try.prog.underlying 65), by kernel_rfl, by kernel_rfl⟩⟩
theorem ty72 : TIOk Try.prog 72 ⟨.strct [(0, 27), (1, 3), (2, 3)], 3, 40, some (.pair (.list (.int .i64)) (.pair (.int .i64) (.pair (.int .i64) .unit))), [.slice none 0 0, .int .i64 0, .int .i64 0]⟩ := ⟨⟨infoOf (Try.prog.info? 72), by kernel_rfl, by kernel_rfl, by kernel_rfl, .agg #[.slice none 0 0, .int .i64 0, .int .i64 0], by kernel_rfl, by kernel_rfl⟩, ⟨fieldsOf (Try.prog.underlying 72), by kernel_rfl, by kernel_rfl⟩⟩
theorem ty76 : TIOk Try.prog 76 ⟨.int .u64, 1, 8, some (.int .u64), [.int .u64 0]⟩ := ⟨⟨infoOf (Try.prog.info? 76), by kernel_rfl, by kernel_rfl, by kernel_rfl, .int .u64 0, by kernel_rfl, by kernel_rfl⟩, (by kernel_rfl : Try.prog.underlying 76 = some (.int .u64))⟩
theorem ty77 : TIOk Try.prog 77 ⟨.arr 9 4, 9, 9, none, [.bool false, .bool false, .bool false, .bool false, .bool false, .bool false, .bool false, .bool false, .bool false]⟩ := ⟨⟨infoOf (Try.prog.info? 77), by kernel_rfl, by kernel_rfl, by kernel_rfl, .agg #[.bool false, .bool false, .bool false, .bool false, .bool false, .bool false, .bool false, .bool false, .bool false], by kernel_rfl, by kernel_rfl⟩, (by kernel_rfl : Try.prog.underlying 77 = some (.array 9 4))⟩
def tys : List (TypeId × TI) := [(3, ⟨.int .i64, 1, 8, some (.int .i64), [.int .i64 0]⟩), (4, ⟨.bool, 1, 1, some .bool, [.bool false]⟩), (5, ⟨.int .u8, 1, 1, some (.int .u8), [.int .u8 0]⟩), (22, ⟨.slice 5, 1, 24, some (.list (.int .u8)), [.slice none 0 0]⟩), (27, ⟨.slice 3, 1, 24, some (.list (.int .i64)), [.slice none 0 0]⟩), (43, ⟨.strct [(0, 3), (1, 3)], 2, 16, some (.pair (.int .i64) (.pair (.int .i64) .unit)), [.int .i64 0, .int .i64 0]⟩), (48, ⟨.slice 43, 1, 24, some (.list (.pair (.int .i64) (.pair (.int .i64) .unit))), [.slice none 0 0]⟩), (51, ⟨.slice 27, 1, 24, some (.list (.list (.int .i64))), [.slice none 0 0]⟩), (65, ⟨.strct [(0, 22), (1, 3)], 2, 32, some (.pair (.list (.int .u8)) (.pair (.int .i64) .unit)), [.slice none 0 0, .int .i64 0]⟩), (72, ⟨.strct [(0, 27), (1, 3), (2, 3)], 3, 40, some (.pair (.list (.int .i64)) (.pair (.int .i64) (.pair (.int .i64) .unit))), [.slice none 0 0, .int .i64 0, .int .i64 0]⟩), (76, ⟨.int .u64, 1, 8, some (.int .u64), [.int .u64 0]⟩), (77, ⟨.arr 9 4, 9, 9, none, [.bool false, .bool false, .bool false, .bool false, .bool false, .bool false, .bool false, .bool false, .bool false]⟩)]
theorem tys_ok : TOk Try.prog (tlook tys) := tok_of (List.forall_mem_cons.2 ⟨ty3, List.forall_mem_cons.2 ⟨ty4, List.forall_mem_cons.2 ⟨ty5, List.forall_mem_cons.2 ⟨ty22, List.forall_mem_cons.2 ⟨ty27, List.forall_mem_cons.2 ⟨ty43, List.forall_mem_cons.2 ⟨ty48, List.forall_mem_cons.2 ⟨ty51, List.forall_mem_cons.2 ⟨ty65, List.forall_mem_cons.2 ⟨ty72, List.forall_mem_cons.2 ⟨ty76, List.forall_mem_cons.2 ⟨ty77, by simp⟩⟩⟩⟩⟩⟩⟩⟩⟩⟩⟩⟩)
def ioF (f : FuncId) (i : Nat) : Bool := [(26, 0), (47, 1)].any fun (p : Nat × Nat) => Nat.beq p.1 f && Nat.beq p.2 i

/-! loop.example/headtrees/spec.l20Open -/

def spec_l20Open_an : Ann := (.seq (.leaf [0]) (.seq (.seq (.leaf [0, 5]) (.cond (.leaf [0]) (.leaf [0]))) (.seq (.leaf [2]) (.leaf [2]))))

noncomputable def spec_l20Open_ctx : Ctx := ⟨tlook tys, olook [], ioF, 0⟩

theorem spec_l20Open_n1_l (x12 : List Int) : Link spec_l20Open_ctx LL (bodyOf Try.f28) spec_l20Open_an (⟨mkE 11 0 [(0, .dat (.list (.int .u8)) x12)], []⟩ : St) (spec_l20Open_n1 x12) (fun (t : (List Int)) => (Exit.ret, (⟨mkE 11 0 [(2, .ptr 0 0)], [some (.box [.dat (.list (.int .u8)) t, .dat (.int .i64) 0])]⟩ : St))) := by
  refine Link.of fun K h => ?_
  simp only [spec_l20Open_n1, wpO_bind, wpO_cond, wpO_map, wpO_some] at h
  exact Awp.of (by kernel_rfl) h

theorem spec_l20Open_e (x12 : List Int) {r : AV} {H' : Heap} (h : (Ans.mk _ (spec_l20Open x12) (fun (t : (List Int)) => (.ptr 0 0, [some (.box [.dat (.list (.int .u8)) t, .dat (.int .i64) 0])]))).run = some (r, H')) : Awp spec_l20Open_ctx LL (bodyOf Try.f28) spec_l20Open_an (⟨mkE 11 0 [(0, .dat (.list (.int .u8)) x12)], []⟩ : St) (Ret (tlook tys) Try.f28.results.toList r H') :=
  ret_of' (spec_l20Open_n1_l x12) (by unfold spec_l20Open; kernel_rfl) (by
  intro t
  exact ret_mk [.ptr 0 0] (by kernel_rfl) (by kernel_rfl) (by kernel_rfl) (by kernel_rfl)) h

def F_spec_l20Open : Fun := fun avs H =>
  match avs, H with
  | [.dat (.list (.int .u8)) x12], [] => ⟨_, spec_l20Open x12, fun (t : (List Int)) => (.ptr 0 0, [some (.box [.dat (.list (.int .u8)) t, .dat (.int .i64) 0])])⟩
  | _, _ => Ans.no

theorem spec_l20Open_sound : Sound Try.prog 28 F_spec_l20Open := by
  refine fn_sound' (C := spec_l20Open_ctx) (c := bodyOf Try.f28) (cok_of tys_ok (by simp) (by simp) (by kernel_rfl)) Try.func28 (by kernel_rfl) LL spec_l20Open_an ?_
  intro avs H r H' h
  unfold F_spec_l20Open at h
  split at h
  · refine Awp.cast ?_ ?_ ?_ (spec_l20Open_e _ h) <;> kernel_rfl
  · simp [Ans.no, Ans.run] at h

/-! (*loop.example/headtrees/spec.l20Rd).pick -/

def spec_l20Rd_pick_an : Ann := (.seq (.leaf [0, 1]) (.seq (.leaf [0, 1]) (.seq (.seq (.leaf [0, 1, 24]) (.cond (.seq (.leaf [4]) (.leaf [4])) (.leaf [0, 1]))) (.seq (.leaf [0, 1, 5]) (.seq (.seq (.leaf [0, 1, 5, 36]) (.cond (.seq (.leaf [4]) (.leaf [4])) (.leaf [0, 1, 5]))) (.seq (.draw [] [0, 1, 2, 3, 4, 5, 6, 7, 8, 9, 10, 11, 12, 13, 14, 15, 16, 17, 18, 19, 20, 21, 22, 23, 24, 25, 26, 27, 28, 29, 30, 31, 32, 33, 34, 35, 36, 37, 38, 39, 40, 41, 42, 43, 44, 45] [] [1, 6]) (.seq (.leaf [1, 6]) (.seq (.leaf [4]) (.leaf [4])))))))))

noncomputable def spec_l20Rd_pick_ctx : Ctx := ⟨tlook tys, olook [], ioF, 1⟩

theorem spec_l20Rd_pick_n1_l (x34 : Int) (x35 : List Int) (x36 : Int) : Link spec_l20Rd_pick_ctx LL (bodyOf Try.f29) spec_l20Rd_pick_an (⟨mkE 99 0 [(0, .ptr 0 0), (1, .dat (.int .i64) x34)], [some (.box [.dat (.list (.int .u8)) x35, .dat (.int .i64) x36])]⟩ : St) (spec_l20Rd_pick_n1 x34 x35 x36) (fun (t : Int × Int) => (Exit.ret, (⟨mkE 99 0 [(4, .dat (.int .i64) t.1)], [some (.box [.dat (.list (.int .u8)) x35, .dat (.int .i64) t.2])]⟩ : St))) := by
  refine Link.of fun K h => ?_
  simp only [spec_l20Rd_pick_n1, wpO_bind, wpO_cond, wpO_map, wpO_some] at h
  exact Awp.of (by kernel_rfl) h

theorem spec_l20Rd_pick_e (x34 : Int) (x35 : List Int) (x36 : Int) {r : AV} {H' : Heap} (h : (Ans.mk _ (spec_l20Rd_pick x34 x35 x36) (fun (t : Int × Int) => (.dat (.int .i64) t.1, [some (.box [.dat (.list (.int .u8)) x35, .dat (.int .i64) t.2])]))).run = some (r, H')) : Awp spec_l20Rd_pick_ctx LL (bodyOf Try.f29) spec_l20Rd_pick_an (⟨mkE 99 0 [(0, .ptr 0 0), (1, .dat (.int .i64) x34)], [some (.box [.dat (.list (.int .u8)) x35, .dat (.int .i64) x36])]⟩ : St) (Ret (tlook tys) Try.f29.results.toList r H') :=
  ret_of' (spec_l20Rd_pick_n1_l x34 x35 x36) (by unfold spec_l20Rd_pick; kernel_rfl) (by
  intro t
  exact ret_mk [.dat (.int .i64) t.1] (by kernel_rfl) (by kernel_rfl) (by kernel_rfl) (by kernel_rfl)) h

def F_spec_l20Rd_pick : Fun := fun avs H =>
  match avs, H with
  | [.ptr 0 0, .dat (.int .i64) x34], [some (.box [.dat (.list (.int .u8)) x35, .dat (.int .i64) x36])] => ⟨_, spec_l20Rd_pick x34 x35 x36, fun (t : Int × Int) => (.dat (.int .i64) t.1, [some (.box [.dat (.list (.int .u8)) x35, .dat (.int .i64) t.2])])⟩
  | _, _ => Ans.no

theorem spec_l20Rd_pick_sound : Sound Try.prog 29 F_spec_l20Rd_pick := by
  refine fn_sound' (C := spec_l20Rd_pick_ctx) (c := bodyOf Try.f29) (cok_of tys_ok (by simp) (by simp) (by kernel_rfl)) Try.func29 (by kernel_rfl) LL spec_l20Rd_pick_an ?_
  intro avs H r H' h
  unfold F_spec_l20Rd_pick at h
  split at h
  · refine Awp.cast ?_ ?_ ?_ (spec_l20Rd_pick_e _ _ _ h) <;> kernel_rfl
  · simp [Ans.no, Ans.run] at h

/-! loop.example/headtrees/spec.DrawCrossOk -/

def spec_DrawCrossOk_an : Ann := (.seq (.leaf [0]) (.seq (.leaf [6]) (.seq (.leaf [2, 3, 4, 5]) (.leaf [2, 3, 4, 5]))))

noncomputable def spec_DrawCrossOk_ctx : Ctx := ⟨tlook tys, olook [(28, F_spec_l20Open), (29, F_spec_l20Rd_pick)], ioF, 0⟩

theorem spec_DrawCrossOk_n1_l (x10 : List Int) : Link spec_DrawCrossOk_ctx LL (bodyOf Try.f10) spec_DrawCrossOk_an (⟨mkE 20 0 [(0, .dat (.list (.int .u8)) x10)], []⟩ : St) (spec_DrawCrossOk_n1 x10) (fun (t : Int × Int × Int × Int) => (Exit.ret, (⟨mkE 20 0 [(2, .dat (.int .i64) t.1), (3, .dat (.int .i64) t.2.1), (4, .dat (.int .i64) t.2.2.1), (5, .dat (.int .i64) t.2.2.2)], []⟩ : St))) := by
  refine Link.of fun K h => ?_
  simp only [spec_DrawCrossOk_n1, wpO_bind, wpO_cond, wpO_map, wpO_some] at h
  exact Awp.of (by kernel_rfl) h

theorem spec_DrawCrossOk_e (x10 : List Int) {r : AV} {H' : Heap} (h : (Ans.mk _ (spec_DrawCrossOk x10) (fun (t : Int × Int × Int × Int) => (.tup [.dat (.int .i64) t.1, .dat (.int .i64) t.2.1, .dat (.int .i64) t.2.2.1, .dat (.int .i64) t.2.2.2], []))).run = some (r, H')) : Awp spec_DrawCrossOk_ctx LL (bodyOf Try.f10) spec_DrawCrossOk_an (⟨mkE 20 0 [(0, .dat (.list (.int .u8)) x10)], []⟩ : St) (Ret (tlook tys) Try.f10.results.toList r H') :=
  ret_of' (spec_DrawCrossOk_n1_l x10) (by unfold spec_DrawCrossOk; kernel_rfl) (by
  intro t
  exact ret_mk [.dat (.int .i64) t.1, .dat (.int .i64) t.2.1, .dat (.int .i64) t.2.2.1, .dat (.int .i64) t.2.2.2] (by kernel_rfl) (by kernel_rfl) (by kernel_rfl) (by kernel_rfl)) h

def F_spec_DrawCrossOk : Fun := fun avs H =>
  match avs, H with
  | [.dat (.list (.int .u8)) x10], [] => ⟨_, spec_DrawCrossOk x10, fun (t : Int × Int × Int × Int) => (.tup [.dat (.int .i64) t.1, .dat (.int .i64) t.2.1, .dat (.int .i64) t.2.2.1, .dat (.int .i64) t.2.2.2], [])⟩
  | _, _ => Ans.no

theorem spec_DrawCrossOk_sound : Sound Try.prog 10 F_spec_DrawCrossOk := by
  refine fn_sound' (C := spec_DrawCrossOk_ctx) (c := bodyOf Try.f10) (cok_of tys_ok (List.forall_mem_cons.2 ⟨spec_l20Open_sound, List.forall_mem_cons.2 ⟨spec_l20Rd_pick_sound, by simp⟩⟩) (List.forall_mem_cons.2 ⟨Try.call28, List.forall_mem_cons.2 ⟨Try.call29, by simp⟩⟩) (by kernel_rfl)) Try.func10 (by kernel_rfl) LL spec_DrawCrossOk_an ?_
  intro avs H r H' h
  unfold F_spec_DrawCrossOk at h
  split at h
  · refine Awp.cast ?_ ?_ ?_ (spec_DrawCrossOk_e _ h) <;> kernel_rfl
  · simp [Ans.no, Ans.run] at h

/-! loop.example/headtrees/impl.arcBetween -/

def impl_arcBetween_an : Ann := (.seq (.leaf [0, 1, 4]) (.seq (.seq (.leaf [0, 1, 4, 16]) (.cond (.seq (.leaf [4, 5]) (.leaf [4, 5])) (.leaf [0, 1, 4]))) (.seq (.leaf [4, 5]) (.leaf [4, 5]))))

noncomputable def impl_arcBetween_ctx : Ctx := ⟨tlook tys, olook [], ioF, 0⟩

theorem impl_arcBetween_n1_l (x237 : Int) (x238 : Int) : Link impl_arcBetween_ctx LL (bodyOf Try.f30) impl_arcBetween_an (⟨mkE 25 0 [(0, .dat (.int .i64) x237), (1, .dat (.int .i64) x238)], []⟩ : St) (impl_arcBetween_n1 x237 x238) (fun (t : Bool × Int × Int) => (Exit.ret, (⟨mkE 25 0 [(4, .ptr 0 0), (5, .dat .bool t.1)], [some (.box [.dat (.int .i64) t.2.1, .dat (.int .i64) t.2.2])]⟩ : St))) := by
  refine Link.of fun K h => ?_
  simp only [impl_arcBetween_n1, wpO_bind, wpO_cond, wpO_map, wpO_some] at h
  exact Awp.of (by kernel_rfl) h

theorem impl_arcBetween_e (x237 : Int) (x238 : Int) {r : AV} {H' : Heap} (h : (Ans.mk _ (impl_arcBetween x237 x238) (fun (t : Bool × Int × Int) => (.tup [.agg [.dat (.int .i64) t.2.1, .dat (.int .i64) t.2.2], .dat .bool t.1], [some (.box [.dat (.int .i64) t.2.1, .dat (.int .i64) t.2.2])]))).run = some (r, H')) : Awp impl_arcBetween_ctx LL (bodyOf Try.f30) impl_arcBetween_an (⟨mkE 25 0 [(0, .dat (.int .i64) x237), (1, .dat (.int .i64) x238)], []⟩ : St) (Ret (tlook tys) Try.f30.results.toList r H') :=
  ret_of' (impl_arcBetween_n1_l x237 x238) (by unfold impl_arcBetween; kernel_rfl) (by
  intro t
  exact ret_mk [.agg [.dat (.int .i64) t.2.1, .dat (.int .i64) t.2.2], .dat .bool t.1] (by kernel_rfl) (by kernel_rfl) (by kernel_rfl) (by kernel_rfl)) h

def F_impl_arcBetween : Fun := fun avs H =>
  match avs, H with
  | [.dat (.int .i64) x237, .dat (.int .i64) x238], [] => ⟨_, impl_arcBetween x237 x238, fun (t : Bool × Int × Int) => (.tup [.agg [.dat (.int .i64) t.2.1, .dat (.int .i64) t.2.2], .dat .bool t.1], [some (.box [.dat (.int .i64) t.2.1, .dat (.int .i64) t.2.2])])⟩
  | _, _ => Ans.no

theorem impl_arcBetween_sound : Sound Try.prog 30 F_impl_arcBetween := by
  refine fn_sound' (C := impl_arcBetween_ctx) (c := bodyOf Try.f30) (cok_of tys_ok (by simp) (by simp) (by kernel_rfl)) Try.func30 (by kernel_rfl) LL impl_arcBetween_an ?_
  intro avs H r H' h
  unfold F_impl_arcBetween at h
  split at h
  · refine Awp.cast ?_ ?_ ?_ (impl_arcBetween_e _ _ h) <;> kernel_rfl
  · simp [Ans.no, Ans.run] at h

/-! (loop.example/headtrees/impl.arc).covers -/

def impl_arc_covers_an : Ann := (.seq (.leaf [1, 2]) (.seq (.leaf [4]) (.leaf [4])))

noncomputable def impl_arc_covers_ctx : Ctx := ⟨tlook tys, olook [], ioF, 0⟩

theorem impl_arc_covers_n1_l (x279 : Int) (x280 : Int) (x281 : Int) : Link impl_arc_covers_ctx LL (bodyOf Try.f35) impl_arc_covers_an (⟨mkE 15 0 [(0, .agg [.dat (.int .i64) x279, .dat (.int .i64) x280]), (1, .dat (.int .i64) x281)], []⟩ : St) (impl_arc_covers_n1 x279 x280 x281) (fun (t : Bool) => (Exit.ret, (⟨mkE 15 0 [(4, .dat .bool t)], []⟩ : St))) := by
  refine Link.of fun K h => ?_
  simp only [impl_arc_covers_n1, wpO_bind, wpO_cond, wpO_map, wpO_some] at h
  exact Awp.of (by kernel_rfl) h

theorem impl_arc_covers_e (x279 : Int) (x280 : Int) (x281 : Int) {r : AV} {H' : Heap} (h : (Ans.mk _ (impl_arc_covers x279 x280 x281) (fun (t : Bool) => (.dat .bool t, []))).run = some (r, H')) : Awp impl_arc_covers_ctx LL (bodyOf Try.f35) impl_arc_covers_an (⟨mkE 15 0 [(0, .agg [.dat (.int .i64) x279, .dat (.int .i64) x280]), (1, .dat (.int .i64) x281)], []⟩ : St) (Ret (tlook tys) Try.f35.results.toList r H') :=
  ret_of' (impl_arc_covers_n1_l x279 x280 x281) (by unfold impl_arc_covers; kernel_rfl) (by
  intro t
  exact ret_mk [.dat .bool t] (by kernel_rfl) (by kernel_rfl) (by kernel_rfl) (by kernel_rfl)) h

def F_impl_arc_covers : Fun := fun avs H =>
  match avs, H with
  | [.agg [.dat (.int .i64) x279, .dat (.int .i64) x280], .dat (.int .i64) x281], [] => ⟨_, impl_arc_covers x279 x280 x281, fun (t : Bool) => (.dat .bool t, [])⟩
  | _, _ => Ans.no

theorem impl_arc_covers_sound : Sound Try.prog 35 F_impl_arc_covers := by
  refine fn_sound' (C := impl_arc_covers_ctx) (c := bodyOf Try.f35) (cok_of tys_ok (by simp) (by simp) (by kernel_rfl)) Try.func35 (by kernel_rfl) LL impl_arc_covers_an ?_
  intro avs H r H' h
  unfold F_impl_arc_covers at h
  split at h
  · refine Awp.cast ?_ ?_ ?_ (impl_arc_covers_e _ _ _ h) <;> kernel_rfl
  · simp [Ans.no, Ans.run] at h

/-! (loop.example/headtrees/impl.arc).leavesOut -/

def impl_arc_leavesOut_an : Ann := (.seq (.leaf [1, 2]) (.seq (.leaf [4]) (.leaf [4])))

noncomputable def impl_arc_leavesOut_ctx : Ctx := ⟨tlook tys, olook [], ioF, 0⟩

theorem impl_arc_leavesOut_n1_l (x288 : Int) (x289 : Int) (x290 : Int) : Link impl_arc_leavesOut_ctx LL (bodyOf Try.f45) impl_arc_leavesOut_an (⟨mkE 15 0 [(0, .agg [.dat (.int .i64) x288, .dat (.int .i64) x289]), (1, .dat (.int .i64) x290)], []⟩ : St) (impl_arc_leavesOut_n1 x288 x289 x290) (fun (t : Bool) => (Exit.ret, (⟨mkE 15 0 [(4, .dat .bool t)], []⟩ : St))) := by
  refine Link.of fun K h => ?_
  simp only [impl_arc_leavesOut_n1, wpO_bind, wpO_cond, wpO_map, wpO_some] at h
  exact Awp.of (by kernel_rfl) h

theorem impl_arc_leavesOut_e (x288 : Int) (x289 : Int) (x290 : Int) {r : AV} {H' : Heap} (h : (Ans.mk _ (impl_arc_leavesOut x288 x289 x290) (fun (t : Bool) => (.dat .bool t, []))).run = some (r, H')) : Awp impl_arc_leavesOut_ctx LL (bodyOf Try.f45) impl_arc_leavesOut_an (⟨mkE 15 0 [(0, .agg [.dat (.int .i64) x288, .dat (.int .i64) x289]), (1, .dat (.int .i64) x290)], []⟩ : St) (Ret (tlook tys) Try.f45.results.toList r H') :=
  ret_of' (impl_arc_leavesOut_n1_l x288 x289 x290) (by unfold impl_arc_leavesOut; kernel_rfl) (by
  intro t
  exact ret_mk [.dat .bool t] (by kernel_rfl) (by kernel_rfl) (by kernel_rfl) (by kernel_rfl)) h

def F_impl_arc_leavesOut : Fun := fun avs H =>
  match avs, H with
  | [.agg [.dat (.int .i64) x288, .dat (.int .i64) x289], .dat (.int .i64) x290], [] => ⟨_, impl_arc_leavesOut x288 x289 x290, fun (t : Bool) => (.dat .bool t, [])⟩
  | _, _ => Ans.no

theorem impl_arc_leavesOut_sound : Sound Try.prog 45 F_impl_arc_leavesOut := by
  refine fn_sound' (C := impl_arc_leavesOut_ctx) (c := bodyOf Try.f45) (cok_of tys_ok (by simp) (by simp) (by kernel_rfl)) Try.func45 (by kernel_rfl) LL impl_arc_leavesOut_an ?_
  intro avs H r H' h
  unfold F_impl_arc_leavesOut at h
  split at h
  · refine Awp.cast ?_ ?_ ?_ (impl_arc_leavesOut_e _ _ _ h) <;> kernel_rfl
  · simp [Ans.no, Ans.run] at h

/-! (loop.example/headtrees/impl.arc).crosses -/

def impl_arc_crosses_an : Ann := (.seq (.leaf [2, 3]) (.seq (.leaf [4]) (.leaf [4])))

noncomputable def impl_arc_crosses_ctx : Ctx := ⟨tlook tys, olook [(35, F_impl_arc_covers), (45, F_impl_arc_leavesOut)], ioF, 0⟩

theorem impl_arc_crosses_n1_l (x275 : Int) (x276 : Int) (x277 : Int) (x278 : Int) : Link impl_arc_crosses_ctx LL (bodyOf Try.f31) impl_arc_crosses_an (⟨mkE 27 0 [(0, .agg [.dat (.int .i64) x275, .dat (.int .i64) x276]), (1, .agg [.dat (.int .i64) x277, .dat (.int .i64) x278])], []⟩ : St) (impl_arc_crosses_n1 x275 x276 x277 x278) (fun (t : Bool) => (Exit.ret, (⟨mkE 27 0 [(4, .dat .bool t)], []⟩ : St))) := by
  refine Link.of fun K h => ?_
  simp only [impl_arc_crosses_n1, wpO_bind, wpO_cond, wpO_map, wpO_some] at h
  exact Awp.of (by kernel_rfl) h

theorem impl_arc_crosses_e (x275 : Int) (x276 : Int) (x277 : Int) (x278 : Int) {r : AV} {H' : Heap} (h : (Ans.mk _ (impl_arc_crosses x275 x276 x277 x278) (fun (t : Bool) => (.dat .bool t, []))).run = some (r, H')) : Awp impl_arc_crosses_ctx LL (bodyOf Try.f31) impl_arc_crosses_an (⟨mkE 27 0 [(0, .agg [.dat (.int .i64) x275, .dat (.int .i64) x276]), (1, .agg [.dat (.int .i64) x277, .dat (.int .i64) x278])], []⟩ : St) (Ret (tlook tys) Try.f31.results.toList r H') :=
  ret_of' (impl_arc_crosses_n1_l x275 x276 x277 x278) (by unfold impl_arc_crosses; kernel_rfl) (by
  intro t
  exact ret_mk [.dat .bool t] (by kernel_rfl) (by kernel_rfl) (by kernel_rfl) (by kernel_rfl)) h

def F_impl_arc_crosses : Fun := fun avs H =>
  match avs, H with
  | [.agg [.dat (.int .i64) x275, .dat (.int .i64) x276], .agg [.dat (.int .i64) x277, .dat (.int .i64) x278]], [] => ⟨_, impl_arc_crosses x275 x276 x277 x278, fun (t : Bool) => (.dat .bool t, [])⟩
  | _, _ => Ans.no

theorem impl_arc_crosses_sound : Sound Try.prog 31 F_impl_arc_crosses := by
  refine fn_sound' (C := impl_arc_crosses_ctx) (c := bodyOf Try.f31) (cok_of tys_ok (List.forall_mem_cons.2 ⟨impl_arc_covers_sound, List.forall_mem_cons.2 ⟨impl_arc_leavesOut_sound, by simp⟩⟩) (List.forall_mem_cons.2 ⟨Try.call35, List.forall_mem_cons.2 ⟨Try.call45, by simp⟩⟩) (by kernel_rfl)) Try.func31 (by kernel_rfl) LL impl_arc_crosses_an ?_
  intro avs H r H' h
  unfold F_impl_arc_crosses at h
  split at h
  · refine Awp.cast ?_ ?_ ?_ (impl_arc_crosses_e _ _ _ _ h) <;> kernel_rfl
  · simp [Ans.no, Ans.run] at h

/-! loop.example/headtrees/impl.CrossOk -/

def impl_CrossOk_an : Ann := (.seq (.leaf [0, 1, 2, 3]) (.seq (.leaf [2, 3, 9, 10]) (.seq (.leaf [9, 10, 11, 12]) (.seq (.leaf [8]) (.leaf [8])))))

noncomputable def impl_CrossOk_ctx : Ctx := ⟨tlook tys, olook [(30, F_impl_arcBetween), (31, F_impl_arc_crosses)], ioF, 0⟩

theorem impl_CrossOk_n1_l (x233 : Int) (x234 : Int) (x235 : Int) (x236 : Int) : Link impl_CrossOk_ctx LL (bodyOf Try.f11) impl_CrossOk_an (⟨mkE 34 0 [(0, .dat (.int .i64) x233), (1, .dat (.int .i64) x234), (2, .dat (.int .i64) x235), (3, .dat (.int .i64) x236)], []⟩ : St) (impl_CrossOk_n1 x233 x234 x235 x236) (fun (t : Bool) => (Exit.ret, (⟨mkE 34 0 [(8, .dat .bool t)], []⟩ : St))) := by
  refine Link.of fun K h => ?_
  simp only [impl_CrossOk_n1, wpO_bind, wpO_cond, wpO_map, wpO_some] at h
  exact Awp.of (by kernel_rfl) h

theorem impl_CrossOk_e (x233 : Int) (x234 : Int) (x235 : Int) (x236 : Int) {r : AV} {H' : Heap} (h : (Ans.mk _ (impl_CrossOk x233 x234 x235 x236) (fun (t : Bool) => (.dat .bool t, []))).run = some (r, H')) : Awp impl_CrossOk_ctx LL (bodyOf Try.f11) impl_CrossOk_an (⟨mkE 34 0 [(0, .dat (.int .i64) x233), (1, .dat (.int .i64) x234), (2, .dat (.int .i64) x235), (3, .dat (.int .i64) x236)], []⟩ : St) (Ret (tlook tys) Try.f11.results.toList r H') :=
  ret_of' (impl_CrossOk_n1_l x233 x234 x235 x236) (by unfold impl_CrossOk; kernel_rfl) (by
  intro t
  exact ret_mk [.dat .bool t] (by kernel_rfl) (by kernel_rfl) (by kernel_rfl) (by kernel_rfl)) h

def F_impl_CrossOk : Fun := fun avs H =>
  match avs, H with
  | [.dat (.int .i64) x233, .dat (.int .i64) x234, .dat (.int .i64) x235, .dat (.int .i64) x236], [] => ⟨_, impl_CrossOk x233 x234 x235 x236, fun (t : Bool) => (.dat .bool t, [])⟩
  | _, _ => Ans.no

theorem impl_CrossOk_sound : Sound Try.prog 11 F_impl_CrossOk := by
  refine fn_sound' (C := impl_CrossOk_ctx) (c := bodyOf Try.f11) (cok_of tys_ok (List.forall_mem_cons.2 ⟨impl_arcBetween_sound, List.forall_mem_cons.2 ⟨impl_arc_crosses_sound, by simp⟩⟩) (List.forall_mem_cons.2 ⟨Try.call30, List.forall_mem_cons.2 ⟨Try.call31, by simp⟩⟩) (by kernel_rfl)) Try.func11 (by kernel_rfl) LL impl_CrossOk_an ?_
  intro avs H r H' h
  unfold F_impl_CrossOk at h
  split at h
  · refine Awp.cast ?_ ?_ ?_ (impl_CrossOk_e _ _ _ _ h) <;> kernel_rfl
  · simp [Ans.no, Ans.run] at h

/-! loop.example/headtrees/spec.CrossOk -/

def spec_CrossOk_an : Ann := (.seq (.leaf [0, 1, 2, 3]) (.seq (.seq (.leaf [0, 1, 2, 3, 36]) (.cond (.seq (.leaf [8]) (.leaf [8])) (.leaf [0, 1, 2, 3]))) (.seq (.leaf [0, 1, 2, 3, 9]) (.seq (.leaf [2, 3, 9, 10]) (.seq (.leaf [2, 3, 9, 10, 11]) (.seq (.leaf [9, 10, 11, 12]) (.seq (.leaf [8]) (.leaf [8]))))))))

noncomputable def spec_CrossOk_ctx : Ctx := ⟨tlook tys, olook [], ioF, 0⟩

theorem spec_CrossOk_n1_l (x328 : Int) (x329 : Int) (x330 : Int) (x331 : Int) : Link spec_CrossOk_ctx LL (Code.seq (Code.fst (bodyOf Try.f12)) (Code.seq (Code.fst (Code.snd (bodyOf Try.f12))) (Code.seq (Code.fst (Code.snd (Code.snd (bodyOf Try.f12)))) (Code.seq (Code.fst (Code.snd (Code.snd (Code.snd (bodyOf Try.f12))))) (Code.seq (Code.fst (Code.snd (Code.snd (Code.snd (Code.snd (bodyOf Try.f12)))))) (Code.fst (Code.snd (Code.snd (Code.snd (Code.snd (Code.snd (bodyOf Try.f12)))))))))))) (Ann.seq (Ann.fst spec_CrossOk_an) (Ann.seq (Ann.fst (Ann.snd spec_CrossOk_an)) (Ann.seq (Ann.fst (Ann.snd (Ann.snd spec_CrossOk_an))) (Ann.seq (Ann.fst (Ann.snd (Ann.snd (Ann.snd spec_CrossOk_an)))) (Ann.seq (Ann.fst (Ann.snd (Ann.snd (Ann.snd (Ann.snd spec_CrossOk_an))))) (Ann.fst (Ann.snd (Ann.snd (Ann.snd (Ann.snd (Ann.snd spec_CrossOk_an))))))))))) (⟨mkE 77 0 [(0, .dat (.int .i64) x328), (1, .dat (.int .i64) x329), (2, .dat (.int .i64) x330), (3, .dat (.int .i64) x331)], []⟩ : St) (spec_CrossOk_n1 x328 x329 x330 x331) (Sum.elim (fun (t : Int × Int × Int × Int) => (Exit.normal, (⟨mkE 77 0 [(9, .dat (.int .i64) t.1), (10, .dat (.int .i64) t.2.1), (11, .dat (.int .i64) t.2.2.1), (12, .dat (.int .i64) t.2.2.2)], []⟩ : St))) (fun (t : Bool) => (Exit.ret, (⟨mkE 77 0 [(8, .dat .bool t)], []⟩ : St)))) := by
  refine Link.of fun K h => ?_
  simp only [spec_CrossOk_n1, wpO_bind, wpO_cond, wpO_map, wpO_some] at h
  exact Awp.of (by kernel_rfl) h

theorem spec_CrossOk_n2_l (x368 : Int) (x369 : Int) (x370 : Int) (x371 : Int) : Link spec_CrossOk_ctx LL (Code.snd (Code.snd (Code.snd (Code.snd (Code.snd (Code.snd (bodyOf Try.f12))))))) (Ann.snd (Ann.snd (Ann.snd (Ann.snd (Ann.snd (Ann.snd spec_CrossOk_an)))))) (⟨mkE 77 0 [(9, .dat (.int .i64) x368), (10, .dat (.int .i64) x369), (11, .dat (.int .i64) x370), (12, .dat (.int .i64) x371)], []⟩ : St) (spec_CrossOk_n2 x368 x369 x370 x371) (fun (t : Bool) => (Exit.ret, (⟨mkE 77 0 [(8, .dat .bool t)], []⟩ : St))) := by
  refine Link.of fun K h => ?_
  simp only [spec_CrossOk_n2, wpO_bind, wpO_cond, wpO_map, wpO_some] at h
  exact Awp.of (by kernel_rfl) h

theorem spec_CrossOk_n3_l (x328 : Int) (x329 : Int) (x330 : Int) (x331 : Int) : Link spec_CrossOk_ctx LL (bodyOf Try.f12) spec_CrossOk_an (⟨mkE 77 0 [(0, .dat (.int .i64) x328), (1, .dat (.int .i64) x329), (2, .dat (.int .i64) x330), (3, .dat (.int .i64) x331)], []⟩ : St) (spec_CrossOk_n3 x328 x329 x330 x331) (fun (t : Bool) => (Exit.ret, (⟨mkE 77 0 [(8, .dat .bool t)], []⟩ : St))) := by
  unfold spec_CrossOk_n3
  exact Link.cast (by kernel_rfl) (by kernel_rfl) (link_group (c := (Code.fst (Code.snd (Code.snd (Code.snd (Code.snd (Code.snd (bodyOf Try.f12)))))))) (a := (Ann.fst (Ann.snd (Ann.snd (Ann.snd (Ann.snd (Ann.snd spec_CrossOk_an))))))) [(Code.fst (bodyOf Try.f12)), (Code.fst (Code.snd (bodyOf Try.f12))), (Code.fst (Code.snd (Code.snd (bodyOf Try.f12)))), (Code.fst (Code.snd (Code.snd (Code.snd (bodyOf Try.f12))))), (Code.fst (Code.snd (Code.snd (Code.snd (Code.snd (bodyOf Try.f12))))))] [(Ann.fst spec_CrossOk_an), (Ann.fst (Ann.snd spec_CrossOk_an)), (Ann.fst (Ann.snd (Ann.snd spec_CrossOk_an))), (Ann.fst (Ann.snd (Ann.snd (Ann.snd spec_CrossOk_an)))), (Ann.fst (Ann.snd (Ann.snd (Ann.snd (Ann.snd spec_CrossOk_an)))))] rfl (link_seq2 (b := (Code.snd (Code.snd (Code.snd (Code.snd (Code.snd (Code.snd (bodyOf Try.f12)))))))) (y := (Ann.snd (Ann.snd (Ann.snd (Ann.snd (Ann.snd (Ann.snd spec_CrossOk_an))))))) (spec_CrossOk_n1_l x328 x329 x330 x331) (fun (t : Int × Int × Int × Int) => (spec_CrossOk_n2_l t.1 t.2.1 t.2.2.1 t.2.2.2)) (fun (t : Bool) => t) (by
  rintro t
  · kernel_rfl) (by
  rintro t f K h
  · exact h)))

theorem spec_CrossOk_e (x328 : Int) (x329 : Int) (x330 : Int) (x331 : Int) {r : AV} {H' : Heap} (h : (Ans.mk _ (spec_CrossOk x328 x329 x330 x331) (fun (t : Bool) => (.dat .bool t, []))).run = some (r, H')) : Awp spec_CrossOk_ctx LL (bodyOf Try.f12) spec_CrossOk_an (⟨mkE 77 0 [(0, .dat (.int .i64) x328), (1, .dat (.int .i64) x329), (2, .dat (.int .i64) x330), (3, .dat (.int .i64) x331)], []⟩ : St) (Ret (tlook tys) Try.f12.results.toList r H') :=
  ret_of' (spec_CrossOk_n3_l x328 x329 x330 x331) (by unfold spec_CrossOk; kernel_rfl) (by
  intro t
  exact ret_mk [.dat .bool t] (by kernel_rfl) (by kernel_rfl) (by kernel_rfl) (by kernel_rfl)) h

def F_spec_CrossOk : Fun := fun avs H =>
  match avs, H with
  | [.dat (.int .i64) x328, .dat (.int .i64) x329, .dat (.int .i64) x330, .dat (.int .i64) x331], [] => ⟨_, spec_CrossOk x328 x329 x330 x331, fun (t : Bool) => (.dat .bool t, [])⟩
  | _, _ => Ans.no

theorem spec_CrossOk_sound : Sound Try.prog 12 F_spec_CrossOk := by
  refine fn_sound' (C := spec_CrossOk_ctx) (c := bodyOf Try.f12) (cok_of tys_ok (by simp) (by simp) (by kernel_rfl)) Try.func12 (by kernel_rfl) LL spec_CrossOk_an ?_
  intro avs H r H' h
  unfold F_spec_CrossOk at h
  split at h
  · refine Awp.cast ?_ ?_ ?_ (spec_CrossOk_e _ _ _ _ h) <;> kernel_rfl
  · simp [Ans.no, Ans.run] at h

/-! loop.example/headtrees/laws.FnCrossOk -/

def laws_FnCrossOk_an : Ann := (.seq (.leaf [0]) (.seq (.seq (.leaf [0, 10]) (.cond (.seq (.leaf [2]) (.leaf [2])) (.leaf [0]))) (.seq (.leaf [3, 4, 5, 6]) (.seq (.leaf [3, 4, 5, 6, 7]) (.seq (.seq (.leaf [3, 4, 5, 6, 7, 29]) (.cond (.seq (.leaf [2]) (.leaf [2])) (.leaf [3, 4, 5, 6, 7]))) (.seq (.leaf [2]) (.leaf [2])))))))

noncomputable def laws_FnCrossOk_ctx : Ctx := ⟨tlook tys, olook [(10, F_spec_DrawCrossOk), (11, F_impl_CrossOk), (12, F_spec_CrossOk)], ioF, 0⟩

theorem laws_FnCrossOk_n1_l (x2 : List Int) : Link laws_FnCrossOk_ctx LL (bodyOf Try.f3) laws_FnCrossOk_an (⟨mkE 77 0 [(0, .dat (.list (.int .u8)) x2)], []⟩ : St) (laws_FnCrossOk_n1 x2) (fun (t : Bool) => (Exit.ret, (⟨mkE 77 0 [(2, .dat .bool t)], []⟩ : St))) := by
  refine Link.of fun K h => ?_
  simp only [laws_FnCrossOk_n1, wpO_bind, wpO_cond, wpO_map, wpO_some] at h
  exact Awp.of (by kernel_rfl) h

theorem laws_FnCrossOk_e (x2 : List Int) {r : AV} {H' : Heap} (h : (Ans.mk _ (laws_FnCrossOk x2) (fun (t : Bool) => (.dat .bool t, []))).run = some (r, H')) : Awp laws_FnCrossOk_ctx LL (bodyOf Try.f3) laws_FnCrossOk_an (⟨mkE 77 0 [(0, .dat (.list (.int .u8)) x2)], []⟩ : St) (Ret (tlook tys) Try.f3.results.toList r H') :=
  ret_of' (laws_FnCrossOk_n1_l x2) (by unfold laws_FnCrossOk; kernel_rfl) (by
  intro t
  exact ret_mk [.dat .bool t] (by kernel_rfl) (by kernel_rfl) (by kernel_rfl) (by kernel_rfl)) h

def F_laws_FnCrossOk : Fun := fun avs H =>
  match avs, H with
  | [.dat (.list (.int .u8)) x2], [] => ⟨_, laws_FnCrossOk x2, fun (t : Bool) => (.dat .bool t, [])⟩
  | _, _ => Ans.no

theorem laws_FnCrossOk_sound : Sound Try.prog 3 F_laws_FnCrossOk := by
  refine fn_sound' (C := laws_FnCrossOk_ctx) (c := bodyOf Try.f3) (cok_of tys_ok (List.forall_mem_cons.2 ⟨spec_DrawCrossOk_sound, List.forall_mem_cons.2 ⟨impl_CrossOk_sound, List.forall_mem_cons.2 ⟨spec_CrossOk_sound, by simp⟩⟩⟩) (List.forall_mem_cons.2 ⟨Try.call10, List.forall_mem_cons.2 ⟨Try.call11, List.forall_mem_cons.2 ⟨Try.call12, by simp⟩⟩⟩) (by kernel_rfl)) Try.func3 (by kernel_rfl) LL laws_FnCrossOk_an ?_
  intro avs H r H' h
  unfold F_laws_FnCrossOk at h
  split at h
  · refine Awp.cast ?_ ?_ ?_ (laws_FnCrossOk_e _ h) <;> kernel_rfl
  · simp [Ans.no, Ans.run] at h

/-! loop.example/headtrees/spec.l20Order -/

def spec_l20Order_an : Ann := (.seq (.leaf [0, 1]) (.seq (.leaf [0, 1, 5]) (.seq (.leaf [0, 1, 5, 6]) (.seq (.seq (.leaf [0, 1, 5, 6, 7]) (.block (.loop (.seq (.seq (.leaf [0, 1, 5, 6, 7, 15]) (.cond (.leaf [0, 1, 5, 6, 7]) (.leaf [5]))) (.seq (.block (.seq (.leaf [0, 1, 5, 6, 7, 8]) (.seq (.seq (.leaf [0, 1, 5, 6, 7, 8, 26]) (.cond (.leaf [0, 1, 5, 6, 7, 8]) (.leaf [0, 1, 5, 6, 7, 8]))) (.seq (.leaf [0, 1, 5, 6, 7, 8, 9]) (.seq (.leaf [0, 1, 5, 6, 7, 8, 9]) (.leaf [0, 1, 5, 6, 7])))))) (.leaf [0, 1, 5, 6, 7])))))) (.seq (.leaf [4]) (.leaf [4]))))))

noncomputable def spec_l20Order_ctx : Ctx := ⟨tlook tys, olook [(29, F_spec_l20Rd_pick)], ioF, 1⟩

theorem spec_l20Order_n1_l (x503 : Int) (x504 : List Int) (x505 : Int) : Link spec_l20Order_ctx LL (Code.seq (Code.fst (bodyOf Try.f56)) (Code.seq (Code.fst (Code.snd (bodyOf Try.f56))) (Code.fst (Code.snd (Code.snd (bodyOf Try.f56)))))) (Ann.seq (Ann.fst spec_l20Order_an) (Ann.seq (Ann.fst (Ann.snd spec_l20Order_an)) (Ann.fst (Ann.snd (Ann.snd spec_l20Order_an))))) (⟨mkE 45 0 [(0, .ptr 0 0), (1, .dat (.int .i64) x503)], [some (.box [.dat (.list (.int .u8)) x504, .dat (.int .i64) x505])]⟩ : St) (spec_l20Order_n1 x504 x505) (fun (t : Int × Int) => (Exit.normal, (⟨mkE 45 0 [(0, .ptr 0 0), (1, .dat (.int .i64) x503), (5, .slc 1), (6, .dat (.int .i64) t.1)], [some (.box [.dat (.list (.int .u8)) x504, .dat (.int .i64) t.2]), some (.seq (.int .i64) ([] : List Int))]⟩ : St))) := by
  refine Link.of fun K h => ?_
  simp only [spec_l20Order_n1, wpO_bind, wpO_cond, wpO_map, wpO_some] at h
  exact Awp.of (by kernel_rfl) h

theorem spec_l20Order_n2_l (x503 : Int) (x507 : Int) (x504 : List Int) (x508 : Int) : Link spec_l20Order_ctx LL (Code.fst (Code.fst (Code.snd (Code.snd (Code.snd (bodyOf Try.f56)))))) (Ann.fst (Ann.fst (Ann.snd (Ann.snd (Ann.snd spec_l20Order_an))))) (⟨mkE 45 0 [(0, .ptr 0 0), (1, .dat (.int .i64) x503), (5, .slc 1), (6, .dat (.int .i64) x507)], [some (.box [.dat (.list (.int .u8)) x504, .dat (.int .i64) x508]), some (.seq (.int .i64) ([] : List Int))]⟩ : St) (spec_l20Order_n2) (fun (t : Unit) => (Exit.normal, (⟨mkE 45 0 [(0, .ptr 0 0), (1, .dat (.int .i64) x503), (5, .slc 1), (6, .dat (.int .i64) x507), (7, .dat (.int .i64) 1)], [some (.box [.dat (.list (.int .u8)) x504, .dat (.int .i64) x508]), some (.seq (.int .i64) ([] : List Int))]⟩ : St))) := by
  refine Link.of fun K h => ?_
  simp only [spec_l20Order_n2, wpO_bind, wpO_cond, wpO_map, wpO_some] at h
  exact Awp.of (by kernel_rfl) h

theorem spec_l20Order_n3_l (x503 : Int) (x507 : Int) (x650 : Int) (x504 : List Int) (x651 : Int) (x652 : List Int) : Link spec_l20Order_ctx LL (Code.fst (Code.fst (Code.snd (Code.fst (Code.snd (Code.snd (Code.snd (bodyOf Try.f56)))))))) (Ann.fst (Ann.fst (Ann.snd (Ann.fst (Ann.snd (Ann.snd (Ann.snd spec_l20Order_an))))))) (⟨mkE 45 0 [(0, .ptr 0 0), (1, .dat (.int .i64) x503), (5, .slc 1), (6, .dat (.int .i64) x507), (7, .dat (.int .i64) x650)], [some (.box [.dat (.list (.int .u8)) x504, .dat (.int .i64) x651]), some (.seq (.int .i64) x652)]⟩ : St) (spec_l20Order_n3 x503 x507 x650 x504 x651 x652) (Sum.elim (fun (t : Int × Int × (List Int)) => (Exit.normal, (⟨mkE 45 0 [(0, .ptr 0 0), (1, .dat (.int .i64) x503), (5, .slc 1), (6, .dat (.int .i64) x507), (7, .dat (.int .i64) t.1)], [some (.box [.dat (.list (.int .u8)) x504, .dat (.int .i64) t.2.1]), some (.seq (.int .i64) t.2.2)]⟩ : St))) (fun (t : Int × (List Int)) => ((Exit.exit 0), (⟨mkE 45 0 [(5, .slc 1)], [some (.box [.dat (.list (.int .u8)) x504, .dat (.int .i64) t.1]), some (.seq (.int .i64) t.2)]⟩ : St)))) := by
  refine Link.of fun K h => ?_
  simp only [spec_l20Order_n3, wpO_bind, wpO_cond, wpO_map, wpO_some] at h
  exact Awp.of (by kernel_rfl) h

theorem spec_l20Order_n4_l (x503 : Int) (x507 : Int) (x504 : List Int) (x508 : Int) : Link spec_l20Order_ctx LL (Code.fst (Code.snd (Code.fst (Code.snd (Code.snd (Code.snd (bodyOf Try.f56))))))) (Ann.fst (Ann.snd (Ann.fst (Ann.snd (Ann.snd (Ann.snd spec_l20Order_an)))))) (⟨mkE 45 0 [(0, .ptr 0 0), (1, .dat (.int .i64) x503), (5, .slc 1), (6, .dat (.int .i64) x507), (7, .dat (.int .i64) 1)], [some (.box [.dat (.list (.int .u8)) x504, .dat (.int .i64) x508]), some (.seq (.int .i64) ([] : List Int))]⟩ : St) (spec_l20Order_n4 x503 x507 x504 x508) (fun (t : Int × (List Int)) => ((Exit.exit 0), (⟨mkE 45 0 [(5, .slc 1)], [some (.box [.dat (.list (.int .u8)) x504, .dat (.int .i64) t.1]), some (.seq (.int .i64) t.2)]⟩ : St))) := by
  unfold spec_l20Order_n4
  exact Link.cast (by kernel_rfl) (by kernel_rfl) (link_loop (mk := fun (s : Int × Int × (List Int)) => (⟨mkE 45 0 [(0, .ptr 0 0), (1, .dat (.int .i64) x503), (5, .slc 1), (6, .dat (.int .i64) x507), (7, .dat (.int .i64) s.1)], [some (.box [.dat (.list (.int .u8)) x504, .dat (.int .i64) s.2.1]), some (.seq (.int .i64) s.2.2)]⟩ : St)) (fin := (fun (t : Int × (List Int)) => ((Exit.exit 0), (⟨mkE 45 0 [(5, .slc 1)], [some (.box [.dat (.list (.int .u8)) x504, .dat (.int .i64) t.1]), some (.seq (.int .i64) t.2)]⟩ : St)))) (by
  rintro t f K h
  · exact h) (fun s => link_map (spec_l20Order_n3_l x503 x507 s.1 x504 s.2.1 s.2.2) (Sum.elim (fun (t : Int × Int × (List Int)) => Sum.inl (t.1, t.2.1, t.2.2)) (fun (t : Int × (List Int)) => Sum.inr t)) (by
  rintro (t | t)
  · kernel_rfl
  · kernel_rfl)) (1, x508, ([] : List Int)))

theorem spec_l20Order_n5_l (x503 : Int) (x507 : Int) (x504 : List Int) (x508 : Int) : Link spec_l20Order_ctx LL (Code.snd (Code.fst (Code.snd (Code.snd (Code.snd (bodyOf Try.f56)))))) (Ann.snd (Ann.fst (Ann.snd (Ann.snd (Ann.snd spec_l20Order_an))))) (⟨mkE 45 0 [(0, .ptr 0 0), (1, .dat (.int .i64) x503), (5, .slc 1), (6, .dat (.int .i64) x507), (7, .dat (.int .i64) 1)], [some (.box [.dat (.list (.int .u8)) x504, .dat (.int .i64) x508]), some (.seq (.int .i64) ([] : List Int))]⟩ : St) (spec_l20Order_n5 x503 x507 x504 x508) (fun (t : Int × (List Int)) => (Exit.normal, (⟨mkE 45 0 [(5, .slc 1)], [some (.box [.dat (.list (.int .u8)) x504, .dat (.int .i64) t.1]), some (.seq (.int .i64) t.2)]⟩ : St))) := by
  unfold spec_l20Order_n5
  exact Link.cast (by kernel_rfl) (by kernel_rfl) (link_block (id := 0) (spec_l20Order_n4_l x503 x507 x504 x508) (fun (t : Int × (List Int)) => (t.1, t.2)) (by
  rintro t K h
  · exact Eq.mp (by kernel_rfl) h))

theorem spec_l20Order_n6_l (x503 : Int) (x507 : Int) (x504 : List Int) (x508 : Int) : Link spec_l20Order_ctx LL (Code.fst (Code.snd (Code.snd (Code.snd (bodyOf Try.f56))))) (Ann.fst (Ann.snd (Ann.snd (Ann.snd spec_l20Order_an)))) (⟨mkE 45 0 [(0, .ptr 0 0), (1, .dat (.int .i64) x503), (5, .slc 1), (6, .dat (.int .i64) x507)], [some (.box [.dat (.list (.int .u8)) x504, .dat (.int .i64) x508]), some (.seq (.int .i64) ([] : List Int))]⟩ : St) (spec_l20Order_n6 x503 x507 x504 x508) (fun (t : Int × (List Int)) => (Exit.normal, (⟨mkE 45 0 [(5, .slc 1)], [some (.box [.dat (.list (.int .u8)) x504, .dat (.int .i64) t.1]), some (.seq (.int .i64) t.2)]⟩ : St))) := by
  unfold spec_l20Order_n6
  exact Link.cast (by kernel_rfl) (by kernel_rfl) (link_seq (b := (Code.snd (Code.fst (Code.snd (Code.snd (Code.snd (bodyOf Try.f56))))))) (y := (Ann.snd (Ann.fst (Ann.snd (Ann.snd (Ann.snd spec_l20Order_an)))))) (spec_l20Order_n2_l x503 x507 x504 x508) (fun (t : Unit) => (spec_l20Order_n5_l x503 x507 x504 x508)))

theorem spec_l20Order_n7_l (x504 : List Int) (x651 : Int) (x652 : List Int) : Link spec_l20Order_ctx LL (Code.snd (Code.snd (Code.snd (Code.snd (bodyOf Try.f56))))) (Ann.snd (Ann.snd (Ann.snd (Ann.snd spec_l20Order_an)))) (⟨mkE 45 0 [(5, .slc 1)], [some (.box [.dat (.list (.int .u8)) x504, .dat (.int .i64) x651]), some (.seq (.int .i64) x652)]⟩ : St) (spec_l20Order_n7 x651 x652) (fun (t : Int × (List Int)) => (Exit.ret, (⟨mkE 45 0 [(4, .slc 1)], [some (.box [.dat (.list (.int .u8)) x504, .dat (.int .i64) t.1]), some (.seq (.int .i64) t.2)]⟩ : St))) := by
  refine Link.of fun K h => ?_
  simp only [spec_l20Order_n7, wpO_bind, wpO_cond, wpO_map, wpO_some] at h
  exact Awp.of (by kernel_rfl) h

theorem spec_l20Order_n8_l (x503 : Int) (x507 : Int) (x504 : List Int) (x508 : Int) : Link spec_l20Order_ctx LL (Code.snd (Code.snd (Code.snd (bodyOf Try.f56)))) (Ann.snd (Ann.snd (Ann.snd spec_l20Order_an))) (⟨mkE 45 0 [(0, .ptr 0 0), (1, .dat (.int .i64) x503), (5, .slc 1), (6, .dat (.int .i64) x507)], [some (.box [.dat (.list (.int .u8)) x504, .dat (.int .i64) x508]), some (.seq (.int .i64) ([] : List Int))]⟩ : St) (spec_l20Order_n8 x503 x507 x504 x508) (fun (t : Int × (List Int)) => (Exit.ret, (⟨mkE 45 0 [(4, .slc 1)], [some (.box [.dat (.list (.int .u8)) x504, .dat (.int .i64) t.1]), some (.seq (.int .i64) t.2)]⟩ : St))) := by
  unfold spec_l20Order_n8
  exact Link.cast (by kernel_rfl) (by kernel_rfl) (link_seq (b := (Code.snd (Code.snd (Code.snd (Code.snd (bodyOf Try.f56)))))) (y := (Ann.snd (Ann.snd (Ann.snd (Ann.snd spec_l20Order_an))))) (spec_l20Order_n6_l x503 x507 x504 x508) (fun (t : Int × (List Int)) => (spec_l20Order_n7_l x504 t.1 t.2)))

theorem spec_l20Order_n9_l (x503 : Int) (x504 : List Int) (x505 : Int) : Link spec_l20Order_ctx LL (bodyOf Try.f56) spec_l20Order_an (⟨mkE 45 0 [(0, .ptr 0 0), (1, .dat (.int .i64) x503)], [some (.box [.dat (.list (.int .u8)) x504, .dat (.int .i64) x505])]⟩ : St) (spec_l20Order_n9 x503 x504 x505) (fun (t : Int × (List Int)) => (Exit.ret, (⟨mkE 45 0 [(4, .slc 1)], [some (.box [.dat (.list (.int .u8)) x504, .dat (.int .i64) t.1]), some (.seq (.int .i64) t.2)]⟩ : St))) := by
  unfold spec_l20Order_n9
  exact Link.cast (by kernel_rfl) (by kernel_rfl) (link_group (c := (Code.fst (Code.snd (Code.snd (bodyOf Try.f56))))) (a := (Ann.fst (Ann.snd (Ann.snd spec_l20Order_an)))) [(Code.fst (bodyOf Try.f56)), (Code.fst (Code.snd (bodyOf Try.f56)))] [(Ann.fst spec_l20Order_an), (Ann.fst (Ann.snd spec_l20Order_an))] rfl (link_seq (b := (Code.snd (Code.snd (Code.snd (bodyOf Try.f56))))) (y := (Ann.snd (Ann.snd (Ann.snd spec_l20Order_an)))) (spec_l20Order_n1_l x503 x504 x505) (fun (t : Int × Int) => (spec_l20Order_n8_l x503 t.1 x504 t.2))))

theorem spec_l20Order_e (x503 : Int) (x504 : List Int) (x505 : Int) {r : AV} {H' : Heap} (h : (Ans.mk _ (spec_l20Order x503 x504 x505) (fun (t : Int × (List Int)) => (.slc 1, [some (.box [.dat (.list (.int .u8)) x504, .dat (.int .i64) t.1]), some (.seq (.int .i64) t.2)]))).run = some (r, H')) : Awp spec_l20Order_ctx LL (bodyOf Try.f56) spec_l20Order_an (⟨mkE 45 0 [(0, .ptr 0 0), (1, .dat (.int .i64) x503)], [some (.box [.dat (.list (.int .u8)) x504, .dat (.int .i64) x505])]⟩ : St) (Ret (tlook tys) Try.f56.results.toList r H') :=
  ret_of' (spec_l20Order_n9_l x503 x504 x505) (by unfold spec_l20Order; kernel_rfl) (by
  intro t
  exact ret_mk [.slc 1] (by kernel_rfl) (by kernel_rfl) (by kernel_rfl) (by kernel_rfl)) h

def F_spec_l20Order : Fun := fun avs H =>
  match avs, H with
  | [.ptr 0 0, .dat (.int .i64) x503], [some (.box [.dat (.list (.int .u8)) x504, .dat (.int .i64) x505])] => ⟨_, spec_l20Order x503 x504 x505, fun (t : Int × (List Int)) => (.slc 1, [some (.box [.dat (.list (.int .u8)) x504, .dat (.int .i64) t.1]), some (.seq (.int .i64) t.2)])⟩
  | _, _ => Ans.no

theorem spec_l20Order_sound : Sound Try.prog 56 F_spec_l20Order := by
  refine fn_sound' (C := spec_l20Order_ctx) (c := bodyOf Try.f56) (cok_of tys_ok (List.forall_mem_cons.2 ⟨spec_l20Rd_pick_sound, by simp⟩) (List.forall_mem_cons.2 ⟨Try.call29, by simp⟩) (by kernel_rfl)) Try.func56 (by kernel_rfl) LL spec_l20Order_an ?_
  intro avs H r H' h
  unfold F_spec_l20Order at h
  split at h
  · refine Awp.cast ?_ ?_ ?_ (spec_l20Order_e _ _ _ h) <;> kernel_rfl
  · simp [Ans.no, Ans.run] at h

/-! (*loop.example/headtrees/spec.l20Rd).odd -/

def spec_l20Rd_odd_an : Ann := (.seq (.leaf [0, 1]) (.seq (.leaf [4]) (.leaf [4])))

noncomputable def spec_l20Rd_odd_ctx : Ctx := ⟨tlook tys, olook [(29, F_spec_l20Rd_pick)], ioF, 1⟩

theorem spec_l20Rd_odd_n1_l (x959 : Int) (x960 : List Int) (x961 : Int) : Link spec_l20Rd_odd_ctx LL (bodyOf Try.f57) spec_l20Rd_odd_an (⟨mkE 15 0 [(0, .ptr 0 0), (1, .dat (.int .i64) x959)], [some (.box [.dat (.list (.int .u8)) x960, .dat (.int .i64) x961])]⟩ : St) (spec_l20Rd_odd_n1 x959 x960 x961) (fun (t : Bool × Int) => (Exit.ret, (⟨mkE 15 0 [(4, .dat .bool t.1)], [some (.box [.dat (.list (.int .u8)) x960, .dat (.int .i64) t.2])]⟩ : St))) := by
  refine Link.of fun K h => ?_
  simp only [spec_l20Rd_odd_n1, wpO_bind, wpO_cond, wpO_map, wpO_some] at h
  exact Awp.of (by kernel_rfl) h

theorem spec_l20Rd_odd_e (x959 : Int) (x960 : List Int) (x961 : Int) {r : AV} {H' : Heap} (h : (Ans.mk _ (spec_l20Rd_odd x959 x960 x961) (fun (t : Bool × Int) => (.dat .bool t.1, [some (.box [.dat (.list (.int .u8)) x960, .dat (.int .i64) t.2])]))).run = some (r, H')) : Awp spec_l20Rd_odd_ctx LL (bodyOf Try.f57) spec_l20Rd_odd_an (⟨mkE 15 0 [(0, .ptr 0 0), (1, .dat (.int .i64) x959)], [some (.box [.dat (.list (.int .u8)) x960, .dat (.int .i64) x961])]⟩ : St) (Ret (tlook tys) Try.f57.results.toList r H') :=
  ret_of' (spec_l20Rd_odd_n1_l x959 x960 x961) (by unfold spec_l20Rd_odd; kernel_rfl) (by
  intro t
  exact ret_mk [.dat .bool t.1] (by kernel_rfl) (by kernel_rfl) (by kernel_rfl) (by kernel_rfl)) h

def F_spec_l20Rd_odd : Fun := fun avs H =>
  match avs, H with
  | [.ptr 0 0, .dat (.int .i64) x959], [some (.box [.dat (.list (.int .u8)) x960, .dat (.int .i64) x961])] => ⟨_, spec_l20Rd_odd x959 x960 x961, fun (t : Bool × Int) => (.dat .bool t.1, [some (.box [.dat (.list (.int .u8)) x960, .dat (.int .i64) t.2])])⟩
  | _, _ => Ans.no

theorem spec_l20Rd_odd_sound : Sound Try.prog 57 F_spec_l20Rd_odd := by
  refine fn_sound' (C := spec_l20Rd_odd_ctx) (c := bodyOf Try.f57) (cok_of tys_ok (List.forall_mem_cons.2 ⟨spec_l20Rd_pick_sound, by simp⟩) (List.forall_mem_cons.2 ⟨Try.call29, by simp⟩) (by kernel_rfl)) Try.func57 (by kernel_rfl) LL spec_l20Rd_odd_an ?_
  intro avs H r H' h
  unfold F_spec_l20Rd_odd at h
  split at h
  · refine Awp.cast ?_ ?_ ?_ (spec_l20Rd_odd_e _ _ _ h) <;> kernel_rfl
  · simp [Ans.no, Ans.run] at h

/-! loop.example/headtrees/spec.l20Tree -/

def spec_l20Tree_an : Ann := (.seq (.leaf [0, 1]) (.seq (.leaf [0, 1, 5]) (.seq (.leaf [0, 1, 5, 6]) (.seq (.leaf [0, 1, 5, 6, 7]) (.seq (.leaf [0, 1, 5, 6, 7, 8]) (.seq (.seq (.leaf [0, 1, 5, 6, 7, 8, 9]) (.block (.loop (.seq (.seq (.leaf [0, 1, 5, 6, 7, 8, 9, 23]) (.cond (.leaf [0, 1, 5, 6, 7, 8, 9]) (.leaf [0, 1, 5, 7]))) (.seq (.block (.seq (.leaf [0, 1, 5, 6, 7, 8, 9, 10]) (.seq (.seq (.leaf [0, 1, 5, 6, 7, 8, 9, 10, 35]) (.cond (.leaf [0, 1, 5, 6, 7, 8, 9, 10]) (.leaf [0, 1, 5, 6, 7, 8, 9, 10]))) (.draw [] [0, 1, 2, 3, 4, 5, 6, 7, 8, 9, 10, 11] [] [0, 1, 5, 6, 7, 8, 9])))) (.leaf [0, 1, 5, 6, 7, 8, 9])))))) (.seq (.seq (.leaf [0, 5, 7, 51]) (.cond (.seq (.leaf [0, 5, 7, 53]) (.block (.seq (.leaf [0, 5, 7, 53, 63]) (.cond (.seq (.leaf [4]) (.leaf [4])) (.seq (.leaf [0, 5, 7, 53, 66]) (.cond (.seq (.leaf [4]) (.leaf [4])) (.seq (.leaf [0, 5, 7, 69]) (.cond (.seq (.leaf [7]) (.seq (.leaf [4]) (.leaf [4]))) (.leaf [7]))))))))) (.leaf [7]))) (.seq (.leaf [4]) (.leaf [4])))))))))

noncomputable def spec_l20Tree_ctx : Ctx := ⟨tlook tys, olook [(29, F_spec_l20Rd_pick), (56, F_spec_l20Order), (57, F_spec_l20Rd_odd)], ioF, 1⟩

theorem spec_l20Tree_n1_l (x492 : Int) (x493 : List Int) (x494 : Int) : Link spec_l20Tree_ctx LL (Code.seq (Code.fst (bodyOf Try.f46)) (Code.seq (Code.fst (Code.snd (bodyOf Try.f46))) (Code.seq (Code.fst (Code.snd (Code.snd (bodyOf Try.f46)))) (Code.seq (Code.fst (Code.snd (Code.snd (Code.snd (bodyOf Try.f46))))) (Code.fst (Code.snd (Code.snd (Code.snd (Code.snd (bodyOf Try.f46)))))))))) (Ann.seq (Ann.fst spec_l20Tree_an) (Ann.seq (Ann.fst (Ann.snd spec_l20Tree_an)) (Ann.seq (Ann.fst (Ann.snd (Ann.snd spec_l20Tree_an))) (Ann.seq (Ann.fst (Ann.snd (Ann.snd (Ann.snd spec_l20Tree_an)))) (Ann.fst (Ann.snd (Ann.snd (Ann.snd (Ann.snd spec_l20Tree_an))))))))) (⟨mkE 80 0 [(0, .ptr 0 0), (1, .dat (.int .i64) x492)], [some (.box [.dat (.list (.int .u8)) x493, .dat (.int .i64) x494])]⟩ : St) (spec_l20Tree_n1 x493 x494) (fun (t : Int × Int × Int × (List Int) × (List Int)) => (Exit.normal, (⟨mkE 80 0 [(0, .ptr 0 0), (1, .dat (.int .i64) x492), (5, .dat (.int .i64) t.1), (6, .slc 1), (7, .slc 2), (8, .dat (.int .i64) t.2.1)], [some (.box [.dat (.list (.int .u8)) x493, .dat (.int .i64) t.2.2.1]), some (.seq (.int .i64) t.2.2.2.1), some (.seq (.int .i64) t.2.2.2.2)]⟩ : St))) := by
  refine Link.of fun K h => ?_
  simp only [spec_l20Tree_n1, wpO_bind, wpO_cond, wpO_map, wpO_some] at h
  exact Awp.of (by kernel_rfl) h

theorem spec_l20Tree_n2_l (x492 : Int) (x809 : Int) (x816 : Int) (x493 : List Int) (x817 : Int) (x812 : List Int) (x814 : List Int) : Link spec_l20Tree_ctx LL (Code.fst (Code.fst (Code.snd (Code.snd (Code.snd (Code.snd (Code.snd (bodyOf Try.f46)))))))) (Ann.fst (Ann.fst (Ann.snd (Ann.snd (Ann.snd (Ann.snd (Ann.snd spec_l20Tree_an))))))) (⟨mkE 80 0 [(0, .ptr 0 0), (1, .dat (.int .i64) x492), (5, .dat (.int .i64) x809), (6, .slc 1), (7, .slc 2), (8, .dat (.int .i64) x816)], [some (.box [.dat (.list (.int .u8)) x493, .dat (.int .i64) x817]), some (.seq (.int .i64) x812), some (.seq (.int .i64) x814)]⟩ : St) (spec_l20Tree_n2) (fun (t : Unit) => (Exit.normal, (⟨mkE 80 0 [(0, .ptr 0 0), (1, .dat (.int .i64) x492), (5, .dat (.int .i64) x809), (6, .slc 1), (7, .slc 2), (8, .dat (.int .i64) x816), (9, .dat (.int .i64) 1)], [some (.box [.dat (.list (.int .u8)) x493, .dat (.int .i64) x817]), some (.seq (.int .i64) x812), some (.seq (.int .i64) x814)]⟩ : St))) := by
  refine Link.of fun K h => ?_
  simp only [spec_l20Tree_n2, wpO_bind, wpO_cond, wpO_map, wpO_some] at h
  exact Awp.of (by kernel_rfl) h

theorem spec_l20Tree_n3_l (x492 : Int) (x809 : Int) (x816 : Int) (x887 : Int) (x493 : List Int) (x888 : Int) (x812 : List Int) (x889 : List Int) : Link spec_l20Tree_ctx LL (Code.fst (Code.fst (Code.snd (Code.fst (Code.snd (Code.snd (Code.snd (Code.snd (Code.snd (bodyOf Try.f46)))))))))) (Ann.fst (Ann.fst (Ann.snd (Ann.fst (Ann.snd (Ann.snd (Ann.snd (Ann.snd (Ann.snd spec_l20Tree_an))))))))) (⟨mkE 80 0 [(0, .ptr 0 0), (1, .dat (.int .i64) x492), (5, .dat (.int .i64) x809), (6, .slc 1), (7, .slc 2), (8, .dat (.int .i64) x816), (9, .dat (.int .i64) x887)], [some (.box [.dat (.list (.int .u8)) x493, .dat (.int .i64) x888]), some (.seq (.int .i64) x812), some (.seq (.int .i64) x889)]⟩ : St) (spec_l20Tree_n3 x809 x816 x887 x493 x888 x812 x889) (Sum.elim (fun (t : Int × Int × (List Int)) => (Exit.normal, (⟨mkE 80 0 [(0, .ptr 0 0), (1, .dat (.int .i64) x492), (5, .dat (.int .i64) x809), (6, .slc 1), (7, .slc 2), (8, .dat (.int .i64) x816), (9, .dat (.int .i64) t.1)], [some (.box [.dat (.list (.int .u8)) x493, .dat (.int .i64) t.2.1]), some (.seq (.int .i64) x812), some (.seq (.int .i64) t.2.2)]⟩ : St))) (fun (t : Int × (List Int)) => ((Exit.exit 0), (⟨mkE 80 0 [(0, .ptr 0 0), (1, .dat (.int .i64) x492), (5, .dat (.int .i64) x809), (7, .slc 1)], [some (.box [.dat (.list (.int .u8)) x493, .dat (.int .i64) t.1]), some (.seq (.int .i64) t.2)]⟩ : St)))) := by
  refine Link.of fun K h => ?_
  simp only [spec_l20Tree_n3, wpO_bind, wpO_cond, wpO_map, wpO_some] at h
  exact Awp.of (by kernel_rfl) h

theorem spec_l20Tree_n4_l (x492 : Int) (x809 : Int) (x816 : Int) (x493 : List Int) (x817 : Int) (x812 : List Int) (x814 : List Int) : Link spec_l20Tree_ctx LL (Code.fst (Code.snd (Code.fst (Code.snd (Code.snd (Code.snd (Code.snd (Code.snd (bodyOf Try.f46))))))))) (Ann.fst (Ann.snd (Ann.fst (Ann.snd (Ann.snd (Ann.snd (Ann.snd (Ann.snd spec_l20Tree_an)))))))) (⟨mkE 80 0 [(0, .ptr 0 0), (1, .dat (.int .i64) x492), (5, .dat (.int .i64) x809), (6, .slc 1), (7, .slc 2), (8, .dat (.int .i64) x816), (9, .dat (.int .i64) 1)], [some (.box [.dat (.list (.int .u8)) x493, .dat (.int .i64) x817]), some (.seq (.int .i64) x812), some (.seq (.int .i64) x814)]⟩ : St) (spec_l20Tree_n4 x809 x816 x493 x817 x812 x814) (fun (t : Int × (List Int)) => ((Exit.exit 0), (⟨mkE 80 0 [(0, .ptr 0 0), (1, .dat (.int .i64) x492), (5, .dat (.int .i64) x809), (7, .slc 1)], [some (.box [.dat (.list (.int .u8)) x493, .dat (.int .i64) t.1]), some (.seq (.int .i64) t.2)]⟩ : St))) := by
  unfold spec_l20Tree_n4
  exact Link.cast (by kernel_rfl) (by kernel_rfl) (link_loop (mk := fun (s : Int × Int × (List Int)) => (⟨mkE 80 0 [(0, .ptr 0 0), (1, .dat (.int .i64) x492), (5, .dat (.int .i64) x809), (6, .slc 1), (7, .slc 2), (8, .dat (.int .i64) x816), (9, .dat (.int .i64) s.1)], [some (.box [.dat (.list (.int .u8)) x493, .dat (.int .i64) s.2.1]), some (.seq (.int .i64) x812), some (.seq (.int .i64) s.2.2)]⟩ : St)) (fin := (fun (t : Int × (List Int)) => ((Exit.exit 0), (⟨mkE 80 0 [(0, .ptr 0 0), (1, .dat (.int .i64) x492), (5, .dat (.int .i64) x809), (7, .slc 1)], [some (.box [.dat (.list (.int .u8)) x493, .dat (.int .i64) t.1]), some (.seq (.int .i64) t.2)]⟩ : St)))) (by
  rintro t f K h
  · exact h) (fun s => link_map (spec_l20Tree_n3_l x492 x809 x816 s.1 x493 s.2.1 x812 s.2.2) (Sum.elim (fun (t : Int × Int × (List Int)) => Sum.inl (t.1, t.2.1, t.2.2)) (fun (t : Int × (List Int)) => Sum.inr t)) (by
  rintro (t | t)
  · kernel_rfl
  · kernel_rfl)) (1, x817, x814))

theorem spec_l20Tree_n5_l (x492 : Int) (x809 : Int) (x816 : Int) (x493 : List Int) (x817 : Int) (x812 : List Int) (x814 : List Int) : Link spec_l20Tree_ctx LL (Code.snd (Code.fst (Code.snd (Code.snd (Code.snd (Code.snd (Code.snd (bodyOf Try.f46)))))))) (Ann.snd (Ann.fst (Ann.snd (Ann.snd (Ann.snd (Ann.snd (Ann.snd spec_l20Tree_an))))))) (⟨mkE 80 0 [(0, .ptr 0 0), (1, .dat (.int .i64) x492), (5, .dat (.int .i64) x809), (6, .slc 1), (7, .slc 2), (8, .dat (.int .i64) x816), (9, .dat (.int .i64) 1)], [some (.box [.dat (.list (.int .u8)) x493, .dat (.int .i64) x817]), some (.seq (.int .i64) x812), some (.seq (.int .i64) x814)]⟩ : St) (spec_l20Tree_n5 x809 x816 x493 x817 x812 x814) (fun (t : Int × (List Int)) => (Exit.normal, (⟨mkE 80 0 [(0, .ptr 0 0), (1, .dat (.int .i64) x492), (5, .dat (.int .i64) x809), (7, .slc 1)], [some (.box [.dat (.list (.int .u8)) x493, .dat (.int .i64) t.1]), some (.seq (.int .i64) t.2)]⟩ : St))) := by
  unfold spec_l20Tree_n5
  exact Link.cast (by kernel_rfl) (by kernel_rfl) (link_block (id := 0) (spec_l20Tree_n4_l x492 x809 x816 x493 x817 x812 x814) (fun (t : Int × (List Int)) => (t.1, t.2)) (by
  rintro t K h
  · exact Eq.mp (by kernel_rfl) h))

theorem spec_l20Tree_n6_l (x492 : Int) (x809 : Int) (x816 : Int) (x493 : List Int) (x817 : Int) (x812 : List Int) (x814 : List Int) : Link spec_l20Tree_ctx LL (Code.fst (Code.snd (Code.snd (Code.snd (Code.snd (Code.snd (bodyOf Try.f46))))))) (Ann.fst (Ann.snd (Ann.snd (Ann.snd (Ann.snd (Ann.snd spec_l20Tree_an)))))) (⟨mkE 80 0 [(0, .ptr 0 0), (1, .dat (.int .i64) x492), (5, .dat (.int .i64) x809), (6, .slc 1), (7, .slc 2), (8, .dat (.int .i64) x816)], [some (.box [.dat (.list (.int .u8)) x493, .dat (.int .i64) x817]), some (.seq (.int .i64) x812), some (.seq (.int .i64) x814)]⟩ : St) (spec_l20Tree_n6 x809 x816 x493 x817 x812 x814) (fun (t : Int × (List Int)) => (Exit.normal, (⟨mkE 80 0 [(0, .ptr 0 0), (1, .dat (.int .i64) x492), (5, .dat (.int .i64) x809), (7, .slc 1)], [some (.box [.dat (.list (.int .u8)) x493, .dat (.int .i64) t.1]), some (.seq (.int .i64) t.2)]⟩ : St))) := by
  unfold spec_l20Tree_n6
  exact Link.cast (by kernel_rfl) (by kernel_rfl) (link_seq (b := (Code.snd (Code.fst (Code.snd (Code.snd (Code.snd (Code.snd (Code.snd (bodyOf Try.f46))))))))) (y := (Ann.snd (Ann.fst (Ann.snd (Ann.snd (Ann.snd (Ann.snd (Ann.snd spec_l20Tree_an)))))))) (spec_l20Tree_n2_l x492 x809 x816 x493 x817 x812 x814) (fun (t : Unit) => (spec_l20Tree_n5_l x492 x809 x816 x493 x817 x812 x814)))

theorem spec_l20Tree_n7_l (x492 : Int) (x809 : Int) (x493 : List Int) (x888 : Int) (x889 : List Int) : Link spec_l20Tree_ctx LL (Code.snd (Code.snd (Code.snd (Code.snd (Code.snd (Code.snd (bodyOf Try.f46))))))) (Ann.snd (Ann.snd (Ann.snd (Ann.snd (Ann.snd (Ann.snd spec_l20Tree_an)))))) (⟨mkE 80 0 [(0, .ptr 0 0), (1, .dat (.int .i64) x492), (5, .dat (.int .i64) x809), (7, .slc 1)], [some (.box [.dat (.list (.int .u8)) x493, .dat (.int .i64) x888]), some (.seq (.int .i64) x889)]⟩ : St) (spec_l20Tree_n7 x492 x809 x493 x888 x889) (fun (t : Int × (List Int)) => (Exit.ret, (⟨mkE 80 0 [(4, .slc 1)], [some (.box [.dat (.list (.int .u8)) x493, .dat (.int .i64) t.1]), some (.seq (.int .i64) t.2)]⟩ : St))) := by
  refine Link.of fun K h => ?_
  simp only [spec_l20Tree_n7, wpO_bind, wpO_cond, wpO_map, wpO_some] at h
  exact Awp.of (by kernel_rfl) h

theorem spec_l20Tree_n8_l (x492 : Int) (x809 : Int) (x816 : Int) (x493 : List Int) (x817 : Int) (x812 : List Int) (x814 : List Int) : Link spec_l20Tree_ctx LL (Code.snd (Code.snd (Code.snd (Code.snd (Code.snd (bodyOf Try.f46)))))) (Ann.snd (Ann.snd (Ann.snd (Ann.snd (Ann.snd spec_l20Tree_an))))) (⟨mkE 80 0 [(0, .ptr 0 0), (1, .dat (.int .i64) x492), (5, .dat (.int .i64) x809), (6, .slc 1), (7, .slc 2), (8, .dat (.int .i64) x816)], [some (.box [.dat (.list (.int .u8)) x493, .dat (.int .i64) x817]), some (.seq (.int .i64) x812), some (.seq (.int .i64) x814)]⟩ : St) (spec_l20Tree_n8 x492 x809 x816 x493 x817 x812 x814) (fun (t : Int × (List Int)) => (Exit.ret, (⟨mkE 80 0 [(4, .slc 1)], [some (.box [.dat (.list (.int .u8)) x493, .dat (.int .i64) t.1]), some (.seq (.int .i64) t.2)]⟩ : St))) := by
  unfold spec_l20Tree_n8
  exact Link.cast (by kernel_rfl) (by kernel_rfl) (link_seq (b := (Code.snd (Code.snd (Code.snd (Code.snd (Code.snd (Code.snd (bodyOf Try.f46)))))))) (y := (Ann.snd (Ann.snd (Ann.snd (Ann.snd (Ann.snd (Ann.snd spec_l20Tree_an))))))) (spec_l20Tree_n6_l x492 x809 x816 x493 x817 x812 x814) (fun (t : Int × (List Int)) => (spec_l20Tree_n7_l x492 x809 x493 t.1 t.2)))

theorem spec_l20Tree_n9_l (x492 : Int) (x493 : List Int) (x494 : Int) : Link spec_l20Tree_ctx LL (bodyOf Try.f46) spec_l20Tree_an (⟨mkE 80 0 [(0, .ptr 0 0), (1, .dat (.int .i64) x492)], [some (.box [.dat (.list (.int .u8)) x493, .dat (.int .i64) x494])]⟩ : St) (spec_l20Tree_n9 x492 x493 x494) (fun (t : Int × (List Int)) => (Exit.ret, (⟨mkE 80 0 [(4, .slc 1)], [some (.box [.dat (.list (.int .u8)) x493, .dat (.int .i64) t.1]), some (.seq (.int .i64) t.2)]⟩ : St))) := by
  unfold spec_l20Tree_n9
  exact Link.cast (by kernel_rfl) (by kernel_rfl) (link_group (c := (Code.fst (Code.snd (Code.snd (Code.snd (Code.snd (bodyOf Try.f46))))))) (a := (Ann.fst (Ann.snd (Ann.snd (Ann.snd (Ann.snd spec_l20Tree_an)))))) [(Code.fst (bodyOf Try.f46)), (Code.fst (Code.snd (bodyOf Try.f46))), (Code.fst (Code.snd (Code.snd (bodyOf Try.f46)))), (Code.fst (Code.snd (Code.snd (Code.snd (bodyOf Try.f46)))))] [(Ann.fst spec_l20Tree_an), (Ann.fst (Ann.snd spec_l20Tree_an)), (Ann.fst (Ann.snd (Ann.snd spec_l20Tree_an))), (Ann.fst (Ann.snd (Ann.snd (Ann.snd spec_l20Tree_an))))] rfl (link_seq (b := (Code.snd (Code.snd (Code.snd (Code.snd (Code.snd (bodyOf Try.f46))))))) (y := (Ann.snd (Ann.snd (Ann.snd (Ann.snd (Ann.snd spec_l20Tree_an)))))) (spec_l20Tree_n1_l x492 x493 x494) (fun (t : Int × Int × Int × (List Int) × (List Int)) => (spec_l20Tree_n8_l x492 t.1 t.2.1 x493 t.2.2.1 t.2.2.2.1 t.2.2.2.2))))

theorem spec_l20Tree_e (x492 : Int) (x493 : List Int) (x494 : Int) {r : AV} {H' : Heap} (h : (Ans.mk _ (spec_l20Tree x492 x493 x494) (fun (t : Int × (List Int)) => (.slc 1, [some (.box [.dat (.list (.int .u8)) x493, .dat (.int .i64) t.1]), some (.seq (.int .i64) t.2)]))).run = some (r, H')) : Awp spec_l20Tree_ctx LL (bodyOf Try.f46) spec_l20Tree_an (⟨mkE 80 0 [(0, .ptr 0 0), (1, .dat (.int .i64) x492)], [some (.box [.dat (.list (.int .u8)) x493, .dat (.int .i64) x494])]⟩ : St) (Ret (tlook tys) Try.f46.results.toList r H') :=
  ret_of' (spec_l20Tree_n9_l x492 x493 x494) (by unfold spec_l20Tree; kernel_rfl) (by
  intro t
  exact ret_mk [.slc 1] (by kernel_rfl) (by kernel_rfl) (by kernel_rfl) (by kernel_rfl)) h

def F_spec_l20Tree : Fun := fun avs H =>
  match avs, H with
  | [.ptr 0 0, .dat (.int .i64) x492], [some (.box [.dat (.list (.int .u8)) x493, .dat (.int .i64) x494])] => ⟨_, spec_l20Tree x492 x493 x494, fun (t : Int × (List Int)) => (.slc 1, [some (.box [.dat (.list (.int .u8)) x493, .dat (.int .i64) t.1]), some (.seq (.int .i64) t.2)])⟩
  | _, _ => Ans.no

theorem spec_l20Tree_sound : Sound Try.prog 46 F_spec_l20Tree := by
  refine fn_sound' (C := spec_l20Tree_ctx) (c := bodyOf Try.f46) (cok_of tys_ok (List.forall_mem_cons.2 ⟨spec_l20Rd_pick_sound, List.forall_mem_cons.2 ⟨spec_l20Order_sound, List.forall_mem_cons.2 ⟨spec_l20Rd_odd_sound, by simp⟩⟩⟩) (List.forall_mem_cons.2 ⟨Try.call29, List.forall_mem_cons.2 ⟨Try.call56, List.forall_mem_cons.2 ⟨Try.call57, by simp⟩⟩⟩) (by kernel_rfl)) Try.func46 (by kernel_rfl) LL spec_l20Tree_an ?_
  intro avs H r H' h
  unfold F_spec_l20Tree at h
  split at h
  · refine Awp.cast ?_ ?_ ?_ (spec_l20Tree_e _ _ _ h) <;> kernel_rfl
  · simp [Ans.no, Ans.run] at h

/-! loop.example/headtrees/spec.l20Fill -/

def spec_l20Fill_an : Ann := (.seq (.seq (.leaf [0, 1, 2, 3, 4, 16]) (.cond (.leaf []) (.leaf [0, 1, 2, 3, 4]))) (.seq (.leaf [0, 1, 2, 3, 4, 10]) (.seq (.leaf [0, 1, 2, 3, 10]) (.seq (.leaf [0, 1, 3, 10, 11]) (.seq (.block (.loop (.seq (.seq (.leaf [0, 1, 3, 10, 11, 33]) (.cond (.leaf [0, 1, 3, 10, 11]) (.leaf [0, 1, 3, 10]))) (.block (.seq (.leaf [0, 1, 3, 10, 11, 12]) (.seq (.leaf [0, 1, 3, 10, 12]) (.leaf [0, 1, 3, 10, 11]))))))) (.seq (.leaf [0, 1, 3, 10, 11]) (.block (.loop (.seq (.seq (.leaf [0, 1, 3, 10, 11, 53]) (.cond (.leaf [0, 1, 3, 10, 11]) (.leaf []))) (.block (.seq (.leaf [0, 1, 3, 10, 11, 13]) (.seq (.leaf [0, 1, 3, 10, 13]) (.leaf [0, 1, 3, 10, 11])))))))))))))

def F_spec_l20Fill_fuel (n : Nat) : Fun := fun avs H =>
  match avs, H with
  | [.ptr 0 0, .slc 1, .dat (.int .i64) x1103, .dat (.int .i64) x1104, .dat (.int .i64) x1105], [some (.box [.dat (.list (.int .u8)) x1106, .dat (.int .i64) x1107]), some (.seq (.int .i64) x1108)] => ⟨_, spec_l20Fill_fuel n x1103 x1104 x1105 x1106 x1107 x1108, fun (t : Int × (List Int)) => (.tup [], [some (.box [.dat (.list (.int .u8)) x1106, .dat (.int .i64) t.1]), some (.seq (.int .i64) t.2)])⟩
  | _, _ => Ans.no

noncomputable def spec_l20Fill_ctx (n : Nat) : Ctx := ⟨tlook tys, olook [(29, F_spec_l20Rd_pick), (47, F_spec_l20Fill_fuel n)], ioF, 2⟩

theorem spec_l20Fill_n1_l (n : Nat) (x1103 : Int) (x1104 : Int) (x1105 : Int) (x1106 : List Int) (x1107 : Int) (x1108 : List Int) : Link (spec_l20Fill_ctx n) LL (Code.seq (Code.fst (bodyOf Try.f47)) (Code.seq (Code.fst (Code.snd (bodyOf Try.f47))) (Code.seq (Code.fst (Code.snd (Code.snd (bodyOf Try.f47)))) (Code.fst (Code.snd (Code.snd (Code.snd (bodyOf Try.f47)))))))) (Ann.seq (Ann.fst spec_l20Fill_an) (Ann.seq (Ann.fst (Ann.snd spec_l20Fill_an)) (Ann.seq (Ann.fst (Ann.snd (Ann.snd spec_l20Fill_an))) (Ann.fst (Ann.snd (Ann.snd (Ann.snd spec_l20Fill_an))))))) (⟨mkE 70 0 [(0, .ptr 0 0), (1, .slc 1), (2, .dat (.int .i64) x1103), (3, .dat (.int .i64) x1104), (4, .dat (.int .i64) x1105)], [some (.box [.dat (.list (.int .u8)) x1106, .dat (.int .i64) x1107]), some (.seq (.int .i64) x1108)]⟩ : St) (spec_l20Fill_n1 (spec_l20Fill_fuel n) x1103 x1104 x1105 x1106 x1107 x1108) (Sum.elim (fun (t : Int × Int × (List Int)) => (Exit.normal, (⟨mkE 70 0 [(0, .ptr 0 0), (1, .slc 1), (3, .dat (.int .i64) x1104), (10, .dat (.int .i64) t.1), (11, .dat (.int .i64) x1103)], [some (.box [.dat (.list (.int .u8)) x1106, .dat (.int .i64) t.2.1]), some (.seq (.int .i64) t.2.2)]⟩ : St))) (fun (t : Int × (List Int)) => (Exit.ret, (⟨mkE 70 0 [], [some (.box [.dat (.list (.int .u8)) x1106, .dat (.int .i64) t.1]), some (.seq (.int .i64) t.2)]⟩ : St)))) := by
  refine Link.of fun K h => ?_
  simp only [spec_l20Fill_n1, wpO_bind, wpO_cond, wpO_map, wpO_some] at h
  exact Awp.of (by kernel_rfl) h

theorem spec_l20Fill_n2_l (n : Nat) (x1104 : Int) (x1179 : Int) (x1194 : Int) (x1106 : List Int) (x1195 : Int) (x1196 : List Int) : Link (spec_l20Fill_ctx n) LL (Code.fst (Code.fst (Code.fst (Code.snd (Code.snd (Code.snd (Code.snd (bodyOf Try.f47)))))))) (Ann.fst (Ann.fst (Ann.fst (Ann.snd (Ann.snd (Ann.snd (Ann.snd spec_l20Fill_an))))))) (⟨mkE 70 0 [(0, .ptr 0 0), (1, .slc 1), (3, .dat (.int .i64) x1104), (10, .dat (.int .i64) x1179), (11, .dat (.int .i64) x1194)], [some (.box [.dat (.list (.int .u8)) x1106, .dat (.int .i64) x1195]), some (.seq (.int .i64) x1196)]⟩ : St) (spec_l20Fill_n2 (spec_l20Fill_fuel n) x1179 x1194 x1106 x1195 x1196) (Sum.elim (fun (t : Int × Int × (List Int)) => (Exit.normal, (⟨mkE 70 0 [(0, .ptr 0 0), (1, .slc 1), (3, .dat (.int .i64) x1104), (10, .dat (.int .i64) x1179), (11, .dat (.int .i64) t.1)], [some (.box [.dat (.list (.int .u8)) x1106, .dat (.int .i64) t.2.1]), some (.seq (.int .i64) t.2.2)]⟩ : St))) (fun (t : Int × (List Int)) => ((Exit.exit 0), (⟨mkE 70 0 [(0, .ptr 0 0), (1, .slc 1), (3, .dat (.int .i64) x1104), (10, .dat (.int .i64) x1179)], [some (.box [.dat (.list (.int .u8)) x1106, .dat (.int .i64) t.1]), some (.seq (.int .i64) t.2)]⟩ : St)))) := by
  refine Link.of fun K h => ?_
  simp only [spec_l20Fill_n2, wpO_bind, wpO_cond, wpO_map, wpO_some] at h
  exact Awp.of (by kernel_rfl) h

theorem spec_l20Fill_n3_l (n : Nat) (x1104 : Int) (x1179 : Int) (x1103 : Int) (x1106 : List Int) (x1178 : Int) (x1182 : List Int) : Link (spec_l20Fill_ctx n) LL (Code.fst (Code.fst (Code.snd (Code.snd (Code.snd (Code.snd (bodyOf Try.f47))))))) (Ann.fst (Ann.fst (Ann.snd (Ann.snd (Ann.snd (Ann.snd spec_l20Fill_an)))))) (⟨mkE 70 0 [(0, .ptr 0 0), (1, .slc 1), (3, .dat (.int .i64) x1104), (10, .dat (.int .i64) x1179), (11, .dat (.int .i64) x1103)], [some (.box [.dat (.list (.int .u8)) x1106, .dat (.int .i64) x1178]), some (.seq (.int .i64) x1182)]⟩ : St) (spec_l20Fill_n3 (spec_l20Fill_fuel n) x1179 x1103 x1106 x1178 x1182) (fun (t : Int × (List Int)) => ((Exit.exit 0), (⟨mkE 70 0 [(0, .ptr 0 0), (1, .slc 1), (3, .dat (.int .i64) x1104), (10, .dat (.int .i64) x1179)], [some (.box [.dat (.list (.int .u8)) x1106, .dat (.int .i64) t.1]), some (.seq (.int .i64) t.2)]⟩ : St))) := by
  unfold spec_l20Fill_n3
  exact Link.cast (by kernel_rfl) (by kernel_rfl) (link_loop (mk := fun (s : Int × Int × (List Int)) => (⟨mkE 70 0 [(0, .ptr 0 0), (1, .slc 1), (3, .dat (.int .i64) x1104), (10, .dat (.int .i64) x1179), (11, .dat (.int .i64) s.1)], [some (.box [.dat (.list (.int .u8)) x1106, .dat (.int .i64) s.2.1]), some (.seq (.int .i64) s.2.2)]⟩ : St)) (fin := (fun (t : Int × (List Int)) => ((Exit.exit 0), (⟨mkE 70 0 [(0, .ptr 0 0), (1, .slc 1), (3, .dat (.int .i64) x1104), (10, .dat (.int .i64) x1179)], [some (.box [.dat (.list (.int .u8)) x1106, .dat (.int .i64) t.1]), some (.seq (.int .i64) t.2)]⟩ : St)))) (by
  rintro t f K h
  · exact h) (fun s => link_map (spec_l20Fill_n2_l n x1104 x1179 s.1 x1106 s.2.1 s.2.2) (Sum.elim (fun (t : Int × Int × (List Int)) => Sum.inl (t.1, t.2.1, t.2.2)) (fun (t : Int × (List Int)) => Sum.inr t)) (by
  rintro (t | t)
  · kernel_rfl
  · kernel_rfl)) (x1103, x1178, x1182))

theorem spec_l20Fill_n4_l (n : Nat) (x1104 : Int) (x1179 : Int) (x1103 : Int) (x1106 : List Int) (x1178 : Int) (x1182 : List Int) : Link (spec_l20Fill_ctx n) LL (Code.fst (Code.snd (Code.snd (Code.snd (Code.snd (bodyOf Try.f47)))))) (Ann.fst (Ann.snd (Ann.snd (Ann.snd (Ann.snd spec_l20Fill_an))))) (⟨mkE 70 0 [(0, .ptr 0 0), (1, .slc 1), (3, .dat (.int .i64) x1104), (10, .dat (.int .i64) x1179), (11, .dat (.int .i64) x1103)], [some (.box [.dat (.list (.int .u8)) x1106, .dat (.int .i64) x1178]), some (.seq (.int .i64) x1182)]⟩ : St) (spec_l20Fill_n4 (spec_l20Fill_fuel n) x1179 x1103 x1106 x1178 x1182) (fun (t : Int × (List Int)) => (Exit.normal, (⟨mkE 70 0 [(0, .ptr 0 0), (1, .slc 1), (3, .dat (.int .i64) x1104), (10, .dat (.int .i64) x1179)], [some (.box [.dat (.list (.int .u8)) x1106, .dat (.int .i64) t.1]), some (.seq (.int .i64) t.2)]⟩ : St))) := by
  unfold spec_l20Fill_n4
  exact Link.cast (by kernel_rfl) (by kernel_rfl) (link_block (id := 0) (spec_l20Fill_n3_l n x1104 x1179 x1103 x1106 x1178 x1182) (fun (t : Int × (List Int)) => (t.1, t.2)) (by
  rintro t K h
  · exact Eq.mp (by kernel_rfl) h))

theorem spec_l20Fill_n5_l (n : Nat) (x1104 : Int) (x1179 : Int) (x1106 : List Int) (x1195 : Int) (x1196 : List Int) : Link (spec_l20Fill_ctx n) LL (Code.fst (Code.snd (Code.snd (Code.snd (Code.snd (Code.snd (bodyOf Try.f47))))))) (Ann.fst (Ann.snd (Ann.snd (Ann.snd (Ann.snd (Ann.snd spec_l20Fill_an)))))) (⟨mkE 70 0 [(0, .ptr 0 0), (1, .slc 1), (3, .dat (.int .i64) x1104), (10, .dat (.int .i64) x1179)], [some (.box [.dat (.list (.int .u8)) x1106, .dat (.int .i64) x1195]), some (.seq (.int .i64) x1196)]⟩ : St) (spec_l20Fill_n5 (spec_l20Fill_fuel n) x1179) (fun (t : Int) => (Exit.normal, (⟨mkE 70 0 [(0, .ptr 0 0), (1, .slc 1), (3, .dat (.int .i64) x1104), (10, .dat (.int .i64) x1179), (11, .dat (.int .i64) t)], [some (.box [.dat (.list (.int .u8)) x1106, .dat (.int .i64) x1195]), some (.seq (.int .i64) x1196)]⟩ : St))) := by
  refine Link.of fun K h => ?_
  simp only [spec_l20Fill_n5, wpO_bind, wpO_cond, wpO_map, wpO_some] at h
  exact Awp.of (by kernel_rfl) h

theorem spec_l20Fill_n6_l (n : Nat) (x1104 : Int) (x1179 : Int) (x1221 : Int) (x1106 : List Int) (x1222 : Int) (x1223 : List Int) : Link (spec_l20Fill_ctx n) LL (Code.fst (Code.fst (Code.snd (Code.snd (Code.snd (Code.snd (Code.snd (Code.snd (bodyOf Try.f47))))))))) (Ann.fst (Ann.fst (Ann.snd (Ann.snd (Ann.snd (Ann.snd (Ann.snd (Ann.snd spec_l20Fill_an)))))))) (⟨mkE 70 0 [(0, .ptr 0 0), (1, .slc 1), (3, .dat (.int .i64) x1104), (10, .dat (.int .i64) x1179), (11, .dat (.int .i64) x1221)], [some (.box [.dat (.list (.int .u8)) x1106, .dat (.int .i64) x1222]), some (.seq (.int .i64) x1223)]⟩ : St) (spec_l20Fill_n6 (spec_l20Fill_fuel n) x1104 x1179 x1221 x1106 x1222 x1223) (Sum.elim (fun (t : Int × Int × (List Int)) => (Exit.normal, (⟨mkE 70 0 [(0, .ptr 0 0), (1, .slc 1), (3, .dat (.int .i64) x1104), (10, .dat (.int .i64) x1179), (11, .dat (.int .i64) t.1)], [some (.box [.dat (.list (.int .u8)) x1106, .dat (.int .i64) t.2.1]), some (.seq (.int .i64) t.2.2)]⟩ : St))) (fun (t : Int × (List Int)) => ((Exit.exit 2), (⟨mkE 70 0 [], [some (.box [.dat (.list (.int .u8)) x1106, .dat (.int .i64) t.1]), some (.seq (.int .i64) t.2)]⟩ : St)))) := by
  refine Link.of fun K h => ?_
  simp only [spec_l20Fill_n6, wpO_bind, wpO_cond, wpO_map, wpO_some] at h
  exact Awp.of (by kernel_rfl) h

theorem spec_l20Fill_n7_l (n : Nat) (x1104 : Int) (x1179 : Int) (x1208 : Int) (x1106 : List Int) (x1195 : Int) (x1196 : List Int) : Link (spec_l20Fill_ctx n) LL (Code.fst (Code.snd (Code.snd (Code.snd (Code.snd (Code.snd (Code.snd (bodyOf Try.f47)))))))) (Ann.fst (Ann.snd (Ann.snd (Ann.snd (Ann.snd (Ann.snd (Ann.snd spec_l20Fill_an))))))) (⟨mkE 70 0 [(0, .ptr 0 0), (1, .slc 1), (3, .dat (.int .i64) x1104), (10, .dat (.int .i64) x1179), (11, .dat (.int .i64) x1208)], [some (.box [.dat (.list (.int .u8)) x1106, .dat (.int .i64) x1195]), some (.seq (.int .i64) x1196)]⟩ : St) (spec_l20Fill_n7 (spec_l20Fill_fuel n) x1104 x1179 x1208 x1106 x1195 x1196) (fun (t : Int × (List Int)) => ((Exit.exit 2), (⟨mkE 70 0 [], [some (.box [.dat (.list (.int .u8)) x1106, .dat (.int .i64) t.1]), some (.seq (.int .i64) t.2)]⟩ : St))) := by
  unfold spec_l20Fill_n7
  exact Link.cast (by kernel_rfl) (by kernel_rfl) (link_loop (mk := fun (s : Int × Int × (List Int)) => (⟨mkE 70 0 [(0, .ptr 0 0), (1, .slc 1), (3, .dat (.int .i64) x1104), (10, .dat (.int .i64) x1179), (11, .dat (.int .i64) s.1)], [some (.box [.dat (.list (.int .u8)) x1106, .dat (.int .i64) s.2.1]), some (.seq (.int .i64) s.2.2)]⟩ : St)) (fin := (fun (t : Int × (List Int)) => ((Exit.exit 2), (⟨mkE 70 0 [], [some (.box [.dat (.list (.int .u8)) x1106, .dat (.int .i64) t.1]), some (.seq (.int .i64) t.2)]⟩ : St)))) (by
  rintro t f K h
  · exact h) (fun s => link_map (spec_l20Fill_n6_l n x1104 x1179 s.1 x1106 s.2.1 s.2.2) (Sum.elim (fun (t : Int × Int × (List Int)) => Sum.inl (t.1, t.2.1, t.2.2)) (fun (t : Int × (List Int)) => Sum.inr t)) (by
  rintro (t | t)
  · kernel_rfl
  · kernel_rfl)) (x1208, x1195, x1196))

theorem spec_l20Fill_n8_l (n : Nat) (x1104 : Int) (x1179 : Int) (x1208 : Int) (x1106 : List Int) (x1195 : Int) (x1196 : List Int) : Link (spec_l20Fill_ctx n) LL (Code.snd (Code.snd (Code.snd (Code.snd (Code.snd (Code.snd (bodyOf Try.f47))))))) (Ann.snd (Ann.snd (Ann.snd (Ann.snd (Ann.snd (Ann.snd spec_l20Fill_an)))))) (⟨mkE 70 0 [(0, .ptr 0 0), (1, .slc 1), (3, .dat (.int .i64) x1104), (10, .dat (.int .i64) x1179), (11, .dat (.int .i64) x1208)], [some (.box [.dat (.list (.int .u8)) x1106, .dat (.int .i64) x1195]), some (.seq (.int .i64) x1196)]⟩ : St) (spec_l20Fill_n8 (spec_l20Fill_fuel n) x1104 x1179 x1208 x1106 x1195 x1196) (fun (t : Int × (List Int)) => (Exit.normal, (⟨mkE 70 0 [], [some (.box [.dat (.list (.int .u8)) x1106, .dat (.int .i64) t.1]), some (.seq (.int .i64) t.2)]⟩ : St))) := by
  unfold spec_l20Fill_n8
  exact Link.cast (by kernel_rfl) (by kernel_rfl) (link_block (id := 2) (spec_l20Fill_n7_l n x1104 x1179 x1208 x1106 x1195 x1196) (fun (t : Int × (List Int)) => (t.1, t.2)) (by
  rintro t K h
  · exact Eq.mp (by kernel_rfl) h))

theorem spec_l20Fill_n9_l (n : Nat) (x1104 : Int) (x1179 : Int) (x1106 : List Int) (x1195 : Int) (x1196 : List Int) : Link (spec_l20Fill_ctx n) LL (Code.snd (Code.snd (Code.snd (Code.snd (Code.snd (bodyOf Try.f47)))))) (Ann.snd (Ann.snd (Ann.snd (Ann.snd (Ann.snd spec_l20Fill_an))))) (⟨mkE 70 0 [(0, .ptr 0 0), (1, .slc 1), (3, .dat (.int .i64) x1104), (10, .dat (.int .i64) x1179)], [some (.box [.dat (.list (.int .u8)) x1106, .dat (.int .i64) x1195]), some (.seq (.int .i64) x1196)]⟩ : St) (spec_l20Fill_n9 (spec_l20Fill_fuel n) x1104 x1179 x1106 x1195 x1196) (fun (t : Int × (List Int)) => (Exit.normal, (⟨mkE 70 0 [], [some (.box [.dat (.list (.int .u8)) x1106, .dat (.int .i64) t.1]), some (.seq (.int .i64) t.2)]⟩ : St))) := by
  unfold spec_l20Fill_n9
  exact Link.cast (by kernel_rfl) (by kernel_rfl) (link_seq (b := (Code.snd (Code.snd (Code.snd (Code.snd (Code.snd (Code.snd (bodyOf Try.f47)))))))) (y := (Ann.snd (Ann.snd (Ann.snd (Ann.snd (Ann.snd (Ann.snd spec_l20Fill_an))))))) (spec_l20Fill_n5_l n x1104 x1179 x1106 x1195 x1196) (fun (t : Int) => (spec_l20Fill_n8_l n x1104 x1179 t x1106 x1195 x1196)))

theorem spec_l20Fill_n10_l (n : Nat) (x1104 : Int) (x1179 : Int) (x1103 : Int) (x1106 : List Int) (x1178 : Int) (x1182 : List Int) : Link (spec_l20Fill_ctx n) LL (Code.snd (Code.snd (Code.snd (Code.snd (bodyOf Try.f47))))) (Ann.snd (Ann.snd (Ann.snd (Ann.snd spec_l20Fill_an)))) (⟨mkE 70 0 [(0, .ptr 0 0), (1, .slc 1), (3, .dat (.int .i64) x1104), (10, .dat (.int .i64) x1179), (11, .dat (.int .i64) x1103)], [some (.box [.dat (.list (.int .u8)) x1106, .dat (.int .i64) x1178]), some (.seq (.int .i64) x1182)]⟩ : St) (spec_l20Fill_n10 (spec_l20Fill_fuel n) x1104 x1179 x1103 x1106 x1178 x1182) (fun (t : Int × (List Int)) => (Exit.normal, (⟨mkE 70 0 [], [some (.box [.dat (.list (.int .u8)) x1106, .dat (.int .i64) t.1]), some (.seq (.int .i64) t.2)]⟩ : St))) := by
  unfold spec_l20Fill_n10
  exact Link.cast (by kernel_rfl) (by kernel_rfl) (link_seq (b := (Code.snd (Code.snd (Code.snd (Code.snd (Code.snd (bodyOf Try.f47))))))) (y := (Ann.snd (Ann.snd (Ann.snd (Ann.snd (Ann.snd spec_l20Fill_an)))))) (spec_l20Fill_n4_l n x1104 x1179 x1103 x1106 x1178 x1182) (fun (t : Int × (List Int)) => (spec_l20Fill_n9_l n x1104 x1179 x1106 t.1 t.2)))

theorem spec_l20Fill_n11_l (n : Nat) (x1103 : Int) (x1104 : Int) (x1105 : Int) (x1106 : List Int) (x1107 : Int) (x1108 : List Int) : Link (spec_l20Fill_ctx n) LL (bodyOf Try.f47) spec_l20Fill_an (⟨mkE 70 0 [(0, .ptr 0 0), (1, .slc 1), (2, .dat (.int .i64) x1103), (3, .dat (.int .i64) x1104), (4, .dat (.int .i64) x1105)], [some (.box [.dat (.list (.int .u8)) x1106, .dat (.int .i64) x1107]), some (.seq (.int .i64) x1108)]⟩ : St) (spec_l20Fill_n11 (spec_l20Fill_fuel n) x1103 x1104 x1105 x1106 x1107 x1108) (Sum.elim (fun (t : Int × (List Int)) => (Exit.normal, (⟨mkE 70 0 [], [some (.box [.dat (.list (.int .u8)) x1106, .dat (.int .i64) t.1]), some (.seq (.int .i64) t.2)]⟩ : St))) (fun (t : Int × (List Int)) => (Exit.ret, (⟨mkE 70 0 [], [some (.box [.dat (.list (.int .u8)) x1106, .dat (.int .i64) t.1]), some (.seq (.int .i64) t.2)]⟩ : St)))) := by
  unfold spec_l20Fill_n11
  exact Link.cast (by kernel_rfl) (by kernel_rfl) (link_group (c := (Code.fst (Code.snd (Code.snd (Code.snd (bodyOf Try.f47)))))) (a := (Ann.fst (Ann.snd (Ann.snd (Ann.snd spec_l20Fill_an))))) [(Code.fst (bodyOf Try.f47)), (Code.fst (Code.snd (bodyOf Try.f47))), (Code.fst (Code.snd (Code.snd (bodyOf Try.f47))))] [(Ann.fst spec_l20Fill_an), (Ann.fst (Ann.snd spec_l20Fill_an)), (Ann.fst (Ann.snd (Ann.snd spec_l20Fill_an)))] rfl (link_seq2 (b := (Code.snd (Code.snd (Code.snd (Code.snd (bodyOf Try.f47)))))) (y := (Ann.snd (Ann.snd (Ann.snd (Ann.snd spec_l20Fill_an))))) (spec_l20Fill_n1_l n x1103 x1104 x1105 x1106 x1107 x1108) (fun (t : Int × Int × (List Int)) => (link_map (spec_l20Fill_n10_l n x1104 t.1 x1103 x1106 t.2.1 t.2.2) (fun (u : Int × (List Int)) => (Sum.inl (u.1, u.2))) (by
  rintro t
  · kernel_rfl))) (fun (t : Int × (List Int)) => (Sum.inr t)) (by
  rintro t
  · kernel_rfl) (by
  rintro t f K h
  · exact h)))

theorem spec_l20Fill_e (n : Nat) (x1103 : Int) (x1104 : Int) (x1105 : Int) (x1106 : List Int) (x1107 : Int) (x1108 : List Int) {r : AV} {H' : Heap} (h : (Ans.mk _ (spec_l20Fill_fuel (n + 1) x1103 x1104 x1105 x1106 x1107 x1108) (fun (t : Int × (List Int)) => (.tup [], [some (.box [.dat (.list (.int .u8)) x1106, .dat (.int .i64) t.1]), some (.seq (.int .i64) t.2)]))).run = some (r, H')) : Awp (spec_l20Fill_ctx n) LL (bodyOf Try.f47) spec_l20Fill_an (⟨mkE 70 0 [(0, .ptr 0 0), (1, .slc 1), (2, .dat (.int .i64) x1103), (3, .dat (.int .i64) x1104), (4, .dat (.int .i64) x1105)], [some (.box [.dat (.list (.int .u8)) x1106, .dat (.int .i64) x1107]), some (.seq (.int .i64) x1108)]⟩ : St) (Ret (tlook tys) Try.f47.results.toList r H') :=
  ret_of (spec_l20Fill_n11_l n x1103 x1104 x1105 x1106 x1107 x1108) (Sum.elim (fun (t : Int × (List Int)) => (t.1, t.2)) (fun (t : Int × (List Int)) => t)) (by (show _ = _); kernel_rfl) (by
  rintro (t | t)
  · exact ret_mk [] (by kernel_rfl) (by kernel_rfl) (by kernel_rfl) (by kernel_rfl)
  · exact ret_mk [] (by kernel_rfl) (by kernel_rfl) (by kernel_rfl) (by kernel_rfl)) h

theorem spec_l20Fill_step (n : Nat) (h47 : Sound Try.prog 47 (F_spec_l20Fill_fuel n)) : Sound Try.prog 47 (F_spec_l20Fill_fuel (n + 1)) := by
  refine fn_sound' (C := spec_l20Fill_ctx n) (c := bodyOf Try.f47) (cok_of tys_ok (List.forall_mem_cons.2 ⟨spec_l20Rd_pick_sound, List.forall_mem_cons.2 ⟨h47, by simp⟩⟩) (List.forall_mem_cons.2 ⟨Try.call29, List.forall_mem_cons.2 ⟨Try.call47, by simp⟩⟩) (by kernel_rfl)) Try.func47 (by kernel_rfl) LL spec_l20Fill_an ?_
  intro avs H r H' h
  unfold F_spec_l20Fill_fuel at h
  split at h
  · refine Awp.cast ?_ ?_ ?_ (spec_l20Fill_e n _ _ _ _ _ _ h) <;> kernel_rfl
  · simp [Ans.no, Ans.run] at h

theorem spec_l20Fill_null : Sound Try.prog 47 (F_spec_l20Fill_fuel 0) := by
  intro avs H r H' h
  unfold F_spec_l20Fill_fuel at h
  split at h
  · simp [spec_l20Fill_fuel, spec_l20Fill_knot, Ans.run] at h
  · simp [Ans.no, Ans.run] at h

theorem spec_l20Fill_knot_all : ∀ n, Sound Try.prog 47 (F_spec_l20Fill_fuel n)
  | 0 => spec_l20Fill_null
  | n + 1 => by
    have h47 := spec_l20Fill_knot_all n
    exact spec_l20Fill_step n h47

def F_spec_l20Fill : Fun := fun avs H =>
  match avs, H with
  | [.ptr 0 0, .slc 1, .dat (.int .i64) x1103, .dat (.int .i64) x1104, .dat (.int .i64) x1105], [some (.box [.dat (.list (.int .u8)) x1106, .dat (.int .i64) x1107]), some (.seq (.int .i64) x1108)] => ⟨_, spec_l20Fill x1103 x1104 x1105 x1106 x1107 x1108, fun (t : Int × (List Int)) => (.tup [], [some (.box [.dat (.list (.int .u8)) x1106, .dat (.int .i64) t.1]), some (.seq (.int .i64) t.2)])⟩
  | _, _ => Ans.no

theorem spec_l20Fill_sound : Sound Try.prog 47 F_spec_l20Fill := by
  have e : F_spec_l20Fill = F_spec_l20Fill_fuel RR := by
    funext avs H
    unfold F_spec_l20Fill F_spec_l20Fill_fuel
    split <;> first | rfl | (simp only [spec_l20Fill])
  rw [e]
  exact (spec_l20Fill_knot_all RR)

/-! loop.example/headtrees/spec.l20Flat -/

def spec_l20Flat_an : Ann := (.seq (.leaf [0, 1]) (.seq (.seq (.leaf [0, 1, 9]) (.cond (.seq (.leaf [4]) (.leaf [4])) (.leaf [0]))) (.seq (.leaf [0, 5]) (.seq (.leaf [0, 5, 6]) (.seq (.leaf [6]) (.seq (.leaf [4]) (.leaf [4])))))))

noncomputable def spec_l20Flat_ctx : Ctx := ⟨tlook tys, olook [(29, F_spec_l20Rd_pick), (46, F_spec_l20Tree), (47, F_spec_l20Fill)], ioF, 1⟩

theorem spec_l20Flat_n1_l (x485 : Int) (x486 : List Int) (x487 : Int) : Link spec_l20Flat_ctx LL (bodyOf Try.f32) spec_l20Flat_an (⟨mkE 23 0 [(0, .ptr 0 0), (1, .dat (.int .i64) x485)], [some (.box [.dat (.list (.int .u8)) x486, .dat (.int .i64) x487])]⟩ : St) (spec_l20Flat_n1 x485 x486 x487) (fun (t : Int × (List Int)) => (Exit.ret, (⟨mkE 23 0 [(4, .slc 1)], [some (.box [.dat (.list (.int .u8)) x486, .dat (.int .i64) t.1]), some (.seq (.int .i64) t.2)]⟩ : St))) := by
  refine Link.of fun K h => ?_
  simp only [spec_l20Flat_n1, wpO_bind, wpO_cond, wpO_map, wpO_some] at h
  exact Awp.of (by kernel_rfl) h

theorem spec_l20Flat_e (x485 : Int) (x486 : List Int) (x487 : Int) {r : AV} {H' : Heap} (h : (Ans.mk _ (spec_l20Flat x485 x486 x487) (fun (t : Int × (List Int)) => (.slc 1, [some (.box [.dat (.list (.int .u8)) x486, .dat (.int .i64) t.1]), some (.seq (.int .i64) t.2)]))).run = some (r, H')) : Awp spec_l20Flat_ctx LL (bodyOf Try.f32) spec_l20Flat_an (⟨mkE 23 0 [(0, .ptr 0 0), (1, .dat (.int .i64) x485)], [some (.box [.dat (.list (.int .u8)) x486, .dat (.int .i64) x487])]⟩ : St) (Ret (tlook tys) Try.f32.results.toList r H') :=
  ret_of' (spec_l20Flat_n1_l x485 x486 x487) (by unfold spec_l20Flat; kernel_rfl) (by
  intro t
  exact ret_mk [.slc 1] (by kernel_rfl) (by kernel_rfl) (by kernel_rfl) (by kernel_rfl)) h

def F_spec_l20Flat : Fun := fun avs H =>
  match avs, H with
  | [.ptr 0 0, .dat (.int .i64) x485], [some (.box [.dat (.list (.int .u8)) x486, .dat (.int .i64) x487])] => ⟨_, spec_l20Flat x485 x486 x487, fun (t : Int × (List Int)) => (.slc 1, [some (.box [.dat (.list (.int .u8)) x486, .dat (.int .i64) t.1]), some (.seq (.int .i64) t.2)])⟩
  | _, _ => Ans.no

theorem spec_l20Flat_sound : Sound Try.prog 32 F_spec_l20Flat := by
  refine fn_sound' (C := spec_l20Flat_ctx) (c := bodyOf Try.f32) (cok_of tys_ok (List.forall_mem_cons.2 ⟨spec_l20Rd_pick_sound, List.forall_mem_cons.2 ⟨spec_l20Tree_sound, List.forall_mem_cons.2 ⟨spec_l20Fill_sound, by simp⟩⟩⟩) (List.forall_mem_cons.2 ⟨Try.call29, List.forall_mem_cons.2 ⟨Try.call46, List.forall_mem_cons.2 ⟨Try.call47, by simp⟩⟩⟩) (by kernel_rfl)) Try.func32 (by kernel_rfl) LL spec_l20Flat_an ?_
  intro avs H r H' h
  unfold F_spec_l20Flat at h
  split at h
  · refine Awp.cast ?_ ?_ ?_ (spec_l20Flat_e _ _ _ h) <;> kernel_rfl
  · simp [Ans.no, Ans.run] at h

/-! loop.example/headtrees/spec.DrawCoveredOk -/

def spec_DrawCoveredOk_an : Ann := (.seq (.leaf [0]) (.seq (.leaf [4]) (.seq (.leaf [4, 5]) (.seq (.leaf [2, 3]) (.leaf [2, 3])))))

noncomputable def spec_DrawCoveredOk_ctx : Ctx := ⟨tlook tys, olook [(28, F_spec_l20Open), (32, F_spec_l20Flat), (29, F_spec_l20Rd_pick)], ioF, 0⟩

theorem spec_DrawCoveredOk_n1_l (x480 : List Int) : Link spec_DrawCoveredOk_ctx LL (bodyOf Try.f13) spec_DrawCoveredOk_an (⟨mkE 16 0 [(0, .dat (.list (.int .u8)) x480)], []⟩ : St) (spec_DrawCoveredOk_n1 x480) (fun (t : Int × (List Int)) => (Exit.ret, (⟨mkE 16 0 [(2, .slc 0), (3, .dat (.int .i64) t.1)], [some (.seq (.int .i64) t.2)]⟩ : St))) := by
  refine Link.of fun K h => ?_
  simp only [spec_DrawCoveredOk_n1, wpO_bind, wpO_cond, wpO_map, wpO_some] at h
  exact Awp.of (by kernel_rfl) h

theorem spec_DrawCoveredOk_e (x480 : List Int) {r : AV} {H' : Heap} (h : (Ans.mk _ (spec_DrawCoveredOk x480) (fun (t : Int × (List Int)) => (.tup [.slc 0, .dat (.int .i64) t.1], [some (.seq (.int .i64) t.2)]))).run = some (r, H')) : Awp spec_DrawCoveredOk_ctx LL (bodyOf Try.f13) spec_DrawCoveredOk_an (⟨mkE 16 0 [(0, .dat (.list (.int .u8)) x480)], []⟩ : St) (Ret (tlook tys) Try.f13.results.toList r H') :=
  ret_of' (spec_DrawCoveredOk_n1_l x480) (by unfold spec_DrawCoveredOk; kernel_rfl) (by
  intro t
  exact ret_mk [.slc 0, .dat (.int .i64) t.1] (by kernel_rfl) (by kernel_rfl) (by kernel_rfl) (by kernel_rfl)) h

def F_spec_DrawCoveredOk : Fun := fun avs H =>
  match avs, H with
  | [.dat (.list (.int .u8)) x480], [] => ⟨_, spec_DrawCoveredOk x480, fun (t : Int × (List Int)) => (.tup [.slc 0, .dat (.int .i64) t.1], [some (.seq (.int .i64) t.2)])⟩
  | _, _ => Ans.no

theorem spec_DrawCoveredOk_sound : Sound Try.prog 13 F_spec_DrawCoveredOk := by
  refine fn_sound' (C := spec_DrawCoveredOk_ctx) (c := bodyOf Try.f13) (cok_of tys_ok (List.forall_mem_cons.2 ⟨spec_l20Open_sound, List.forall_mem_cons.2 ⟨spec_l20Flat_sound, List.forall_mem_cons.2 ⟨spec_l20Rd_pick_sound, by simp⟩⟩⟩) (List.forall_mem_cons.2 ⟨Try.call28, List.forall_mem_cons.2 ⟨Try.call32, List.forall_mem_cons.2 ⟨Try.call29, by simp⟩⟩⟩) (by kernel_rfl)) Try.func13 (by kernel_rfl) LL spec_DrawCoveredOk_an ?_
  intro avs H r H' h
  unfold F_spec_DrawCoveredOk at h
  split at h
  · refine Awp.cast ?_ ?_ ?_ (spec_DrawCoveredOk_e _ h) <;> kernel_rfl
  · simp [Ans.no, Ans.run] at h

/-! loop.example/headtrees/impl.oneRoot -/

def impl_oneRoot_an : Ann := (.seq (.leaf [0]) (.seq (.leaf [0, 3]) (.seq (.seq (.leaf [0, 3, 6, 7, 8]) (.block (.loop (.seq (.leaf [0, 3, 6, 7, 8, 9]) (.seq (.cond (.leaf [0, 3, 6, 7, 8]) (.leaf [3])) (.seq (.block (.seq (.leaf [0, 3, 5, 6, 7, 8]) (.seq (.seq (.leaf [0, 3, 5, 6, 7, 8, 19]) (.cond (.seq (.leaf [2]) (.leaf [2])) (.leaf [0, 3, 5, 6, 7, 8]))) (.seq (.leaf [0, 3, 6, 7, 8, 21]) (.cond (.leaf [0, 3, 6, 7, 8]) (.leaf [0, 3, 6, 7, 8])))))) (.leaf [0, 3, 6, 7, 8]))))))) (.seq (.leaf [2]) (.leaf [2])))))

noncomputable def impl_oneRoot_ctx : Ctx := ⟨tlook tys, olook [], ioF, 0⟩

theorem impl_oneRoot_n1_l (x1313 : List Int) : Link impl_oneRoot_ctx LL (Code.seq (Code.fst (bodyOf Try.f48)) (Code.fst (Code.snd (bodyOf Try.f48)))) (Ann.seq (Ann.fst impl_oneRoot_an) (Ann.fst (Ann.snd impl_oneRoot_an))) (⟨mkE 27 0 [(0, .dat (.list (.int .i64)) x1313)], []⟩ : St) (impl_oneRoot_n1) (fun (t : Unit) => (Exit.normal, (⟨mkE 27 0 [(0, .dat (.list (.int .i64)) x1313), (3, .dat (.int .i64) 0)], []⟩ : St))) := by
  refine Link.of fun K h => ?_
  simp only [impl_oneRoot_n1, wpO_bind, wpO_cond, wpO_map, wpO_some] at h
  exact Awp.of (by kernel_rfl) h

theorem impl_oneRoot_n2_l (x1313 : List Int) : Link impl_oneRoot_ctx LL (Code.fst (Code.fst (Code.snd (Code.snd (bodyOf Try.f48))))) (Ann.fst (Ann.fst (Ann.snd (Ann.snd impl_oneRoot_an)))) (⟨mkE 27 0 [(0, .dat (.list (.int .i64)) x1313), (3, .dat (.int .i64) 0)], []⟩ : St) (impl_oneRoot_n2 x1313) (fun (t : Int) => (Exit.normal, (⟨mkE 27 0 [(0, .dat (.list (.int .i64)) x1313), (3, .dat (.int .i64) 0), (6, .dat (.list (.int .i64)) x1313), (7, .dat (.int .i64) t), (8, .dat (.int .i64) 0)], []⟩ : St))) := by
  refine Link.of fun K h => ?_
  simp only [impl_oneRoot_n2, wpO_bind, wpO_cond, wpO_map, wpO_some] at h
  exact Awp.of (by kernel_rfl) h

theorem impl_oneRoot_n3_l (x1313 : List Int) (x1335 : Int) (x1314 : Int) (x1336 : Int) : Link impl_oneRoot_ctx LL (Code.fst (Code.fst (Code.snd (Code.fst (Code.snd (Code.snd (bodyOf Try.f48))))))) (Ann.fst (Ann.fst (Ann.snd (Ann.fst (Ann.snd (Ann.snd impl_oneRoot_an)))))) (⟨mkE 27 0 [(0, .dat (.list (.int .i64)) x1313), (3, .dat (.int .i64) x1335), (6, .dat (.list (.int .i64)) x1313), (7, .dat (.int .i64) x1314), (8, .dat (.int .i64) x1336)], []⟩ : St) (impl_oneRoot_n3 x1313 x1335 x1314 x1336) (Sum.elim (fun (t : Int × Int) => (Exit.normal, (⟨mkE 27 0 [(0, .dat (.list (.int .i64)) x1313), (3, .dat (.int .i64) t.1), (6, .dat (.list (.int .i64)) x1313), (7, .dat (.int .i64) x1314), (8, .dat (.int .i64) t.2)], []⟩ : St))) (Sum.elim (fun (t : Bool) => (Exit.ret, (⟨mkE 27 0 [(2, .dat .bool t)], []⟩ : St))) (fun (t : Int) => ((Exit.exit 0), (⟨mkE 27 0 [(3, .dat (.int .i64) t)], []⟩ : St))))) := by
  refine Link.of fun K h => ?_
  simp only [impl_oneRoot_n3, wpO_bind, wpO_cond, wpO_map, wpO_some] at h
  exact Awp.of (by kernel_rfl) h

theorem impl_oneRoot_n4_l (x1313 : List Int) (x1314 : Int) : Link impl_oneRoot_ctx LL (Code.fst (Code.snd (Code.fst (Code.snd (Code.snd (bodyOf Try.f48)))))) (Ann.fst (Ann.snd (Ann.fst (Ann.snd (Ann.snd impl_oneRoot_an))))) (⟨mkE 27 0 [(0, .dat (.list (.int .i64)) x1313), (3, .dat (.int .i64) 0), (6, .dat (.list (.int .i64)) x1313), (7, .dat (.int .i64) x1314), (8, .dat (.int .i64) 0)], []⟩ : St) (impl_oneRoot_n4 x1313 x1314) (Sum.elim (fun (t : Bool) => (Exit.ret, (⟨mkE 27 0 [(2, .dat .bool t)], []⟩ : St))) (fun (t : Int) => ((Exit.exit 0), (⟨mkE 27 0 [(3, .dat (.int .i64) t)], []⟩ : St)))) := by
  unfold impl_oneRoot_n4
  exact Link.cast (by kernel_rfl) (by kernel_rfl) (link_loop (mk := fun (s : Int × Int) => (⟨mkE 27 0 [(0, .dat (.list (.int .i64)) x1313), (3, .dat (.int .i64) s.1), (6, .dat (.list (.int .i64)) x1313), (7, .dat (.int .i64) x1314), (8, .dat (.int .i64) s.2)], []⟩ : St)) (fin := (Sum.elim (fun (t : Bool) => (Exit.ret, (⟨mkE 27 0 [(2, .dat .bool t)], []⟩ : St))) (fun (t : Int) => ((Exit.exit 0), (⟨mkE 27 0 [(3, .dat (.int .i64) t)], []⟩ : St))))) (by
  rintro (t | t) f K h
  · exact h
  · exact h) (fun s => link_map (impl_oneRoot_n3_l x1313 s.1 x1314 s.2) (Sum.elim (fun (t : Int × Int) => Sum.inl (t.1, t.2)) (Sum.elim (fun (t : Bool) => Sum.inr (Sum.inl t)) (fun (t : Int) => Sum.inr (Sum.inr t)))) (by
  rintro (t | t | t)
  · kernel_rfl
  · kernel_rfl
  · kernel_rfl)) (0, 0))

theorem impl_oneRoot_n5_l (x1313 : List Int) (x1314 : Int) : Link impl_oneRoot_ctx LL (Code.snd (Code.fst (Code.snd (Code.snd (bodyOf Try.f48))))) (Ann.snd (Ann.fst (Ann.snd (Ann.snd impl_oneRoot_an)))) (⟨mkE 27 0 [(0, .dat (.list (.int .i64)) x1313), (3, .dat (.int .i64) 0), (6, .dat (.list (.int .i64)) x1313), (7, .dat (.int .i64) x1314), (8, .dat (.int .i64) 0)], []⟩ : St) (impl_oneRoot_n5 x1313 x1314) (Sum.elim (fun (t : Int) => (Exit.normal, (⟨mkE 27 0 [(3, .dat (.int .i64) t)], []⟩ : St))) (fun (t : Bool) => (Exit.ret, (⟨mkE 27 0 [(2, .dat .bool t)], []⟩ : St)))) := by
  unfold impl_oneRoot_n5
  exact Link.cast (by kernel_rfl) (by kernel_rfl) (link_block (id := 0) (impl_oneRoot_n4_l x1313 x1314) (Sum.elim (fun (t : Bool) => (Sum.inr t)) (fun (t : Int) => (Sum.inl t))) (by
  rintro (t | t) K h
  · exact Eq.mp (by kernel_rfl) h
  · exact Eq.mp (by kernel_rfl) h))

theorem impl_oneRoot_n6_l (x1313 : List Int) : Link impl_oneRoot_ctx LL (Code.fst (Code.snd (Code.snd (bodyOf Try.f48)))) (Ann.fst (Ann.snd (Ann.snd impl_oneRoot_an))) (⟨mkE 27 0 [(0, .dat (.list (.int .i64)) x1313), (3, .dat (.int .i64) 0)], []⟩ : St) (impl_oneRoot_n6 x1313) (Sum.elim (fun (t : Int) => (Exit.normal, (⟨mkE 27 0 [(3, .dat (.int .i64) t)], []⟩ : St))) (fun (t : Bool) => (Exit.ret, (⟨mkE 27 0 [(2, .dat .bool t)], []⟩ : St)))) := by
  unfold impl_oneRoot_n6
  exact Link.cast (by kernel_rfl) (by kernel_rfl) (link_seq (b := (Code.snd (Code.fst (Code.snd (Code.snd (bodyOf Try.f48)))))) (y := (Ann.snd (Ann.fst (Ann.snd (Ann.snd impl_oneRoot_an))))) (impl_oneRoot_n2_l x1313) (fun (t : Int) => (impl_oneRoot_n5_l x1313 t)))

theorem impl_oneRoot_n7_l (x1335 : Int) : Link impl_oneRoot_ctx LL (Code.snd (Code.snd (Code.snd (bodyOf Try.f48)))) (Ann.snd (Ann.snd (Ann.snd impl_oneRoot_an))) (⟨mkE 27 0 [(3, .dat (.int .i64) x1335)], []⟩ : St) (impl_oneRoot_n7 x1335) (fun (t : Bool) => (Exit.ret, (⟨mkE 27 0 [(2, .dat .bool t)], []⟩ : St))) := by
  refine Link.of fun K h => ?_
  simp only [impl_oneRoot_n7, wpO_bind, wpO_cond, wpO_map, wpO_some] at h
  exact Awp.of (by kernel_rfl) h

theorem impl_oneRoot_n8_l (x1313 : List Int) : Link impl_oneRoot_ctx LL (Code.snd (Code.snd (bodyOf Try.f48))) (Ann.snd (Ann.snd impl_oneRoot_an)) (⟨mkE 27 0 [(0, .dat (.list (.int .i64)) x1313), (3, .dat (.int .i64) 0)], []⟩ : St) (impl_oneRoot_n8 x1313) (fun (t : Bool) => (Exit.ret, (⟨mkE 27 0 [(2, .dat .bool t)], []⟩ : St))) := by
  unfold impl_oneRoot_n8
  exact Link.cast (by kernel_rfl) (by kernel_rfl) (link_seq2 (b := (Code.snd (Code.snd (Code.snd (bodyOf Try.f48))))) (y := (Ann.snd (Ann.snd (Ann.snd impl_oneRoot_an)))) (impl_oneRoot_n6_l x1313) (fun (t : Int) => (impl_oneRoot_n7_l t)) (fun (t : Bool) => t) (by
  rintro t
  · kernel_rfl) (by
  rintro t f K h
  · exact h))

theorem impl_oneRoot_n9_l (x1313 : List Int) : Link impl_oneRoot_ctx LL (bodyOf Try.f48) impl_oneRoot_an (⟨mkE 27 0 [(0, .dat (.list (.int .i64)) x1313)], []⟩ : St) (impl_oneRoot_n9 x1313) (fun (t : Bool) => (Exit.ret, (⟨mkE 27 0 [(2, .dat .bool t)], []⟩ : St))) := by
  unfold impl_oneRoot_n9
  exact Link.cast (by kernel_rfl) (by kernel_rfl) (link_group (c := (Code.fst (Code.snd (bodyOf Try.f48)))) (a := (Ann.fst (Ann.snd impl_oneRoot_an))) [(Code.fst (bodyOf Try.f48))] [(Ann.fst impl_oneRoot_an)] rfl (link_seq (b := (Code.snd (Code.snd (bodyOf Try.f48)))) (y := (Ann.snd (Ann.snd impl_oneRoot_an))) (impl_oneRoot_n1_l x1313) (fun (t : Unit) => (impl_oneRoot_n8_l x1313))))

theorem impl_oneRoot_e (x1313 : List Int) {r : AV} {H' : Heap} (h : (Ans.mk _ (impl_oneRoot x1313) (fun (t : Bool) => (.dat .bool t, []))).run = some (r, H')) : Awp impl_oneRoot_ctx LL (bodyOf Try.f48) impl_oneRoot_an (⟨mkE 27 0 [(0, .dat (.list (.int .i64)) x1313)], []⟩ : St) (Ret (tlook tys) Try.f48.results.toList r H') :=
  ret_of' (impl_oneRoot_n9_l x1313) (by unfold impl_oneRoot; kernel_rfl) (by
  intro t
  exact ret_mk [.dat .bool t] (by kernel_rfl) (by kernel_rfl) (by kernel_rfl) (by kernel_rfl)) h

def F_impl_oneRoot : Fun := fun avs H =>
  match avs, H with
  | [.dat (.list (.int .i64)) x1313], [] => ⟨_, impl_oneRoot x1313, fun (t : Bool) => (.dat .bool t, [])⟩
  | _, _ => Ans.no

theorem impl_oneRoot_sound : Sound Try.prog 48 F_impl_oneRoot := by
  refine fn_sound' (C := impl_oneRoot_ctx) (c := bodyOf Try.f48) (cok_of tys_ok (by simp) (by simp) (by kernel_rfl)) Try.func48 (by kernel_rfl) LL impl_oneRoot_an ?_
  intro avs H r H' h
  unfold F_impl_oneRoot at h
  split at h
  · refine Awp.cast ?_ ?_ ?_ (impl_oneRoot_e _ h) <;> kernel_rfl
  · simp [Ans.no, Ans.run] at h

/-! (*loop.example/headtrees/impl.walker).up -/

def impl_walker_up_an : Ann := (.seq (.leaf [0]) (.seq (.draw [] [0, 1, 2, 3, 4, 5, 6, 7, 8, 9, 10, 11] [] [0, 3]) (.seq (.seq (.leaf [0, 3, 16]) (.cond (.seq (.leaf [2]) (.leaf [2])) (.leaf [0, 3]))) (.seq (.leaf [0]) (.seq (.leaf []) (.seq (.leaf [2]) (.leaf [2])))))))

noncomputable def impl_walker_up_ctx : Ctx := ⟨tlook tys, olook [], ioF, 1⟩

theorem impl_walker_up_n1_l (x1369 : List Int) (x1370 : Int) (x1371 : Int) : Link impl_walker_up_ctx LL (bodyOf Try.f58) impl_walker_up_an (⟨mkE 28 0 [(0, .ptr 0 0)], [some (.box [.dat (.list (.int .i64)) x1369, .dat (.int .i64) x1370, .dat (.int .i64) x1371])]⟩ : St) (impl_walker_up_n1 x1369 x1370 x1371) (fun (t : Bool × Int × Int) => (Exit.ret, (⟨mkE 28 0 [(2, .dat .bool t.1)], [some (.box [.dat (.list (.int .i64)) x1369, .dat (.int .i64) t.2.1, .dat (.int .i64) t.2.2])]⟩ : St))) := by
  refine Link.of fun K h => ?_
  simp only [impl_walker_up_n1, wpO_bind, wpO_cond, wpO_map, wpO_some] at h
  exact Awp.of (by kernel_rfl) h

theorem impl_walker_up_e (x1369 : List Int) (x1370 : Int) (x1371 : Int) {r : AV} {H' : Heap} (h : (Ans.mk _ (impl_walker_up x1369 x1370 x1371) (fun (t : Bool × Int × Int) => (.dat .bool t.1, [some (.box [.dat (.list (.int .i64)) x1369, .dat (.int .i64) t.2.1, .dat (.int .i64) t.2.2])]))).run = some (r, H')) : Awp impl_walker_up_ctx LL (bodyOf Try.f58) impl_walker_up_an (⟨mkE 28 0 [(0, .ptr 0 0)], [some (.box [.dat (.list (.int .i64)) x1369, .dat (.int .i64) x1370, .dat (.int .i64) x1371])]⟩ : St) (Ret (tlook tys) Try.f58.results.toList r H') :=
  ret_of' (impl_walker_up_n1_l x1369 x1370 x1371) (by unfold impl_walker_up; kernel_rfl) (by
  intro t
  exact ret_mk [.dat .bool t.1] (by kernel_rfl) (by kernel_rfl) (by kernel_rfl) (by kernel_rfl)) h

def F_impl_walker_up : Fun := fun avs H =>
  match avs, H with
  | [.ptr 0 0], [some (.box [.dat (.list (.int .i64)) x1369, .dat (.int .i64) x1370, .dat (.int .i64) x1371])] => ⟨_, impl_walker_up x1369 x1370 x1371, fun (t : Bool × Int × Int) => (.dat .bool t.1, [some (.box [.dat (.list (.int .i64)) x1369, .dat (.int .i64) t.2.1, .dat (.int .i64) t.2.2])])⟩
  | _, _ => Ans.no

theorem impl_walker_up_sound : Sound Try.prog 58 F_impl_walker_up := by
  refine fn_sound' (C := impl_walker_up_ctx) (c := bodyOf Try.f58) (cok_of tys_ok (by simp) (by simp) (by kernel_rfl)) Try.func58 (by kernel_rfl) LL impl_walker_up_an ?_
  intro avs H r H' h
  unfold F_impl_walker_up at h
  split at h
  · refine Awp.cast ?_ ?_ ?_ (impl_walker_up_e _ _ _ h) <;> kernel_rfl
  · simp [Ans.no, Ans.run] at h

/-! loop.example/headtrees/impl.stepsToRoot -/

def impl_stepsToRoot_an : Ann := (.seq (.leaf [0, 1]) (.seq (.leaf [0, 6]) (.seq (.block (.loop (.seq (.seq (.leaf [0, 6, 10]) (.cond (.leaf [0, 6]) (.leaf [6]))) (.block (.seq (.leaf [0, 6, 15]) (.cond (.seq (.leaf [4, 5]) (.leaf [4, 5])) (.leaf [0, 6]))))))) (.seq (.leaf [4, 5]) (.leaf [4, 5])))))

noncomputable def impl_stepsToRoot_ctx : Ctx := ⟨tlook tys, olook [(58, F_impl_walker_up)], ioF, 0⟩

theorem impl_stepsToRoot_n1_l (x1367 : List Int) (x1368 : Int) : Link impl_stepsToRoot_ctx LL (Code.seq (Code.fst (bodyOf Try.f49)) (Code.fst (Code.snd (bodyOf Try.f49)))) (Ann.seq (Ann.fst impl_stepsToRoot_an) (Ann.fst (Ann.snd impl_stepsToRoot_an))) (⟨mkE 18 0 [(0, .dat (.list (.int .i64)) x1367), (1, .dat (.int .i64) x1368)], []⟩ : St) (impl_stepsToRoot_n1) (fun (t : Unit) => (Exit.normal, (⟨mkE 18 0 [(0, .dat (.list (.int .i64)) x1367), (6, .ptr 0 0)], [some (.box [.dat (.list (.int .i64)) x1367, .dat (.int .i64) x1368, .dat (.int .i64) 0])]⟩ : St))) := by
  refine Link.of fun K h => ?_
  simp only [impl_stepsToRoot_n1, wpO_bind, wpO_cond, wpO_map, wpO_some] at h
  exact Awp.of (by kernel_rfl) h

theorem impl_stepsToRoot_n2_l (x1367 : List Int) (x1405 : Int) (x1406 : Int) : Link impl_stepsToRoot_ctx LL (Code.fst (Code.fst (Code.fst (Code.snd (Code.snd (bodyOf Try.f49)))))) (Ann.fst (Ann.fst (Ann.fst (Ann.snd (Ann.snd impl_stepsToRoot_an))))) (⟨mkE 18 0 [(0, .dat (.list (.int .i64)) x1367), (6, .ptr 0 0)], [some (.box [.dat (.list (.int .i64)) x1367, .dat (.int .i64) x1405, .dat (.int .i64) x1406])]⟩ : St) (impl_stepsToRoot_n2 x1367 x1405 x1406) (Sum.elim (fun (t : Int × Int) => (Exit.normal, (⟨mkE 18 0 [(0, .dat (.list (.int .i64)) x1367), (6, .ptr 0 0)], [some (.box [.dat (.list (.int .i64)) x1367, .dat (.int .i64) t.1, .dat (.int .i64) t.2])]⟩ : St))) (Sum.elim (fun (t : Int × Bool) => (Exit.ret, (⟨mkE 18 0 [(4, .dat (.int .i64) t.1), (5, .dat .bool t.2)], []⟩ : St))) (fun (t : Int × Int) => ((Exit.exit 0), (⟨mkE 18 0 [(6, .ptr 0 0)], [some (.box [.dat (.list (.int .i64)) x1367, .dat (.int .i64) t.1, .dat (.int .i64) t.2])]⟩ : St))))) := by
  refine Link.of fun K h => ?_
  simp only [impl_stepsToRoot_n2, wpO_bind, wpO_cond, wpO_map, wpO_some] at h
  exact Awp.of (by kernel_rfl) h

theorem impl_stepsToRoot_n3_l (x1367 : List Int) (x1368 : Int) : Link impl_stepsToRoot_ctx LL (Code.fst (Code.fst (Code.snd (Code.snd (bodyOf Try.f49))))) (Ann.fst (Ann.fst (Ann.snd (Ann.snd impl_stepsToRoot_an)))) (⟨mkE 18 0 [(0, .dat (.list (.int .i64)) x1367), (6, .ptr 0 0)], [some (.box [.dat (.list (.int .i64)) x1367, .dat (.int .i64) x1368, .dat (.int .i64) 0])]⟩ : St) (impl_stepsToRoot_n3 x1367 x1368) (Sum.elim (fun (t : Int × Bool) => (Exit.ret, (⟨mkE 18 0 [(4, .dat (.int .i64) t.1), (5, .dat .bool t.2)], []⟩ : St))) (fun (t : Int × Int) => ((Exit.exit 0), (⟨mkE 18 0 [(6, .ptr 0 0)], [some (.box [.dat (.list (.int .i64)) x1367, .dat (.int .i64) t.1, .dat (.int .i64) t.2])]⟩ : St)))) := by
  unfold impl_stepsToRoot_n3
  exact Link.cast (by kernel_rfl) (by kernel_rfl) (link_loop (mk := fun (s : Int × Int) => (⟨mkE 18 0 [(0, .dat (.list (.int .i64)) x1367), (6, .ptr 0 0)], [some (.box [.dat (.list (.int .i64)) x1367, .dat (.int .i64) s.1, .dat (.int .i64) s.2])]⟩ : St)) (fin := (Sum.elim (fun (t : Int × Bool) => (Exit.ret, (⟨mkE 18 0 [(4, .dat (.int .i64) t.1), (5, .dat .bool t.2)], []⟩ : St))) (fun (t : Int × Int) => ((Exit.exit 0), (⟨mkE 18 0 [(6, .ptr 0 0)], [some (.box [.dat (.list (.int .i64)) x1367, .dat (.int .i64) t.1, .dat (.int .i64) t.2])]⟩ : St))))) (by
  rintro (t | t) f K h
  · exact h
  · exact h) (fun s => link_map (impl_stepsToRoot_n2_l x1367 s.1 s.2) (Sum.elim (fun (t : Int × Int) => Sum.inl (t.1, t.2)) (Sum.elim (fun (t : Int × Bool) => Sum.inr (Sum.inl t)) (fun (t : Int × Int) => Sum.inr (Sum.inr t)))) (by
  rintro (t | t | t)
  · kernel_rfl
  · kernel_rfl
  · kernel_rfl)) (x1368, 0))

theorem impl_stepsToRoot_n4_l (x1367 : List Int) (x1368 : Int) : Link impl_stepsToRoot_ctx LL (Code.fst (Code.snd (Code.snd (bodyOf Try.f49)))) (Ann.fst (Ann.snd (Ann.snd impl_stepsToRoot_an))) (⟨mkE 18 0 [(0, .dat (.list (.int .i64)) x1367), (6, .ptr 0 0)], [some (.box [.dat (.list (.int .i64)) x1367, .dat (.int .i64) x1368, .dat (.int .i64) 0])]⟩ : St) (impl_stepsToRoot_n4 x1367 x1368) (Sum.elim (fun (t : Int × Int) => (Exit.normal, (⟨mkE 18 0 [(6, .ptr 0 0)], [some (.box [.dat (.list (.int .i64)) x1367, .dat (.int .i64) t.1, .dat (.int .i64) t.2])]⟩ : St))) (fun (t : Int × Bool) => (Exit.ret, (⟨mkE 18 0 [(4, .dat (.int .i64) t.1), (5, .dat .bool t.2)], []⟩ : St)))) := by
  unfold impl_stepsToRoot_n4
  exact Link.cast (by kernel_rfl) (by kernel_rfl) (link_block (id := 0) (impl_stepsToRoot_n3_l x1367 x1368) (Sum.elim (fun (t : Int × Bool) => (Sum.inr t)) (fun (t : Int × Int) => (Sum.inl (t.1, t.2)))) (by
  rintro (t | t) K h
  · exact Eq.mp (by kernel_rfl) h
  · exact Eq.mp (by kernel_rfl) h))

theorem impl_stepsToRoot_n5_l (x1367 : List Int) (x1413 : Int) (x1414 : Int) : Link impl_stepsToRoot_ctx LL (Code.snd (Code.snd (Code.snd (bodyOf Try.f49)))) (Ann.snd (Ann.snd (Ann.snd impl_stepsToRoot_an))) (⟨mkE 18 0 [(6, .ptr 0 0)], [some (.box [.dat (.list (.int .i64)) x1367, .dat (.int .i64) x1413, .dat (.int .i64) x1414])]⟩ : St) (impl_stepsToRoot_n5 x1414) (fun (t : Int × Bool) => (Exit.ret, (⟨mkE 18 0 [(4, .dat (.int .i64) t.1), (5, .dat .bool t.2)], []⟩ : St))) := by
  refine Link.of fun K h => ?_
  simp only [impl_stepsToRoot_n5, wpO_bind, wpO_cond, wpO_map, wpO_some] at h
  exact Awp.of (by kernel_rfl) h

theorem impl_stepsToRoot_n6_l (x1367 : List Int) (x1368 : Int) : Link impl_stepsToRoot_ctx LL (Code.snd (Code.snd (bodyOf Try.f49))) (Ann.snd (Ann.snd impl_stepsToRoot_an)) (⟨mkE 18 0 [(0, .dat (.list (.int .i64)) x1367), (6, .ptr 0 0)], [some (.box [.dat (.list (.int .i64)) x1367, .dat (.int .i64) x1368, .dat (.int .i64) 0])]⟩ : St) (impl_stepsToRoot_n6 x1367 x1368) (fun (t : Int × Bool) => (Exit.ret, (⟨mkE 18 0 [(4, .dat (.int .i64) t.1), (5, .dat .bool t.2)], []⟩ : St))) := by
  unfold impl_stepsToRoot_n6
  exact Link.cast (by kernel_rfl) (by kernel_rfl) (link_seq2 (b := (Code.snd (Code.snd (Code.snd (bodyOf Try.f49))))) (y := (Ann.snd (Ann.snd (Ann.snd impl_stepsToRoot_an)))) (impl_stepsToRoot_n4_l x1367 x1368) (fun (t : Int × Int) => (impl_stepsToRoot_n5_l x1367 t.1 t.2)) (fun (t : Int × Bool) => t) (by
  rintro t
  · kernel_rfl) (by
  rintro t f K h
  · exact h))

theorem impl_stepsToRoot_n7_l (x1367 : List Int) (x1368 : Int) : Link impl_stepsToRoot_ctx LL (bodyOf Try.f49) impl_stepsToRoot_an (⟨mkE 18 0 [(0, .dat (.list (.int .i64)) x1367), (1, .dat (.int .i64) x1368)], []⟩ : St) (impl_stepsToRoot_n7 x1367 x1368) (fun (t : Int × Bool) => (Exit.ret, (⟨mkE 18 0 [(4, .dat (.int .i64) t.1), (5, .dat .bool t.2)], []⟩ : St))) := by
  unfold impl_stepsToRoot_n7
  exact Link.cast (by kernel_rfl) (by kernel_rfl) (link_group (c := (Code.fst (Code.snd (bodyOf Try.f49)))) (a := (Ann.fst (Ann.snd impl_stepsToRoot_an))) [(Code.fst (bodyOf Try.f49))] [(Ann.fst impl_stepsToRoot_an)] rfl (link_seq (b := (Code.snd (Code.snd (bodyOf Try.f49)))) (y := (Ann.snd (Ann.snd impl_stepsToRoot_an))) (impl_stepsToRoot_n1_l x1367 x1368) (fun (t : Unit) => (impl_stepsToRoot_n6_l x1367 x1368))))

theorem impl_stepsToRoot_e (x1367 : List Int) (x1368 : Int) {r : AV} {H' : Heap} (h : (Ans.mk _ (impl_stepsToRoot x1367 x1368) (fun (t : Int × Bool) => (.tup [.dat (.int .i64) t.1, .dat .bool t.2], []))).run = some (r, H')) : Awp impl_stepsToRoot_ctx LL (bodyOf Try.f49) impl_stepsToRoot_an (⟨mkE 18 0 [(0, .dat (.list (.int .i64)) x1367), (1, .dat (.int .i64) x1368)], []⟩ : St) (Ret (tlook tys) Try.f49.results.toList r H') :=
  ret_of' (impl_stepsToRoot_n7_l x1367 x1368) (by unfold impl_stepsToRoot; kernel_rfl) (by
  intro t
  exact ret_mk [.dat (.int .i64) t.1, .dat .bool t.2] (by kernel_rfl) (by kernel_rfl) (by kernel_rfl) (by kernel_rfl)) h

def F_impl_stepsToRoot : Fun := fun avs H =>
  match avs, H with
  | [.dat (.list (.int .i64)) x1367, .dat (.int .i64) x1368], [] => ⟨_, impl_stepsToRoot x1367 x1368, fun (t : Int × Bool) => (.tup [.dat (.int .i64) t.1, .dat .bool t.2], [])⟩
  | _, _ => Ans.no

theorem impl_stepsToRoot_sound : Sound Try.prog 49 F_impl_stepsToRoot := by
  refine fn_sound' (C := impl_stepsToRoot_ctx) (c := bodyOf Try.f49) (cok_of tys_ok (List.forall_mem_cons.2 ⟨impl_walker_up_sound, by simp⟩) (List.forall_mem_cons.2 ⟨Try.call58, by simp⟩) (by kernel_rfl)) Try.func49 (by kernel_rfl) LL impl_stepsToRoot_an ?_
  intro avs H r H' h
  unfold F_impl_stepsToRoot at h
  split at h
  · refine Awp.cast ?_ ?_ ?_ (impl_stepsToRoot_e _ _ h) <;> kernel_rfl
  · simp [Ans.no, Ans.run] at h

/-! loop.example/headtrees/impl.TreeOk -/

def impl_TreeOk_an : Ann := (.seq (.leaf [0]) (.seq (.seq (.leaf [0, 18]) (.cond (.seq (.leaf [2]) (.leaf [2])) (.leaf [0]))) (.seq (.seq (.leaf [0, 20, 21]) (.block (.loop (.seq (.leaf [0, 20, 21, 22]) (.seq (.cond (.leaf [0, 20, 21]) (.leaf [])) (.seq (.block (.seq (.leaf [0, 3, 20, 21]) (.seq (.leaf [0, 5, 20, 21]) (.seq (.leaf [0, 20, 21, 32]) (.cond (.seq (.leaf [2]) (.leaf [2])) (.leaf [0, 20, 21])))))) (.leaf [0, 20, 21]))))))) (.seq (.leaf [2]) (.leaf [2])))))

noncomputable def impl_TreeOk_ctx : Ctx := ⟨tlook tys, olook [(48, F_impl_oneRoot), (49, F_impl_stepsToRoot)], ioF, 0⟩

theorem impl_TreeOk_n1_l (x1308 : List Int) : Link impl_TreeOk_ctx LL (Code.seq (Code.fst (bodyOf Try.f38)) (Code.fst (Code.snd (bodyOf Try.f38)))) (Ann.seq (Ann.fst impl_TreeOk_an) (Ann.fst (Ann.snd impl_TreeOk_an))) (⟨mkE 34 0 [(0, .dat (.list (.int .i64)) x1308)], []⟩ : St) (impl_TreeOk_n1 x1308) (Sum.elim (fun (t : Unit) => (Exit.normal, (⟨mkE 34 0 [(0, .dat (.list (.int .i64)) x1308)], []⟩ : St))) (fun (t : Bool) => (Exit.ret, (⟨mkE 34 0 [(2, .dat .bool t)], []⟩ : St)))) := by
  refine Link.of fun K h => ?_
  simp only [impl_TreeOk_n1, wpO_bind, wpO_cond, wpO_map, wpO_some] at h
  exact Awp.of (by kernel_rfl) h

theorem impl_TreeOk_n2_l (x1308 : List Int) : Link impl_TreeOk_ctx LL (Code.fst (Code.fst (Code.snd (Code.snd (bodyOf Try.f38))))) (Ann.fst (Ann.fst (Ann.snd (Ann.snd impl_TreeOk_an)))) (⟨mkE 34 0 [(0, .dat (.list (.int .i64)) x1308)], []⟩ : St) (impl_TreeOk_n2 x1308) (fun (t : Int) => (Exit.normal, (⟨mkE 34 0 [(0, .dat (.list (.int .i64)) x1308), (20, .dat (.int .i64) t), (21, .dat (.int .i64) 0)], []⟩ : St))) := by
  refine Link.of fun K h => ?_
  simp only [impl_TreeOk_n2, wpO_bind, wpO_cond, wpO_map, wpO_some] at h
  exact Awp.of (by kernel_rfl) h

theorem impl_TreeOk_n3_l (x1308 : List Int) (x1362 : Int) (x1430 : Int) : Link impl_TreeOk_ctx LL (Code.fst (Code.fst (Code.snd (Code.fst (Code.snd (Code.snd (bodyOf Try.f38))))))) (Ann.fst (Ann.fst (Ann.snd (Ann.fst (Ann.snd (Ann.snd impl_TreeOk_an)))))) (⟨mkE 34 0 [(0, .dat (.list (.int .i64)) x1308), (20, .dat (.int .i64) x1362), (21, .dat (.int .i64) x1430)], []⟩ : St) (impl_TreeOk_n3 x1308 x1362 x1430) (Sum.elim (fun (t : Int) => (Exit.normal, (⟨mkE 34 0 [(0, .dat (.list (.int .i64)) x1308), (20, .dat (.int .i64) x1362), (21, .dat (.int .i64) t)], []⟩ : St))) (Sum.elim (fun (t : Bool) => (Exit.ret, (⟨mkE 34 0 [(2, .dat .bool t)], []⟩ : St))) (fun (t : Unit) => ((Exit.exit 0), (⟨mkE 34 0 [], []⟩ : St))))) := by
  refine Link.of fun K h => ?_
  simp only [impl_TreeOk_n3, wpO_bind, wpO_cond, wpO_map, wpO_some] at h
  exact Awp.of (by kernel_rfl) h

theorem impl_TreeOk_n4_l (x1308 : List Int) (x1362 : Int) : Link impl_TreeOk_ctx LL (Code.fst (Code.snd (Code.fst (Code.snd (Code.snd (bodyOf Try.f38)))))) (Ann.fst (Ann.snd (Ann.fst (Ann.snd (Ann.snd impl_TreeOk_an))))) (⟨mkE 34 0 [(0, .dat (.list (.int .i64)) x1308), (20, .dat (.int .i64) x1362), (21, .dat (.int .i64) 0)], []⟩ : St) (impl_TreeOk_n4 x1308 x1362) (Sum.elim (fun (t : Bool) => (Exit.ret, (⟨mkE 34 0 [(2, .dat .bool t)], []⟩ : St))) (fun (t : Unit) => ((Exit.exit 0), (⟨mkE 34 0 [], []⟩ : St)))) := by
  unfold impl_TreeOk_n4
  exact Link.cast (by kernel_rfl) (by kernel_rfl) (link_loop (mk := fun (s : Int) => (⟨mkE 34 0 [(0, .dat (.list (.int .i64)) x1308), (20, .dat (.int .i64) x1362), (21, .dat (.int .i64) s)], []⟩ : St)) (fin := (Sum.elim (fun (t : Bool) => (Exit.ret, (⟨mkE 34 0 [(2, .dat .bool t)], []⟩ : St))) (fun (t : Unit) => ((Exit.exit 0), (⟨mkE 34 0 [], []⟩ : St))))) (by
  rintro (t | t) f K h
  · exact h
  · exact h) (fun s => link_map (impl_TreeOk_n3_l x1308 x1362 s) (Sum.elim (fun (t : Int) => Sum.inl t) (Sum.elim (fun (t : Bool) => Sum.inr (Sum.inl t)) (fun (t : Unit) => Sum.inr (Sum.inr t)))) (by
  rintro (t | t | t)
  · kernel_rfl
  · kernel_rfl
  · kernel_rfl)) 0)

theorem impl_TreeOk_n5_l (x1308 : List Int) (x1362 : Int) : Link impl_TreeOk_ctx LL (Code.snd (Code.fst (Code.snd (Code.snd (bodyOf Try.f38))))) (Ann.snd (Ann.fst (Ann.snd (Ann.snd impl_TreeOk_an)))) (⟨mkE 34 0 [(0, .dat (.list (.int .i64)) x1308), (20, .dat (.int .i64) x1362), (21, .dat (.int .i64) 0)], []⟩ : St) (impl_TreeOk_n5 x1308 x1362) (Sum.elim (fun (t : Unit) => (Exit.normal, (⟨mkE 34 0 [], []⟩ : St))) (fun (t : Bool) => (Exit.ret, (⟨mkE 34 0 [(2, .dat .bool t)], []⟩ : St)))) := by
  unfold impl_TreeOk_n5
  exact Link.cast (by kernel_rfl) (by kernel_rfl) (link_block (id := 0) (impl_TreeOk_n4_l x1308 x1362) (Sum.elim (fun (t : Bool) => (Sum.inr t)) (fun (t : Unit) => (Sum.inl ()))) (by
  rintro (t | t) K h
  · exact Eq.mp (by kernel_rfl) h
  · exact Eq.mp (by kernel_rfl) h))

theorem impl_TreeOk_n6_l (x1308 : List Int) : Link impl_TreeOk_ctx LL (Code.fst (Code.snd (Code.snd (bodyOf Try.f38)))) (Ann.fst (Ann.snd (Ann.snd impl_TreeOk_an))) (⟨mkE 34 0 [(0, .dat (.list (.int .i64)) x1308)], []⟩ : St) (impl_TreeOk_n6 x1308) (Sum.elim (fun (t : Unit) => (Exit.normal, (⟨mkE 34 0 [], []⟩ : St))) (fun (t : Bool) => (Exit.ret, (⟨mkE 34 0 [(2, .dat .bool t)], []⟩ : St)))) := by
  unfold impl_TreeOk_n6
  exact Link.cast (by kernel_rfl) (by kernel_rfl) (link_seq (b := (Code.snd (Code.fst (Code.snd (Code.snd (bodyOf Try.f38)))))) (y := (Ann.snd (Ann.fst (Ann.snd (Ann.snd impl_TreeOk_an))))) (impl_TreeOk_n2_l x1308) (fun (t : Int) => (impl_TreeOk_n5_l x1308 t)))

theorem impl_TreeOk_n7_l : Link impl_TreeOk_ctx LL (Code.snd (Code.snd (Code.snd (bodyOf Try.f38)))) (Ann.snd (Ann.snd (Ann.snd impl_TreeOk_an))) (⟨mkE 34 0 [], []⟩ : St) (impl_TreeOk_n7) (fun (t : Bool) => (Exit.ret, (⟨mkE 34 0 [(2, .dat .bool t)], []⟩ : St))) := by
  refine Link.of fun K h => ?_
  simp only [impl_TreeOk_n7, wpO_bind, wpO_cond, wpO_map, wpO_some] at h
  exact Awp.of (by kernel_rfl) h

theorem impl_TreeOk_n8_l (x1308 : List Int) : Link impl_TreeOk_ctx LL (Code.snd (Code.snd (bodyOf Try.f38))) (Ann.snd (Ann.snd impl_TreeOk_an)) (⟨mkE 34 0 [(0, .dat (.list (.int .i64)) x1308)], []⟩ : St) (impl_TreeOk_n8 x1308) (fun (t : Bool) => (Exit.ret, (⟨mkE 34 0 [(2, .dat .bool t)], []⟩ : St))) := by
  unfold impl_TreeOk_n8
  exact Link.cast (by kernel_rfl) (by kernel_rfl) (link_seq2 (b := (Code.snd (Code.snd (Code.snd (bodyOf Try.f38))))) (y := (Ann.snd (Ann.snd (Ann.snd impl_TreeOk_an)))) (impl_TreeOk_n6_l x1308) (fun (t : Unit) => (impl_TreeOk_n7_l)) (fun (t : Bool) => t) (by
  rintro t
  · kernel_rfl) (by
  rintro t f K h
  · exact h))

theorem impl_TreeOk_n9_l (x1308 : List Int) : Link impl_TreeOk_ctx LL (bodyOf Try.f38) impl_TreeOk_an (⟨mkE 34 0 [(0, .dat (.list (.int .i64)) x1308)], []⟩ : St) (impl_TreeOk_n9 x1308) (fun (t : Bool) => (Exit.ret, (⟨mkE 34 0 [(2, .dat .bool t)], []⟩ : St))) := by
  unfold impl_TreeOk_n9
  exact Link.cast (by kernel_rfl) (by kernel_rfl) (link_group (c := (Code.fst (Code.snd (bodyOf Try.f38)))) (a := (Ann.fst (Ann.snd impl_TreeOk_an))) [(Code.fst (bodyOf Try.f38))] [(Ann.fst impl_TreeOk_an)] rfl (link_seq2 (b := (Code.snd (Code.snd (bodyOf Try.f38)))) (y := (Ann.snd (Ann.snd impl_TreeOk_an))) (impl_TreeOk_n1_l x1308) (fun (t : Unit) => (impl_TreeOk_n8_l x1308)) (fun (t : Bool) => t) (by
  rintro t
  · kernel_rfl) (by
  rintro t f K h
  · exact h)))

theorem impl_TreeOk_e (x1308 : List Int) {r : AV} {H' : Heap} (h : (Ans.mk _ (impl_TreeOk x1308) (fun (t : Bool) => (.dat .bool t, []))).run = some (r, H')) : Awp impl_TreeOk_ctx LL (bodyOf Try.f38) impl_TreeOk_an (⟨mkE 34 0 [(0, .dat (.list (.int .i64)) x1308)], []⟩ : St) (Ret (tlook tys) Try.f38.results.toList r H') :=
  ret_of' (impl_TreeOk_n9_l x1308) (by unfold impl_TreeOk; kernel_rfl) (by
  intro t
  exact ret_mk [.dat .bool t] (by kernel_rfl) (by kernel_rfl) (by kernel_rfl) (by kernel_rfl)) h

def F_impl_TreeOk : Fun := fun avs H =>
  match avs, H with
  | [.dat (.list (.int .i64)) x1308], [] => ⟨_, impl_TreeOk x1308, fun (t : Bool) => (.dat .bool t, [])⟩
  | _, _ => Ans.no

theorem impl_TreeOk_sound : Sound Try.prog 38 F_impl_TreeOk := by
  refine fn_sound' (C := impl_TreeOk_ctx) (c := bodyOf Try.f38) (cok_of tys_ok (List.forall_mem_cons.2 ⟨impl_oneRoot_sound, List.forall_mem_cons.2 ⟨impl_stepsToRoot_sound, by simp⟩⟩) (List.forall_mem_cons.2 ⟨Try.call48, List.forall_mem_cons.2 ⟨Try.call49, by simp⟩⟩) (by kernel_rfl)) Try.func38 (by kernel_rfl) LL impl_TreeOk_an ?_
  intro avs H r H' h
  unfold F_impl_TreeOk at h
  split at h
  · refine Awp.cast ?_ ?_ ?_ (impl_TreeOk_e _ h) <;> kernel_rfl
  · simp [Ans.no, Ans.run] at h

/-! loop.example/headtrees/impl.wordOk -/

def impl_wordOk_an : Ann := (.seq (.leaf [0, 1]) (.seq (.leaf [4]) (.leaf [4])))

noncomputable def impl_wordOk_ctx : Ctx := ⟨tlook tys, olook [(38, F_impl_TreeOk)], ioF, 0⟩

theorem impl_wordOk_n1_l (x1306 : List Int) (x1307 : Int) : Link impl_wordOk_ctx LL (bodyOf Try.f33) impl_wordOk_an (⟨mkE 17 0 [(0, .dat (.list (.int .i64)) x1306), (1, .dat (.int .i64) x1307)], []⟩ : St) (impl_wordOk_n1 x1306 x1307) (fun (t : Bool) => (Exit.ret, (⟨mkE 17 0 [(4, .dat .bool t)], []⟩ : St))) := by
  refine Link.of fun K h => ?_
  simp only [impl_wordOk_n1, wpO_bind, wpO_cond, wpO_map, wpO_some] at h
  exact Awp.of (by kernel_rfl) h

theorem impl_wordOk_e (x1306 : List Int) (x1307 : Int) {r : AV} {H' : Heap} (h : (Ans.mk _ (impl_wordOk x1306 x1307) (fun (t : Bool) => (.dat .bool t, []))).run = some (r, H')) : Awp impl_wordOk_ctx LL (bodyOf Try.f33) impl_wordOk_an (⟨mkE 17 0 [(0, .dat (.list (.int .i64)) x1306), (1, .dat (.int .i64) x1307)], []⟩ : St) (Ret (tlook tys) Try.f33.results.toList r H') :=
  ret_of' (impl_wordOk_n1_l x1306 x1307) (by unfold impl_wordOk; kernel_rfl) (by
  intro t
  exact ret_mk [.dat .bool t] (by kernel_rfl) (by kernel_rfl) (by kernel_rfl) (by kernel_rfl)) h

def F_impl_wordOk : Fun := fun avs H =>
  match avs, H with
  | [.dat (.list (.int .i64)) x1306, .dat (.int .i64) x1307], [] => ⟨_, impl_wordOk x1306 x1307, fun (t : Bool) => (.dat .bool t, [])⟩
  | _, _ => Ans.no

theorem impl_wordOk_sound : Sound Try.prog 33 F_impl_wordOk := by
  refine fn_sound' (C := impl_wordOk_ctx) (c := bodyOf Try.f33) (cok_of tys_ok (List.forall_mem_cons.2 ⟨impl_TreeOk_sound, by simp⟩) (List.forall_mem_cons.2 ⟨Try.call38, by simp⟩) (by kernel_rfl)) Try.func33 (by kernel_rfl) LL impl_wordOk_an ?_
  intro avs H r H' h
  unfold F_impl_wordOk at h
  split at h
  · refine Awp.cast ?_ ?_ ?_ (impl_wordOk_e _ _ h) <;> kernel_rfl
  · simp [Ans.no, Ans.run] at h

/-! loop.example/headtrees/impl.arcsOf -/

def impl_arcsOf_an : Ann := (.seq (.leaf [0]) (.seq (.leaf [0, 3]) (.seq (.seq (.leaf [3, 11, 12, 13]) (.block (.loop (.seq (.leaf [3, 11, 12, 13, 14]) (.seq (.cond (.leaf [3, 11, 12, 13]) (.leaf [3])) (.seq (.block (.seq (.leaf [3, 4, 5, 11, 12, 13]) (.seq (.leaf [3, 6, 7, 11, 12, 13]) (.seq (.leaf [3, 6, 11, 12, 13, 25]) (.cond (.leaf [3, 11, 12, 13]) (.leaf [3, 11, 12, 13])))))) (.leaf [3, 11, 12, 13]))))))) (.seq (.leaf [2]) (.leaf [2])))))

noncomputable def impl_arcsOf_ctx : Ctx := ⟨tlook tys, olook [(30, F_impl_arcBetween)], ioF, 0⟩

theorem impl_arcsOf_n1_l (x1458 : List Int) : Link impl_arcsOf_ctx LL (Code.seq (Code.fst (bodyOf Try.f34)) (Code.fst (Code.snd (bodyOf Try.f34)))) (Ann.seq (Ann.fst impl_arcsOf_an) (Ann.fst (Ann.snd impl_arcsOf_an))) (⟨mkE 32 0 [(0, .dat (.list (.int .i64)) x1458)], []⟩ : St) (impl_arcsOf_n1 x1458) (fun (t : (List (Int × Int × Unit))) => (Exit.normal, (⟨mkE 32 0 [(0, .dat (.list (.int .i64)) x1458), (3, .slc 0)], [some (.seq (.pair (.int .i64) (.pair (.int .i64) .unit)) t)]⟩ : St))) := by
  refine Link.of fun K h => ?_
  simp only [impl_arcsOf_n1, wpO_bind, wpO_cond, wpO_map, wpO_some] at h
  exact Awp.of (by kernel_rfl) h

theorem impl_arcsOf_n2_l (x1458 : List Int) (x1462 : List (Int × Int × Unit)) : Link impl_arcsOf_ctx LL (Code.fst (Code.fst (Code.snd (Code.snd (bodyOf Try.f34))))) (Ann.fst (Ann.fst (Ann.snd (Ann.snd impl_arcsOf_an)))) (⟨mkE 32 0 [(0, .dat (.list (.int .i64)) x1458), (3, .slc 0)], [some (.seq (.pair (.int .i64) (.pair (.int .i64) .unit)) x1462)]⟩ : St) (impl_arcsOf_n2 x1458) (fun (t : Int) => (Exit.normal, (⟨mkE 32 0 [(3, .slc 0), (11, .dat (.list (.int .i64)) x1458), (12, .dat (.int .i64) t), (13, .dat (.int .i64) 0)], [some (.seq (.pair (.int .i64) (.pair (.int .i64) .unit)) x1462)]⟩ : St))) := by
  refine Link.of fun K h => ?_
  simp only [impl_arcsOf_n2, wpO_bind, wpO_cond, wpO_map, wpO_some] at h
  exact Awp.of (by kernel_rfl) h

theorem impl_arcsOf_n3_l (x1458 : List Int) (x1463 : Int) (x1497 : Int) (x1498 : List (Int × Int × Unit)) : Link impl_arcsOf_ctx LL (Code.fst (Code.fst (Code.snd (Code.fst (Code.snd (Code.snd (bodyOf Try.f34))))))) (Ann.fst (Ann.fst (Ann.snd (Ann.fst (Ann.snd (Ann.snd impl_arcsOf_an)))))) (⟨mkE 32 0 [(3, .slc 0), (11, .dat (.list (.int .i64)) x1458), (12, .dat (.int .i64) x1463), (13, .dat (.int .i64) x1497)], [some (.seq (.pair (.int .i64) (.pair (.int .i64) .unit)) x1498)]⟩ : St) (impl_arcsOf_n3 x1458 x1463 x1497 x1498) (Sum.elim (fun (t : Int × (List (Int × Int × Unit))) => (Exit.normal, (⟨mkE 32 0 [(3, .slc 0), (11, .dat (.list (.int .i64)) x1458), (12, .dat (.int .i64) x1463), (13, .dat (.int .i64) t.1)], [some (.seq (.pair (.int .i64) (.pair (.int .i64) .unit)) t.2)]⟩ : St))) (fun (t : (List (Int × Int × Unit))) => ((Exit.exit 0), (⟨mkE 32 0 [(3, .slc 0)], [some (.seq (.pair (.int .i64) (.pair (.int .i64) .unit)) t)]⟩ : St)))) := by
  refine Link.of fun K h => ?_
  simp only [impl_arcsOf_n3, wpO_bind, wpO_cond, wpO_map, wpO_some] at h
  exact Awp.of (by kernel_rfl) h

theorem impl_arcsOf_n4_l (x1458 : List Int) (x1463 : Int) (x1462 : List (Int × Int × Unit)) : Link impl_arcsOf_ctx LL (Code.fst (Code.snd (Code.fst (Code.snd (Code.snd (bodyOf Try.f34)))))) (Ann.fst (Ann.snd (Ann.fst (Ann.snd (Ann.snd impl_arcsOf_an))))) (⟨mkE 32 0 [(3, .slc 0), (11, .dat (.list (.int .i64)) x1458), (12, .dat (.int .i64) x1463), (13, .dat (.int .i64) 0)], [some (.seq (.pair (.int .i64) (.pair (.int .i64) .unit)) x1462)]⟩ : St) (impl_arcsOf_n4 x1458 x1463 x1462) (fun (t : (List (Int × Int × Unit))) => ((Exit.exit 0), (⟨mkE 32 0 [(3, .slc 0)], [some (.seq (.pair (.int .i64) (.pair (.int .i64) .unit)) t)]⟩ : St))) := by
  unfold impl_arcsOf_n4
  exact Link.cast (by kernel_rfl) (by kernel_rfl) (link_loop (mk := fun (s : Int × (List (Int × Int × Unit))) => (⟨mkE 32 0 [(3, .slc 0), (11, .dat (.list (.int .i64)) x1458), (12, .dat (.int .i64) x1463), (13, .dat (.int .i64) s.1)], [some (.seq (.pair (.int .i64) (.pair (.int .i64) .unit)) s.2)]⟩ : St)) (fin := (fun (t : (List (Int × Int × Unit))) => ((Exit.exit 0), (⟨mkE 32 0 [(3, .slc 0)], [some (.seq (.pair (.int .i64) (.pair (.int .i64) .unit)) t)]⟩ : St)))) (by
  rintro t f K h
  · exact h) (fun s => link_map (impl_arcsOf_n3_l x1458 x1463 s.1 s.2) (Sum.elim (fun (t : Int × (List (Int × Int × Unit))) => Sum.inl (t.1, t.2)) (fun (t : (List (Int × Int × Unit))) => Sum.inr t)) (by
  rintro (t | t)
  · kernel_rfl
  · kernel_rfl)) (0, x1462))

theorem impl_arcsOf_n5_l (x1458 : List Int) (x1463 : Int) (x1462 : List (Int × Int × Unit)) : Link impl_arcsOf_ctx LL (Code.snd (Code.fst (Code.snd (Code.snd (bodyOf Try.f34))))) (Ann.snd (Ann.fst (Ann.snd (Ann.snd impl_arcsOf_an)))) (⟨mkE 32 0 [(3, .slc 0), (11, .dat (.list (.int .i64)) x1458), (12, .dat (.int .i64) x1463), (13, .dat (.int .i64) 0)], [some (.seq (.pair (.int .i64) (.pair (.int .i64) .unit)) x1462)]⟩ : St) (impl_arcsOf_n5 x1458 x1463 x1462) (fun (t : (List (Int × Int × Unit))) => (Exit.normal, (⟨mkE 32 0 [(3, .slc 0)], [some (.seq (.pair (.int .i64) (.pair (.int .i64) .unit)) t)]⟩ : St))) := by
  unfold impl_arcsOf_n5
  exact Link.cast (by kernel_rfl) (by kernel_rfl) (link_block (id := 0) (impl_arcsOf_n4_l x1458 x1463 x1462) (fun (t : (List (Int × Int × Unit))) => t) (by
  rintro t K h
  · exact Eq.mp (by kernel_rfl) h))

theorem impl_arcsOf_n6_l (x1458 : List Int) (x1462 : List (Int × Int × Unit)) : Link impl_arcsOf_ctx LL (Code.fst (Code.snd (Code.snd (bodyOf Try.f34)))) (Ann.fst (Ann.snd (Ann.snd impl_arcsOf_an))) (⟨mkE 32 0 [(0, .dat (.list (.int .i64)) x1458), (3, .slc 0)], [some (.seq (.pair (.int .i64) (.pair (.int .i64) .unit)) x1462)]⟩ : St) (impl_arcsOf_n6 x1458 x1462) (fun (t : (List (Int × Int × Unit))) => (Exit.normal, (⟨mkE 32 0 [(3, .slc 0)], [some (.seq (.pair (.int .i64) (.pair (.int .i64) .unit)) t)]⟩ : St))) := by
  unfold impl_arcsOf_n6
  exact Link.cast (by kernel_rfl) (by kernel_rfl) (link_seq (b := (Code.snd (Code.fst (Code.snd (Code.snd (bodyOf Try.f34)))))) (y := (Ann.snd (Ann.fst (Ann.snd (Ann.snd impl_arcsOf_an))))) (impl_arcsOf_n2_l x1458 x1462) (fun (t : Int) => (impl_arcsOf_n5_l x1458 t x1462)))

theorem impl_arcsOf_n7_l (x1498 : List (Int × Int × Unit)) : Link impl_arcsOf_ctx LL (Code.snd (Code.snd (Code.snd (bodyOf Try.f34)))) (Ann.snd (Ann.snd (Ann.snd impl_arcsOf_an))) (⟨mkE 32 0 [(3, .slc 0)], [some (.seq (.pair (.int .i64) (.pair (.int .i64) .unit)) x1498)]⟩ : St) (impl_arcsOf_n7 x1498) (fun (t : (List (Int × Int × Unit))) => (Exit.ret, (⟨mkE 32 0 [(2, .slc 0)], [some (.seq (.pair (.int .i64) (.pair (.int .i64) .unit)) t)]⟩ : St))) := by
  refine Link.of fun K h => ?_
  simp only [impl_arcsOf_n7, wpO_bind, wpO_cond, wpO_map, wpO_some] at h
  exact Awp.of (by kernel_rfl) h

theorem impl_arcsOf_n8_l (x1458 : List Int) (x1462 : List (Int × Int × Unit)) : Link impl_arcsOf_ctx LL (Code.snd (Code.snd (bodyOf Try.f34))) (Ann.snd (Ann.snd impl_arcsOf_an)) (⟨mkE 32 0 [(0, .dat (.list (.int .i64)) x1458), (3, .slc 0)], [some (.seq (.pair (.int .i64) (.pair (.int .i64) .unit)) x1462)]⟩ : St) (impl_arcsOf_n8 x1458 x1462) (fun (t : (List (Int × Int × Unit))) => (Exit.ret, (⟨mkE 32 0 [(2, .slc 0)], [some (.seq (.pair (.int .i64) (.pair (.int .i64) .unit)) t)]⟩ : St))) := by
  unfold impl_arcsOf_n8
  exact Link.cast (by kernel_rfl) (by kernel_rfl) (link_seq (b := (Code.snd (Code.snd (Code.snd (bodyOf Try.f34))))) (y := (Ann.snd (Ann.snd (Ann.snd impl_arcsOf_an)))) (impl_arcsOf_n6_l x1458 x1462) (fun (t : (List (Int × Int × Unit))) => (impl_arcsOf_n7_l t)))

theorem impl_arcsOf_n9_l (x1458 : List Int) : Link impl_arcsOf_ctx LL (bodyOf Try.f34) impl_arcsOf_an (⟨mkE 32 0 [(0, .dat (.list (.int .i64)) x1458)], []⟩ : St) (impl_arcsOf_n9 x1458) (fun (t : (List (Int × Int × Unit))) => (Exit.ret, (⟨mkE 32 0 [(2, .slc 0)], [some (.seq (.pair (.int .i64) (.pair (.int .i64) .unit)) t)]⟩ : St))) := by
  unfold impl_arcsOf_n9
  exact Link.cast (by kernel_rfl) (by kernel_rfl) (link_group (c := (Code.fst (Code.snd (bodyOf Try.f34)))) (a := (Ann.fst (Ann.snd impl_arcsOf_an))) [(Code.fst (bodyOf Try.f34))] [(Ann.fst impl_arcsOf_an)] rfl (link_seq (b := (Code.snd (Code.snd (bodyOf Try.f34)))) (y := (Ann.snd (Ann.snd impl_arcsOf_an))) (impl_arcsOf_n1_l x1458) (fun (t : (List (Int × Int × Unit))) => (impl_arcsOf_n8_l x1458 t))))

theorem impl_arcsOf_e (x1458 : List Int) {r : AV} {H' : Heap} (h : (Ans.mk _ (impl_arcsOf x1458) (fun (t : (List (Int × Int × Unit))) => (.slc 0, [some (.seq (.pair (.int .i64) (.pair (.int .i64) .unit)) t)]))).run = some (r, H')) : Awp impl_arcsOf_ctx LL (bodyOf Try.f34) impl_arcsOf_an (⟨mkE 32 0 [(0, .dat (.list (.int .i64)) x1458)], []⟩ : St) (Ret (tlook tys) Try.f34.results.toList r H') :=
  ret_of' (impl_arcsOf_n9_l x1458) (by unfold impl_arcsOf; kernel_rfl) (by
  intro t
  exact ret_mk [.slc 0] (by kernel_rfl) (by kernel_rfl) (by kernel_rfl) (by kernel_rfl)) h

def F_impl_arcsOf : Fun := fun avs H =>
  match avs, H with
  | [.dat (.list (.int .i64)) x1458], [] => ⟨_, impl_arcsOf x1458, fun (t : (List (Int × Int × Unit))) => (.slc 0, [some (.seq (.pair (.int .i64) (.pair (.int .i64) .unit)) t)])⟩
  | _, _ => Ans.no

theorem impl_arcsOf_sound : Sound Try.prog 34 F_impl_arcsOf := by
  refine fn_sound' (C := impl_arcsOf_ctx) (c := bodyOf Try.f34) (cok_of tys_ok (List.forall_mem_cons.2 ⟨impl_arcBetween_sound, by simp⟩) (List.forall_mem_cons.2 ⟨Try.call30, by simp⟩) (by kernel_rfl)) Try.func34 (by kernel_rfl) LL impl_arcsOf_an ?_
  intro avs H r H' h
  unfold F_impl_arcsOf at h
  split at h
  · refine Awp.cast ?_ ?_ ?_ (impl_arcsOf_e _ h) <;> kernel_rfl
  · simp [Ans.no, Ans.run] at h

/-! loop.example/headtrees/impl.CoveredOk -/

def impl_CoveredOk_an : Ann := (.seq (.leaf [0, 1]) (.seq (.seq (.leaf [0, 1, 10]) (.cond (.seq (.leaf [4]) (.leaf [4])) (.leaf [0, 1]))) (.seq (.seq (.leaf [1, 12, 13, 14]) (.block (.loop (.seq (.leaf [1, 12, 13, 14, 15]) (.seq (.cond (.leaf [1, 12, 13, 14]) (.leaf [])) (.seq (.block (.seq (.leaf [1, 6, 12, 13, 14]) (.seq (.leaf [1, 12, 13, 14, 20]) (.cond (.seq (.leaf [4]) (.leaf [4])) (.leaf [1, 12, 13, 14]))))) (.leaf [1, 12, 13, 14]))))))) (.seq (.leaf [4]) (.leaf [4])))))

noncomputable def impl_CoveredOk_ctx : Ctx := ⟨tlook tys, olook [(33, F_impl_wordOk), (34, F_impl_arcsOf), (35, F_impl_arc_covers)], ioF, 0⟩

theorem impl_CoveredOk_n1_l (x1304 : List Int) (x1305 : Int) : Link impl_CoveredOk_ctx LL (Code.seq (Code.fst (bodyOf Try.f14)) (Code.fst (Code.snd (bodyOf Try.f14)))) (Ann.seq (Ann.fst impl_CoveredOk_an) (Ann.fst (Ann.snd impl_CoveredOk_an))) (⟨mkE 22 0 [(0, .dat (.list (.int .i64)) x1304), (1, .dat (.int .i64) x1305)], []⟩ : St) (impl_CoveredOk_n1 x1304 x1305) (Sum.elim (fun (t : Unit) => (Exit.normal, (⟨mkE 22 0 [(0, .dat (.list (.int .i64)) x1304), (1, .dat (.int .i64) x1305)], []⟩ : St))) (fun (t : Bool) => (Exit.ret, (⟨mkE 22 0 [(4, .dat .bool t)], []⟩ : St)))) := by
  refine Link.of fun K h => ?_
  simp only [impl_CoveredOk_n1, wpO_bind, wpO_cond, wpO_map, wpO_some] at h
  exact Awp.of (by kernel_rfl) h

theorem impl_CoveredOk_n2_l (x1304 : List Int) (x1305 : Int) : Link impl_CoveredOk_ctx LL (Code.fst (Code.fst (Code.snd (Code.snd (bodyOf Try.f14))))) (Ann.fst (Ann.fst (Ann.snd (Ann.snd impl_CoveredOk_an)))) (⟨mkE 22 0 [(0, .dat (.list (.int .i64)) x1304), (1, .dat (.int .i64) x1305)], []⟩ : St) (impl_CoveredOk_n2 x1304) (fun (t : Int × (List (Int × Int × Unit))) => (Exit.normal, (⟨mkE 22 0 [(1, .dat (.int .i64) x1305), (12, .slc 0), (13, .dat (.int .i64) t.1), (14, .dat (.int .i64) 0)], [some (.seq (.pair (.int .i64) (.pair (.int .i64) .unit)) t.2)]⟩ : St))) := by
  refine Link.of fun K h => ?_
  simp only [impl_CoveredOk_n2, wpO_bind, wpO_cond, wpO_map, wpO_some] at h
  exact Awp.of (by kernel_rfl) h

theorem impl_CoveredOk_n3_l (x1305 : Int) (x1532 : Int) (x1552 : Int) (x1531 : List (Int × Int × Unit)) : Link impl_CoveredOk_ctx LL (Code.fst (Code.fst (Code.snd (Code.fst (Code.snd (Code.snd (bodyOf Try.f14))))))) (Ann.fst (Ann.fst (Ann.snd (Ann.fst (Ann.snd (Ann.snd impl_CoveredOk_an)))))) (⟨mkE 22 0 [(1, .dat (.int .i64) x1305), (12, .slc 0), (13, .dat (.int .i64) x1532), (14, .dat (.int .i64) x1552)], [some (.seq (.pair (.int .i64) (.pair (.int .i64) .unit)) x1531)]⟩ : St) (impl_CoveredOk_n3 x1305 x1532 x1552 x1531) (Sum.elim (fun (t : Int) => (Exit.normal, (⟨mkE 22 0 [(1, .dat (.int .i64) x1305), (12, .slc 0), (13, .dat (.int .i64) x1532), (14, .dat (.int .i64) t)], [some (.seq (.pair (.int .i64) (.pair (.int .i64) .unit)) x1531)]⟩ : St))) (Sum.elim (fun (t : Bool) => (Exit.ret, (⟨mkE 22 0 [(4, .dat .bool t)], []⟩ : St))) (fun (t : Unit) => ((Exit.exit 0), (⟨mkE 22 0 [], []⟩ : St))))) := by
  refine Link.of fun K h => ?_
  simp only [impl_CoveredOk_n3, wpO_bind, wpO_cond, wpO_map, wpO_some] at h
  exact Awp.of (by kernel_rfl) h

theorem impl_CoveredOk_n4_l (x1305 : Int) (x1532 : Int) (x1531 : List (Int × Int × Unit)) : Link impl_CoveredOk_ctx LL (Code.fst (Code.snd (Code.fst (Code.snd (Code.snd (bodyOf Try.f14)))))) (Ann.fst (Ann.snd (Ann.fst (Ann.snd (Ann.snd impl_CoveredOk_an))))) (⟨mkE 22 0 [(1, .dat (.int .i64) x1305), (12, .slc 0), (13, .dat (.int .i64) x1532), (14, .dat (.int .i64) 0)], [some (.seq (.pair (.int .i64) (.pair (.int .i64) .unit)) x1531)]⟩ : St) (impl_CoveredOk_n4 x1305 x1532 x1531) (Sum.elim (fun (t : Bool) => (Exit.ret, (⟨mkE 22 0 [(4, .dat .bool t)], []⟩ : St))) (fun (t : Unit) => ((Exit.exit 0), (⟨mkE 22 0 [], []⟩ : St)))) := by
  unfold impl_CoveredOk_n4
  exact Link.cast (by kernel_rfl) (by kernel_rfl) (link_loop (mk := fun (s : Int) => (⟨mkE 22 0 [(1, .dat (.int .i64) x1305), (12, .slc 0), (13, .dat (.int .i64) x1532), (14, .dat (.int .i64) s)], [some (.seq (.pair (.int .i64) (.pair (.int .i64) .unit)) x1531)]⟩ : St)) (fin := (Sum.elim (fun (t : Bool) => (Exit.ret, (⟨mkE 22 0 [(4, .dat .bool t)], []⟩ : St))) (fun (t : Unit) => ((Exit.exit 0), (⟨mkE 22 0 [], []⟩ : St))))) (by
  rintro (t | t) f K h
  · exact h
  · exact h) (fun s => link_map (impl_CoveredOk_n3_l x1305 x1532 s x1531) (Sum.elim (fun (t : Int) => Sum.inl t) (Sum.elim (fun (t : Bool) => Sum.inr (Sum.inl t)) (fun (t : Unit) => Sum.inr (Sum.inr t)))) (by
  rintro (t | t | t)
  · kernel_rfl
  · kernel_rfl
  · kernel_rfl)) 0)

theorem impl_CoveredOk_n5_l (x1305 : Int) (x1532 : Int) (x1531 : List (Int × Int × Unit)) : Link impl_CoveredOk_ctx LL (Code.snd (Code.fst (Code.snd (Code.snd (bodyOf Try.f14))))) (Ann.snd (Ann.fst (Ann.snd (Ann.snd impl_CoveredOk_an)))) (⟨mkE 22 0 [(1, .dat (.int .i64) x1305), (12, .slc 0), (13, .dat (.int .i64) x1532), (14, .dat (.int .i64) 0)], [some (.seq (.pair (.int .i64) (.pair (.int .i64) .unit)) x1531)]⟩ : St) (impl_CoveredOk_n5 x1305 x1532 x1531) (Sum.elim (fun (t : Unit) => (Exit.normal, (⟨mkE 22 0 [], []⟩ : St))) (fun (t : Bool) => (Exit.ret, (⟨mkE 22 0 [(4, .dat .bool t)], []⟩ : St)))) := by
  unfold impl_CoveredOk_n5
  exact Link.cast (by kernel_rfl) (by kernel_rfl) (link_block (id := 0) (impl_CoveredOk_n4_l x1305 x1532 x1531) (Sum.elim (fun (t : Bool) => (Sum.inr t)) (fun (t : Unit) => (Sum.inl ()))) (by
  rintro (t | t) K h
  · exact Eq.mp (by kernel_rfl) h
  · exact Eq.mp (by kernel_rfl) h))

theorem impl_CoveredOk_n6_l (x1304 : List Int) (x1305 : Int) : Link impl_CoveredOk_ctx LL (Code.fst (Code.snd (Code.snd (bodyOf Try.f14)))) (Ann.fst (Ann.snd (Ann.snd impl_CoveredOk_an))) (⟨mkE 22 0 [(0, .dat (.list (.int .i64)) x1304), (1, .dat (.int .i64) x1305)], []⟩ : St) (impl_CoveredOk_n6 x1304 x1305) (Sum.elim (fun (t : Unit) => (Exit.normal, (⟨mkE 22 0 [], []⟩ : St))) (fun (t : Bool) => (Exit.ret, (⟨mkE 22 0 [(4, .dat .bool t)], []⟩ : St)))) := by
  unfold impl_CoveredOk_n6
  exact Link.cast (by kernel_rfl) (by kernel_rfl) (link_seq (b := (Code.snd (Code.fst (Code.snd (Code.snd (bodyOf Try.f14)))))) (y := (Ann.snd (Ann.fst (Ann.snd (Ann.snd impl_CoveredOk_an))))) (impl_CoveredOk_n2_l x1304 x1305) (fun (t : Int × (List (Int × Int × Unit))) => (impl_CoveredOk_n5_l x1305 t.1 t.2)))

theorem impl_CoveredOk_n7_l : Link impl_CoveredOk_ctx LL (Code.snd (Code.snd (Code.snd (bodyOf Try.f14)))) (Ann.snd (Ann.snd (Ann.snd impl_CoveredOk_an))) (⟨mkE 22 0 [], []⟩ : St) (impl_CoveredOk_n7) (fun (t : Bool) => (Exit.ret, (⟨mkE 22 0 [(4, .dat .bool t)], []⟩ : St))) := by
  refine Link.of fun K h => ?_
  simp only [impl_CoveredOk_n7, wpO_bind, wpO_cond, wpO_map, wpO_some] at h
  exact Awp.of (by kernel_rfl) h

theorem impl_CoveredOk_n8_l (x1304 : List Int) (x1305 : Int) : Link impl_CoveredOk_ctx LL (Code.snd (Code.snd (bodyOf Try.f14))) (Ann.snd (Ann.snd impl_CoveredOk_an)) (⟨mkE 22 0 [(0, .dat (.list (.int .i64)) x1304), (1, .dat (.int .i64) x1305)], []⟩ : St) (impl_CoveredOk_n8 x1304 x1305) (fun (t : Bool) => (Exit.ret, (⟨mkE 22 0 [(4, .dat .bool t)], []⟩ : St))) := by
  unfold impl_CoveredOk_n8
  exact Link.cast (by kernel_rfl) (by kernel_rfl) (link_seq2 (b := (Code.snd (Code.snd (Code.snd (bodyOf Try.f14))))) (y := (Ann.snd (Ann.snd (Ann.snd impl_CoveredOk_an)))) (impl_CoveredOk_n6_l x1304 x1305) (fun (t : Unit) => (impl_CoveredOk_n7_l)) (fun (t : Bool) => t) (by
  rintro t
  · kernel_rfl) (by
  rintro t f K h
  · exact h))

theorem impl_CoveredOk_n9_l (x1304 : List Int) (x1305 : Int) : Link impl_CoveredOk_ctx LL (bodyOf Try.f14) impl_CoveredOk_an (⟨mkE 22 0 [(0, .dat (.list (.int .i64)) x1304), (1, .dat (.int .i64) x1305)], []⟩ : St) (impl_CoveredOk_n9 x1304 x1305) (fun (t : Bool) => (Exit.ret, (⟨mkE 22 0 [(4, .dat .bool t)], []⟩ : St))) := by
  unfold impl_CoveredOk_n9
  exact Link.cast (by kernel_rfl) (by kernel_rfl) (link_group (c := (Code.fst (Code.snd (bodyOf Try.f14)))) (a := (Ann.fst (Ann.snd impl_CoveredOk_an))) [(Code.fst (bodyOf Try.f14))] [(Ann.fst impl_CoveredOk_an)] rfl (link_seq2 (b := (Code.snd (Code.snd (bodyOf Try.f14)))) (y := (Ann.snd (Ann.snd impl_CoveredOk_an))) (impl_CoveredOk_n1_l x1304 x1305) (fun (t : Unit) => (impl_CoveredOk_n8_l x1304 x1305)) (fun (t : Bool) => t) (by
  rintro t
  · kernel_rfl) (by
  rintro t f K h
  · exact h)))

theorem impl_CoveredOk_e (x1304 : List Int) (x1305 : Int) {r : AV} {H' : Heap} (h : (Ans.mk _ (impl_CoveredOk x1304 x1305) (fun (t : Bool) => (.dat .bool t, []))).run = some (r, H')) : Awp impl_CoveredOk_ctx LL (bodyOf Try.f14) impl_CoveredOk_an (⟨mkE 22 0 [(0, .dat (.list (.int .i64)) x1304), (1, .dat (.int .i64) x1305)], []⟩ : St) (Ret (tlook tys) Try.f14.results.toList r H') :=
  ret_of' (impl_CoveredOk_n9_l x1304 x1305) (by unfold impl_CoveredOk; kernel_rfl) (by
  intro t
  exact ret_mk [.dat .bool t] (by kernel_rfl) (by kernel_rfl) (by kernel_rfl) (by kernel_rfl)) h

def F_impl_CoveredOk : Fun := fun avs H =>
  match avs, H with
  | [.dat (.list (.int .i64)) x1304, .dat (.int .i64) x1305], [] => ⟨_, impl_CoveredOk x1304 x1305, fun (t : Bool) => (.dat .bool t, [])⟩
  | _, _ => Ans.no

theorem impl_CoveredOk_sound : Sound Try.prog 14 F_impl_CoveredOk := by
  refine fn_sound' (C := impl_CoveredOk_ctx) (c := bodyOf Try.f14) (cok_of tys_ok (List.forall_mem_cons.2 ⟨impl_wordOk_sound, List.forall_mem_cons.2 ⟨impl_arcsOf_sound, List.forall_mem_cons.2 ⟨impl_arc_covers_sound, by simp⟩⟩⟩) (List.forall_mem_cons.2 ⟨Try.call33, List.forall_mem_cons.2 ⟨Try.call34, List.forall_mem_cons.2 ⟨Try.call35, by simp⟩⟩⟩) (by kernel_rfl)) Try.func14 (by kernel_rfl) LL impl_CoveredOk_an ?_
  intro avs H r H' h
  unfold F_impl_CoveredOk at h
  split at h
  · refine Awp.cast ?_ ?_ ?_ (impl_CoveredOk_e _ _ h) <;> kernel_rfl
  · simp [Ans.no, Ans.run] at h

/-! loop.example/headtrees/spec.l3Arcs -/

def spec_l3Arcs_an : Ann := (.seq (.leaf [0]) (.seq (.leaf [0, 3]) (.seq (.seq (.leaf [0, 3, 4]) (.block (.loop (.seq (.seq (.leaf [0, 3, 4, 9]) (.cond (.leaf [0, 3, 4]) (.leaf [3]))) (.seq (.block (.seq (.leaf [0, 3, 4, 16]) (.cond (.draw [15] [0, 1, 2, 3, 4, 5, 6, 7, 8, 9, 10, 11, 12, 13, 14, 15, 16, 17, 18] [] [0, 3, 4]) (.leaf [0, 3, 4])))) (.leaf [0, 3, 4])))))) (.seq (.leaf [2]) (.leaf [2])))))

noncomputable def spec_l3Arcs_ctx : Ctx := ⟨tlook tys, olook [], ioF, 0⟩

theorem spec_l3Arcs_n1_l (x1582 : List Int) : Link spec_l3Arcs_ctx LL (Code.seq (Code.fst (bodyOf Try.f36)) (Code.fst (Code.snd (bodyOf Try.f36)))) (Ann.seq (Ann.fst spec_l3Arcs_an) (Ann.fst (Ann.snd spec_l3Arcs_an))) (⟨mkE 36 0 [(0, .dat (.list (.int .i64)) x1582)], []⟩ : St) (spec_l3Arcs_n1) (fun (t : Unit) => (Exit.normal, (⟨mkE 36 0 [(0, .dat (.list (.int .i64)) x1582), (3, .slc 0)], [some (.seq (.list (.int .i64)) ([] : List (List Int)))]⟩ : St))) := by
  refine Link.of fun K h => ?_
  simp only [spec_l3Arcs_n1, wpO_bind, wpO_cond, wpO_map, wpO_some] at h
  exact Awp.of (by kernel_rfl) h

theorem spec_l3Arcs_n2_l (x1582 : List Int) : Link spec_l3Arcs_ctx LL (Code.fst (Code.fst (Code.snd (Code.snd (bodyOf Try.f36))))) (Ann.fst (Ann.fst (Ann.snd (Ann.snd spec_l3Arcs_an)))) (⟨mkE 36 0 [(0, .dat (.list (.int .i64)) x1582), (3, .slc 0)], [some (.seq (.list (.int .i64)) ([] : List (List Int)))]⟩ : St) (spec_l3Arcs_n2) (fun (t : Unit) => (Exit.normal, (⟨mkE 36 0 [(0, .dat (.list (.int .i64)) x1582), (3, .slc 0), (4, .dat (.int .i64) 0)], [some (.seq (.list (.int .i64)) ([] : List (List Int)))]⟩ : St))) := by
  refine Link.of fun K h => ?_
  simp only [spec_l3Arcs_n2, wpO_bind, wpO_cond, wpO_map, wpO_some] at h
  exact Awp.of (by kernel_rfl) h

theorem spec_l3Arcs_n3_l (x1582 : List Int) (x1633 : Int) (x1634 : List (List Int)) : Link spec_l3Arcs_ctx LL (Code.fst (Code.fst (Code.snd (Code.fst (Code.snd (Code.snd (bodyOf Try.f36))))))) (Ann.fst (Ann.fst (Ann.snd (Ann.fst (Ann.snd (Ann.snd spec_l3Arcs_an)))))) (⟨mkE 36 0 [(0, .dat (.list (.int .i64)) x1582), (3, .slc 0), (4, .dat (.int .i64) x1633)], [some (.seq (.list (.int .i64)) x1634)]⟩ : St) (spec_l3Arcs_n3 x1582 x1633 x1634) (Sum.elim (fun (t : Int × (List (List Int))) => (Exit.normal, (⟨mkE 36 0 [(0, .dat (.list (.int .i64)) x1582), (3, .slc 0), (4, .dat (.int .i64) t.1)], [some (.seq (.list (.int .i64)) t.2)]⟩ : St))) (fun (t : (List (List Int))) => ((Exit.exit 0), (⟨mkE 36 0 [(3, .slc 0)], [some (.seq (.list (.int .i64)) t)]⟩ : St)))) := by
  refine Link.of fun K h => ?_
  simp only [spec_l3Arcs_n3, wpO_bind, wpO_cond, wpO_map, wpO_some] at h
  exact Awp.of (by kernel_rfl) h

theorem spec_l3Arcs_n4_l (x1582 : List Int) : Link spec_l3Arcs_ctx LL (Code.fst (Code.snd (Code.fst (Code.snd (Code.snd (bodyOf Try.f36)))))) (Ann.fst (Ann.snd (Ann.fst (Ann.snd (Ann.snd spec_l3Arcs_an))))) (⟨mkE 36 0 [(0, .dat (.list (.int .i64)) x1582), (3, .slc 0), (4, .dat (.int .i64) 0)], [some (.seq (.list (.int .i64)) ([] : List (List Int)))]⟩ : St) (spec_l3Arcs_n4 x1582) (fun (t : (List (List Int))) => ((Exit.exit 0), (⟨mkE 36 0 [(3, .slc 0)], [some (.seq (.list (.int .i64)) t)]⟩ : St))) := by
  unfold spec_l3Arcs_n4
  exact Link.cast (by kernel_rfl) (by kernel_rfl) (link_loop (mk := fun (s : Int × (List (List Int))) => (⟨mkE 36 0 [(0, .dat (.list (.int .i64)) x1582), (3, .slc 0), (4, .dat (.int .i64) s.1)], [some (.seq (.list (.int .i64)) s.2)]⟩ : St)) (fin := (fun (t : (List (List Int))) => ((Exit.exit 0), (⟨mkE 36 0 [(3, .slc 0)], [some (.seq (.list (.int .i64)) t)]⟩ : St)))) (by
  rintro t f K h
  · exact h) (fun s => link_map (spec_l3Arcs_n3_l x1582 s.1 s.2) (Sum.elim (fun (t : Int × (List (List Int))) => Sum.inl (t.1, t.2)) (fun (t : (List (List Int))) => Sum.inr t)) (by
  rintro (t | t)
  · kernel_rfl
  · kernel_rfl)) (0, ([] : List (List Int))))

theorem spec_l3Arcs_n5_l (x1582 : List Int) : Link spec_l3Arcs_ctx LL (Code.snd (Code.fst (Code.snd (Code.snd (bodyOf Try.f36))))) (Ann.snd (Ann.fst (Ann.snd (Ann.snd spec_l3Arcs_an)))) (⟨mkE 36 0 [(0, .dat (.list (.int .i64)) x1582), (3, .slc 0), (4, .dat (.int .i64) 0)], [some (.seq (.list (.int .i64)) ([] : List (List Int)))]⟩ : St) (spec_l3Arcs_n5 x1582) (fun (t : (List (List Int))) => (Exit.normal, (⟨mkE 36 0 [(3, .slc 0)], [some (.seq (.list (.int .i64)) t)]⟩ : St))) := by
  unfold spec_l3Arcs_n5
  exact Link.cast (by kernel_rfl) (by kernel_rfl) (link_block (id := 0) (spec_l3Arcs_n4_l x1582) (fun (t : (List (List Int))) => t) (by
  rintro t K h
  · exact Eq.mp (by kernel_rfl) h))

theorem spec_l3Arcs_n6_l (x1582 : List Int) : Link spec_l3Arcs_ctx LL (Code.fst (Code.snd (Code.snd (bodyOf Try.f36)))) (Ann.fst (Ann.snd (Ann.snd spec_l3Arcs_an))) (⟨mkE 36 0 [(0, .dat (.list (.int .i64)) x1582), (3, .slc 0)], [some (.seq (.list (.int .i64)) ([] : List (List Int)))]⟩ : St) (spec_l3Arcs_n6 x1582) (fun (t : (List (List Int))) => (Exit.normal, (⟨mkE 36 0 [(3, .slc 0)], [some (.seq (.list (.int .i64)) t)]⟩ : St))) := by
  unfold spec_l3Arcs_n6
  exact Link.cast (by kernel_rfl) (by kernel_rfl) (link_seq (b := (Code.snd (Code.fst (Code.snd (Code.snd (bodyOf Try.f36)))))) (y := (Ann.snd (Ann.fst (Ann.snd (Ann.snd spec_l3Arcs_an))))) (spec_l3Arcs_n2_l x1582) (fun (t : Unit) => (spec_l3Arcs_n5_l x1582)))

theorem spec_l3Arcs_n7_l (x1634 : List (List Int)) : Link spec_l3Arcs_ctx LL (Code.snd (Code.snd (Code.snd (bodyOf Try.f36)))) (Ann.snd (Ann.snd (Ann.snd spec_l3Arcs_an))) (⟨mkE 36 0 [(3, .slc 0)], [some (.seq (.list (.int .i64)) x1634)]⟩ : St) (spec_l3Arcs_n7 x1634) (fun (t : (List (List Int))) => (Exit.ret, (⟨mkE 36 0 [(2, .slc 0)], [some (.seq (.list (.int .i64)) t)]⟩ : St))) := by
  refine Link.of fun K h => ?_
  simp only [spec_l3Arcs_n7, wpO_bind, wpO_cond, wpO_map, wpO_some] at h
  exact Awp.of (by kernel_rfl) h

theorem spec_l3Arcs_n8_l (x1582 : List Int) : Link spec_l3Arcs_ctx LL (Code.snd (Code.snd (bodyOf Try.f36))) (Ann.snd (Ann.snd spec_l3Arcs_an)) (⟨mkE 36 0 [(0, .dat (.list (.int .i64)) x1582), (3, .slc 0)], [some (.seq (.list (.int .i64)) ([] : List (List Int)))]⟩ : St) (spec_l3Arcs_n8 x1582) (fun (t : (List (List Int))) => (Exit.ret, (⟨mkE 36 0 [(2, .slc 0)], [some (.seq (.list (.int .i64)) t)]⟩ : St))) := by
  unfold spec_l3Arcs_n8
  exact Link.cast (by kernel_rfl) (by kernel_rfl) (link_seq (b := (Code.snd (Code.snd (Code.snd (bodyOf Try.f36))))) (y := (Ann.snd (Ann.snd (Ann.snd spec_l3Arcs_an)))) (spec_l3Arcs_n6_l x1582) (fun (t : (List (List Int))) => (spec_l3Arcs_n7_l t)))

theorem spec_l3Arcs_n9_l (x1582 : List Int) : Link spec_l3Arcs_ctx LL (bodyOf Try.f36) spec_l3Arcs_an (⟨mkE 36 0 [(0, .dat (.list (.int .i64)) x1582)], []⟩ : St) (spec_l3Arcs_n9 x1582) (fun (t : (List (List Int))) => (Exit.ret, (⟨mkE 36 0 [(2, .slc 0)], [some (.seq (.list (.int .i64)) t)]⟩ : St))) := by
  unfold spec_l3Arcs_n9
  exact Link.cast (by kernel_rfl) (by kernel_rfl) (link_group (c := (Code.fst (Code.snd (bodyOf Try.f36)))) (a := (Ann.fst (Ann.snd spec_l3Arcs_an))) [(Code.fst (bodyOf Try.f36))] [(Ann.fst spec_l3Arcs_an)] rfl (link_seq (b := (Code.snd (Code.snd (bodyOf Try.f36)))) (y := (Ann.snd (Ann.snd spec_l3Arcs_an))) (spec_l3Arcs_n1_l x1582) (fun (t : Unit) => (spec_l3Arcs_n8_l x1582))))

theorem spec_l3Arcs_e (x1582 : List Int) {r : AV} {H' : Heap} (h : (Ans.mk _ (spec_l3Arcs x1582) (fun (t : (List (List Int))) => (.slc 0, [some (.seq (.list (.int .i64)) t)]))).run = some (r, H')) : Awp spec_l3Arcs_ctx LL (bodyOf Try.f36) spec_l3Arcs_an (⟨mkE 36 0 [(0, .dat (.list (.int .i64)) x1582)], []⟩ : St) (Ret (tlook tys) Try.f36.results.toList r H') :=
  ret_of' (spec_l3Arcs_n9_l x1582) (by unfold spec_l3Arcs; kernel_rfl) (by
  intro t
  exact ret_mk [.slc 0] (by kernel_rfl) (by kernel_rfl) (by kernel_rfl) (by kernel_rfl)) h

def F_spec_l3Arcs : Fun := fun avs H =>
  match avs, H with
  | [.dat (.list (.int .i64)) x1582], [] => ⟨_, spec_l3Arcs x1582, fun (t : (List (List Int))) => (.slc 0, [some (.seq (.list (.int .i64)) t)])⟩
  | _, _ => Ans.no

theorem spec_l3Arcs_sound : Sound Try.prog 36 F_spec_l3Arcs := by
  refine fn_sound' (C := spec_l3Arcs_ctx) (c := bodyOf Try.f36) (cok_of tys_ok (by simp) (by simp) (by kernel_rfl)) Try.func36 (by kernel_rfl) LL spec_l3Arcs_an ?_
  intro avs H r H' h
  unfold F_spec_l3Arcs at h
  split at h
  · refine Awp.cast ?_ ?_ ?_ (spec_l3Arcs_e _ h) <;> kernel_rfl
  · simp [Ans.no, Ans.run] at h

/-! loop.example/headtrees/spec.l1In -/

def spec_l1In_an : Ann := (.seq (.leaf [0, 1, 2]) (.seq (.leaf [6]) (.leaf [6])))

noncomputable def spec_l1In_ctx : Ctx := ⟨tlook tys, olook [], ioF, 0⟩

theorem spec_l1In_n1_l (x1677 : Int) (x1678 : Int) (x1679 : Int) : Link spec_l1In_ctx LL (bodyOf Try.f37) spec_l1In_an (⟨mkE 15 0 [(0, .dat (.int .i64) x1677), (1, .dat (.int .i64) x1678), (2, .dat (.int .i64) x1679)], []⟩ : St) (spec_l1In_n1 x1677 x1678 x1679) (fun (t : Bool) => (Exit.ret, (⟨mkE 15 0 [(6, .dat .bool t)], []⟩ : St))) := by
  refine Link.of fun K h => ?_
  simp only [spec_l1In_n1, wpO_bind, wpO_cond, wpO_map, wpO_some] at h
  exact Awp.of (by kernel_rfl) h

theorem spec_l1In_e (x1677 : Int) (x1678 : Int) (x1679 : Int) {r : AV} {H' : Heap} (h : (Ans.mk _ (spec_l1In x1677 x1678 x1679) (fun (t : Bool) => (.dat .bool t, []))).run = some (r, H')) : Awp spec_l1In_ctx LL (bodyOf Try.f37) spec_l1In_an (⟨mkE 15 0 [(0, .dat (.int .i64) x1677), (1, .dat (.int .i64) x1678), (2, .dat (.int .i64) x1679)], []⟩ : St) (Ret (tlook tys) Try.f37.results.toList r H') :=
  ret_of' (spec_l1In_n1_l x1677 x1678 x1679) (by unfold spec_l1In; kernel_rfl) (by
  intro t
  exact ret_mk [.dat .bool t] (by kernel_rfl) (by kernel_rfl) (by kernel_rfl) (by kernel_rfl)) h

def F_spec_l1In : Fun := fun avs H =>
  match avs, H with
  | [.dat (.int .i64) x1677, .dat (.int .i64) x1678, .dat (.int .i64) x1679], [] => ⟨_, spec_l1In x1677 x1678 x1679, fun (t : Bool) => (.dat .bool t, [])⟩
  | _, _ => Ans.no

theorem spec_l1In_sound : Sound Try.prog 37 F_spec_l1In := by
  refine fn_sound' (C := spec_l1In_ctx) (c := bodyOf Try.f37) (cok_of tys_ok (by simp) (by simp) (by kernel_rfl)) Try.func37 (by kernel_rfl) LL spec_l1In_an ?_
  intro avs H r H' h
  unfold F_spec_l1In at h
  split at h
  · refine Awp.cast ?_ ?_ ?_ (spec_l1In_e _ _ _ h) <;> kernel_rfl
  · simp [Ans.no, Ans.run] at h

/-! loop.example/headtrees/spec.TreeOk -/

def spec_TreeOk_an : Ann := (.seq (.leaf [0]) (.seq (.leaf [0, 3]) (.seq (.seq (.leaf [0, 3, 12]) (.cond (.seq (.leaf [2]) (.leaf [2])) (.leaf [0, 3]))) (.seq (.leaf [0, 3, 4]) (.seq (.seq (.leaf [0, 3, 4, 5]) (.block (.loop (.seq (.seq (.leaf [0, 3, 4, 5, 15]) (.cond (.leaf [0, 3, 4, 5]) (.leaf [4]))) (.seq (.block (.seq (.seq (.leaf [0, 3, 4, 5, 33]) (.cond (.seq (.leaf [2]) (.leaf [2])) (.leaf [0, 3, 4, 5]))) (.seq (.seq (.leaf [0, 3, 4, 5, 38]) (.cond (.leaf [0, 3, 4, 5]) (.leaf [0, 3, 4, 5]))) (.seq (.leaf [0, 3, 4, 5, 6]) (.seq (.seq (.leaf [0, 3, 4, 5, 6, 7]) (.block (.loop (.seq (.seq (.leaf [0, 3, 4, 5, 6, 7, 49]) (.cond (.leaf [0, 3, 4, 5, 6, 7]) (.leaf [0, 3, 4, 5, 6]))) (.seq (.block (.seq (.leaf [0, 3, 4, 5, 6, 7]) (.seq (.leaf [0, 3, 4, 5, 6, 7, 60]) (.cond (.seq (.leaf [2]) (.leaf [2])) (.leaf [0, 3, 4, 5, 6, 7]))))) (.leaf [0, 3, 4, 5, 6, 7])))))) (.seq (.leaf [0, 3, 4, 5, 62]) (.cond (.seq (.leaf [2]) (.leaf [2])) (.leaf [0, 3, 4, 5])))))))) (.leaf [0, 3, 4, 5])))))) (.seq (.leaf [2]) (.leaf [2])))))))

noncomputable def spec_TreeOk_ctx : Ctx := ⟨tlook tys, olook [(37, F_spec_l1In)], ioF, 0⟩

theorem spec_TreeOk_n1_l (x1674 : List Int) : Link spec_TreeOk_ctx LL (Code.seq (Code.fst (bodyOf Try.f16)) (Code.seq (Code.fst (Code.snd (bodyOf Try.f16))) (Code.seq (Code.fst (Code.snd (Code.snd (bodyOf Try.f16)))) (Code.fst (Code.snd (Code.snd (Code.snd (bodyOf Try.f16)))))))) (Ann.seq (Ann.fst spec_TreeOk_an) (Ann.seq (Ann.fst (Ann.snd spec_TreeOk_an)) (Ann.seq (Ann.fst (Ann.snd (Ann.snd spec_TreeOk_an))) (Ann.fst (Ann.snd (Ann.snd (Ann.snd spec_TreeOk_an))))))) (⟨mkE 65 0 [(0, .dat (.list (.int .i64)) x1674)], []⟩ : St) (spec_TreeOk_n1 x1674) (Sum.elim (fun (t : Int) => (Exit.normal, (⟨mkE 65 0 [(0, .dat (.list (.int .i64)) x1674), (3, .dat (.int .i64) t), (4, .dat (.int .i64) 0)], []⟩ : St))) (fun (t : Bool) => (Exit.ret, (⟨mkE 65 0 [(2, .dat .bool t)], []⟩ : St)))) := by
  refine Link.of fun K h => ?_
  simp only [spec_TreeOk_n1, wpO_bind, wpO_cond, wpO_map, wpO_some] at h
  exact Awp.of (by kernel_rfl) h

theorem spec_TreeOk_n2_l (x1674 : List Int) (x1687 : Int) : Link spec_TreeOk_ctx LL (Code.fst (Code.fst (Code.snd (Code.snd (Code.snd (Code.snd (bodyOf Try.f16))))))) (Ann.fst (Ann.fst (Ann.snd (Ann.snd (Ann.snd (Ann.snd spec_TreeOk_an)))))) (⟨mkE 65 0 [(0, .dat (.list (.int .i64)) x1674), (3, .dat (.int .i64) x1687), (4, .dat (.int .i64) 0)], []⟩ : St) (spec_TreeOk_n2) (fun (t : Unit) => (Exit.normal, (⟨mkE 65 0 [(0, .dat (.list (.int .i64)) x1674), (3, .dat (.int .i64) x1687), (4, .dat (.int .i64) 0), (5, .dat (.int .i64) 0)], []⟩ : St))) := by
  refine Link.of fun K h => ?_
  simp only [spec_TreeOk_n2, wpO_bind, wpO_cond, wpO_map, wpO_some] at h
  exact Awp.of (by kernel_rfl) h

theorem spec_TreeOk_n3_l (x1674 : List Int) (x1687 : Int) (x1754 : Int) (x1755 : Int) : Link spec_TreeOk_ctx LL (Code.fst (Code.fst (Code.fst (Code.snd (Code.fst (Code.snd (Code.snd (Code.snd (Code.snd (bodyOf Try.f16)))))))))) (Ann.fst (Ann.fst (Ann.fst (Ann.snd (Ann.fst (Ann.snd (Ann.snd (Ann.snd (Ann.snd spec_TreeOk_an))))))))) (⟨mkE 65 0 [(0, .dat (.list (.int .i64)) x1674), (3, .dat (.int .i64) x1687), (4, .dat (.int .i64) x1754), (5, .dat (.int .i64) x1755)], []⟩ : St) (spec_TreeOk_n3 x1687 x1754 x1755) (Sum.elim (fun (t : Unit) => (Exit.normal, (⟨mkE 65 0 [(0, .dat (.list (.int .i64)) x1674), (3, .dat (.int .i64) x1687), (4, .dat (.int .i64) x1754), (5, .dat (.int .i64) x1755)], []⟩ : St))) (fun (t : Int) => ((Exit.exit 0), (⟨mkE 65 0 [(4, .dat (.int .i64) t)], []⟩ : St)))) := by
  refine Link.of fun K h => ?_
  simp only [spec_TreeOk_n3, wpO_bind, wpO_cond, wpO_map, wpO_some] at h
  exact Awp.of (by kernel_rfl) h

theorem spec_TreeOk_n4_l (x1674 : List Int) (x1687 : Int) (x1754 : Int) (x1755 : Int) : Link spec_TreeOk_ctx LL (Code.seq (Code.fst (Code.fst (Code.fst (Code.snd (Code.fst (Code.fst (Code.snd (Code.fst (Code.snd (Code.snd (Code.snd (Code.snd (bodyOf Try.f16))))))))))))) (Code.seq (Code.fst (Code.snd (Code.fst (Code.fst (Code.snd (Code.fst (Code.fst (Code.snd (Code.fst (Code.snd (Code.snd (Code.snd (Code.snd (bodyOf Try.f16)))))))))))))) (Code.fst (Code.snd (Code.snd (Code.fst (Code.fst (Code.snd (Code.fst (Code.fst (Code.snd (Code.fst (Code.snd (Code.snd (Code.snd (Code.snd (bodyOf Try.f16))))))))))))))))) (Ann.seq (Ann.fst (Ann.fst (Ann.fst (Ann.snd (Ann.fst (Ann.fst (Ann.snd (Ann.fst (Ann.snd (Ann.snd (Ann.snd (Ann.snd spec_TreeOk_an)))))))))))) (Ann.seq (Ann.fst (Ann.snd (Ann.fst (Ann.fst (Ann.snd (Ann.fst (Ann.fst (Ann.snd (Ann.fst (Ann.snd (Ann.snd (Ann.snd (Ann.snd spec_TreeOk_an))))))))))))) (Ann.fst (Ann.snd (Ann.snd (Ann.fst (Ann.fst (Ann.snd (Ann.fst (Ann.fst (Ann.snd (Ann.fst (Ann.snd (Ann.snd (Ann.snd (Ann.snd spec_TreeOk_an)))))))))))))))) (⟨mkE 65 0 [(0, .dat (.list (.int .i64)) x1674), (3, .dat (.int .i64) x1687), (4, .dat (.int .i64) x1754), (5, .dat (.int .i64) x1755)], []⟩ : St) (spec_TreeOk_n4 x1674 x1687 x1754 x1755) (Sum.elim (fun (t : Int × Int) => (Exit.normal, (⟨mkE 65 0 [(0, .dat (.list (.int .i64)) x1674), (3, .dat (.int .i64) x1687), (4, .dat (.int .i64) t.1), (5, .dat (.int .i64) x1755), (6, .dat (.int .i64) t.2)], []⟩ : St))) (fun (t : Bool) => (Exit.ret, (⟨mkE 65 0 [(2, .dat .bool t)], []⟩ : St)))) := by
  refine Link.of fun K h => ?_
  simp only [spec_TreeOk_n4, wpO_bind, wpO_cond, wpO_map, wpO_some] at h
  exact Awp.of (by kernel_rfl) h

theorem spec_TreeOk_n5_l (x1674 : List Int) (x1687 : Int) (x1783 : Int) (x1755 : Int) (x1784 : Int) : Link spec_TreeOk_ctx LL (Code.fst (Code.fst (Code.snd (Code.snd (Code.snd (Code.fst (Code.fst (Code.snd (Code.fst (Code.fst (Code.snd (Code.fst (Code.snd (Code.snd (Code.snd (Code.snd (bodyOf Try.f16))))))))))))))))) (Ann.fst (Ann.fst (Ann.snd (Ann.snd (Ann.snd (Ann.fst (Ann.fst (Ann.snd (Ann.fst (Ann.fst (Ann.snd (Ann.fst (Ann.snd (Ann.snd (Ann.snd (Ann.snd spec_TreeOk_an)))))))))))))))) (⟨mkE 65 0 [(0, .dat (.list (.int .i64)) x1674), (3, .dat (.int .i64) x1687), (4, .dat (.int .i64) x1783), (5, .dat (.int .i64) x1755), (6, .dat (.int .i64) x1784)], []⟩ : St) (spec_TreeOk_n5) (fun (t : Unit) => (Exit.normal, (⟨mkE 65 0 [(0, .dat (.list (.int .i64)) x1674), (3, .dat (.int .i64) x1687), (4, .dat (.int .i64) x1783), (5, .dat (.int .i64) x1755), (6, .dat (.int .i64) x1784), (7, .dat (.int .i64) 0)], []⟩ : St))) := by
  refine Link.of fun K h => ?_
  simp only [spec_TreeOk_n5, wpO_bind, wpO_cond, wpO_map, wpO_some] at h
  exact Awp.of (by kernel_rfl) h

theorem spec_TreeOk_n6_l (x1674 : List Int) (x1687 : Int) (x1783 : Int) (x1755 : Int) (x1800 : Int) (x1801 : Int) : Link spec_TreeOk_ctx LL (Code.fst (Code.fst (Code.snd (Code.fst (Code.snd (Code.snd (Code.snd (Code.fst (Code.fst (Code.snd (Code.fst (Code.fst (Code.snd (Code.fst (Code.snd (Code.snd (Code.snd (Code.snd (bodyOf Try.f16))))))))))))))))))) (Ann.fst (Ann.fst (Ann.snd (Ann.fst (Ann.snd (Ann.snd (Ann.snd (Ann.fst (Ann.fst (Ann.snd (Ann.fst (Ann.fst (Ann.snd (Ann.fst (Ann.snd (Ann.snd (Ann.snd (Ann.snd spec_TreeOk_an)))))))))))))))))) (⟨mkE 65 0 [(0, .dat (.list (.int .i64)) x1674), (3, .dat (.int .i64) x1687), (4, .dat (.int .i64) x1783), (5, .dat (.int .i64) x1755), (6, .dat (.int .i64) x1800), (7, .dat (.int .i64) x1801)], []⟩ : St) (spec_TreeOk_n6 x1674 x1687 x1800 x1801) (Sum.elim (fun (t : Int × Int) => (Exit.normal, (⟨mkE 65 0 [(0, .dat (.list (.int .i64)) x1674), (3, .dat (.int .i64) x1687), (4, .dat (.int .i64) x1783), (5, .dat (.int .i64) x1755), (6, .dat (.int .i64) t.1), (7, .dat (.int .i64) t.2)], []⟩ : St))) (Sum.elim (fun (t : Bool) => (Exit.ret, (⟨mkE 65 0 [(2, .dat .bool t)], []⟩ : St))) (fun (t : Int) => ((Exit.exit 2), (⟨mkE 65 0 [(0, .dat (.list (.int .i64)) x1674), (3, .dat (.int .i64) x1687), (4, .dat (.int .i64) x1783), (5, .dat (.int .i64) x1755), (6, .dat (.int .i64) t)], []⟩ : St))))) := by
  refine Link.of fun K h => ?_
  simp only [spec_TreeOk_n6, wpO_bind, wpO_cond, wpO_map, wpO_some] at h
  exact Awp.of (by kernel_rfl) h

theorem spec_TreeOk_n7_l (x1674 : List Int) (x1687 : Int) (x1783 : Int) (x1755 : Int) (x1784 : Int) : Link spec_TreeOk_ctx LL (Code.fst (Code.snd (Code.fst (Code.snd (Code.snd (Code.snd (Code.fst (Code.fst (Code.snd (Code.fst (Code.fst (Code.snd (Code.fst (Code.snd (Code.snd (Code.snd (Code.snd (bodyOf Try.f16)))))))))))))))))) (Ann.fst (Ann.snd (Ann.fst (Ann.snd (Ann.snd (Ann.snd (Ann.fst (Ann.fst (Ann.snd (Ann.fst (Ann.fst (Ann.snd (Ann.fst (Ann.snd (Ann.snd (Ann.snd (Ann.snd spec_TreeOk_an))))))))))))))))) (⟨mkE 65 0 [(0, .dat (.list (.int .i64)) x1674), (3, .dat (.int .i64) x1687), (4, .dat (.int .i64) x1783), (5, .dat (.int .i64) x1755), (6, .dat (.int .i64) x1784), (7, .dat (.int .i64) 0)], []⟩ : St) (spec_TreeOk_n7 x1674 x1687 x1784) (Sum.elim (fun (t : Bool) => (Exit.ret, (⟨mkE 65 0 [(2, .dat .bool t)], []⟩ : St))) (fun (t : Int) => ((Exit.exit 2), (⟨mkE 65 0 [(0, .dat (.list (.int .i64)) x1674), (3, .dat (.int .i64) x1687), (4, .dat (.int .i64) x1783), (5, .dat (.int .i64) x1755), (6, .dat (.int .i64) t)], []⟩ : St)))) := by
  unfold spec_TreeOk_n7
  exact Link.cast (by kernel_rfl) (by kernel_rfl) (link_loop (mk := fun (s : Int × Int) => (⟨mkE 65 0 [(0, .dat (.list (.int .i64)) x1674), (3, .dat (.int .i64) x1687), (4, .dat (.int .i64) x1783), (5, .dat (.int .i64) x1755), (6, .dat (.int .i64) s.1), (7, .dat (.int .i64) s.2)], []⟩ : St)) (fin := (Sum.elim (fun (t : Bool) => (Exit.ret, (⟨mkE 65 0 [(2, .dat .bool t)], []⟩ : St))) (fun (t : Int) => ((Exit.exit 2), (⟨mkE 65 0 [(0, .dat (.list (.int .i64)) x1674), (3, .dat (.int .i64) x1687), (4, .dat (.int .i64) x1783), (5, .dat (.int .i64) x1755), (6, .dat (.int .i64) t)], []⟩ : St))))) (by
  rintro (t | t) f K h
  · exact h
  · exact h) (fun s => link_map (spec_TreeOk_n6_l x1674 x1687 x1783 x1755 s.1 s.2) (Sum.elim (fun (t : Int × Int) => Sum.inl (t.1, t.2)) (Sum.elim (fun (t : Bool) => Sum.inr (Sum.inl t)) (fun (t : Int) => Sum.inr (Sum.inr t)))) (by
  rintro (t | t | t)
  · kernel_rfl
  · kernel_rfl
  · kernel_rfl)) (x1784, 0))

theorem spec_TreeOk_n8_l (x1674 : List Int) (x1687 : Int) (x1783 : Int) (x1755 : Int) (x1784 : Int) : Link spec_TreeOk_ctx LL (Code.snd (Code.fst (Code.snd (Code.snd (Code.snd (Code.fst (Code.fst (Code.snd (Code.fst (Code.fst (Code.snd (Code.fst (Code.snd (Code.snd (Code.snd (Code.snd (bodyOf Try.f16))))))))))))))))) (Ann.snd (Ann.fst (Ann.snd (Ann.snd (Ann.snd (Ann.fst (Ann.fst (Ann.snd (Ann.fst (Ann.fst (Ann.snd (Ann.fst (Ann.snd (Ann.snd (Ann.snd (Ann.snd spec_TreeOk_an)))))))))))))))) (⟨mkE 65 0 [(0, .dat (.list (.int .i64)) x1674), (3, .dat (.int .i64) x1687), (4, .dat (.int .i64) x1783), (5, .dat (.int .i64) x1755), (6, .dat (.int .i64) x1784), (7, .dat (.int .i64) 0)], []⟩ : St) (spec_TreeOk_n8 x1674 x1687 x1784) (Sum.elim (fun (t : Int) => (Exit.normal, (⟨mkE 65 0 [(0, .dat (.list (.int .i64)) x1674), (3, .dat (.int .i64) x1687), (4, .dat (.int .i64) x1783), (5, .dat (.int .i64) x1755), (6, .dat (.int .i64) t)], []⟩ : St))) (fun (t : Bool) => (Exit.ret, (⟨mkE 65 0 [(2, .dat .bool t)], []⟩ : St)))) := by
  unfold spec_TreeOk_n8
  exact Link.cast (by kernel_rfl) (by kernel_rfl) (link_block (id := 2) (spec_TreeOk_n7_l x1674 x1687 x1783 x1755 x1784) (Sum.elim (fun (t : Bool) => (Sum.inr t)) (fun (t : Int) => (Sum.inl t))) (by
  rintro (t | t) K h
  · exact Eq.mp (by kernel_rfl) h
  · exact Eq.mp (by kernel_rfl) h))

theorem spec_TreeOk_n9_l (x1674 : List Int) (x1687 : Int) (x1783 : Int) (x1755 : Int) (x1784 : Int) : Link spec_TreeOk_ctx LL (Code.fst (Code.snd (Code.snd (Code.snd (Code.fst (Code.fst (Code.snd (Code.fst (Code.fst (Code.snd (Code.fst (Code.snd (Code.snd (Code.snd (Code.snd (bodyOf Try.f16)))))))))))))))) (Ann.fst (Ann.snd (Ann.snd (Ann.snd (Ann.fst (Ann.fst (Ann.snd (Ann.fst (Ann.fst (Ann.snd (Ann.fst (Ann.snd (Ann.snd (Ann.snd (Ann.snd spec_TreeOk_an))))))))))))))) (⟨mkE 65 0 [(0, .dat (.list (.int .i64)) x1674), (3, .dat (.int .i64) x1687), (4, .dat (.int .i64) x1783), (5, .dat (.int .i64) x1755), (6, .dat (.int .i64) x1784)], []⟩ : St) (spec_TreeOk_n9 x1674 x1687 x1784) (Sum.elim (fun (t : Int) => (Exit.normal, (⟨mkE 65 0 [(0, .dat (.list (.int .i64)) x1674), (3, .dat (.int .i64) x1687), (4, .dat (.int .i64) x1783), (5, .dat (.int .i64) x1755), (6, .dat (.int .i64) t)], []⟩ : St))) (fun (t : Bool) => (Exit.ret, (⟨mkE 65 0 [(2, .dat .bool t)], []⟩ : St)))) := by
  unfold spec_TreeOk_n9
  exact Link.cast (by kernel_rfl) (by kernel_rfl) (link_seq (b := (Code.snd (Code.fst (Code.snd (Code.snd (Code.snd (Code.fst (Code.fst (Code.snd (Code.fst (Code.fst (Code.snd (Code.fst (Code.snd (Code.snd (Code.snd (Code.snd (bodyOf Try.f16)))))))))))))))))) (y := (Ann.snd (Ann.fst (Ann.snd (Ann.snd (Ann.snd (Ann.fst (Ann.fst (Ann.snd (Ann.fst (Ann.fst (Ann.snd (Ann.fst (Ann.snd (Ann.snd (Ann.snd (Ann.snd spec_TreeOk_an))))))))))))))))) (spec_TreeOk_n5_l x1674 x1687 x1783 x1755 x1784) (fun (t : Unit) => (spec_TreeOk_n8_l x1674 x1687 x1783 x1755 x1784)))

theorem spec_TreeOk_n10_l (x1674 : List Int) (x1687 : Int) (x1783 : Int) (x1755 : Int) (x1800 : Int) : Link spec_TreeOk_ctx LL (Code.snd (Code.snd (Code.snd (Code.snd (Code.fst (Code.fst (Code.snd (Code.fst (Code.fst (Code.snd (Code.fst (Code.snd (Code.snd (Code.snd (Code.snd (bodyOf Try.f16)))))))))))))))) (Ann.snd (Ann.snd (Ann.snd (Ann.snd (Ann.fst (Ann.fst (Ann.snd (Ann.fst (Ann.fst (Ann.snd (Ann.fst (Ann.snd (Ann.snd (Ann.snd (Ann.snd spec_TreeOk_an))))))))))))))) (⟨mkE 65 0 [(0, .dat (.list (.int .i64)) x1674), (3, .dat (.int .i64) x1687), (4, .dat (.int .i64) x1783), (5, .dat (.int .i64) x1755), (6, .dat (.int .i64) x1800)], []⟩ : St) (spec_TreeOk_n10 x1800) (Sum.elim (fun (t : Unit) => (Exit.normal, (⟨mkE 65 0 [(0, .dat (.list (.int .i64)) x1674), (3, .dat (.int .i64) x1687), (4, .dat (.int .i64) x1783), (5, .dat (.int .i64) x1755)], []⟩ : St))) (fun (t : Bool) => (Exit.ret, (⟨mkE 65 0 [(2, .dat .bool t)], []⟩ : St)))) := by
  refine Link.of fun K h => ?_
  simp only [spec_TreeOk_n10, wpO_bind, wpO_cond, wpO_map, wpO_some] at h
  exact Awp.of (by kernel_rfl) h

theorem spec_TreeOk_n11_l (x1674 : List Int) (x1687 : Int) (x1783 : Int) (x1755 : Int) (x1784 : Int) : Link spec_TreeOk_ctx LL (Code.snd (Code.snd (Code.snd (Code.fst (Code.fst (Code.snd (Code.fst (Code.fst (Code.snd (Code.fst (Code.snd (Code.snd (Code.snd (Code.snd (bodyOf Try.f16))))))))))))))) (Ann.snd (Ann.snd (Ann.snd (Ann.fst (Ann.fst (Ann.snd (Ann.fst (Ann.fst (Ann.snd (Ann.fst (Ann.snd (Ann.snd (Ann.snd (Ann.snd spec_TreeOk_an)))))))))))))) (⟨mkE 65 0 [(0, .dat (.list (.int .i64)) x1674), (3, .dat (.int .i64) x1687), (4, .dat (.int .i64) x1783), (5, .dat (.int .i64) x1755), (6, .dat (.int .i64) x1784)], []⟩ : St) (spec_TreeOk_n11 x1674 x1687 x1784) (Sum.elim (fun (t : Unit) => (Exit.normal, (⟨mkE 65 0 [(0, .dat (.list (.int .i64)) x1674), (3, .dat (.int .i64) x1687), (4, .dat (.int .i64) x1783), (5, .dat (.int .i64) x1755)], []⟩ : St))) (fun (t : Bool) => (Exit.ret, (⟨mkE 65 0 [(2, .dat .bool t)], []⟩ : St)))) := by
  unfold spec_TreeOk_n11
  exact Link.cast (by kernel_rfl) (by kernel_rfl) (link_seq2 (b := (Code.snd (Code.snd (Code.snd (Code.snd (Code.fst (Code.fst (Code.snd (Code.fst (Code.fst (Code.snd (Code.fst (Code.snd (Code.snd (Code.snd (Code.snd (bodyOf Try.f16))))))))))))))))) (y := (Ann.snd (Ann.snd (Ann.snd (Ann.snd (Ann.fst (Ann.fst (Ann.snd (Ann.fst (Ann.fst (Ann.snd (Ann.fst (Ann.snd (Ann.snd (Ann.snd (Ann.snd spec_TreeOk_an)))))))))))))))) (spec_TreeOk_n9_l x1674 x1687 x1783 x1755 x1784) (fun (t : Int) => (spec_TreeOk_n10_l x1674 x1687 x1783 x1755 t)) (fun (t : Bool) => (Sum.inr t)) (by
  rintro t
  · kernel_rfl) (by
  rintro t f K h
  · exact h))

theorem spec_TreeOk_n12_l (x1674 : List Int) (x1687 : Int) (x1754 : Int) (x1755 : Int) : Link spec_TreeOk_ctx LL (Code.fst (Code.fst (Code.snd (Code.fst (Code.fst (Code.snd (Code.fst (Code.snd (Code.snd (Code.snd (Code.snd (bodyOf Try.f16)))))))))))) (Ann.fst (Ann.fst (Ann.snd (Ann.fst (Ann.fst (Ann.snd (Ann.fst (Ann.snd (Ann.snd (Ann.snd (Ann.snd spec_TreeOk_an))))))))))) (⟨mkE 65 0 [(0, .dat (.list (.int .i64)) x1674), (3, .dat (.int .i64) x1687), (4, .dat (.int .i64) x1754), (5, .dat (.int .i64) x1755)], []⟩ : St) (spec_TreeOk_n12 x1674 x1687 x1754 x1755) (Sum.elim (fun (t : Int) => (Exit.normal, (⟨mkE 65 0 [(0, .dat (.list (.int .i64)) x1674), (3, .dat (.int .i64) x1687), (4, .dat (.int .i64) t), (5, .dat (.int .i64) x1755)], []⟩ : St))) (fun (t : Bool) => (Exit.ret, (⟨mkE 65 0 [(2, .dat .bool t)], []⟩ : St)))) := by
  unfold spec_TreeOk_n12
  exact Link.cast (by kernel_rfl) (by kernel_rfl) (link_group (c := (Code.fst (Code.snd (Code.snd (Code.fst (Code.fst (Code.snd (Code.fst (Code.fst (Code.snd (Code.fst (Code.snd (Code.snd (Code.snd (Code.snd (bodyOf Try.f16)))))))))))))))) (a := (Ann.fst (Ann.snd (Ann.snd (Ann.fst (Ann.fst (Ann.snd (Ann.fst (Ann.fst (Ann.snd (Ann.fst (Ann.snd (Ann.snd (Ann.snd (Ann.snd spec_TreeOk_an))))))))))))))) [(Code.fst (Code.fst (Code.fst (Code.snd (Code.fst (Code.fst (Code.snd (Code.fst (Code.snd (Code.snd (Code.snd (Code.snd (bodyOf Try.f16))))))))))))), (Code.fst (Code.snd (Code.fst (Code.fst (Code.snd (Code.fst (Code.fst (Code.snd (Code.fst (Code.snd (Code.snd (Code.snd (Code.snd (bodyOf Try.f16))))))))))))))] [(Ann.fst (Ann.fst (Ann.fst (Ann.snd (Ann.fst (Ann.fst (Ann.snd (Ann.fst (Ann.snd (Ann.snd (Ann.snd (Ann.snd spec_TreeOk_an)))))))))))), (Ann.fst (Ann.snd (Ann.fst (Ann.fst (Ann.snd (Ann.fst (Ann.fst (Ann.snd (Ann.fst (Ann.snd (Ann.snd (Ann.snd (Ann.snd spec_TreeOk_an)))))))))))))] rfl (link_seq2 (b := (Code.snd (Code.snd (Code.snd (Code.fst (Code.fst (Code.snd (Code.fst (Code.fst (Code.snd (Code.fst (Code.snd (Code.snd (Code.snd (Code.snd (bodyOf Try.f16)))))))))))))))) (y := (Ann.snd (Ann.snd (Ann.snd (Ann.fst (Ann.fst (Ann.snd (Ann.fst (Ann.fst (Ann.snd (Ann.fst (Ann.snd (Ann.snd (Ann.snd (Ann.snd spec_TreeOk_an))))))))))))))) (spec_TreeOk_n4_l x1674 x1687 x1754 x1755) (fun (t : Int × Int) => (link_map (spec_TreeOk_n11_l x1674 x1687 t.1 x1755 t.2) (Sum.elim (fun (u : Unit) => (Sum.inl t.1)) (fun (u : Bool) => (Sum.inr u))) (by
  rintro (t | t)
  · kernel_rfl
  · kernel_rfl))) (fun (t : Bool) => (Sum.inr t)) (by
  rintro t
  · kernel_rfl) (by
  rintro t f K h
  · exact h)))

theorem spec_TreeOk_n13_l (x1674 : List Int) (x1687 : Int) (x1754 : Int) (x1755 : Int) : Link spec_TreeOk_ctx LL (Code.fst (Code.snd (Code.fst (Code.fst (Code.snd (Code.fst (Code.snd (Code.snd (Code.snd (Code.snd (bodyOf Try.f16))))))))))) (Ann.fst (Ann.snd (Ann.fst (Ann.fst (Ann.snd (Ann.fst (Ann.snd (Ann.snd (Ann.snd (Ann.snd spec_TreeOk_an)))))))))) (⟨mkE 65 0 [(0, .dat (.list (.int .i64)) x1674), (3, .dat (.int .i64) x1687), (4, .dat (.int .i64) x1754), (5, .dat (.int .i64) x1755)], []⟩ : St) (spec_TreeOk_n13 x1674 x1687 x1754 x1755) (Sum.elim (fun (t : Int) => (Exit.normal, (⟨mkE 65 0 [(0, .dat (.list (.int .i64)) x1674), (3, .dat (.int .i64) x1687), (4, .dat (.int .i64) t), (5, .dat (.int .i64) x1755)], []⟩ : St))) (fun (t : Bool) => (Exit.ret, (⟨mkE 65 0 [(2, .dat .bool t)], []⟩ : St)))) := by
  unfold spec_TreeOk_n13
  exact Link.cast (by kernel_rfl) (by kernel_rfl) (link_block (id := 1) (spec_TreeOk_n12_l x1674 x1687 x1754 x1755) (Sum.elim (fun (t : Int) => (Sum.inl t)) (fun (t : Bool) => (Sum.inr t))) (by
  rintro (t | t) K h
  · exact Eq.mp (by kernel_rfl) h
  · exact Eq.mp (by kernel_rfl) h))

theorem spec_TreeOk_n14_l (x1674 : List Int) (x1687 : Int) (x1783 : Int) (x1755 : Int) : Link spec_TreeOk_ctx LL (Code.snd (Code.snd (Code.fst (Code.fst (Code.snd (Code.fst (Code.snd (Code.snd (Code.snd (Code.snd (bodyOf Try.f16))))))))))) (Ann.snd (Ann.snd (Ann.fst (Ann.fst (Ann.snd (Ann.fst (Ann.snd (Ann.snd (Ann.snd (Ann.snd spec_TreeOk_an)))))))))) (⟨mkE 65 0 [(0, .dat (.list (.int .i64)) x1674), (3, .dat (.int .i64) x1687), (4, .dat (.int .i64) x1783), (5, .dat (.int .i64) x1755)], []⟩ : St) (spec_TreeOk_n14 x1755) (fun (t : Int) => (Exit.normal, (⟨mkE 65 0 [(0, .dat (.list (.int .i64)) x1674), (3, .dat (.int .i64) x1687), (4, .dat (.int .i64) x1783), (5, .dat (.int .i64) t)], []⟩ : St))) := by
  refine Link.of fun K h => ?_
  simp only [spec_TreeOk_n14, wpO_bind, wpO_cond, wpO_map, wpO_some] at h
  exact Awp.of (by kernel_rfl) h

theorem spec_TreeOk_n15_l (x1674 : List Int) (x1687 : Int) (x1754 : Int) (x1755 : Int) : Link spec_TreeOk_ctx LL (Code.snd (Code.fst (Code.fst (Code.snd (Code.fst (Code.snd (Code.snd (Code.snd (Code.snd (bodyOf Try.f16)))))))))) (Ann.snd (Ann.fst (Ann.fst (Ann.snd (Ann.fst (Ann.snd (Ann.snd (Ann.snd (Ann.snd spec_TreeOk_an))))))))) (⟨mkE 65 0 [(0, .dat (.list (.int .i64)) x1674), (3, .dat (.int .i64) x1687), (4, .dat (.int .i64) x1754), (5, .dat (.int .i64) x1755)], []⟩ : St) (spec_TreeOk_n15 x1674 x1687 x1754 x1755) (Sum.elim (fun (t : Int × Int) => (Exit.normal, (⟨mkE 65 0 [(0, .dat (.list (.int .i64)) x1674), (3, .dat (.int .i64) x1687), (4, .dat (.int .i64) t.1), (5, .dat (.int .i64) t.2)], []⟩ : St))) (fun (t : Bool) => (Exit.ret, (⟨mkE 65 0 [(2, .dat .bool t)], []⟩ : St)))) := by
  unfold spec_TreeOk_n15
  exact Link.cast (by kernel_rfl) (by kernel_rfl) (link_seq2 (b := (Code.snd (Code.snd (Code.fst (Code.fst (Code.snd (Code.fst (Code.snd (Code.snd (Code.snd (Code.snd (bodyOf Try.f16)))))))))))) (y := (Ann.snd (Ann.snd (Ann.fst (Ann.fst (Ann.snd (Ann.fst (Ann.snd (Ann.snd (Ann.snd (Ann.snd spec_TreeOk_an))))))))))) (spec_TreeOk_n13_l x1674 x1687 x1754 x1755) (fun (t : Int) => (link_map (spec_TreeOk_n14_l x1674 x1687 t x1755) (fun (u : Int) => (Sum.inl (t, u))) (by
  rintro t
  · kernel_rfl))) (fun (t : Bool) => (Sum.inr t)) (by
  rintro t
  · kernel_rfl) (by
  rintro t f K h
  · exact h))

theorem spec_TreeOk_n16_l (x1674 : List Int) (x1687 : Int) (x1754 : Int) (x1755 : Int) : Link spec_TreeOk_ctx LL (Code.fst (Code.fst (Code.snd (Code.fst (Code.snd (Code.snd (Code.snd (Code.snd (bodyOf Try.f16))))))))) (Ann.fst (Ann.fst (Ann.snd (Ann.fst (Ann.snd (Ann.snd (Ann.snd (Ann.snd spec_TreeOk_an)))))))) (⟨mkE 65 0 [(0, .dat (.list (.int .i64)) x1674), (3, .dat (.int .i64) x1687), (4, .dat (.int .i64) x1754), (5, .dat (.int .i64) x1755)], []⟩ : St) (spec_TreeOk_n16 x1674 x1687 x1754 x1755) (Sum.elim (fun (t : Int × Int) => (Exit.normal, (⟨mkE 65 0 [(0, .dat (.list (.int .i64)) x1674), (3, .dat (.int .i64) x1687), (4, .dat (.int .i64) t.1), (5, .dat (.int .i64) t.2)], []⟩ : St))) (Sum.elim (fun (t : Bool) => (Exit.ret, (⟨mkE 65 0 [(2, .dat .bool t)], []⟩ : St))) (fun (t : Int) => ((Exit.exit 0), (⟨mkE 65 0 [(4, .dat (.int .i64) t)], []⟩ : St))))) := by
  unfold spec_TreeOk_n16
  exact Link.cast (by kernel_rfl) (by kernel_rfl) (link_seq2 (b := (Code.snd (Code.fst (Code.fst (Code.snd (Code.fst (Code.snd (Code.snd (Code.snd (Code.snd (bodyOf Try.f16))))))))))) (y := (Ann.snd (Ann.fst (Ann.fst (Ann.snd (Ann.fst (Ann.snd (Ann.snd (Ann.snd (Ann.snd spec_TreeOk_an)))))))))) (spec_TreeOk_n3_l x1674 x1687 x1754 x1755) (fun (t : Unit) => (link_map (spec_TreeOk_n15_l x1674 x1687 x1754 x1755) (Sum.elim (fun (t : Int × Int) => (Sum.inl (t.1, t.2))) (fun (t : Bool) => (Sum.inr (Sum.inl t)))) (by
  rintro (t | t)
  · kernel_rfl
  · kernel_rfl))) (fun (t : Int) => (Sum.inr (Sum.inr t))) (by
  rintro t
  · kernel_rfl) (by
  rintro t f K h
  · exact h))

end Go.Rv
