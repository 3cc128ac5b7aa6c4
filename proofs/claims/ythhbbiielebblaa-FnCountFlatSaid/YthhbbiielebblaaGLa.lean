/-
  The checked code answers as the plain functions do; written by program. Conditions: none.
-/
import Derived.Test.YthhbbiielebblaaGN
import Derived.Test.YthhbbiielebblaaProg
set_option linter.unusedVariables false
set_option linter.unusedSimpArgs false
set_option maxRecDepth 100000
namespace Go.Rv
open Go.Proofs
theorem ty3 : TIOk Try.prog 3 ⟨.int .i64, 1, 8, some (.int .i64), [.int .i64 0]⟩ := ⟨⟨infoOf (Try.prog.info? 3), by kernel_rfl, by kernel_rfl, by kernel_rfl, .int .i64 0, by kernel_rfl, by kernel_rfl⟩, (by kernel_rfl : Try.prog.underlying 3 = some (.int .i64))⟩
theorem ty4 : TIOk Try.prog 4 ⟨.bool, 1, 1, some .bool, [.bool false]⟩ := ⟨⟨infoOf (Try.prog.info? 4), by kernel_rfl, by kernel_rfl, by kernel_rfl, .bool false, by kernel_rfl, by kernel_rfl⟩, (by kernel_rfl : Try.prog.underlying 4 = some .bool)⟩
theorem ty5 : TIOk Try.prog 5 ⟨.int .u8, 1, 1, some (.int .u8), [.int .u8 0]⟩ := ⟨⟨infoOf (Try.prog.info? 5), by kernel_rfl, by kernel_rfl, by kernel_rfl, .int .u8 0, by kernel_rfl, by kernel_rfl⟩, (by kernel_rfl : Try.prog.underlying 5 = some (.int .u8))⟩
theorem ty22 : TIOk Try.prog 22 ⟨.slice 5, 1, 24, some (.list (.int .u8)), [.slice none 0 0]⟩ := ⟨⟨infoOf (Try.prog.info? 22), by kernel_rfl, by kernel_rfl, by kernel_rfl, .slice none 0 0, by kernel_rfl, by kernel_rfl⟩, (by kernel_rfl : Try.prog.underlying 22 = some (.slice 5))⟩
theorem ty28 : TIOk Try.prog 28 ⟨.slice 3, 1, 24, some (.list (.int .i64)), [.slice none 0 0]⟩ := ⟨⟨infoOf (Try.prog.info? 28), by kernel_rfl, by kernel_rfl, by kernel_rfl, .slice none 0 0, by kernel_rfl, by kernel_rfl⟩, (by kernel_rfl : Try.prog.underlying 28 = some (.slice 3))⟩
theorem ty37 : TIOk Try.prog 37 ⟨.arr 7 3, 7, 56, none, [.int .i64 0, .int .i64 0, .int .i64 0, .int .i64 0, .int .i64 0, .int .i64 0, .int .i64 0]⟩ := ⟨⟨infoOf (Try.prog.info? 37), by kernel_rfl, by kernel_rfl, by kernel_rfl, .agg #[.int .i64 0, .int .i64 0, .int .i64 0, .int .i64 0, .int .i64 0, .int .i64 0, .int .i64 0], by kernel_rfl, by kernel_rfl⟩, (by kernel_rfl : Try.prog.underlying 37 = some (.array 7 3))⟩
theorem ty39 : TIOk Try.prog 39 ⟨.strct [(0, 37), (7, 37)], 14, 112, none, [.int .i64 0, .int .i64 0, .int .i64 0, .int .i64 0, .int .i64 0, .int .i64 0, .int .i64 0, .int .i64 0, .int .i64 0, .int .i64 0, .int .i64 0, .int .i64 0, .int .i64 0, .int .i64 0]⟩ := ⟨⟨infoOf (Try.prog.info? 39), by kernel_rfl, by kernel_rfl, by kernel_rfl, .agg #[.int .i64 0, .int .i64 0, .int .i64 0, .int .i64 0, .int .i64 0, .int .i64 0, .int .i64 0, .int .i64 0, .int .i64 0, .int .i64 0, .int .i64 0, .int .i64 0, .int .i64 0, .int .i64 0], by kernel_rfl, by kernel_rfl⟩, ⟨fieldsOf (Try.prog.underlying 39), by kernel_rfl, by kernel_rfl⟩⟩
theorem ty46 : TIOk Try.prog 46 ⟨.strct [(0, 3), (1, 3)], 2, 16, some (.pair (.int .i64) (.pair (.int .i64) .unit)), [.int .i64 0, .int .i64 0]⟩ := ⟨⟨infoOf (Try.prog.info? 46), by kernel_rfl, by kernel_rfl, by kernel_rfl, .agg #[.int .i64 0, .int .i64 0], by kernel_rfl, by kernel_rfl⟩, ⟨fieldsOf (Try.prog.underlying 46), by kernel_rfl, by kernel_rfl⟩⟩
theorem ty48 : TIOk Try.prog 48 ⟨.strct [(0, 22), (1, 3)], 2, 32, some (.pair (.list (.int .u8)) (.pair (.int .i64) .unit)), [.slice none 0 0, .int .i64 0]⟩ := ⟨⟨infoOf (Try.prog.info? 48), by kernel_rfl, by kernel_rfl, by kernel_rfl, .agg #[.slice none 0 0, .int .i64 0], by kernel_rfl, by kernel_rfl⟩, ⟨fieldsOf (Try.prog.underlying 48), by kernel_rfl, by kernel_rfl⟩⟩
theorem ty50 : TIOk Try.prog 50 ⟨.strct [(0, 37), (7, 37)], 14, 112, none, [.int .i64 0, .int .i64 0, .int .i64 0, .int .i64 0, .int .i64 0, .int .i64 0, .int .i64 0, .int .i64 0, .int .i64 0, .int .i64 0, .int .i64 0, .int .i64 0, .int .i64 0, .int .i64 0]⟩ := ⟨⟨infoOf (Try.prog.info? 50), by kernel_rfl, by kernel_rfl, by kernel_rfl, .agg #[.int .i64 0, .int .i64 0, .int .i64 0, .int .i64 0, .int .i64 0, .int .i64 0, .int .i64 0, .int .i64 0, .int .i64 0, .int .i64 0, .int .i64 0, .int .i64 0, .int .i64 0, .int .i64 0], by kernel_rfl, by kernel_rfl⟩, ⟨fieldsOf (Try.prog.underlying 50), by kernel_rfl, by kernel_rfl⟩⟩
theorem ty58 : TIOk Try.prog 58 ⟨.strct [(0, 28), (1, 3), (2, 3)], 3, 40, some (.pair (.list (.int .i64)) (.pair (.int .i64) (.pair (.int .i64) .unit))), [.slice none 0 0, .int .i64 0, .int .i64 0]⟩ := ⟨⟨infoOf (Try.prog.info? 58), by kernel_rfl, by kernel_rfl, by kernel_rfl, .agg #[.slice none 0 0, .int .i64 0, .int .i64 0], by kernel_rfl, by kernel_rfl⟩, ⟨fieldsOf (Try.prog.underlying 58), by kernel_rfl, by kernel_rfl⟩⟩
def tys : List (TypeId × TI) := [(3, ⟨.int .i64, 1, 8, some (.int .i64), [.int .i64 0]⟩), (4, ⟨.bool, 1, 1, some .bool, [.bool false]⟩), (5, ⟨.int .u8, 1, 1, some (.int .u8), [.int .u8 0]⟩), (22, ⟨.slice 5, 1, 24, some (.list (.int .u8)), [.slice none 0 0]⟩), (28, ⟨.slice 3, 1, 24, some (.list (.int .i64)), [.slice none 0 0]⟩), (37, ⟨.arr 7 3, 7, 56, none, [.int .i64 0, .int .i64 0, .int .i64 0, .int .i64 0, .int .i64 0, .int .i64 0, .int .i64 0]⟩), (39, ⟨.strct [(0, 37), (7, 37)], 14, 112, none, [.int .i64 0, .int .i64 0, .int .i64 0, .int .i64 0, .int .i64 0, .int .i64 0, .int .i64 0, .int .i64 0, .int .i64 0, .int .i64 0, .int .i64 0, .int .i64 0, .int .i64 0, .int .i64 0]⟩), (46, ⟨.strct [(0, 3), (1, 3)], 2, 16, some (.pair (.int .i64) (.pair (.int .i64) .unit)), [.int .i64 0, .int .i64 0]⟩), (48, ⟨.strct [(0, 22), (1, 3)], 2, 32, some (.pair (.list (.int .u8)) (.pair (.int .i64) .unit)), [.slice none 0 0, .int .i64 0]⟩), (50, ⟨.strct [(0, 37), (7, 37)], 14, 112, none, [.int .i64 0, .int .i64 0, .int .i64 0, .int .i64 0, .int .i64 0, .int .i64 0, .int .i64 0, .int .i64 0, .int .i64 0, .int .i64 0, .int .i64 0, .int .i64 0, .int .i64 0, .int .i64 0]⟩), (58, ⟨.strct [(0, 28), (1, 3), (2, 3)], 3, 40, some (.pair (.list (.int .i64)) (.pair (.int .i64) (.pair (.int .i64) .unit))), [.slice none 0 0, .int .i64 0, .int .i64 0]⟩)]
theorem tys_ok : TOk Try.prog (tlook tys) := tok_of (List.forall_mem_cons.2 ⟨ty3, List.forall_mem_cons.2 ⟨ty4, List.forall_mem_cons.2 ⟨ty5, List.forall_mem_cons.2 ⟨ty22, List.forall_mem_cons.2 ⟨ty28, List.forall_mem_cons.2 ⟨ty37, List.forall_mem_cons.2 ⟨ty39, List.forall_mem_cons.2 ⟨ty46, List.forall_mem_cons.2 ⟨ty48, List.forall_mem_cons.2 ⟨ty50, List.forall_mem_cons.2 ⟨ty58, by simp⟩⟩⟩⟩⟩⟩⟩⟩⟩⟩⟩)
def ioF (f : FuncId) (i : Nat) : Bool := [(19, 0), (28, 0), (29, 1), (35, 0), (37, 1)].any fun (p : Nat × Nat) => Nat.beq p.1 f && Nat.beq p.2 i

/-! loop.example/headtrees/spec.l20Open -/

def spec_l20Open_an : Ann := (.seq (.leaf [0]) (.seq (.seq (.leaf [0, 5]) (.cond (.leaf [0]) (.leaf [0]))) (.seq (.leaf [2]) (.leaf [2]))))

noncomputable def spec_l20Open_ctx : Ctx := ⟨tlook tys, olook [], ioF, 0⟩

theorem spec_l20Open_n1_l (x12 : List Int) : Link spec_l20Open_ctx LL (bodyOf Try.f21) spec_l20Open_an (⟨mkE 11 0 [(0, .dat (.list (.int .u8)) x12)], []⟩ : St) (spec_l20Open_n1 x12) (fun (t : (List Int)) => (Exit.ret, (⟨mkE 11 0 [(2, .ptr 0 0)], [some (.box [.dat (.list (.int .u8)) t, .dat (.int .i64) 0])]⟩ : St))) := by
  refine Link.of fun K h => ?_
  simp only [spec_l20Open_n1, wpO_bind, wpO_cond, wpO_map, wpO_some] at h
  exact Awp.of (by kernel_rfl) h

theorem spec_l20Open_e (x12 : List Int) {r : AV} {H' : Heap} (h : (Ans.mk _ (spec_l20Open x12) (fun (t : (List Int)) => (.ptr 0 0, [some (.box [.dat (.list (.int .u8)) t, .dat (.int .i64) 0])]))).run = some (r, H')) : Awp spec_l20Open_ctx LL (bodyOf Try.f21) spec_l20Open_an (⟨mkE 11 0 [(0, .dat (.list (.int .u8)) x12)], []⟩ : St) (Ret (tlook tys) Try.f21.results.toList r H') :=
  ret_of' (spec_l20Open_n1_l x12) (by unfold spec_l20Open; kernel_rfl) (by
  intro t
  exact ret_mk [.ptr 0 0] (by kernel_rfl) (by kernel_rfl) (by kernel_rfl) (by kernel_rfl)) h

def F_spec_l20Open : Fun := fun avs H =>
  match avs, H with
  | [.dat (.list (.int .u8)) x12], [] => ⟨_, spec_l20Open x12, fun (t : (List Int)) => (.ptr 0 0, [some (.box [.dat (.list (.int .u8)) t, .dat (.int .i64) 0])])⟩
  | _, _ => Ans.no

theorem spec_l20Open_sound : Sound Try.prog 21 F_spec_l20Open := by
  refine fn_sound' (C := spec_l20Open_ctx) (c := bodyOf Try.f21) (cok_of tys_ok (by simp) (by simp) (by kernel_rfl)) Try.func21 (by kernel_rfl) LL spec_l20Open_an ?_
  intro avs H r H' h
  unfold F_spec_l20Open at h
  split at h
  · refine Awp.cast ?_ ?_ ?_ (spec_l20Open_e _ h) <;> kernel_rfl
  · simp [Ans.no, Ans.run] at h

/-! (*loop.example/headtrees/spec.l20Rd).pick -/

def spec_l20Rd_pick_an : Ann := (.seq (.leaf [0, 1]) (.seq (.leaf [0, 1]) (.seq (.seq (.leaf [0, 1, 24]) (.cond (.seq (.leaf [4]) (.leaf [4])) (.leaf [0, 1]))) (.seq (.leaf [0, 1, 5]) (.seq (.seq (.leaf [0, 1, 5, 36]) (.cond (.seq (.leaf [4]) (.leaf [4])) (.leaf [0, 1, 5]))) (.seq (.draw [] [0, 1, 2, 3, 4, 5, 6, 7, 8, 9, 10, 11, 12, 13, 14, 15, 16, 17, 18, 19, 20, 21, 22, 23, 24, 25, 26, 27, 28, 29, 30, 31, 32, 33, 34, 35, 36, 37, 38, 39, 40, 41, 42, 43, 44, 45] [] [1, 6]) (.seq (.leaf [1, 6]) (.seq (.leaf [4]) (.leaf [4])))))))))

noncomputable def spec_l20Rd_pick_ctx : Ctx := ⟨tlook tys, olook [], ioF, 1⟩

theorem spec_l20Rd_pick_n1_l (x33 : Int) (x34 : List Int) (x35 : Int) : Link spec_l20Rd_pick_ctx LL (bodyOf Try.f22) spec_l20Rd_pick_an (⟨mkE 99 0 [(0, .ptr 0 0), (1, .dat (.int .i64) x33)], [some (.box [.dat (.list (.int .u8)) x34, .dat (.int .i64) x35])]⟩ : St) (spec_l20Rd_pick_n1 x33 x34 x35) (fun (t : Int × Int) => (Exit.ret, (⟨mkE 99 0 [(4, .dat (.int .i64) t.1)], [some (.box [.dat (.list (.int .u8)) x34, .dat (.int .i64) t.2])]⟩ : St))) := by
  refine Link.of fun K h => ?_
  simp only [spec_l20Rd_pick_n1, wpO_bind, wpO_cond, wpO_map, wpO_some] at h
  exact Awp.of (by kernel_rfl) h

theorem spec_l20Rd_pick_e (x33 : Int) (x34 : List Int) (x35 : Int) {r : AV} {H' : Heap} (h : (Ans.mk _ (spec_l20Rd_pick x33 x34 x35) (fun (t : Int × Int) => (.dat (.int .i64) t.1, [some (.box [.dat (.list (.int .u8)) x34, .dat (.int .i64) t.2])]))).run = some (r, H')) : Awp spec_l20Rd_pick_ctx LL (bodyOf Try.f22) spec_l20Rd_pick_an (⟨mkE 99 0 [(0, .ptr 0 0), (1, .dat (.int .i64) x33)], [some (.box [.dat (.list (.int .u8)) x34, .dat (.int .i64) x35])]⟩ : St) (Ret (tlook tys) Try.f22.results.toList r H') :=
  ret_of' (spec_l20Rd_pick_n1_l x33 x34 x35) (by unfold spec_l20Rd_pick; kernel_rfl) (by
  intro t
  exact ret_mk [.dat (.int .i64) t.1] (by kernel_rfl) (by kernel_rfl) (by kernel_rfl) (by kernel_rfl)) h

def F_spec_l20Rd_pick : Fun := fun avs H =>
  match avs, H with
  | [.ptr 0 0, .dat (.int .i64) x33], [some (.box [.dat (.list (.int .u8)) x34, .dat (.int .i64) x35])] => ⟨_, spec_l20Rd_pick x33 x34 x35, fun (t : Int × Int) => (.dat (.int .i64) t.1, [some (.box [.dat (.list (.int .u8)) x34, .dat (.int .i64) t.2])])⟩
  | _, _ => Ans.no

theorem spec_l20Rd_pick_sound : Sound Try.prog 22 F_spec_l20Rd_pick := by
  refine fn_sound' (C := spec_l20Rd_pick_ctx) (c := bodyOf Try.f22) (cok_of tys_ok (by simp) (by simp) (by kernel_rfl)) Try.func22 (by kernel_rfl) LL spec_l20Rd_pick_an ?_
  intro avs H r H' h
  unfold F_spec_l20Rd_pick at h
  split at h
  · refine Awp.cast ?_ ?_ ?_ (spec_l20Rd_pick_e _ _ _ h) <;> kernel_rfl
  · simp [Ans.no, Ans.run] at h

/-! loop.example/headtrees/spec.DrawCountFlat -/

def spec_DrawCountFlat_an : Ann := (.seq (.leaf [0]) (.seq (.leaf [2]) (.leaf [2])))

noncomputable def spec_DrawCountFlat_ctx : Ctx := ⟨tlook tys, olook [(21, F_spec_l20Open), (22, F_spec_l20Rd_pick)], ioF, 0⟩

theorem spec_DrawCountFlat_n1_l (x10 : List Int) : Link spec_DrawCountFlat_ctx LL (bodyOf Try.f8) spec_DrawCountFlat_an (⟨mkE 7 0 [(0, .dat (.list (.int .u8)) x10)], []⟩ : St) (spec_DrawCountFlat_n1 x10) (fun (t : Int) => (Exit.ret, (⟨mkE 7 0 [(2, .dat (.int .i64) t)], []⟩ : St))) := by
  refine Link.of fun K h => ?_
  simp only [spec_DrawCountFlat_n1, wpO_bind, wpO_cond, wpO_map, wpO_some] at h
  exact Awp.of (by kernel_rfl) h

theorem spec_DrawCountFlat_e (x10 : List Int) {r : AV} {H' : Heap} (h : (Ans.mk _ (spec_DrawCountFlat x10) (fun (t : Int) => (.dat (.int .i64) t, []))).run = some (r, H')) : Awp spec_DrawCountFlat_ctx LL (bodyOf Try.f8) spec_DrawCountFlat_an (⟨mkE 7 0 [(0, .dat (.list (.int .u8)) x10)], []⟩ : St) (Ret (tlook tys) Try.f8.results.toList r H') :=
  ret_of' (spec_DrawCountFlat_n1_l x10) (by unfold spec_DrawCountFlat; kernel_rfl) (by
  intro t
  exact ret_mk [.dat (.int .i64) t] (by kernel_rfl) (by kernel_rfl) (by kernel_rfl) (by kernel_rfl)) h

def F_spec_DrawCountFlat : Fun := fun avs H =>
  match avs, H with
  | [.dat (.list (.int .u8)) x10], [] => ⟨_, spec_DrawCountFlat x10, fun (t : Int) => (.dat (.int .i64) t, [])⟩
  | _, _ => Ans.no

theorem spec_DrawCountFlat_sound : Sound Try.prog 8 F_spec_DrawCountFlat := by
  refine fn_sound' (C := spec_DrawCountFlat_ctx) (c := bodyOf Try.f8) (cok_of tys_ok (List.forall_mem_cons.2 ⟨spec_l20Open_sound, List.forall_mem_cons.2 ⟨spec_l20Rd_pick_sound, by simp⟩⟩) (List.forall_mem_cons.2 ⟨Try.call21, List.forall_mem_cons.2 ⟨Try.call22, by simp⟩⟩) (by kernel_rfl)) Try.func8 (by kernel_rfl) LL spec_DrawCountFlat_an ?_
  intro avs H r H' h
  unfold F_spec_DrawCountFlat at h
  split at h
  · refine Awp.cast ?_ ?_ ?_ (spec_DrawCountFlat_e _ h) <;> kernel_rfl
  · simp [Ans.no, Ans.run] at h

/-! (loop.example/headtrees/impl.flatCounts).aroundRoots -/

def impl_flatCounts_aroundRoots_an : Ann := (.seq (.leaf [1, 2]) (.seq (.leaf [2]) (.leaf [2])))

noncomputable def impl_flatCounts_aroundRoots_ctx : Ctx := ⟨tlook tys, olook [], ioF, 0⟩

theorem impl_flatCounts_aroundRoots_n1_l (x220 : Int) (x221 : Int) (x222 : Int) (x223 : Int) (x224 : Int) (x225 : Int) (x226 : Int) (x227 : Int) (x228 : Int) (x229 : Int) (x230 : Int) (x231 : Int) (x232 : Int) (x233 : Int) : Link impl_flatCounts_aroundRoots_ctx LL (bodyOf Try.f30) impl_flatCounts_aroundRoots_an (⟨mkE 8 0 [(0, .agg [.dat (.int .i64) x220, .dat (.int .i64) x221, .dat (.int .i64) x222, .dat (.int .i64) x223, .dat (.int .i64) x224, .dat (.int .i64) x225, .dat (.int .i64) x226, .dat (.int .i64) x227, .dat (.int .i64) x228, .dat (.int .i64) x229, .dat (.int .i64) x230, .dat (.int .i64) x231, .dat (.int .i64) x232, .dat (.int .i64) x233])], []⟩ : St) (impl_flatCounts_aroundRoots_n1) (fun (t : Unit) => (Exit.ret, (⟨mkE 8 0 [(2, .ptr 0 0)], [some (.box [.dat (.int .i64) x227, .dat (.int .i64) x228, .dat (.int .i64) x229, .dat (.int .i64) x230, .dat (.int .i64) x231, .dat (.int .i64) x232, .dat (.int .i64) x233, .dat (.int .i64) x227, .dat (.int .i64) x228, .dat (.int .i64) x229, .dat (.int .i64) x230, .dat (.int .i64) x231, .dat (.int .i64) x232, .dat (.int .i64) x233])]⟩ : St))) := by
  refine Link.of fun K h => ?_
  simp only [impl_flatCounts_aroundRoots_n1, wpO_bind, wpO_cond, wpO_map, wpO_some] at h
  exact Awp.of (by kernel_rfl) h

theorem impl_flatCounts_aroundRoots_e (x220 : Int) (x221 : Int) (x222 : Int) (x223 : Int) (x224 : Int) (x225 : Int) (x226 : Int) (x227 : Int) (x228 : Int) (x229 : Int) (x230 : Int) (x231 : Int) (x232 : Int) (x233 : Int) {r : AV} {H' : Heap} (h : (Ans.mk _ (impl_flatCounts_aroundRoots x220 x221 x222 x223 x224 x225 x226 x227 x228 x229 x230 x231 x232 x233) (fun (t : Unit) => (.agg [.dat (.int .i64) x227, .dat (.int .i64) x228, .dat (.int .i64) x229, .dat (.int .i64) x230, .dat (.int .i64) x231, .dat (.int .i64) x232, .dat (.int .i64) x233, .dat (.int .i64) x227, .dat (.int .i64) x228, .dat (.int .i64) x229, .dat (.int .i64) x230, .dat (.int .i64) x231, .dat (.int .i64) x232, .dat (.int .i64) x233], [some (.box [.dat (.int .i64) x227, .dat (.int .i64) x228, .dat (.int .i64) x229, .dat (.int .i64) x230, .dat (.int .i64) x231, .dat (.int .i64) x232, .dat (.int .i64) x233, .dat (.int .i64) x227, .dat (.int .i64) x228, .dat (.int .i64) x229, .dat (.int .i64) x230, .dat (.int .i64) x231, .dat (.int .i64) x232, .dat (.int .i64) x233])]))).run = some (r, H')) : Awp impl_flatCounts_aroundRoots_ctx LL (bodyOf Try.f30) impl_flatCounts_aroundRoots_an (⟨mkE 8 0 [(0, .agg [.dat (.int .i64) x220, .dat (.int .i64) x221, .dat (.int .i64) x222, .dat (.int .i64) x223, .dat (.int .i64) x224, .dat (.int .i64) x225, .dat (.int .i64) x226, .dat (.int .i64) x227, .dat (.int .i64) x228, .dat (.int .i64) x229, .dat (.int .i64) x230, .dat (.int .i64) x231, .dat (.int .i64) x232, .dat (.int .i64) x233])], []⟩ : St) (Ret (tlook tys) Try.f30.results.toList r H') :=
  ret_of' (impl_flatCounts_aroundRoots_n1_l x220 x221 x222 x223 x224 x225 x226 x227 x228 x229 x230 x231 x232 x233) (by unfold impl_flatCounts_aroundRoots; kernel_rfl) (by
  intro t
  exact ret_mk [.agg [.dat (.int .i64) x227, .dat (.int .i64) x228, .dat (.int .i64) x229, .dat (.int .i64) x230, .dat (.int .i64) x231, .dat (.int .i64) x232, .dat (.int .i64) x233, .dat (.int .i64) x227, .dat (.int .i64) x228, .dat (.int .i64) x229, .dat (.int .i64) x230, .dat (.int .i64) x231, .dat (.int .i64) x232, .dat (.int .i64) x233]] (by kernel_rfl) (by kernel_rfl) (by kernel_rfl) (by kernel_rfl)) h

def F_impl_flatCounts_aroundRoots : Fun := fun avs H =>
  match avs, H with
  | [.agg [.dat (.int .i64) x220, .dat (.int .i64) x221, .dat (.int .i64) x222, .dat (.int .i64) x223, .dat (.int .i64) x224, .dat (.int .i64) x225, .dat (.int .i64) x226, .dat (.int .i64) x227, .dat (.int .i64) x228, .dat (.int .i64) x229, .dat (.int .i64) x230, .dat (.int .i64) x231, .dat (.int .i64) x232, .dat (.int .i64) x233]], [] => ⟨_, impl_flatCounts_aroundRoots x220 x221 x222 x223 x224 x225 x226 x227 x228 x229 x230 x231 x232 x233, fun (t : Unit) => (.agg [.dat (.int .i64) x227, .dat (.int .i64) x228, .dat (.int .i64) x229, .dat (.int .i64) x230, .dat (.int .i64) x231, .dat (.int .i64) x232, .dat (.int .i64) x233, .dat (.int .i64) x227, .dat (.int .i64) x228, .dat (.int .i64) x229, .dat (.int .i64) x230, .dat (.int .i64) x231, .dat (.int .i64) x232, .dat (.int .i64) x233], [some (.box [.dat (.int .i64) x227, .dat (.int .i64) x228, .dat (.int .i64) x229, .dat (.int .i64) x230, .dat (.int .i64) x231, .dat (.int .i64) x232, .dat (.int .i64) x233, .dat (.int .i64) x227, .dat (.int .i64) x228, .dat (.int .i64) x229, .dat (.int .i64) x230, .dat (.int .i64) x231, .dat (.int .i64) x232, .dat (.int .i64) x233])])⟩
  | _, _ => Ans.no

theorem impl_flatCounts_aroundRoots_sound : Sound Try.prog 30 F_impl_flatCounts_aroundRoots := by
  refine fn_sound' (C := impl_flatCounts_aroundRoots_ctx) (c := bodyOf Try.f30) (cok_of tys_ok (by simp) (by simp) (by kernel_rfl)) Try.func30 (by kernel_rfl) LL impl_flatCounts_aroundRoots_an ?_
  intro avs H r H' h
  unfold F_impl_flatCounts_aroundRoots at h
  split at h
  · refine Awp.cast ?_ ?_ ?_ (impl_flatCounts_aroundRoots_e _ _ _ _ _ _ _ _ _ _ _ _ _ _ h) <;> kernel_rfl
  · simp [Ans.no, Ans.run] at h

/-! (loop.example/headtrees/impl.joins).below -/

def impl_joins_below_an : Ann := (.seq (.leaf [1, 2, 3]) (.seq (.leaf [1, 2, 3, 7]) (.seq (.seq (.leaf [1, 3, 7, 9, 10]) (.block (.loop (.seq (.leaf [1, 3, 7, 9, 10, 11]) (.seq (.cond (.leaf [1, 3, 7, 9, 10]) (.leaf [7])) (.seq (.block (.seq (.leaf [1, 3, 7, 8, 9, 10]) (.draw [] [0, 1, 2, 3, 4, 5, 6, 7, 8, 9, 10, 11, 12, 13] [] [1, 3, 7, 9, 10]))) (.leaf [1, 3, 7, 9, 10]))))))) (.seq (.leaf [6]) (.leaf [6])))))

noncomputable def impl_joins_below_ctx : Ctx := ⟨tlook tys, olook [], ioF, 0⟩

theorem impl_joins_below_n1_l (x252 : Int) (x253 : Int) (x254 : Int) (x255 : Int) (x256 : Int) (x257 : Int) (x258 : Int) (x259 : Int) (x260 : Int) (x261 : Int) (x262 : Int) (x263 : Int) (x264 : Int) (x265 : Int) (x266 : Int) (x267 : Int) : Link impl_joins_below_ctx LL (Code.seq (Code.fst (bodyOf Try.f38)) (Code.fst (Code.snd (bodyOf Try.f38)))) (Ann.seq (Ann.fst impl_joins_below_an) (Ann.fst (Ann.snd impl_joins_below_an))) (⟨mkE 28 0 [(0, .agg [.dat (.int .i64) x252, .dat (.int .i64) x253, .dat (.int .i64) x254, .dat (.int .i64) x255, .dat (.int .i64) x256, .dat (.int .i64) x257, .dat (.int .i64) x258, .dat (.int .i64) x259, .dat (.int .i64) x260, .dat (.int .i64) x261, .dat (.int .i64) x262, .dat (.int .i64) x263, .dat (.int .i64) x264, .dat (.int .i64) x265]), (1, .dat (.int .i64) x266), (2, .dat (.int .i64) x267)], []⟩ : St) (impl_joins_below_n1) (fun (t : Unit) => (Exit.normal, (⟨mkE 28 0 [(1, .dat (.int .i64) x266), (2, .dat (.int .i64) x267), (3, .ptr 0 0), (7, .dat (.int .i64) 0)], [some (.box [.dat (.int .i64) x252, .dat (.int .i64) x253, .dat (.int .i64) x254, .dat (.int .i64) x255, .dat (.int .i64) x256, .dat (.int .i64) x257, .dat (.int .i64) x258, .dat (.int .i64) x259, .dat (.int .i64) x260, .dat (.int .i64) x261, .dat (.int .i64) x262, .dat (.int .i64) x263, .dat (.int .i64) x264, .dat (.int .i64) x265])]⟩ : St))) := by
  refine Link.of fun K h => ?_
  simp only [impl_joins_below_n1, wpO_bind, wpO_cond, wpO_map, wpO_some] at h
  exact Awp.of (by kernel_rfl) h

theorem impl_joins_below_n2_l (x266 : Int) (x267 : Int) (x252 : Int) (x253 : Int) (x254 : Int) (x255 : Int) (x256 : Int) (x257 : Int) (x258 : Int) (x259 : Int) (x260 : Int) (x261 : Int) (x262 : Int) (x263 : Int) (x264 : Int) (x265 : Int) : Link impl_joins_below_ctx LL (Code.fst (Code.fst (Code.snd (Code.snd (bodyOf Try.f38))))) (Ann.fst (Ann.fst (Ann.snd (Ann.snd impl_joins_below_an)))) (⟨mkE 28 0 [(1, .dat (.int .i64) x266), (2, .dat (.int .i64) x267), (3, .ptr 0 0), (7, .dat (.int .i64) 0)], [some (.box [.dat (.int .i64) x252, .dat (.int .i64) x253, .dat (.int .i64) x254, .dat (.int .i64) x255, .dat (.int .i64) x256, .dat (.int .i64) x257, .dat (.int .i64) x258, .dat (.int .i64) x259, .dat (.int .i64) x260, .dat (.int .i64) x261, .dat (.int .i64) x262, .dat (.int .i64) x263, .dat (.int .i64) x264, .dat (.int .i64) x265])]⟩ : St) (impl_joins_below_n2) (fun (t : Unit) => (Exit.normal, (⟨mkE 28 0 [(1, .dat (.int .i64) x266), (3, .ptr 0 0), (7, .dat (.int .i64) 0), (9, .dat (.int .i64) x267), (10, .dat (.int .i64) 0)], [some (.box [.dat (.int .i64) x252, .dat (.int .i64) x253, .dat (.int .i64) x254, .dat (.int .i64) x255, .dat (.int .i64) x256, .dat (.int .i64) x257, .dat (.int .i64) x258, .dat (.int .i64) x259, .dat (.int .i64) x260, .dat (.int .i64) x261, .dat (.int .i64) x262, .dat (.int .i64) x263, .dat (.int .i64) x264, .dat (.int .i64) x265])]⟩ : St))) := by
  refine Link.of fun K h => ?_
  simp only [impl_joins_below_n2, wpO_bind, wpO_cond, wpO_map, wpO_some] at h
  exact Awp.of (by kernel_rfl) h

theorem impl_joins_below_n3_l (x266 : Int) (x287 : Int) (x267 : Int) (x288 : Int) (x252 : Int) (x253 : Int) (x254 : Int) (x255 : Int) (x256 : Int) (x257 : Int) (x258 : Int) (x259 : Int) (x260 : Int) (x261 : Int) (x262 : Int) (x263 : Int) (x264 : Int) (x265 : Int) : Link impl_joins_below_ctx LL (Code.fst (Code.fst (Code.snd (Code.fst (Code.snd (Code.snd (bodyOf Try.f38))))))) (Ann.fst (Ann.fst (Ann.snd (Ann.fst (Ann.snd (Ann.snd impl_joins_below_an)))))) (⟨mkE 28 0 [(1, .dat (.int .i64) x266), (3, .ptr 0 0), (7, .dat (.int .i64) x287), (9, .dat (.int .i64) x267), (10, .dat (.int .i64) x288)], [some (.box [.dat (.int .i64) x252, .dat (.int .i64) x253, .dat (.int .i64) x254, .dat (.int .i64) x255, .dat (.int .i64) x256, .dat (.int .i64) x257, .dat (.int .i64) x258, .dat (.int .i64) x259, .dat (.int .i64) x260, .dat (.int .i64) x261, .dat (.int .i64) x262, .dat (.int .i64) x263, .dat (.int .i64) x264, .dat (.int .i64) x265])]⟩ : St) (impl_joins_below_n3 x266 x287 x267 x288 x252 x253 x254 x255 x256 x257 x258 x259 x260 x261 x262 x263 x264 x265) (Sum.elim (fun (t : Int × Int) => (Exit.normal, (⟨mkE 28 0 [(1, .dat (.int .i64) x266), (3, .ptr 0 0), (7, .dat (.int .i64) t.1), (9, .dat (.int .i64) x267), (10, .dat (.int .i64) t.2)], [some (.box [.dat (.int .i64) x252, .dat (.int .i64) x253, .dat (.int .i64) x254, .dat (.int .i64) x255, .dat (.int .i64) x256, .dat (.int .i64) x257, .dat (.int .i64) x258, .dat (.int .i64) x259, .dat (.int .i64) x260, .dat (.int .i64) x261, .dat (.int .i64) x262, .dat (.int .i64) x263, .dat (.int .i64) x264, .dat (.int .i64) x265])]⟩ : St))) (fun (t : Int) => ((Exit.exit 0), (⟨mkE 28 0 [(7, .dat (.int .i64) t)], []⟩ : St)))) := by
  refine Link.of fun K h => ?_
  simp only [impl_joins_below_n3, wpO_bind, wpO_cond, wpO_map, wpO_some] at h
  exact Awp.of (by kernel_rfl) h

theorem impl_joins_below_n4_l (x266 : Int) (x267 : Int) (x252 : Int) (x253 : Int) (x254 : Int) (x255 : Int) (x256 : Int) (x257 : Int) (x258 : Int) (x259 : Int) (x260 : Int) (x261 : Int) (x262 : Int) (x263 : Int) (x264 : Int) (x265 : Int) : Link impl_joins_below_ctx LL (Code.fst (Code.snd (Code.fst (Code.snd (Code.snd (bodyOf Try.f38)))))) (Ann.fst (Ann.snd (Ann.fst (Ann.snd (Ann.snd impl_joins_below_an))))) (⟨mkE 28 0 [(1, .dat (.int .i64) x266), (3, .ptr 0 0), (7, .dat (.int .i64) 0), (9, .dat (.int .i64) x267), (10, .dat (.int .i64) 0)], [some (.box [.dat (.int .i64) x252, .dat (.int .i64) x253, .dat (.int .i64) x254, .dat (.int .i64) x255, .dat (.int .i64) x256, .dat (.int .i64) x257, .dat (.int .i64) x258, .dat (.int .i64) x259, .dat (.int .i64) x260, .dat (.int .i64) x261, .dat (.int .i64) x262, .dat (.int .i64) x263, .dat (.int .i64) x264, .dat (.int .i64) x265])]⟩ : St) (impl_joins_below_n4 x266 x267 x252 x253 x254 x255 x256 x257 x258 x259 x260 x261 x262 x263 x264 x265) (fun (t : Int) => ((Exit.exit 0), (⟨mkE 28 0 [(7, .dat (.int .i64) t)], []⟩ : St))) := by
  unfold impl_joins_below_n4
  exact Link.cast (by kernel_rfl) (by kernel_rfl) (link_loop (mk := fun (s : Int × Int) => (⟨mkE 28 0 [(1, .dat (.int .i64) x266), (3, .ptr 0 0), (7, .dat (.int .i64) s.1), (9, .dat (.int .i64) x267), (10, .dat (.int .i64) s.2)], [some (.box [.dat (.int .i64) x252, .dat (.int .i64) x253, .dat (.int .i64) x254, .dat (.int .i64) x255, .dat (.int .i64) x256, .dat (.int .i64) x257, .dat (.int .i64) x258, .dat (.int .i64) x259, .dat (.int .i64) x260, .dat (.int .i64) x261, .dat (.int .i64) x262, .dat (.int .i64) x263, .dat (.int .i64) x264, .dat (.int .i64) x265])]⟩ : St)) (fin := (fun (t : Int) => ((Exit.exit 0), (⟨mkE 28 0 [(7, .dat (.int .i64) t)], []⟩ : St)))) (by
  rintro t f K h
  · exact h) (fun s => link_map (impl_joins_below_n3_l x266 s.1 x267 s.2 x252 x253 x254 x255 x256 x257 x258 x259 x260 x261 x262 x263 x264 x265) (Sum.elim (fun (t : Int × Int) => Sum.inl (t.1, t.2)) (fun (t : Int) => Sum.inr t)) (by
  rintro (t | t)
  · kernel_rfl
  · kernel_rfl)) (0, 0))

theorem impl_joins_below_n5_l (x266 : Int) (x267 : Int) (x252 : Int) (x253 : Int) (x254 : Int) (x255 : Int) (x256 : Int) (x257 : Int) (x258 : Int) (x259 : Int) (x260 : Int) (x261 : Int) (x262 : Int) (x263 : Int) (x264 : Int) (x265 : Int) : Link impl_joins_below_ctx LL (Code.snd (Code.fst (Code.snd (Code.snd (bodyOf Try.f38))))) (Ann.snd (Ann.fst (Ann.snd (Ann.snd impl_joins_below_an)))) (⟨mkE 28 0 [(1, .dat (.int .i64) x266), (3, .ptr 0 0), (7, .dat (.int .i64) 0), (9, .dat (.int .i64) x267), (10, .dat (.int .i64) 0)], [some (.box [.dat (.int .i64) x252, .dat (.int .i64) x253, .dat (.int .i64) x254, .dat (.int .i64) x255, .dat (.int .i64) x256, .dat (.int .i64) x257, .dat (.int .i64) x258, .dat (.int .i64) x259, .dat (.int .i64) x260, .dat (.int .i64) x261, .dat (.int .i64) x262, .dat (.int .i64) x263, .dat (.int .i64) x264, .dat (.int .i64) x265])]⟩ : St) (impl_joins_below_n5 x266 x267 x252 x253 x254 x255 x256 x257 x258 x259 x260 x261 x262 x263 x264 x265) (fun (t : Int) => (Exit.normal, (⟨mkE 28 0 [(7, .dat (.int .i64) t)], []⟩ : St))) := by
  unfold impl_joins_below_n5
  exact Link.cast (by kernel_rfl) (by kernel_rfl) (link_block (id := 0) (impl_joins_below_n4_l x266 x267 x252 x253 x254 x255 x256 x257 x258 x259 x260 x261 x262 x263 x264 x265) (fun (t : Int) => t) (by
  rintro t K h
  · exact Eq.mp (by kernel_rfl) h))

theorem impl_joins_below_n6_l (x266 : Int) (x267 : Int) (x252 : Int) (x253 : Int) (x254 : Int) (x255 : Int) (x256 : Int) (x257 : Int) (x258 : Int) (x259 : Int) (x260 : Int) (x261 : Int) (x262 : Int) (x263 : Int) (x264 : Int) (x265 : Int) : Link impl_joins_below_ctx LL (Code.fst (Code.snd (Code.snd (bodyOf Try.f38)))) (Ann.fst (Ann.snd (Ann.snd impl_joins_below_an))) (⟨mkE 28 0 [(1, .dat (.int .i64) x266), (2, .dat (.int .i64) x267), (3, .ptr 0 0), (7, .dat (.int .i64) 0)], [some (.box [.dat (.int .i64) x252, .dat (.int .i64) x253, .dat (.int .i64) x254, .dat (.int .i64) x255, .dat (.int .i64) x256, .dat (.int .i64) x257, .dat (.int .i64) x258, .dat (.int .i64) x259, .dat (.int .i64) x260, .dat (.int .i64) x261, .dat (.int .i64) x262, .dat (.int .i64) x263, .dat (.int .i64) x264, .dat (.int .i64) x265])]⟩ : St) (impl_joins_below_n6 x266 x267 x252 x253 x254 x255 x256 x257 x258 x259 x260 x261 x262 x263 x264 x265) (fun (t : Int) => (Exit.normal, (⟨mkE 28 0 [(7, .dat (.int .i64) t)], []⟩ : St))) := by
  unfold impl_joins_below_n6
  exact Link.cast (by kernel_rfl) (by kernel_rfl) (link_seq (b := (Code.snd (Code.fst (Code.snd (Code.snd (bodyOf Try.f38)))))) (y := (Ann.snd (Ann.fst (Ann.snd (Ann.snd impl_joins_below_an))))) (impl_joins_below_n2_l x266 x267 x252 x253 x254 x255 x256 x257 x258 x259 x260 x261 x262 x263 x264 x265) (fun (t : Unit) => (impl_joins_below_n5_l x266 x267 x252 x253 x254 x255 x256 x257 x258 x259 x260 x261 x262 x263 x264 x265)))

theorem impl_joins_below_n7_l (x287 : Int) : Link impl_joins_below_ctx LL (Code.snd (Code.snd (Code.snd (bodyOf Try.f38)))) (Ann.snd (Ann.snd (Ann.snd impl_joins_below_an))) (⟨mkE 28 0 [(7, .dat (.int .i64) x287)], []⟩ : St) (impl_joins_below_n7 x287) (fun (t : Int) => (Exit.ret, (⟨mkE 28 0 [(6, .dat (.int .i64) t)], []⟩ : St))) := by
  refine Link.of fun K h => ?_
  simp only [impl_joins_below_n7, wpO_bind, wpO_cond, wpO_map, wpO_some] at h
  exact Awp.of (by kernel_rfl) h

theorem impl_joins_below_n8_l (x266 : Int) (x267 : Int) (x252 : Int) (x253 : Int) (x254 : Int) (x255 : Int) (x256 : Int) (x257 : Int) (x258 : Int) (x259 : Int) (x260 : Int) (x261 : Int) (x262 : Int) (x263 : Int) (x264 : Int) (x265 : Int) : Link impl_joins_below_ctx LL (Code.snd (Code.snd (bodyOf Try.f38))) (Ann.snd (Ann.snd impl_joins_below_an)) (⟨mkE 28 0 [(1, .dat (.int .i64) x266), (2, .dat (.int .i64) x267), (3, .ptr 0 0), (7, .dat (.int .i64) 0)], [some (.box [.dat (.int .i64) x252, .dat (.int .i64) x253, .dat (.int .i64) x254, .dat (.int .i64) x255, .dat (.int .i64) x256, .dat (.int .i64) x257, .dat (.int .i64) x258, .dat (.int .i64) x259, .dat (.int .i64) x260, .dat (.int .i64) x261, .dat (.int .i64) x262, .dat (.int .i64) x263, .dat (.int .i64) x264, .dat (.int .i64) x265])]⟩ : St) (impl_joins_below_n8 x266 x267 x252 x253 x254 x255 x256 x257 x258 x259 x260 x261 x262 x263 x264 x265) (fun (t : Int) => (Exit.ret, (⟨mkE 28 0 [(6, .dat (.int .i64) t)], []⟩ : St))) := by
  unfold impl_joins_below_n8
  exact Link.cast (by kernel_rfl) (by kernel_rfl) (link_seq (b := (Code.snd (Code.snd (Code.snd (bodyOf Try.f38))))) (y := (Ann.snd (Ann.snd (Ann.snd impl_joins_below_an)))) (impl_joins_below_n6_l x266 x267 x252 x253 x254 x255 x256 x257 x258 x259 x260 x261 x262 x263 x264 x265) (fun (t : Int) => (impl_joins_below_n7_l t)))

theorem impl_joins_below_n9_l (x252 : Int) (x253 : Int) (x254 : Int) (x255 : Int) (x256 : Int) (x257 : Int) (x258 : Int) (x259 : Int) (x260 : Int) (x261 : Int) (x262 : Int) (x263 : Int) (x264 : Int) (x265 : Int) (x266 : Int) (x267 : Int) : Link impl_joins_below_ctx LL (bodyOf Try.f38) impl_joins_below_an (⟨mkE 28 0 [(0, .agg [.dat (.int .i64) x252, .dat (.int .i64) x253, .dat (.int .i64) x254, .dat (.int .i64) x255, .dat (.int .i64) x256, .dat (.int .i64) x257, .dat (.int .i64) x258, .dat (.int .i64) x259, .dat (.int .i64) x260, .dat (.int .i64) x261, .dat (.int .i64) x262, .dat (.int .i64) x263, .dat (.int .i64) x264, .dat (.int .i64) x265]), (1, .dat (.int .i64) x266), (2, .dat (.int .i64) x267)], []⟩ : St) (impl_joins_below_n9 x252 x253 x254 x255 x256 x257 x258 x259 x260 x261 x262 x263 x264 x265 x266 x267) (fun (t : Int) => (Exit.ret, (⟨mkE 28 0 [(6, .dat (.int .i64) t)], []⟩ : St))) := by
  unfold impl_joins_below_n9
  exact Link.cast (by kernel_rfl) (by kernel_rfl) (link_group (c := (Code.fst (Code.snd (bodyOf Try.f38)))) (a := (Ann.fst (Ann.snd impl_joins_below_an))) [(Code.fst (bodyOf Try.f38))] [(Ann.fst impl_joins_below_an)] rfl (link_seq (b := (Code.snd (Code.snd (bodyOf Try.f38)))) (y := (Ann.snd (Ann.snd impl_joins_below_an))) (impl_joins_below_n1_l x252 x253 x254 x255 x256 x257 x258 x259 x260 x261 x262 x263 x264 x265 x266 x267) (fun (t : Unit) => (impl_joins_below_n8_l x266 x267 x252 x253 x254 x255 x256 x257 x258 x259 x260 x261 x262 x263 x264 x265))))

theorem impl_joins_below_e (x252 : Int) (x253 : Int) (x254 : Int) (x255 : Int) (x256 : Int) (x257 : Int) (x258 : Int) (x259 : Int) (x260 : Int) (x261 : Int) (x262 : Int) (x263 : Int) (x264 : Int) (x265 : Int) (x266 : Int) (x267 : Int) {r : AV} {H' : Heap} (h : (Ans.mk _ (impl_joins_below x252 x253 x254 x255 x256 x257 x258 x259 x260 x261 x262 x263 x264 x265 x266 x267) (fun (t : Int) => (.dat (.int .i64) t, []))).run = some (r, H')) : Awp impl_joins_below_ctx LL (bodyOf Try.f38) impl_joins_below_an (⟨mkE 28 0 [(0, .agg [.dat (.int .i64) x252, .dat (.int .i64) x253, .dat (.int .i64) x254, .dat (.int .i64) x255, .dat (.int .i64) x256, .dat (.int .i64) x257, .dat (.int .i64) x258, .dat (.int .i64) x259, .dat (.int .i64) x260, .dat (.int .i64) x261, .dat (.int .i64) x262, .dat (.int .i64) x263, .dat (.int .i64) x264, .dat (.int .i64) x265]), (1, .dat (.int .i64) x266), (2, .dat (.int .i64) x267)], []⟩ : St) (Ret (tlook tys) Try.f38.results.toList r H') :=
  ret_of' (impl_joins_below_n9_l x252 x253 x254 x255 x256 x257 x258 x259 x260 x261 x262 x263 x264 x265 x266 x267) (by unfold impl_joins_below; kernel_rfl) (by
  intro t
  exact ret_mk [.dat (.int .i64) t] (by kernel_rfl) (by kernel_rfl) (by kernel_rfl) (by kernel_rfl)) h

def F_impl_joins_below : Fun := fun avs H =>
  match avs, H with
  | [.agg [.dat (.int .i64) x252, .dat (.int .i64) x253, .dat (.int .i64) x254, .dat (.int .i64) x255, .dat (.int .i64) x256, .dat (.int .i64) x257, .dat (.int .i64) x258, .dat (.int .i64) x259, .dat (.int .i64) x260, .dat (.int .i64) x261, .dat (.int .i64) x262, .dat (.int .i64) x263, .dat (.int .i64) x264, .dat (.int .i64) x265], .dat (.int .i64) x266, .dat (.int .i64) x267], [] => ⟨_, impl_joins_below x252 x253 x254 x255 x256 x257 x258 x259 x260 x261 x262 x263 x264 x265 x266 x267, fun (t : Int) => (.dat (.int .i64) t, [])⟩
  | _, _ => Ans.no

theorem impl_joins_below_sound : Sound Try.prog 38 F_impl_joins_below := by
  refine fn_sound' (C := impl_joins_below_ctx) (c := bodyOf Try.f38) (cok_of tys_ok (by simp) (by simp) (by kernel_rfl)) Try.func38 (by kernel_rfl) LL impl_joins_below_an ?_
  intro avs H r H' h
  unfold F_impl_joins_below at h
  split at h
  · refine Awp.cast ?_ ?_ ?_ (impl_joins_below_e _ _ _ _ _ _ _ _ _ _ _ _ _ _ _ _ h) <;> kernel_rfl
  · simp [Ans.no, Ans.run] at h

/-! (loop.example/headtrees/impl.joins).count -/

def impl_joins_count_an : Ann := (.seq (.leaf [1, 2]) (.seq (.leaf [4]) (.leaf [4])))

noncomputable def impl_joins_count_ctx : Ctx := ⟨tlook tys, olook [(38, F_impl_joins_below)], ioF, 0⟩

theorem impl_joins_count_n1_l (x236 : Int) (x237 : Int) (x238 : Int) (x239 : Int) (x240 : Int) (x241 : Int) (x242 : Int) (x243 : Int) (x244 : Int) (x245 : Int) (x246 : Int) (x247 : Int) (x248 : Int) (x249 : Int) (x250 : Int) : Link impl_joins_count_ctx LL (bodyOf Try.f31) impl_joins_count_an (⟨mkE 10 0 [(0, .agg [.dat (.int .i64) x236, .dat (.int .i64) x237, .dat (.int .i64) x238, .dat (.int .i64) x239, .dat (.int .i64) x240, .dat (.int .i64) x241, .dat (.int .i64) x242, .dat (.int .i64) x243, .dat (.int .i64) x244, .dat (.int .i64) x245, .dat (.int .i64) x246, .dat (.int .i64) x247, .dat (.int .i64) x248, .dat (.int .i64) x249]), (1, .dat (.int .i64) x250)], []⟩ : St) (impl_joins_count_n1 x236 x237 x238 x239 x240 x241 x242 x243 x244 x245 x246 x247 x248 x249 x250) (fun (t : Int) => (Exit.ret, (⟨mkE 10 0 [(4, .dat (.int .i64) t)], []⟩ : St))) := by
  refine Link.of fun K h => ?_
  simp only [impl_joins_count_n1, wpO_bind, wpO_cond, wpO_map, wpO_some] at h
  exact Awp.of (by kernel_rfl) h

theorem impl_joins_count_e (x236 : Int) (x237 : Int) (x238 : Int) (x239 : Int) (x240 : Int) (x241 : Int) (x242 : Int) (x243 : Int) (x244 : Int) (x245 : Int) (x246 : Int) (x247 : Int) (x248 : Int) (x249 : Int) (x250 : Int) {r : AV} {H' : Heap} (h : (Ans.mk _ (impl_joins_count x236 x237 x238 x239 x240 x241 x242 x243 x244 x245 x246 x247 x248 x249 x250) (fun (t : Int) => (.dat (.int .i64) t, []))).run = some (r, H')) : Awp impl_joins_count_ctx LL (bodyOf Try.f31) impl_joins_count_an (⟨mkE 10 0 [(0, .agg [.dat (.int .i64) x236, .dat (.int .i64) x237, .dat (.int .i64) x238, .dat (.int .i64) x239, .dat (.int .i64) x240, .dat (.int .i64) x241, .dat (.int .i64) x242, .dat (.int .i64) x243, .dat (.int .i64) x244, .dat (.int .i64) x245, .dat (.int .i64) x246, .dat (.int .i64) x247, .dat (.int .i64) x248, .dat (.int .i64) x249]), (1, .dat (.int .i64) x250)], []⟩ : St) (Ret (tlook tys) Try.f31.results.toList r H') :=
  ret_of' (impl_joins_count_n1_l x236 x237 x238 x239 x240 x241 x242 x243 x244 x245 x246 x247 x248 x249 x250) (by unfold impl_joins_count; kernel_rfl) (by
  intro t
  exact ret_mk [.dat (.int .i64) t] (by kernel_rfl) (by kernel_rfl) (by kernel_rfl) (by kernel_rfl)) h

def F_impl_joins_count : Fun := fun avs H =>
  match avs, H with
  | [.agg [.dat (.int .i64) x236, .dat (.int .i64) x237, .dat (.int .i64) x238, .dat (.int .i64) x239, .dat (.int .i64) x240, .dat (.int .i64) x241, .dat (.int .i64) x242, .dat (.int .i64) x243, .dat (.int .i64) x244, .dat (.int .i64) x245, .dat (.int .i64) x246, .dat (.int .i64) x247, .dat (.int .i64) x248, .dat (.int .i64) x249], .dat (.int .i64) x250], [] => ⟨_, impl_joins_count x236 x237 x238 x239 x240 x241 x242 x243 x244 x245 x246 x247 x248 x249 x250, fun (t : Int) => (.dat (.int .i64) t, [])⟩
  | _, _ => Ans.no

theorem impl_joins_count_sound : Sound Try.prog 31 F_impl_joins_count := by
  refine fn_sound' (C := impl_joins_count_ctx) (c := bodyOf Try.f31) (cok_of tys_ok (List.forall_mem_cons.2 ⟨impl_joins_below_sound, by simp⟩) (List.forall_mem_cons.2 ⟨Try.call38, by simp⟩) (by kernel_rfl)) Try.func31 (by kernel_rfl) LL impl_joins_count_an ?_
  intro avs H r H' h
  unfold F_impl_joins_count at h
  split at h
  · refine Awp.cast ?_ ?_ ?_ (impl_joins_count_e _ _ _ _ _ _ _ _ _ _ _ _ _ _ _ h) <;> kernel_rfl
  · simp [Ans.no, Ans.run] at h

/-! (loop.example/headtrees/impl.flatCounts).inRows -/

def impl_flatCounts_inRows_an : Ann := (.seq (.leaf [1, 2]) (.seq (.leaf [2]) (.leaf [2])))

noncomputable def impl_flatCounts_inRows_ctx : Ctx := ⟨tlook tys, olook [], ioF, 0⟩

theorem impl_flatCounts_inRows_n1_l (x328 : Int) (x329 : Int) (x330 : Int) (x331 : Int) (x332 : Int) (x333 : Int) (x334 : Int) (x335 : Int) (x336 : Int) (x337 : Int) (x338 : Int) (x339 : Int) (x340 : Int) (x341 : Int) : Link impl_flatCounts_inRows_ctx LL (bodyOf Try.f32) impl_flatCounts_inRows_an (⟨mkE 8 0 [(0, .agg [.dat (.int .i64) x328, .dat (.int .i64) x329, .dat (.int .i64) x330, .dat (.int .i64) x331, .dat (.int .i64) x332, .dat (.int .i64) x333, .dat (.int .i64) x334, .dat (.int .i64) x335, .dat (.int .i64) x336, .dat (.int .i64) x337, .dat (.int .i64) x338, .dat (.int .i64) x339, .dat (.int .i64) x340, .dat (.int .i64) x341])], []⟩ : St) (impl_flatCounts_inRows_n1) (fun (t : Unit) => (Exit.ret, (⟨mkE 8 0 [(2, .ptr 0 0)], [some (.box [.dat (.int .i64) x328, .dat (.int .i64) x329, .dat (.int .i64) x330, .dat (.int .i64) x331, .dat (.int .i64) x332, .dat (.int .i64) x333, .dat (.int .i64) x334, .dat (.int .i64) x335, .dat (.int .i64) x336, .dat (.int .i64) x337, .dat (.int .i64) x338, .dat (.int .i64) x339, .dat (.int .i64) x340, .dat (.int .i64) x341])]⟩ : St))) := by
  refine Link.of fun K h => ?_
  simp only [impl_flatCounts_inRows_n1, wpO_bind, wpO_cond, wpO_map, wpO_some] at h
  exact Awp.of (by kernel_rfl) h

theorem impl_flatCounts_inRows_e (x328 : Int) (x329 : Int) (x330 : Int) (x331 : Int) (x332 : Int) (x333 : Int) (x334 : Int) (x335 : Int) (x336 : Int) (x337 : Int) (x338 : Int) (x339 : Int) (x340 : Int) (x341 : Int) {r : AV} {H' : Heap} (h : (Ans.mk _ (impl_flatCounts_inRows x328 x329 x330 x331 x332 x333 x334 x335 x336 x337 x338 x339 x340 x341) (fun (t : Unit) => (.agg [.dat (.int .i64) x328, .dat (.int .i64) x329, .dat (.int .i64) x330, .dat (.int .i64) x331, .dat (.int .i64) x332, .dat (.int .i64) x333, .dat (.int .i64) x334, .dat (.int .i64) x335, .dat (.int .i64) x336, .dat (.int .i64) x337, .dat (.int .i64) x338, .dat (.int .i64) x339, .dat (.int .i64) x340, .dat (.int .i64) x341], [some (.box [.dat (.int .i64) x328, .dat (.int .i64) x329, .dat (.int .i64) x330, .dat (.int .i64) x331, .dat (.int .i64) x332, .dat (.int .i64) x333, .dat (.int .i64) x334, .dat (.int .i64) x335, .dat (.int .i64) x336, .dat (.int .i64) x337, .dat (.int .i64) x338, .dat (.int .i64) x339, .dat (.int .i64) x340, .dat (.int .i64) x341])]))).run = some (r, H')) : Awp impl_flatCounts_inRows_ctx LL (bodyOf Try.f32) impl_flatCounts_inRows_an (⟨mkE 8 0 [(0, .agg [.dat (.int .i64) x328, .dat (.int .i64) x329, .dat (.int .i64) x330, .dat (.int .i64) x331, .dat (.int .i64) x332, .dat (.int .i64) x333, .dat (.int .i64) x334, .dat (.int .i64) x335, .dat (.int .i64) x336, .dat (.int .i64) x337, .dat (.int .i64) x338, .dat (.int .i64) x339, .dat (.int .i64) x340, .dat (.int .i64) x341])], []⟩ : St) (Ret (tlook tys) Try.f32.results.toList r H') :=
  ret_of' (impl_flatCounts_inRows_n1_l x328 x329 x330 x331 x332 x333 x334 x335 x336 x337 x338 x339 x340 x341) (by unfold impl_flatCounts_inRows; kernel_rfl) (by
  intro t
  exact ret_mk [.agg [.dat (.int .i64) x328, .dat (.int .i64) x329, .dat (.int .i64) x330, .dat (.int .i64) x331, .dat (.int .i64) x332, .dat (.int .i64) x333, .dat (.int .i64) x334, .dat (.int .i64) x335, .dat (.int .i64) x336, .dat (.int .i64) x337, .dat (.int .i64) x338, .dat (.int .i64) x339, .dat (.int .i64) x340, .dat (.int .i64) x341]] (by kernel_rfl) (by kernel_rfl) (by kernel_rfl) (by kernel_rfl)) h

def F_impl_flatCounts_inRows : Fun := fun avs H =>
  match avs, H with
  | [.agg [.dat (.int .i64) x328, .dat (.int .i64) x329, .dat (.int .i64) x330, .dat (.int .i64) x331, .dat (.int .i64) x332, .dat (.int .i64) x333, .dat (.int .i64) x334, .dat (.int .i64) x335, .dat (.int .i64) x336, .dat (.int .i64) x337, .dat (.int .i64) x338, .dat (.int .i64) x339, .dat (.int .i64) x340, .dat (.int .i64) x341]], [] => ⟨_, impl_flatCounts_inRows x328 x329 x330 x331 x332 x333 x334 x335 x336 x337 x338 x339 x340 x341, fun (t : Unit) => (.agg [.dat (.int .i64) x328, .dat (.int .i64) x329, .dat (.int .i64) x330, .dat (.int .i64) x331, .dat (.int .i64) x332, .dat (.int .i64) x333, .dat (.int .i64) x334, .dat (.int .i64) x335, .dat (.int .i64) x336, .dat (.int .i64) x337, .dat (.int .i64) x338, .dat (.int .i64) x339, .dat (.int .i64) x340, .dat (.int .i64) x341], [some (.box [.dat (.int .i64) x328, .dat (.int .i64) x329, .dat (.int .i64) x330, .dat (.int .i64) x331, .dat (.int .i64) x332, .dat (.int .i64) x333, .dat (.int .i64) x334, .dat (.int .i64) x335, .dat (.int .i64) x336, .dat (.int .i64) x337, .dat (.int .i64) x338, .dat (.int .i64) x339, .dat (.int .i64) x340, .dat (.int .i64) x341])])⟩
  | _, _ => Ans.no

theorem impl_flatCounts_inRows_sound : Sound Try.prog 32 F_impl_flatCounts_inRows := by
  refine fn_sound' (C := impl_flatCounts_inRows_ctx) (c := bodyOf Try.f32) (cok_of tys_ok (by simp) (by simp) (by kernel_rfl)) Try.func32 (by kernel_rfl) LL impl_flatCounts_inRows_an ?_
  intro avs H r H' h
  unfold F_impl_flatCounts_inRows at h
  split at h
  · refine Awp.cast ?_ ?_ ?_ (impl_flatCounts_inRows_e _ _ _ _ _ _ _ _ _ _ _ _ _ _ h) <;> kernel_rfl
  · simp [Ans.no, Ans.run] at h

/-! loop.example/headtrees/impl.countFlatParts -/

def impl_countFlatParts_an : Ann := (.seq (.leaf [0]) (.seq (.leaf [0, 1]) (.seq (.leaf [0, 1]) (.seq (.seq (.leaf [0, 1, 2]) (.block (.loop (.seq (.seq (.leaf [0, 1, 2, 6]) (.cond (.leaf [0, 1, 2]) (.leaf [0, 1]))) (.seq (.block (.seq (.leaf [0, 1, 2]) (.leaf [0, 1, 2]))) (.leaf [0, 1, 2])))))) (.seq (.leaf [0]) (.leaf [0]))))))

noncomputable def impl_countFlatParts_ctx : Ctx := ⟨tlook tys, olook [(30, F_impl_flatCounts_aroundRoots), (31, F_impl_joins_count), (32, F_impl_flatCounts_inRows)], ioF, 0⟩

theorem impl_countFlatParts_n1_l : Link impl_countFlatParts_ctx LL (Code.seq (Code.fst (bodyOf Try.f23)) (Code.seq (Code.fst (Code.snd (bodyOf Try.f23))) (Code.fst (Code.snd (Code.snd (bodyOf Try.f23)))))) (Ann.seq (Ann.fst impl_countFlatParts_an) (Ann.seq (Ann.fst (Ann.snd impl_countFlatParts_an)) (Ann.fst (Ann.snd (Ann.snd impl_countFlatParts_an))))) (⟨mkE 25 0 [], []⟩ : St) (impl_countFlatParts_n1) (fun (t : Int × Int × Int × Int × Int × Int × Int) => (Exit.normal, (⟨mkE 25 0 [(0, .ptr 0 0), (1, .ptr 1 0)], [some (.box [.dat (.int .i64) 0, .dat (.int .i64) 0, .dat (.int .i64) 0, .dat (.int .i64) 0, .dat (.int .i64) 0, .dat (.int .i64) 0, .dat (.int .i64) 0, .dat (.int .i64) 0, .dat (.int .i64) 0, .dat (.int .i64) 0, .dat (.int .i64) 0, .dat (.int .i64) 0, .dat (.int .i64) 0, .dat (.int .i64) 0]), some (.box [.dat (.int .i64) 0, .dat (.int .i64) 0, .dat (.int .i64) 0, .dat (.int .i64) 0, .dat (.int .i64) 0, .dat (.int .i64) 0, .dat (.int .i64) 0, .dat (.int .i64) t.1, .dat (.int .i64) t.2.1, .dat (.int .i64) t.2.2.1, .dat (.int .i64) t.2.2.2.1, .dat (.int .i64) t.2.2.2.2.1, .dat (.int .i64) t.2.2.2.2.2.1, .dat (.int .i64) t.2.2.2.2.2.2])]⟩ : St))) := by
  refine Link.of fun K h => ?_
  simp only [impl_countFlatParts_n1, wpO_bind, wpO_cond, wpO_map, wpO_some] at h
  exact Awp.of (by kernel_rfl) h

theorem impl_countFlatParts_n2_l (x210 : Int) (x211 : Int) (x212 : Int) (x213 : Int) (x214 : Int) (x215 : Int) (x216 : Int) : Link impl_countFlatParts_ctx LL (Code.fst (Code.fst (Code.snd (Code.snd (Code.snd (bodyOf Try.f23)))))) (Ann.fst (Ann.fst (Ann.snd (Ann.snd (Ann.snd impl_countFlatParts_an))))) (⟨mkE 25 0 [(0, .ptr 0 0), (1, .ptr 1 0)], [some (.box [.dat (.int .i64) 0, .dat (.int .i64) 0, .dat (.int .i64) 0, .dat (.int .i64) 0, .dat (.int .i64) 0, .dat (.int .i64) 0, .dat (.int .i64) 0, .dat (.int .i64) 0, .dat (.int .i64) 0, .dat (.int .i64) 0, .dat (.int .i64) 0, .dat (.int .i64) 0, .dat (.int .i64) 0, .dat (.int .i64) 0]), some (.box [.dat (.int .i64) 0, .dat (.int .i64) 0, .dat (.int .i64) 0, .dat (.int .i64) 0, .dat (.int .i64) 0, .dat (.int .i64) 0, .dat (.int .i64) 0, .dat (.int .i64) x210, .dat (.int .i64) x211, .dat (.int .i64) x212, .dat (.int .i64) x213, .dat (.int .i64) x214, .dat (.int .i64) x215, .dat (.int .i64) x216])]⟩ : St) (impl_countFlatParts_n2) (fun (t : Unit) => (Exit.normal, (⟨mkE 25 0 [(0, .ptr 0 0), (1, .ptr 1 0), (2, .dat (.int .i64) 1)], [some (.box [.dat (.int .i64) 0, .dat (.int .i64) 0, .dat (.int .i64) 0, .dat (.int .i64) 0, .dat (.int .i64) 0, .dat (.int .i64) 0, .dat (.int .i64) 0, .dat (.int .i64) 0, .dat (.int .i64) 0, .dat (.int .i64) 0, .dat (.int .i64) 0, .dat (.int .i64) 0, .dat (.int .i64) 0, .dat (.int .i64) 0]), some (.box [.dat (.int .i64) 0, .dat (.int .i64) 0, .dat (.int .i64) 0, .dat (.int .i64) 0, .dat (.int .i64) 0, .dat (.int .i64) 0, .dat (.int .i64) 0, .dat (.int .i64) x210, .dat (.int .i64) x211, .dat (.int .i64) x212, .dat (.int .i64) x213, .dat (.int .i64) x214, .dat (.int .i64) x215, .dat (.int .i64) x216])]⟩ : St))) := by
  refine Link.of fun K h => ?_
  simp only [impl_countFlatParts_n2, wpO_bind, wpO_cond, wpO_map, wpO_some] at h
  exact Awp.of (by kernel_rfl) h

theorem impl_countFlatParts_n3_l (x385 : Int) (x386 : Int) (x387 : Int) (x388 : Int) (x389 : Int) (x390 : Int) (x391 : Int) (x392 : Int) (x393 : Int) (x394 : Int) (x395 : Int) (x396 : Int) (x397 : Int) (x398 : Int) (x399 : Int) : Link impl_countFlatParts_ctx LL (Code.fst (Code.fst (Code.snd (Code.fst (Code.snd (Code.snd (Code.snd (bodyOf Try.f23)))))))) (Ann.fst (Ann.fst (Ann.snd (Ann.fst (Ann.snd (Ann.snd (Ann.snd impl_countFlatParts_an))))))) (⟨mkE 25 0 [(0, .ptr 0 0), (1, .ptr 1 0), (2, .dat (.int .i64) x385)], [some (.box [.dat (.int .i64) 0, .dat (.int .i64) 0, .dat (.int .i64) 0, .dat (.int .i64) 0, .dat (.int .i64) 0, .dat (.int .i64) 0, .dat (.int .i64) 0, .dat (.int .i64) 0, .dat (.int .i64) 0, .dat (.int .i64) 0, .dat (.int .i64) 0, .dat (.int .i64) 0, .dat (.int .i64) 0, .dat (.int .i64) 0]), some (.box [.dat (.int .i64) x386, .dat (.int .i64) x387, .dat (.int .i64) x388, .dat (.int .i64) x389, .dat (.int .i64) x390, .dat (.int .i64) x391, .dat (.int .i64) x392, .dat (.int .i64) x393, .dat (.int .i64) x394, .dat (.int .i64) x395, .dat (.int .i64) x396, .dat (.int .i64) x397, .dat (.int .i64) x398, .dat (.int .i64) x399])]⟩ : St) (impl_countFlatParts_n3 x385 x386 x387 x388 x389 x390 x391 x392 x393 x394 x395 x396 x397 x398 x399) (Sum.elim (fun (t : Int × Int × Int × Int × Int × Int × Int × Int × Int × Int × Int × Int × Int × Int × Int) => (Exit.normal, (⟨mkE 25 0 [(0, .ptr 0 0), (1, .ptr 1 0), (2, .dat (.int .i64) t.1)], [some (.box [.dat (.int .i64) 0, .dat (.int .i64) 0, .dat (.int .i64) 0, .dat (.int .i64) 0, .dat (.int .i64) 0, .dat (.int .i64) 0, .dat (.int .i64) 0, .dat (.int .i64) 0, .dat (.int .i64) 0, .dat (.int .i64) 0, .dat (.int .i64) 0, .dat (.int .i64) 0, .dat (.int .i64) 0, .dat (.int .i64) 0]), some (.box [.dat (.int .i64) t.2.1, .dat (.int .i64) t.2.2.1, .dat (.int .i64) t.2.2.2.1, .dat (.int .i64) t.2.2.2.2.1, .dat (.int .i64) t.2.2.2.2.2.1, .dat (.int .i64) t.2.2.2.2.2.2.1, .dat (.int .i64) t.2.2.2.2.2.2.2.1, .dat (.int .i64) t.2.2.2.2.2.2.2.2.1, .dat (.int .i64) t.2.2.2.2.2.2.2.2.2.1, .dat (.int .i64) t.2.2.2.2.2.2.2.2.2.2.1, .dat (.int .i64) t.2.2.2.2.2.2.2.2.2.2.2.1, .dat (.int .i64) t.2.2.2.2.2.2.2.2.2.2.2.2.1, .dat (.int .i64) t.2.2.2.2.2.2.2.2.2.2.2.2.2.1, .dat (.int .i64) t.2.2.2.2.2.2.2.2.2.2.2.2.2.2])]⟩ : St))) (fun (t : Int × Int × Int × Int × Int × Int × Int × Int × Int × Int × Int × Int × Int × Int) => ((Exit.exit 0), (⟨mkE 25 0 [(0, .ptr 0 0), (1, .ptr 1 0)], [some (.box [.dat (.int .i64) 0, .dat (.int .i64) 0, .dat (.int .i64) 0, .dat (.int .i64) 0, .dat (.int .i64) 0, .dat (.int .i64) 0, .dat (.int .i64) 0, .dat (.int .i64) 0, .dat (.int .i64) 0, .dat (.int .i64) 0, .dat (.int .i64) 0, .dat (.int .i64) 0, .dat (.int .i64) 0, .dat (.int .i64) 0]), some (.box [.dat (.int .i64) t.1, .dat (.int .i64) t.2.1, .dat (.int .i64) t.2.2.1, .dat (.int .i64) t.2.2.2.1, .dat (.int .i64) t.2.2.2.2.1, .dat (.int .i64) t.2.2.2.2.2.1, .dat (.int .i64) t.2.2.2.2.2.2.1, .dat (.int .i64) t.2.2.2.2.2.2.2.1, .dat (.int .i64) t.2.2.2.2.2.2.2.2.1, .dat (.int .i64) t.2.2.2.2.2.2.2.2.2.1, .dat (.int .i64) t.2.2.2.2.2.2.2.2.2.2.1, .dat (.int .i64) t.2.2.2.2.2.2.2.2.2.2.2.1, .dat (.int .i64) t.2.2.2.2.2.2.2.2.2.2.2.2.1, .dat (.int .i64) t.2.2.2.2.2.2.2.2.2.2.2.2.2])]⟩ : St)))) := by
  refine Link.of fun K h => ?_
  simp only [impl_countFlatParts_n3, wpO_bind, wpO_cond, wpO_map, wpO_some] at h
  exact Awp.of (by kernel_rfl) h

theorem impl_countFlatParts_n4_l (x210 : Int) (x211 : Int) (x212 : Int) (x213 : Int) (x214 : Int) (x215 : Int) (x216 : Int) : Link impl_countFlatParts_ctx LL (Code.fst (Code.snd (Code.fst (Code.snd (Code.snd (Code.snd (bodyOf Try.f23))))))) (Ann.fst (Ann.snd (Ann.fst (Ann.snd (Ann.snd (Ann.snd impl_countFlatParts_an)))))) (⟨mkE 25 0 [(0, .ptr 0 0), (1, .ptr 1 0), (2, .dat (.int .i64) 1)], [some (.box [.dat (.int .i64) 0, .dat (.int .i64) 0, .dat (.int .i64) 0, .dat (.int .i64) 0, .dat (.int .i64) 0, .dat (.int .i64) 0, .dat (.int .i64) 0, .dat (.int .i64) 0, .dat (.int .i64) 0, .dat (.int .i64) 0, .dat (.int .i64) 0, .dat (.int .i64) 0, .dat (.int .i64) 0, .dat (.int .i64) 0]), some (.box [.dat (.int .i64) 0, .dat (.int .i64) 0, .dat (.int .i64) 0, .dat (.int .i64) 0, .dat (.int .i64) 0, .dat (.int .i64) 0, .dat (.int .i64) 0, .dat (.int .i64) x210, .dat (.int .i64) x211, .dat (.int .i64) x212, .dat (.int .i64) x213, .dat (.int .i64) x214, .dat (.int .i64) x215, .dat (.int .i64) x216])]⟩ : St) (impl_countFlatParts_n4 x210 x211 x212 x213 x214 x215 x216) (fun (t : Int × Int × Int × Int × Int × Int × Int × Int × Int × Int × Int × Int × Int × Int) => ((Exit.exit 0), (⟨mkE 25 0 [(0, .ptr 0 0), (1, .ptr 1 0)], [some (.box [.dat (.int .i64) 0, .dat (.int .i64) 0, .dat (.int .i64) 0, .dat (.int .i64) 0, .dat (.int .i64) 0, .dat (.int .i64) 0, .dat (.int .i64) 0, .dat (.int .i64) 0, .dat (.int .i64) 0, .dat (.int .i64) 0, .dat (.int .i64) 0, .dat (.int .i64) 0, .dat (.int .i64) 0, .dat (.int .i64) 0]), some (.box [.dat (.int .i64) t.1, .dat (.int .i64) t.2.1, .dat (.int .i64) t.2.2.1, .dat (.int .i64) t.2.2.2.1, .dat (.int .i64) t.2.2.2.2.1, .dat (.int .i64) t.2.2.2.2.2.1, .dat (.int .i64) t.2.2.2.2.2.2.1, .dat (.int .i64) t.2.2.2.2.2.2.2.1, .dat (.int .i64) t.2.2.2.2.2.2.2.2.1, .dat (.int .i64) t.2.2.2.2.2.2.2.2.2.1, .dat (.int .i64) t.2.2.2.2.2.2.2.2.2.2.1, .dat (.int .i64) t.2.2.2.2.2.2.2.2.2.2.2.1, .dat (.int .i64) t.2.2.2.2.2.2.2.2.2.2.2.2.1, .dat (.int .i64) t.2.2.2.2.2.2.2.2.2.2.2.2.2])]⟩ : St))) := by
  unfold impl_countFlatParts_n4
  exact Link.cast (by kernel_rfl) (by kernel_rfl) (link_loop (mk := fun (s : Int × Int × Int × Int × Int × Int × Int × Int × Int × Int × Int × Int × Int × Int × Int) => (⟨mkE 25 0 [(0, .ptr 0 0), (1, .ptr 1 0), (2, .dat (.int .i64) s.1)], [some (.box [.dat (.int .i64) 0, .dat (.int .i64) 0, .dat (.int .i64) 0, .dat (.int .i64) 0, .dat (.int .i64) 0, .dat (.int .i64) 0, .dat (.int .i64) 0, .dat (.int .i64) 0, .dat (.int .i64) 0, .dat (.int .i64) 0, .dat (.int .i64) 0, .dat (.int .i64) 0, .dat (.int .i64) 0, .dat (.int .i64) 0]), some (.box [.dat (.int .i64) s.2.1, .dat (.int .i64) s.2.2.1, .dat (.int .i64) s.2.2.2.1, .dat (.int .i64) s.2.2.2.2.1, .dat (.int .i64) s.2.2.2.2.2.1, .dat (.int .i64) s.2.2.2.2.2.2.1, .dat (.int .i64) s.2.2.2.2.2.2.2.1, .dat (.int .i64) s.2.2.2.2.2.2.2.2.1, .dat (.int .i64) s.2.2.2.2.2.2.2.2.2.1, .dat (.int .i64) s.2.2.2.2.2.2.2.2.2.2.1, .dat (.int .i64) s.2.2.2.2.2.2.2.2.2.2.2.1, .dat (.int .i64) s.2.2.2.2.2.2.2.2.2.2.2.2.1, .dat (.int .i64) s.2.2.2.2.2.2.2.2.2.2.2.2.2.1, .dat (.int .i64) s.2.2.2.2.2.2.2.2.2.2.2.2.2.2])]⟩ : St)) (fin := (fun (t : Int × Int × Int × Int × Int × Int × Int × Int × Int × Int × Int × Int × Int × Int) => ((Exit.exit 0), (⟨mkE 25 0 [(0, .ptr 0 0), (1, .ptr 1 0)], [some (.box [.dat (.int .i64) 0, .dat (.int .i64) 0, .dat (.int .i64) 0, .dat (.int .i64) 0, .dat (.int .i64) 0, .dat (.int .i64) 0, .dat (.int .i64) 0, .dat (.int .i64) 0, .dat (.int .i64) 0, .dat (.int .i64) 0, .dat (.int .i64) 0, .dat (.int .i64) 0, .dat (.int .i64) 0, .dat (.int .i64) 0]), some (.box [.dat (.int .i64) t.1, .dat (.int .i64) t.2.1, .dat (.int .i64) t.2.2.1, .dat (.int .i64) t.2.2.2.1, .dat (.int .i64) t.2.2.2.2.1, .dat (.int .i64) t.2.2.2.2.2.1, .dat (.int .i64) t.2.2.2.2.2.2.1, .dat (.int .i64) t.2.2.2.2.2.2.2.1, .dat (.int .i64) t.2.2.2.2.2.2.2.2.1, .dat (.int .i64) t.2.2.2.2.2.2.2.2.2.1, .dat (.int .i64) t.2.2.2.2.2.2.2.2.2.2.1, .dat (.int .i64) t.2.2.2.2.2.2.2.2.2.2.2.1, .dat (.int .i64) t.2.2.2.2.2.2.2.2.2.2.2.2.1, .dat (.int .i64) t.2.2.2.2.2.2.2.2.2.2.2.2.2])]⟩ : St)))) (by
  rintro t f K h
  · exact h) (fun s => link_map (impl_countFlatParts_n3_l s.1 s.2.1 s.2.2.1 s.2.2.2.1 s.2.2.2.2.1 s.2.2.2.2.2.1 s.2.2.2.2.2.2.1 s.2.2.2.2.2.2.2.1 s.2.2.2.2.2.2.2.2.1 s.2.2.2.2.2.2.2.2.2.1 s.2.2.2.2.2.2.2.2.2.2.1 s.2.2.2.2.2.2.2.2.2.2.2.1 s.2.2.2.2.2.2.2.2.2.2.2.2.1 s.2.2.2.2.2.2.2.2.2.2.2.2.2.1 s.2.2.2.2.2.2.2.2.2.2.2.2.2.2) (Sum.elim (fun (t : Int × Int × Int × Int × Int × Int × Int × Int × Int × Int × Int × Int × Int × Int × Int) => Sum.inl (t.1, t.2.1, t.2.2.1, t.2.2.2.1, t.2.2.2.2.1, t.2.2.2.2.2.1, t.2.2.2.2.2.2.1, t.2.2.2.2.2.2.2.1, t.2.2.2.2.2.2.2.2.1, t.2.2.2.2.2.2.2.2.2.1, t.2.2.2.2.2.2.2.2.2.2.1, t.2.2.2.2.2.2.2.2.2.2.2.1, t.2.2.2.2.2.2.2.2.2.2.2.2.1, t.2.2.2.2.2.2.2.2.2.2.2.2.2.1, t.2.2.2.2.2.2.2.2.2.2.2.2.2.2)) (fun (t : Int × Int × Int × Int × Int × Int × Int × Int × Int × Int × Int × Int × Int × Int) => Sum.inr t)) (by
  rintro (t | t)
  · kernel_rfl
  · kernel_rfl)) (1, 0, 0, 0, 0, 0, 0, 0, x210, x211, x212, x213, x214, x215, x216))

theorem impl_countFlatParts_n5_l (x210 : Int) (x211 : Int) (x212 : Int) (x213 : Int) (x214 : Int) (x215 : Int) (x216 : Int) : Link impl_countFlatParts_ctx LL (Code.snd (Code.fst (Code.snd (Code.snd (Code.snd (bodyOf Try.f23)))))) (Ann.snd (Ann.fst (Ann.snd (Ann.snd (Ann.snd impl_countFlatParts_an))))) (⟨mkE 25 0 [(0, .ptr 0 0), (1, .ptr 1 0), (2, .dat (.int .i64) 1)], [some (.box [.dat (.int .i64) 0, .dat (.int .i64) 0, .dat (.int .i64) 0, .dat (.int .i64) 0, .dat (.int .i64) 0, .dat (.int .i64) 0, .dat (.int .i64) 0, .dat (.int .i64) 0, .dat (.int .i64) 0, .dat (.int .i64) 0, .dat (.int .i64) 0, .dat (.int .i64) 0, .dat (.int .i64) 0, .dat (.int .i64) 0]), some (.box [.dat (.int .i64) 0, .dat (.int .i64) 0, .dat (.int .i64) 0, .dat (.int .i64) 0, .dat (.int .i64) 0, .dat (.int .i64) 0, .dat (.int .i64) 0, .dat (.int .i64) x210, .dat (.int .i64) x211, .dat (.int .i64) x212, .dat (.int .i64) x213, .dat (.int .i64) x214, .dat (.int .i64) x215, .dat (.int .i64) x216])]⟩ : St) (impl_countFlatParts_n5 x210 x211 x212 x213 x214 x215 x216) (fun (t : Int × Int × Int × Int × Int × Int × Int × Int × Int × Int × Int × Int × Int × Int) => (Exit.normal, (⟨mkE 25 0 [(0, .ptr 0 0), (1, .ptr 1 0)], [some (.box [.dat (.int .i64) 0, .dat (.int .i64) 0, .dat (.int .i64) 0, .dat (.int .i64) 0, .dat (.int .i64) 0, .dat (.int .i64) 0, .dat (.int .i64) 0, .dat (.int .i64) 0, .dat (.int .i64) 0, .dat (.int .i64) 0, .dat (.int .i64) 0, .dat (.int .i64) 0, .dat (.int .i64) 0, .dat (.int .i64) 0]), some (.box [.dat (.int .i64) t.1, .dat (.int .i64) t.2.1, .dat (.int .i64) t.2.2.1, .dat (.int .i64) t.2.2.2.1, .dat (.int .i64) t.2.2.2.2.1, .dat (.int .i64) t.2.2.2.2.2.1, .dat (.int .i64) t.2.2.2.2.2.2.1, .dat (.int .i64) t.2.2.2.2.2.2.2.1, .dat (.int .i64) t.2.2.2.2.2.2.2.2.1, .dat (.int .i64) t.2.2.2.2.2.2.2.2.2.1, .dat (.int .i64) t.2.2.2.2.2.2.2.2.2.2.1, .dat (.int .i64) t.2.2.2.2.2.2.2.2.2.2.2.1, .dat (.int .i64) t.2.2.2.2.2.2.2.2.2.2.2.2.1, .dat (.int .i64) t.2.2.2.2.2.2.2.2.2.2.2.2.2])]⟩ : St))) := by
  unfold impl_countFlatParts_n5
  exact Link.cast (by kernel_rfl) (by kernel_rfl) (link_block (id := 0) (impl_countFlatParts_n4_l x210 x211 x212 x213 x214 x215 x216) (fun (t : Int × Int × Int × Int × Int × Int × Int × Int × Int × Int × Int × Int × Int × Int) => (t.1, t.2.1, t.2.2.1, t.2.2.2.1, t.2.2.2.2.1, t.2.2.2.2.2.1, t.2.2.2.2.2.2.1, t.2.2.2.2.2.2.2.1, t.2.2.2.2.2.2.2.2.1, t.2.2.2.2.2.2.2.2.2.1, t.2.2.2.2.2.2.2.2.2.2.1, t.2.2.2.2.2.2.2.2.2.2.2.1, t.2.2.2.2.2.2.2.2.2.2.2.2.1, t.2.2.2.2.2.2.2.2.2.2.2.2.2)) (by
  rintro t K h
  · exact Eq.mp (by kernel_rfl) h))

theorem impl_countFlatParts_n6_l (x210 : Int) (x211 : Int) (x212 : Int) (x213 : Int) (x214 : Int) (x215 : Int) (x216 : Int) : Link impl_countFlatParts_ctx LL (Code.fst (Code.snd (Code.snd (Code.snd (bodyOf Try.f23))))) (Ann.fst (Ann.snd (Ann.snd (Ann.snd impl_countFlatParts_an)))) (⟨mkE 25 0 [(0, .ptr 0 0), (1, .ptr 1 0)], [some (.box [.dat (.int .i64) 0, .dat (.int .i64) 0, .dat (.int .i64) 0, .dat (.int .i64) 0, .dat (.int .i64) 0, .dat (.int .i64) 0, .dat (.int .i64) 0, .dat (.int .i64) 0, .dat (.int .i64) 0, .dat (.int .i64) 0, .dat (.int .i64) 0, .dat (.int .i64) 0, .dat (.int .i64) 0, .dat (.int .i64) 0]), some (.box [.dat (.int .i64) 0, .dat (.int .i64) 0, .dat (.int .i64) 0, .dat (.int .i64) 0, .dat (.int .i64) 0, .dat (.int .i64) 0, .dat (.int .i64) 0, .dat (.int .i64) x210, .dat (.int .i64) x211, .dat (.int .i64) x212, .dat (.int .i64) x213, .dat (.int .i64) x214, .dat (.int .i64) x215, .dat (.int .i64) x216])]⟩ : St) (impl_countFlatParts_n6 x210 x211 x212 x213 x214 x215 x216) (fun (t : Int × Int × Int × Int × Int × Int × Int × Int × Int × Int × Int × Int × Int × Int) => (Exit.normal, (⟨mkE 25 0 [(0, .ptr 0 0), (1, .ptr 1 0)], [some (.box [.dat (.int .i64) 0, .dat (.int .i64) 0, .dat (.int .i64) 0, .dat (.int .i64) 0, .dat (.int .i64) 0, .dat (.int .i64) 0, .dat (.int .i64) 0, .dat (.int .i64) 0, .dat (.int .i64) 0, .dat (.int .i64) 0, .dat (.int .i64) 0, .dat (.int .i64) 0, .dat (.int .i64) 0, .dat (.int .i64) 0]), some (.box [.dat (.int .i64) t.1, .dat (.int .i64) t.2.1, .dat (.int .i64) t.2.2.1, .dat (.int .i64) t.2.2.2.1, .dat (.int .i64) t.2.2.2.2.1, .dat (.int .i64) t.2.2.2.2.2.1, .dat (.int .i64) t.2.2.2.2.2.2.1, .dat (.int .i64) t.2.2.2.2.2.2.2.1, .dat (.int .i64) t.2.2.2.2.2.2.2.2.1, .dat (.int .i64) t.2.2.2.2.2.2.2.2.2.1, .dat (.int .i64) t.2.2.2.2.2.2.2.2.2.2.1, .dat (.int .i64) t.2.2.2.2.2.2.2.2.2.2.2.1, .dat (.int .i64) t.2.2.2.2.2.2.2.2.2.2.2.2.1, .dat (.int .i64) t.2.2.2.2.2.2.2.2.2.2.2.2.2])]⟩ : St))) := by
  unfold impl_countFlatParts_n6
  exact Link.cast (by kernel_rfl) (by kernel_rfl) (link_seq (b := (Code.snd (Code.fst (Code.snd (Code.snd (Code.snd (bodyOf Try.f23))))))) (y := (Ann.snd (Ann.fst (Ann.snd (Ann.snd (Ann.snd impl_countFlatParts_an)))))) (impl_countFlatParts_n2_l x210 x211 x212 x213 x214 x215 x216) (fun (t : Unit) => (impl_countFlatParts_n5_l x210 x211 x212 x213 x214 x215 x216)))

theorem impl_countFlatParts_n7_l (x386 : Int) (x387 : Int) (x388 : Int) (x389 : Int) (x390 : Int) (x391 : Int) (x392 : Int) (x393 : Int) (x394 : Int) (x395 : Int) (x396 : Int) (x397 : Int) (x398 : Int) (x399 : Int) : Link impl_countFlatParts_ctx LL (Code.snd (Code.snd (Code.snd (Code.snd (bodyOf Try.f23))))) (Ann.snd (Ann.snd (Ann.snd (Ann.snd impl_countFlatParts_an)))) (⟨mkE 25 0 [(0, .ptr 0 0), (1, .ptr 1 0)], [some (.box [.dat (.int .i64) 0, .dat (.int .i64) 0, .dat (.int .i64) 0, .dat (.int .i64) 0, .dat (.int .i64) 0, .dat (.int .i64) 0, .dat (.int .i64) 0, .dat (.int .i64) 0, .dat (.int .i64) 0, .dat (.int .i64) 0, .dat (.int .i64) 0, .dat (.int .i64) 0, .dat (.int .i64) 0, .dat (.int .i64) 0]), some (.box [.dat (.int .i64) x386, .dat (.int .i64) x387, .dat (.int .i64) x388, .dat (.int .i64) x389, .dat (.int .i64) x390, .dat (.int .i64) x391, .dat (.int .i64) x392, .dat (.int .i64) x393, .dat (.int .i64) x394, .dat (.int .i64) x395, .dat (.int .i64) x396, .dat (.int .i64) x397, .dat (.int .i64) x398, .dat (.int .i64) x399])]⟩ : St) (impl_countFlatParts_n7 x386 x387 x388 x389 x390 x391 x392 x393 x394 x395 x396 x397 x398 x399) (fun (t : Int × Int × Int × Int × Int × Int × Int × Int × Int × Int × Int × Int × Int × Int) => (Exit.ret, (⟨mkE 25 0 [(0, .ptr 0 0)], [some (.box [.dat (.int .i64) t.1, .dat (.int .i64) t.2.1, .dat (.int .i64) t.2.2.1, .dat (.int .i64) t.2.2.2.1, .dat (.int .i64) t.2.2.2.2.1, .dat (.int .i64) t.2.2.2.2.2.1, .dat (.int .i64) t.2.2.2.2.2.2.1, .dat (.int .i64) t.2.2.2.2.2.2.2.1, .dat (.int .i64) t.2.2.2.2.2.2.2.2.1, .dat (.int .i64) t.2.2.2.2.2.2.2.2.2.1, .dat (.int .i64) t.2.2.2.2.2.2.2.2.2.2.1, .dat (.int .i64) t.2.2.2.2.2.2.2.2.2.2.2.1, .dat (.int .i64) t.2.2.2.2.2.2.2.2.2.2.2.2.1, .dat (.int .i64) t.2.2.2.2.2.2.2.2.2.2.2.2.2])]⟩ : St))) := by
  refine Link.of fun K h => ?_
  simp only [impl_countFlatParts_n7, wpO_bind, wpO_cond, wpO_map, wpO_some] at h
  exact Awp.of (by kernel_rfl) h

theorem impl_countFlatParts_n8_l (x210 : Int) (x211 : Int) (x212 : Int) (x213 : Int) (x214 : Int) (x215 : Int) (x216 : Int) : Link impl_countFlatParts_ctx LL (Code.snd (Code.snd (Code.snd (bodyOf Try.f23)))) (Ann.snd (Ann.snd (Ann.snd impl_countFlatParts_an))) (⟨mkE 25 0 [(0, .ptr 0 0), (1, .ptr 1 0)], [some (.box [.dat (.int .i64) 0, .dat (.int .i64) 0, .dat (.int .i64) 0, .dat (.int .i64) 0, .dat (.int .i64) 0, .dat (.int .i64) 0, .dat (.int .i64) 0, .dat (.int .i64) 0, .dat (.int .i64) 0, .dat (.int .i64) 0, .dat (.int .i64) 0, .dat (.int .i64) 0, .dat (.int .i64) 0, .dat (.int .i64) 0]), some (.box [.dat (.int .i64) 0, .dat (.int .i64) 0, .dat (.int .i64) 0, .dat (.int .i64) 0, .dat (.int .i64) 0, .dat (.int .i64) 0, .dat (.int .i64) 0, .dat (.int .i64) x210, .dat (.int .i64) x211, .dat (.int .i64) x212, .dat (.int .i64) x213, .dat (.int .i64) x214, .dat (.int .i64) x215, .dat (.int .i64) x216])]⟩ : St) (impl_countFlatParts_n8 x210 x211 x212 x213 x214 x215 x216) (fun (t : Int × Int × Int × Int × Int × Int × Int × Int × Int × Int × Int × Int × Int × Int) => (Exit.ret, (⟨mkE 25 0 [(0, .ptr 0 0)], [some (.box [.dat (.int .i64) t.1, .dat (.int .i64) t.2.1, .dat (.int .i64) t.2.2.1, .dat (.int .i64) t.2.2.2.1, .dat (.int .i64) t.2.2.2.2.1, .dat (.int .i64) t.2.2.2.2.2.1, .dat (.int .i64) t.2.2.2.2.2.2.1, .dat (.int .i64) t.2.2.2.2.2.2.2.1, .dat (.int .i64) t.2.2.2.2.2.2.2.2.1, .dat (.int .i64) t.2.2.2.2.2.2.2.2.2.1, .dat (.int .i64) t.2.2.2.2.2.2.2.2.2.2.1, .dat (.int .i64) t.2.2.2.2.2.2.2.2.2.2.2.1, .dat (.int .i64) t.2.2.2.2.2.2.2.2.2.2.2.2.1, .dat (.int .i64) t.2.2.2.2.2.2.2.2.2.2.2.2.2])]⟩ : St))) := by
  unfold impl_countFlatParts_n8
  exact Link.cast (by kernel_rfl) (by kernel_rfl) (link_seq (b := (Code.snd (Code.snd (Code.snd (Code.snd (bodyOf Try.f23)))))) (y := (Ann.snd (Ann.snd (Ann.snd (Ann.snd impl_countFlatParts_an))))) (impl_countFlatParts_n6_l x210 x211 x212 x213 x214 x215 x216) (fun (t : Int × Int × Int × Int × Int × Int × Int × Int × Int × Int × Int × Int × Int × Int) => (impl_countFlatParts_n7_l t.1 t.2.1 t.2.2.1 t.2.2.2.1 t.2.2.2.2.1 t.2.2.2.2.2.1 t.2.2.2.2.2.2.1 t.2.2.2.2.2.2.2.1 t.2.2.2.2.2.2.2.2.1 t.2.2.2.2.2.2.2.2.2.1 t.2.2.2.2.2.2.2.2.2.2.1 t.2.2.2.2.2.2.2.2.2.2.2.1 t.2.2.2.2.2.2.2.2.2.2.2.2.1 t.2.2.2.2.2.2.2.2.2.2.2.2.2)))

theorem impl_countFlatParts_n9_l : Link impl_countFlatParts_ctx LL (bodyOf Try.f23) impl_countFlatParts_an (⟨mkE 25 0 [], []⟩ : St) (impl_countFlatParts_n9) (fun (t : Int × Int × Int × Int × Int × Int × Int × Int × Int × Int × Int × Int × Int × Int) => (Exit.ret, (⟨mkE 25 0 [(0, .ptr 0 0)], [some (.box [.dat (.int .i64) t.1, .dat (.int .i64) t.2.1, .dat (.int .i64) t.2.2.1, .dat (.int .i64) t.2.2.2.1, .dat (.int .i64) t.2.2.2.2.1, .dat (.int .i64) t.2.2.2.2.2.1, .dat (.int .i64) t.2.2.2.2.2.2.1, .dat (.int .i64) t.2.2.2.2.2.2.2.1, .dat (.int .i64) t.2.2.2.2.2.2.2.2.1, .dat (.int .i64) t.2.2.2.2.2.2.2.2.2.1, .dat (.int .i64) t.2.2.2.2.2.2.2.2.2.2.1, .dat (.int .i64) t.2.2.2.2.2.2.2.2.2.2.2.1, .dat (.int .i64) t.2.2.2.2.2.2.2.2.2.2.2.2.1, .dat (.int .i64) t.2.2.2.2.2.2.2.2.2.2.2.2.2])]⟩ : St))) := by
  unfold impl_countFlatParts_n9
  exact Link.cast (by kernel_rfl) (by kernel_rfl) (link_group (c := (Code.fst (Code.snd (Code.snd (bodyOf Try.f23))))) (a := (Ann.fst (Ann.snd (Ann.snd impl_countFlatParts_an)))) [(Code.fst (bodyOf Try.f23)), (Code.fst (Code.snd (bodyOf Try.f23)))] [(Ann.fst impl_countFlatParts_an), (Ann.fst (Ann.snd impl_countFlatParts_an))] rfl (link_seq (b := (Code.snd (Code.snd (Code.snd (bodyOf Try.f23))))) (y := (Ann.snd (Ann.snd (Ann.snd impl_countFlatParts_an)))) (impl_countFlatParts_n1_l) (fun (t : Int × Int × Int × Int × Int × Int × Int) => (impl_countFlatParts_n8_l t.1 t.2.1 t.2.2.1 t.2.2.2.1 t.2.2.2.2.1 t.2.2.2.2.2.1 t.2.2.2.2.2.2))))

theorem impl_countFlatParts_e {r : AV} {H' : Heap} (h : (Ans.mk _ (impl_countFlatParts) (fun (t : Int × Int × Int × Int × Int × Int × Int × Int × Int × Int × Int × Int × Int × Int) => (.agg [.dat (.int .i64) t.1, .dat (.int .i64) t.2.1, .dat (.int .i64) t.2.2.1, .dat (.int .i64) t.2.2.2.1, .dat (.int .i64) t.2.2.2.2.1, .dat (.int .i64) t.2.2.2.2.2.1, .dat (.int .i64) t.2.2.2.2.2.2.1, .dat (.int .i64) t.2.2.2.2.2.2.2.1, .dat (.int .i64) t.2.2.2.2.2.2.2.2.1, .dat (.int .i64) t.2.2.2.2.2.2.2.2.2.1, .dat (.int .i64) t.2.2.2.2.2.2.2.2.2.2.1, .dat (.int .i64) t.2.2.2.2.2.2.2.2.2.2.2.1, .dat (.int .i64) t.2.2.2.2.2.2.2.2.2.2.2.2.1, .dat (.int .i64) t.2.2.2.2.2.2.2.2.2.2.2.2.2], [some (.box [.dat (.int .i64) t.1, .dat (.int .i64) t.2.1, .dat (.int .i64) t.2.2.1, .dat (.int .i64) t.2.2.2.1, .dat (.int .i64) t.2.2.2.2.1, .dat (.int .i64) t.2.2.2.2.2.1, .dat (.int .i64) t.2.2.2.2.2.2.1, .dat (.int .i64) t.2.2.2.2.2.2.2.1, .dat (.int .i64) t.2.2.2.2.2.2.2.2.1, .dat (.int .i64) t.2.2.2.2.2.2.2.2.2.1, .dat (.int .i64) t.2.2.2.2.2.2.2.2.2.2.1, .dat (.int .i64) t.2.2.2.2.2.2.2.2.2.2.2.1, .dat (.int .i64) t.2.2.2.2.2.2.2.2.2.2.2.2.1, .dat (.int .i64) t.2.2.2.2.2.2.2.2.2.2.2.2.2])]))).run = some (r, H')) : Awp impl_countFlatParts_ctx LL (bodyOf Try.f23) impl_countFlatParts_an (⟨mkE 25 0 [], []⟩ : St) (Ret (tlook tys) Try.f23.results.toList r H') :=
  ret_of' (impl_countFlatParts_n9_l) (by unfold impl_countFlatParts; kernel_rfl) (by
  intro t
  exact ret_mk [.agg [.dat (.int .i64) t.1, .dat (.int .i64) t.2.1, .dat (.int .i64) t.2.2.1, .dat (.int .i64) t.2.2.2.1, .dat (.int .i64) t.2.2.2.2.1, .dat (.int .i64) t.2.2.2.2.2.1, .dat (.int .i64) t.2.2.2.2.2.2.1, .dat (.int .i64) t.2.2.2.2.2.2.2.1, .dat (.int .i64) t.2.2.2.2.2.2.2.2.1, .dat (.int .i64) t.2.2.2.2.2.2.2.2.2.1, .dat (.int .i64) t.2.2.2.2.2.2.2.2.2.2.1, .dat (.int .i64) t.2.2.2.2.2.2.2.2.2.2.2.1, .dat (.int .i64) t.2.2.2.2.2.2.2.2.2.2.2.2.1, .dat (.int .i64) t.2.2.2.2.2.2.2.2.2.2.2.2.2]] (by kernel_rfl) (by kernel_rfl) (by kernel_rfl) (by kernel_rfl)) h

def F_impl_countFlatParts : Fun := fun avs H =>
  match avs, H with
  | [], [] => ⟨_, impl_countFlatParts, fun (t : Int × Int × Int × Int × Int × Int × Int × Int × Int × Int × Int × Int × Int × Int) => (.agg [.dat (.int .i64) t.1, .dat (.int .i64) t.2.1, .dat (.int .i64) t.2.2.1, .dat (.int .i64) t.2.2.2.1, .dat (.int .i64) t.2.2.2.2.1, .dat (.int .i64) t.2.2.2.2.2.1, .dat (.int .i64) t.2.2.2.2.2.2.1, .dat (.int .i64) t.2.2.2.2.2.2.2.1, .dat (.int .i64) t.2.2.2.2.2.2.2.2.1, .dat (.int .i64) t.2.2.2.2.2.2.2.2.2.1, .dat (.int .i64) t.2.2.2.2.2.2.2.2.2.2.1, .dat (.int .i64) t.2.2.2.2.2.2.2.2.2.2.2.1, .dat (.int .i64) t.2.2.2.2.2.2.2.2.2.2.2.2.1, .dat (.int .i64) t.2.2.2.2.2.2.2.2.2.2.2.2.2], [some (.box [.dat (.int .i64) t.1, .dat (.int .i64) t.2.1, .dat (.int .i64) t.2.2.1, .dat (.int .i64) t.2.2.2.1, .dat (.int .i64) t.2.2.2.2.1, .dat (.int .i64) t.2.2.2.2.2.1, .dat (.int .i64) t.2.2.2.2.2.2.1, .dat (.int .i64) t.2.2.2.2.2.2.2.1, .dat (.int .i64) t.2.2.2.2.2.2.2.2.1, .dat (.int .i64) t.2.2.2.2.2.2.2.2.2.1, .dat (.int .i64) t.2.2.2.2.2.2.2.2.2.2.1, .dat (.int .i64) t.2.2.2.2.2.2.2.2.2.2.2.1, .dat (.int .i64) t.2.2.2.2.2.2.2.2.2.2.2.2.1, .dat (.int .i64) t.2.2.2.2.2.2.2.2.2.2.2.2.2])])⟩
  | _, _ => Ans.no

theorem impl_countFlatParts_sound : Sound Try.prog 23 F_impl_countFlatParts := by
  refine fn_sound' (C := impl_countFlatParts_ctx) (c := bodyOf Try.f23) (cok_of tys_ok (List.forall_mem_cons.2 ⟨impl_flatCounts_aroundRoots_sound, List.forall_mem_cons.2 ⟨impl_joins_count_sound, List.forall_mem_cons.2 ⟨impl_flatCounts_inRows_sound, by simp⟩⟩⟩) (List.forall_mem_cons.2 ⟨Try.call30, List.forall_mem_cons.2 ⟨Try.call31, List.forall_mem_cons.2 ⟨Try.call32, by simp⟩⟩⟩) (by kernel_rfl)) Try.func23 (by kernel_rfl) LL impl_countFlatParts_an ?_
  intro avs H r H' h
  unfold F_impl_countFlatParts at h
  split at h
  · refine Awp.cast ?_ ?_ ?_ (impl_countFlatParts_e h) <;> kernel_rfl
  · simp [Ans.no, Ans.run] at h

/-! loop.example/headtrees/impl.CountFlat -/

def impl_CountFlat_an : Ann := (.seq (.leaf [0]) (.seq (.seq (.leaf [0, 8]) (.cond (.seq (.leaf [2]) (.leaf [2])) (.leaf [0]))) (.seq (.leaf [2]) (.leaf [2]))))

noncomputable def impl_CountFlat_ctx : Ctx := ⟨tlook tys, olook [(23, F_impl_countFlatParts)], ioF, 0⟩

theorem impl_CountFlat_n1_l (x202 : Int) : Link impl_CountFlat_ctx LL (bodyOf Try.f9) impl_CountFlat_an (⟨mkE 13 0 [(0, .dat (.int .i64) x202)], []⟩ : St) (impl_CountFlat_n1 x202) (fun (t : Int) => (Exit.ret, (⟨mkE 13 0 [(2, .dat (.int .i64) t)], []⟩ : St))) := by
  refine Link.of fun K h => ?_
  simp only [impl_CountFlat_n1, wpO_bind, wpO_cond, wpO_map, wpO_some] at h
  exact Awp.of (by kernel_rfl) h

theorem impl_CountFlat_e (x202 : Int) {r : AV} {H' : Heap} (h : (Ans.mk _ (impl_CountFlat x202) (fun (t : Int) => (.dat (.int .i64) t, []))).run = some (r, H')) : Awp impl_CountFlat_ctx LL (bodyOf Try.f9) impl_CountFlat_an (⟨mkE 13 0 [(0, .dat (.int .i64) x202)], []⟩ : St) (Ret (tlook tys) Try.f9.results.toList r H') :=
  ret_of' (impl_CountFlat_n1_l x202) (by unfold impl_CountFlat; kernel_rfl) (by
  intro t
  exact ret_mk [.dat (.int .i64) t] (by kernel_rfl) (by kernel_rfl) (by kernel_rfl) (by kernel_rfl)) h

def F_impl_CountFlat : Fun := fun avs H =>
  match avs, H with
  | [.dat (.int .i64) x202], [] => ⟨_, impl_CountFlat x202, fun (t : Int) => (.dat (.int .i64) t, [])⟩
  | _, _ => Ans.no

theorem impl_CountFlat_sound : Sound Try.prog 9 F_impl_CountFlat := by
  refine fn_sound' (C := impl_CountFlat_ctx) (c := bodyOf Try.f9) (cok_of tys_ok (List.forall_mem_cons.2 ⟨impl_countFlatParts_sound, by simp⟩) (List.forall_mem_cons.2 ⟨Try.call23, by simp⟩) (by kernel_rfl)) Try.func9 (by kernel_rfl) LL impl_CountFlat_an ?_
  intro avs H r H' h
  unfold F_impl_CountFlat at h
  split at h
  · refine Awp.cast ?_ ?_ ?_ (impl_CountFlat_e _ h) <;> kernel_rfl
  · simp [Ans.no, Ans.run] at h

/-! loop.example/headtrees/spec.l1In -/

def spec_l1In_an : Ann := (.seq (.leaf [0, 1, 2]) (.seq (.leaf [6]) (.leaf [6])))

noncomputable def spec_l1In_ctx : Ctx := ⟨tlook tys, olook [], ioF, 0⟩

theorem spec_l1In_n1_l (x505 : Int) (x506 : Int) (x507 : Int) : Link spec_l1In_ctx LL (bodyOf Try.f24) spec_l1In_an (⟨mkE 15 0 [(0, .dat (.int .i64) x505), (1, .dat (.int .i64) x506), (2, .dat (.int .i64) x507)], []⟩ : St) (spec_l1In_n1 x505 x506 x507) (fun (t : Bool) => (Exit.ret, (⟨mkE 15 0 [(6, .dat .bool t)], []⟩ : St))) := by
  refine Link.of fun K h => ?_
  simp only [spec_l1In_n1, wpO_bind, wpO_cond, wpO_map, wpO_some] at h
  exact Awp.of (by kernel_rfl) h

theorem spec_l1In_e (x505 : Int) (x506 : Int) (x507 : Int) {r : AV} {H' : Heap} (h : (Ans.mk _ (spec_l1In x505 x506 x507) (fun (t : Bool) => (.dat .bool t, []))).run = some (r, H')) : Awp spec_l1In_ctx LL (bodyOf Try.f24) spec_l1In_an (⟨mkE 15 0 [(0, .dat (.int .i64) x505), (1, .dat (.int .i64) x506), (2, .dat (.int .i64) x507)], []⟩ : St) (Ret (tlook tys) Try.f24.results.toList r H') :=
  ret_of' (spec_l1In_n1_l x505 x506 x507) (by unfold spec_l1In; kernel_rfl) (by
  intro t
  exact ret_mk [.dat .bool t] (by kernel_rfl) (by kernel_rfl) (by kernel_rfl) (by kernel_rfl)) h

def F_spec_l1In : Fun := fun avs H =>
  match avs, H with
  | [.dat (.int .i64) x505, .dat (.int .i64) x506, .dat (.int .i64) x507], [] => ⟨_, spec_l1In x505 x506 x507, fun (t : Bool) => (.dat .bool t, [])⟩
  | _, _ => Ans.no

theorem spec_l1In_sound : Sound Try.prog 24 F_spec_l1In := by
  refine fn_sound' (C := spec_l1In_ctx) (c := bodyOf Try.f24) (cok_of tys_ok (by simp) (by simp) (by kernel_rfl)) Try.func24 (by kernel_rfl) LL spec_l1In_an ?_
  intro avs H r H' h
  unfold F_spec_l1In at h
  split at h
  · refine Awp.cast ?_ ?_ ?_ (spec_l1In_e _ _ _ h) <;> kernel_rfl
  · simp [Ans.no, Ans.run] at h

/-! loop.example/headtrees/spec.l4Flat, loop.example/headtrees/spec.l4Rows -/

def spec_l4Flat_an : Ann := (.seq (.leaf [0]) (.seq (.leaf [0, 3]) (.seq (.seq (.leaf [0, 3, 4]) (.block (.loop (.seq (.seq (.leaf [0, 3, 4, 7]) (.cond (.leaf [0, 3, 4]) (.leaf [3]))) (.seq (.block (.leaf [0, 3, 4])) (.leaf [0, 3, 4])))))) (.seq (.leaf [2]) (.leaf [2])))))

def spec_l4Rows_an : Ann := (.seq (.leaf [0]) (.seq (.seq (.leaf [0, 6]) (.cond (.seq (.leaf [2]) (.leaf [2])) (.leaf [0]))) (.seq (.leaf [0, 3]) (.seq (.seq (.leaf [0, 3, 4]) (.block (.loop (.seq (.seq (.leaf [0, 3, 4, 9]) (.cond (.leaf [0, 3, 4]) (.leaf [3]))) (.seq (.block (.leaf [0, 3, 4])) (.leaf [0, 3, 4])))))) (.seq (.leaf [2]) (.leaf [2]))))))

def F_spec_l4Flat_fuel (n : Nat) : Fun := fun avs H =>
  match avs, H with
  | [.dat (.int .i64) x517], [] => ⟨_, spec_l4Flat_fuel n x517, fun (t : Int) => (.dat (.int .i64) t, [])⟩
  | _, _ => Ans.no

def F_spec_l4Rows_fuel (n : Nat) : Fun := fun avs H =>
  match avs, H with
  | [.dat (.int .i64) x565], [] => ⟨_, spec_l4Rows_fuel n x565, fun (t : Int) => (.dat (.int .i64) t, [])⟩
  | _, _ => Ans.no

noncomputable def spec_l4Flat_ctx (n : Nat) : Ctx := ⟨tlook tys, olook [(27, F_spec_l4Rows_fuel n)], ioF, 0⟩

noncomputable def spec_l4Rows_ctx (n : Nat) : Ctx := ⟨tlook tys, olook [(25, F_spec_l4Flat_fuel n), (27, F_spec_l4Rows_fuel n)], ioF, 0⟩

theorem spec_l4Flat_n1_l (n : Nat) (x517 : Int) : Link (spec_l4Flat_ctx n) LL (Code.seq (Code.fst (bodyOf Try.f25)) (Code.fst (Code.snd (bodyOf Try.f25)))) (Ann.seq (Ann.fst spec_l4Flat_an) (Ann.fst (Ann.snd spec_l4Flat_an))) (⟨mkE 21 0 [(0, .dat (.int .i64) x517)], []⟩ : St) (spec_l4Flat_n1 (spec_l4Flat_fuel n) (spec_l4Rows_fuel n)) (fun (t : Unit) => (Exit.normal, (⟨mkE 21 0 [(0, .dat (.int .i64) x517), (3, .dat (.int .i64) 0)], []⟩ : St))) := by
  refine Link.of fun K h => ?_
  simp only [spec_l4Flat_n1, wpO_bind, wpO_cond, wpO_map, wpO_some] at h
  exact Awp.of (by kernel_rfl) h

theorem spec_l4Flat_n2_l (n : Nat) (x517 : Int) : Link (spec_l4Flat_ctx n) LL (Code.fst (Code.fst (Code.snd (Code.snd (bodyOf Try.f25))))) (Ann.fst (Ann.fst (Ann.snd (Ann.snd spec_l4Flat_an)))) (⟨mkE 21 0 [(0, .dat (.int .i64) x517), (3, .dat (.int .i64) 0)], []⟩ : St) (spec_l4Flat_n2 (spec_l4Flat_fuel n) (spec_l4Rows_fuel n)) (fun (t : Unit) => (Exit.normal, (⟨mkE 21 0 [(0, .dat (.int .i64) x517), (3, .dat (.int .i64) 0), (4, .dat (.int .i64) 0)], []⟩ : St))) := by
  refine Link.of fun K h => ?_
  simp only [spec_l4Flat_n2, wpO_bind, wpO_cond, wpO_map, wpO_some] at h
  exact Awp.of (by kernel_rfl) h

theorem spec_l4Flat_n3_l (n : Nat) (x517 : Int) (x620 : Int) (x621 : Int) : Link (spec_l4Flat_ctx n) LL (Code.fst (Code.fst (Code.snd (Code.fst (Code.snd (Code.snd (bodyOf Try.f25))))))) (Ann.fst (Ann.fst (Ann.snd (Ann.fst (Ann.snd (Ann.snd spec_l4Flat_an)))))) (⟨mkE 21 0 [(0, .dat (.int .i64) x517), (3, .dat (.int .i64) x620), (4, .dat (.int .i64) x621)], []⟩ : St) (spec_l4Flat_n3 (spec_l4Flat_fuel n) (spec_l4Rows_fuel n) x517 x620 x621) (Sum.elim (fun (t : Int × Int) => (Exit.normal, (⟨mkE 21 0 [(0, .dat (.int .i64) x517), (3, .dat (.int .i64) t.1), (4, .dat (.int .i64) t.2)], []⟩ : St))) (fun (t : Int) => ((Exit.exit 0), (⟨mkE 21 0 [(3, .dat (.int .i64) t)], []⟩ : St)))) := by
  refine Link.of fun K h => ?_
  simp only [spec_l4Flat_n3, wpO_bind, wpO_cond, wpO_map, wpO_some] at h
  exact Awp.of (by kernel_rfl) h

theorem spec_l4Flat_n4_l (n : Nat) (x517 : Int) : Link (spec_l4Flat_ctx n) LL (Code.fst (Code.snd (Code.fst (Code.snd (Code.snd (bodyOf Try.f25)))))) (Ann.fst (Ann.snd (Ann.fst (Ann.snd (Ann.snd spec_l4Flat_an))))) (⟨mkE 21 0 [(0, .dat (.int .i64) x517), (3, .dat (.int .i64) 0), (4, .dat (.int .i64) 0)], []⟩ : St) (spec_l4Flat_n4 (spec_l4Flat_fuel n) (spec_l4Rows_fuel n) x517) (fun (t : Int) => ((Exit.exit 0), (⟨mkE 21 0 [(3, .dat (.int .i64) t)], []⟩ : St))) := by
  unfold spec_l4Flat_n4
  exact Link.cast (by kernel_rfl) (by kernel_rfl) (link_loop (mk := fun (s : Int × Int) => (⟨mkE 21 0 [(0, .dat (.int .i64) x517), (3, .dat (.int .i64) s.1), (4, .dat (.int .i64) s.2)], []⟩ : St)) (fin := (fun (t : Int) => ((Exit.exit 0), (⟨mkE 21 0 [(3, .dat (.int .i64) t)], []⟩ : St)))) (by
  rintro t f K h
  · exact h) (fun s => link_map (spec_l4Flat_n3_l n x517 s.1 s.2) (Sum.elim (fun (t : Int × Int) => Sum.inl (t.1, t.2)) (fun (t : Int) => Sum.inr t)) (by
  rintro (t | t)
  · kernel_rfl
  · kernel_rfl)) (0, 0))

theorem spec_l4Flat_n5_l (n : Nat) (x517 : Int) : Link (spec_l4Flat_ctx n) LL (Code.snd (Code.fst (Code.snd (Code.snd (bodyOf Try.f25))))) (Ann.snd (Ann.fst (Ann.snd (Ann.snd spec_l4Flat_an)))) (⟨mkE 21 0 [(0, .dat (.int .i64) x517), (3, .dat (.int .i64) 0), (4, .dat (.int .i64) 0)], []⟩ : St) (spec_l4Flat_n5 (spec_l4Flat_fuel n) (spec_l4Rows_fuel n) x517) (fun (t : Int) => (Exit.normal, (⟨mkE 21 0 [(3, .dat (.int .i64) t)], []⟩ : St))) := by
  unfold spec_l4Flat_n5
  exact Link.cast (by kernel_rfl) (by kernel_rfl) (link_block (id := 0) (spec_l4Flat_n4_l n x517) (fun (t : Int) => t) (by
  rintro t K h
  · exact Eq.mp (by kernel_rfl) h))

theorem spec_l4Flat_n6_l (n : Nat) (x517 : Int) : Link (spec_l4Flat_ctx n) LL (Code.fst (Code.snd (Code.snd (bodyOf Try.f25)))) (Ann.fst (Ann.snd (Ann.snd spec_l4Flat_an))) (⟨mkE 21 0 [(0, .dat (.int .i64) x517), (3, .dat (.int .i64) 0)], []⟩ : St) (spec_l4Flat_n6 (spec_l4Flat_fuel n) (spec_l4Rows_fuel n) x517) (fun (t : Int) => (Exit.normal, (⟨mkE 21 0 [(3, .dat (.int .i64) t)], []⟩ : St))) := by
  unfold spec_l4Flat_n6
  exact Link.cast (by kernel_rfl) (by kernel_rfl) (link_seq (b := (Code.snd (Code.fst (Code.snd (Code.snd (bodyOf Try.f25)))))) (y := (Ann.snd (Ann.fst (Ann.snd (Ann.snd spec_l4Flat_an))))) (spec_l4Flat_n2_l n x517) (fun (t : Unit) => (spec_l4Flat_n5_l n x517)))

theorem spec_l4Flat_n7_l (n : Nat) (x620 : Int) : Link (spec_l4Flat_ctx n) LL (Code.snd (Code.snd (Code.snd (bodyOf Try.f25)))) (Ann.snd (Ann.snd (Ann.snd spec_l4Flat_an))) (⟨mkE 21 0 [(3, .dat (.int .i64) x620)], []⟩ : St) (spec_l4Flat_n7 (spec_l4Flat_fuel n) (spec_l4Rows_fuel n) x620) (fun (t : Int) => (Exit.ret, (⟨mkE 21 0 [(2, .dat (.int .i64) t)], []⟩ : St))) := by
  refine Link.of fun K h => ?_
  simp only [spec_l4Flat_n7, wpO_bind, wpO_cond, wpO_map, wpO_some] at h
  exact Awp.of (by kernel_rfl) h

theorem spec_l4Flat_n8_l (n : Nat) (x517 : Int) : Link (spec_l4Flat_ctx n) LL (Code.snd (Code.snd (bodyOf Try.f25))) (Ann.snd (Ann.snd spec_l4Flat_an)) (⟨mkE 21 0 [(0, .dat (.int .i64) x517), (3, .dat (.int .i64) 0)], []⟩ : St) (spec_l4Flat_n8 (spec_l4Flat_fuel n) (spec_l4Rows_fuel n) x517) (fun (t : Int) => (Exit.ret, (⟨mkE 21 0 [(2, .dat (.int .i64) t)], []⟩ : St))) := by
  unfold spec_l4Flat_n8
  exact Link.cast (by kernel_rfl) (by kernel_rfl) (link_seq (b := (Code.snd (Code.snd (Code.snd (bodyOf Try.f25))))) (y := (Ann.snd (Ann.snd (Ann.snd spec_l4Flat_an)))) (spec_l4Flat_n6_l n x517) (fun (t : Int) => (spec_l4Flat_n7_l n t)))

theorem spec_l4Flat_n9_l (n : Nat) (x517 : Int) : Link (spec_l4Flat_ctx n) LL (bodyOf Try.f25) spec_l4Flat_an (⟨mkE 21 0 [(0, .dat (.int .i64) x517)], []⟩ : St) (spec_l4Flat_n9 (spec_l4Flat_fuel n) (spec_l4Rows_fuel n) x517) (fun (t : Int) => (Exit.ret, (⟨mkE 21 0 [(2, .dat (.int .i64) t)], []⟩ : St))) := by
  unfold spec_l4Flat_n9
  exact Link.cast (by kernel_rfl) (by kernel_rfl) (link_group (c := (Code.fst (Code.snd (bodyOf Try.f25)))) (a := (Ann.fst (Ann.snd spec_l4Flat_an))) [(Code.fst (bodyOf Try.f25))] [(Ann.fst spec_l4Flat_an)] rfl (link_seq (b := (Code.snd (Code.snd (bodyOf Try.f25)))) (y := (Ann.snd (Ann.snd spec_l4Flat_an))) (spec_l4Flat_n1_l n x517) (fun (t : Unit) => (spec_l4Flat_n8_l n x517))))

theorem spec_l4Flat_e (n : Nat) (x517 : Int) {r : AV} {H' : Heap} (h : (Ans.mk _ (spec_l4Flat_fuel (n + 1) x517) (fun (t : Int) => (.dat (.int .i64) t, []))).run = some (r, H')) : Awp (spec_l4Flat_ctx n) LL (bodyOf Try.f25) spec_l4Flat_an (⟨mkE 21 0 [(0, .dat (.int .i64) x517)], []⟩ : St) (Ret (tlook tys) Try.f25.results.toList r H') :=
  ret_of' (spec_l4Flat_n9_l n x517) (by (show _ = _); kernel_rfl) (by
  intro t
  exact ret_mk [.dat (.int .i64) t] (by kernel_rfl) (by kernel_rfl) (by kernel_rfl) (by kernel_rfl)) h

theorem spec_l4Rows_n1_l (n : Nat) (x565 : Int) : Link (spec_l4Rows_ctx n) LL (Code.seq (Code.fst (bodyOf Try.f27)) (Code.seq (Code.fst (Code.snd (bodyOf Try.f27))) (Code.fst (Code.snd (Code.snd (bodyOf Try.f27)))))) (Ann.seq (Ann.fst spec_l4Rows_an) (Ann.seq (Ann.fst (Ann.snd spec_l4Rows_an)) (Ann.fst (Ann.snd (Ann.snd spec_l4Rows_an))))) (⟨mkE 22 0 [(0, .dat (.int .i64) x565)], []⟩ : St) (spec_l4Rows_n1 (spec_l4Flat_fuel n) (spec_l4Rows_fuel n) x565) (Sum.elim (fun (t : Unit) => (Exit.normal, (⟨mkE 22 0 [(0, .dat (.int .i64) x565), (3, .dat (.int .i64) 0)], []⟩ : St))) (fun (t : Int) => (Exit.ret, (⟨mkE 22 0 [(2, .dat (.int .i64) t)], []⟩ : St)))) := by
  refine Link.of fun K h => ?_
  simp only [spec_l4Rows_n1, wpO_bind, wpO_cond, wpO_map, wpO_some] at h
  exact Awp.of (by kernel_rfl) h

theorem spec_l4Rows_n2_l (n : Nat) (x565 : Int) : Link (spec_l4Rows_ctx n) LL (Code.fst (Code.fst (Code.snd (Code.snd (Code.snd (bodyOf Try.f27)))))) (Ann.fst (Ann.fst (Ann.snd (Ann.snd (Ann.snd spec_l4Rows_an))))) (⟨mkE 22 0 [(0, .dat (.int .i64) x565), (3, .dat (.int .i64) 0)], []⟩ : St) (spec_l4Rows_n2 (spec_l4Flat_fuel n) (spec_l4Rows_fuel n)) (fun (t : Unit) => (Exit.normal, (⟨mkE 22 0 [(0, .dat (.int .i64) x565), (3, .dat (.int .i64) 0), (4, .dat (.int .i64) 1)], []⟩ : St))) := by
  refine Link.of fun K h => ?_
  simp only [spec_l4Rows_n2, wpO_bind, wpO_cond, wpO_map, wpO_some] at h
  exact Awp.of (by kernel_rfl) h

theorem spec_l4Rows_n3_l (n : Nat) (x565 : Int) (x589 : Int) (x590 : Int) : Link (spec_l4Rows_ctx n) LL (Code.fst (Code.fst (Code.snd (Code.fst (Code.snd (Code.snd (Code.snd (bodyOf Try.f27)))))))) (Ann.fst (Ann.fst (Ann.snd (Ann.fst (Ann.snd (Ann.snd (Ann.snd spec_l4Rows_an))))))) (⟨mkE 22 0 [(0, .dat (.int .i64) x565), (3, .dat (.int .i64) x589), (4, .dat (.int .i64) x590)], []⟩ : St) (spec_l4Rows_n3 (spec_l4Flat_fuel n) (spec_l4Rows_fuel n) x565 x589 x590) (Sum.elim (fun (t : Int × Int) => (Exit.normal, (⟨mkE 22 0 [(0, .dat (.int .i64) x565), (3, .dat (.int .i64) t.1), (4, .dat (.int .i64) t.2)], []⟩ : St))) (fun (t : Int) => ((Exit.exit 0), (⟨mkE 22 0 [(3, .dat (.int .i64) t)], []⟩ : St)))) := by
  refine Link.of fun K h => ?_
  simp only [spec_l4Rows_n3, wpO_bind, wpO_cond, wpO_map, wpO_some] at h
  exact Awp.of (by kernel_rfl) h

theorem spec_l4Rows_n4_l (n : Nat) (x565 : Int) : Link (spec_l4Rows_ctx n) LL (Code.fst (Code.snd (Code.fst (Code.snd (Code.snd (Code.snd (bodyOf Try.f27))))))) (Ann.fst (Ann.snd (Ann.fst (Ann.snd (Ann.snd (Ann.snd spec_l4Rows_an)))))) (⟨mkE 22 0 [(0, .dat (.int .i64) x565), (3, .dat (.int .i64) 0), (4, .dat (.int .i64) 1)], []⟩ : St) (spec_l4Rows_n4 (spec_l4Flat_fuel n) (spec_l4Rows_fuel n) x565) (fun (t : Int) => ((Exit.exit 0), (⟨mkE 22 0 [(3, .dat (.int .i64) t)], []⟩ : St))) := by
  unfold spec_l4Rows_n4
  exact Link.cast (by kernel_rfl) (by kernel_rfl) (link_loop (mk := fun (s : Int × Int) => (⟨mkE 22 0 [(0, .dat (.int .i64) x565), (3, .dat (.int .i64) s.1), (4, .dat (.int .i64) s.2)], []⟩ : St)) (fin := (fun (t : Int) => ((Exit.exit 0), (⟨mkE 22 0 [(3, .dat (.int .i64) t)], []⟩ : St)))) (by
  rintro t f K h
  · exact h) (fun s => link_map (spec_l4Rows_n3_l n x565 s.1 s.2) (Sum.elim (fun (t : Int × Int) => Sum.inl (t.1, t.2)) (fun (t : Int) => Sum.inr t)) (by
  rintro (t | t)
  · kernel_rfl
  · kernel_rfl)) (0, 1))

theorem spec_l4Rows_n5_l (n : Nat) (x565 : Int) : Link (spec_l4Rows_ctx n) LL (Code.snd (Code.fst (Code.snd (Code.snd (Code.snd (bodyOf Try.f27)))))) (Ann.snd (Ann.fst (Ann.snd (Ann.snd (Ann.snd spec_l4Rows_an))))) (⟨mkE 22 0 [(0, .dat (.int .i64) x565), (3, .dat (.int .i64) 0), (4, .dat (.int .i64) 1)], []⟩ : St) (spec_l4Rows_n5 (spec_l4Flat_fuel n) (spec_l4Rows_fuel n) x565) (fun (t : Int) => (Exit.normal, (⟨mkE 22 0 [(3, .dat (.int .i64) t)], []⟩ : St))) := by
  unfold spec_l4Rows_n5
  exact Link.cast (by kernel_rfl) (by kernel_rfl) (link_block (id := 0) (spec_l4Rows_n4_l n x565) (fun (t : Int) => t) (by
  rintro t K h
  · exact Eq.mp (by kernel_rfl) h))

theorem spec_l4Rows_n6_l (n : Nat) (x565 : Int) : Link (spec_l4Rows_ctx n) LL (Code.fst (Code.snd (Code.snd (Code.snd (bodyOf Try.f27))))) (Ann.fst (Ann.snd (Ann.snd (Ann.snd spec_l4Rows_an)))) (⟨mkE 22 0 [(0, .dat (.int .i64) x565), (3, .dat (.int .i64) 0)], []⟩ : St) (spec_l4Rows_n6 (spec_l4Flat_fuel n) (spec_l4Rows_fuel n) x565) (fun (t : Int) => (Exit.normal, (⟨mkE 22 0 [(3, .dat (.int .i64) t)], []⟩ : St))) := by
  unfold spec_l4Rows_n6
  exact Link.cast (by kernel_rfl) (by kernel_rfl) (link_seq (b := (Code.snd (Code.fst (Code.snd (Code.snd (Code.snd (bodyOf Try.f27))))))) (y := (Ann.snd (Ann.fst (Ann.snd (Ann.snd (Ann.snd spec_l4Rows_an)))))) (spec_l4Rows_n2_l n x565) (fun (t : Unit) => (spec_l4Rows_n5_l n x565)))

theorem spec_l4Rows_n7_l (n : Nat) (x589 : Int) : Link (spec_l4Rows_ctx n) LL (Code.snd (Code.snd (Code.snd (Code.snd (bodyOf Try.f27))))) (Ann.snd (Ann.snd (Ann.snd (Ann.snd spec_l4Rows_an)))) (⟨mkE 22 0 [(3, .dat (.int .i64) x589)], []⟩ : St) (spec_l4Rows_n7 (spec_l4Flat_fuel n) (spec_l4Rows_fuel n) x589) (fun (t : Int) => (Exit.ret, (⟨mkE 22 0 [(2, .dat (.int .i64) t)], []⟩ : St))) := by
  refine Link.of fun K h => ?_
  simp only [spec_l4Rows_n7, wpO_bind, wpO_cond, wpO_map, wpO_some] at h
  exact Awp.of (by kernel_rfl) h

theorem spec_l4Rows_n8_l (n : Nat) (x565 : Int) : Link (spec_l4Rows_ctx n) LL (Code.snd (Code.snd (Code.snd (bodyOf Try.f27)))) (Ann.snd (Ann.snd (Ann.snd spec_l4Rows_an))) (⟨mkE 22 0 [(0, .dat (.int .i64) x565), (3, .dat (.int .i64) 0)], []⟩ : St) (spec_l4Rows_n8 (spec_l4Flat_fuel n) (spec_l4Rows_fuel n) x565) (fun (t : Int) => (Exit.ret, (⟨mkE 22 0 [(2, .dat (.int .i64) t)], []⟩ : St))) := by
  unfold spec_l4Rows_n8
  exact Link.cast (by kernel_rfl) (by kernel_rfl) (link_seq (b := (Code.snd (Code.snd (Code.snd (Code.snd (bodyOf Try.f27)))))) (y := (Ann.snd (Ann.snd (Ann.snd (Ann.snd spec_l4Rows_an))))) (spec_l4Rows_n6_l n x565) (fun (t : Int) => (spec_l4Rows_n7_l n t)))

theorem spec_l4Rows_n9_l (n : Nat) (x565 : Int) : Link (spec_l4Rows_ctx n) LL (bodyOf Try.f27) spec_l4Rows_an (⟨mkE 22 0 [(0, .dat (.int .i64) x565)], []⟩ : St) (spec_l4Rows_n9 (spec_l4Flat_fuel n) (spec_l4Rows_fuel n) x565) (fun (t : Int) => (Exit.ret, (⟨mkE 22 0 [(2, .dat (.int .i64) t)], []⟩ : St))) := by
  unfold spec_l4Rows_n9
  exact Link.cast (by kernel_rfl) (by kernel_rfl) (link_group (c := (Code.fst (Code.snd (Code.snd (bodyOf Try.f27))))) (a := (Ann.fst (Ann.snd (Ann.snd spec_l4Rows_an)))) [(Code.fst (bodyOf Try.f27)), (Code.fst (Code.snd (bodyOf Try.f27)))] [(Ann.fst spec_l4Rows_an), (Ann.fst (Ann.snd spec_l4Rows_an))] rfl (link_seq2 (b := (Code.snd (Code.snd (Code.snd (bodyOf Try.f27))))) (y := (Ann.snd (Ann.snd (Ann.snd spec_l4Rows_an)))) (spec_l4Rows_n1_l n x565) (fun (t : Unit) => (spec_l4Rows_n8_l n x565)) (fun (t : Int) => t) (by
  rintro t
  · kernel_rfl) (by
  rintro t f K h
  · exact h)))

theorem spec_l4Rows_e (n : Nat) (x565 : Int) {r : AV} {H' : Heap} (h : (Ans.mk _ (spec_l4Rows_fuel (n + 1) x565) (fun (t : Int) => (.dat (.int .i64) t, []))).run = some (r, H')) : Awp (spec_l4Rows_ctx n) LL (bodyOf Try.f27) spec_l4Rows_an (⟨mkE 22 0 [(0, .dat (.int .i64) x565)], []⟩ : St) (Ret (tlook tys) Try.f27.results.toList r H') :=
  ret_of' (spec_l4Rows_n9_l n x565) (by (show _ = _); kernel_rfl) (by
  intro t
  exact ret_mk [.dat (.int .i64) t] (by kernel_rfl) (by kernel_rfl) (by kernel_rfl) (by kernel_rfl)) h

theorem spec_l4Flat_step (n : Nat) (h25 : Sound Try.prog 25 (F_spec_l4Flat_fuel n)) (h27 : Sound Try.prog 27 (F_spec_l4Rows_fuel n)) : Sound Try.prog 25 (F_spec_l4Flat_fuel (n + 1)) := by
  refine fn_sound' (C := spec_l4Flat_ctx n) (c := bodyOf Try.f25) (cok_of tys_ok (List.forall_mem_cons.2 ⟨h27, by simp⟩) (List.forall_mem_cons.2 ⟨Try.call27, by simp⟩) (by kernel_rfl)) Try.func25 (by kernel_rfl) LL spec_l4Flat_an ?_
  intro avs H r H' h
  unfold F_spec_l4Flat_fuel at h
  split at h
  · refine Awp.cast ?_ ?_ ?_ (spec_l4Flat_e n _ h) <;> kernel_rfl
  · simp [Ans.no, Ans.run] at h

theorem spec_l4Flat_null : Sound Try.prog 25 (F_spec_l4Flat_fuel 0) := by
  intro avs H r H' h
  unfold F_spec_l4Flat_fuel at h
  split at h
  · simp [spec_l4Flat_fuel, spec_l4Flat_knot, Ans.run] at h
  · simp [Ans.no, Ans.run] at h

theorem spec_l4Rows_step (n : Nat) (h25 : Sound Try.prog 25 (F_spec_l4Flat_fuel n)) (h27 : Sound Try.prog 27 (F_spec_l4Rows_fuel n)) : Sound Try.prog 27 (F_spec_l4Rows_fuel (n + 1)) := by
  refine fn_sound' (C := spec_l4Rows_ctx n) (c := bodyOf Try.f27) (cok_of tys_ok (List.forall_mem_cons.2 ⟨h25, List.forall_mem_cons.2 ⟨h27, by simp⟩⟩) (List.forall_mem_cons.2 ⟨Try.call25, List.forall_mem_cons.2 ⟨Try.call27, by simp⟩⟩) (by kernel_rfl)) Try.func27 (by kernel_rfl) LL spec_l4Rows_an ?_
  intro avs H r H' h
  unfold F_spec_l4Rows_fuel at h
  split at h
  · refine Awp.cast ?_ ?_ ?_ (spec_l4Rows_e n _ h) <;> kernel_rfl
  · simp [Ans.no, Ans.run] at h

theorem spec_l4Rows_null : Sound Try.prog 27 (F_spec_l4Rows_fuel 0) := by
  intro avs H r H' h
  unfold F_spec_l4Rows_fuel at h
  split at h
  · simp [spec_l4Rows_fuel, spec_l4Flat_knot, Ans.run] at h
  · simp [Ans.no, Ans.run] at h

theorem spec_l4Flat_knot_all : ∀ n, Sound Try.prog 25 (F_spec_l4Flat_fuel n) ∧ Sound Try.prog 27 (F_spec_l4Rows_fuel n)
  | 0 => ⟨spec_l4Flat_null, spec_l4Rows_null⟩
  | n + 1 => by
    obtain ⟨h25, h27⟩ := spec_l4Flat_knot_all n
    exact ⟨spec_l4Flat_step n h25 h27, spec_l4Rows_step n h25 h27⟩

def F_spec_l4Flat : Fun := fun avs H =>
  match avs, H with
  | [.dat (.int .i64) x517], [] => ⟨_, spec_l4Flat x517, fun (t : Int) => (.dat (.int .i64) t, [])⟩
  | _, _ => Ans.no

theorem spec_l4Flat_sound : Sound Try.prog 25 F_spec_l4Flat := by
  have e : F_spec_l4Flat = F_spec_l4Flat_fuel RR := by
    funext avs H
    unfold F_spec_l4Flat F_spec_l4Flat_fuel
    split <;> first | rfl | (simp only [spec_l4Flat])
  rw [e]
  exact (spec_l4Flat_knot_all RR).1

def F_spec_l4Rows : Fun := fun avs H =>
  match avs, H with
  | [.dat (.int .i64) x565], [] => ⟨_, spec_l4Rows x565, fun (t : Int) => (.dat (.int .i64) t, [])⟩
  | _, _ => Ans.no

theorem spec_l4Rows_sound : Sound Try.prog 27 F_spec_l4Rows := by
  have e : F_spec_l4Rows = F_spec_l4Rows_fuel RR := by
    funext avs H
    unfold F_spec_l4Rows F_spec_l4Rows_fuel
    split <;> first | rfl | (simp only [spec_l4Rows])
  rw [e]
  exact (spec_l4Flat_knot_all RR).2

/-! loop.example/headtrees/spec.CountFlat -/

def spec_CountFlat_an : Ann := (.seq (.leaf [0]) (.seq (.seq (.leaf [0, 5]) (.cond (.seq (.leaf [2]) (.leaf [2])) (.leaf [0]))) (.seq (.leaf [2]) (.leaf [2]))))

noncomputable def spec_CountFlat_ctx : Ctx := ⟨tlook tys, olook [(24, F_spec_l1In), (25, F_spec_l4Flat)], ioF, 0⟩

theorem spec_CountFlat_n1_l (x504 : Int) : Link spec_CountFlat_ctx LL (bodyOf Try.f10) spec_CountFlat_an (⟨mkE 8 0 [(0, .dat (.int .i64) x504)], []⟩ : St) (spec_CountFlat_n1 x504) (fun (t : Int) => (Exit.ret, (⟨mkE 8 0 [(2, .dat (.int .i64) t)], []⟩ : St))) := by
  refine Link.of fun K h => ?_
  simp only [spec_CountFlat_n1, wpO_bind, wpO_cond, wpO_map, wpO_some] at h
  exact Awp.of (by kernel_rfl) h

theorem spec_CountFlat_e (x504 : Int) {r : AV} {H' : Heap} (h : (Ans.mk _ (spec_CountFlat x504) (fun (t : Int) => (.dat (.int .i64) t, []))).run = some (r, H')) : Awp spec_CountFlat_ctx LL (bodyOf Try.f10) spec_CountFlat_an (⟨mkE 8 0 [(0, .dat (.int .i64) x504)], []⟩ : St) (Ret (tlook tys) Try.f10.results.toList r H') :=
  ret_of' (spec_CountFlat_n1_l x504) (by unfold spec_CountFlat; kernel_rfl) (by
  intro t
  exact ret_mk [.dat (.int .i64) t] (by kernel_rfl) (by kernel_rfl) (by kernel_rfl) (by kernel_rfl)) h

def F_spec_CountFlat : Fun := fun avs H =>
  match avs, H with
  | [.dat (.int .i64) x504], [] => ⟨_, spec_CountFlat x504, fun (t : Int) => (.dat (.int .i64) t, [])⟩
  | _, _ => Ans.no

theorem spec_CountFlat_sound : Sound Try.prog 10 F_spec_CountFlat := by
  refine fn_sound' (C := spec_CountFlat_ctx) (c := bodyOf Try.f10) (cok_of tys_ok (List.forall_mem_cons.2 ⟨spec_l1In_sound, List.forall_mem_cons.2 ⟨spec_l4Flat_sound, by simp⟩⟩) (List.forall_mem_cons.2 ⟨Try.call24, List.forall_mem_cons.2 ⟨Try.call25, by simp⟩⟩) (by kernel_rfl)) Try.func10 (by kernel_rfl) LL spec_CountFlat_an ?_
  intro avs H r H' h
  unfold F_spec_CountFlat at h
  split at h
  · refine Awp.cast ?_ ?_ ?_ (spec_CountFlat_e _ h) <;> kernel_rfl
  · simp [Ans.no, Ans.run] at h

/-! loop.example/headtrees/impl.oneRoot -/

def impl_oneRoot_an : Ann := (.seq (.leaf [0]) (.seq (.leaf [0, 3]) (.seq (.seq (.leaf [0, 3, 6, 7, 8]) (.block (.loop (.seq (.leaf [0, 3, 6, 7, 8, 9]) (.seq (.cond (.leaf [0, 3, 6, 7, 8]) (.leaf [3])) (.seq (.block (.seq (.leaf [0, 3, 5, 6, 7, 8]) (.seq (.seq (.leaf [0, 3, 5, 6, 7, 8, 19]) (.cond (.seq (.leaf [2]) (.leaf [2])) (.leaf [0, 3, 5, 6, 7, 8]))) (.seq (.leaf [0, 3, 6, 7, 8, 21]) (.cond (.leaf [0, 3, 6, 7, 8]) (.leaf [0, 3, 6, 7, 8])))))) (.leaf [0, 3, 6, 7, 8]))))))) (.seq (.leaf [2]) (.leaf [2])))))

noncomputable def impl_oneRoot_ctx : Ctx := ⟨tlook tys, olook [], ioF, 0⟩

theorem impl_oneRoot_n1_l (x661 : List Int) : Link impl_oneRoot_ctx LL (Code.seq (Code.fst (bodyOf Try.f33)) (Code.fst (Code.snd (bodyOf Try.f33)))) (Ann.seq (Ann.fst impl_oneRoot_an) (Ann.fst (Ann.snd impl_oneRoot_an))) (⟨mkE 27 0 [(0, .dat (.list (.int .i64)) x661)], []⟩ : St) (impl_oneRoot_n1) (fun (t : Unit) => (Exit.normal, (⟨mkE 27 0 [(0, .dat (.list (.int .i64)) x661), (3, .dat (.int .i64) 0)], []⟩ : St))) := by
  refine Link.of fun K h => ?_
  simp only [impl_oneRoot_n1, wpO_bind, wpO_cond, wpO_map, wpO_some] at h
  exact Awp.of (by kernel_rfl) h

theorem impl_oneRoot_n2_l (x661 : List Int) : Link impl_oneRoot_ctx LL (Code.fst (Code.fst (Code.snd (Code.snd (bodyOf Try.f33))))) (Ann.fst (Ann.fst (Ann.snd (Ann.snd impl_oneRoot_an)))) (⟨mkE 27 0 [(0, .dat (.list (.int .i64)) x661), (3, .dat (.int .i64) 0)], []⟩ : St) (impl_oneRoot_n2 x661) (fun (t : Int) => (Exit.normal, (⟨mkE 27 0 [(0, .dat (.list (.int .i64)) x661), (3, .dat (.int .i64) 0), (6, .dat (.list (.int .i64)) x661), (7, .dat (.int .i64) t), (8, .dat (.int .i64) 0)], []⟩ : St))) := by
  refine Link.of fun K h => ?_
  simp only [impl_oneRoot_n2, wpO_bind, wpO_cond, wpO_map, wpO_some] at h
  exact Awp.of (by kernel_rfl) h

theorem impl_oneRoot_n3_l (x661 : List Int) (x683 : Int) (x662 : Int) (x684 : Int) : Link impl_oneRoot_ctx LL (Code.fst (Code.fst (Code.snd (Code.fst (Code.snd (Code.snd (bodyOf Try.f33))))))) (Ann.fst (Ann.fst (Ann.snd (Ann.fst (Ann.snd (Ann.snd impl_oneRoot_an)))))) (⟨mkE 27 0 [(0, .dat (.list (.int .i64)) x661), (3, .dat (.int .i64) x683), (6, .dat (.list (.int .i64)) x661), (7, .dat (.int .i64) x662), (8, .dat (.int .i64) x684)], []⟩ : St) (impl_oneRoot_n3 x661 x683 x662 x684) (Sum.elim (fun (t : Int × Int) => (Exit.normal, (⟨mkE 27 0 [(0, .dat (.list (.int .i64)) x661), (3, .dat (.int .i64) t.1), (6, .dat (.list (.int .i64)) x661), (7, .dat (.int .i64) x662), (8, .dat (.int .i64) t.2)], []⟩ : St))) (Sum.elim (fun (t : Bool) => (Exit.ret, (⟨mkE 27 0 [(2, .dat .bool t)], []⟩ : St))) (fun (t : Int) => ((Exit.exit 0), (⟨mkE 27 0 [(3, .dat (.int .i64) t)], []⟩ : St))))) := by
  refine Link.of fun K h => ?_
  simp only [impl_oneRoot_n3, wpO_bind, wpO_cond, wpO_map, wpO_some] at h
  exact Awp.of (by kernel_rfl) h

theorem impl_oneRoot_n4_l (x661 : List Int) (x662 : Int) : Link impl_oneRoot_ctx LL (Code.fst (Code.snd (Code.fst (Code.snd (Code.snd (bodyOf Try.f33)))))) (Ann.fst (Ann.snd (Ann.fst (Ann.snd (Ann.snd impl_oneRoot_an))))) (⟨mkE 27 0 [(0, .dat (.list (.int .i64)) x661), (3, .dat (.int .i64) 0), (6, .dat (.list (.int .i64)) x661), (7, .dat (.int .i64) x662), (8, .dat (.int .i64) 0)], []⟩ : St) (impl_oneRoot_n4 x661 x662) (Sum.elim (fun (t : Bool) => (Exit.ret, (⟨mkE 27 0 [(2, .dat .bool t)], []⟩ : St))) (fun (t : Int) => ((Exit.exit 0), (⟨mkE 27 0 [(3, .dat (.int .i64) t)], []⟩ : St)))) := by
  unfold impl_oneRoot_n4
  exact Link.cast (by kernel_rfl) (by kernel_rfl) (link_loop (mk := fun (s : Int × Int) => (⟨mkE 27 0 [(0, .dat (.list (.int .i64)) x661), (3, .dat (.int .i64) s.1), (6, .dat (.list (.int .i64)) x661), (7, .dat (.int .i64) x662), (8, .dat (.int .i64) s.2)], []⟩ : St)) (fin := (Sum.elim (fun (t : Bool) => (Exit.ret, (⟨mkE 27 0 [(2, .dat .bool t)], []⟩ : St))) (fun (t : Int) => ((Exit.exit 0), (⟨mkE 27 0 [(3, .dat (.int .i64) t)], []⟩ : St))))) (by
  rintro (t | t) f K h
  · exact h
  · exact h) (fun s => link_map (impl_oneRoot_n3_l x661 s.1 x662 s.2) (Sum.elim (fun (t : Int × Int) => Sum.inl (t.1, t.2)) (Sum.elim (fun (t : Bool) => Sum.inr (Sum.inl t)) (fun (t : Int) => Sum.inr (Sum.inr t)))) (by
  rintro (t | t | t)
  · kernel_rfl
  · kernel_rfl
  · kernel_rfl)) (0, 0))

theorem impl_oneRoot_n5_l (x661 : List Int) (x662 : Int) : Link impl_oneRoot_ctx LL (Code.snd (Code.fst (Code.snd (Code.snd (bodyOf Try.f33))))) (Ann.snd (Ann.fst (Ann.snd (Ann.snd impl_oneRoot_an)))) (⟨mkE 27 0 [(0, .dat (.list (.int .i64)) x661), (3, .dat (.int .i64) 0), (6, .dat (.list (.int .i64)) x661), (7, .dat (.int .i64) x662), (8, .dat (.int .i64) 0)], []⟩ : St) (impl_oneRoot_n5 x661 x662) (Sum.elim (fun (t : Int) => (Exit.normal, (⟨mkE 27 0 [(3, .dat (.int .i64) t)], []⟩ : St))) (fun (t : Bool) => (Exit.ret, (⟨mkE 27 0 [(2, .dat .bool t)], []⟩ : St)))) := by
  unfold impl_oneRoot_n5
  exact Link.cast (by kernel_rfl) (by kernel_rfl) (link_block (id := 0) (impl_oneRoot_n4_l x661 x662) (Sum.elim (fun (t : Bool) => (Sum.inr t)) (fun (t : Int) => (Sum.inl t))) (by
  rintro (t | t) K h
  · exact Eq.mp (by kernel_rfl) h
  · exact Eq.mp (by kernel_rfl) h))

theorem impl_oneRoot_n6_l (x661 : List Int) : Link impl_oneRoot_ctx LL (Code.fst (Code.snd (Code.snd (bodyOf Try.f33)))) (Ann.fst (Ann.snd (Ann.snd impl_oneRoot_an))) (⟨mkE 27 0 [(0, .dat (.list (.int .i64)) x661), (3, .dat (.int .i64) 0)], []⟩ : St) (impl_oneRoot_n6 x661) (Sum.elim (fun (t : Int) => (Exit.normal, (⟨mkE 27 0 [(3, .dat (.int .i64) t)], []⟩ : St))) (fun (t : Bool) => (Exit.ret, (⟨mkE 27 0 [(2, .dat .bool t)], []⟩ : St)))) := by
  unfold impl_oneRoot_n6
  exact Link.cast (by kernel_rfl) (by kernel_rfl) (link_seq (b := (Code.snd (Code.fst (Code.snd (Code.snd (bodyOf Try.f33)))))) (y := (Ann.snd (Ann.fst (Ann.snd (Ann.snd impl_oneRoot_an))))) (impl_oneRoot_n2_l x661) (fun (t : Int) => (impl_oneRoot_n5_l x661 t)))

theorem impl_oneRoot_n7_l (x683 : Int) : Link impl_oneRoot_ctx LL (Code.snd (Code.snd (Code.snd (bodyOf Try.f33)))) (Ann.snd (Ann.snd (Ann.snd impl_oneRoot_an))) (⟨mkE 27 0 [(3, .dat (.int .i64) x683)], []⟩ : St) (impl_oneRoot_n7 x683) (fun (t : Bool) => (Exit.ret, (⟨mkE 27 0 [(2, .dat .bool t)], []⟩ : St))) := by
  refine Link.of fun K h => ?_
  simp only [impl_oneRoot_n7, wpO_bind, wpO_cond, wpO_map, wpO_some] at h
  exact Awp.of (by kernel_rfl) h

theorem impl_oneRoot_n8_l (x661 : List Int) : Link impl_oneRoot_ctx LL (Code.snd (Code.snd (bodyOf Try.f33))) (Ann.snd (Ann.snd impl_oneRoot_an)) (⟨mkE 27 0 [(0, .dat (.list (.int .i64)) x661), (3, .dat (.int .i64) 0)], []⟩ : St) (impl_oneRoot_n8 x661) (fun (t : Bool) => (Exit.ret, (⟨mkE 27 0 [(2, .dat .bool t)], []⟩ : St))) := by
  unfold impl_oneRoot_n8
  exact Link.cast (by kernel_rfl) (by kernel_rfl) (link_seq2 (b := (Code.snd (Code.snd (Code.snd (bodyOf Try.f33))))) (y := (Ann.snd (Ann.snd (Ann.snd impl_oneRoot_an)))) (impl_oneRoot_n6_l x661) (fun (t : Int) => (impl_oneRoot_n7_l t)) (fun (t : Bool) => t) (by
  rintro t
  · kernel_rfl) (by
  rintro t f K h
  · exact h))

theorem impl_oneRoot_n9_l (x661 : List Int) : Link impl_oneRoot_ctx LL (bodyOf Try.f33) impl_oneRoot_an (⟨mkE 27 0 [(0, .dat (.list (.int .i64)) x661)], []⟩ : St) (impl_oneRoot_n9 x661) (fun (t : Bool) => (Exit.ret, (⟨mkE 27 0 [(2, .dat .bool t)], []⟩ : St))) := by
  unfold impl_oneRoot_n9
  exact Link.cast (by kernel_rfl) (by kernel_rfl) (link_group (c := (Code.fst (Code.snd (bodyOf Try.f33)))) (a := (Ann.fst (Ann.snd impl_oneRoot_an))) [(Code.fst (bodyOf Try.f33))] [(Ann.fst impl_oneRoot_an)] rfl (link_seq (b := (Code.snd (Code.snd (bodyOf Try.f33)))) (y := (Ann.snd (Ann.snd impl_oneRoot_an))) (impl_oneRoot_n1_l x661) (fun (t : Unit) => (impl_oneRoot_n8_l x661))))

theorem impl_oneRoot_e (x661 : List Int) {r : AV} {H' : Heap} (h : (Ans.mk _ (impl_oneRoot x661) (fun (t : Bool) => (.dat .bool t, []))).run = some (r, H')) : Awp impl_oneRoot_ctx LL (bodyOf Try.f33) impl_oneRoot_an (⟨mkE 27 0 [(0, .dat (.list (.int .i64)) x661)], []⟩ : St) (Ret (tlook tys) Try.f33.results.toList r H') :=
  ret_of' (impl_oneRoot_n9_l x661) (by unfold impl_oneRoot; kernel_rfl) (by
  intro t
  exact ret_mk [.dat .bool t] (by kernel_rfl) (by kernel_rfl) (by kernel_rfl) (by kernel_rfl)) h

def F_impl_oneRoot : Fun := fun avs H =>
  match avs, H with
  | [.dat (.list (.int .i64)) x661], [] => ⟨_, impl_oneRoot x661, fun (t : Bool) => (.dat .bool t, [])⟩
  | _, _ => Ans.no

theorem impl_oneRoot_sound : Sound Try.prog 33 F_impl_oneRoot := by
  refine fn_sound' (C := impl_oneRoot_ctx) (c := bodyOf Try.f33) (cok_of tys_ok (by simp) (by simp) (by kernel_rfl)) Try.func33 (by kernel_rfl) LL impl_oneRoot_an ?_
  intro avs H r H' h
  unfold F_impl_oneRoot at h
  split at h
  · refine Awp.cast ?_ ?_ ?_ (impl_oneRoot_e _ h) <;> kernel_rfl
  · simp [Ans.no, Ans.run] at h

/-! (*loop.example/headtrees/impl.walker).up -/

def impl_walker_up_an : Ann := (.seq (.leaf [0]) (.seq (.draw [] [0, 1, 2, 3, 4, 5, 6, 7, 8, 9, 10, 11] [] [0, 3]) (.seq (.seq (.leaf [0, 3, 16]) (.cond (.seq (.leaf [2]) (.leaf [2])) (.leaf [0, 3]))) (.seq (.leaf [0]) (.seq (.leaf []) (.seq (.leaf [2]) (.leaf [2])))))))

noncomputable def impl_walker_up_ctx : Ctx := ⟨tlook tys, olook [], ioF, 1⟩

theorem impl_walker_up_n1_l (x717 : List Int) (x718 : Int) (x719 : Int) : Link impl_walker_up_ctx LL (bodyOf Try.f39) impl_walker_up_an (⟨mkE 28 0 [(0, .ptr 0 0)], [some (.box [.dat (.list (.int .i64)) x717, .dat (.int .i64) x718, .dat (.int .i64) x719])]⟩ : St) (impl_walker_up_n1 x717 x718 x719) (fun (t : Bool × Int × Int) => (Exit.ret, (⟨mkE 28 0 [(2, .dat .bool t.1)], [some (.box [.dat (.list (.int .i64)) x717, .dat (.int .i64) t.2.1, .dat (.int .i64) t.2.2])]⟩ : St))) := by
  refine Link.of fun K h => ?_
  simp only [impl_walker_up_n1, wpO_bind, wpO_cond, wpO_map, wpO_some] at h
  exact Awp.of (by kernel_rfl) h

theorem impl_walker_up_e (x717 : List Int) (x718 : Int) (x719 : Int) {r : AV} {H' : Heap} (h : (Ans.mk _ (impl_walker_up x717 x718 x719) (fun (t : Bool × Int × Int) => (.dat .bool t.1, [some (.box [.dat (.list (.int .i64)) x717, .dat (.int .i64) t.2.1, .dat (.int .i64) t.2.2])]))).run = some (r, H')) : Awp impl_walker_up_ctx LL (bodyOf Try.f39) impl_walker_up_an (⟨mkE 28 0 [(0, .ptr 0 0)], [some (.box [.dat (.list (.int .i64)) x717, .dat (.int .i64) x718, .dat (.int .i64) x719])]⟩ : St) (Ret (tlook tys) Try.f39.results.toList r H') :=
  ret_of' (impl_walker_up_n1_l x717 x718 x719) (by unfold impl_walker_up; kernel_rfl) (by
  intro t
  exact ret_mk [.dat .bool t.1] (by kernel_rfl) (by kernel_rfl) (by kernel_rfl) (by kernel_rfl)) h

def F_impl_walker_up : Fun := fun avs H =>
  match avs, H with
  | [.ptr 0 0], [some (.box [.dat (.list (.int .i64)) x717, .dat (.int .i64) x718, .dat (.int .i64) x719])] => ⟨_, impl_walker_up x717 x718 x719, fun (t : Bool × Int × Int) => (.dat .bool t.1, [some (.box [.dat (.list (.int .i64)) x717, .dat (.int .i64) t.2.1, .dat (.int .i64) t.2.2])])⟩
  | _, _ => Ans.no

theorem impl_walker_up_sound : Sound Try.prog 39 F_impl_walker_up := by
  refine fn_sound' (C := impl_walker_up_ctx) (c := bodyOf Try.f39) (cok_of tys_ok (by simp) (by simp) (by kernel_rfl)) Try.func39 (by kernel_rfl) LL impl_walker_up_an ?_
  intro avs H r H' h
  unfold F_impl_walker_up at h
  split at h
  · refine Awp.cast ?_ ?_ ?_ (impl_walker_up_e _ _ _ h) <;> kernel_rfl
  · simp [Ans.no, Ans.run] at h

/-! loop.example/headtrees/impl.stepsToRoot -/

def impl_stepsToRoot_an : Ann := (.seq (.leaf [0, 1]) (.seq (.leaf [0, 6]) (.seq (.block (.loop (.seq (.seq (.leaf [0, 6, 10]) (.cond (.leaf [0, 6]) (.leaf [6]))) (.block (.seq (.leaf [0, 6, 15]) (.cond (.seq (.leaf [4, 5]) (.leaf [4, 5])) (.leaf [0, 6]))))))) (.seq (.leaf [4, 5]) (.leaf [4, 5])))))

noncomputable def impl_stepsToRoot_ctx : Ctx := ⟨tlook tys, olook [(39, F_impl_walker_up)], ioF, 0⟩

theorem impl_stepsToRoot_n1_l (x715 : List Int) (x716 : Int) : Link impl_stepsToRoot_ctx LL (Code.seq (Code.fst (bodyOf Try.f34)) (Code.fst (Code.snd (bodyOf Try.f34)))) (Ann.seq (Ann.fst impl_stepsToRoot_an) (Ann.fst (Ann.snd impl_stepsToRoot_an))) (⟨mkE 18 0 [(0, .dat (.list (.int .i64)) x715), (1, .dat (.int .i64) x716)], []⟩ : St) (impl_stepsToRoot_n1) (fun (t : Unit) => (Exit.normal, (⟨mkE 18 0 [(0, .dat (.list (.int .i64)) x715), (6, .ptr 0 0)], [some (.box [.dat (.list (.int .i64)) x715, .dat (.int .i64) x716, .dat (.int .i64) 0])]⟩ : St))) := by
  refine Link.of fun K h => ?_
  simp only [impl_stepsToRoot_n1, wpO_bind, wpO_cond, wpO_map, wpO_some] at h
  exact Awp.of (by kernel_rfl) h

theorem impl_stepsToRoot_n2_l (x715 : List Int) (x753 : Int) (x754 : Int) : Link impl_stepsToRoot_ctx LL (Code.fst (Code.fst (Code.fst (Code.snd (Code.snd (bodyOf Try.f34)))))) (Ann.fst (Ann.fst (Ann.fst (Ann.snd (Ann.snd impl_stepsToRoot_an))))) (⟨mkE 18 0 [(0, .dat (.list (.int .i64)) x715), (6, .ptr 0 0)], [some (.box [.dat (.list (.int .i64)) x715, .dat (.int .i64) x753, .dat (.int .i64) x754])]⟩ : St) (impl_stepsToRoot_n2 x715 x753 x754) (Sum.elim (fun (t : Int × Int) => (Exit.normal, (⟨mkE 18 0 [(0, .dat (.list (.int .i64)) x715), (6, .ptr 0 0)], [some (.box [.dat (.list (.int .i64)) x715, .dat (.int .i64) t.1, .dat (.int .i64) t.2])]⟩ : St))) (Sum.elim (fun (t : Int × Bool) => (Exit.ret, (⟨mkE 18 0 [(4, .dat (.int .i64) t.1), (5, .dat .bool t.2)], []⟩ : St))) (fun (t : Int × Int) => ((Exit.exit 0), (⟨mkE 18 0 [(6, .ptr 0 0)], [some (.box [.dat (.list (.int .i64)) x715, .dat (.int .i64) t.1, .dat (.int .i64) t.2])]⟩ : St))))) := by
  refine Link.of fun K h => ?_
  simp only [impl_stepsToRoot_n2, wpO_bind, wpO_cond, wpO_map, wpO_some] at h
  exact Awp.of (by kernel_rfl) h

theorem impl_stepsToRoot_n3_l (x715 : List Int) (x716 : Int) : Link impl_stepsToRoot_ctx LL (Code.fst (Code.fst (Code.snd (Code.snd (bodyOf Try.f34))))) (Ann.fst (Ann.fst (Ann.snd (Ann.snd impl_stepsToRoot_an)))) (⟨mkE 18 0 [(0, .dat (.list (.int .i64)) x715), (6, .ptr 0 0)], [some (.box [.dat (.list (.int .i64)) x715, .dat (.int .i64) x716, .dat (.int .i64) 0])]⟩ : St) (impl_stepsToRoot_n3 x715 x716) (Sum.elim (fun (t : Int × Bool) => (Exit.ret, (⟨mkE 18 0 [(4, .dat (.int .i64) t.1), (5, .dat .bool t.2)], []⟩ : St))) (fun (t : Int × Int) => ((Exit.exit 0), (⟨mkE 18 0 [(6, .ptr 0 0)], [some (.box [.dat (.list (.int .i64)) x715, .dat (.int .i64) t.1, .dat (.int .i64) t.2])]⟩ : St)))) := by
  unfold impl_stepsToRoot_n3
  exact Link.cast (by kernel_rfl) (by kernel_rfl) (link_loop (mk := fun (s : Int × Int) => (⟨mkE 18 0 [(0, .dat (.list (.int .i64)) x715), (6, .ptr 0 0)], [some (.box [.dat (.list (.int .i64)) x715, .dat (.int .i64) s.1, .dat (.int .i64) s.2])]⟩ : St)) (fin := (Sum.elim (fun (t : Int × Bool) => (Exit.ret, (⟨mkE 18 0 [(4, .dat (.int .i64) t.1), (5, .dat .bool t.2)], []⟩ : St))) (fun (t : Int × Int) => ((Exit.exit 0), (⟨mkE 18 0 [(6, .ptr 0 0)], [some (.box [.dat (.list (.int .i64)) x715, .dat (.int .i64) t.1, .dat (.int .i64) t.2])]⟩ : St))))) (by
  rintro (t | t) f K h
  · exact h
  · exact h) (fun s => link_map (impl_stepsToRoot_n2_l x715 s.1 s.2) (Sum.elim (fun (t : Int × Int) => Sum.inl (t.1, t.2)) (Sum.elim (fun (t : Int × Bool) => Sum.inr (Sum.inl t)) (fun (t : Int × Int) => Sum.inr (Sum.inr t)))) (by
  rintro (t | t | t)
  · kernel_rfl
  · kernel_rfl
  · kernel_rfl)) (x716, 0))

theorem impl_stepsToRoot_n4_l (x715 : List Int) (x716 : Int) : Link impl_stepsToRoot_ctx LL (Code.fst (Code.snd (Code.snd (bodyOf Try.f34)))) (Ann.fst (Ann.snd (Ann.snd impl_stepsToRoot_an))) (⟨mkE 18 0 [(0, .dat (.list (.int .i64)) x715), (6, .ptr 0 0)], [some (.box [.dat (.list (.int .i64)) x715, .dat (.int .i64) x716, .dat (.int .i64) 0])]⟩ : St) (impl_stepsToRoot_n4 x715 x716) (Sum.elim (fun (t : Int × Int) => (Exit.normal, (⟨mkE 18 0 [(6, .ptr 0 0)], [some (.box [.dat (.list (.int .i64)) x715, .dat (.int .i64) t.1, .dat (.int .i64) t.2])]⟩ : St))) (fun (t : Int × Bool) => (Exit.ret, (⟨mkE 18 0 [(4, .dat (.int .i64) t.1), (5, .dat .bool t.2)], []⟩ : St)))) := by
  unfold impl_stepsToRoot_n4
  exact Link.cast (by kernel_rfl) (by kernel_rfl) (link_block (id := 0) (impl_stepsToRoot_n3_l x715 x716) (Sum.elim (fun (t : Int × Bool) => (Sum.inr t)) (fun (t : Int × Int) => (Sum.inl (t.1, t.2)))) (by
  rintro (t | t) K h
  · exact Eq.mp (by kernel_rfl) h
  · exact Eq.mp (by kernel_rfl) h))

theorem impl_stepsToRoot_n5_l (x715 : List Int) (x761 : Int) (x762 : Int) : Link impl_stepsToRoot_ctx LL (Code.snd (Code.snd (Code.snd (bodyOf Try.f34)))) (Ann.snd (Ann.snd (Ann.snd impl_stepsToRoot_an))) (⟨mkE 18 0 [(6, .ptr 0 0)], [some (.box [.dat (.list (.int .i64)) x715, .dat (.int .i64) x761, .dat (.int .i64) x762])]⟩ : St) (impl_stepsToRoot_n5 x762) (fun (t : Int × Bool) => (Exit.ret, (⟨mkE 18 0 [(4, .dat (.int .i64) t.1), (5, .dat .bool t.2)], []⟩ : St))) := by
  refine Link.of fun K h => ?_
  simp only [impl_stepsToRoot_n5, wpO_bind, wpO_cond, wpO_map, wpO_some] at h
  exact Awp.of (by kernel_rfl) h

theorem impl_stepsToRoot_n6_l (x715 : List Int) (x716 : Int) : Link impl_stepsToRoot_ctx LL (Code.snd (Code.snd (bodyOf Try.f34))) (Ann.snd (Ann.snd impl_stepsToRoot_an)) (⟨mkE 18 0 [(0, .dat (.list (.int .i64)) x715), (6, .ptr 0 0)], [some (.box [.dat (.list (.int .i64)) x715, .dat (.int .i64) x716, .dat (.int .i64) 0])]⟩ : St) (impl_stepsToRoot_n6 x715 x716) (fun (t : Int × Bool) => (Exit.ret, (⟨mkE 18 0 [(4, .dat (.int .i64) t.1), (5, .dat .bool t.2)], []⟩ : St))) := by
  unfold impl_stepsToRoot_n6
  exact Link.cast (by kernel_rfl) (by kernel_rfl) (link_seq2 (b := (Code.snd (Code.snd (Code.snd (bodyOf Try.f34))))) (y := (Ann.snd (Ann.snd (Ann.snd impl_stepsToRoot_an)))) (impl_stepsToRoot_n4_l x715 x716) (fun (t : Int × Int) => (impl_stepsToRoot_n5_l x715 t.1 t.2)) (fun (t : Int × Bool) => t) (by
  rintro t
  · kernel_rfl) (by
  rintro t f K h
  · exact h))

theorem impl_stepsToRoot_n7_l (x715 : List Int) (x716 : Int) : Link impl_stepsToRoot_ctx LL (bodyOf Try.f34) impl_stepsToRoot_an (⟨mkE 18 0 [(0, .dat (.list (.int .i64)) x715), (1, .dat (.int .i64) x716)], []⟩ : St) (impl_stepsToRoot_n7 x715 x716) (fun (t : Int × Bool) => (Exit.ret, (⟨mkE 18 0 [(4, .dat (.int .i64) t.1), (5, .dat .bool t.2)], []⟩ : St))) := by
  unfold impl_stepsToRoot_n7
  exact Link.cast (by kernel_rfl) (by kernel_rfl) (link_group (c := (Code.fst (Code.snd (bodyOf Try.f34)))) (a := (Ann.fst (Ann.snd impl_stepsToRoot_an))) [(Code.fst (bodyOf Try.f34))] [(Ann.fst impl_stepsToRoot_an)] rfl (link_seq (b := (Code.snd (Code.snd (bodyOf Try.f34)))) (y := (Ann.snd (Ann.snd impl_stepsToRoot_an))) (impl_stepsToRoot_n1_l x715 x716) (fun (t : Unit) => (impl_stepsToRoot_n6_l x715 x716))))

theorem impl_stepsToRoot_e (x715 : List Int) (x716 : Int) {r : AV} {H' : Heap} (h : (Ans.mk _ (impl_stepsToRoot x715 x716) (fun (t : Int × Bool) => (.tup [.dat (.int .i64) t.1, .dat .bool t.2], []))).run = some (r, H')) : Awp impl_stepsToRoot_ctx LL (bodyOf Try.f34) impl_stepsToRoot_an (⟨mkE 18 0 [(0, .dat (.list (.int .i64)) x715), (1, .dat (.int .i64) x716)], []⟩ : St) (Ret (tlook tys) Try.f34.results.toList r H') :=
  ret_of' (impl_stepsToRoot_n7_l x715 x716) (by unfold impl_stepsToRoot; kernel_rfl) (by
  intro t
  exact ret_mk [.dat (.int .i64) t.1, .dat .bool t.2] (by kernel_rfl) (by kernel_rfl) (by kernel_rfl) (by kernel_rfl)) h

def F_impl_stepsToRoot : Fun := fun avs H =>
  match avs, H with
  | [.dat (.list (.int .i64)) x715, .dat (.int .i64) x716], [] => ⟨_, impl_stepsToRoot x715 x716, fun (t : Int × Bool) => (.tup [.dat (.int .i64) t.1, .dat .bool t.2], [])⟩
  | _, _ => Ans.no

theorem impl_stepsToRoot_sound : Sound Try.prog 34 F_impl_stepsToRoot := by
  refine fn_sound' (C := impl_stepsToRoot_ctx) (c := bodyOf Try.f34) (cok_of tys_ok (List.forall_mem_cons.2 ⟨impl_walker_up_sound, by simp⟩) (List.forall_mem_cons.2 ⟨Try.call39, by simp⟩) (by kernel_rfl)) Try.func34 (by kernel_rfl) LL impl_stepsToRoot_an ?_
  intro avs H r H' h
  unfold F_impl_stepsToRoot at h
  split at h
  · refine Awp.cast ?_ ?_ ?_ (impl_stepsToRoot_e _ _ h) <;> kernel_rfl
  · simp [Ans.no, Ans.run] at h

/-! loop.example/headtrees/impl.TreeOk -/

def impl_TreeOk_an : Ann := (.seq (.leaf [0]) (.seq (.seq (.leaf [0, 18]) (.cond (.seq (.leaf [2]) (.leaf [2])) (.leaf [0]))) (.seq (.seq (.leaf [0, 20, 21]) (.block (.loop (.seq (.leaf [0, 20, 21, 22]) (.seq (.cond (.leaf [0, 20, 21]) (.leaf [])) (.seq (.block (.seq (.leaf [0, 3, 20, 21]) (.seq (.leaf [0, 5, 20, 21]) (.seq (.leaf [0, 20, 21, 32]) (.cond (.seq (.leaf [2]) (.leaf [2])) (.leaf [0, 20, 21])))))) (.leaf [0, 20, 21]))))))) (.seq (.leaf [2]) (.leaf [2])))))

noncomputable def impl_TreeOk_ctx : Ctx := ⟨tlook tys, olook [(33, F_impl_oneRoot), (34, F_impl_stepsToRoot)], ioF, 0⟩

theorem impl_TreeOk_n1_l (x655 : List Int) : Link impl_TreeOk_ctx LL (Code.seq (Code.fst (bodyOf Try.f26)) (Code.fst (Code.snd (bodyOf Try.f26)))) (Ann.seq (Ann.fst impl_TreeOk_an) (Ann.fst (Ann.snd impl_TreeOk_an))) (⟨mkE 34 0 [(0, .dat (.list (.int .i64)) x655)], []⟩ : St) (impl_TreeOk_n1 x655) (Sum.elim (fun (t : Unit) => (Exit.normal, (⟨mkE 34 0 [(0, .dat (.list (.int .i64)) x655)], []⟩ : St))) (fun (t : Bool) => (Exit.ret, (⟨mkE 34 0 [(2, .dat .bool t)], []⟩ : St)))) := by
  refine Link.of fun K h => ?_
  simp only [impl_TreeOk_n1, wpO_bind, wpO_cond, wpO_map, wpO_some] at h
  exact Awp.of (by kernel_rfl) h

theorem impl_TreeOk_n2_l (x655 : List Int) : Link impl_TreeOk_ctx LL (Code.fst (Code.fst (Code.snd (Code.snd (bodyOf Try.f26))))) (Ann.fst (Ann.fst (Ann.snd (Ann.snd impl_TreeOk_an)))) (⟨mkE 34 0 [(0, .dat (.list (.int .i64)) x655)], []⟩ : St) (impl_TreeOk_n2 x655) (fun (t : Int) => (Exit.normal, (⟨mkE 34 0 [(0, .dat (.list (.int .i64)) x655), (20, .dat (.int .i64) t), (21, .dat (.int .i64) 0)], []⟩ : St))) := by
  refine Link.of fun K h => ?_
  simp only [impl_TreeOk_n2, wpO_bind, wpO_cond, wpO_map, wpO_some] at h
  exact Awp.of (by kernel_rfl) h

theorem impl_TreeOk_n3_l (x655 : List Int) (x710 : Int) (x778 : Int) : Link impl_TreeOk_ctx LL (Code.fst (Code.fst (Code.snd (Code.fst (Code.snd (Code.snd (bodyOf Try.f26))))))) (Ann.fst (Ann.fst (Ann.snd (Ann.fst (Ann.snd (Ann.snd impl_TreeOk_an)))))) (⟨mkE 34 0 [(0, .dat (.list (.int .i64)) x655), (20, .dat (.int .i64) x710), (21, .dat (.int .i64) x778)], []⟩ : St) (impl_TreeOk_n3 x655 x710 x778) (Sum.elim (fun (t : Int) => (Exit.normal, (⟨mkE 34 0 [(0, .dat (.list (.int .i64)) x655), (20, .dat (.int .i64) x710), (21, .dat (.int .i64) t)], []⟩ : St))) (Sum.elim (fun (t : Bool) => (Exit.ret, (⟨mkE 34 0 [(2, .dat .bool t)], []⟩ : St))) (fun (t : Unit) => ((Exit.exit 0), (⟨mkE 34 0 [], []⟩ : St))))) := by
  refine Link.of fun K h => ?_
  simp only [impl_TreeOk_n3, wpO_bind, wpO_cond, wpO_map, wpO_some] at h
  exact Awp.of (by kernel_rfl) h

theorem impl_TreeOk_n4_l (x655 : List Int) (x710 : Int) : Link impl_TreeOk_ctx LL (Code.fst (Code.snd (Code.fst (Code.snd (Code.snd (bodyOf Try.f26)))))) (Ann.fst (Ann.snd (Ann.fst (Ann.snd (Ann.snd impl_TreeOk_an))))) (⟨mkE 34 0 [(0, .dat (.list (.int .i64)) x655), (20, .dat (.int .i64) x710), (21, .dat (.int .i64) 0)], []⟩ : St) (impl_TreeOk_n4 x655 x710) (Sum.elim (fun (t : Bool) => (Exit.ret, (⟨mkE 34 0 [(2, .dat .bool t)], []⟩ : St))) (fun (t : Unit) => ((Exit.exit 0), (⟨mkE 34 0 [], []⟩ : St)))) := by
  unfold impl_TreeOk_n4
  exact Link.cast (by kernel_rfl) (by kernel_rfl) (link_loop (mk := fun (s : Int) => (⟨mkE 34 0 [(0, .dat (.list (.int .i64)) x655), (20, .dat (.int .i64) x710), (21, .dat (.int .i64) s)], []⟩ : St)) (fin := (Sum.elim (fun (t : Bool) => (Exit.ret, (⟨mkE 34 0 [(2, .dat .bool t)], []⟩ : St))) (fun (t : Unit) => ((Exit.exit 0), (⟨mkE 34 0 [], []⟩ : St))))) (by
  rintro (t | t) f K h
  · exact h
  · exact h) (fun s => link_map (impl_TreeOk_n3_l x655 x710 s) (Sum.elim (fun (t : Int) => Sum.inl t) (Sum.elim (fun (t : Bool) => Sum.inr (Sum.inl t)) (fun (t : Unit) => Sum.inr (Sum.inr t)))) (by
  rintro (t | t | t)
  · kernel_rfl
  · kernel_rfl
  · kernel_rfl)) 0)

theorem impl_TreeOk_n5_l (x655 : List Int) (x710 : Int) : Link impl_TreeOk_ctx LL (Code.snd (Code.fst (Code.snd (Code.snd (bodyOf Try.f26))))) (Ann.snd (Ann.fst (Ann.snd (Ann.snd impl_TreeOk_an)))) (⟨mkE 34 0 [(0, .dat (.list (.int .i64)) x655), (20, .dat (.int .i64) x710), (21, .dat (.int .i64) 0)], []⟩ : St) (impl_TreeOk_n5 x655 x710) (Sum.elim (fun (t : Unit) => (Exit.normal, (⟨mkE 34 0 [], []⟩ : St))) (fun (t : Bool) => (Exit.ret, (⟨mkE 34 0 [(2, .dat .bool t)], []⟩ : St)))) := by
  unfold impl_TreeOk_n5
  exact Link.cast (by kernel_rfl) (by kernel_rfl) (link_block (id := 0) (impl_TreeOk_n4_l x655 x710) (Sum.elim (fun (t : Bool) => (Sum.inr t)) (fun (t : Unit) => (Sum.inl ()))) (by
  rintro (t | t) K h
  · exact Eq.mp (by kernel_rfl) h
  · exact Eq.mp (by kernel_rfl) h))

theorem impl_TreeOk_n6_l (x655 : List Int) : Link impl_TreeOk_ctx LL (Code.fst (Code.snd (Code.snd (bodyOf Try.f26)))) (Ann.fst (Ann.snd (Ann.snd impl_TreeOk_an))) (⟨mkE 34 0 [(0, .dat (.list (.int .i64)) x655)], []⟩ : St) (impl_TreeOk_n6 x655) (Sum.elim (fun (t : Unit) => (Exit.normal, (⟨mkE 34 0 [], []⟩ : St))) (fun (t : Bool) => (Exit.ret, (⟨mkE 34 0 [(2, .dat .bool t)], []⟩ : St)))) := by
  unfold impl_TreeOk_n6
  exact Link.cast (by kernel_rfl) (by kernel_rfl) (link_seq (b := (Code.snd (Code.fst (Code.snd (Code.snd (bodyOf Try.f26)))))) (y := (Ann.snd (Ann.fst (Ann.snd (Ann.snd impl_TreeOk_an))))) (impl_TreeOk_n2_l x655) (fun (t : Int) => (impl_TreeOk_n5_l x655 t)))

theorem impl_TreeOk_n7_l : Link impl_TreeOk_ctx LL (Code.snd (Code.snd (Code.snd (bodyOf Try.f26)))) (Ann.snd (Ann.snd (Ann.snd impl_TreeOk_an))) (⟨mkE 34 0 [], []⟩ : St) (impl_TreeOk_n7) (fun (t : Bool) => (Exit.ret, (⟨mkE 34 0 [(2, .dat .bool t)], []⟩ : St))) := by
  refine Link.of fun K h => ?_
  simp only [impl_TreeOk_n7, wpO_bind, wpO_cond, wpO_map, wpO_some] at h
  exact Awp.of (by kernel_rfl) h

theorem impl_TreeOk_n8_l (x655 : List Int) : Link impl_TreeOk_ctx LL (Code.snd (Code.snd (bodyOf Try.f26))) (Ann.snd (Ann.snd impl_TreeOk_an)) (⟨mkE 34 0 [(0, .dat (.list (.int .i64)) x655)], []⟩ : St) (impl_TreeOk_n8 x655) (fun (t : Bool) => (Exit.ret, (⟨mkE 34 0 [(2, .dat .bool t)], []⟩ : St))) := by
  unfold impl_TreeOk_n8
  exact Link.cast (by kernel_rfl) (by kernel_rfl) (link_seq2 (b := (Code.snd (Code.snd (Code.snd (bodyOf Try.f26))))) (y := (Ann.snd (Ann.snd (Ann.snd impl_TreeOk_an)))) (impl_TreeOk_n6_l x655) (fun (t : Unit) => (impl_TreeOk_n7_l)) (fun (t : Bool) => t) (by
  rintro t
  · kernel_rfl) (by
  rintro t f K h
  · exact h))

theorem impl_TreeOk_n9_l (x655 : List Int) : Link impl_TreeOk_ctx LL (bodyOf Try.f26) impl_TreeOk_an (⟨mkE 34 0 [(0, .dat (.list (.int .i64)) x655)], []⟩ : St) (impl_TreeOk_n9 x655) (fun (t : Bool) => (Exit.ret, (⟨mkE 34 0 [(2, .dat .bool t)], []⟩ : St))) := by
  unfold impl_TreeOk_n9
  exact Link.cast (by kernel_rfl) (by kernel_rfl) (link_group (c := (Code.fst (Code.snd (bodyOf Try.f26)))) (a := (Ann.fst (Ann.snd impl_TreeOk_an))) [(Code.fst (bodyOf Try.f26))] [(Ann.fst impl_TreeOk_an)] rfl (link_seq2 (b := (Code.snd (Code.snd (bodyOf Try.f26)))) (y := (Ann.snd (Ann.snd impl_TreeOk_an))) (impl_TreeOk_n1_l x655) (fun (t : Unit) => (impl_TreeOk_n8_l x655)) (fun (t : Bool) => t) (by
  rintro t
  · kernel_rfl) (by
  rintro t f K h
  · exact h)))

theorem impl_TreeOk_e (x655 : List Int) {r : AV} {H' : Heap} (h : (Ans.mk _ (impl_TreeOk x655) (fun (t : Bool) => (.dat .bool t, []))).run = some (r, H')) : Awp impl_TreeOk_ctx LL (bodyOf Try.f26) impl_TreeOk_an (⟨mkE 34 0 [(0, .dat (.list (.int .i64)) x655)], []⟩ : St) (Ret (tlook tys) Try.f26.results.toList r H') :=
  ret_of' (impl_TreeOk_n9_l x655) (by unfold impl_TreeOk; kernel_rfl) (by
  intro t
  exact ret_mk [.dat .bool t] (by kernel_rfl) (by kernel_rfl) (by kernel_rfl) (by kernel_rfl)) h

def F_impl_TreeOk : Fun := fun avs H =>
  match avs, H with
  | [.dat (.list (.int .i64)) x655], [] => ⟨_, impl_TreeOk x655, fun (t : Bool) => (.dat .bool t, [])⟩
  | _, _ => Ans.no

theorem impl_TreeOk_sound : Sound Try.prog 26 F_impl_TreeOk := by
  refine fn_sound' (C := impl_TreeOk_ctx) (c := bodyOf Try.f26) (cok_of tys_ok (List.forall_mem_cons.2 ⟨impl_oneRoot_sound, List.forall_mem_cons.2 ⟨impl_stepsToRoot_sound, by simp⟩⟩) (List.forall_mem_cons.2 ⟨Try.call33, List.forall_mem_cons.2 ⟨Try.call34, by simp⟩⟩) (by kernel_rfl)) Try.func26 (by kernel_rfl) LL impl_TreeOk_an ?_
  intro avs H r H' h
  unfold F_impl_TreeOk at h
  split at h
  · refine Awp.cast ?_ ?_ ?_ (impl_TreeOk_e _ h) <;> kernel_rfl
  · simp [Ans.no, Ans.run] at h

/-! loop.example/headtrees/laws.alive -/

def laws_alive_an : Ann := (.seq (.leaf []) (.seq (.leaf [0]) (.leaf [0])))

noncomputable def laws_alive_ctx : Ctx := ⟨tlook tys, olook [(26, F_impl_TreeOk)], ioF, 0⟩

theorem laws_alive_n1_l : Link laws_alive_ctx LL (bodyOf Try.f11) laws_alive_an (⟨mkE 8 0 [], []⟩ : St) (laws_alive_n1) (fun (t : Bool) => (Exit.ret, (⟨mkE 8 0 [(0, .dat .bool t)], []⟩ : St))) := by
  refine Link.of fun K h => ?_
  simp only [laws_alive_n1, wpO_bind, wpO_cond, wpO_map, wpO_some] at h
  exact Awp.of (by kernel_rfl) h

theorem laws_alive_e {r : AV} {H' : Heap} (h : (Ans.mk _ (laws_alive) (fun (t : Bool) => (.dat .bool t, []))).run = some (r, H')) : Awp laws_alive_ctx LL (bodyOf Try.f11) laws_alive_an (⟨mkE 8 0 [], []⟩ : St) (Ret (tlook tys) Try.f11.results.toList r H') :=
  ret_of' (laws_alive_n1_l) (by unfold laws_alive; kernel_rfl) (by
  intro t
  exact ret_mk [.dat .bool t] (by kernel_rfl) (by kernel_rfl) (by kernel_rfl) (by kernel_rfl)) h

def F_laws_alive : Fun := fun avs H =>
  match avs, H with
  | [], [] => ⟨_, laws_alive, fun (t : Bool) => (.dat .bool t, [])⟩
  | _, _ => Ans.no

theorem laws_alive_sound : Sound Try.prog 11 F_laws_alive := by
  refine fn_sound' (C := laws_alive_ctx) (c := bodyOf Try.f11) (cok_of tys_ok (List.forall_mem_cons.2 ⟨impl_TreeOk_sound, by simp⟩) (List.forall_mem_cons.2 ⟨Try.call26, by simp⟩) (by kernel_rfl)) Try.func11 (by kernel_rfl) LL laws_alive_an ?_
  intro avs H r H' h
  unfold F_laws_alive at h
  split at h
  · refine Awp.cast ?_ ?_ ?_ (laws_alive_e h) <;> kernel_rfl
  · simp [Ans.no, Ans.run] at h

/-! loop.example/headtrees/impl.CountTrees -/

def impl_CountTrees_an : Ann := (.seq (.leaf [0]) (.seq (.seq (.leaf [0, 9]) (.cond (.seq (.leaf [2]) (.leaf [2])) (.leaf [0]))) (.seq (.leaf [0, 3]) (.seq (.seq (.leaf [0, 3, 11, 12]) (.block (.loop (.seq (.leaf [0, 3, 11, 12, 13]) (.seq (.cond (.leaf [0, 3, 11, 12]) (.leaf [3])) (.seq (.block (.leaf [0, 3, 11, 12])) (.leaf [0, 3, 11, 12]))))))) (.seq (.leaf [2]) (.leaf [2]))))))

noncomputable def impl_CountTrees_ctx : Ctx := ⟨tlook tys, olook [], ioF, 0⟩

theorem impl_CountTrees_n1_l (x857 : Int) : Link impl_CountTrees_ctx LL (Code.seq (Code.fst (bodyOf Try.f12)) (Code.seq (Code.fst (Code.snd (bodyOf Try.f12))) (Code.fst (Code.snd (Code.snd (bodyOf Try.f12)))))) (Ann.seq (Ann.fst impl_CountTrees_an) (Ann.seq (Ann.fst (Ann.snd impl_CountTrees_an)) (Ann.fst (Ann.snd (Ann.snd impl_CountTrees_an))))) (⟨mkE 19 0 [(0, .dat (.int .i64) x857)], []⟩ : St) (impl_CountTrees_n1 x857) (Sum.elim (fun (t : Unit) => (Exit.normal, (⟨mkE 19 0 [(0, .dat (.int .i64) x857), (3, .dat (.int .i64) 1)], []⟩ : St))) (fun (t : Int) => (Exit.ret, (⟨mkE 19 0 [(2, .dat (.int .i64) t)], []⟩ : St)))) := by
  refine Link.of fun K h => ?_
  simp only [impl_CountTrees_n1, wpO_bind, wpO_cond, wpO_map, wpO_some] at h
  exact Awp.of (by kernel_rfl) h

theorem impl_CountTrees_n2_l (x857 : Int) : Link impl_CountTrees_ctx LL (Code.fst (Code.fst (Code.snd (Code.snd (Code.snd (bodyOf Try.f12)))))) (Ann.fst (Ann.fst (Ann.snd (Ann.snd (Ann.snd impl_CountTrees_an))))) (⟨mkE 19 0 [(0, .dat (.int .i64) x857), (3, .dat (.int .i64) 1)], []⟩ : St) (impl_CountTrees_n2 x857) (fun (t : Int) => (Exit.normal, (⟨mkE 19 0 [(0, .dat (.int .i64) x857), (3, .dat (.int .i64) 1), (11, .dat (.int .i64) t), (12, .dat (.int .i64) 0)], []⟩ : St))) := by
  refine Link.of fun K h => ?_
  simp only [impl_CountTrees_n2, wpO_bind, wpO_cond, wpO_map, wpO_some] at h
  exact Awp.of (by kernel_rfl) h

theorem impl_CountTrees_n3_l (x857 : Int) (x870 : Int) (x862 : Int) (x871 : Int) : Link impl_CountTrees_ctx LL (Code.fst (Code.fst (Code.snd (Code.fst (Code.snd (Code.snd (Code.snd (bodyOf Try.f12)))))))) (Ann.fst (Ann.fst (Ann.snd (Ann.fst (Ann.snd (Ann.snd (Ann.snd impl_CountTrees_an))))))) (⟨mkE 19 0 [(0, .dat (.int .i64) x857), (3, .dat (.int .i64) x870), (11, .dat (.int .i64) x862), (12, .dat (.int .i64) x871)], []⟩ : St) (impl_CountTrees_n3 x857 x870 x862 x871) (Sum.elim (fun (t : Int × Int) => (Exit.normal, (⟨mkE 19 0 [(0, .dat (.int .i64) x857), (3, .dat (.int .i64) t.1), (11, .dat (.int .i64) x862), (12, .dat (.int .i64) t.2)], []⟩ : St))) (fun (t : Int) => ((Exit.exit 0), (⟨mkE 19 0 [(3, .dat (.int .i64) t)], []⟩ : St)))) := by
  refine Link.of fun K h => ?_
  simp only [impl_CountTrees_n3, wpO_bind, wpO_cond, wpO_map, wpO_some] at h
  exact Awp.of (by kernel_rfl) h

theorem impl_CountTrees_n4_l (x857 : Int) (x862 : Int) : Link impl_CountTrees_ctx LL (Code.fst (Code.snd (Code.fst (Code.snd (Code.snd (Code.snd (bodyOf Try.f12))))))) (Ann.fst (Ann.snd (Ann.fst (Ann.snd (Ann.snd (Ann.snd impl_CountTrees_an)))))) (⟨mkE 19 0 [(0, .dat (.int .i64) x857), (3, .dat (.int .i64) 1), (11, .dat (.int .i64) x862), (12, .dat (.int .i64) 0)], []⟩ : St) (impl_CountTrees_n4 x857 x862) (fun (t : Int) => ((Exit.exit 0), (⟨mkE 19 0 [(3, .dat (.int .i64) t)], []⟩ : St))) := by
  unfold impl_CountTrees_n4
  exact Link.cast (by kernel_rfl) (by kernel_rfl) (link_loop (mk := fun (s : Int × Int) => (⟨mkE 19 0 [(0, .dat (.int .i64) x857), (3, .dat (.int .i64) s.1), (11, .dat (.int .i64) x862), (12, .dat (.int .i64) s.2)], []⟩ : St)) (fin := (fun (t : Int) => ((Exit.exit 0), (⟨mkE 19 0 [(3, .dat (.int .i64) t)], []⟩ : St)))) (by
  rintro t f K h
  · exact h) (fun s => link_map (impl_CountTrees_n3_l x857 s.1 x862 s.2) (Sum.elim (fun (t : Int × Int) => Sum.inl (t.1, t.2)) (fun (t : Int) => Sum.inr t)) (by
  rintro (t | t)
  · kernel_rfl
  · kernel_rfl)) (1, 0))

theorem impl_CountTrees_n5_l (x857 : Int) (x862 : Int) : Link impl_CountTrees_ctx LL (Code.snd (Code.fst (Code.snd (Code.snd (Code.snd (bodyOf Try.f12)))))) (Ann.snd (Ann.fst (Ann.snd (Ann.snd (Ann.snd impl_CountTrees_an))))) (⟨mkE 19 0 [(0, .dat (.int .i64) x857), (3, .dat (.int .i64) 1), (11, .dat (.int .i64) x862), (12, .dat (.int .i64) 0)], []⟩ : St) (impl_CountTrees_n5 x857 x862) (fun (t : Int) => (Exit.normal, (⟨mkE 19 0 [(3, .dat (.int .i64) t)], []⟩ : St))) := by
  unfold impl_CountTrees_n5
  exact Link.cast (by kernel_rfl) (by kernel_rfl) (link_block (id := 0) (impl_CountTrees_n4_l x857 x862) (fun (t : Int) => t) (by
  rintro t K h
  · exact Eq.mp (by kernel_rfl) h))

theorem impl_CountTrees_n6_l (x857 : Int) : Link impl_CountTrees_ctx LL (Code.fst (Code.snd (Code.snd (Code.snd (bodyOf Try.f12))))) (Ann.fst (Ann.snd (Ann.snd (Ann.snd impl_CountTrees_an)))) (⟨mkE 19 0 [(0, .dat (.int .i64) x857), (3, .dat (.int .i64) 1)], []⟩ : St) (impl_CountTrees_n6 x857) (fun (t : Int) => (Exit.normal, (⟨mkE 19 0 [(3, .dat (.int .i64) t)], []⟩ : St))) := by
  unfold impl_CountTrees_n6
  exact Link.cast (by kernel_rfl) (by kernel_rfl) (link_seq (b := (Code.snd (Code.fst (Code.snd (Code.snd (Code.snd (bodyOf Try.f12))))))) (y := (Ann.snd (Ann.fst (Ann.snd (Ann.snd (Ann.snd impl_CountTrees_an)))))) (impl_CountTrees_n2_l x857) (fun (t : Int) => (impl_CountTrees_n5_l x857 t)))

theorem impl_CountTrees_n7_l (x870 : Int) : Link impl_CountTrees_ctx LL (Code.snd (Code.snd (Code.snd (Code.snd (bodyOf Try.f12))))) (Ann.snd (Ann.snd (Ann.snd (Ann.snd impl_CountTrees_an)))) (⟨mkE 19 0 [(3, .dat (.int .i64) x870)], []⟩ : St) (impl_CountTrees_n7 x870) (fun (t : Int) => (Exit.ret, (⟨mkE 19 0 [(2, .dat (.int .i64) t)], []⟩ : St))) := by
  refine Link.of fun K h => ?_
  simp only [impl_CountTrees_n7, wpO_bind, wpO_cond, wpO_map, wpO_some] at h
  exact Awp.of (by kernel_rfl) h

theorem impl_CountTrees_n8_l (x857 : Int) : Link impl_CountTrees_ctx LL (Code.snd (Code.snd (Code.snd (bodyOf Try.f12)))) (Ann.snd (Ann.snd (Ann.snd impl_CountTrees_an))) (⟨mkE 19 0 [(0, .dat (.int .i64) x857), (3, .dat (.int .i64) 1)], []⟩ : St) (impl_CountTrees_n8 x857) (fun (t : Int) => (Exit.ret, (⟨mkE 19 0 [(2, .dat (.int .i64) t)], []⟩ : St))) := by
  unfold impl_CountTrees_n8
  exact Link.cast (by kernel_rfl) (by kernel_rfl) (link_seq (b := (Code.snd (Code.snd (Code.snd (Code.snd (bodyOf Try.f12)))))) (y := (Ann.snd (Ann.snd (Ann.snd (Ann.snd impl_CountTrees_an))))) (impl_CountTrees_n6_l x857) (fun (t : Int) => (impl_CountTrees_n7_l t)))

theorem impl_CountTrees_n9_l (x857 : Int) : Link impl_CountTrees_ctx LL (bodyOf Try.f12) impl_CountTrees_an (⟨mkE 19 0 [(0, .dat (.int .i64) x857)], []⟩ : St) (impl_CountTrees_n9 x857) (fun (t : Int) => (Exit.ret, (⟨mkE 19 0 [(2, .dat (.int .i64) t)], []⟩ : St))) := by
  unfold impl_CountTrees_n9
  exact Link.cast (by kernel_rfl) (by kernel_rfl) (link_group (c := (Code.fst (Code.snd (Code.snd (bodyOf Try.f12))))) (a := (Ann.fst (Ann.snd (Ann.snd impl_CountTrees_an)))) [(Code.fst (bodyOf Try.f12)), (Code.fst (Code.snd (bodyOf Try.f12)))] [(Ann.fst impl_CountTrees_an), (Ann.fst (Ann.snd impl_CountTrees_an))] rfl (link_seq2 (b := (Code.snd (Code.snd (Code.snd (bodyOf Try.f12))))) (y := (Ann.snd (Ann.snd (Ann.snd impl_CountTrees_an)))) (impl_CountTrees_n1_l x857) (fun (t : Unit) => (impl_CountTrees_n8_l x857)) (fun (t : Int) => t) (by
  rintro t
  · kernel_rfl) (by
  rintro t f K h
  · exact h)))

theorem impl_CountTrees_e (x857 : Int) {r : AV} {H' : Heap} (h : (Ans.mk _ (impl_CountTrees x857) (fun (t : Int) => (.dat (.int .i64) t, []))).run = some (r, H')) : Awp impl_CountTrees_ctx LL (bodyOf Try.f12) impl_CountTrees_an (⟨mkE 19 0 [(0, .dat (.int .i64) x857)], []⟩ : St) (Ret (tlook tys) Try.f12.results.toList r H') :=
  ret_of' (impl_CountTrees_n9_l x857) (by unfold impl_CountTrees; kernel_rfl) (by
  intro t
  exact ret_mk [.dat (.int .i64) t] (by kernel_rfl) (by kernel_rfl) (by kernel_rfl) (by kernel_rfl)) h

def F_impl_CountTrees : Fun := fun avs H =>
  match avs, H with
  | [.dat (.int .i64) x857], [] => ⟨_, impl_CountTrees x857, fun (t : Int) => (.dat (.int .i64) t, [])⟩
  | _, _ => Ans.no

theorem impl_CountTrees_sound : Sound Try.prog 12 F_impl_CountTrees := by
  refine fn_sound' (C := impl_CountTrees_ctx) (c := bodyOf Try.f12) (cok_of tys_ok (by simp) (by simp) (by kernel_rfl)) Try.func12 (by kernel_rfl) LL impl_CountTrees_an ?_
  intro avs H r H' h
  unfold F_impl_CountTrees at h
  split at h
  · refine Awp.cast ?_ ?_ ?_ (impl_CountTrees_e _ h) <;> kernel_rfl
  · simp [Ans.no, Ans.run] at h

/-! loop.example/headtrees/laws.FnCountFlat -/

def laws_FnCountFlat_an : Ann := (.seq (.leaf [0]) (.seq (.seq (.leaf [0, 9]) (.cond (.seq (.leaf [2]) (.leaf [2])) (.leaf [0]))) (.seq (.leaf [3]) (.seq (.leaf [3, 4]) (.seq (.seq (.leaf [3, 4, 17]) (.cond (.seq (.leaf [2]) (.leaf [2])) (.leaf [3, 4]))) (.seq (.seq (.leaf [3, 4, 19]) (.cond (.seq (.leaf [2]) (.leaf [2])) (.leaf [3, 4]))) (.seq (.leaf [3, 4, 5]) (.seq (.seq (.leaf [3, 4, 5, 6]) (.block (.loop (.seq (.seq (.leaf [3, 4, 5, 6, 35]) (.cond (.leaf [3, 4, 5, 6]) (.leaf [3, 4, 5]))) (.seq (.block (.leaf [3, 4, 5, 6])) (.leaf [3, 4, 5, 6])))))) (.seq (.leaf [2]) (.leaf [2]))))))))))

noncomputable def laws_FnCountFlat_ctx : Ctx := ⟨tlook tys, olook [(8, F_spec_DrawCountFlat), (9, F_impl_CountFlat), (10, F_spec_CountFlat), (11, F_laws_alive), (12, F_impl_CountTrees)], ioF, 0⟩

theorem laws_FnCountFlat_n1_l (x2 : List Int) : Link laws_FnCountFlat_ctx LL (Code.seq (Code.fst (bodyOf Try.f3)) (Code.seq (Code.fst (Code.snd (bodyOf Try.f3))) (Code.seq (Code.fst (Code.snd (Code.snd (bodyOf Try.f3)))) (Code.seq (Code.fst (Code.snd (Code.snd (Code.snd (bodyOf Try.f3))))) (Code.seq (Code.fst (Code.snd (Code.snd (Code.snd (Code.snd (bodyOf Try.f3)))))) (Code.seq (Code.fst (Code.snd (Code.snd (Code.snd (Code.snd (Code.snd (bodyOf Try.f3))))))) (Code.fst (Code.snd (Code.snd (Code.snd (Code.snd (Code.snd (Code.snd (bodyOf Try.f3)))))))))))))) (Ann.seq (Ann.fst laws_FnCountFlat_an) (Ann.seq (Ann.fst (Ann.snd laws_FnCountFlat_an)) (Ann.seq (Ann.fst (Ann.snd (Ann.snd laws_FnCountFlat_an))) (Ann.seq (Ann.fst (Ann.snd (Ann.snd (Ann.snd laws_FnCountFlat_an)))) (Ann.seq (Ann.fst (Ann.snd (Ann.snd (Ann.snd (Ann.snd laws_FnCountFlat_an))))) (Ann.seq (Ann.fst (Ann.snd (Ann.snd (Ann.snd (Ann.snd (Ann.snd laws_FnCountFlat_an)))))) (Ann.fst (Ann.snd (Ann.snd (Ann.snd (Ann.snd (Ann.snd (Ann.snd laws_FnCountFlat_an))))))))))))) (⟨mkE 59 0 [(0, .dat (.list (.int .u8)) x2)], []⟩ : St) (laws_FnCountFlat_n1 x2) (Sum.elim (fun (t : Int × Int) => (Exit.normal, (⟨mkE 59 0 [(3, .dat (.int .i64) t.1), (4, .dat (.int .i64) t.2), (5, .dat (.int .i64) 1)], []⟩ : St))) (fun (t : Bool) => (Exit.ret, (⟨mkE 59 0 [(2, .dat .bool t)], []⟩ : St)))) := by
  refine Link.of fun K h => ?_
  simp only [laws_FnCountFlat_n1, wpO_bind, wpO_cond, wpO_map, wpO_some] at h
  exact Awp.of (by kernel_rfl) h

theorem laws_FnCountFlat_n2_l (x810 : Int) (x811 : Int) : Link laws_FnCountFlat_ctx LL (Code.fst (Code.fst (Code.snd (Code.snd (Code.snd (Code.snd (Code.snd (Code.snd (Code.snd (bodyOf Try.f3)))))))))) (Ann.fst (Ann.fst (Ann.snd (Ann.snd (Ann.snd (Ann.snd (Ann.snd (Ann.snd (Ann.snd laws_FnCountFlat_an))))))))) (⟨mkE 59 0 [(3, .dat (.int .i64) x810), (4, .dat (.int .i64) x811), (5, .dat (.int .i64) 1)], []⟩ : St) (laws_FnCountFlat_n2) (fun (t : Unit) => (Exit.normal, (⟨mkE 59 0 [(3, .dat (.int .i64) x810), (4, .dat (.int .i64) x811), (5, .dat (.int .i64) 1), (6, .dat (.int .i64) 1)], []⟩ : St))) := by
  refine Link.of fun K h => ?_
  simp only [laws_FnCountFlat_n2, wpO_bind, wpO_cond, wpO_map, wpO_some] at h
  exact Awp.of (by kernel_rfl) h

theorem laws_FnCountFlat_n3_l (x810 : Int) (x811 : Int) (x837 : Int) (x838 : Int) : Link laws_FnCountFlat_ctx LL (Code.fst (Code.fst (Code.snd (Code.fst (Code.snd (Code.snd (Code.snd (Code.snd (Code.snd (Code.snd (Code.snd (bodyOf Try.f3)))))))))))) (Ann.fst (Ann.fst (Ann.snd (Ann.fst (Ann.snd (Ann.snd (Ann.snd (Ann.snd (Ann.snd (Ann.snd (Ann.snd laws_FnCountFlat_an))))))))))) (⟨mkE 59 0 [(3, .dat (.int .i64) x810), (4, .dat (.int .i64) x811), (5, .dat (.int .i64) x837), (6, .dat (.int .i64) x838)], []⟩ : St) (laws_FnCountFlat_n3 x810 x837 x838) (Sum.elim (fun (t : Int × Int) => (Exit.normal, (⟨mkE 59 0 [(3, .dat (.int .i64) x810), (4, .dat (.int .i64) x811), (5, .dat (.int .i64) t.1), (6, .dat (.int .i64) t.2)], []⟩ : St))) (fun (t : Int) => ((Exit.exit 0), (⟨mkE 59 0 [(3, .dat (.int .i64) x810), (4, .dat (.int .i64) x811), (5, .dat (.int .i64) t)], []⟩ : St)))) := by
  refine Link.of fun K h => ?_
  simp only [laws_FnCountFlat_n3, wpO_bind, wpO_cond, wpO_map, wpO_some] at h
  exact Awp.of (by kernel_rfl) h

theorem laws_FnCountFlat_n4_l (x810 : Int) (x811 : Int) : Link laws_FnCountFlat_ctx LL (Code.fst (Code.snd (Code.fst (Code.snd (Code.snd (Code.snd (Code.snd (Code.snd (Code.snd (Code.snd (bodyOf Try.f3))))))))))) (Ann.fst (Ann.snd (Ann.fst (Ann.snd (Ann.snd (Ann.snd (Ann.snd (Ann.snd (Ann.snd (Ann.snd laws_FnCountFlat_an)))))))))) (⟨mkE 59 0 [(3, .dat (.int .i64) x810), (4, .dat (.int .i64) x811), (5, .dat (.int .i64) 1), (6, .dat (.int .i64) 1)], []⟩ : St) (laws_FnCountFlat_n4 x810) (fun (t : Int) => ((Exit.exit 0), (⟨mkE 59 0 [(3, .dat (.int .i64) x810), (4, .dat (.int .i64) x811), (5, .dat (.int .i64) t)], []⟩ : St))) := by
  unfold laws_FnCountFlat_n4
  exact Link.cast (by kernel_rfl) (by kernel_rfl) (link_loop (mk := fun (s : Int × Int) => (⟨mkE 59 0 [(3, .dat (.int .i64) x810), (4, .dat (.int .i64) x811), (5, .dat (.int .i64) s.1), (6, .dat (.int .i64) s.2)], []⟩ : St)) (fin := (fun (t : Int) => ((Exit.exit 0), (⟨mkE 59 0 [(3, .dat (.int .i64) x810), (4, .dat (.int .i64) x811), (5, .dat (.int .i64) t)], []⟩ : St)))) (by
  rintro t f K h
  · exact h) (fun s => link_map (laws_FnCountFlat_n3_l x810 x811 s.1 s.2) (Sum.elim (fun (t : Int × Int) => Sum.inl (t.1, t.2)) (fun (t : Int) => Sum.inr t)) (by
  rintro (t | t)
  · kernel_rfl
  · kernel_rfl)) (1, 1))

theorem laws_FnCountFlat_n5_l (x810 : Int) (x811 : Int) : Link laws_FnCountFlat_ctx LL (Code.snd (Code.fst (Code.snd (Code.snd (Code.snd (Code.snd (Code.snd (Code.snd (Code.snd (bodyOf Try.f3)))))))))) (Ann.snd (Ann.fst (Ann.snd (Ann.snd (Ann.snd (Ann.snd (Ann.snd (Ann.snd (Ann.snd laws_FnCountFlat_an))))))))) (⟨mkE 59 0 [(3, .dat (.int .i64) x810), (4, .dat (.int .i64) x811), (5, .dat (.int .i64) 1), (6, .dat (.int .i64) 1)], []⟩ : St) (laws_FnCountFlat_n5 x810) (fun (t : Int) => (Exit.normal, (⟨mkE 59 0 [(3, .dat (.int .i64) x810), (4, .dat (.int .i64) x811), (5, .dat (.int .i64) t)], []⟩ : St))) := by
  unfold laws_FnCountFlat_n5
  exact Link.cast (by kernel_rfl) (by kernel_rfl) (link_block (id := 0) (laws_FnCountFlat_n4_l x810 x811) (fun (t : Int) => t) (by
  rintro t K h
  · exact Eq.mp (by kernel_rfl) h))

theorem laws_FnCountFlat_n6_l (x810 : Int) (x811 : Int) : Link laws_FnCountFlat_ctx LL (Code.fst (Code.snd (Code.snd (Code.snd (Code.snd (Code.snd (Code.snd (Code.snd (bodyOf Try.f3))))))))) (Ann.fst (Ann.snd (Ann.snd (Ann.snd (Ann.snd (Ann.snd (Ann.snd (Ann.snd laws_FnCountFlat_an)))))))) (⟨mkE 59 0 [(3, .dat (.int .i64) x810), (4, .dat (.int .i64) x811), (5, .dat (.int .i64) 1)], []⟩ : St) (laws_FnCountFlat_n6 x810) (fun (t : Int) => (Exit.normal, (⟨mkE 59 0 [(3, .dat (.int .i64) x810), (4, .dat (.int .i64) x811), (5, .dat (.int .i64) t)], []⟩ : St))) := by
  unfold laws_FnCountFlat_n6
  exact Link.cast (by kernel_rfl) (by kernel_rfl) (link_seq (b := (Code.snd (Code.fst (Code.snd (Code.snd (Code.snd (Code.snd (Code.snd (Code.snd (Code.snd (bodyOf Try.f3))))))))))) (y := (Ann.snd (Ann.fst (Ann.snd (Ann.snd (Ann.snd (Ann.snd (Ann.snd (Ann.snd (Ann.snd laws_FnCountFlat_an)))))))))) (laws_FnCountFlat_n2_l x810 x811) (fun (t : Unit) => (laws_FnCountFlat_n5_l x810 x811)))

theorem laws_FnCountFlat_n7_l (x810 : Int) (x811 : Int) (x837 : Int) : Link laws_FnCountFlat_ctx LL (Code.snd (Code.snd (Code.snd (Code.snd (Code.snd (Code.snd (Code.snd (Code.snd (bodyOf Try.f3))))))))) (Ann.snd (Ann.snd (Ann.snd (Ann.snd (Ann.snd (Ann.snd (Ann.snd (Ann.snd laws_FnCountFlat_an)))))))) (⟨mkE 59 0 [(3, .dat (.int .i64) x810), (4, .dat (.int .i64) x811), (5, .dat (.int .i64) x837)], []⟩ : St) (laws_FnCountFlat_n7 x810 x811 x837) (fun (t : Bool) => (Exit.ret, (⟨mkE 59 0 [(2, .dat .bool t)], []⟩ : St))) := by
  refine Link.of fun K h => ?_
  simp only [laws_FnCountFlat_n7, wpO_bind, wpO_cond, wpO_map, wpO_some] at h
  exact Awp.of (by kernel_rfl) h

theorem laws_FnCountFlat_n8_l (x810 : Int) (x811 : Int) : Link laws_FnCountFlat_ctx LL (Code.snd (Code.snd (Code.snd (Code.snd (Code.snd (Code.snd (Code.snd (bodyOf Try.f3)))))))) (Ann.snd (Ann.snd (Ann.snd (Ann.snd (Ann.snd (Ann.snd (Ann.snd laws_FnCountFlat_an))))))) (⟨mkE 59 0 [(3, .dat (.int .i64) x810), (4, .dat (.int .i64) x811), (5, .dat (.int .i64) 1)], []⟩ : St) (laws_FnCountFlat_n8 x810 x811) (fun (t : Bool) => (Exit.ret, (⟨mkE 59 0 [(2, .dat .bool t)], []⟩ : St))) := by
  unfold laws_FnCountFlat_n8
  exact Link.cast (by kernel_rfl) (by kernel_rfl) (link_seq (b := (Code.snd (Code.snd (Code.snd (Code.snd (Code.snd (Code.snd (Code.snd (Code.snd (bodyOf Try.f3)))))))))) (y := (Ann.snd (Ann.snd (Ann.snd (Ann.snd (Ann.snd (Ann.snd (Ann.snd (Ann.snd laws_FnCountFlat_an))))))))) (laws_FnCountFlat_n6_l x810 x811) (fun (t : Int) => (laws_FnCountFlat_n7_l x810 x811 t)))

theorem laws_FnCountFlat_n9_l (x2 : List Int) : Link laws_FnCountFlat_ctx LL (bodyOf Try.f3) laws_FnCountFlat_an (⟨mkE 59 0 [(0, .dat (.list (.int .u8)) x2)], []⟩ : St) (laws_FnCountFlat_n9 x2) (fun (t : Bool) => (Exit.ret, (⟨mkE 59 0 [(2, .dat .bool t)], []⟩ : St))) := by
  unfold laws_FnCountFlat_n9
  exact Link.cast (by kernel_rfl) (by kernel_rfl) (link_group (c := (Code.fst (Code.snd (Code.snd (Code.snd (Code.snd (Code.snd (Code.snd (bodyOf Try.f3))))))))) (a := (Ann.fst (Ann.snd (Ann.snd (Ann.snd (Ann.snd (Ann.snd (Ann.snd laws_FnCountFlat_an)))))))) [(Code.fst (bodyOf Try.f3)), (Code.fst (Code.snd (bodyOf Try.f3))), (Code.fst (Code.snd (Code.snd (bodyOf Try.f3)))), (Code.fst (Code.snd (Code.snd (Code.snd (bodyOf Try.f3))))), (Code.fst (Code.snd (Code.snd (Code.snd (Code.snd (bodyOf Try.f3)))))), (Code.fst (Code.snd (Code.snd (Code.snd (Code.snd (Code.snd (bodyOf Try.f3)))))))] [(Ann.fst laws_FnCountFlat_an), (Ann.fst (Ann.snd laws_FnCountFlat_an)), (Ann.fst (Ann.snd (Ann.snd laws_FnCountFlat_an))), (Ann.fst (Ann.snd (Ann.snd (Ann.snd laws_FnCountFlat_an)))), (Ann.fst (Ann.snd (Ann.snd (Ann.snd (Ann.snd laws_FnCountFlat_an))))), (Ann.fst (Ann.snd (Ann.snd (Ann.snd (Ann.snd (Ann.snd laws_FnCountFlat_an))))))] rfl (link_seq2 (b := (Code.snd (Code.snd (Code.snd (Code.snd (Code.snd (Code.snd (Code.snd (bodyOf Try.f3))))))))) (y := (Ann.snd (Ann.snd (Ann.snd (Ann.snd (Ann.snd (Ann.snd (Ann.snd laws_FnCountFlat_an)))))))) (laws_FnCountFlat_n1_l x2) (fun (t : Int × Int) => (laws_FnCountFlat_n8_l t.1 t.2)) (fun (t : Bool) => t) (by
  rintro t
  · kernel_rfl) (by
  rintro t f K h
  · exact h)))

theorem laws_FnCountFlat_e (x2 : List Int) {r : AV} {H' : Heap} (h : (Ans.mk _ (laws_FnCountFlat x2) (fun (t : Bool) => (.dat .bool t, []))).run = some (r, H')) : Awp laws_FnCountFlat_ctx LL (bodyOf Try.f3) laws_FnCountFlat_an (⟨mkE 59 0 [(0, .dat (.list (.int .u8)) x2)], []⟩ : St) (Ret (tlook tys) Try.f3.results.toList r H') :=
  ret_of' (laws_FnCountFlat_n9_l x2) (by unfold laws_FnCountFlat; kernel_rfl) (by
  intro t
  exact ret_mk [.dat .bool t] (by kernel_rfl) (by kernel_rfl) (by kernel_rfl) (by kernel_rfl)) h

def F_laws_FnCountFlat : Fun := fun avs H =>
  match avs, H with
  | [.dat (.list (.int .u8)) x2], [] => ⟨_, laws_FnCountFlat x2, fun (t : Bool) => (.dat .bool t, [])⟩
  | _, _ => Ans.no

theorem laws_FnCountFlat_sound : Sound Try.prog 3 F_laws_FnCountFlat := by
  refine fn_sound' (C := laws_FnCountFlat_ctx) (c := bodyOf Try.f3) (cok_of tys_ok (List.forall_mem_cons.2 ⟨spec_DrawCountFlat_sound, List.forall_mem_cons.2 ⟨impl_CountFlat_sound, List.forall_mem_cons.2 ⟨spec_CountFlat_sound, List.forall_mem_cons.2 ⟨laws_alive_sound, List.forall_mem_cons.2 ⟨impl_CountTrees_sound, by simp⟩⟩⟩⟩⟩) (List.forall_mem_cons.2 ⟨Try.call8, List.forall_mem_cons.2 ⟨Try.call9, List.forall_mem_cons.2 ⟨Try.call10, List.forall_mem_cons.2 ⟨Try.call11, List.forall_mem_cons.2 ⟨Try.call12, by simp⟩⟩⟩⟩⟩) (by kernel_rfl)) Try.func3 (by kernel_rfl) LL laws_FnCountFlat_an ?_
  intro avs H r H' h
  unfold F_laws_FnCountFlat at h
  split at h
  · refine Awp.cast ?_ ?_ ?_ (laws_FnCountFlat_e _ h) <;> kernel_rfl
  · simp [Ans.no, Ans.run] at h

/-! loop.example/headtrees/spec.DrawCountRows -/

def spec_DrawCountRows_an : Ann := (.seq (.leaf [0]) (.seq (.leaf [2]) (.leaf [2])))

noncomputable def spec_DrawCountRows_ctx : Ctx := ⟨tlook tys, olook [(21, F_spec_l20Open), (22, F_spec_l20Rd_pick)], ioF, 0⟩

theorem spec_DrawCountRows_n1_l (x893 : List Int) : Link spec_DrawCountRows_ctx LL (bodyOf Try.f13) spec_DrawCountRows_an (⟨mkE 7 0 [(0, .dat (.list (.int .u8)) x893)], []⟩ : St) (spec_DrawCountRows_n1 x893) (fun (t : Int) => (Exit.ret, (⟨mkE 7 0 [(2, .dat (.int .i64) t)], []⟩ : St))) := by
  refine Link.of fun K h => ?_
  simp only [spec_DrawCountRows_n1, wpO_bind, wpO_cond, wpO_map, wpO_some] at h
  exact Awp.of (by kernel_rfl) h

theorem spec_DrawCountRows_e (x893 : List Int) {r : AV} {H' : Heap} (h : (Ans.mk _ (spec_DrawCountRows x893) (fun (t : Int) => (.dat (.int .i64) t, []))).run = some (r, H')) : Awp spec_DrawCountRows_ctx LL (bodyOf Try.f13) spec_DrawCountRows_an (⟨mkE 7 0 [(0, .dat (.list (.int .u8)) x893)], []⟩ : St) (Ret (tlook tys) Try.f13.results.toList r H') :=
  ret_of' (spec_DrawCountRows_n1_l x893) (by unfold spec_DrawCountRows; kernel_rfl) (by
  intro t
  exact ret_mk [.dat (.int .i64) t] (by kernel_rfl) (by kernel_rfl) (by kernel_rfl) (by kernel_rfl)) h

def F_spec_DrawCountRows : Fun := fun avs H =>
  match avs, H with
  | [.dat (.list (.int .u8)) x893], [] => ⟨_, spec_DrawCountRows x893, fun (t : Int) => (.dat (.int .i64) t, [])⟩
  | _, _ => Ans.no

theorem spec_DrawCountRows_sound : Sound Try.prog 13 F_spec_DrawCountRows := by
  refine fn_sound' (C := spec_DrawCountRows_ctx) (c := bodyOf Try.f13) (cok_of tys_ok (List.forall_mem_cons.2 ⟨spec_l20Open_sound, List.forall_mem_cons.2 ⟨spec_l20Rd_pick_sound, by simp⟩⟩) (List.forall_mem_cons.2 ⟨Try.call21, List.forall_mem_cons.2 ⟨Try.call22, by simp⟩⟩) (by kernel_rfl)) Try.func13 (by kernel_rfl) LL spec_DrawCountRows_an ?_
  intro avs H r H' h
  unfold F_spec_DrawCountRows at h
  split at h
  · refine Awp.cast ?_ ?_ ?_ (spec_DrawCountRows_e _ h) <;> kernel_rfl
  · simp [Ans.no, Ans.run] at h

/-! loop.example/headtrees/impl.CountRows -/

def impl_CountRows_an : Ann := (.seq (.leaf [0]) (.seq (.seq (.leaf [0, 8]) (.cond (.seq (.leaf [2]) (.leaf [2])) (.leaf [0]))) (.seq (.leaf [2]) (.leaf [2]))))

noncomputable def impl_CountRows_ctx : Ctx := ⟨tlook tys, olook [(23, F_impl_countFlatParts)], ioF, 0⟩

theorem impl_CountRows_n1_l (x908 : Int) : Link impl_CountRows_ctx LL (bodyOf Try.f14) impl_CountRows_an (⟨mkE 13 0 [(0, .dat (.int .i64) x908)], []⟩ : St) (impl_CountRows_n1 x908) (fun (t : Int) => (Exit.ret, (⟨mkE 13 0 [(2, .dat (.int .i64) t)], []⟩ : St))) := by
  refine Link.of fun K h => ?_
  simp only [impl_CountRows_n1, wpO_bind, wpO_cond, wpO_map, wpO_some] at h
  exact Awp.of (by kernel_rfl) h

theorem impl_CountRows_e (x908 : Int) {r : AV} {H' : Heap} (h : (Ans.mk _ (impl_CountRows x908) (fun (t : Int) => (.dat (.int .i64) t, []))).run = some (r, H')) : Awp impl_CountRows_ctx LL (bodyOf Try.f14) impl_CountRows_an (⟨mkE 13 0 [(0, .dat (.int .i64) x908)], []⟩ : St) (Ret (tlook tys) Try.f14.results.toList r H') :=
  ret_of' (impl_CountRows_n1_l x908) (by unfold impl_CountRows; kernel_rfl) (by
  intro t
  exact ret_mk [.dat (.int .i64) t] (by kernel_rfl) (by kernel_rfl) (by kernel_rfl) (by kernel_rfl)) h

def F_impl_CountRows : Fun := fun avs H =>
  match avs, H with
  | [.dat (.int .i64) x908], [] => ⟨_, impl_CountRows x908, fun (t : Int) => (.dat (.int .i64) t, [])⟩
  | _, _ => Ans.no

theorem impl_CountRows_sound : Sound Try.prog 14 F_impl_CountRows := by
  refine fn_sound' (C := impl_CountRows_ctx) (c := bodyOf Try.f14) (cok_of tys_ok (List.forall_mem_cons.2 ⟨impl_countFlatParts_sound, by simp⟩) (List.forall_mem_cons.2 ⟨Try.call23, by simp⟩) (by kernel_rfl)) Try.func14 (by kernel_rfl) LL impl_CountRows_an ?_
  intro avs H r H' h
  unfold F_impl_CountRows at h
  split at h
  · refine Awp.cast ?_ ?_ ?_ (impl_CountRows_e _ h) <;> kernel_rfl
  · simp [Ans.no, Ans.run] at h

/-! loop.example/headtrees/spec.CountRows -/

def spec_CountRows_an : Ann := (.seq (.leaf [0]) (.seq (.seq (.leaf [0, 5]) (.cond (.seq (.leaf [2]) (.leaf [2])) (.leaf [0]))) (.seq (.leaf [2]) (.leaf [2]))))

noncomputable def spec_CountRows_ctx : Ctx := ⟨tlook tys, olook [(24, F_spec_l1In), (27, F_spec_l4Rows)], ioF, 0⟩

theorem spec_CountRows_n1_l (x953 : Int) : Link spec_CountRows_ctx LL (bodyOf Try.f15) spec_CountRows_an (⟨mkE 8 0 [(0, .dat (.int .i64) x953)], []⟩ : St) (spec_CountRows_n1 x953) (fun (t : Int) => (Exit.ret, (⟨mkE 8 0 [(2, .dat (.int .i64) t)], []⟩ : St))) := by
  refine Link.of fun K h => ?_
  simp only [spec_CountRows_n1, wpO_bind, wpO_cond, wpO_map, wpO_some] at h
  exact Awp.of (by kernel_rfl) h

theorem spec_CountRows_e (x953 : Int) {r : AV} {H' : Heap} (h : (Ans.mk _ (spec_CountRows x953) (fun (t : Int) => (.dat (.int .i64) t, []))).run = some (r, H')) : Awp spec_CountRows_ctx LL (bodyOf Try.f15) spec_CountRows_an (⟨mkE 8 0 [(0, .dat (.int .i64) x953)], []⟩ : St) (Ret (tlook tys) Try.f15.results.toList r H') :=
  ret_of' (spec_CountRows_n1_l x953) (by unfold spec_CountRows; kernel_rfl) (by
  intro t
  exact ret_mk [.dat (.int .i64) t] (by kernel_rfl) (by kernel_rfl) (by kernel_rfl) (by kernel_rfl)) h

def F_spec_CountRows : Fun := fun avs H =>
  match avs, H with
  | [.dat (.int .i64) x953], [] => ⟨_, spec_CountRows x953, fun (t : Int) => (.dat (.int .i64) t, [])⟩
  | _, _ => Ans.no

theorem spec_CountRows_sound : Sound Try.prog 15 F_spec_CountRows := by
  refine fn_sound' (C := spec_CountRows_ctx) (c := bodyOf Try.f15) (cok_of tys_ok (List.forall_mem_cons.2 ⟨spec_l1In_sound, List.forall_mem_cons.2 ⟨spec_l4Rows_sound, by simp⟩⟩) (List.forall_mem_cons.2 ⟨Try.call24, List.forall_mem_cons.2 ⟨Try.call27, by simp⟩⟩) (by kernel_rfl)) Try.func15 (by kernel_rfl) LL spec_CountRows_an ?_
  intro avs H r H' h
  unfold F_spec_CountRows at h
  split at h
  · refine Awp.cast ?_ ?_ ?_ (spec_CountRows_e _ h) <;> kernel_rfl
  · simp [Ans.no, Ans.run] at h

/-! loop.example/headtrees/laws.FnCountRows -/

def laws_FnCountRows_an : Ann := (.seq (.leaf [0]) (.seq (.seq (.leaf [0, 9]) (.cond (.seq (.leaf [2]) (.leaf [2])) (.leaf [0]))) (.seq (.leaf [3]) (.seq (.leaf [3, 4]) (.seq (.seq (.leaf [3, 4, 17]) (.cond (.seq (.leaf [2]) (.leaf [2])) (.leaf [3, 4]))) (.seq (.seq (.leaf [3, 4, 19]) (.cond (.seq (.leaf [2]) (.leaf [2])) (.leaf [3, 4]))) (.seq (.leaf [3, 4, 5]) (.seq (.seq (.leaf [3, 4, 5, 6]) (.block (.loop (.seq (.seq (.leaf [3, 4, 5, 6, 35]) (.cond (.leaf [3, 4, 5, 6]) (.leaf [3, 4, 5]))) (.seq (.block (.leaf [3, 4, 5, 6])) (.leaf [3, 4, 5, 6])))))) (.seq (.leaf [2]) (.leaf [2]))))))))))

noncomputable def laws_FnCountRows_ctx : Ctx := ⟨tlook tys, olook [(13, F_spec_DrawCountRows), (14, F_impl_CountRows), (15, F_spec_CountRows), (11, F_laws_alive), (9, F_impl_CountFlat)], ioF, 0⟩

theorem laws_FnCountRows_n1_l (x888 : List Int) : Link laws_FnCountRows_ctx LL (Code.seq (Code.fst (bodyOf Try.f4)) (Code.seq (Code.fst (Code.snd (bodyOf Try.f4))) (Code.seq (Code.fst (Code.snd (Code.snd (bodyOf Try.f4)))) (Code.seq (Code.fst (Code.snd (Code.snd (Code.snd (bodyOf Try.f4))))) (Code.seq (Code.fst (Code.snd (Code.snd (Code.snd (Code.snd (bodyOf Try.f4)))))) (Code.seq (Code.fst (Code.snd (Code.snd (Code.snd (Code.snd (Code.snd (bodyOf Try.f4))))))) (Code.fst (Code.snd (Code.snd (Code.snd (Code.snd (Code.snd (Code.snd (bodyOf Try.f4)))))))))))))) (Ann.seq (Ann.fst laws_FnCountRows_an) (Ann.seq (Ann.fst (Ann.snd laws_FnCountRows_an)) (Ann.seq (Ann.fst (Ann.snd (Ann.snd laws_FnCountRows_an))) (Ann.seq (Ann.fst (Ann.snd (Ann.snd (Ann.snd laws_FnCountRows_an)))) (Ann.seq (Ann.fst (Ann.snd (Ann.snd (Ann.snd (Ann.snd laws_FnCountRows_an))))) (Ann.seq (Ann.fst (Ann.snd (Ann.snd (Ann.snd (Ann.snd (Ann.snd laws_FnCountRows_an)))))) (Ann.fst (Ann.snd (Ann.snd (Ann.snd (Ann.snd (Ann.snd (Ann.snd laws_FnCountRows_an))))))))))))) (⟨mkE 60 0 [(0, .dat (.list (.int .u8)) x888)], []⟩ : St) (laws_FnCountRows_n1 x888) (Sum.elim (fun (t : Int × Int) => (Exit.normal, (⟨mkE 60 0 [(3, .dat (.int .i64) t.1), (4, .dat (.int .i64) t.2), (5, .dat (.int .i64) 0)], []⟩ : St))) (fun (t : Bool) => (Exit.ret, (⟨mkE 60 0 [(2, .dat .bool t)], []⟩ : St)))) := by
  refine Link.of fun K h => ?_
  simp only [laws_FnCountRows_n1, wpO_bind, wpO_cond, wpO_map, wpO_some] at h
  exact Awp.of (by kernel_rfl) h

theorem laws_FnCountRows_n2_l (x979 : Int) (x980 : Int) : Link laws_FnCountRows_ctx LL (Code.fst (Code.fst (Code.snd (Code.snd (Code.snd (Code.snd (Code.snd (Code.snd (Code.snd (bodyOf Try.f4)))))))))) (Ann.fst (Ann.fst (Ann.snd (Ann.snd (Ann.snd (Ann.snd (Ann.snd (Ann.snd (Ann.snd laws_FnCountRows_an))))))))) (⟨mkE 60 0 [(3, .dat (.int .i64) x979), (4, .dat (.int .i64) x980), (5, .dat (.int .i64) 0)], []⟩ : St) (laws_FnCountRows_n2) (fun (t : Unit) => (Exit.normal, (⟨mkE 60 0 [(3, .dat (.int .i64) x979), (4, .dat (.int .i64) x980), (5, .dat (.int .i64) 0), (6, .dat (.int .i64) 0)], []⟩ : St))) := by
  refine Link.of fun K h => ?_
  simp only [laws_FnCountRows_n2, wpO_bind, wpO_cond, wpO_map, wpO_some] at h
  exact Awp.of (by kernel_rfl) h

theorem laws_FnCountRows_n3_l (x979 : Int) (x980 : Int) (x1003 : Int) (x1004 : Int) : Link laws_FnCountRows_ctx LL (Code.fst (Code.fst (Code.snd (Code.fst (Code.snd (Code.snd (Code.snd (Code.snd (Code.snd (Code.snd (Code.snd (bodyOf Try.f4)))))))))))) (Ann.fst (Ann.fst (Ann.snd (Ann.fst (Ann.snd (Ann.snd (Ann.snd (Ann.snd (Ann.snd (Ann.snd (Ann.snd laws_FnCountRows_an))))))))))) (⟨mkE 60 0 [(3, .dat (.int .i64) x979), (4, .dat (.int .i64) x980), (5, .dat (.int .i64) x1003), (6, .dat (.int .i64) x1004)], []⟩ : St) (laws_FnCountRows_n3 x979 x1003 x1004) (Sum.elim (fun (t : Int × Int) => (Exit.normal, (⟨mkE 60 0 [(3, .dat (.int .i64) x979), (4, .dat (.int .i64) x980), (5, .dat (.int .i64) t.1), (6, .dat (.int .i64) t.2)], []⟩ : St))) (fun (t : Int) => ((Exit.exit 0), (⟨mkE 60 0 [(3, .dat (.int .i64) x979), (4, .dat (.int .i64) x980), (5, .dat (.int .i64) t)], []⟩ : St)))) := by
  refine Link.of fun K h => ?_
  simp only [laws_FnCountRows_n3, wpO_bind, wpO_cond, wpO_map, wpO_some] at h
  exact Awp.of (by kernel_rfl) h

theorem laws_FnCountRows_n4_l (x979 : Int) (x980 : Int) : Link laws_FnCountRows_ctx LL (Code.fst (Code.snd (Code.fst (Code.snd (Code.snd (Code.snd (Code.snd (Code.snd (Code.snd (Code.snd (bodyOf Try.f4))))))))))) (Ann.fst (Ann.snd (Ann.fst (Ann.snd (Ann.snd (Ann.snd (Ann.snd (Ann.snd (Ann.snd (Ann.snd laws_FnCountRows_an)))))))))) (⟨mkE 60 0 [(3, .dat (.int .i64) x979), (4, .dat (.int .i64) x980), (5, .dat (.int .i64) 0), (6, .dat (.int .i64) 0)], []⟩ : St) (laws_FnCountRows_n4 x979) (fun (t : Int) => ((Exit.exit 0), (⟨mkE 60 0 [(3, .dat (.int .i64) x979), (4, .dat (.int .i64) x980), (5, .dat (.int .i64) t)], []⟩ : St))) := by
  unfold laws_FnCountRows_n4
  exact Link.cast (by kernel_rfl) (by kernel_rfl) (link_loop (mk := fun (s : Int × Int) => (⟨mkE 60 0 [(3, .dat (.int .i64) x979), (4, .dat (.int .i64) x980), (5, .dat (.int .i64) s.1), (6, .dat (.int .i64) s.2)], []⟩ : St)) (fin := (fun (t : Int) => ((Exit.exit 0), (⟨mkE 60 0 [(3, .dat (.int .i64) x979), (4, .dat (.int .i64) x980), (5, .dat (.int .i64) t)], []⟩ : St)))) (by
  rintro t f K h
  · exact h) (fun s => link_map (laws_FnCountRows_n3_l x979 x980 s.1 s.2) (Sum.elim (fun (t : Int × Int) => Sum.inl (t.1, t.2)) (fun (t : Int) => Sum.inr t)) (by
  rintro (t | t)
  · kernel_rfl
  · kernel_rfl)) (0, 0))

theorem laws_FnCountRows_n5_l (x979 : Int) (x980 : Int) : Link laws_FnCountRows_ctx LL (Code.snd (Code.fst (Code.snd (Code.snd (Code.snd (Code.snd (Code.snd (Code.snd (Code.snd (bodyOf Try.f4)))))))))) (Ann.snd (Ann.fst (Ann.snd (Ann.snd (Ann.snd (Ann.snd (Ann.snd (Ann.snd (Ann.snd laws_FnCountRows_an))))))))) (⟨mkE 60 0 [(3, .dat (.int .i64) x979), (4, .dat (.int .i64) x980), (5, .dat (.int .i64) 0), (6, .dat (.int .i64) 0)], []⟩ : St) (laws_FnCountRows_n5 x979) (fun (t : Int) => (Exit.normal, (⟨mkE 60 0 [(3, .dat (.int .i64) x979), (4, .dat (.int .i64) x980), (5, .dat (.int .i64) t)], []⟩ : St))) := by
  unfold laws_FnCountRows_n5
  exact Link.cast (by kernel_rfl) (by kernel_rfl) (link_block (id := 0) (laws_FnCountRows_n4_l x979 x980) (fun (t : Int) => t) (by
  rintro t K h
  · exact Eq.mp (by kernel_rfl) h))

theorem laws_FnCountRows_n6_l (x979 : Int) (x980 : Int) : Link laws_FnCountRows_ctx LL (Code.fst (Code.snd (Code.snd (Code.snd (Code.snd (Code.snd (Code.snd (Code.snd (bodyOf Try.f4))))))))) (Ann.fst (Ann.snd (Ann.snd (Ann.snd (Ann.snd (Ann.snd (Ann.snd (Ann.snd laws_FnCountRows_an)))))))) (⟨mkE 60 0 [(3, .dat (.int .i64) x979), (4, .dat (.int .i64) x980), (5, .dat (.int .i64) 0)], []⟩ : St) (laws_FnCountRows_n6 x979) (fun (t : Int) => (Exit.normal, (⟨mkE 60 0 [(3, .dat (.int .i64) x979), (4, .dat (.int .i64) x980), (5, .dat (.int .i64) t)], []⟩ : St))) := by
  unfold laws_FnCountRows_n6
  exact Link.cast (by kernel_rfl) (by kernel_rfl) (link_seq (b := (Code.snd (Code.fst (Code.snd (Code.snd (Code.snd (Code.snd (Code.snd (Code.snd (Code.snd (bodyOf Try.f4))))))))))) (y := (Ann.snd (Ann.fst (Ann.snd (Ann.snd (Ann.snd (Ann.snd (Ann.snd (Ann.snd (Ann.snd laws_FnCountRows_an)))))))))) (laws_FnCountRows_n2_l x979 x980) (fun (t : Unit) => (laws_FnCountRows_n5_l x979 x980)))

theorem laws_FnCountRows_n7_l (x979 : Int) (x980 : Int) (x1003 : Int) : Link laws_FnCountRows_ctx LL (Code.snd (Code.snd (Code.snd (Code.snd (Code.snd (Code.snd (Code.snd (Code.snd (bodyOf Try.f4))))))))) (Ann.snd (Ann.snd (Ann.snd (Ann.snd (Ann.snd (Ann.snd (Ann.snd (Ann.snd laws_FnCountRows_an)))))))) (⟨mkE 60 0 [(3, .dat (.int .i64) x979), (4, .dat (.int .i64) x980), (5, .dat (.int .i64) x1003)], []⟩ : St) (laws_FnCountRows_n7 x979 x980 x1003) (fun (t : Bool) => (Exit.ret, (⟨mkE 60 0 [(2, .dat .bool t)], []⟩ : St))) := by
  refine Link.of fun K h => ?_
  simp only [laws_FnCountRows_n7, wpO_bind, wpO_cond, wpO_map, wpO_some] at h
  exact Awp.of (by kernel_rfl) h

theorem laws_FnCountRows_n8_l (x979 : Int) (x980 : Int) : Link laws_FnCountRows_ctx LL (Code.snd (Code.snd (Code.snd (Code.snd (Code.snd (Code.snd (Code.snd (bodyOf Try.f4)))))))) (Ann.snd (Ann.snd (Ann.snd (Ann.snd (Ann.snd (Ann.snd (Ann.snd laws_FnCountRows_an))))))) (⟨mkE 60 0 [(3, .dat (.int .i64) x979), (4, .dat (.int .i64) x980), (5, .dat (.int .i64) 0)], []⟩ : St) (laws_FnCountRows_n8 x979 x980) (fun (t : Bool) => (Exit.ret, (⟨mkE 60 0 [(2, .dat .bool t)], []⟩ : St))) := by
  unfold laws_FnCountRows_n8
  exact Link.cast (by kernel_rfl) (by kernel_rfl) (link_seq (b := (Code.snd (Code.snd (Code.snd (Code.snd (Code.snd (Code.snd (Code.snd (Code.snd (bodyOf Try.f4)))))))))) (y := (Ann.snd (Ann.snd (Ann.snd (Ann.snd (Ann.snd (Ann.snd (Ann.snd (Ann.snd laws_FnCountRows_an))))))))) (laws_FnCountRows_n6_l x979 x980) (fun (t : Int) => (laws_FnCountRows_n7_l x979 x980 t)))

theorem laws_FnCountRows_n9_l (x888 : List Int) : Link laws_FnCountRows_ctx LL (bodyOf Try.f4) laws_FnCountRows_an (⟨mkE 60 0 [(0, .dat (.list (.int .u8)) x888)], []⟩ : St) (laws_FnCountRows_n9 x888) (fun (t : Bool) => (Exit.ret, (⟨mkE 60 0 [(2, .dat .bool t)], []⟩ : St))) := by
  unfold laws_FnCountRows_n9
  exact Link.cast (by kernel_rfl) (by kernel_rfl) (link_group (c := (Code.fst (Code.snd (Code.snd (Code.snd (Code.snd (Code.snd (Code.snd (bodyOf Try.f4))))))))) (a := (Ann.fst (Ann.snd (Ann.snd (Ann.snd (Ann.snd (Ann.snd (Ann.snd laws_FnCountRows_an)))))))) [(Code.fst (bodyOf Try.f4)), (Code.fst (Code.snd (bodyOf Try.f4))), (Code.fst (Code.snd (Code.snd (bodyOf Try.f4)))), (Code.fst (Code.snd (Code.snd (Code.snd (bodyOf Try.f4))))), (Code.fst (Code.snd (Code.snd (Code.snd (Code.snd (bodyOf Try.f4)))))), (Code.fst (Code.snd (Code.snd (Code.snd (Code.snd (Code.snd (bodyOf Try.f4)))))))] [(Ann.fst laws_FnCountRows_an), (Ann.fst (Ann.snd laws_FnCountRows_an)), (Ann.fst (Ann.snd (Ann.snd laws_FnCountRows_an))), (Ann.fst (Ann.snd (Ann.snd (Ann.snd laws_FnCountRows_an)))), (Ann.fst (Ann.snd (Ann.snd (Ann.snd (Ann.snd laws_FnCountRows_an))))), (Ann.fst (Ann.snd (Ann.snd (Ann.snd (Ann.snd (Ann.snd laws_FnCountRows_an))))))] rfl (link_seq2 (b := (Code.snd (Code.snd (Code.snd (Code.snd (Code.snd (Code.snd (Code.snd (bodyOf Try.f4))))))))) (y := (Ann.snd (Ann.snd (Ann.snd (Ann.snd (Ann.snd (Ann.snd (Ann.snd laws_FnCountRows_an)))))))) (laws_FnCountRows_n1_l x888) (fun (t : Int × Int) => (laws_FnCountRows_n8_l t.1 t.2)) (fun (t : Bool) => t) (by
  rintro t
  · kernel_rfl) (by
  rintro t f K h
  · exact h)))

theorem laws_FnCountRows_e (x888 : List Int) {r : AV} {H' : Heap} (h : (Ans.mk _ (laws_FnCountRows x888) (fun (t : Bool) => (.dat .bool t, []))).run = some (r, H')) : Awp laws_FnCountRows_ctx LL (bodyOf Try.f4) laws_FnCountRows_an (⟨mkE 60 0 [(0, .dat (.list (.int .u8)) x888)], []⟩ : St) (Ret (tlook tys) Try.f4.results.toList r H') :=
  ret_of' (laws_FnCountRows_n9_l x888) (by unfold laws_FnCountRows; kernel_rfl) (by
  intro t
  exact ret_mk [.dat .bool t] (by kernel_rfl) (by kernel_rfl) (by kernel_rfl) (by kernel_rfl)) h

def F_laws_FnCountRows : Fun := fun avs H =>
  match avs, H with
  | [.dat (.list (.int .u8)) x888], [] => ⟨_, laws_FnCountRows x888, fun (t : Bool) => (.dat .bool t, [])⟩
  | _, _ => Ans.no

theorem laws_FnCountRows_sound : Sound Try.prog 4 F_laws_FnCountRows := by
  refine fn_sound' (C := laws_FnCountRows_ctx) (c := bodyOf Try.f4) (cok_of tys_ok (List.forall_mem_cons.2 ⟨spec_DrawCountRows_sound, List.forall_mem_cons.2 ⟨impl_CountRows_sound, List.forall_mem_cons.2 ⟨spec_CountRows_sound, List.forall_mem_cons.2 ⟨laws_alive_sound, List.forall_mem_cons.2 ⟨impl_CountFlat_sound, by simp⟩⟩⟩⟩⟩) (List.forall_mem_cons.2 ⟨Try.call13, List.forall_mem_cons.2 ⟨Try.call14, List.forall_mem_cons.2 ⟨Try.call15, List.forall_mem_cons.2 ⟨Try.call11, List.forall_mem_cons.2 ⟨Try.call9, by simp⟩⟩⟩⟩⟩) (by kernel_rfl)) Try.func4 (by kernel_rfl) LL laws_FnCountRows_an ?_
  intro avs H r H' h
  unfold F_laws_FnCountRows at h
  split at h
  · refine Awp.cast ?_ ?_ ?_ (laws_FnCountRows_e _ h) <;> kernel_rfl
  · simp [Ans.no, Ans.run] at h

/-! loop.example/headtrees/laws.FnExactCountFlat -/

def laws_FnExactCountFlat_an : Ann := (.seq (.leaf [0]) (.seq (.leaf [0, 3]) (.seq (.leaf [3, 4]) (.seq (.seq (.leaf [11]) (.cond (.seq (.leaf [2]) (.leaf [2])) (.leaf []))) (.seq (.leaf [2]) (.leaf [2]))))))

noncomputable def laws_FnExactCountFlat_ctx : Ctx := ⟨tlook tys, olook [(10, F_spec_CountFlat), (9, F_impl_CountFlat)], ioF, 0⟩

theorem laws_FnExactCountFlat_n1_l (x1034 : Int) : Link laws_FnExactCountFlat_ctx LL (bodyOf Try.f5) laws_FnExactCountFlat_an (⟨mkE 12 0 [(0, .dat (.int .i64) x1034)], []⟩ : St) (laws_FnExactCountFlat_n1 x1034) (fun (t : Bool) => (Exit.ret, (⟨mkE 12 0 [(2, .dat .bool t)], []⟩ : St))) := by
  refine Link.of fun K h => ?_
  simp only [laws_FnExactCountFlat_n1, wpO_bind, wpO_cond, wpO_map, wpO_some] at h
  exact Awp.of (by kernel_rfl) h

theorem laws_FnExactCountFlat_e (x1034 : Int) {r : AV} {H' : Heap} (h : (Ans.mk _ (laws_FnExactCountFlat x1034) (fun (t : Bool) => (.dat .bool t, []))).run = some (r, H')) : Awp laws_FnExactCountFlat_ctx LL (bodyOf Try.f5) laws_FnExactCountFlat_an (⟨mkE 12 0 [(0, .dat (.int .i64) x1034)], []⟩ : St) (Ret (tlook tys) Try.f5.results.toList r H') :=
  ret_of' (laws_FnExactCountFlat_n1_l x1034) (by unfold laws_FnExactCountFlat; kernel_rfl) (by
  intro t
  exact ret_mk [.dat .bool t] (by kernel_rfl) (by kernel_rfl) (by kernel_rfl) (by kernel_rfl)) h

def F_laws_FnExactCountFlat : Fun := fun avs H =>
  match avs, H with
  | [.dat (.int .i64) x1034], [] => ⟨_, laws_FnExactCountFlat x1034, fun (t : Bool) => (.dat .bool t, [])⟩
  | _, _ => Ans.no

theorem laws_FnExactCountFlat_sound : Sound Try.prog 5 F_laws_FnExactCountFlat := by
  refine fn_sound' (C := laws_FnExactCountFlat_ctx) (c := bodyOf Try.f5) (cok_of tys_ok (List.forall_mem_cons.2 ⟨spec_CountFlat_sound, List.forall_mem_cons.2 ⟨impl_CountFlat_sound, by simp⟩⟩) (List.forall_mem_cons.2 ⟨Try.call10, List.forall_mem_cons.2 ⟨Try.call9, by simp⟩⟩) (by kernel_rfl)) Try.func5 (by kernel_rfl) LL laws_FnExactCountFlat_an ?_
  intro avs H r H' h
  unfold F_laws_FnExactCountFlat at h
  split at h
  · refine Awp.cast ?_ ?_ ?_ (laws_FnExactCountFlat_e _ h) <;> kernel_rfl
  · simp [Ans.no, Ans.run] at h

/-! loop.example/headtrees/laws.FnExactCountRows -/

def laws_FnExactCountRows_an : Ann := (.seq (.leaf [0]) (.seq (.leaf [0, 3]) (.seq (.leaf [3, 4]) (.seq (.seq (.leaf [11]) (.cond (.seq (.leaf [2]) (.leaf [2])) (.leaf []))) (.seq (.leaf [2]) (.leaf [2]))))))

noncomputable def laws_FnExactCountRows_ctx : Ctx := ⟨tlook tys, olook [(15, F_spec_CountRows), (14, F_impl_CountRows)], ioF, 0⟩

theorem laws_FnExactCountRows_n1_l (x1049 : Int) : Link laws_FnExactCountRows_ctx LL (bodyOf Try.f6) laws_FnExactCountRows_an (⟨mkE 12 0 [(0, .dat (.int .i64) x1049)], []⟩ : St) (laws_FnExactCountRows_n1 x1049) (fun (t : Bool) => (Exit.ret, (⟨mkE 12 0 [(2, .dat .bool t)], []⟩ : St))) := by
  refine Link.of fun K h => ?_
  simp only [laws_FnExactCountRows_n1, wpO_bind, wpO_cond, wpO_map, wpO_some] at h
  exact Awp.of (by kernel_rfl) h

theorem laws_FnExactCountRows_e (x1049 : Int) {r : AV} {H' : Heap} (h : (Ans.mk _ (laws_FnExactCountRows x1049) (fun (t : Bool) => (.dat .bool t, []))).run = some (r, H')) : Awp laws_FnExactCountRows_ctx LL (bodyOf Try.f6) laws_FnExactCountRows_an (⟨mkE 12 0 [(0, .dat (.int .i64) x1049)], []⟩ : St) (Ret (tlook tys) Try.f6.results.toList r H') :=
  ret_of' (laws_FnExactCountRows_n1_l x1049) (by unfold laws_FnExactCountRows; kernel_rfl) (by
  intro t
  exact ret_mk [.dat .bool t] (by kernel_rfl) (by kernel_rfl) (by kernel_rfl) (by kernel_rfl)) h

def F_laws_FnExactCountRows : Fun := fun avs H =>
  match avs, H with
  | [.dat (.int .i64) x1049], [] => ⟨_, laws_FnExactCountRows x1049, fun (t : Bool) => (.dat .bool t, [])⟩
  | _, _ => Ans.no

theorem laws_FnExactCountRows_sound : Sound Try.prog 6 F_laws_FnExactCountRows := by
  refine fn_sound' (C := laws_FnExactCountRows_ctx) (c := bodyOf Try.f6) (cok_of tys_ok (List.forall_mem_cons.2 ⟨spec_CountRows_sound, List.forall_mem_cons.2 ⟨impl_CountRows_sound, by simp⟩⟩) (List.forall_mem_cons.2 ⟨Try.call15, List.forall_mem_cons.2 ⟨Try.call14, by simp⟩⟩) (by kernel_rfl)) Try.func6 (by kernel_rfl) LL laws_FnExactCountRows_an ?_
  intro avs H r H' h
  unfold F_laws_FnExactCountRows at h
  split at h
  · refine Awp.cast ?_ ?_ ?_ (laws_FnExactCountRows_e _ h) <;> kernel_rfl
  · simp [Ans.no, Ans.run] at h

/-! loop.example/headtrees/spec.l4Tree, loop.example/headtrees/spec.l4Row -/

def spec_l4Tree_an : Ann := (.seq (.leaf [0, 1, 2, 3, 4, 10]) (.block (.loop (.seq (.seq (.leaf [0, 1, 2, 3, 4, 10, 16]) (.cond (.leaf [0, 1, 2, 3, 4, 10]) (.leaf []))) (.seq (.block (.seq (.leaf [0, 1, 2, 3, 4, 10, 11]) (.seq (.leaf [0, 1, 2, 3, 4, 10, 11, 12]) (.seq (.seq (.leaf [0, 1, 2, 3, 4, 10, 11, 12, 31]) (.cond (.seq (.leaf [0, 1, 2, 4, 10, 11]) (.seq (.leaf [0, 2, 4, 10, 11]) (.seq (.leaf []) (.leaf [])))) (.leaf [0, 1, 2, 3, 4, 10, 12]))) (.leaf [0, 1, 2, 3, 4, 10]))))) (.leaf [0, 1, 2, 3, 4, 10]))))))

def spec_l4Row_an : Ann := (.seq (.leaf [0, 1, 2, 3, 4, 10]) (.block (.loop (.seq (.seq (.leaf [0, 1, 2, 3, 4, 10, 16]) (.cond (.leaf [0, 1, 2, 3, 4, 10]) (.leaf []))) (.seq (.block (.seq (.leaf [0, 1, 2, 3, 4, 10, 11]) (.seq (.leaf [0, 1, 2, 3, 4, 10, 11, 12]) (.seq (.seq (.leaf [0, 1, 2, 3, 4, 10, 11, 12, 32]) (.cond (.seq (.leaf [0, 2, 3, 4, 10, 11]) (.seq (.leaf []) (.leaf []))) (.leaf [0, 1, 2, 3, 4, 10, 12]))) (.leaf [0, 1, 2, 3, 4, 10]))))) (.leaf [0, 1, 2, 3, 4, 10]))))))

def F_spec_l4Tree_fuel (n : Nat) : Fun := fun avs H =>
  match avs, H with
  | [.slc 0, .dat (.int .i64) x1092, .dat (.int .i64) x1093, .dat (.int .i64) x1094, .dat (.int .i64) x1095], [some (.seq (.int .i64) x1096)] => ⟨_, spec_l4Tree_fuel n x1092 x1093 x1094 x1095 x1096, fun (t : (List Int)) => (.tup [], [some (.seq (.int .i64) t)])⟩
  | _, _ => Ans.no

end Go.Rv
