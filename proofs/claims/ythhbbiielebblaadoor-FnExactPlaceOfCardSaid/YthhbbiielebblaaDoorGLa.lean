/-
  The checked code answers as the plain functions do; written by program. Conditions: none.
-/
import Derived.Test.YthhbbiielebblaaDoorGN
import Derived.Test.YthhbbiielebblaaDoorProg
set_option linter.unusedVariables false
set_option linter.unusedSimpArgs false
set_option maxRecDepth 100000
namespace Go.Rv
open Go.Proofs
theorem ty3 : TIOk Tryd.prog 3 ⟨.int .i64, 1, 8, some (.int .i64), [.int .i64 0]⟩ := ⟨⟨infoOf (Tryd.prog.info? 3), by kernel_rfl, by kernel_rfl, by kernel_rfl, .int .i64 0, by kernel_rfl, by kernel_rfl⟩, (by kernel_rfl : Tryd.prog.underlying 3 = some (.int .i64))⟩
theorem ty4 : TIOk Tryd.prog 4 ⟨.bool, 1, 1, some .bool, [.bool false]⟩ := ⟨⟨infoOf (Tryd.prog.info? 4), by kernel_rfl, by kernel_rfl, by kernel_rfl, .bool false, by kernel_rfl, by kernel_rfl⟩, (by kernel_rfl : Tryd.prog.underlying 4 = some .bool)⟩
theorem ty5 : TIOk Tryd.prog 5 ⟨.int .u8, 1, 1, some (.int .u8), [.int .u8 0]⟩ := ⟨⟨infoOf (Tryd.prog.info? 5), by kernel_rfl, by kernel_rfl, by kernel_rfl, .int .u8 0, by kernel_rfl, by kernel_rfl⟩, (by kernel_rfl : Tryd.prog.underlying 5 = some (.int .u8))⟩
theorem ty22 : TIOk Tryd.prog 22 ⟨.slice 5, 1, 24, some (.list (.int .u8)), [.slice none 0 0]⟩ := ⟨⟨infoOf (Tryd.prog.info? 22), by kernel_rfl, by kernel_rfl, by kernel_rfl, .slice none 0 0, by kernel_rfl, by kernel_rfl⟩, (by kernel_rfl : Tryd.prog.underlying 22 = some (.slice 5))⟩
theorem ty25 : TIOk Tryd.prog 25 ⟨.slice 3, 1, 24, some (.list (.int .i64)), [.slice none 0 0]⟩ := ⟨⟨infoOf (Tryd.prog.info? 25), by kernel_rfl, by kernel_rfl, by kernel_rfl, .slice none 0 0, by kernel_rfl, by kernel_rfl⟩, (by kernel_rfl : Tryd.prog.underlying 25 = some (.slice 3))⟩
theorem ty39 : TIOk Tryd.prog 39 ⟨.arr 7 3, 7, 56, none, [.int .i64 0, .int .i64 0, .int .i64 0, .int .i64 0, .int .i64 0, .int .i64 0, .int .i64 0]⟩ := ⟨⟨infoOf (Tryd.prog.info? 39), by kernel_rfl, by kernel_rfl, by kernel_rfl, .agg #[.int .i64 0, .int .i64 0, .int .i64 0, .int .i64 0, .int .i64 0, .int .i64 0, .int .i64 0], by kernel_rfl, by kernel_rfl⟩, (by kernel_rfl : Tryd.prog.underlying 39 = some (.array 7 3))⟩
theorem ty41 : TIOk Tryd.prog 41 ⟨.strct [(0, 39), (7, 39)], 14, 112, none, [.int .i64 0, .int .i64 0, .int .i64 0, .int .i64 0, .int .i64 0, .int .i64 0, .int .i64 0, .int .i64 0, .int .i64 0, .int .i64 0, .int .i64 0, .int .i64 0, .int .i64 0, .int .i64 0]⟩ := ⟨⟨infoOf (Tryd.prog.info? 41), by kernel_rfl, by kernel_rfl, by kernel_rfl, .agg #[.int .i64 0, .int .i64 0, .int .i64 0, .int .i64 0, .int .i64 0, .int .i64 0, .int .i64 0, .int .i64 0, .int .i64 0, .int .i64 0, .int .i64 0, .int .i64 0, .int .i64 0, .int .i64 0], by kernel_rfl, by kernel_rfl⟩, ⟨fieldsOf (Tryd.prog.underlying 41), by kernel_rfl, by kernel_rfl⟩⟩
theorem ty45 : TIOk Tryd.prog 45 ⟨.strct [(0, 3), (1, 3)], 2, 16, some (.pair (.int .i64) (.pair (.int .i64) .unit)), [.int .i64 0, .int .i64 0]⟩ := ⟨⟨infoOf (Tryd.prog.info? 45), by kernel_rfl, by kernel_rfl, by kernel_rfl, .agg #[.int .i64 0, .int .i64 0], by kernel_rfl, by kernel_rfl⟩, ⟨fieldsOf (Tryd.prog.underlying 45), by kernel_rfl, by kernel_rfl⟩⟩
theorem ty48 : TIOk Tryd.prog 48 ⟨.slice 51, 1, 24, some (.list (.int .u64)), [.slice none 0 0]⟩ := ⟨⟨infoOf (Tryd.prog.info? 48), by kernel_rfl, by kernel_rfl, by kernel_rfl, .slice none 0 0, by kernel_rfl, by kernel_rfl⟩, (by kernel_rfl : Tryd.prog.underlying 48 = some (.slice 51))⟩
theorem ty51 : TIOk Tryd.prog 51 ⟨.int .u64, 1, 8, some (.int .u64), [.int .u64 0]⟩ := ⟨⟨infoOf (Tryd.prog.info? 51), by kernel_rfl, by kernel_rfl, by kernel_rfl, .int .u64 0, by kernel_rfl, by kernel_rfl⟩, (by kernel_rfl : Tryd.prog.underlying 51 = some (.int .u64))⟩
theorem ty54 : TIOk Tryd.prog 54 ⟨.strct [(0, 25), (1, 3), (2, 3)], 3, 40, some (.pair (.list (.int .i64)) (.pair (.int .i64) (.pair (.int .i64) .unit))), [.slice none 0 0, .int .i64 0, .int .i64 0]⟩ := ⟨⟨infoOf (Tryd.prog.info? 54), by kernel_rfl, by kernel_rfl, by kernel_rfl, .agg #[.slice none 0 0, .int .i64 0, .int .i64 0], by kernel_rfl, by kernel_rfl⟩, ⟨fieldsOf (Tryd.prog.underlying 54), by kernel_rfl, by kernel_rfl⟩⟩
theorem ty58 : TIOk Tryd.prog 58 ⟨.strct [(0, 22), (1, 3)], 2, 32, some (.pair (.list (.int .u8)) (.pair (.int .i64) .unit)), [.slice none 0 0, .int .i64 0]⟩ := ⟨⟨infoOf (Tryd.prog.info? 58), by kernel_rfl, by kernel_rfl, by kernel_rfl, .agg #[.slice none 0 0, .int .i64 0], by kernel_rfl, by kernel_rfl⟩, ⟨fieldsOf (Tryd.prog.underlying 58), by kernel_rfl, by kernel_rfl⟩⟩
theorem ty60 : TIOk Tryd.prog 60 ⟨.strct [(0, 39), (7, 39)], 14, 112, none, [.int .i64 0, .int .i64 0, .int .i64 0, .int .i64 0, .int .i64 0, .int .i64 0, .int .i64 0, .int .i64 0, .int .i64 0, .int .i64 0, .int .i64 0, .int .i64 0, .int .i64 0, .int .i64 0]⟩ := ⟨⟨infoOf (Tryd.prog.info? 60), by kernel_rfl, by kernel_rfl, by kernel_rfl, .agg #[.int .i64 0, .int .i64 0, .int .i64 0, .int .i64 0, .int .i64 0, .int .i64 0, .int .i64 0, .int .i64 0, .int .i64 0, .int .i64 0, .int .i64 0, .int .i64 0, .int .i64 0, .int .i64 0], by kernel_rfl, by kernel_rfl⟩, ⟨fieldsOf (Tryd.prog.underlying 60), by kernel_rfl, by kernel_rfl⟩⟩
theorem ty82 : TIOk Tryd.prog 82 ⟨.int .u64, 1, 8, some (.int .u64), [.int .u64 0]⟩ := ⟨⟨infoOf (Tryd.prog.info? 82), by kernel_rfl, by kernel_rfl, by kernel_rfl, .int .u64 0, by kernel_rfl, by kernel_rfl⟩, (by kernel_rfl : Tryd.prog.underlying 82 = some (.int .u64))⟩
theorem ty84 : TIOk Tryd.prog 84 ⟨.arr 64 5, 64, 64, none, [.int .u8 0, .int .u8 0, .int .u8 0, .int .u8 0, .int .u8 0, .int .u8 0, .int .u8 0, .int .u8 0, .int .u8 0, .int .u8 0, .int .u8 0, .int .u8 0, .int .u8 0, .int .u8 0, .int .u8 0, .int .u8 0, .int .u8 0, .int .u8 0, .int .u8 0, .int .u8 0, .int .u8 0, .int .u8 0, .int .u8 0, .int .u8 0, .int .u8 0, .int .u8 0, .int .u8 0, .int .u8 0, .int .u8 0, .int .u8 0, .int .u8 0, .int .u8 0, .int .u8 0, .int .u8 0, .int .u8 0, .int .u8 0, .int .u8 0, .int .u8 0, .int .u8 0, .int .u8 0, .int .u8 0, .int .u8 0, .int .u8 0, .int .u8 0, .int .u8 0, .int .u8 0, .int .u8 0, .int .u8 0, .int .u8 0, .int .u8 0, .int .u8 0, .int .u8 0, .int .u8 0, .int .u8 0, .int .u8 0, .int .u8 0, .int .u8 0, .int .u8 0, .int .u8 0, .int .u8 0, .int .u8 0, .int .u8 0, .int .u8 0, .int .u8 0]⟩ := ⟨⟨infoOf (Tryd.prog.info? 84), by kernel_rfl, by kernel_rfl, by kernel_rfl, .agg #[.int .u8 0, .int .u8 0, .int .u8 0, .int .u8 0, .int .u8 0, .int .u8 0, .int .u8 0, .int .u8 0, .int .u8 0, .int .u8 0, .int .u8 0, .int .u8 0, .int .u8 0, .int .u8 0, .int .u8 0, .int .u8 0, .int .u8 0, .int .u8 0, .int .u8 0, .int .u8 0, .int .u8 0, .int .u8 0, .int .u8 0, .int .u8 0, .int .u8 0, .int .u8 0, .int .u8 0, .int .u8 0, .int .u8 0, .int .u8 0, .int .u8 0, .int .u8 0, .int .u8 0, .int .u8 0, .int .u8 0, .int .u8 0, .int .u8 0, .int .u8 0, .int .u8 0, .int .u8 0, .int .u8 0, .int .u8 0, .int .u8 0, .int .u8 0, .int .u8 0, .int .u8 0, .int .u8 0, .int .u8 0, .int .u8 0, .int .u8 0, .int .u8 0, .int .u8 0, .int .u8 0, .int .u8 0, .int .u8 0, .int .u8 0, .int .u8 0, .int .u8 0, .int .u8 0, .int .u8 0, .int .u8 0, .int .u8 0, .int .u8 0, .int .u8 0], by kernel_rfl, by kernel_rfl⟩, (by kernel_rfl : Tryd.prog.underlying 84 = some (.array 64 5))⟩
def tys : List (TypeId × TI) := [(3, ⟨.int .i64, 1, 8, some (.int .i64), [.int .i64 0]⟩), (4, ⟨.bool, 1, 1, some .bool, [.bool false]⟩), (5, ⟨.int .u8, 1, 1, some (.int .u8), [.int .u8 0]⟩), (22, ⟨.slice 5, 1, 24, some (.list (.int .u8)), [.slice none 0 0]⟩), (25, ⟨.slice 3, 1, 24, some (.list (.int .i64)), [.slice none 0 0]⟩), (39, ⟨.arr 7 3, 7, 56, none, [.int .i64 0, .int .i64 0, .int .i64 0, .int .i64 0, .int .i64 0, .int .i64 0, .int .i64 0]⟩), (41, ⟨.strct [(0, 39), (7, 39)], 14, 112, none, [.int .i64 0, .int .i64 0, .int .i64 0, .int .i64 0, .int .i64 0, .int .i64 0, .int .i64 0, .int .i64 0, .int .i64 0, .int .i64 0, .int .i64 0, .int .i64 0, .int .i64 0, .int .i64 0]⟩), (45, ⟨.strct [(0, 3), (1, 3)], 2, 16, some (.pair (.int .i64) (.pair (.int .i64) .unit)), [.int .i64 0, .int .i64 0]⟩), (48, ⟨.slice 51, 1, 24, some (.list (.int .u64)), [.slice none 0 0]⟩), (51, ⟨.int .u64, 1, 8, some (.int .u64), [.int .u64 0]⟩), (54, ⟨.strct [(0, 25), (1, 3), (2, 3)], 3, 40, some (.pair (.list (.int .i64)) (.pair (.int .i64) (.pair (.int .i64) .unit))), [.slice none 0 0, .int .i64 0, .int .i64 0]⟩), (58, ⟨.strct [(0, 22), (1, 3)], 2, 32, some (.pair (.list (.int .u8)) (.pair (.int .i64) .unit)), [.slice none 0 0, .int .i64 0]⟩), (60, ⟨.strct [(0, 39), (7, 39)], 14, 112, none, [.int .i64 0, .int .i64 0, .int .i64 0, .int .i64 0, .int .i64 0, .int .i64 0, .int .i64 0, .int .i64 0, .int .i64 0, .int .i64 0, .int .i64 0, .int .i64 0, .int .i64 0, .int .i64 0]⟩), (82, ⟨.int .u64, 1, 8, some (.int .u64), [.int .u64 0]⟩), (84, ⟨.arr 64 5, 64, 64, none, [.int .u8 0, .int .u8 0, .int .u8 0, .int .u8 0, .int .u8 0, .int .u8 0, .int .u8 0, .int .u8 0, .int .u8 0, .int .u8 0, .int .u8 0, .int .u8 0, .int .u8 0, .int .u8 0, .int .u8 0, .int .u8 0, .int .u8 0, .int .u8 0, .int .u8 0, .int .u8 0, .int .u8 0, .int .u8 0, .int .u8 0, .int .u8 0, .int .u8 0, .int .u8 0, .int .u8 0, .int .u8 0, .int .u8 0, .int .u8 0, .int .u8 0, .int .u8 0, .int .u8 0, .int .u8 0, .int .u8 0, .int .u8 0, .int .u8 0, .int .u8 0, .int .u8 0, .int .u8 0, .int .u8 0, .int .u8 0, .int .u8 0, .int .u8 0, .int .u8 0, .int .u8 0, .int .u8 0, .int .u8 0, .int .u8 0, .int .u8 0, .int .u8 0, .int .u8 0, .int .u8 0, .int .u8 0, .int .u8 0, .int .u8 0, .int .u8 0, .int .u8 0, .int .u8 0, .int .u8 0, .int .u8 0, .int .u8 0, .int .u8 0, .int .u8 0]⟩)]
theorem tys_ok : TOk Tryd.prog (tlook tys) := tok_of (List.forall_mem_cons.2 ⟨ty3, List.forall_mem_cons.2 ⟨ty4, List.forall_mem_cons.2 ⟨ty5, List.forall_mem_cons.2 ⟨ty22, List.forall_mem_cons.2 ⟨ty25, List.forall_mem_cons.2 ⟨ty39, List.forall_mem_cons.2 ⟨ty41, List.forall_mem_cons.2 ⟨ty45, List.forall_mem_cons.2 ⟨ty48, List.forall_mem_cons.2 ⟨ty51, List.forall_mem_cons.2 ⟨ty54, List.forall_mem_cons.2 ⟨ty58, List.forall_mem_cons.2 ⟨ty60, List.forall_mem_cons.2 ⟨ty82, List.forall_mem_cons.2 ⟨ty84, by simp⟩⟩⟩⟩⟩⟩⟩⟩⟩⟩⟩⟩⟩⟩⟩)
def ioF (f : FuncId) (i : Nat) : Bool := [(23, 1), (26, 0), (40, 1), (42, 0), (45, 0), (52, 1)].any fun (p : Nat × Nat) => Nat.beq p.1 f && Nat.beq p.2 i

/-! loop.example/headtrees/spec.l20Open -/

def spec_l20Open_an : Ann := (.seq (.leaf [0]) (.seq (.seq (.leaf [0, 5]) (.cond (.leaf [0]) (.leaf [0]))) (.seq (.leaf [2]) (.leaf [2]))))

noncomputable def spec_l20Open_ctx : Ctx := ⟨tlook tys, olook [], ioF, 0⟩

theorem spec_l20Open_n1_l (x12 : List Int) : Link spec_l20Open_ctx LL (bodyOf Tryd.f19) spec_l20Open_an (⟨mkE 11 0 [(0, .dat (.list (.int .u8)) x12)], []⟩ : St) (spec_l20Open_n1 x12) (fun (t : (List Int)) => (Exit.ret, (⟨mkE 11 0 [(2, .ptr 0 0)], [some (.box [.dat (.list (.int .u8)) t, .dat (.int .i64) 0])]⟩ : St))) := by
  refine Link.of fun K h => ?_
  simp only [spec_l20Open_n1, wpO_bind, wpO_cond, wpO_map, wpO_some] at h
  exact Awp.of (by kernel_rfl) h

theorem spec_l20Open_e (x12 : List Int) {r : AV} {H' : Heap} (h : (Ans.mk _ (spec_l20Open x12) (fun (t : (List Int)) => (.ptr 0 0, [some (.box [.dat (.list (.int .u8)) t, .dat (.int .i64) 0])]))).run = some (r, H')) : Awp spec_l20Open_ctx LL (bodyOf Tryd.f19) spec_l20Open_an (⟨mkE 11 0 [(0, .dat (.list (.int .u8)) x12)], []⟩ : St) (Ret (tlook tys) Tryd.f19.results.toList r H') :=
  ret_of' (spec_l20Open_n1_l x12) (by unfold spec_l20Open; kernel_rfl) (by
  intro t
  exact ret_mk [.ptr 0 0] (by kernel_rfl) (by kernel_rfl) (by kernel_rfl) (by kernel_rfl)) h

def F_spec_l20Open : Fun := fun avs H =>
  match avs, H with
  | [.dat (.list (.int .u8)) x12], [] => ⟨_, spec_l20Open x12, fun (t : (List Int)) => (.ptr 0 0, [some (.box [.dat (.list (.int .u8)) t, .dat (.int .i64) 0])])⟩
  | _, _ => Ans.no

theorem spec_l20Open_sound : Sound Tryd.prog 19 F_spec_l20Open := by
  refine fn_sound' (C := spec_l20Open_ctx) (c := bodyOf Tryd.f19) (cok_of tys_ok (by simp) (by simp) (by kernel_rfl)) Tryd.func19 (by kernel_rfl) LL spec_l20Open_an ?_
  intro avs H r H' h
  unfold F_spec_l20Open at h
  split at h
  · refine Awp.cast ?_ ?_ ?_ (spec_l20Open_e _ h) <;> kernel_rfl
  · simp [Ans.no, Ans.run] at h

/-! (*loop.example/headtrees/spec.l20Rd).pick -/

def spec_l20Rd_pick_an : Ann := (.seq (.leaf [0, 1]) (.seq (.leaf [0, 1]) (.seq (.seq (.leaf [0, 1, 24]) (.cond (.seq (.leaf [4]) (.leaf [4])) (.leaf [0, 1]))) (.seq (.leaf [0, 1, 5]) (.seq (.seq (.leaf [0, 1, 5, 36]) (.cond (.seq (.leaf [4]) (.leaf [4])) (.leaf [0, 1, 5]))) (.seq (.draw [] [0, 1, 2, 3, 4, 5, 6, 7, 8, 9, 10, 11, 12, 13, 14, 15, 16, 17, 18, 19, 20, 21, 22, 23, 24, 25, 26, 27, 28, 29, 30, 31, 32, 33, 34, 35, 36, 37, 38, 39, 40, 41, 42, 43, 44, 45] [] [1, 6]) (.seq (.leaf [1, 6]) (.seq (.leaf [4]) (.leaf [4])))))))))

noncomputable def spec_l20Rd_pick_ctx : Ctx := ⟨tlook tys, olook [], ioF, 1⟩

theorem spec_l20Rd_pick_n1_l (x34 : Int) (x35 : List Int) (x36 : Int) : Link spec_l20Rd_pick_ctx LL (bodyOf Tryd.f20) spec_l20Rd_pick_an (⟨mkE 99 0 [(0, .ptr 0 0), (1, .dat (.int .i64) x34)], [some (.box [.dat (.list (.int .u8)) x35, .dat (.int .i64) x36])]⟩ : St) (spec_l20Rd_pick_n1 x34 x35 x36) (fun (t : Int × Int) => (Exit.ret, (⟨mkE 99 0 [(4, .dat (.int .i64) t.1)], [some (.box [.dat (.list (.int .u8)) x35, .dat (.int .i64) t.2])]⟩ : St))) := by
  refine Link.of fun K h => ?_
  simp only [spec_l20Rd_pick_n1, wpO_bind, wpO_cond, wpO_map, wpO_some] at h
  exact Awp.of (by kernel_rfl) h

theorem spec_l20Rd_pick_e (x34 : Int) (x35 : List Int) (x36 : Int) {r : AV} {H' : Heap} (h : (Ans.mk _ (spec_l20Rd_pick x34 x35 x36) (fun (t : Int × Int) => (.dat (.int .i64) t.1, [some (.box [.dat (.list (.int .u8)) x35, .dat (.int .i64) t.2])]))).run = some (r, H')) : Awp spec_l20Rd_pick_ctx LL (bodyOf Tryd.f20) spec_l20Rd_pick_an (⟨mkE 99 0 [(0, .ptr 0 0), (1, .dat (.int .i64) x34)], [some (.box [.dat (.list (.int .u8)) x35, .dat (.int .i64) x36])]⟩ : St) (Ret (tlook tys) Tryd.f20.results.toList r H') :=
  ret_of' (spec_l20Rd_pick_n1_l x34 x35 x36) (by unfold spec_l20Rd_pick; kernel_rfl) (by
  intro t
  exact ret_mk [.dat (.int .i64) t.1] (by kernel_rfl) (by kernel_rfl) (by kernel_rfl) (by kernel_rfl)) h

def F_spec_l20Rd_pick : Fun := fun avs H =>
  match avs, H with
  | [.ptr 0 0, .dat (.int .i64) x34], [some (.box [.dat (.list (.int .u8)) x35, .dat (.int .i64) x36])] => ⟨_, spec_l20Rd_pick x34 x35 x36, fun (t : Int × Int) => (.dat (.int .i64) t.1, [some (.box [.dat (.list (.int .u8)) x35, .dat (.int .i64) t.2])])⟩
  | _, _ => Ans.no

theorem spec_l20Rd_pick_sound : Sound Tryd.prog 20 F_spec_l20Rd_pick := by
  refine fn_sound' (C := spec_l20Rd_pick_ctx) (c := bodyOf Tryd.f20) (cok_of tys_ok (by simp) (by simp) (by kernel_rfl)) Tryd.func20 (by kernel_rfl) LL spec_l20Rd_pick_an ?_
  intro avs H r H' h
  unfold F_spec_l20Rd_pick at h
  split at h
  · refine Awp.cast ?_ ?_ ?_ (spec_l20Rd_pick_e _ _ _ h) <;> kernel_rfl
  · simp [Ans.no, Ans.run] at h

/-! loop.example/headtrees/spec.l1In -/

def spec_l1In_an : Ann := (.seq (.leaf [0, 1, 2]) (.seq (.leaf [6]) (.leaf [6])))

noncomputable def spec_l1In_ctx : Ctx := ⟨tlook tys, olook [], ioF, 0⟩

theorem spec_l1In_n1_l (x216 : Int) (x217 : Int) (x218 : Int) : Link spec_l1In_ctx LL (bodyOf Tryd.f24) spec_l1In_an (⟨mkE 15 0 [(0, .dat (.int .i64) x216), (1, .dat (.int .i64) x217), (2, .dat (.int .i64) x218)], []⟩ : St) (spec_l1In_n1 x216 x217 x218) (fun (t : Bool) => (Exit.ret, (⟨mkE 15 0 [(6, .dat .bool t)], []⟩ : St))) := by
  refine Link.of fun K h => ?_
  simp only [spec_l1In_n1, wpO_bind, wpO_cond, wpO_map, wpO_some] at h
  exact Awp.of (by kernel_rfl) h

theorem spec_l1In_e (x216 : Int) (x217 : Int) (x218 : Int) {r : AV} {H' : Heap} (h : (Ans.mk _ (spec_l1In x216 x217 x218) (fun (t : Bool) => (.dat .bool t, []))).run = some (r, H')) : Awp spec_l1In_ctx LL (bodyOf Tryd.f24) spec_l1In_an (⟨mkE 15 0 [(0, .dat (.int .i64) x216), (1, .dat (.int .i64) x217), (2, .dat (.int .i64) x218)], []⟩ : St) (Ret (tlook tys) Tryd.f24.results.toList r H') :=
  ret_of' (spec_l1In_n1_l x216 x217 x218) (by unfold spec_l1In; kernel_rfl) (by
  intro t
  exact ret_mk [.dat .bool t] (by kernel_rfl) (by kernel_rfl) (by kernel_rfl) (by kernel_rfl)) h

def F_spec_l1In : Fun := fun avs H =>
  match avs, H with
  | [.dat (.int .i64) x216, .dat (.int .i64) x217, .dat (.int .i64) x218], [] => ⟨_, spec_l1In x216 x217 x218, fun (t : Bool) => (.dat .bool t, [])⟩
  | _, _ => Ans.no

theorem spec_l1In_sound : Sound Tryd.prog 24 F_spec_l1In := by
  refine fn_sound' (C := spec_l1In_ctx) (c := bodyOf Tryd.f24) (cok_of tys_ok (by simp) (by simp) (by kernel_rfl)) Tryd.func24 (by kernel_rfl) LL spec_l1In_an ?_
  intro avs H r H' h
  unfold F_spec_l1In at h
  split at h
  · refine Awp.cast ?_ ?_ ?_ (spec_l1In_e _ _ _ h) <;> kernel_rfl
  · simp [Ans.no, Ans.run] at h

/-! loop.example/headtrees/spec.l4Flat, loop.example/headtrees/spec.l4Rows -/

def spec_l4Flat_an : Ann := (.seq (.leaf [0]) (.seq (.leaf [0, 3]) (.seq (.seq (.leaf [0, 3, 4]) (.block (.loop (.seq (.seq (.leaf [0, 3, 4, 7]) (.cond (.leaf [0, 3, 4]) (.leaf [3]))) (.seq (.block (.leaf [0, 3, 4])) (.leaf [0, 3, 4])))))) (.seq (.leaf [2]) (.leaf [2])))))

def spec_l4Rows_an : Ann := (.seq (.leaf [0]) (.seq (.seq (.leaf [0, 6]) (.cond (.seq (.leaf [2]) (.leaf [2])) (.leaf [0]))) (.seq (.leaf [0, 3]) (.seq (.seq (.leaf [0, 3, 4]) (.block (.loop (.seq (.seq (.leaf [0, 3, 4, 9]) (.cond (.leaf [0, 3, 4]) (.leaf [3]))) (.seq (.block (.leaf [0, 3, 4])) (.leaf [0, 3, 4])))))) (.seq (.leaf [2]) (.leaf [2]))))))

def F_spec_l4Flat_fuel (n : Nat) : Fun := fun avs H =>
  match avs, H with
  | [.dat (.int .i64) x229], [] => ⟨_, spec_l4Flat_fuel n x229, fun (t : Int) => (.dat (.int .i64) t, [])⟩
  | _, _ => Ans.no

def F_spec_l4Rows_fuel (n : Nat) : Fun := fun avs H =>
  match avs, H with
  | [.dat (.int .i64) x277], [] => ⟨_, spec_l4Rows_fuel n x277, fun (t : Int) => (.dat (.int .i64) t, [])⟩
  | _, _ => Ans.no

noncomputable def spec_l4Flat_ctx (n : Nat) : Ctx := ⟨tlook tys, olook [(41, F_spec_l4Rows_fuel n)], ioF, 0⟩

noncomputable def spec_l4Rows_ctx (n : Nat) : Ctx := ⟨tlook tys, olook [(25, F_spec_l4Flat_fuel n), (41, F_spec_l4Rows_fuel n)], ioF, 0⟩

theorem spec_l4Flat_n1_l (n : Nat) (x229 : Int) : Link (spec_l4Flat_ctx n) LL (Code.seq (Code.fst (bodyOf Tryd.f25)) (Code.fst (Code.snd (bodyOf Tryd.f25)))) (Ann.seq (Ann.fst spec_l4Flat_an) (Ann.fst (Ann.snd spec_l4Flat_an))) (⟨mkE 21 0 [(0, .dat (.int .i64) x229)], []⟩ : St) (spec_l4Flat_n1 (spec_l4Flat_fuel n) (spec_l4Rows_fuel n)) (fun (t : Unit) => (Exit.normal, (⟨mkE 21 0 [(0, .dat (.int .i64) x229), (3, .dat (.int .i64) 0)], []⟩ : St))) := by
  refine Link.of fun K h => ?_
  simp only [spec_l4Flat_n1, wpO_bind, wpO_cond, wpO_map, wpO_some] at h
  exact Awp.of (by kernel_rfl) h

theorem spec_l4Flat_n2_l (n : Nat) (x229 : Int) : Link (spec_l4Flat_ctx n) LL (Code.fst (Code.fst (Code.snd (Code.snd (bodyOf Tryd.f25))))) (Ann.fst (Ann.fst (Ann.snd (Ann.snd spec_l4Flat_an)))) (⟨mkE 21 0 [(0, .dat (.int .i64) x229), (3, .dat (.int .i64) 0)], []⟩ : St) (spec_l4Flat_n2 (spec_l4Flat_fuel n) (spec_l4Rows_fuel n)) (fun (t : Unit) => (Exit.normal, (⟨mkE 21 0 [(0, .dat (.int .i64) x229), (3, .dat (.int .i64) 0), (4, .dat (.int .i64) 0)], []⟩ : St))) := by
  refine Link.of fun K h => ?_
  simp only [spec_l4Flat_n2, wpO_bind, wpO_cond, wpO_map, wpO_some] at h
  exact Awp.of (by kernel_rfl) h

theorem spec_l4Flat_n3_l (n : Nat) (x229 : Int) (x332 : Int) (x333 : Int) : Link (spec_l4Flat_ctx n) LL (Code.fst (Code.fst (Code.snd (Code.fst (Code.snd (Code.snd (bodyOf Tryd.f25))))))) (Ann.fst (Ann.fst (Ann.snd (Ann.fst (Ann.snd (Ann.snd spec_l4Flat_an)))))) (⟨mkE 21 0 [(0, .dat (.int .i64) x229), (3, .dat (.int .i64) x332), (4, .dat (.int .i64) x333)], []⟩ : St) (spec_l4Flat_n3 (spec_l4Flat_fuel n) (spec_l4Rows_fuel n) x229 x332 x333) (Sum.elim (fun (t : Int × Int) => (Exit.normal, (⟨mkE 21 0 [(0, .dat (.int .i64) x229), (3, .dat (.int .i64) t.1), (4, .dat (.int .i64) t.2)], []⟩ : St))) (fun (t : Int) => ((Exit.exit 0), (⟨mkE 21 0 [(3, .dat (.int .i64) t)], []⟩ : St)))) := by
  refine Link.of fun K h => ?_
  simp only [spec_l4Flat_n3, wpO_bind, wpO_cond, wpO_map, wpO_some] at h
  exact Awp.of (by kernel_rfl) h

theorem spec_l4Flat_n4_l (n : Nat) (x229 : Int) : Link (spec_l4Flat_ctx n) LL (Code.fst (Code.snd (Code.fst (Code.snd (Code.snd (bodyOf Tryd.f25)))))) (Ann.fst (Ann.snd (Ann.fst (Ann.snd (Ann.snd spec_l4Flat_an))))) (⟨mkE 21 0 [(0, .dat (.int .i64) x229), (3, .dat (.int .i64) 0), (4, .dat (.int .i64) 0)], []⟩ : St) (spec_l4Flat_n4 (spec_l4Flat_fuel n) (spec_l4Rows_fuel n) x229) (fun (t : Int) => ((Exit.exit 0), (⟨mkE 21 0 [(3, .dat (.int .i64) t)], []⟩ : St))) := by
  unfold spec_l4Flat_n4
  exact Link.cast (by kernel_rfl) (by kernel_rfl) (link_loop (mk := fun (s : Int × Int) => (⟨mkE 21 0 [(0, .dat (.int .i64) x229), (3, .dat (.int .i64) s.1), (4, .dat (.int .i64) s.2)], []⟩ : St)) (fin := (fun (t : Int) => ((Exit.exit 0), (⟨mkE 21 0 [(3, .dat (.int .i64) t)], []⟩ : St)))) (by
  rintro t f K h
  · exact h) (fun s => link_map (spec_l4Flat_n3_l n x229 s.1 s.2) (Sum.elim (fun (t : Int × Int) => Sum.inl (t.1, t.2)) (fun (t : Int) => Sum.inr t)) (by
  rintro (t | t)
  · kernel_rfl
  · kernel_rfl)) (0, 0))

theorem spec_l4Flat_n5_l (n : Nat) (x229 : Int) : Link (spec_l4Flat_ctx n) LL (Code.snd (Code.fst (Code.snd (Code.snd (bodyOf Tryd.f25))))) (Ann.snd (Ann.fst (Ann.snd (Ann.snd spec_l4Flat_an)))) (⟨mkE 21 0 [(0, .dat (.int .i64) x229), (3, .dat (.int .i64) 0), (4, .dat (.int .i64) 0)], []⟩ : St) (spec_l4Flat_n5 (spec_l4Flat_fuel n) (spec_l4Rows_fuel n) x229) (fun (t : Int) => (Exit.normal, (⟨mkE 21 0 [(3, .dat (.int .i64) t)], []⟩ : St))) := by
  unfold spec_l4Flat_n5
  exact Link.cast (by kernel_rfl) (by kernel_rfl) (link_block (id := 0) (spec_l4Flat_n4_l n x229) (fun (t : Int) => t) (by
  rintro t K h
  · exact Eq.mp (by kernel_rfl) h))

theorem spec_l4Flat_n6_l (n : Nat) (x229 : Int) : Link (spec_l4Flat_ctx n) LL (Code.fst (Code.snd (Code.snd (bodyOf Tryd.f25)))) (Ann.fst (Ann.snd (Ann.snd spec_l4Flat_an))) (⟨mkE 21 0 [(0, .dat (.int .i64) x229), (3, .dat (.int .i64) 0)], []⟩ : St) (spec_l4Flat_n6 (spec_l4Flat_fuel n) (spec_l4Rows_fuel n) x229) (fun (t : Int) => (Exit.normal, (⟨mkE 21 0 [(3, .dat (.int .i64) t)], []⟩ : St))) := by
  unfold spec_l4Flat_n6
  exact Link.cast (by kernel_rfl) (by kernel_rfl) (link_seq (b := (Code.snd (Code.fst (Code.snd (Code.snd (bodyOf Tryd.f25)))))) (y := (Ann.snd (Ann.fst (Ann.snd (Ann.snd spec_l4Flat_an))))) (spec_l4Flat_n2_l n x229) (fun (t : Unit) => (spec_l4Flat_n5_l n x229)))

theorem spec_l4Flat_n7_l (n : Nat) (x332 : Int) : Link (spec_l4Flat_ctx n) LL (Code.snd (Code.snd (Code.snd (bodyOf Tryd.f25)))) (Ann.snd (Ann.snd (Ann.snd spec_l4Flat_an))) (⟨mkE 21 0 [(3, .dat (.int .i64) x332)], []⟩ : St) (spec_l4Flat_n7 (spec_l4Flat_fuel n) (spec_l4Rows_fuel n) x332) (fun (t : Int) => (Exit.ret, (⟨mkE 21 0 [(2, .dat (.int .i64) t)], []⟩ : St))) := by
  refine Link.of fun K h => ?_
  simp only [spec_l4Flat_n7, wpO_bind, wpO_cond, wpO_map, wpO_some] at h
  exact Awp.of (by kernel_rfl) h

theorem spec_l4Flat_n8_l (n : Nat) (x229 : Int) : Link (spec_l4Flat_ctx n) LL (Code.snd (Code.snd (bodyOf Tryd.f25))) (Ann.snd (Ann.snd spec_l4Flat_an)) (⟨mkE 21 0 [(0, .dat (.int .i64) x229), (3, .dat (.int .i64) 0)], []⟩ : St) (spec_l4Flat_n8 (spec_l4Flat_fuel n) (spec_l4Rows_fuel n) x229) (fun (t : Int) => (Exit.ret, (⟨mkE 21 0 [(2, .dat (.int .i64) t)], []⟩ : St))) := by
  unfold spec_l4Flat_n8
  exact Link.cast (by kernel_rfl) (by kernel_rfl) (link_seq (b := (Code.snd (Code.snd (Code.snd (bodyOf Tryd.f25))))) (y := (Ann.snd (Ann.snd (Ann.snd spec_l4Flat_an)))) (spec_l4Flat_n6_l n x229) (fun (t : Int) => (spec_l4Flat_n7_l n t)))

theorem spec_l4Flat_n9_l (n : Nat) (x229 : Int) : Link (spec_l4Flat_ctx n) LL (bodyOf Tryd.f25) spec_l4Flat_an (⟨mkE 21 0 [(0, .dat (.int .i64) x229)], []⟩ : St) (spec_l4Flat_n9 (spec_l4Flat_fuel n) (spec_l4Rows_fuel n) x229) (fun (t : Int) => (Exit.ret, (⟨mkE 21 0 [(2, .dat (.int .i64) t)], []⟩ : St))) := by
  unfold spec_l4Flat_n9
  exact Link.cast (by kernel_rfl) (by kernel_rfl) (link_group (c := (Code.fst (Code.snd (bodyOf Tryd.f25)))) (a := (Ann.fst (Ann.snd spec_l4Flat_an))) [(Code.fst (bodyOf Tryd.f25))] [(Ann.fst spec_l4Flat_an)] rfl (link_seq (b := (Code.snd (Code.snd (bodyOf Tryd.f25)))) (y := (Ann.snd (Ann.snd spec_l4Flat_an))) (spec_l4Flat_n1_l n x229) (fun (t : Unit) => (spec_l4Flat_n8_l n x229))))

theorem spec_l4Flat_e (n : Nat) (x229 : Int) {r : AV} {H' : Heap} (h : (Ans.mk _ (spec_l4Flat_fuel (n + 1) x229) (fun (t : Int) => (.dat (.int .i64) t, []))).run = some (r, H')) : Awp (spec_l4Flat_ctx n) LL (bodyOf Tryd.f25) spec_l4Flat_an (⟨mkE 21 0 [(0, .dat (.int .i64) x229)], []⟩ : St) (Ret (tlook tys) Tryd.f25.results.toList r H') :=
  ret_of' (spec_l4Flat_n9_l n x229) (by (show _ = _); kernel_rfl) (by
  intro t
  exact ret_mk [.dat (.int .i64) t] (by kernel_rfl) (by kernel_rfl) (by kernel_rfl) (by kernel_rfl)) h

theorem spec_l4Rows_n1_l (n : Nat) (x277 : Int) : Link (spec_l4Rows_ctx n) LL (Code.seq (Code.fst (bodyOf Tryd.f41)) (Code.seq (Code.fst (Code.snd (bodyOf Tryd.f41))) (Code.fst (Code.snd (Code.snd (bodyOf Tryd.f41)))))) (Ann.seq (Ann.fst spec_l4Rows_an) (Ann.seq (Ann.fst (Ann.snd spec_l4Rows_an)) (Ann.fst (Ann.snd (Ann.snd spec_l4Rows_an))))) (⟨mkE 22 0 [(0, .dat (.int .i64) x277)], []⟩ : St) (spec_l4Rows_n1 (spec_l4Flat_fuel n) (spec_l4Rows_fuel n) x277) (Sum.elim (fun (t : Unit) => (Exit.normal, (⟨mkE 22 0 [(0, .dat (.int .i64) x277), (3, .dat (.int .i64) 0)], []⟩ : St))) (fun (t : Int) => (Exit.ret, (⟨mkE 22 0 [(2, .dat (.int .i64) t)], []⟩ : St)))) := by
  refine Link.of fun K h => ?_
  simp only [spec_l4Rows_n1, wpO_bind, wpO_cond, wpO_map, wpO_some] at h
  exact Awp.of (by kernel_rfl) h

theorem spec_l4Rows_n2_l (n : Nat) (x277 : Int) : Link (spec_l4Rows_ctx n) LL (Code.fst (Code.fst (Code.snd (Code.snd (Code.snd (bodyOf Tryd.f41)))))) (Ann.fst (Ann.fst (Ann.snd (Ann.snd (Ann.snd spec_l4Rows_an))))) (⟨mkE 22 0 [(0, .dat (.int .i64) x277), (3, .dat (.int .i64) 0)], []⟩ : St) (spec_l4Rows_n2 (spec_l4Flat_fuel n) (spec_l4Rows_fuel n)) (fun (t : Unit) => (Exit.normal, (⟨mkE 22 0 [(0, .dat (.int .i64) x277), (3, .dat (.int .i64) 0), (4, .dat (.int .i64) 1)], []⟩ : St))) := by
  refine Link.of fun K h => ?_
  simp only [spec_l4Rows_n2, wpO_bind, wpO_cond, wpO_map, wpO_some] at h
  exact Awp.of (by kernel_rfl) h

theorem spec_l4Rows_n3_l (n : Nat) (x277 : Int) (x301 : Int) (x302 : Int) : Link (spec_l4Rows_ctx n) LL (Code.fst (Code.fst (Code.snd (Code.fst (Code.snd (Code.snd (Code.snd (bodyOf Tryd.f41)))))))) (Ann.fst (Ann.fst (Ann.snd (Ann.fst (Ann.snd (Ann.snd (Ann.snd spec_l4Rows_an))))))) (⟨mkE 22 0 [(0, .dat (.int .i64) x277), (3, .dat (.int .i64) x301), (4, .dat (.int .i64) x302)], []⟩ : St) (spec_l4Rows_n3 (spec_l4Flat_fuel n) (spec_l4Rows_fuel n) x277 x301 x302) (Sum.elim (fun (t : Int × Int) => (Exit.normal, (⟨mkE 22 0 [(0, .dat (.int .i64) x277), (3, .dat (.int .i64) t.1), (4, .dat (.int .i64) t.2)], []⟩ : St))) (fun (t : Int) => ((Exit.exit 0), (⟨mkE 22 0 [(3, .dat (.int .i64) t)], []⟩ : St)))) := by
  refine Link.of fun K h => ?_
  simp only [spec_l4Rows_n3, wpO_bind, wpO_cond, wpO_map, wpO_some] at h
  exact Awp.of (by kernel_rfl) h

theorem spec_l4Rows_n4_l (n : Nat) (x277 : Int) : Link (spec_l4Rows_ctx n) LL (Code.fst (Code.snd (Code.fst (Code.snd (Code.snd (Code.snd (bodyOf Tryd.f41))))))) (Ann.fst (Ann.snd (Ann.fst (Ann.snd (Ann.snd (Ann.snd spec_l4Rows_an)))))) (⟨mkE 22 0 [(0, .dat (.int .i64) x277), (3, .dat (.int .i64) 0), (4, .dat (.int .i64) 1)], []⟩ : St) (spec_l4Rows_n4 (spec_l4Flat_fuel n) (spec_l4Rows_fuel n) x277) (fun (t : Int) => ((Exit.exit 0), (⟨mkE 22 0 [(3, .dat (.int .i64) t)], []⟩ : St))) := by
  unfold spec_l4Rows_n4
  exact Link.cast (by kernel_rfl) (by kernel_rfl) (link_loop (mk := fun (s : Int × Int) => (⟨mkE 22 0 [(0, .dat (.int .i64) x277), (3, .dat (.int .i64) s.1), (4, .dat (.int .i64) s.2)], []⟩ : St)) (fin := (fun (t : Int) => ((Exit.exit 0), (⟨mkE 22 0 [(3, .dat (.int .i64) t)], []⟩ : St)))) (by
  rintro t f K h
  · exact h) (fun s => link_map (spec_l4Rows_n3_l n x277 s.1 s.2) (Sum.elim (fun (t : Int × Int) => Sum.inl (t.1, t.2)) (fun (t : Int) => Sum.inr t)) (by
  rintro (t | t)
  · kernel_rfl
  · kernel_rfl)) (0, 1))

theorem spec_l4Rows_n5_l (n : Nat) (x277 : Int) : Link (spec_l4Rows_ctx n) LL (Code.snd (Code.fst (Code.snd (Code.snd (Code.snd (bodyOf Tryd.f41)))))) (Ann.snd (Ann.fst (Ann.snd (Ann.snd (Ann.snd spec_l4Rows_an))))) (⟨mkE 22 0 [(0, .dat (.int .i64) x277), (3, .dat (.int .i64) 0), (4, .dat (.int .i64) 1)], []⟩ : St) (spec_l4Rows_n5 (spec_l4Flat_fuel n) (spec_l4Rows_fuel n) x277) (fun (t : Int) => (Exit.normal, (⟨mkE 22 0 [(3, .dat (.int .i64) t)], []⟩ : St))) := by
  unfold spec_l4Rows_n5
  exact Link.cast (by kernel_rfl) (by kernel_rfl) (link_block (id := 0) (spec_l4Rows_n4_l n x277) (fun (t : Int) => t) (by
  rintro t K h
  · exact Eq.mp (by kernel_rfl) h))

theorem spec_l4Rows_n6_l (n : Nat) (x277 : Int) : Link (spec_l4Rows_ctx n) LL (Code.fst (Code.snd (Code.snd (Code.snd (bodyOf Tryd.f41))))) (Ann.fst (Ann.snd (Ann.snd (Ann.snd spec_l4Rows_an)))) (⟨mkE 22 0 [(0, .dat (.int .i64) x277), (3, .dat (.int .i64) 0)], []⟩ : St) (spec_l4Rows_n6 (spec_l4Flat_fuel n) (spec_l4Rows_fuel n) x277) (fun (t : Int) => (Exit.normal, (⟨mkE 22 0 [(3, .dat (.int .i64) t)], []⟩ : St))) := by
  unfold spec_l4Rows_n6
  exact Link.cast (by kernel_rfl) (by kernel_rfl) (link_seq (b := (Code.snd (Code.fst (Code.snd (Code.snd (Code.snd (bodyOf Tryd.f41))))))) (y := (Ann.snd (Ann.fst (Ann.snd (Ann.snd (Ann.snd spec_l4Rows_an)))))) (spec_l4Rows_n2_l n x277) (fun (t : Unit) => (spec_l4Rows_n5_l n x277)))

theorem spec_l4Rows_n7_l (n : Nat) (x301 : Int) : Link (spec_l4Rows_ctx n) LL (Code.snd (Code.snd (Code.snd (Code.snd (bodyOf Tryd.f41))))) (Ann.snd (Ann.snd (Ann.snd (Ann.snd spec_l4Rows_an)))) (⟨mkE 22 0 [(3, .dat (.int .i64) x301)], []⟩ : St) (spec_l4Rows_n7 (spec_l4Flat_fuel n) (spec_l4Rows_fuel n) x301) (fun (t : Int) => (Exit.ret, (⟨mkE 22 0 [(2, .dat (.int .i64) t)], []⟩ : St))) := by
  refine Link.of fun K h => ?_
  simp only [spec_l4Rows_n7, wpO_bind, wpO_cond, wpO_map, wpO_some] at h
  exact Awp.of (by kernel_rfl) h

theorem spec_l4Rows_n8_l (n : Nat) (x277 : Int) : Link (spec_l4Rows_ctx n) LL (Code.snd (Code.snd (Code.snd (bodyOf Tryd.f41)))) (Ann.snd (Ann.snd (Ann.snd spec_l4Rows_an))) (⟨mkE 22 0 [(0, .dat (.int .i64) x277), (3, .dat (.int .i64) 0)], []⟩ : St) (spec_l4Rows_n8 (spec_l4Flat_fuel n) (spec_l4Rows_fuel n) x277) (fun (t : Int) => (Exit.ret, (⟨mkE 22 0 [(2, .dat (.int .i64) t)], []⟩ : St))) := by
  unfold spec_l4Rows_n8
  exact Link.cast (by kernel_rfl) (by kernel_rfl) (link_seq (b := (Code.snd (Code.snd (Code.snd (Code.snd (bodyOf Tryd.f41)))))) (y := (Ann.snd (Ann.snd (Ann.snd (Ann.snd spec_l4Rows_an))))) (spec_l4Rows_n6_l n x277) (fun (t : Int) => (spec_l4Rows_n7_l n t)))

theorem spec_l4Rows_n9_l (n : Nat) (x277 : Int) : Link (spec_l4Rows_ctx n) LL (bodyOf Tryd.f41) spec_l4Rows_an (⟨mkE 22 0 [(0, .dat (.int .i64) x277)], []⟩ : St) (spec_l4Rows_n9 (spec_l4Flat_fuel n) (spec_l4Rows_fuel n) x277) (fun (t : Int) => (Exit.ret, (⟨mkE 22 0 [(2, .dat (.int .i64) t)], []⟩ : St))) := by
  unfold spec_l4Rows_n9
  exact Link.cast (by kernel_rfl) (by kernel_rfl) (link_group (c := (Code.fst (Code.snd (Code.snd (bodyOf Tryd.f41))))) (a := (Ann.fst (Ann.snd (Ann.snd spec_l4Rows_an)))) [(Code.fst (bodyOf Tryd.f41)), (Code.fst (Code.snd (bodyOf Tryd.f41)))] [(Ann.fst spec_l4Rows_an), (Ann.fst (Ann.snd spec_l4Rows_an))] rfl (link_seq2 (b := (Code.snd (Code.snd (Code.snd (bodyOf Tryd.f41))))) (y := (Ann.snd (Ann.snd (Ann.snd spec_l4Rows_an)))) (spec_l4Rows_n1_l n x277) (fun (t : Unit) => (spec_l4Rows_n8_l n x277)) (fun (t : Int) => t) (by
  rintro t
  · kernel_rfl) (by
  rintro t f K h
  · exact h)))

theorem spec_l4Rows_e (n : Nat) (x277 : Int) {r : AV} {H' : Heap} (h : (Ans.mk _ (spec_l4Rows_fuel (n + 1) x277) (fun (t : Int) => (.dat (.int .i64) t, []))).run = some (r, H')) : Awp (spec_l4Rows_ctx n) LL (bodyOf Tryd.f41) spec_l4Rows_an (⟨mkE 22 0 [(0, .dat (.int .i64) x277)], []⟩ : St) (Ret (tlook tys) Tryd.f41.results.toList r H') :=
  ret_of' (spec_l4Rows_n9_l n x277) (by (show _ = _); kernel_rfl) (by
  intro t
  exact ret_mk [.dat (.int .i64) t] (by kernel_rfl) (by kernel_rfl) (by kernel_rfl) (by kernel_rfl)) h

theorem spec_l4Flat_step (n : Nat) (h25 : Sound Tryd.prog 25 (F_spec_l4Flat_fuel n)) (h41 : Sound Tryd.prog 41 (F_spec_l4Rows_fuel n)) : Sound Tryd.prog 25 (F_spec_l4Flat_fuel (n + 1)) := by
  refine fn_sound' (C := spec_l4Flat_ctx n) (c := bodyOf Tryd.f25) (cok_of tys_ok (List.forall_mem_cons.2 ⟨h41, by simp⟩) (List.forall_mem_cons.2 ⟨Tryd.call41, by simp⟩) (by kernel_rfl)) Tryd.func25 (by kernel_rfl) LL spec_l4Flat_an ?_
  intro avs H r H' h
  unfold F_spec_l4Flat_fuel at h
  split at h
  · refine Awp.cast ?_ ?_ ?_ (spec_l4Flat_e n _ h) <;> kernel_rfl
  · simp [Ans.no, Ans.run] at h

theorem spec_l4Flat_null : Sound Tryd.prog 25 (F_spec_l4Flat_fuel 0) := by
  intro avs H r H' h
  unfold F_spec_l4Flat_fuel at h
  split at h
  · simp [spec_l4Flat_fuel, spec_l4Flat_knot, Ans.run] at h
  · simp [Ans.no, Ans.run] at h

theorem spec_l4Rows_step (n : Nat) (h25 : Sound Tryd.prog 25 (F_spec_l4Flat_fuel n)) (h41 : Sound Tryd.prog 41 (F_spec_l4Rows_fuel n)) : Sound Tryd.prog 41 (F_spec_l4Rows_fuel (n + 1)) := by
  refine fn_sound' (C := spec_l4Rows_ctx n) (c := bodyOf Tryd.f41) (cok_of tys_ok (List.forall_mem_cons.2 ⟨h25, List.forall_mem_cons.2 ⟨h41, by simp⟩⟩) (List.forall_mem_cons.2 ⟨Tryd.call25, List.forall_mem_cons.2 ⟨Tryd.call41, by simp⟩⟩) (by kernel_rfl)) Tryd.func41 (by kernel_rfl) LL spec_l4Rows_an ?_
  intro avs H r H' h
  unfold F_spec_l4Rows_fuel at h
  split at h
  · refine Awp.cast ?_ ?_ ?_ (spec_l4Rows_e n _ h) <;> kernel_rfl
  · simp [Ans.no, Ans.run] at h

theorem spec_l4Rows_null : Sound Tryd.prog 41 (F_spec_l4Rows_fuel 0) := by
  intro avs H r H' h
  unfold F_spec_l4Rows_fuel at h
  split at h
  · simp [spec_l4Rows_fuel, spec_l4Flat_knot, Ans.run] at h
  · simp [Ans.no, Ans.run] at h

theorem spec_l4Flat_knot_all : ∀ n, Sound Tryd.prog 25 (F_spec_l4Flat_fuel n) ∧ Sound Tryd.prog 41 (F_spec_l4Rows_fuel n)
  | 0 => ⟨spec_l4Flat_null, spec_l4Rows_null⟩
  | n + 1 => by
    obtain ⟨h25, h41⟩ := spec_l4Flat_knot_all n
    exact ⟨spec_l4Flat_step n h25 h41, spec_l4Rows_step n h25 h41⟩

def F_spec_l4Flat : Fun := fun avs H =>
  match avs, H with
  | [.dat (.int .i64) x229], [] => ⟨_, spec_l4Flat x229, fun (t : Int) => (.dat (.int .i64) t, [])⟩
  | _, _ => Ans.no

theorem spec_l4Flat_sound : Sound Tryd.prog 25 F_spec_l4Flat := by
  have e : F_spec_l4Flat = F_spec_l4Flat_fuel RR := by
    funext avs H
    unfold F_spec_l4Flat F_spec_l4Flat_fuel
    split <;> first | rfl | (simp only [spec_l4Flat])
  rw [e]
  exact (spec_l4Flat_knot_all RR).1

def F_spec_l4Rows : Fun := fun avs H =>
  match avs, H with
  | [.dat (.int .i64) x277], [] => ⟨_, spec_l4Rows x277, fun (t : Int) => (.dat (.int .i64) t, [])⟩
  | _, _ => Ans.no

theorem spec_l4Rows_sound : Sound Tryd.prog 41 F_spec_l4Rows := by
  have e : F_spec_l4Rows = F_spec_l4Rows_fuel RR := by
    funext avs H
    unfold F_spec_l4Rows F_spec_l4Rows_fuel
    split <;> first | rfl | (simp only [spec_l4Rows])
  rw [e]
  exact (spec_l4Flat_knot_all RR).2

/-! loop.example/headtrees/spec.CountFlat -/

def spec_CountFlat_an : Ann := (.seq (.leaf [0]) (.seq (.seq (.leaf [0, 5]) (.cond (.seq (.leaf [2]) (.leaf [2])) (.leaf [0]))) (.seq (.leaf [2]) (.leaf [2]))))

noncomputable def spec_CountFlat_ctx : Ctx := ⟨tlook tys, olook [(24, F_spec_l1In), (25, F_spec_l4Flat)], ioF, 0⟩

theorem spec_CountFlat_n1_l (x214 : Int) : Link spec_CountFlat_ctx LL (bodyOf Tryd.f21) spec_CountFlat_an (⟨mkE 8 0 [(0, .dat (.int .i64) x214)], []⟩ : St) (spec_CountFlat_n1 x214) (fun (t : Int) => (Exit.ret, (⟨mkE 8 0 [(2, .dat (.int .i64) t)], []⟩ : St))) := by
  refine Link.of fun K h => ?_
  simp only [spec_CountFlat_n1, wpO_bind, wpO_cond, wpO_map, wpO_some] at h
  exact Awp.of (by kernel_rfl) h

theorem spec_CountFlat_e (x214 : Int) {r : AV} {H' : Heap} (h : (Ans.mk _ (spec_CountFlat x214) (fun (t : Int) => (.dat (.int .i64) t, []))).run = some (r, H')) : Awp spec_CountFlat_ctx LL (bodyOf Tryd.f21) spec_CountFlat_an (⟨mkE 8 0 [(0, .dat (.int .i64) x214)], []⟩ : St) (Ret (tlook tys) Tryd.f21.results.toList r H') :=
  ret_of' (spec_CountFlat_n1_l x214) (by unfold spec_CountFlat; kernel_rfl) (by
  intro t
  exact ret_mk [.dat (.int .i64) t] (by kernel_rfl) (by kernel_rfl) (by kernel_rfl) (by kernel_rfl)) h

def F_spec_CountFlat : Fun := fun avs H =>
  match avs, H with
  | [.dat (.int .i64) x214], [] => ⟨_, spec_CountFlat x214, fun (t : Int) => (.dat (.int .i64) t, [])⟩
  | _, _ => Ans.no

theorem spec_CountFlat_sound : Sound Tryd.prog 21 F_spec_CountFlat := by
  refine fn_sound' (C := spec_CountFlat_ctx) (c := bodyOf Tryd.f21) (cok_of tys_ok (List.forall_mem_cons.2 ⟨spec_l1In_sound, List.forall_mem_cons.2 ⟨spec_l4Flat_sound, by simp⟩⟩) (List.forall_mem_cons.2 ⟨Tryd.call24, List.forall_mem_cons.2 ⟨Tryd.call25, by simp⟩⟩) (by kernel_rfl)) Tryd.func21 (by kernel_rfl) LL spec_CountFlat_an ?_
  intro avs H r H' h
  unfold F_spec_CountFlat at h
  split at h
  · refine Awp.cast ?_ ?_ ?_ (spec_CountFlat_e _ h) <;> kernel_rfl
  · simp [Ans.no, Ans.run] at h

/-! loop.example/headtrees/spec.DrawFlatAt -/

def spec_DrawFlatAt_an : Ann := (.seq (.leaf [0]) (.seq (.leaf [4]) (.seq (.leaf [4, 5]) (.seq (.leaf [2, 3]) (.leaf [2, 3])))))

noncomputable def spec_DrawFlatAt_ctx : Ctx := ⟨tlook tys, olook [(19, F_spec_l20Open), (20, F_spec_l20Rd_pick), (21, F_spec_CountFlat)], ioF, 0⟩

theorem spec_DrawFlatAt_n1_l (x10 : List Int) : Link spec_DrawFlatAt_ctx LL (bodyOf Tryd.f6) spec_DrawFlatAt_an (⟨mkE 32 0 [(0, .dat (.list (.int .u8)) x10)], []⟩ : St) (spec_DrawFlatAt_n1 x10) (fun (t : Int × Int) => (Exit.ret, (⟨mkE 32 0 [(2, .dat (.int .i64) t.1), (3, .dat (.int .i64) t.2)], []⟩ : St))) := by
  refine Link.of fun K h => ?_
  simp only [spec_DrawFlatAt_n1, wpO_bind, wpO_cond, wpO_map, wpO_some] at h
  exact Awp.of (by kernel_rfl) h

theorem spec_DrawFlatAt_e (x10 : List Int) {r : AV} {H' : Heap} (h : (Ans.mk _ (spec_DrawFlatAt x10) (fun (t : Int × Int) => (.tup [.dat (.int .i64) t.1, .dat (.int .i64) t.2], []))).run = some (r, H')) : Awp spec_DrawFlatAt_ctx LL (bodyOf Tryd.f6) spec_DrawFlatAt_an (⟨mkE 32 0 [(0, .dat (.list (.int .u8)) x10)], []⟩ : St) (Ret (tlook tys) Tryd.f6.results.toList r H') :=
  ret_of' (spec_DrawFlatAt_n1_l x10) (by unfold spec_DrawFlatAt; kernel_rfl) (by
  intro t
  exact ret_mk [.dat (.int .i64) t.1, .dat (.int .i64) t.2] (by kernel_rfl) (by kernel_rfl) (by kernel_rfl) (by kernel_rfl)) h

def F_spec_DrawFlatAt : Fun := fun avs H =>
  match avs, H with
  | [.dat (.list (.int .u8)) x10], [] => ⟨_, spec_DrawFlatAt x10, fun (t : Int × Int) => (.tup [.dat (.int .i64) t.1, .dat (.int .i64) t.2], [])⟩
  | _, _ => Ans.no

theorem spec_DrawFlatAt_sound : Sound Tryd.prog 6 F_spec_DrawFlatAt := by
  refine fn_sound' (C := spec_DrawFlatAt_ctx) (c := bodyOf Tryd.f6) (cok_of tys_ok (List.forall_mem_cons.2 ⟨spec_l20Open_sound, List.forall_mem_cons.2 ⟨spec_l20Rd_pick_sound, List.forall_mem_cons.2 ⟨spec_CountFlat_sound, by simp⟩⟩⟩) (List.forall_mem_cons.2 ⟨Tryd.call19, List.forall_mem_cons.2 ⟨Tryd.call20, List.forall_mem_cons.2 ⟨Tryd.call21, by simp⟩⟩⟩) (by kernel_rfl)) Tryd.func6 (by kernel_rfl) LL spec_DrawFlatAt_an ?_
  intro avs H r H' h
  unfold F_spec_DrawFlatAt at h
  split at h
  · refine Awp.cast ?_ ?_ ?_ (spec_DrawFlatAt_e _ h) <;> kernel_rfl
  · simp [Ans.no, Ans.run] at h

/-! (loop.example/headtrees/impl.flatCounts).aroundRoots -/

def impl_flatCounts_aroundRoots_an : Ann := (.seq (.leaf [1, 2]) (.seq (.leaf [2]) (.leaf [2])))

noncomputable def impl_flatCounts_aroundRoots_ctx : Ctx := ⟨tlook tys, olook [], ioF, 0⟩

theorem impl_flatCounts_aroundRoots_n1_l (x431 : Int) (x432 : Int) (x433 : Int) (x434 : Int) (x435 : Int) (x436 : Int) (x437 : Int) (x438 : Int) (x439 : Int) (x440 : Int) (x441 : Int) (x442 : Int) (x443 : Int) (x444 : Int) : Link impl_flatCounts_aroundRoots_ctx LL (bodyOf Tryd.f36) impl_flatCounts_aroundRoots_an (⟨mkE 8 0 [(0, .agg [.dat (.int .i64) x431, .dat (.int .i64) x432, .dat (.int .i64) x433, .dat (.int .i64) x434, .dat (.int .i64) x435, .dat (.int .i64) x436, .dat (.int .i64) x437, .dat (.int .i64) x438, .dat (.int .i64) x439, .dat (.int .i64) x440, .dat (.int .i64) x441, .dat (.int .i64) x442, .dat (.int .i64) x443, .dat (.int .i64) x444])], []⟩ : St) (impl_flatCounts_aroundRoots_n1) (fun (t : Unit) => (Exit.ret, (⟨mkE 8 0 [(2, .ptr 0 0)], [some (.box [.dat (.int .i64) x438, .dat (.int .i64) x439, .dat (.int .i64) x440, .dat (.int .i64) x441, .dat (.int .i64) x442, .dat (.int .i64) x443, .dat (.int .i64) x444, .dat (.int .i64) x438, .dat (.int .i64) x439, .dat (.int .i64) x440, .dat (.int .i64) x441, .dat (.int .i64) x442, .dat (.int .i64) x443, .dat (.int .i64) x444])]⟩ : St))) := by
  refine Link.of fun K h => ?_
  simp only [impl_flatCounts_aroundRoots_n1, wpO_bind, wpO_cond, wpO_map, wpO_some] at h
  exact Awp.of (by kernel_rfl) h

theorem impl_flatCounts_aroundRoots_e (x431 : Int) (x432 : Int) (x433 : Int) (x434 : Int) (x435 : Int) (x436 : Int) (x437 : Int) (x438 : Int) (x439 : Int) (x440 : Int) (x441 : Int) (x442 : Int) (x443 : Int) (x444 : Int) {r : AV} {H' : Heap} (h : (Ans.mk _ (impl_flatCounts_aroundRoots x431 x432 x433 x434 x435 x436 x437 x438 x439 x440 x441 x442 x443 x444) (fun (t : Unit) => (.agg [.dat (.int .i64) x438, .dat (.int .i64) x439, .dat (.int .i64) x440, .dat (.int .i64) x441, .dat (.int .i64) x442, .dat (.int .i64) x443, .dat (.int .i64) x444, .dat (.int .i64) x438, .dat (.int .i64) x439, .dat (.int .i64) x440, .dat (.int .i64) x441, .dat (.int .i64) x442, .dat (.int .i64) x443, .dat (.int .i64) x444], [some (.box [.dat (.int .i64) x438, .dat (.int .i64) x439, .dat (.int .i64) x440, .dat (.int .i64) x441, .dat (.int .i64) x442, .dat (.int .i64) x443, .dat (.int .i64) x444, .dat (.int .i64) x438, .dat (.int .i64) x439, .dat (.int .i64) x440, .dat (.int .i64) x441, .dat (.int .i64) x442, .dat (.int .i64) x443, .dat (.int .i64) x444])]))).run = some (r, H')) : Awp impl_flatCounts_aroundRoots_ctx LL (bodyOf Tryd.f36) impl_flatCounts_aroundRoots_an (⟨mkE 8 0 [(0, .agg [.dat (.int .i64) x431, .dat (.int .i64) x432, .dat (.int .i64) x433, .dat (.int .i64) x434, .dat (.int .i64) x435, .dat (.int .i64) x436, .dat (.int .i64) x437, .dat (.int .i64) x438, .dat (.int .i64) x439, .dat (.int .i64) x440, .dat (.int .i64) x441, .dat (.int .i64) x442, .dat (.int .i64) x443, .dat (.int .i64) x444])], []⟩ : St) (Ret (tlook tys) Tryd.f36.results.toList r H') :=
  ret_of' (impl_flatCounts_aroundRoots_n1_l x431 x432 x433 x434 x435 x436 x437 x438 x439 x440 x441 x442 x443 x444) (by unfold impl_flatCounts_aroundRoots; kernel_rfl) (by
  intro t
  exact ret_mk [.agg [.dat (.int .i64) x438, .dat (.int .i64) x439, .dat (.int .i64) x440, .dat (.int .i64) x441, .dat (.int .i64) x442, .dat (.int .i64) x443, .dat (.int .i64) x444, .dat (.int .i64) x438, .dat (.int .i64) x439, .dat (.int .i64) x440, .dat (.int .i64) x441, .dat (.int .i64) x442, .dat (.int .i64) x443, .dat (.int .i64) x444]] (by kernel_rfl) (by kernel_rfl) (by kernel_rfl) (by kernel_rfl)) h

def F_impl_flatCounts_aroundRoots : Fun := fun avs H =>
  match avs, H with
  | [.agg [.dat (.int .i64) x431, .dat (.int .i64) x432, .dat (.int .i64) x433, .dat (.int .i64) x434, .dat (.int .i64) x435, .dat (.int .i64) x436, .dat (.int .i64) x437, .dat (.int .i64) x438, .dat (.int .i64) x439, .dat (.int .i64) x440, .dat (.int .i64) x441, .dat (.int .i64) x442, .dat (.int .i64) x443, .dat (.int .i64) x444]], [] => ⟨_, impl_flatCounts_aroundRoots x431 x432 x433 x434 x435 x436 x437 x438 x439 x440 x441 x442 x443 x444, fun (t : Unit) => (.agg [.dat (.int .i64) x438, .dat (.int .i64) x439, .dat (.int .i64) x440, .dat (.int .i64) x441, .dat (.int .i64) x442, .dat (.int .i64) x443, .dat (.int .i64) x444, .dat (.int .i64) x438, .dat (.int .i64) x439, .dat (.int .i64) x440, .dat (.int .i64) x441, .dat (.int .i64) x442, .dat (.int .i64) x443, .dat (.int .i64) x444], [some (.box [.dat (.int .i64) x438, .dat (.int .i64) x439, .dat (.int .i64) x440, .dat (.int .i64) x441, .dat (.int .i64) x442, .dat (.int .i64) x443, .dat (.int .i64) x444, .dat (.int .i64) x438, .dat (.int .i64) x439, .dat (.int .i64) x440, .dat (.int .i64) x441, .dat (.int .i64) x442, .dat (.int .i64) x443, .dat (.int .i64) x444])])⟩
  | _, _ => Ans.no

theorem impl_flatCounts_aroundRoots_sound : Sound Tryd.prog 36 F_impl_flatCounts_aroundRoots := by
  refine fn_sound' (C := impl_flatCounts_aroundRoots_ctx) (c := bodyOf Tryd.f36) (cok_of tys_ok (by simp) (by simp) (by kernel_rfl)) Tryd.func36 (by kernel_rfl) LL impl_flatCounts_aroundRoots_an ?_
  intro avs H r H' h
  unfold F_impl_flatCounts_aroundRoots at h
  split at h
  · refine Awp.cast ?_ ?_ ?_ (impl_flatCounts_aroundRoots_e _ _ _ _ _ _ _ _ _ _ _ _ _ _ h) <;> kernel_rfl
  · simp [Ans.no, Ans.run] at h

/-! (loop.example/headtrees/impl.joins).below -/

def impl_joins_below_an : Ann := (.seq (.leaf [1, 2, 3]) (.seq (.leaf [1, 2, 3, 7]) (.seq (.seq (.leaf [1, 3, 7, 9, 10]) (.block (.loop (.seq (.leaf [1, 3, 7, 9, 10, 11]) (.seq (.cond (.leaf [1, 3, 7, 9, 10]) (.leaf [7])) (.seq (.block (.seq (.leaf [1, 3, 7, 8, 9, 10]) (.draw [] [0, 1, 2, 3, 4, 5, 6, 7, 8, 9, 10, 11, 12, 13] [] [1, 3, 7, 9, 10]))) (.leaf [1, 3, 7, 9, 10]))))))) (.seq (.leaf [6]) (.leaf [6])))))

noncomputable def impl_joins_below_ctx : Ctx := ⟨tlook tys, olook [], ioF, 0⟩

theorem impl_joins_below_n1_l (x463 : Int) (x464 : Int) (x465 : Int) (x466 : Int) (x467 : Int) (x468 : Int) (x469 : Int) (x470 : Int) (x471 : Int) (x472 : Int) (x473 : Int) (x474 : Int) (x475 : Int) (x476 : Int) (x477 : Int) (x478 : Int) : Link impl_joins_below_ctx LL (Code.seq (Code.fst (bodyOf Tryd.f57)) (Code.fst (Code.snd (bodyOf Tryd.f57)))) (Ann.seq (Ann.fst impl_joins_below_an) (Ann.fst (Ann.snd impl_joins_below_an))) (⟨mkE 28 0 [(0, .agg [.dat (.int .i64) x463, .dat (.int .i64) x464, .dat (.int .i64) x465, .dat (.int .i64) x466, .dat (.int .i64) x467, .dat (.int .i64) x468, .dat (.int .i64) x469, .dat (.int .i64) x470, .dat (.int .i64) x471, .dat (.int .i64) x472, .dat (.int .i64) x473, .dat (.int .i64) x474, .dat (.int .i64) x475, .dat (.int .i64) x476]), (1, .dat (.int .i64) x477), (2, .dat (.int .i64) x478)], []⟩ : St) (impl_joins_below_n1) (fun (t : Unit) => (Exit.normal, (⟨mkE 28 0 [(1, .dat (.int .i64) x477), (2, .dat (.int .i64) x478), (3, .ptr 0 0), (7, .dat (.int .i64) 0)], [some (.box [.dat (.int .i64) x463, .dat (.int .i64) x464, .dat (.int .i64) x465, .dat (.int .i64) x466, .dat (.int .i64) x467, .dat (.int .i64) x468, .dat (.int .i64) x469, .dat (.int .i64) x470, .dat (.int .i64) x471, .dat (.int .i64) x472, .dat (.int .i64) x473, .dat (.int .i64) x474, .dat (.int .i64) x475, .dat (.int .i64) x476])]⟩ : St))) := by
  refine Link.of fun K h => ?_
  simp only [impl_joins_below_n1, wpO_bind, wpO_cond, wpO_map, wpO_some] at h
  exact Awp.of (by kernel_rfl) h

theorem impl_joins_below_n2_l (x477 : Int) (x478 : Int) (x463 : Int) (x464 : Int) (x465 : Int) (x466 : Int) (x467 : Int) (x468 : Int) (x469 : Int) (x470 : Int) (x471 : Int) (x472 : Int) (x473 : Int) (x474 : Int) (x475 : Int) (x476 : Int) : Link impl_joins_below_ctx LL (Code.fst (Code.fst (Code.snd (Code.snd (bodyOf Tryd.f57))))) (Ann.fst (Ann.fst (Ann.snd (Ann.snd impl_joins_below_an)))) (⟨mkE 28 0 [(1, .dat (.int .i64) x477), (2, .dat (.int .i64) x478), (3, .ptr 0 0), (7, .dat (.int .i64) 0)], [some (.box [.dat (.int .i64) x463, .dat (.int .i64) x464, .dat (.int .i64) x465, .dat (.int .i64) x466, .dat (.int .i64) x467, .dat (.int .i64) x468, .dat (.int .i64) x469, .dat (.int .i64) x470, .dat (.int .i64) x471, .dat (.int .i64) x472, .dat (.int .i64) x473, .dat (.int .i64) x474, .dat (.int .i64) x475, .dat (.int .i64) x476])]⟩ : St) (impl_joins_below_n2) (fun (t : Unit) => (Exit.normal, (⟨mkE 28 0 [(1, .dat (.int .i64) x477), (3, .ptr 0 0), (7, .dat (.int .i64) 0), (9, .dat (.int .i64) x478), (10, .dat (.int .i64) 0)], [some (.box [.dat (.int .i64) x463, .dat (.int .i64) x464, .dat (.int .i64) x465, .dat (.int .i64) x466, .dat (.int .i64) x467, .dat (.int .i64) x468, .dat (.int .i64) x469, .dat (.int .i64) x470, .dat (.int .i64) x471, .dat (.int .i64) x472, .dat (.int .i64) x473, .dat (.int .i64) x474, .dat (.int .i64) x475, .dat (.int .i64) x476])]⟩ : St))) := by
  refine Link.of fun K h => ?_
  simp only [impl_joins_below_n2, wpO_bind, wpO_cond, wpO_map, wpO_some] at h
  exact Awp.of (by kernel_rfl) h

theorem impl_joins_below_n3_l (x477 : Int) (x498 : Int) (x478 : Int) (x499 : Int) (x463 : Int) (x464 : Int) (x465 : Int) (x466 : Int) (x467 : Int) (x468 : Int) (x469 : Int) (x470 : Int) (x471 : Int) (x472 : Int) (x473 : Int) (x474 : Int) (x475 : Int) (x476 : Int) : Link impl_joins_below_ctx LL (Code.fst (Code.fst (Code.snd (Code.fst (Code.snd (Code.snd (bodyOf Tryd.f57))))))) (Ann.fst (Ann.fst (Ann.snd (Ann.fst (Ann.snd (Ann.snd impl_joins_below_an)))))) (⟨mkE 28 0 [(1, .dat (.int .i64) x477), (3, .ptr 0 0), (7, .dat (.int .i64) x498), (9, .dat (.int .i64) x478), (10, .dat (.int .i64) x499)], [some (.box [.dat (.int .i64) x463, .dat (.int .i64) x464, .dat (.int .i64) x465, .dat (.int .i64) x466, .dat (.int .i64) x467, .dat (.int .i64) x468, .dat (.int .i64) x469, .dat (.int .i64) x470, .dat (.int .i64) x471, .dat (.int .i64) x472, .dat (.int .i64) x473, .dat (.int .i64) x474, .dat (.int .i64) x475, .dat (.int .i64) x476])]⟩ : St) (impl_joins_below_n3 x477 x498 x478 x499 x463 x464 x465 x466 x467 x468 x469 x470 x471 x472 x473 x474 x475 x476) (Sum.elim (fun (t : Int × Int) => (Exit.normal, (⟨mkE 28 0 [(1, .dat (.int .i64) x477), (3, .ptr 0 0), (7, .dat (.int .i64) t.1), (9, .dat (.int .i64) x478), (10, .dat (.int .i64) t.2)], [some (.box [.dat (.int .i64) x463, .dat (.int .i64) x464, .dat (.int .i64) x465, .dat (.int .i64) x466, .dat (.int .i64) x467, .dat (.int .i64) x468, .dat (.int .i64) x469, .dat (.int .i64) x470, .dat (.int .i64) x471, .dat (.int .i64) x472, .dat (.int .i64) x473, .dat (.int .i64) x474, .dat (.int .i64) x475, .dat (.int .i64) x476])]⟩ : St))) (fun (t : Int) => ((Exit.exit 0), (⟨mkE 28 0 [(7, .dat (.int .i64) t)], []⟩ : St)))) := by
  refine Link.of fun K h => ?_
  simp only [impl_joins_below_n3, wpO_bind, wpO_cond, wpO_map, wpO_some] at h
  exact Awp.of (by kernel_rfl) h

theorem impl_joins_below_n4_l (x477 : Int) (x478 : Int) (x463 : Int) (x464 : Int) (x465 : Int) (x466 : Int) (x467 : Int) (x468 : Int) (x469 : Int) (x470 : Int) (x471 : Int) (x472 : Int) (x473 : Int) (x474 : Int) (x475 : Int) (x476 : Int) : Link impl_joins_below_ctx LL (Code.fst (Code.snd (Code.fst (Code.snd (Code.snd (bodyOf Tryd.f57)))))) (Ann.fst (Ann.snd (Ann.fst (Ann.snd (Ann.snd impl_joins_below_an))))) (⟨mkE 28 0 [(1, .dat (.int .i64) x477), (3, .ptr 0 0), (7, .dat (.int .i64) 0), (9, .dat (.int .i64) x478), (10, .dat (.int .i64) 0)], [some (.box [.dat (.int .i64) x463, .dat (.int .i64) x464, .dat (.int .i64) x465, .dat (.int .i64) x466, .dat (.int .i64) x467, .dat (.int .i64) x468, .dat (.int .i64) x469, .dat (.int .i64) x470, .dat (.int .i64) x471, .dat (.int .i64) x472, .dat (.int .i64) x473, .dat (.int .i64) x474, .dat (.int .i64) x475, .dat (.int .i64) x476])]⟩ : St) (impl_joins_below_n4 x477 x478 x463 x464 x465 x466 x467 x468 x469 x470 x471 x472 x473 x474 x475 x476) (fun (t : Int) => ((Exit.exit 0), (⟨mkE 28 0 [(7, .dat (.int .i64) t)], []⟩ : St))) := by
  unfold impl_joins_below_n4
  exact Link.cast (by kernel_rfl) (by kernel_rfl) (link_loop (mk := fun (s : Int × Int) => (⟨mkE 28 0 [(1, .dat (.int .i64) x477), (3, .ptr 0 0), (7, .dat (.int .i64) s.1), (9, .dat (.int .i64) x478), (10, .dat (.int .i64) s.2)], [some (.box [.dat (.int .i64) x463, .dat (.int .i64) x464, .dat (.int .i64) x465, .dat (.int .i64) x466, .dat (.int .i64) x467, .dat (.int .i64) x468, .dat (.int .i64) x469, .dat (.int .i64) x470, .dat (.int .i64) x471, .dat (.int .i64) x472, .dat (.int .i64) x473, .dat (.int .i64) x474, .dat (.int .i64) x475, .dat (.int .i64) x476])]⟩ : St)) (fin := (fun (t : Int) => ((Exit.exit 0), (⟨mkE 28 0 [(7, .dat (.int .i64) t)], []⟩ : St)))) (by
  rintro t f K h
  · exact h) (fun s => link_map (impl_joins_below_n3_l x477 s.1 x478 s.2 x463 x464 x465 x466 x467 x468 x469 x470 x471 x472 x473 x474 x475 x476) (Sum.elim (fun (t : Int × Int) => Sum.inl (t.1, t.2)) (fun (t : Int) => Sum.inr t)) (by
  rintro (t | t)
  · kernel_rfl
  · kernel_rfl)) (0, 0))

theorem impl_joins_below_n5_l (x477 : Int) (x478 : Int) (x463 : Int) (x464 : Int) (x465 : Int) (x466 : Int) (x467 : Int) (x468 : Int) (x469 : Int) (x470 : Int) (x471 : Int) (x472 : Int) (x473 : Int) (x474 : Int) (x475 : Int) (x476 : Int) : Link impl_joins_below_ctx LL (Code.snd (Code.fst (Code.snd (Code.snd (bodyOf Tryd.f57))))) (Ann.snd (Ann.fst (Ann.snd (Ann.snd impl_joins_below_an)))) (⟨mkE 28 0 [(1, .dat (.int .i64) x477), (3, .ptr 0 0), (7, .dat (.int .i64) 0), (9, .dat (.int .i64) x478), (10, .dat (.int .i64) 0)], [some (.box [.dat (.int .i64) x463, .dat (.int .i64) x464, .dat (.int .i64) x465, .dat (.int .i64) x466, .dat (.int .i64) x467, .dat (.int .i64) x468, .dat (.int .i64) x469, .dat (.int .i64) x470, .dat (.int .i64) x471, .dat (.int .i64) x472, .dat (.int .i64) x473, .dat (.int .i64) x474, .dat (.int .i64) x475, .dat (.int .i64) x476])]⟩ : St) (impl_joins_below_n5 x477 x478 x463 x464 x465 x466 x467 x468 x469 x470 x471 x472 x473 x474 x475 x476) (fun (t : Int) => (Exit.normal, (⟨mkE 28 0 [(7, .dat (.int .i64) t)], []⟩ : St))) := by
  unfold impl_joins_below_n5
  exact Link.cast (by kernel_rfl) (by kernel_rfl) (link_block (id := 0) (impl_joins_below_n4_l x477 x478 x463 x464 x465 x466 x467 x468 x469 x470 x471 x472 x473 x474 x475 x476) (fun (t : Int) => t) (by
  rintro t K h
  · exact Eq.mp (by kernel_rfl) h))

theorem impl_joins_below_n6_l (x477 : Int) (x478 : Int) (x463 : Int) (x464 : Int) (x465 : Int) (x466 : Int) (x467 : Int) (x468 : Int) (x469 : Int) (x470 : Int) (x471 : Int) (x472 : Int) (x473 : Int) (x474 : Int) (x475 : Int) (x476 : Int) : Link impl_joins_below_ctx LL (Code.fst (Code.snd (Code.snd (bodyOf Tryd.f57)))) (Ann.fst (Ann.snd (Ann.snd impl_joins_below_an))) (⟨mkE 28 0 [(1, .dat (.int .i64) x477), (2, .dat (.int .i64) x478), (3, .ptr 0 0), (7, .dat (.int .i64) 0)], [some (.box [.dat (.int .i64) x463, .dat (.int .i64) x464, .dat (.int .i64) x465, .dat (.int .i64) x466, .dat (.int .i64) x467, .dat (.int .i64) x468, .dat (.int .i64) x469, .dat (.int .i64) x470, .dat (.int .i64) x471, .dat (.int .i64) x472, .dat (.int .i64) x473, .dat (.int .i64) x474, .dat (.int .i64) x475, .dat (.int .i64) x476])]⟩ : St) (impl_joins_below_n6 x477 x478 x463 x464 x465 x466 x467 x468 x469 x470 x471 x472 x473 x474 x475 x476) (fun (t : Int) => (Exit.normal, (⟨mkE 28 0 [(7, .dat (.int .i64) t)], []⟩ : St))) := by
  unfold impl_joins_below_n6
  exact Link.cast (by kernel_rfl) (by kernel_rfl) (link_seq (b := (Code.snd (Code.fst (Code.snd (Code.snd (bodyOf Tryd.f57)))))) (y := (Ann.snd (Ann.fst (Ann.snd (Ann.snd impl_joins_below_an))))) (impl_joins_below_n2_l x477 x478 x463 x464 x465 x466 x467 x468 x469 x470 x471 x472 x473 x474 x475 x476) (fun (t : Unit) => (impl_joins_below_n5_l x477 x478 x463 x464 x465 x466 x467 x468 x469 x470 x471 x472 x473 x474 x475 x476)))

theorem impl_joins_below_n7_l (x498 : Int) : Link impl_joins_below_ctx LL (Code.snd (Code.snd (Code.snd (bodyOf Tryd.f57)))) (Ann.snd (Ann.snd (Ann.snd impl_joins_below_an))) (⟨mkE 28 0 [(7, .dat (.int .i64) x498)], []⟩ : St) (impl_joins_below_n7 x498) (fun (t : Int) => (Exit.ret, (⟨mkE 28 0 [(6, .dat (.int .i64) t)], []⟩ : St))) := by
  refine Link.of fun K h => ?_
  simp only [impl_joins_below_n7, wpO_bind, wpO_cond, wpO_map, wpO_some] at h
  exact Awp.of (by kernel_rfl) h

theorem impl_joins_below_n8_l (x477 : Int) (x478 : Int) (x463 : Int) (x464 : Int) (x465 : Int) (x466 : Int) (x467 : Int) (x468 : Int) (x469 : Int) (x470 : Int) (x471 : Int) (x472 : Int) (x473 : Int) (x474 : Int) (x475 : Int) (x476 : Int) : Link impl_joins_below_ctx LL (Code.snd (Code.snd (bodyOf Tryd.f57))) (Ann.snd (Ann.snd impl_joins_below_an)) (⟨mkE 28 0 [(1, .dat (.int .i64) x477), (2, .dat (.int .i64) x478), (3, .ptr 0 0), (7, .dat (.int .i64) 0)], [some (.box [.dat (.int .i64) x463, .dat (.int .i64) x464, .dat (.int .i64) x465, .dat (.int .i64) x466, .dat (.int .i64) x467, .dat (.int .i64) x468, .dat (.int .i64) x469, .dat (.int .i64) x470, .dat (.int .i64) x471, .dat (.int .i64) x472, .dat (.int .i64) x473, .dat (.int .i64) x474, .dat (.int .i64) x475, .dat (.int .i64) x476])]⟩ : St) (impl_joins_below_n8 x477 x478 x463 x464 x465 x466 x467 x468 x469 x470 x471 x472 x473 x474 x475 x476) (fun (t : Int) => (Exit.ret, (⟨mkE 28 0 [(6, .dat (.int .i64) t)], []⟩ : St))) := by
  unfold impl_joins_below_n8
  exact Link.cast (by kernel_rfl) (by kernel_rfl) (link_seq (b := (Code.snd (Code.snd (Code.snd (bodyOf Tryd.f57))))) (y := (Ann.snd (Ann.snd (Ann.snd impl_joins_below_an)))) (impl_joins_below_n6_l x477 x478 x463 x464 x465 x466 x467 x468 x469 x470 x471 x472 x473 x474 x475 x476) (fun (t : Int) => (impl_joins_below_n7_l t)))

theorem impl_joins_below_n9_l (x463 : Int) (x464 : Int) (x465 : Int) (x466 : Int) (x467 : Int) (x468 : Int) (x469 : Int) (x470 : Int) (x471 : Int) (x472 : Int) (x473 : Int) (x474 : Int) (x475 : Int) (x476 : Int) (x477 : Int) (x478 : Int) : Link impl_joins_below_ctx LL (bodyOf Tryd.f57) impl_joins_below_an (⟨mkE 28 0 [(0, .agg [.dat (.int .i64) x463, .dat (.int .i64) x464, .dat (.int .i64) x465, .dat (.int .i64) x466, .dat (.int .i64) x467, .dat (.int .i64) x468, .dat (.int .i64) x469, .dat (.int .i64) x470, .dat (.int .i64) x471, .dat (.int .i64) x472, .dat (.int .i64) x473, .dat (.int .i64) x474, .dat (.int .i64) x475, .dat (.int .i64) x476]), (1, .dat (.int .i64) x477), (2, .dat (.int .i64) x478)], []⟩ : St) (impl_joins_below_n9 x463 x464 x465 x466 x467 x468 x469 x470 x471 x472 x473 x474 x475 x476 x477 x478) (fun (t : Int) => (Exit.ret, (⟨mkE 28 0 [(6, .dat (.int .i64) t)], []⟩ : St))) := by
  unfold impl_joins_below_n9
  exact Link.cast (by kernel_rfl) (by kernel_rfl) (link_group (c := (Code.fst (Code.snd (bodyOf Tryd.f57)))) (a := (Ann.fst (Ann.snd impl_joins_below_an))) [(Code.fst (bodyOf Tryd.f57))] [(Ann.fst impl_joins_below_an)] rfl (link_seq (b := (Code.snd (Code.snd (bodyOf Tryd.f57)))) (y := (Ann.snd (Ann.snd impl_joins_below_an))) (impl_joins_below_n1_l x463 x464 x465 x466 x467 x468 x469 x470 x471 x472 x473 x474 x475 x476 x477 x478) (fun (t : Unit) => (impl_joins_below_n8_l x477 x478 x463 x464 x465 x466 x467 x468 x469 x470 x471 x472 x473 x474 x475 x476))))

theorem impl_joins_below_e (x463 : Int) (x464 : Int) (x465 : Int) (x466 : Int) (x467 : Int) (x468 : Int) (x469 : Int) (x470 : Int) (x471 : Int) (x472 : Int) (x473 : Int) (x474 : Int) (x475 : Int) (x476 : Int) (x477 : Int) (x478 : Int) {r : AV} {H' : Heap} (h : (Ans.mk _ (impl_joins_below x463 x464 x465 x466 x467 x468 x469 x470 x471 x472 x473 x474 x475 x476 x477 x478) (fun (t : Int) => (.dat (.int .i64) t, []))).run = some (r, H')) : Awp impl_joins_below_ctx LL (bodyOf Tryd.f57) impl_joins_below_an (⟨mkE 28 0 [(0, .agg [.dat (.int .i64) x463, .dat (.int .i64) x464, .dat (.int .i64) x465, .dat (.int .i64) x466, .dat (.int .i64) x467, .dat (.int .i64) x468, .dat (.int .i64) x469, .dat (.int .i64) x470, .dat (.int .i64) x471, .dat (.int .i64) x472, .dat (.int .i64) x473, .dat (.int .i64) x474, .dat (.int .i64) x475, .dat (.int .i64) x476]), (1, .dat (.int .i64) x477), (2, .dat (.int .i64) x478)], []⟩ : St) (Ret (tlook tys) Tryd.f57.results.toList r H') :=
  ret_of' (impl_joins_below_n9_l x463 x464 x465 x466 x467 x468 x469 x470 x471 x472 x473 x474 x475 x476 x477 x478) (by unfold impl_joins_below; kernel_rfl) (by
  intro t
  exact ret_mk [.dat (.int .i64) t] (by kernel_rfl) (by kernel_rfl) (by kernel_rfl) (by kernel_rfl)) h

def F_impl_joins_below : Fun := fun avs H =>
  match avs, H with
  | [.agg [.dat (.int .i64) x463, .dat (.int .i64) x464, .dat (.int .i64) x465, .dat (.int .i64) x466, .dat (.int .i64) x467, .dat (.int .i64) x468, .dat (.int .i64) x469, .dat (.int .i64) x470, .dat (.int .i64) x471, .dat (.int .i64) x472, .dat (.int .i64) x473, .dat (.int .i64) x474, .dat (.int .i64) x475, .dat (.int .i64) x476], .dat (.int .i64) x477, .dat (.int .i64) x478], [] => ⟨_, impl_joins_below x463 x464 x465 x466 x467 x468 x469 x470 x471 x472 x473 x474 x475 x476 x477 x478, fun (t : Int) => (.dat (.int .i64) t, [])⟩
  | _, _ => Ans.no

theorem impl_joins_below_sound : Sound Tryd.prog 57 F_impl_joins_below := by
  refine fn_sound' (C := impl_joins_below_ctx) (c := bodyOf Tryd.f57) (cok_of tys_ok (by simp) (by simp) (by kernel_rfl)) Tryd.func57 (by kernel_rfl) LL impl_joins_below_an ?_
  intro avs H r H' h
  unfold F_impl_joins_below at h
  split at h
  · refine Awp.cast ?_ ?_ ?_ (impl_joins_below_e _ _ _ _ _ _ _ _ _ _ _ _ _ _ _ _ h) <;> kernel_rfl
  · simp [Ans.no, Ans.run] at h

/-! (loop.example/headtrees/impl.joins).count -/

def impl_joins_count_an : Ann := (.seq (.leaf [1, 2]) (.seq (.leaf [4]) (.leaf [4])))

noncomputable def impl_joins_count_ctx : Ctx := ⟨tlook tys, olook [(57, F_impl_joins_below)], ioF, 0⟩

theorem impl_joins_count_n1_l (x447 : Int) (x448 : Int) (x449 : Int) (x450 : Int) (x451 : Int) (x452 : Int) (x453 : Int) (x454 : Int) (x455 : Int) (x456 : Int) (x457 : Int) (x458 : Int) (x459 : Int) (x460 : Int) (x461 : Int) : Link impl_joins_count_ctx LL (bodyOf Tryd.f37) impl_joins_count_an (⟨mkE 10 0 [(0, .agg [.dat (.int .i64) x447, .dat (.int .i64) x448, .dat (.int .i64) x449, .dat (.int .i64) x450, .dat (.int .i64) x451, .dat (.int .i64) x452, .dat (.int .i64) x453, .dat (.int .i64) x454, .dat (.int .i64) x455, .dat (.int .i64) x456, .dat (.int .i64) x457, .dat (.int .i64) x458, .dat (.int .i64) x459, .dat (.int .i64) x460]), (1, .dat (.int .i64) x461)], []⟩ : St) (impl_joins_count_n1 x447 x448 x449 x450 x451 x452 x453 x454 x455 x456 x457 x458 x459 x460 x461) (fun (t : Int) => (Exit.ret, (⟨mkE 10 0 [(4, .dat (.int .i64) t)], []⟩ : St))) := by
  refine Link.of fun K h => ?_
  simp only [impl_joins_count_n1, wpO_bind, wpO_cond, wpO_map, wpO_some] at h
  exact Awp.of (by kernel_rfl) h

theorem impl_joins_count_e (x447 : Int) (x448 : Int) (x449 : Int) (x450 : Int) (x451 : Int) (x452 : Int) (x453 : Int) (x454 : Int) (x455 : Int) (x456 : Int) (x457 : Int) (x458 : Int) (x459 : Int) (x460 : Int) (x461 : Int) {r : AV} {H' : Heap} (h : (Ans.mk _ (impl_joins_count x447 x448 x449 x450 x451 x452 x453 x454 x455 x456 x457 x458 x459 x460 x461) (fun (t : Int) => (.dat (.int .i64) t, []))).run = some (r, H')) : Awp impl_joins_count_ctx LL (bodyOf Tryd.f37) impl_joins_count_an (⟨mkE 10 0 [(0, .agg [.dat (.int .i64) x447, .dat (.int .i64) x448, .dat (.int .i64) x449, .dat (.int .i64) x450, .dat (.int .i64) x451, .dat (.int .i64) x452, .dat (.int .i64) x453, .dat (.int .i64) x454, .dat (.int .i64) x455, .dat (.int .i64) x456, .dat (.int .i64) x457, .dat (.int .i64) x458, .dat (.int .i64) x459, .dat (.int .i64) x460]), (1, .dat (.int .i64) x461)], []⟩ : St) (Ret (tlook tys) Tryd.f37.results.toList r H') :=
  ret_of' (impl_joins_count_n1_l x447 x448 x449 x450 x451 x452 x453 x454 x455 x456 x457 x458 x459 x460 x461) (by unfold impl_joins_count; kernel_rfl) (by
  intro t
  exact ret_mk [.dat (.int .i64) t] (by kernel_rfl) (by kernel_rfl) (by kernel_rfl) (by kernel_rfl)) h

def F_impl_joins_count : Fun := fun avs H =>
  match avs, H with
  | [.agg [.dat (.int .i64) x447, .dat (.int .i64) x448, .dat (.int .i64) x449, .dat (.int .i64) x450, .dat (.int .i64) x451, .dat (.int .i64) x452, .dat (.int .i64) x453, .dat (.int .i64) x454, .dat (.int .i64) x455, .dat (.int .i64) x456, .dat (.int .i64) x457, .dat (.int .i64) x458, .dat (.int .i64) x459, .dat (.int .i64) x460], .dat (.int .i64) x461], [] => ⟨_, impl_joins_count x447 x448 x449 x450 x451 x452 x453 x454 x455 x456 x457 x458 x459 x460 x461, fun (t : Int) => (.dat (.int .i64) t, [])⟩
  | _, _ => Ans.no

theorem impl_joins_count_sound : Sound Tryd.prog 37 F_impl_joins_count := by
  refine fn_sound' (C := impl_joins_count_ctx) (c := bodyOf Tryd.f37) (cok_of tys_ok (List.forall_mem_cons.2 ⟨impl_joins_below_sound, by simp⟩) (List.forall_mem_cons.2 ⟨Tryd.call57, by simp⟩) (by kernel_rfl)) Tryd.func37 (by kernel_rfl) LL impl_joins_count_an ?_
  intro avs H r H' h
  unfold F_impl_joins_count at h
  split at h
  · refine Awp.cast ?_ ?_ ?_ (impl_joins_count_e _ _ _ _ _ _ _ _ _ _ _ _ _ _ _ h) <;> kernel_rfl
  · simp [Ans.no, Ans.run] at h

/-! (loop.example/headtrees/impl.flatCounts).inRows -/

def impl_flatCounts_inRows_an : Ann := (.seq (.leaf [1, 2]) (.seq (.leaf [2]) (.leaf [2])))

noncomputable def impl_flatCounts_inRows_ctx : Ctx := ⟨tlook tys, olook [], ioF, 0⟩

theorem impl_flatCounts_inRows_n1_l (x539 : Int) (x540 : Int) (x541 : Int) (x542 : Int) (x543 : Int) (x544 : Int) (x545 : Int) (x546 : Int) (x547 : Int) (x548 : Int) (x549 : Int) (x550 : Int) (x551 : Int) (x552 : Int) : Link impl_flatCounts_inRows_ctx LL (bodyOf Tryd.f38) impl_flatCounts_inRows_an (⟨mkE 8 0 [(0, .agg [.dat (.int .i64) x539, .dat (.int .i64) x540, .dat (.int .i64) x541, .dat (.int .i64) x542, .dat (.int .i64) x543, .dat (.int .i64) x544, .dat (.int .i64) x545, .dat (.int .i64) x546, .dat (.int .i64) x547, .dat (.int .i64) x548, .dat (.int .i64) x549, .dat (.int .i64) x550, .dat (.int .i64) x551, .dat (.int .i64) x552])], []⟩ : St) (impl_flatCounts_inRows_n1) (fun (t : Unit) => (Exit.ret, (⟨mkE 8 0 [(2, .ptr 0 0)], [some (.box [.dat (.int .i64) x539, .dat (.int .i64) x540, .dat (.int .i64) x541, .dat (.int .i64) x542, .dat (.int .i64) x543, .dat (.int .i64) x544, .dat (.int .i64) x545, .dat (.int .i64) x546, .dat (.int .i64) x547, .dat (.int .i64) x548, .dat (.int .i64) x549, .dat (.int .i64) x550, .dat (.int .i64) x551, .dat (.int .i64) x552])]⟩ : St))) := by
  refine Link.of fun K h => ?_
  simp only [impl_flatCounts_inRows_n1, wpO_bind, wpO_cond, wpO_map, wpO_some] at h
  exact Awp.of (by kernel_rfl) h

theorem impl_flatCounts_inRows_e (x539 : Int) (x540 : Int) (x541 : Int) (x542 : Int) (x543 : Int) (x544 : Int) (x545 : Int) (x546 : Int) (x547 : Int) (x548 : Int) (x549 : Int) (x550 : Int) (x551 : Int) (x552 : Int) {r : AV} {H' : Heap} (h : (Ans.mk _ (impl_flatCounts_inRows x539 x540 x541 x542 x543 x544 x545 x546 x547 x548 x549 x550 x551 x552) (fun (t : Unit) => (.agg [.dat (.int .i64) x539, .dat (.int .i64) x540, .dat (.int .i64) x541, .dat (.int .i64) x542, .dat (.int .i64) x543, .dat (.int .i64) x544, .dat (.int .i64) x545, .dat (.int .i64) x546, .dat (.int .i64) x547, .dat (.int .i64) x548, .dat (.int .i64) x549, .dat (.int .i64) x550, .dat (.int .i64) x551, .dat (.int .i64) x552], [some (.box [.dat (.int .i64) x539, .dat (.int .i64) x540, .dat (.int .i64) x541, .dat (.int .i64) x542, .dat (.int .i64) x543, .dat (.int .i64) x544, .dat (.int .i64) x545, .dat (.int .i64) x546, .dat (.int .i64) x547, .dat (.int .i64) x548, .dat (.int .i64) x549, .dat (.int .i64) x550, .dat (.int .i64) x551, .dat (.int .i64) x552])]))).run = some (r, H')) : Awp impl_flatCounts_inRows_ctx LL (bodyOf Tryd.f38) impl_flatCounts_inRows_an (⟨mkE 8 0 [(0, .agg [.dat (.int .i64) x539, .dat (.int .i64) x540, .dat (.int .i64) x541, .dat (.int .i64) x542, .dat (.int .i64) x543, .dat (.int .i64) x544, .dat (.int .i64) x545, .dat (.int .i64) x546, .dat (.int .i64) x547, .dat (.int .i64) x548, .dat (.int .i64) x549, .dat (.int .i64) x550, .dat (.int .i64) x551, .dat (.int .i64) x552])], []⟩ : St) (Ret (tlook tys) Tryd.f38.results.toList r H') :=
  ret_of' (impl_flatCounts_inRows_n1_l x539 x540 x541 x542 x543 x544 x545 x546 x547 x548 x549 x550 x551 x552) (by unfold impl_flatCounts_inRows; kernel_rfl) (by
  intro t
  exact ret_mk [.agg [.dat (.int .i64) x539, .dat (.int .i64) x540, .dat (.int .i64) x541, .dat (.int .i64) x542, .dat (.int .i64) x543, .dat (.int .i64) x544, .dat (.int .i64) x545, .dat (.int .i64) x546, .dat (.int .i64) x547, .dat (.int .i64) x548, .dat (.int .i64) x549, .dat (.int .i64) x550, .dat (.int .i64) x551, .dat (.int .i64) x552]] (by kernel_rfl) (by kernel_rfl) (by kernel_rfl) (by kernel_rfl)) h

def F_impl_flatCounts_inRows : Fun := fun avs H =>
  match avs, H with
  | [.agg [.dat (.int .i64) x539, .dat (.int .i64) x540, .dat (.int .i64) x541, .dat (.int .i64) x542, .dat (.int .i64) x543, .dat (.int .i64) x544, .dat (.int .i64) x545, .dat (.int .i64) x546, .dat (.int .i64) x547, .dat (.int .i64) x548, .dat (.int .i64) x549, .dat (.int .i64) x550, .dat (.int .i64) x551, .dat (.int .i64) x552]], [] => ⟨_, impl_flatCounts_inRows x539 x540 x541 x542 x543 x544 x545 x546 x547 x548 x549 x550 x551 x552, fun (t : Unit) => (.agg [.dat (.int .i64) x539, .dat (.int .i64) x540, .dat (.int .i64) x541, .dat (.int .i64) x542, .dat (.int .i64) x543, .dat (.int .i64) x544, .dat (.int .i64) x545, .dat (.int .i64) x546, .dat (.int .i64) x547, .dat (.int .i64) x548, .dat (.int .i64) x549, .dat (.int .i64) x550, .dat (.int .i64) x551, .dat (.int .i64) x552], [some (.box [.dat (.int .i64) x539, .dat (.int .i64) x540, .dat (.int .i64) x541, .dat (.int .i64) x542, .dat (.int .i64) x543, .dat (.int .i64) x544, .dat (.int .i64) x545, .dat (.int .i64) x546, .dat (.int .i64) x547, .dat (.int .i64) x548, .dat (.int .i64) x549, .dat (.int .i64) x550, .dat (.int .i64) x551, .dat (.int .i64) x552])])⟩
  | _, _ => Ans.no

theorem impl_flatCounts_inRows_sound : Sound Tryd.prog 38 F_impl_flatCounts_inRows := by
  refine fn_sound' (C := impl_flatCounts_inRows_ctx) (c := bodyOf Tryd.f38) (cok_of tys_ok (by simp) (by simp) (by kernel_rfl)) Tryd.func38 (by kernel_rfl) LL impl_flatCounts_inRows_an ?_
  intro avs H r H' h
  unfold F_impl_flatCounts_inRows at h
  split at h
  · refine Awp.cast ?_ ?_ ?_ (impl_flatCounts_inRows_e _ _ _ _ _ _ _ _ _ _ _ _ _ _ h) <;> kernel_rfl
  · simp [Ans.no, Ans.run] at h

/-! loop.example/headtrees/impl.countFlatParts -/

def impl_countFlatParts_an : Ann := (.seq (.leaf [0]) (.seq (.leaf [0, 1]) (.seq (.leaf [0, 1]) (.seq (.seq (.leaf [0, 1, 2]) (.block (.loop (.seq (.seq (.leaf [0, 1, 2, 6]) (.cond (.leaf [0, 1, 2]) (.leaf [0, 1]))) (.seq (.block (.seq (.leaf [0, 1, 2]) (.leaf [0, 1, 2]))) (.leaf [0, 1, 2])))))) (.seq (.leaf [0]) (.leaf [0]))))))

noncomputable def impl_countFlatParts_ctx : Ctx := ⟨tlook tys, olook [(36, F_impl_flatCounts_aroundRoots), (37, F_impl_joins_count), (38, F_impl_flatCounts_inRows)], ioF, 0⟩

theorem impl_countFlatParts_n1_l : Link impl_countFlatParts_ctx LL (Code.seq (Code.fst (bodyOf Tryd.f22)) (Code.seq (Code.fst (Code.snd (bodyOf Tryd.f22))) (Code.fst (Code.snd (Code.snd (bodyOf Tryd.f22)))))) (Ann.seq (Ann.fst impl_countFlatParts_an) (Ann.seq (Ann.fst (Ann.snd impl_countFlatParts_an)) (Ann.fst (Ann.snd (Ann.snd impl_countFlatParts_an))))) (⟨mkE 25 0 [], []⟩ : St) (impl_countFlatParts_n1) (fun (t : Int × Int × Int × Int × Int × Int × Int) => (Exit.normal, (⟨mkE 25 0 [(0, .ptr 0 0), (1, .ptr 1 0)], [some (.box [.dat (.int .i64) 0, .dat (.int .i64) 0, .dat (.int .i64) 0, .dat (.int .i64) 0, .dat (.int .i64) 0, .dat (.int .i64) 0, .dat (.int .i64) 0, .dat (.int .i64) 0, .dat (.int .i64) 0, .dat (.int .i64) 0, .dat (.int .i64) 0, .dat (.int .i64) 0, .dat (.int .i64) 0, .dat (.int .i64) 0]), some (.box [.dat (.int .i64) 0, .dat (.int .i64) 0, .dat (.int .i64) 0, .dat (.int .i64) 0, .dat (.int .i64) 0, .dat (.int .i64) 0, .dat (.int .i64) 0, .dat (.int .i64) t.1, .dat (.int .i64) t.2.1, .dat (.int .i64) t.2.2.1, .dat (.int .i64) t.2.2.2.1, .dat (.int .i64) t.2.2.2.2.1, .dat (.int .i64) t.2.2.2.2.2.1, .dat (.int .i64) t.2.2.2.2.2.2])]⟩ : St))) := by
  refine Link.of fun K h => ?_
  simp only [impl_countFlatParts_n1, wpO_bind, wpO_cond, wpO_map, wpO_some] at h
  exact Awp.of (by kernel_rfl) h

theorem impl_countFlatParts_n2_l (x421 : Int) (x422 : Int) (x423 : Int) (x424 : Int) (x425 : Int) (x426 : Int) (x427 : Int) : Link impl_countFlatParts_ctx LL (Code.fst (Code.fst (Code.snd (Code.snd (Code.snd (bodyOf Tryd.f22)))))) (Ann.fst (Ann.fst (Ann.snd (Ann.snd (Ann.snd impl_countFlatParts_an))))) (⟨mkE 25 0 [(0, .ptr 0 0), (1, .ptr 1 0)], [some (.box [.dat (.int .i64) 0, .dat (.int .i64) 0, .dat (.int .i64) 0, .dat (.int .i64) 0, .dat (.int .i64) 0, .dat (.int .i64) 0, .dat (.int .i64) 0, .dat (.int .i64) 0, .dat (.int .i64) 0, .dat (.int .i64) 0, .dat (.int .i64) 0, .dat (.int .i64) 0, .dat (.int .i64) 0, .dat (.int .i64) 0]), some (.box [.dat (.int .i64) 0, .dat (.int .i64) 0, .dat (.int .i64) 0, .dat (.int .i64) 0, .dat (.int .i64) 0, .dat (.int .i64) 0, .dat (.int .i64) 0, .dat (.int .i64) x421, .dat (.int .i64) x422, .dat (.int .i64) x423, .dat (.int .i64) x424, .dat (.int .i64) x425, .dat (.int .i64) x426, .dat (.int .i64) x427])]⟩ : St) (impl_countFlatParts_n2) (fun (t : Unit) => (Exit.normal, (⟨mkE 25 0 [(0, .ptr 0 0), (1, .ptr 1 0), (2, .dat (.int .i64) 1)], [some (.box [.dat (.int .i64) 0, .dat (.int .i64) 0, .dat (.int .i64) 0, .dat (.int .i64) 0, .dat (.int .i64) 0, .dat (.int .i64) 0, .dat (.int .i64) 0, .dat (.int .i64) 0, .dat (.int .i64) 0, .dat (.int .i64) 0, .dat (.int .i64) 0, .dat (.int .i64) 0, .dat (.int .i64) 0, .dat (.int .i64) 0]), some (.box [.dat (.int .i64) 0, .dat (.int .i64) 0, .dat (.int .i64) 0, .dat (.int .i64) 0, .dat (.int .i64) 0, .dat (.int .i64) 0, .dat (.int .i64) 0, .dat (.int .i64) x421, .dat (.int .i64) x422, .dat (.int .i64) x423, .dat (.int .i64) x424, .dat (.int .i64) x425, .dat (.int .i64) x426, .dat (.int .i64) x427])]⟩ : St))) := by
  refine Link.of fun K h => ?_
  simp only [impl_countFlatParts_n2, wpO_bind, wpO_cond, wpO_map, wpO_some] at h
  exact Awp.of (by kernel_rfl) h

theorem impl_countFlatParts_n3_l (x596 : Int) (x597 : Int) (x598 : Int) (x599 : Int) (x600 : Int) (x601 : Int) (x602 : Int) (x603 : Int) (x604 : Int) (x605 : Int) (x606 : Int) (x607 : Int) (x608 : Int) (x609 : Int) (x610 : Int) : Link impl_countFlatParts_ctx LL (Code.fst (Code.fst (Code.snd (Code.fst (Code.snd (Code.snd (Code.snd (bodyOf Tryd.f22)))))))) (Ann.fst (Ann.fst (Ann.snd (Ann.fst (Ann.snd (Ann.snd (Ann.snd impl_countFlatParts_an))))))) (⟨mkE 25 0 [(0, .ptr 0 0), (1, .ptr 1 0), (2, .dat (.int .i64) x596)], [some (.box [.dat (.int .i64) 0, .dat (.int .i64) 0, .dat (.int .i64) 0, .dat (.int .i64) 0, .dat (.int .i64) 0, .dat (.int .i64) 0, .dat (.int .i64) 0, .dat (.int .i64) 0, .dat (.int .i64) 0, .dat (.int .i64) 0, .dat (.int .i64) 0, .dat (.int .i64) 0, .dat (.int .i64) 0, .dat (.int .i64) 0]), some (.box [.dat (.int .i64) x597, .dat (.int .i64) x598, .dat (.int .i64) x599, .dat (.int .i64) x600, .dat (.int .i64) x601, .dat (.int .i64) x602, .dat (.int .i64) x603, .dat (.int .i64) x604, .dat (.int .i64) x605, .dat (.int .i64) x606, .dat (.int .i64) x607, .dat (.int .i64) x608, .dat (.int .i64) x609, .dat (.int .i64) x610])]⟩ : St) (impl_countFlatParts_n3 x596 x597 x598 x599 x600 x601 x602 x603 x604 x605 x606 x607 x608 x609 x610) (Sum.elim (fun (t : Int × Int × Int × Int × Int × Int × Int × Int × Int × Int × Int × Int × Int × Int × Int) => (Exit.normal, (⟨mkE 25 0 [(0, .ptr 0 0), (1, .ptr 1 0), (2, .dat (.int .i64) t.1)], [some (.box [.dat (.int .i64) 0, .dat (.int .i64) 0, .dat (.int .i64) 0, .dat (.int .i64) 0, .dat (.int .i64) 0, .dat (.int .i64) 0, .dat (.int .i64) 0, .dat (.int .i64) 0, .dat (.int .i64) 0, .dat (.int .i64) 0, .dat (.int .i64) 0, .dat (.int .i64) 0, .dat (.int .i64) 0, .dat (.int .i64) 0]), some (.box [.dat (.int .i64) t.2.1, .dat (.int .i64) t.2.2.1, .dat (.int .i64) t.2.2.2.1, .dat (.int .i64) t.2.2.2.2.1, .dat (.int .i64) t.2.2.2.2.2.1, .dat (.int .i64) t.2.2.2.2.2.2.1, .dat (.int .i64) t.2.2.2.2.2.2.2.1, .dat (.int .i64) t.2.2.2.2.2.2.2.2.1, .dat (.int .i64) t.2.2.2.2.2.2.2.2.2.1, .dat (.int .i64) t.2.2.2.2.2.2.2.2.2.2.1, .dat (.int .i64) t.2.2.2.2.2.2.2.2.2.2.2.1, .dat (.int .i64) t.2.2.2.2.2.2.2.2.2.2.2.2.1, .dat (.int .i64) t.2.2.2.2.2.2.2.2.2.2.2.2.2.1, .dat (.int .i64) t.2.2.2.2.2.2.2.2.2.2.2.2.2.2])]⟩ : St))) (fun (t : Int × Int × Int × Int × Int × Int × Int × Int × Int × Int × Int × Int × Int × Int) => ((Exit.exit 0), (⟨mkE 25 0 [(0, .ptr 0 0), (1, .ptr 1 0)], [some (.box [.dat (.int .i64) 0, .dat (.int .i64) 0, .dat (.int .i64) 0, .dat (.int .i64) 0, .dat (.int .i64) 0, .dat (.int .i64) 0, .dat (.int .i64) 0, .dat (.int .i64) 0, .dat (.int .i64) 0, .dat (.int .i64) 0, .dat (.int .i64) 0, .dat (.int .i64) 0, .dat (.int .i64) 0, .dat (.int .i64) 0]), some (.box [.dat (.int .i64) t.1, .dat (.int .i64) t.2.1, .dat (.int .i64) t.2.2.1, .dat (.int .i64) t.2.2.2.1, .dat (.int .i64) t.2.2.2.2.1, .dat (.int .i64) t.2.2.2.2.2.1, .dat (.int .i64) t.2.2.2.2.2.2.1, .dat (.int .i64) t.2.2.2.2.2.2.2.1, .dat (.int .i64) t.2.2.2.2.2.2.2.2.1, .dat (.int .i64) t.2.2.2.2.2.2.2.2.2.1, .dat (.int .i64) t.2.2.2.2.2.2.2.2.2.2.1, .dat (.int .i64) t.2.2.2.2.2.2.2.2.2.2.2.1, .dat (.int .i64) t.2.2.2.2.2.2.2.2.2.2.2.2.1, .dat (.int .i64) t.2.2.2.2.2.2.2.2.2.2.2.2.2])]⟩ : St)))) := by
  refine Link.of fun K h => ?_
  simp only [impl_countFlatParts_n3, wpO_bind, wpO_cond, wpO_map, wpO_some] at h
  exact Awp.of (by kernel_rfl) h

theorem impl_countFlatParts_n4_l (x421 : Int) (x422 : Int) (x423 : Int) (x424 : Int) (x425 : Int) (x426 : Int) (x427 : Int) : Link impl_countFlatParts_ctx LL (Code.fst (Code.snd (Code.fst (Code.snd (Code.snd (Code.snd (bodyOf Tryd.f22))))))) (Ann.fst (Ann.snd (Ann.fst (Ann.snd (Ann.snd (Ann.snd impl_countFlatParts_an)))))) (⟨mkE 25 0 [(0, .ptr 0 0), (1, .ptr 1 0), (2, .dat (.int .i64) 1)], [some (.box [.dat (.int .i64) 0, .dat (.int .i64) 0, .dat (.int .i64) 0, .dat (.int .i64) 0, .dat (.int .i64) 0, .dat (.int .i64) 0, .dat (.int .i64) 0, .dat (.int .i64) 0, .dat (.int .i64) 0, .dat (.int .i64) 0, .dat (.int .i64) 0, .dat (.int .i64) 0, .dat (.int .i64) 0, .dat (.int .i64) 0]), some (.box [.dat (.int .i64) 0, .dat (.int .i64) 0, .dat (.int .i64) 0, .dat (.int .i64) 0, .dat (.int .i64) 0, .dat (.int .i64) 0, .dat (.int .i64) 0, .dat (.int .i64) x421, .dat (.int .i64) x422, .dat (.int .i64) x423, .dat (.int .i64) x424, .dat (.int .i64) x425, .dat (.int .i64) x426, .dat (.int .i64) x427])]⟩ : St) (impl_countFlatParts_n4 x421 x422 x423 x424 x425 x426 x427) (fun (t : Int × Int × Int × Int × Int × Int × Int × Int × Int × Int × Int × Int × Int × Int) => ((Exit.exit 0), (⟨mkE 25 0 [(0, .ptr 0 0), (1, .ptr 1 0)], [some (.box [.dat (.int .i64) 0, .dat (.int .i64) 0, .dat (.int .i64) 0, .dat (.int .i64) 0, .dat (.int .i64) 0, .dat (.int .i64) 0, .dat (.int .i64) 0, .dat (.int .i64) 0, .dat (.int .i64) 0, .dat (.int .i64) 0, .dat (.int .i64) 0, .dat (.int .i64) 0, .dat (.int .i64) 0, .dat (.int .i64) 0]), some (.box [.dat (.int .i64) t.1, .dat (.int .i64) t.2.1, .dat (.int .i64) t.2.2.1, .dat (.int .i64) t.2.2.2.1, .dat (.int .i64) t.2.2.2.2.1, .dat (.int .i64) t.2.2.2.2.2.1, .dat (.int .i64) t.2.2.2.2.2.2.1, .dat (.int .i64) t.2.2.2.2.2.2.2.1, .dat (.int .i64) t.2.2.2.2.2.2.2.2.1, .dat (.int .i64) t.2.2.2.2.2.2.2.2.2.1, .dat (.int .i64) t.2.2.2.2.2.2.2.2.2.2.1, .dat (.int .i64) t.2.2.2.2.2.2.2.2.2.2.2.1, .dat (.int .i64) t.2.2.2.2.2.2.2.2.2.2.2.2.1, .dat (.int .i64) t.2.2.2.2.2.2.2.2.2.2.2.2.2])]⟩ : St))) := by
  unfold impl_countFlatParts_n4
  exact Link.cast (by kernel_rfl) (by kernel_rfl) (link_loop (mk := fun (s : Int × Int × Int × Int × Int × Int × Int × Int × Int × Int × Int × Int × Int × Int × Int) => (⟨mkE 25 0 [(0, .ptr 0 0), (1, .ptr 1 0), (2, .dat (.int .i64) s.1)], [some (.box [.dat (.int .i64) 0, .dat (.int .i64) 0, .dat (.int .i64) 0, .dat (.int .i64) 0, .dat (.int .i64) 0, .dat (.int .i64) 0, .dat (.int .i64) 0, .dat (.int .i64) 0, .dat (.int .i64) 0, .dat (.int .i64) 0, .dat (.int .i64) 0, .dat (.int .i64) 0, .dat (.int .i64) 0, .dat (.int .i64) 0]), some (.box [.dat (.int .i64) s.2.1, .dat (.int .i64) s.2.2.1, .dat (.int .i64) s.2.2.2.1, .dat (.int .i64) s.2.2.2.2.1, .dat (.int .i64) s.2.2.2.2.2.1, .dat (.int .i64) s.2.2.2.2.2.2.1, .dat (.int .i64) s.2.2.2.2.2.2.2.1, .dat (.int .i64) s.2.2.2.2.2.2.2.2.1, .dat (.int .i64) s.2.2.2.2.2.2.2.2.2.1, .dat (.int .i64) s.2.2.2.2.2.2.2.2.2.2.1, .dat (.int .i64) s.2.2.2.2.2.2.2.2.2.2.2.1, .dat (.int .i64) s.2.2.2.2.2.2.2.2.2.2.2.2.1, .dat (.int .i64) s.2.2.2.2.2.2.2.2.2.2.2.2.2.1, .dat (.int .i64) s.2.2.2.2.2.2.2.2.2.2.2.2.2.2])]⟩ : St)) (fin := (fun (t : Int × Int × Int × Int × Int × Int × Int × Int × Int × Int × Int × Int × Int × Int) => ((Exit.exit 0), (⟨mkE 25 0 [(0, .ptr 0 0), (1, .ptr 1 0)], [some (.box [.dat (.int .i64) 0, .dat (.int .i64) 0, .dat (.int .i64) 0, .dat (.int .i64) 0, .dat (.int .i64) 0, .dat (.int .i64) 0, .dat (.int .i64) 0, .dat (.int .i64) 0, .dat (.int .i64) 0, .dat (.int .i64) 0, .dat (.int .i64) 0, .dat (.int .i64) 0, .dat (.int .i64) 0, .dat (.int .i64) 0]), some (.box [.dat (.int .i64) t.1, .dat (.int .i64) t.2.1, .dat (.int .i64) t.2.2.1, .dat (.int .i64) t.2.2.2.1, .dat (.int .i64) t.2.2.2.2.1, .dat (.int .i64) t.2.2.2.2.2.1, .dat (.int .i64) t.2.2.2.2.2.2.1, .dat (.int .i64) t.2.2.2.2.2.2.2.1, .dat (.int .i64) t.2.2.2.2.2.2.2.2.1, .dat (.int .i64) t.2.2.2.2.2.2.2.2.2.1, .dat (.int .i64) t.2.2.2.2.2.2.2.2.2.2.1, .dat (.int .i64) t.2.2.2.2.2.2.2.2.2.2.2.1, .dat (.int .i64) t.2.2.2.2.2.2.2.2.2.2.2.2.1, .dat (.int .i64) t.2.2.2.2.2.2.2.2.2.2.2.2.2])]⟩ : St)))) (by
  rintro t f K h
  · exact h) (fun s => link_map (impl_countFlatParts_n3_l s.1 s.2.1 s.2.2.1 s.2.2.2.1 s.2.2.2.2.1 s.2.2.2.2.2.1 s.2.2.2.2.2.2.1 s.2.2.2.2.2.2.2.1 s.2.2.2.2.2.2.2.2.1 s.2.2.2.2.2.2.2.2.2.1 s.2.2.2.2.2.2.2.2.2.2.1 s.2.2.2.2.2.2.2.2.2.2.2.1 s.2.2.2.2.2.2.2.2.2.2.2.2.1 s.2.2.2.2.2.2.2.2.2.2.2.2.2.1 s.2.2.2.2.2.2.2.2.2.2.2.2.2.2) (Sum.elim (fun (t : Int × Int × Int × Int × Int × Int × Int × Int × Int × Int × Int × Int × Int × Int × Int) => Sum.inl (t.1, t.2.1, t.2.2.1, t.2.2.2.1, t.2.2.2.2.1, t.2.2.2.2.2.1, t.2.2.2.2.2.2.1, t.2.2.2.2.2.2.2.1, t.2.2.2.2.2.2.2.2.1, t.2.2.2.2.2.2.2.2.2.1, t.2.2.2.2.2.2.2.2.2.2.1, t.2.2.2.2.2.2.2.2.2.2.2.1, t.2.2.2.2.2.2.2.2.2.2.2.2.1, t.2.2.2.2.2.2.2.2.2.2.2.2.2.1, t.2.2.2.2.2.2.2.2.2.2.2.2.2.2)) (fun (t : Int × Int × Int × Int × Int × Int × Int × Int × Int × Int × Int × Int × Int × Int) => Sum.inr t)) (by
  rintro (t | t)
  · kernel_rfl
  · kernel_rfl)) (1, 0, 0, 0, 0, 0, 0, 0, x421, x422, x423, x424, x425, x426, x427))

theorem impl_countFlatParts_n5_l (x421 : Int) (x422 : Int) (x423 : Int) (x424 : Int) (x425 : Int) (x426 : Int) (x427 : Int) : Link impl_countFlatParts_ctx LL (Code.snd (Code.fst (Code.snd (Code.snd (Code.snd (bodyOf Tryd.f22)))))) (Ann.snd (Ann.fst (Ann.snd (Ann.snd (Ann.snd impl_countFlatParts_an))))) (⟨mkE 25 0 [(0, .ptr 0 0), (1, .ptr 1 0), (2, .dat (.int .i64) 1)], [some (.box [.dat (.int .i64) 0, .dat (.int .i64) 0, .dat (.int .i64) 0, .dat (.int .i64) 0, .dat (.int .i64) 0, .dat (.int .i64) 0, .dat (.int .i64) 0, .dat (.int .i64) 0, .dat (.int .i64) 0, .dat (.int .i64) 0, .dat (.int .i64) 0, .dat (.int .i64) 0, .dat (.int .i64) 0, .dat (.int .i64) 0]), some (.box [.dat (.int .i64) 0, .dat (.int .i64) 0, .dat (.int .i64) 0, .dat (.int .i64) 0, .dat (.int .i64) 0, .dat (.int .i64) 0, .dat (.int .i64) 0, .dat (.int .i64) x421, .dat (.int .i64) x422, .dat (.int .i64) x423, .dat (.int .i64) x424, .dat (.int .i64) x425, .dat (.int .i64) x426, .dat (.int .i64) x427])]⟩ : St) (impl_countFlatParts_n5 x421 x422 x423 x424 x425 x426 x427) (fun (t : Int × Int × Int × Int × Int × Int × Int × Int × Int × Int × Int × Int × Int × Int) => (Exit.normal, (⟨mkE 25 0 [(0, .ptr 0 0), (1, .ptr 1 0)], [some (.box [.dat (.int .i64) 0, .dat (.int .i64) 0, .dat (.int .i64) 0, .dat (.int .i64) 0, .dat (.int .i64) 0, .dat (.int .i64) 0, .dat (.int .i64) 0, .dat (.int .i64) 0, .dat (.int .i64) 0, .dat (.int .i64) 0, .dat (.int .i64) 0, .dat (.int .i64) 0, .dat (.int .i64) 0, .dat (.int .i64) 0]), some (.box [.dat (.int .i64) t.1, .dat (.int .i64) t.2.1, .dat (.int .i64) t.2.2.1, .dat (.int .i64) t.2.2.2.1, .dat (.int .i64) t.2.2.2.2.1, .dat (.int .i64) t.2.2.2.2.2.1, .dat (.int .i64) t.2.2.2.2.2.2.1, .dat (.int .i64) t.2.2.2.2.2.2.2.1, .dat (.int .i64) t.2.2.2.2.2.2.2.2.1, .dat (.int .i64) t.2.2.2.2.2.2.2.2.2.1, .dat (.int .i64) t.2.2.2.2.2.2.2.2.2.2.1, .dat (.int .i64) t.2.2.2.2.2.2.2.2.2.2.2.1, .dat (.int .i64) t.2.2.2.2.2.2.2.2.2.2.2.2.1, .dat (.int .i64) t.2.2.2.2.2.2.2.2.2.2.2.2.2])]⟩ : St))) := by
  unfold impl_countFlatParts_n5
  exact Link.cast (by kernel_rfl) (by kernel_rfl) (link_block (id := 0) (impl_countFlatParts_n4_l x421 x422 x423 x424 x425 x426 x427) (fun (t : Int × Int × Int × Int × Int × Int × Int × Int × Int × Int × Int × Int × Int × Int) => (t.1, t.2.1, t.2.2.1, t.2.2.2.1, t.2.2.2.2.1, t.2.2.2.2.2.1, t.2.2.2.2.2.2.1, t.2.2.2.2.2.2.2.1, t.2.2.2.2.2.2.2.2.1, t.2.2.2.2.2.2.2.2.2.1, t.2.2.2.2.2.2.2.2.2.2.1, t.2.2.2.2.2.2.2.2.2.2.2.1, t.2.2.2.2.2.2.2.2.2.2.2.2.1, t.2.2.2.2.2.2.2.2.2.2.2.2.2)) (by
  rintro t K h
  · exact Eq.mp (by kernel_rfl) h))

theorem impl_countFlatParts_n6_l (x421 : Int) (x422 : Int) (x423 : Int) (x424 : Int) (x425 : Int) (x426 : Int) (x427 : Int) : Link impl_countFlatParts_ctx LL (Code.fst (Code.snd (Code.snd (Code.snd (bodyOf Tryd.f22))))) (Ann.fst (Ann.snd (Ann.snd (Ann.snd impl_countFlatParts_an)))) (⟨mkE 25 0 [(0, .ptr 0 0), (1, .ptr 1 0)], [some (.box [.dat (.int .i64) 0, .dat (.int .i64) 0, .dat (.int .i64) 0, .dat (.int .i64) 0, .dat (.int .i64) 0, .dat (.int .i64) 0, .dat (.int .i64) 0, .dat (.int .i64) 0, .dat (.int .i64) 0, .dat (.int .i64) 0, .dat (.int .i64) 0, .dat (.int .i64) 0, .dat (.int .i64) 0, .dat (.int .i64) 0]), some (.box [.dat (.int .i64) 0, .dat (.int .i64) 0, .dat (.int .i64) 0, .dat (.int .i64) 0, .dat (.int .i64) 0, .dat (.int .i64) 0, .dat (.int .i64) 0, .dat (.int .i64) x421, .dat (.int .i64) x422, .dat (.int .i64) x423, .dat (.int .i64) x424, .dat (.int .i64) x425, .dat (.int .i64) x426, .dat (.int .i64) x427])]⟩ : St) (impl_countFlatParts_n6 x421 x422 x423 x424 x425 x426 x427) (fun (t : Int × Int × Int × Int × Int × Int × Int × Int × Int × Int × Int × Int × Int × Int) => (Exit.normal, (⟨mkE 25 0 [(0, .ptr 0 0), (1, .ptr 1 0)], [some (.box [.dat (.int .i64) 0, .dat (.int .i64) 0, .dat (.int .i64) 0, .dat (.int .i64) 0, .dat (.int .i64) 0, .dat (.int .i64) 0, .dat (.int .i64) 0, .dat (.int .i64) 0, .dat (.int .i64) 0, .dat (.int .i64) 0, .dat (.int .i64) 0, .dat (.int .i64) 0, .dat (.int .i64) 0, .dat (.int .i64) 0]), some (.box [.dat (.int .i64) t.1, .dat (.int .i64) t.2.1, .dat (.int .i64) t.2.2.1, .dat (.int .i64) t.2.2.2.1, .dat (.int .i64) t.2.2.2.2.1, .dat (.int .i64) t.2.2.2.2.2.1, .dat (.int .i64) t.2.2.2.2.2.2.1, .dat (.int .i64) t.2.2.2.2.2.2.2.1, .dat (.int .i64) t.2.2.2.2.2.2.2.2.1, .dat (.int .i64) t.2.2.2.2.2.2.2.2.2.1, .dat (.int .i64) t.2.2.2.2.2.2.2.2.2.2.1, .dat (.int .i64) t.2.2.2.2.2.2.2.2.2.2.2.1, .dat (.int .i64) t.2.2.2.2.2.2.2.2.2.2.2.2.1, .dat (.int .i64) t.2.2.2.2.2.2.2.2.2.2.2.2.2])]⟩ : St))) := by
  unfold impl_countFlatParts_n6
  exact Link.cast (by kernel_rfl) (by kernel_rfl) (link_seq (b := (Code.snd (Code.fst (Code.snd (Code.snd (Code.snd (bodyOf Tryd.f22))))))) (y := (Ann.snd (Ann.fst (Ann.snd (Ann.snd (Ann.snd impl_countFlatParts_an)))))) (impl_countFlatParts_n2_l x421 x422 x423 x424 x425 x426 x427) (fun (t : Unit) => (impl_countFlatParts_n5_l x421 x422 x423 x424 x425 x426 x427)))

theorem impl_countFlatParts_n7_l (x597 : Int) (x598 : Int) (x599 : Int) (x600 : Int) (x601 : Int) (x602 : Int) (x603 : Int) (x604 : Int) (x605 : Int) (x606 : Int) (x607 : Int) (x608 : Int) (x609 : Int) (x610 : Int) : Link impl_countFlatParts_ctx LL (Code.snd (Code.snd (Code.snd (Code.snd (bodyOf Tryd.f22))))) (Ann.snd (Ann.snd (Ann.snd (Ann.snd impl_countFlatParts_an)))) (⟨mkE 25 0 [(0, .ptr 0 0), (1, .ptr 1 0)], [some (.box [.dat (.int .i64) 0, .dat (.int .i64) 0, .dat (.int .i64) 0, .dat (.int .i64) 0, .dat (.int .i64) 0, .dat (.int .i64) 0, .dat (.int .i64) 0, .dat (.int .i64) 0, .dat (.int .i64) 0, .dat (.int .i64) 0, .dat (.int .i64) 0, .dat (.int .i64) 0, .dat (.int .i64) 0, .dat (.int .i64) 0]), some (.box [.dat (.int .i64) x597, .dat (.int .i64) x598, .dat (.int .i64) x599, .dat (.int .i64) x600, .dat (.int .i64) x601, .dat (.int .i64) x602, .dat (.int .i64) x603, .dat (.int .i64) x604, .dat (.int .i64) x605, .dat (.int .i64) x606, .dat (.int .i64) x607, .dat (.int .i64) x608, .dat (.int .i64) x609, .dat (.int .i64) x610])]⟩ : St) (impl_countFlatParts_n7 x597 x598 x599 x600 x601 x602 x603 x604 x605 x606 x607 x608 x609 x610) (fun (t : Int × Int × Int × Int × Int × Int × Int × Int × Int × Int × Int × Int × Int × Int) => (Exit.ret, (⟨mkE 25 0 [(0, .ptr 0 0)], [some (.box [.dat (.int .i64) t.1, .dat (.int .i64) t.2.1, .dat (.int .i64) t.2.2.1, .dat (.int .i64) t.2.2.2.1, .dat (.int .i64) t.2.2.2.2.1, .dat (.int .i64) t.2.2.2.2.2.1, .dat (.int .i64) t.2.2.2.2.2.2.1, .dat (.int .i64) t.2.2.2.2.2.2.2.1, .dat (.int .i64) t.2.2.2.2.2.2.2.2.1, .dat (.int .i64) t.2.2.2.2.2.2.2.2.2.1, .dat (.int .i64) t.2.2.2.2.2.2.2.2.2.2.1, .dat (.int .i64) t.2.2.2.2.2.2.2.2.2.2.2.1, .dat (.int .i64) t.2.2.2.2.2.2.2.2.2.2.2.2.1, .dat (.int .i64) t.2.2.2.2.2.2.2.2.2.2.2.2.2])]⟩ : St))) := by
  refine Link.of fun K h => ?_
  simp only [impl_countFlatParts_n7, wpO_bind, wpO_cond, wpO_map, wpO_some] at h
  exact Awp.of (by kernel_rfl) h

theorem impl_countFlatParts_n8_l (x421 : Int) (x422 : Int) (x423 : Int) (x424 : Int) (x425 : Int) (x426 : Int) (x427 : Int) : Link impl_countFlatParts_ctx LL (Code.snd (Code.snd (Code.snd (bodyOf Tryd.f22)))) (Ann.snd (Ann.snd (Ann.snd impl_countFlatParts_an))) (⟨mkE 25 0 [(0, .ptr 0 0), (1, .ptr 1 0)], [some (.box [.dat (.int .i64) 0, .dat (.int .i64) 0, .dat (.int .i64) 0, .dat (.int .i64) 0, .dat (.int .i64) 0, .dat (.int .i64) 0, .dat (.int .i64) 0, .dat (.int .i64) 0, .dat (.int .i64) 0, .dat (.int .i64) 0, .dat (.int .i64) 0, .dat (.int .i64) 0, .dat (.int .i64) 0, .dat (.int .i64) 0]), some (.box [.dat (.int .i64) 0, .dat (.int .i64) 0, .dat (.int .i64) 0, .dat (.int .i64) 0, .dat (.int .i64) 0, .dat (.int .i64) 0, .dat (.int .i64) 0, .dat (.int .i64) x421, .dat (.int .i64) x422, .dat (.int .i64) x423, .dat (.int .i64) x424, .dat (.int .i64) x425, .dat (.int .i64) x426, .dat (.int .i64) x427])]⟩ : St) (impl_countFlatParts_n8 x421 x422 x423 x424 x425 x426 x427) (fun (t : Int × Int × Int × Int × Int × Int × Int × Int × Int × Int × Int × Int × Int × Int) => (Exit.ret, (⟨mkE 25 0 [(0, .ptr 0 0)], [some (.box [.dat (.int .i64) t.1, .dat (.int .i64) t.2.1, .dat (.int .i64) t.2.2.1, .dat (.int .i64) t.2.2.2.1, .dat (.int .i64) t.2.2.2.2.1, .dat (.int .i64) t.2.2.2.2.2.1, .dat (.int .i64) t.2.2.2.2.2.2.1, .dat (.int .i64) t.2.2.2.2.2.2.2.1, .dat (.int .i64) t.2.2.2.2.2.2.2.2.1, .dat (.int .i64) t.2.2.2.2.2.2.2.2.2.1, .dat (.int .i64) t.2.2.2.2.2.2.2.2.2.2.1, .dat (.int .i64) t.2.2.2.2.2.2.2.2.2.2.2.1, .dat (.int .i64) t.2.2.2.2.2.2.2.2.2.2.2.2.1, .dat (.int .i64) t.2.2.2.2.2.2.2.2.2.2.2.2.2])]⟩ : St))) := by
  unfold impl_countFlatParts_n8
  exact Link.cast (by kernel_rfl) (by kernel_rfl) (link_seq (b := (Code.snd (Code.snd (Code.snd (Code.snd (bodyOf Tryd.f22)))))) (y := (Ann.snd (Ann.snd (Ann.snd (Ann.snd impl_countFlatParts_an))))) (impl_countFlatParts_n6_l x421 x422 x423 x424 x425 x426 x427) (fun (t : Int × Int × Int × Int × Int × Int × Int × Int × Int × Int × Int × Int × Int × Int) => (impl_countFlatParts_n7_l t.1 t.2.1 t.2.2.1 t.2.2.2.1 t.2.2.2.2.1 t.2.2.2.2.2.1 t.2.2.2.2.2.2.1 t.2.2.2.2.2.2.2.1 t.2.2.2.2.2.2.2.2.1 t.2.2.2.2.2.2.2.2.2.1 t.2.2.2.2.2.2.2.2.2.2.1 t.2.2.2.2.2.2.2.2.2.2.2.1 t.2.2.2.2.2.2.2.2.2.2.2.2.1 t.2.2.2.2.2.2.2.2.2.2.2.2.2)))

theorem impl_countFlatParts_n9_l : Link impl_countFlatParts_ctx LL (bodyOf Tryd.f22) impl_countFlatParts_an (⟨mkE 25 0 [], []⟩ : St) (impl_countFlatParts_n9) (fun (t : Int × Int × Int × Int × Int × Int × Int × Int × Int × Int × Int × Int × Int × Int) => (Exit.ret, (⟨mkE 25 0 [(0, .ptr 0 0)], [some (.box [.dat (.int .i64) t.1, .dat (.int .i64) t.2.1, .dat (.int .i64) t.2.2.1, .dat (.int .i64) t.2.2.2.1, .dat (.int .i64) t.2.2.2.2.1, .dat (.int .i64) t.2.2.2.2.2.1, .dat (.int .i64) t.2.2.2.2.2.2.1, .dat (.int .i64) t.2.2.2.2.2.2.2.1, .dat (.int .i64) t.2.2.2.2.2.2.2.2.1, .dat (.int .i64) t.2.2.2.2.2.2.2.2.2.1, .dat (.int .i64) t.2.2.2.2.2.2.2.2.2.2.1, .dat (.int .i64) t.2.2.2.2.2.2.2.2.2.2.2.1, .dat (.int .i64) t.2.2.2.2.2.2.2.2.2.2.2.2.1, .dat (.int .i64) t.2.2.2.2.2.2.2.2.2.2.2.2.2])]⟩ : St))) := by
  unfold impl_countFlatParts_n9
  exact Link.cast (by kernel_rfl) (by kernel_rfl) (link_group (c := (Code.fst (Code.snd (Code.snd (bodyOf Tryd.f22))))) (a := (Ann.fst (Ann.snd (Ann.snd impl_countFlatParts_an)))) [(Code.fst (bodyOf Tryd.f22)), (Code.fst (Code.snd (bodyOf Tryd.f22)))] [(Ann.fst impl_countFlatParts_an), (Ann.fst (Ann.snd impl_countFlatParts_an))] rfl (link_seq (b := (Code.snd (Code.snd (Code.snd (bodyOf Tryd.f22))))) (y := (Ann.snd (Ann.snd (Ann.snd impl_countFlatParts_an)))) (impl_countFlatParts_n1_l) (fun (t : Int × Int × Int × Int × Int × Int × Int) => (impl_countFlatParts_n8_l t.1 t.2.1 t.2.2.1 t.2.2.2.1 t.2.2.2.2.1 t.2.2.2.2.2.1 t.2.2.2.2.2.2))))

theorem impl_countFlatParts_e {r : AV} {H' : Heap} (h : (Ans.mk _ (impl_countFlatParts) (fun (t : Int × Int × Int × Int × Int × Int × Int × Int × Int × Int × Int × Int × Int × Int) => (.agg [.dat (.int .i64) t.1, .dat (.int .i64) t.2.1, .dat (.int .i64) t.2.2.1, .dat (.int .i64) t.2.2.2.1, .dat (.int .i64) t.2.2.2.2.1, .dat (.int .i64) t.2.2.2.2.2.1, .dat (.int .i64) t.2.2.2.2.2.2.1, .dat (.int .i64) t.2.2.2.2.2.2.2.1, .dat (.int .i64) t.2.2.2.2.2.2.2.2.1, .dat (.int .i64) t.2.2.2.2.2.2.2.2.2.1, .dat (.int .i64) t.2.2.2.2.2.2.2.2.2.2.1, .dat (.int .i64) t.2.2.2.2.2.2.2.2.2.2.2.1, .dat (.int .i64) t.2.2.2.2.2.2.2.2.2.2.2.2.1, .dat (.int .i64) t.2.2.2.2.2.2.2.2.2.2.2.2.2], [some (.box [.dat (.int .i64) t.1, .dat (.int .i64) t.2.1, .dat (.int .i64) t.2.2.1, .dat (.int .i64) t.2.2.2.1, .dat (.int .i64) t.2.2.2.2.1, .dat (.int .i64) t.2.2.2.2.2.1, .dat (.int .i64) t.2.2.2.2.2.2.1, .dat (.int .i64) t.2.2.2.2.2.2.2.1, .dat (.int .i64) t.2.2.2.2.2.2.2.2.1, .dat (.int .i64) t.2.2.2.2.2.2.2.2.2.1, .dat (.int .i64) t.2.2.2.2.2.2.2.2.2.2.1, .dat (.int .i64) t.2.2.2.2.2.2.2.2.2.2.2.1, .dat (.int .i64) t.2.2.2.2.2.2.2.2.2.2.2.2.1, .dat (.int .i64) t.2.2.2.2.2.2.2.2.2.2.2.2.2])]))).run = some (r, H')) : Awp impl_countFlatParts_ctx LL (bodyOf Tryd.f22) impl_countFlatParts_an (⟨mkE 25 0 [], []⟩ : St) (Ret (tlook tys) Tryd.f22.results.toList r H') :=
  ret_of' (impl_countFlatParts_n9_l) (by unfold impl_countFlatParts; kernel_rfl) (by
  intro t
  exact ret_mk [.agg [.dat (.int .i64) t.1, .dat (.int .i64) t.2.1, .dat (.int .i64) t.2.2.1, .dat (.int .i64) t.2.2.2.1, .dat (.int .i64) t.2.2.2.2.1, .dat (.int .i64) t.2.2.2.2.2.1, .dat (.int .i64) t.2.2.2.2.2.2.1, .dat (.int .i64) t.2.2.2.2.2.2.2.1, .dat (.int .i64) t.2.2.2.2.2.2.2.2.1, .dat (.int .i64) t.2.2.2.2.2.2.2.2.2.1, .dat (.int .i64) t.2.2.2.2.2.2.2.2.2.2.1, .dat (.int .i64) t.2.2.2.2.2.2.2.2.2.2.2.1, .dat (.int .i64) t.2.2.2.2.2.2.2.2.2.2.2.2.1, .dat (.int .i64) t.2.2.2.2.2.2.2.2.2.2.2.2.2]] (by kernel_rfl) (by kernel_rfl) (by kernel_rfl) (by kernel_rfl)) h

def F_impl_countFlatParts : Fun := fun avs H =>
  match avs, H with
  | [], [] => ⟨_, impl_countFlatParts, fun (t : Int × Int × Int × Int × Int × Int × Int × Int × Int × Int × Int × Int × Int × Int) => (.agg [.dat (.int .i64) t.1, .dat (.int .i64) t.2.1, .dat (.int .i64) t.2.2.1, .dat (.int .i64) t.2.2.2.1, .dat (.int .i64) t.2.2.2.2.1, .dat (.int .i64) t.2.2.2.2.2.1, .dat (.int .i64) t.2.2.2.2.2.2.1, .dat (.int .i64) t.2.2.2.2.2.2.2.1, .dat (.int .i64) t.2.2.2.2.2.2.2.2.1, .dat (.int .i64) t.2.2.2.2.2.2.2.2.2.1, .dat (.int .i64) t.2.2.2.2.2.2.2.2.2.2.1, .dat (.int .i64) t.2.2.2.2.2.2.2.2.2.2.2.1, .dat (.int .i64) t.2.2.2.2.2.2.2.2.2.2.2.2.1, .dat (.int .i64) t.2.2.2.2.2.2.2.2.2.2.2.2.2], [some (.box [.dat (.int .i64) t.1, .dat (.int .i64) t.2.1, .dat (.int .i64) t.2.2.1, .dat (.int .i64) t.2.2.2.1, .dat (.int .i64) t.2.2.2.2.1, .dat (.int .i64) t.2.2.2.2.2.1, .dat (.int .i64) t.2.2.2.2.2.2.1, .dat (.int .i64) t.2.2.2.2.2.2.2.1, .dat (.int .i64) t.2.2.2.2.2.2.2.2.1, .dat (.int .i64) t.2.2.2.2.2.2.2.2.2.1, .dat (.int .i64) t.2.2.2.2.2.2.2.2.2.2.1, .dat (.int .i64) t.2.2.2.2.2.2.2.2.2.2.2.1, .dat (.int .i64) t.2.2.2.2.2.2.2.2.2.2.2.2.1, .dat (.int .i64) t.2.2.2.2.2.2.2.2.2.2.2.2.2])])⟩
  | _, _ => Ans.no

theorem impl_countFlatParts_sound : Sound Tryd.prog 22 F_impl_countFlatParts := by
  refine fn_sound' (C := impl_countFlatParts_ctx) (c := bodyOf Tryd.f22) (cok_of tys_ok (List.forall_mem_cons.2 ⟨impl_flatCounts_aroundRoots_sound, List.forall_mem_cons.2 ⟨impl_joins_count_sound, List.forall_mem_cons.2 ⟨impl_flatCounts_inRows_sound, by simp⟩⟩⟩) (List.forall_mem_cons.2 ⟨Tryd.call36, List.forall_mem_cons.2 ⟨Tryd.call37, List.forall_mem_cons.2 ⟨Tryd.call38, by simp⟩⟩⟩) (by kernel_rfl)) Tryd.func22 (by kernel_rfl) LL impl_countFlatParts_an ?_
  intro avs H r H' h
  unfold F_impl_countFlatParts at h
  split at h
  · refine Awp.cast ?_ ?_ ?_ (impl_countFlatParts_e h) <;> kernel_rfl
  · simp [Ans.no, Ans.run] at h

/-! loop.example/headtrees/impl.CountFlat -/

def impl_CountFlat_an : Ann := (.seq (.leaf [0]) (.seq (.seq (.leaf [0, 8]) (.cond (.seq (.leaf [2]) (.leaf [2])) (.leaf [0]))) (.seq (.leaf [2]) (.leaf [2]))))

noncomputable def impl_CountFlat_ctx : Ctx := ⟨tlook tys, olook [(22, F_impl_countFlatParts)], ioF, 0⟩

theorem impl_CountFlat_n1_l (x415 : Int) : Link impl_CountFlat_ctx LL (bodyOf Tryd.f16) impl_CountFlat_an (⟨mkE 13 0 [(0, .dat (.int .i64) x415)], []⟩ : St) (impl_CountFlat_n1 x415) (fun (t : Int) => (Exit.ret, (⟨mkE 13 0 [(2, .dat (.int .i64) t)], []⟩ : St))) := by
  refine Link.of fun K h => ?_
  simp only [impl_CountFlat_n1, wpO_bind, wpO_cond, wpO_map, wpO_some] at h
  exact Awp.of (by kernel_rfl) h

theorem impl_CountFlat_e (x415 : Int) {r : AV} {H' : Heap} (h : (Ans.mk _ (impl_CountFlat x415) (fun (t : Int) => (.dat (.int .i64) t, []))).run = some (r, H')) : Awp impl_CountFlat_ctx LL (bodyOf Tryd.f16) impl_CountFlat_an (⟨mkE 13 0 [(0, .dat (.int .i64) x415)], []⟩ : St) (Ret (tlook tys) Tryd.f16.results.toList r H') :=
  ret_of' (impl_CountFlat_n1_l x415) (by unfold impl_CountFlat; kernel_rfl) (by
  intro t
  exact ret_mk [.dat (.int .i64) t] (by kernel_rfl) (by kernel_rfl) (by kernel_rfl) (by kernel_rfl)) h

def F_impl_CountFlat : Fun := fun avs H =>
  match avs, H with
  | [.dat (.int .i64) x415], [] => ⟨_, impl_CountFlat x415, fun (t : Int) => (.dat (.int .i64) t, [])⟩
  | _, _ => Ans.no

theorem impl_CountFlat_sound : Sound Tryd.prog 16 F_impl_CountFlat := by
  refine fn_sound' (C := impl_CountFlat_ctx) (c := bodyOf Tryd.f16) (cok_of tys_ok (List.forall_mem_cons.2 ⟨impl_countFlatParts_sound, by simp⟩) (List.forall_mem_cons.2 ⟨Tryd.call22, by simp⟩) (by kernel_rfl)) Tryd.func16 (by kernel_rfl) LL impl_CountFlat_an ?_
  intro avs H r H' h
  unfold F_impl_CountFlat at h
  split at h
  · refine Awp.cast ?_ ?_ ?_ (impl_CountFlat_e _ h) <;> kernel_rfl
  · simp [Ans.no, Ans.run] at h

/-! (loop.example/headtrees/impl.joins).partsOf -/

def impl_joins_partsOf_an : Ann := (.seq (.leaf [1, 2, 3, 6, 7]) (.seq (.leaf [1, 2, 3, 6, 7, 8]) (.seq (.block (.loop (.seq (.seq (.leaf [1, 2, 3, 6, 7, 8, 16]) (.cond (.leaf [1, 2, 3, 6, 7, 8]) (.leaf [1, 2, 3, 6, 7, 8]))) (.block (.leaf [1, 2, 3, 6, 7, 8]))))) (.seq (.leaf [1, 2, 3, 6, 7, 8]) (.seq (.leaf [1, 2, 6, 7, 8, 9]) (.seq (.draw [] [0, 1, 2, 3, 4, 5, 6, 7, 8, 9, 10, 11, 12, 13] [] [6, 7]) (.leaf [6, 7])))))))

noncomputable def impl_joins_partsOf_ctx : Ctx := ⟨tlook tys, olook [(57, F_impl_joins_below)], ioF, 0⟩

theorem impl_joins_partsOf_n1_l (x758 : Int) (x759 : Int) (x760 : Int) (x761 : Int) (x762 : Int) (x763 : Int) (x764 : Int) (x765 : Int) (x766 : Int) (x767 : Int) (x768 : Int) (x769 : Int) (x770 : Int) (x771 : Int) (x772 : Int) (x773 : Int) : Link impl_joins_partsOf_ctx LL (Code.seq (Code.fst (bodyOf Tryd.f39)) (Code.fst (Code.snd (bodyOf Tryd.f39)))) (Ann.seq (Ann.fst impl_joins_partsOf_an) (Ann.fst (Ann.snd impl_joins_partsOf_an))) (⟨mkE 43 0 [(0, .agg [.dat (.int .i64) x758, .dat (.int .i64) x759, .dat (.int .i64) x760, .dat (.int .i64) x761, .dat (.int .i64) x762, .dat (.int .i64) x763, .dat (.int .i64) x764, .dat (.int .i64) x765, .dat (.int .i64) x766, .dat (.int .i64) x767, .dat (.int .i64) x768, .dat (.int .i64) x769, .dat (.int .i64) x770, .dat (.int .i64) x771]), (1, .dat (.int .i64) x772), (2, .dat (.int .i64) x773)], []⟩ : St) (impl_joins_partsOf_n1) (fun (t : Unit) => (Exit.normal, (⟨mkE 43 0 [(1, .dat (.int .i64) x772), (2, .dat (.int .i64) x773), (3, .ptr 0 0), (6, .ptr 1 0), (7, .ptr 2 0), (8, .dat (.int .i64) 0)], [some (.box [.dat (.int .i64) x758, .dat (.int .i64) x759, .dat (.int .i64) x760, .dat (.int .i64) x761, .dat (.int .i64) x762, .dat (.int .i64) x763, .dat (.int .i64) x764, .dat (.int .i64) x765, .dat (.int .i64) x766, .dat (.int .i64) x767, .dat (.int .i64) x768, .dat (.int .i64) x769, .dat (.int .i64) x770, .dat (.int .i64) x771]), some (.box [.dat (.int .i64) 0, .dat (.int .i64) 0]), some (.box [.dat (.int .i64) 0, .dat (.int .i64) 0])]⟩ : St))) := by
  refine Link.of fun K h => ?_
  simp only [impl_joins_partsOf_n1, wpO_bind, wpO_cond, wpO_map, wpO_some] at h
  exact Awp.of (by kernel_rfl) h

theorem impl_joins_partsOf_n2_l (x772 : Int) (x773 : Int) (x781 : Int) (x758 : Int) (x759 : Int) (x760 : Int) (x761 : Int) (x762 : Int) (x763 : Int) (x764 : Int) (x765 : Int) (x766 : Int) (x767 : Int) (x768 : Int) (x769 : Int) (x770 : Int) (x771 : Int) : Link impl_joins_partsOf_ctx LL (Code.fst (Code.fst (Code.fst (Code.snd (Code.snd (bodyOf Tryd.f39)))))) (Ann.fst (Ann.fst (Ann.fst (Ann.snd (Ann.snd impl_joins_partsOf_an))))) (⟨mkE 43 0 [(1, .dat (.int .i64) x772), (2, .dat (.int .i64) x773), (3, .ptr 0 0), (6, .ptr 1 0), (7, .ptr 2 0), (8, .dat (.int .i64) x781)], [some (.box [.dat (.int .i64) x758, .dat (.int .i64) x759, .dat (.int .i64) x760, .dat (.int .i64) x761, .dat (.int .i64) x762, .dat (.int .i64) x763, .dat (.int .i64) x764, .dat (.int .i64) x765, .dat (.int .i64) x766, .dat (.int .i64) x767, .dat (.int .i64) x768, .dat (.int .i64) x769, .dat (.int .i64) x770, .dat (.int .i64) x771]), some (.box [.dat (.int .i64) 0, .dat (.int .i64) 0]), some (.box [.dat (.int .i64) 0, .dat (.int .i64) 0])]⟩ : St) (impl_joins_partsOf_n2 x772 x773 x781 x758 x759 x760 x761 x762 x763 x764 x765 x766 x767 x768 x769 x770 x771) (Sum.elim (fun (t : Int) => (Exit.normal, (⟨mkE 43 0 [(1, .dat (.int .i64) x772), (2, .dat (.int .i64) x773), (3, .ptr 0 0), (6, .ptr 1 0), (7, .ptr 2 0), (8, .dat (.int .i64) t)], [some (.box [.dat (.int .i64) x758, .dat (.int .i64) x759, .dat (.int .i64) x760, .dat (.int .i64) x761, .dat (.int .i64) x762, .dat (.int .i64) x763, .dat (.int .i64) x764, .dat (.int .i64) x765, .dat (.int .i64) x766, .dat (.int .i64) x767, .dat (.int .i64) x768, .dat (.int .i64) x769, .dat (.int .i64) x770, .dat (.int .i64) x771]), some (.box [.dat (.int .i64) 0, .dat (.int .i64) 0]), some (.box [.dat (.int .i64) 0, .dat (.int .i64) 0])]⟩ : St))) (fun (t : Int) => ((Exit.exit 0), (⟨mkE 43 0 [(1, .dat (.int .i64) x772), (2, .dat (.int .i64) x773), (3, .ptr 0 0), (6, .ptr 1 0), (7, .ptr 2 0), (8, .dat (.int .i64) t)], [some (.box [.dat (.int .i64) x758, .dat (.int .i64) x759, .dat (.int .i64) x760, .dat (.int .i64) x761, .dat (.int .i64) x762, .dat (.int .i64) x763, .dat (.int .i64) x764, .dat (.int .i64) x765, .dat (.int .i64) x766, .dat (.int .i64) x767, .dat (.int .i64) x768, .dat (.int .i64) x769, .dat (.int .i64) x770, .dat (.int .i64) x771]), some (.box [.dat (.int .i64) 0, .dat (.int .i64) 0]), some (.box [.dat (.int .i64) 0, .dat (.int .i64) 0])]⟩ : St)))) := by
  refine Link.of fun K h => ?_
  simp only [impl_joins_partsOf_n2, wpO_bind, wpO_cond, wpO_map, wpO_some] at h
  exact Awp.of (by kernel_rfl) h

theorem impl_joins_partsOf_n3_l (x772 : Int) (x773 : Int) (x758 : Int) (x759 : Int) (x760 : Int) (x761 : Int) (x762 : Int) (x763 : Int) (x764 : Int) (x765 : Int) (x766 : Int) (x767 : Int) (x768 : Int) (x769 : Int) (x770 : Int) (x771 : Int) : Link impl_joins_partsOf_ctx LL (Code.fst (Code.fst (Code.snd (Code.snd (bodyOf Tryd.f39))))) (Ann.fst (Ann.fst (Ann.snd (Ann.snd impl_joins_partsOf_an)))) (⟨mkE 43 0 [(1, .dat (.int .i64) x772), (2, .dat (.int .i64) x773), (3, .ptr 0 0), (6, .ptr 1 0), (7, .ptr 2 0), (8, .dat (.int .i64) 0)], [some (.box [.dat (.int .i64) x758, .dat (.int .i64) x759, .dat (.int .i64) x760, .dat (.int .i64) x761, .dat (.int .i64) x762, .dat (.int .i64) x763, .dat (.int .i64) x764, .dat (.int .i64) x765, .dat (.int .i64) x766, .dat (.int .i64) x767, .dat (.int .i64) x768, .dat (.int .i64) x769, .dat (.int .i64) x770, .dat (.int .i64) x771]), some (.box [.dat (.int .i64) 0, .dat (.int .i64) 0]), some (.box [.dat (.int .i64) 0, .dat (.int .i64) 0])]⟩ : St) (impl_joins_partsOf_n3 x772 x773 x758 x759 x760 x761 x762 x763 x764 x765 x766 x767 x768 x769 x770 x771) (fun (t : Int) => ((Exit.exit 0), (⟨mkE 43 0 [(1, .dat (.int .i64) x772), (2, .dat (.int .i64) x773), (3, .ptr 0 0), (6, .ptr 1 0), (7, .ptr 2 0), (8, .dat (.int .i64) t)], [some (.box [.dat (.int .i64) x758, .dat (.int .i64) x759, .dat (.int .i64) x760, .dat (.int .i64) x761, .dat (.int .i64) x762, .dat (.int .i64) x763, .dat (.int .i64) x764, .dat (.int .i64) x765, .dat (.int .i64) x766, .dat (.int .i64) x767, .dat (.int .i64) x768, .dat (.int .i64) x769, .dat (.int .i64) x770, .dat (.int .i64) x771]), some (.box [.dat (.int .i64) 0, .dat (.int .i64) 0]), some (.box [.dat (.int .i64) 0, .dat (.int .i64) 0])]⟩ : St))) := by
  unfold impl_joins_partsOf_n3
  exact Link.cast (by kernel_rfl) (by kernel_rfl) (link_loop (mk := fun (s : Int) => (⟨mkE 43 0 [(1, .dat (.int .i64) x772), (2, .dat (.int .i64) x773), (3, .ptr 0 0), (6, .ptr 1 0), (7, .ptr 2 0), (8, .dat (.int .i64) s)], [some (.box [.dat (.int .i64) x758, .dat (.int .i64) x759, .dat (.int .i64) x760, .dat (.int .i64) x761, .dat (.int .i64) x762, .dat (.int .i64) x763, .dat (.int .i64) x764, .dat (.int .i64) x765, .dat (.int .i64) x766, .dat (.int .i64) x767, .dat (.int .i64) x768, .dat (.int .i64) x769, .dat (.int .i64) x770, .dat (.int .i64) x771]), some (.box [.dat (.int .i64) 0, .dat (.int .i64) 0]), some (.box [.dat (.int .i64) 0, .dat (.int .i64) 0])]⟩ : St)) (fin := (fun (t : Int) => ((Exit.exit 0), (⟨mkE 43 0 [(1, .dat (.int .i64) x772), (2, .dat (.int .i64) x773), (3, .ptr 0 0), (6, .ptr 1 0), (7, .ptr 2 0), (8, .dat (.int .i64) t)], [some (.box [.dat (.int .i64) x758, .dat (.int .i64) x759, .dat (.int .i64) x760, .dat (.int .i64) x761, .dat (.int .i64) x762, .dat (.int .i64) x763, .dat (.int .i64) x764, .dat (.int .i64) x765, .dat (.int .i64) x766, .dat (.int .i64) x767, .dat (.int .i64) x768, .dat (.int .i64) x769, .dat (.int .i64) x770, .dat (.int .i64) x771]), some (.box [.dat (.int .i64) 0, .dat (.int .i64) 0]), some (.box [.dat (.int .i64) 0, .dat (.int .i64) 0])]⟩ : St)))) (by
  rintro t f K h
  · exact h) (fun s => link_map (impl_joins_partsOf_n2_l x772 x773 s x758 x759 x760 x761 x762 x763 x764 x765 x766 x767 x768 x769 x770 x771) (Sum.elim (fun (t : Int) => Sum.inl t) (fun (t : Int) => Sum.inr t)) (by
  rintro (t | t)
  · kernel_rfl
  · kernel_rfl)) 0)

theorem impl_joins_partsOf_n4_l (x772 : Int) (x773 : Int) (x758 : Int) (x759 : Int) (x760 : Int) (x761 : Int) (x762 : Int) (x763 : Int) (x764 : Int) (x765 : Int) (x766 : Int) (x767 : Int) (x768 : Int) (x769 : Int) (x770 : Int) (x771 : Int) : Link impl_joins_partsOf_ctx LL (Code.fst (Code.snd (Code.snd (bodyOf Tryd.f39)))) (Ann.fst (Ann.snd (Ann.snd impl_joins_partsOf_an))) (⟨mkE 43 0 [(1, .dat (.int .i64) x772), (2, .dat (.int .i64) x773), (3, .ptr 0 0), (6, .ptr 1 0), (7, .ptr 2 0), (8, .dat (.int .i64) 0)], [some (.box [.dat (.int .i64) x758, .dat (.int .i64) x759, .dat (.int .i64) x760, .dat (.int .i64) x761, .dat (.int .i64) x762, .dat (.int .i64) x763, .dat (.int .i64) x764, .dat (.int .i64) x765, .dat (.int .i64) x766, .dat (.int .i64) x767, .dat (.int .i64) x768, .dat (.int .i64) x769, .dat (.int .i64) x770, .dat (.int .i64) x771]), some (.box [.dat (.int .i64) 0, .dat (.int .i64) 0]), some (.box [.dat (.int .i64) 0, .dat (.int .i64) 0])]⟩ : St) (impl_joins_partsOf_n4 x772 x773 x758 x759 x760 x761 x762 x763 x764 x765 x766 x767 x768 x769 x770 x771) (fun (t : Int) => (Exit.normal, (⟨mkE 43 0 [(1, .dat (.int .i64) x772), (2, .dat (.int .i64) x773), (3, .ptr 0 0), (6, .ptr 1 0), (7, .ptr 2 0), (8, .dat (.int .i64) t)], [some (.box [.dat (.int .i64) x758, .dat (.int .i64) x759, .dat (.int .i64) x760, .dat (.int .i64) x761, .dat (.int .i64) x762, .dat (.int .i64) x763, .dat (.int .i64) x764, .dat (.int .i64) x765, .dat (.int .i64) x766, .dat (.int .i64) x767, .dat (.int .i64) x768, .dat (.int .i64) x769, .dat (.int .i64) x770, .dat (.int .i64) x771]), some (.box [.dat (.int .i64) 0, .dat (.int .i64) 0]), some (.box [.dat (.int .i64) 0, .dat (.int .i64) 0])]⟩ : St))) := by
  unfold impl_joins_partsOf_n4
  exact Link.cast (by kernel_rfl) (by kernel_rfl) (link_block (id := 0) (impl_joins_partsOf_n3_l x772 x773 x758 x759 x760 x761 x762 x763 x764 x765 x766 x767 x768 x769 x770 x771) (fun (t : Int) => t) (by
  rintro t K h
  · exact Eq.mp (by kernel_rfl) h))

theorem impl_joins_partsOf_n5_l (x772 : Int) (x773 : Int) (x781 : Int) (x758 : Int) (x759 : Int) (x760 : Int) (x761 : Int) (x762 : Int) (x763 : Int) (x764 : Int) (x765 : Int) (x766 : Int) (x767 : Int) (x768 : Int) (x769 : Int) (x770 : Int) (x771 : Int) : Link impl_joins_partsOf_ctx LL (Code.snd (Code.snd (Code.snd (bodyOf Tryd.f39)))) (Ann.snd (Ann.snd (Ann.snd impl_joins_partsOf_an))) (⟨mkE 43 0 [(1, .dat (.int .i64) x772), (2, .dat (.int .i64) x773), (3, .ptr 0 0), (6, .ptr 1 0), (7, .ptr 2 0), (8, .dat (.int .i64) x781)], [some (.box [.dat (.int .i64) x758, .dat (.int .i64) x759, .dat (.int .i64) x760, .dat (.int .i64) x761, .dat (.int .i64) x762, .dat (.int .i64) x763, .dat (.int .i64) x764, .dat (.int .i64) x765, .dat (.int .i64) x766, .dat (.int .i64) x767, .dat (.int .i64) x768, .dat (.int .i64) x769, .dat (.int .i64) x770, .dat (.int .i64) x771]), some (.box [.dat (.int .i64) 0, .dat (.int .i64) 0]), some (.box [.dat (.int .i64) 0, .dat (.int .i64) 0])]⟩ : St) (impl_joins_partsOf_n5 x772 x773 x781 x758 x759 x760 x761 x762 x763 x764 x765 x766 x767 x768 x769 x770 x771) (fun (t : Int × Int × Int × Int) => (Exit.ret, (⟨mkE 43 0 [(6, .ptr 0 0), (7, .ptr 1 0)], [some (.box [.dat (.int .i64) t.1, .dat (.int .i64) t.2.1]), some (.box [.dat (.int .i64) t.2.2.1, .dat (.int .i64) t.2.2.2])]⟩ : St))) := by
  refine Link.of fun K h => ?_
  simp only [impl_joins_partsOf_n5, wpO_bind, wpO_cond, wpO_map, wpO_some] at h
  exact Awp.of (by kernel_rfl) h

theorem impl_joins_partsOf_n6_l (x772 : Int) (x773 : Int) (x758 : Int) (x759 : Int) (x760 : Int) (x761 : Int) (x762 : Int) (x763 : Int) (x764 : Int) (x765 : Int) (x766 : Int) (x767 : Int) (x768 : Int) (x769 : Int) (x770 : Int) (x771 : Int) : Link impl_joins_partsOf_ctx LL (Code.snd (Code.snd (bodyOf Tryd.f39))) (Ann.snd (Ann.snd impl_joins_partsOf_an)) (⟨mkE 43 0 [(1, .dat (.int .i64) x772), (2, .dat (.int .i64) x773), (3, .ptr 0 0), (6, .ptr 1 0), (7, .ptr 2 0), (8, .dat (.int .i64) 0)], [some (.box [.dat (.int .i64) x758, .dat (.int .i64) x759, .dat (.int .i64) x760, .dat (.int .i64) x761, .dat (.int .i64) x762, .dat (.int .i64) x763, .dat (.int .i64) x764, .dat (.int .i64) x765, .dat (.int .i64) x766, .dat (.int .i64) x767, .dat (.int .i64) x768, .dat (.int .i64) x769, .dat (.int .i64) x770, .dat (.int .i64) x771]), some (.box [.dat (.int .i64) 0, .dat (.int .i64) 0]), some (.box [.dat (.int .i64) 0, .dat (.int .i64) 0])]⟩ : St) (impl_joins_partsOf_n6 x772 x773 x758 x759 x760 x761 x762 x763 x764 x765 x766 x767 x768 x769 x770 x771) (fun (t : Int × Int × Int × Int) => (Exit.ret, (⟨mkE 43 0 [(6, .ptr 0 0), (7, .ptr 1 0)], [some (.box [.dat (.int .i64) t.1, .dat (.int .i64) t.2.1]), some (.box [.dat (.int .i64) t.2.2.1, .dat (.int .i64) t.2.2.2])]⟩ : St))) := by
  unfold impl_joins_partsOf_n6
  exact Link.cast (by kernel_rfl) (by kernel_rfl) (link_seq (b := (Code.snd (Code.snd (Code.snd (bodyOf Tryd.f39))))) (y := (Ann.snd (Ann.snd (Ann.snd impl_joins_partsOf_an)))) (impl_joins_partsOf_n4_l x772 x773 x758 x759 x760 x761 x762 x763 x764 x765 x766 x767 x768 x769 x770 x771) (fun (t : Int) => (impl_joins_partsOf_n5_l x772 x773 t x758 x759 x760 x761 x762 x763 x764 x765 x766 x767 x768 x769 x770 x771)))

theorem impl_joins_partsOf_n7_l (x758 : Int) (x759 : Int) (x760 : Int) (x761 : Int) (x762 : Int) (x763 : Int) (x764 : Int) (x765 : Int) (x766 : Int) (x767 : Int) (x768 : Int) (x769 : Int) (x770 : Int) (x771 : Int) (x772 : Int) (x773 : Int) : Link impl_joins_partsOf_ctx LL (bodyOf Tryd.f39) impl_joins_partsOf_an (⟨mkE 43 0 [(0, .agg [.dat (.int .i64) x758, .dat (.int .i64) x759, .dat (.int .i64) x760, .dat (.int .i64) x761, .dat (.int .i64) x762, .dat (.int .i64) x763, .dat (.int .i64) x764, .dat (.int .i64) x765, .dat (.int .i64) x766, .dat (.int .i64) x767, .dat (.int .i64) x768, .dat (.int .i64) x769, .dat (.int .i64) x770, .dat (.int .i64) x771]), (1, .dat (.int .i64) x772), (2, .dat (.int .i64) x773)], []⟩ : St) (impl_joins_partsOf_n7 x758 x759 x760 x761 x762 x763 x764 x765 x766 x767 x768 x769 x770 x771 x772 x773) (fun (t : Int × Int × Int × Int) => (Exit.ret, (⟨mkE 43 0 [(6, .ptr 0 0), (7, .ptr 1 0)], [some (.box [.dat (.int .i64) t.1, .dat (.int .i64) t.2.1]), some (.box [.dat (.int .i64) t.2.2.1, .dat (.int .i64) t.2.2.2])]⟩ : St))) := by
  unfold impl_joins_partsOf_n7
  exact Link.cast (by kernel_rfl) (by kernel_rfl) (link_group (c := (Code.fst (Code.snd (bodyOf Tryd.f39)))) (a := (Ann.fst (Ann.snd impl_joins_partsOf_an))) [(Code.fst (bodyOf Tryd.f39))] [(Ann.fst impl_joins_partsOf_an)] rfl (link_seq (b := (Code.snd (Code.snd (bodyOf Tryd.f39)))) (y := (Ann.snd (Ann.snd impl_joins_partsOf_an))) (impl_joins_partsOf_n1_l x758 x759 x760 x761 x762 x763 x764 x765 x766 x767 x768 x769 x770 x771 x772 x773) (fun (t : Unit) => (impl_joins_partsOf_n6_l x772 x773 x758 x759 x760 x761 x762 x763 x764 x765 x766 x767 x768 x769 x770 x771))))

theorem impl_joins_partsOf_e (x758 : Int) (x759 : Int) (x760 : Int) (x761 : Int) (x762 : Int) (x763 : Int) (x764 : Int) (x765 : Int) (x766 : Int) (x767 : Int) (x768 : Int) (x769 : Int) (x770 : Int) (x771 : Int) (x772 : Int) (x773 : Int) {r : AV} {H' : Heap} (h : (Ans.mk _ (impl_joins_partsOf x758 x759 x760 x761 x762 x763 x764 x765 x766 x767 x768 x769 x770 x771 x772 x773) (fun (t : Int × Int × Int × Int) => (.tup [.agg [.dat (.int .i64) t.1, .dat (.int .i64) t.2.1], .agg [.dat (.int .i64) t.2.2.1, .dat (.int .i64) t.2.2.2]], [some (.box [.dat (.int .i64) t.1, .dat (.int .i64) t.2.1]), some (.box [.dat (.int .i64) t.2.2.1, .dat (.int .i64) t.2.2.2])]))).run = some (r, H')) : Awp impl_joins_partsOf_ctx LL (bodyOf Tryd.f39) impl_joins_partsOf_an (⟨mkE 43 0 [(0, .agg [.dat (.int .i64) x758, .dat (.int .i64) x759, .dat (.int .i64) x760, .dat (.int .i64) x761, .dat (.int .i64) x762, .dat (.int .i64) x763, .dat (.int .i64) x764, .dat (.int .i64) x765, .dat (.int .i64) x766, .dat (.int .i64) x767, .dat (.int .i64) x768, .dat (.int .i64) x769, .dat (.int .i64) x770, .dat (.int .i64) x771]), (1, .dat (.int .i64) x772), (2, .dat (.int .i64) x773)], []⟩ : St) (Ret (tlook tys) Tryd.f39.results.toList r H') :=
  ret_of' (impl_joins_partsOf_n7_l x758 x759 x760 x761 x762 x763 x764 x765 x766 x767 x768 x769 x770 x771 x772 x773) (by unfold impl_joins_partsOf; kernel_rfl) (by
  intro t
  exact ret_mk [.agg [.dat (.int .i64) t.1, .dat (.int .i64) t.2.1], .agg [.dat (.int .i64) t.2.2.1, .dat (.int .i64) t.2.2.2]] (by kernel_rfl) (by kernel_rfl) (by kernel_rfl) (by kernel_rfl)) h

def F_impl_joins_partsOf : Fun := fun avs H =>
  match avs, H with
  | [.agg [.dat (.int .i64) x758, .dat (.int .i64) x759, .dat (.int .i64) x760, .dat (.int .i64) x761, .dat (.int .i64) x762, .dat (.int .i64) x763, .dat (.int .i64) x764, .dat (.int .i64) x765, .dat (.int .i64) x766, .dat (.int .i64) x767, .dat (.int .i64) x768, .dat (.int .i64) x769, .dat (.int .i64) x770, .dat (.int .i64) x771], .dat (.int .i64) x772, .dat (.int .i64) x773], [] => ⟨_, impl_joins_partsOf x758 x759 x760 x761 x762 x763 x764 x765 x766 x767 x768 x769 x770 x771 x772 x773, fun (t : Int × Int × Int × Int) => (.tup [.agg [.dat (.int .i64) t.1, .dat (.int .i64) t.2.1], .agg [.dat (.int .i64) t.2.2.1, .dat (.int .i64) t.2.2.2]], [some (.box [.dat (.int .i64) t.1, .dat (.int .i64) t.2.1]), some (.box [.dat (.int .i64) t.2.2.1, .dat (.int .i64) t.2.2.2])])⟩
  | _, _ => Ans.no

theorem impl_joins_partsOf_sound : Sound Tryd.prog 39 F_impl_joins_partsOf := by
  refine fn_sound' (C := impl_joins_partsOf_ctx) (c := bodyOf Tryd.f39) (cok_of tys_ok (List.forall_mem_cons.2 ⟨impl_joins_below_sound, by simp⟩) (List.forall_mem_cons.2 ⟨Tryd.call57, by simp⟩) (by kernel_rfl)) Tryd.func39 (by kernel_rfl) LL impl_joins_partsOf_an ?_
  intro avs H r H' h
  unfold F_impl_joins_partsOf at h
  split at h
  · refine Awp.cast ?_ ?_ ?_ (impl_joins_partsOf_e _ _ _ _ _ _ _ _ _ _ _ _ _ _ _ _ h) <;> kernel_rfl
  · simp [Ans.no, Ans.run] at h

/-! (loop.example/headtrees/impl.flatCounts).tellTree, (loop.example/headtrees/impl.flatCounts).tellRow -/

def impl_flatCounts_tellTree_an : Ann := (.seq (.leaf [1, 2, 4, 5, 8]) (.seq (.draw [1, 7] [0, 2, 3, 4, 5, 6, 1, 7, 8, 9, 10, 11, 12, 13, 14] [] [1, 2, 4, 5, 10, 11]) (.seq (.leaf [1, 2, 4, 5, 10, 11, 12]) (.seq (.leaf [1, 2, 5, 10, 11, 12]) (.seq (.leaf [1, 5, 11, 12]) (.leaf []))))))

def impl_flatCounts_tellRow_an : Ann := (.seq (.leaf [1, 2, 4, 5, 8]) (.seq (.seq (.leaf [1, 2, 4, 5, 8, 14]) (.cond (.leaf []) (.leaf [1, 2, 4, 5, 8]))) (.seq (.draw [1, 6] [0, 2, 3, 4, 5, 1, 6, 7, 8, 9, 10, 11, 12, 13] [] [1, 2, 4, 5, 10, 11]) (.seq (.leaf [1, 2, 4, 5, 10, 11]) (.leaf [])))))

def F_impl_flatCounts_tellTree_fuel (n : Nat) : Fun := fun avs H =>
  match avs, H with
  | [.agg [.dat (.int .i64) x737, .dat (.int .i64) x738, .dat (.int .i64) x739, .dat (.int .i64) x740, .dat (.int .i64) x741, .dat (.int .i64) x742, .dat (.int .i64) x743, .dat (.int .i64) x744, .dat (.int .i64) x745, .dat (.int .i64) x746, .dat (.int .i64) x747, .dat (.int .i64) x748, .dat (.int .i64) x749, .dat (.int .i64) x750], .slc 0, .dat (.int .i64) x751, .agg [.dat (.int .i64) x752, .dat (.int .i64) x753], .dat (.int .i64) x754], [some (.seq (.int .i64) x755)] => ⟨_, impl_flatCounts_tellTree_fuel n x737 x738 x739 x740 x741 x742 x743 x744 x745 x746 x747 x748 x749 x750 x751 x752 x753 x754 x755, fun (t : (List Int)) => (.tup [], [some (.seq (.int .i64) t)])⟩
  | _, _ => Ans.no

def F_impl_flatCounts_tellRow_fuel (n : Nat) : Fun := fun avs H =>
  match avs, H with
  | [.agg [.dat (.int .i64) x948, .dat (.int .i64) x949, .dat (.int .i64) x950, .dat (.int .i64) x951, .dat (.int .i64) x952, .dat (.int .i64) x953, .dat (.int .i64) x954, .dat (.int .i64) x955, .dat (.int .i64) x956, .dat (.int .i64) x957, .dat (.int .i64) x958, .dat (.int .i64) x959, .dat (.int .i64) x960, .dat (.int .i64) x961], .slc 0, .dat (.int .i64) x962, .agg [.dat (.int .i64) x963, .dat (.int .i64) x964], .dat (.int .i64) x965], [some (.seq (.int .i64) x966)] => ⟨_, impl_flatCounts_tellRow_fuel n x948 x949 x950 x951 x952 x953 x954 x955 x956 x957 x958 x959 x960 x961 x962 x963 x964 x965 x966, fun (t : (List Int)) => (.tup [], [some (.seq (.int .i64) t)])⟩
  | _, _ => Ans.no

noncomputable def impl_flatCounts_tellTree_ctx (n : Nat) : Ctx := ⟨tlook tys, olook [(36, F_impl_flatCounts_aroundRoots), (39, F_impl_joins_partsOf), (40, F_impl_flatCounts_tellRow_fuel n)], ioF, 1⟩

noncomputable def impl_flatCounts_tellRow_ctx (n : Nat) : Ctx := ⟨tlook tys, olook [(38, F_impl_flatCounts_inRows), (39, F_impl_joins_partsOf), (23, F_impl_flatCounts_tellTree_fuel n), (40, F_impl_flatCounts_tellRow_fuel n)], ioF, 1⟩

theorem impl_flatCounts_tellTree_n1_l (n : Nat) (x737 : Int) (x738 : Int) (x739 : Int) (x740 : Int) (x741 : Int) (x742 : Int) (x743 : Int) (x744 : Int) (x745 : Int) (x746 : Int) (x747 : Int) (x748 : Int) (x749 : Int) (x750 : Int) (x751 : Int) (x752 : Int) (x753 : Int) (x754 : Int) (x755 : List Int) : Link (impl_flatCounts_tellTree_ctx n) LL (bodyOf Tryd.f23) impl_flatCounts_tellTree_an (⟨mkE 46 0 [(0, .agg [.dat (.int .i64) x737, .dat (.int .i64) x738, .dat (.int .i64) x739, .dat (.int .i64) x740, .dat (.int .i64) x741, .dat (.int .i64) x742, .dat (.int .i64) x743, .dat (.int .i64) x744, .dat (.int .i64) x745, .dat (.int .i64) x746, .dat (.int .i64) x747, .dat (.int .i64) x748, .dat (.int .i64) x749, .dat (.int .i64) x750]), (1, .slc 0), (2, .dat (.int .i64) x751), (3, .agg [.dat (.int .i64) x752, .dat (.int .i64) x753]), (4, .dat (.int .i64) x754)], [some (.seq (.int .i64) x755)]⟩ : St) (impl_flatCounts_tellTree_n1 (impl_flatCounts_tellTree_fuel n) (impl_flatCounts_tellRow_fuel n) x737 x738 x739 x740 x741 x742 x743 x744 x745 x746 x747 x748 x749 x750 x751 x752 x753 x754 x755) (fun (t : (List Int)) => (Exit.normal, (⟨mkE 46 0 [], [some (.seq (.int .i64) t)]⟩ : St))) := by
  refine Link.of fun K h => ?_
  simp only [impl_flatCounts_tellTree_n1, wpO_bind, wpO_cond, wpO_map, wpO_some] at h
  exact Awp.of (by kernel_rfl) h

theorem impl_flatCounts_tellTree_e (n : Nat) (x737 : Int) (x738 : Int) (x739 : Int) (x740 : Int) (x741 : Int) (x742 : Int) (x743 : Int) (x744 : Int) (x745 : Int) (x746 : Int) (x747 : Int) (x748 : Int) (x749 : Int) (x750 : Int) (x751 : Int) (x752 : Int) (x753 : Int) (x754 : Int) (x755 : List Int) {r : AV} {H' : Heap} (h : (Ans.mk _ (impl_flatCounts_tellTree_fuel (n + 1) x737 x738 x739 x740 x741 x742 x743 x744 x745 x746 x747 x748 x749 x750 x751 x752 x753 x754 x755) (fun (t : (List Int)) => (.tup [], [some (.seq (.int .i64) t)]))).run = some (r, H')) : Awp (impl_flatCounts_tellTree_ctx n) LL (bodyOf Tryd.f23) impl_flatCounts_tellTree_an (⟨mkE 46 0 [(0, .agg [.dat (.int .i64) x737, .dat (.int .i64) x738, .dat (.int .i64) x739, .dat (.int .i64) x740, .dat (.int .i64) x741, .dat (.int .i64) x742, .dat (.int .i64) x743, .dat (.int .i64) x744, .dat (.int .i64) x745, .dat (.int .i64) x746, .dat (.int .i64) x747, .dat (.int .i64) x748, .dat (.int .i64) x749, .dat (.int .i64) x750]), (1, .slc 0), (2, .dat (.int .i64) x751), (3, .agg [.dat (.int .i64) x752, .dat (.int .i64) x753]), (4, .dat (.int .i64) x754)], [some (.seq (.int .i64) x755)]⟩ : St) (Ret (tlook tys) Tryd.f23.results.toList r H') :=
  ret_of (impl_flatCounts_tellTree_n1_l n x737 x738 x739 x740 x741 x742 x743 x744 x745 x746 x747 x748 x749 x750 x751 x752 x753 x754 x755) (fun (t : (List Int)) => t) (by (show _ = _); kernel_rfl) (by
  rintro t
  · exact ret_mk [] (by kernel_rfl) (by kernel_rfl) (by kernel_rfl) (by kernel_rfl)) h

theorem impl_flatCounts_tellRow_n1_l (n : Nat) (x948 : Int) (x949 : Int) (x950 : Int) (x951 : Int) (x952 : Int) (x953 : Int) (x954 : Int) (x955 : Int) (x956 : Int) (x957 : Int) (x958 : Int) (x959 : Int) (x960 : Int) (x961 : Int) (x962 : Int) (x963 : Int) (x964 : Int) (x965 : Int) (x966 : List Int) : Link (impl_flatCounts_tellRow_ctx n) LL (bodyOf Tryd.f40) impl_flatCounts_tellRow_an (⟨mkE 40 0 [(0, .agg [.dat (.int .i64) x948, .dat (.int .i64) x949, .dat (.int .i64) x950, .dat (.int .i64) x951, .dat (.int .i64) x952, .dat (.int .i64) x953, .dat (.int .i64) x954, .dat (.int .i64) x955, .dat (.int .i64) x956, .dat (.int .i64) x957, .dat (.int .i64) x958, .dat (.int .i64) x959, .dat (.int .i64) x960, .dat (.int .i64) x961]), (1, .slc 0), (2, .dat (.int .i64) x962), (3, .agg [.dat (.int .i64) x963, .dat (.int .i64) x964]), (4, .dat (.int .i64) x965)], [some (.seq (.int .i64) x966)]⟩ : St) (impl_flatCounts_tellRow_n1 (impl_flatCounts_tellTree_fuel n) (impl_flatCounts_tellRow_fuel n) x948 x949 x950 x951 x952 x953 x954 x955 x956 x957 x958 x959 x960 x961 x962 x963 x964 x965 x966) (Sum.elim (fun (t : (List Int)) => (Exit.normal, (⟨mkE 40 0 [], [some (.seq (.int .i64) t)]⟩ : St))) (fun (t : (List Int)) => (Exit.ret, (⟨mkE 40 0 [], [some (.seq (.int .i64) t)]⟩ : St)))) := by
  refine Link.of fun K h => ?_
  simp only [impl_flatCounts_tellRow_n1, wpO_bind, wpO_cond, wpO_map, wpO_some] at h
  exact Awp.of (by kernel_rfl) h

theorem impl_flatCounts_tellRow_e (n : Nat) (x948 : Int) (x949 : Int) (x950 : Int) (x951 : Int) (x952 : Int) (x953 : Int) (x954 : Int) (x955 : Int) (x956 : Int) (x957 : Int) (x958 : Int) (x959 : Int) (x960 : Int) (x961 : Int) (x962 : Int) (x963 : Int) (x964 : Int) (x965 : Int) (x966 : List Int) {r : AV} {H' : Heap} (h : (Ans.mk _ (impl_flatCounts_tellRow_fuel (n + 1) x948 x949 x950 x951 x952 x953 x954 x955 x956 x957 x958 x959 x960 x961 x962 x963 x964 x965 x966) (fun (t : (List Int)) => (.tup [], [some (.seq (.int .i64) t)]))).run = some (r, H')) : Awp (impl_flatCounts_tellRow_ctx n) LL (bodyOf Tryd.f40) impl_flatCounts_tellRow_an (⟨mkE 40 0 [(0, .agg [.dat (.int .i64) x948, .dat (.int .i64) x949, .dat (.int .i64) x950, .dat (.int .i64) x951, .dat (.int .i64) x952, .dat (.int .i64) x953, .dat (.int .i64) x954, .dat (.int .i64) x955, .dat (.int .i64) x956, .dat (.int .i64) x957, .dat (.int .i64) x958, .dat (.int .i64) x959, .dat (.int .i64) x960, .dat (.int .i64) x961]), (1, .slc 0), (2, .dat (.int .i64) x962), (3, .agg [.dat (.int .i64) x963, .dat (.int .i64) x964]), (4, .dat (.int .i64) x965)], [some (.seq (.int .i64) x966)]⟩ : St) (Ret (tlook tys) Tryd.f40.results.toList r H') :=
  ret_of (impl_flatCounts_tellRow_n1_l n x948 x949 x950 x951 x952 x953 x954 x955 x956 x957 x958 x959 x960 x961 x962 x963 x964 x965 x966) (Sum.elim (fun (t : (List Int)) => t) (fun (t : (List Int)) => t)) (by (show _ = _); kernel_rfl) (by
  rintro (t | t)
  · exact ret_mk [] (by kernel_rfl) (by kernel_rfl) (by kernel_rfl) (by kernel_rfl)
  · exact ret_mk [] (by kernel_rfl) (by kernel_rfl) (by kernel_rfl) (by kernel_rfl)) h

theorem impl_flatCounts_tellTree_step (n : Nat) (h23 : Sound Tryd.prog 23 (F_impl_flatCounts_tellTree_fuel n)) (h40 : Sound Tryd.prog 40 (F_impl_flatCounts_tellRow_fuel n)) : Sound Tryd.prog 23 (F_impl_flatCounts_tellTree_fuel (n + 1)) := by
  refine fn_sound' (C := impl_flatCounts_tellTree_ctx n) (c := bodyOf Tryd.f23) (cok_of tys_ok (List.forall_mem_cons.2 ⟨impl_flatCounts_aroundRoots_sound, List.forall_mem_cons.2 ⟨impl_joins_partsOf_sound, List.forall_mem_cons.2 ⟨h40, by simp⟩⟩⟩) (List.forall_mem_cons.2 ⟨Tryd.call36, List.forall_mem_cons.2 ⟨Tryd.call39, List.forall_mem_cons.2 ⟨Tryd.call40, by simp⟩⟩⟩) (by kernel_rfl)) Tryd.func23 (by kernel_rfl) LL impl_flatCounts_tellTree_an ?_
  intro avs H r H' h
  unfold F_impl_flatCounts_tellTree_fuel at h
  split at h
  · refine Awp.cast ?_ ?_ ?_ (impl_flatCounts_tellTree_e n _ _ _ _ _ _ _ _ _ _ _ _ _ _ _ _ _ _ _ h) <;> kernel_rfl
  · simp [Ans.no, Ans.run] at h

theorem impl_flatCounts_tellTree_null : Sound Tryd.prog 23 (F_impl_flatCounts_tellTree_fuel 0) := by
  intro avs H r H' h
  unfold F_impl_flatCounts_tellTree_fuel at h
  split at h
  · simp [impl_flatCounts_tellTree_fuel, impl_flatCounts_tellTree_knot, Ans.run] at h
  · simp [Ans.no, Ans.run] at h

theorem impl_flatCounts_tellRow_step (n : Nat) (h23 : Sound Tryd.prog 23 (F_impl_flatCounts_tellTree_fuel n)) (h40 : Sound Tryd.prog 40 (F_impl_flatCounts_tellRow_fuel n)) : Sound Tryd.prog 40 (F_impl_flatCounts_tellRow_fuel (n + 1)) := by
  refine fn_sound' (C := impl_flatCounts_tellRow_ctx n) (c := bodyOf Tryd.f40) (cok_of tys_ok (List.forall_mem_cons.2 ⟨impl_flatCounts_inRows_sound, List.forall_mem_cons.2 ⟨impl_joins_partsOf_sound, List.forall_mem_cons.2 ⟨h23, List.forall_mem_cons.2 ⟨h40, by simp⟩⟩⟩⟩) (List.forall_mem_cons.2 ⟨Tryd.call38, List.forall_mem_cons.2 ⟨Tryd.call39, List.forall_mem_cons.2 ⟨Tryd.call23, List.forall_mem_cons.2 ⟨Tryd.call40, by simp⟩⟩⟩⟩) (by kernel_rfl)) Tryd.func40 (by kernel_rfl) LL impl_flatCounts_tellRow_an ?_
  intro avs H r H' h
  unfold F_impl_flatCounts_tellRow_fuel at h
  split at h
  · refine Awp.cast ?_ ?_ ?_ (impl_flatCounts_tellRow_e n _ _ _ _ _ _ _ _ _ _ _ _ _ _ _ _ _ _ _ h) <;> kernel_rfl
  · simp [Ans.no, Ans.run] at h

theorem impl_flatCounts_tellRow_null : Sound Tryd.prog 40 (F_impl_flatCounts_tellRow_fuel 0) := by
  intro avs H r H' h
  unfold F_impl_flatCounts_tellRow_fuel at h
  split at h
  · simp [impl_flatCounts_tellRow_fuel, impl_flatCounts_tellTree_knot, Ans.run] at h
  · simp [Ans.no, Ans.run] at h

theorem impl_flatCounts_tellTree_knot_all : ∀ n, Sound Tryd.prog 23 (F_impl_flatCounts_tellTree_fuel n) ∧ Sound Tryd.prog 40 (F_impl_flatCounts_tellRow_fuel n)
  | 0 => ⟨impl_flatCounts_tellTree_null, impl_flatCounts_tellRow_null⟩
  | n + 1 => by
    obtain ⟨h23, h40⟩ := impl_flatCounts_tellTree_knot_all n
    exact ⟨impl_flatCounts_tellTree_step n h23 h40, impl_flatCounts_tellRow_step n h23 h40⟩

def F_impl_flatCounts_tellTree : Fun := fun avs H =>
  match avs, H with
  | [.agg [.dat (.int .i64) x737, .dat (.int .i64) x738, .dat (.int .i64) x739, .dat (.int .i64) x740, .dat (.int .i64) x741, .dat (.int .i64) x742, .dat (.int .i64) x743, .dat (.int .i64) x744, .dat (.int .i64) x745, .dat (.int .i64) x746, .dat (.int .i64) x747, .dat (.int .i64) x748, .dat (.int .i64) x749, .dat (.int .i64) x750], .slc 0, .dat (.int .i64) x751, .agg [.dat (.int .i64) x752, .dat (.int .i64) x753], .dat (.int .i64) x754], [some (.seq (.int .i64) x755)] => ⟨_, impl_flatCounts_tellTree x737 x738 x739 x740 x741 x742 x743 x744 x745 x746 x747 x748 x749 x750 x751 x752 x753 x754 x755, fun (t : (List Int)) => (.tup [], [some (.seq (.int .i64) t)])⟩
  | _, _ => Ans.no

theorem impl_flatCounts_tellTree_sound : Sound Tryd.prog 23 F_impl_flatCounts_tellTree := by
  have e : F_impl_flatCounts_tellTree = F_impl_flatCounts_tellTree_fuel RR := by
    funext avs H
    unfold F_impl_flatCounts_tellTree F_impl_flatCounts_tellTree_fuel
    split <;> first | rfl | (simp only [impl_flatCounts_tellTree])
  rw [e]
  exact (impl_flatCounts_tellTree_knot_all RR).1

def F_impl_flatCounts_tellRow : Fun := fun avs H =>
  match avs, H with
  | [.agg [.dat (.int .i64) x948, .dat (.int .i64) x949, .dat (.int .i64) x950, .dat (.int .i64) x951, .dat (.int .i64) x952, .dat (.int .i64) x953, .dat (.int .i64) x954, .dat (.int .i64) x955, .dat (.int .i64) x956, .dat (.int .i64) x957, .dat (.int .i64) x958, .dat (.int .i64) x959, .dat (.int .i64) x960, .dat (.int .i64) x961], .slc 0, .dat (.int .i64) x962, .agg [.dat (.int .i64) x963, .dat (.int .i64) x964], .dat (.int .i64) x965], [some (.seq (.int .i64) x966)] => ⟨_, impl_flatCounts_tellRow x948 x949 x950 x951 x952 x953 x954 x955 x956 x957 x958 x959 x960 x961 x962 x963 x964 x965 x966, fun (t : (List Int)) => (.tup [], [some (.seq (.int .i64) t)])⟩
  | _, _ => Ans.no

theorem impl_flatCounts_tellRow_sound : Sound Tryd.prog 40 F_impl_flatCounts_tellRow := by
  have e : F_impl_flatCounts_tellRow = F_impl_flatCounts_tellRow_fuel RR := by
    funext avs H
    unfold F_impl_flatCounts_tellRow F_impl_flatCounts_tellRow_fuel
    split <;> first | rfl | (simp only [impl_flatCounts_tellRow])
  rw [e]
  exact (impl_flatCounts_tellTree_knot_all RR).2

/-! loop.example/headtrees/impl.FlatAt -/

def impl_FlatAt_an : Ann := (.seq (.leaf [0, 1]) (.seq (.seq (.leaf [0, 1, 14]) (.cond (.seq (.leaf [4, 5]) (.leaf [4, 5])) (.leaf [0, 1]))) (.seq (.leaf [0, 1, 6]) (.seq (.leaf [6]) (.seq (.leaf [4, 5]) (.leaf [4, 5]))))))

noncomputable def impl_FlatAt_ctx : Ctx := ⟨tlook tys, olook [(16, F_impl_CountFlat), (22, F_impl_countFlatParts), (23, F_impl_flatCounts_tellTree)], ioF, 0⟩

theorem impl_FlatAt_n1_l (x411 : Int) (x412 : Int) : Link impl_FlatAt_ctx LL (bodyOf Tryd.f7) impl_FlatAt_an (⟨mkE 24 0 [(0, .dat (.int .i64) x411), (1, .dat (.int .i64) x412)], []⟩ : St) (impl_FlatAt_n1 x411 x412) (fun (t : Bool × (List Int)) => (Exit.ret, (⟨mkE 24 0 [(4, .slc 0), (5, .dat .bool t.1)], [some (.seq (.int .i64) t.2)]⟩ : St))) := by
  refine Link.of fun K h => ?_
  simp only [impl_FlatAt_n1, wpO_bind, wpO_cond, wpO_map, wpO_some] at h
  exact Awp.of (by kernel_rfl) h

theorem impl_FlatAt_e (x411 : Int) (x412 : Int) {r : AV} {H' : Heap} (h : (Ans.mk _ (impl_FlatAt x411 x412) (fun (t : Bool × (List Int)) => (.tup [.slc 0, .dat .bool t.1], [some (.seq (.int .i64) t.2)]))).run = some (r, H')) : Awp impl_FlatAt_ctx LL (bodyOf Tryd.f7) impl_FlatAt_an (⟨mkE 24 0 [(0, .dat (.int .i64) x411), (1, .dat (.int .i64) x412)], []⟩ : St) (Ret (tlook tys) Tryd.f7.results.toList r H') :=
  ret_of' (impl_FlatAt_n1_l x411 x412) (by unfold impl_FlatAt; kernel_rfl) (by
  intro t
  exact ret_mk [.slc 0, .dat .bool t.1] (by kernel_rfl) (by kernel_rfl) (by kernel_rfl) (by kernel_rfl)) h

def F_impl_FlatAt : Fun := fun avs H =>
  match avs, H with
  | [.dat (.int .i64) x411, .dat (.int .i64) x412], [] => ⟨_, impl_FlatAt x411 x412, fun (t : Bool × (List Int)) => (.tup [.slc 0, .dat .bool t.1], [some (.seq (.int .i64) t.2)])⟩
  | _, _ => Ans.no

theorem impl_FlatAt_sound : Sound Tryd.prog 7 F_impl_FlatAt := by
  refine fn_sound' (C := impl_FlatAt_ctx) (c := bodyOf Tryd.f7) (cok_of tys_ok (List.forall_mem_cons.2 ⟨impl_CountFlat_sound, List.forall_mem_cons.2 ⟨impl_countFlatParts_sound, List.forall_mem_cons.2 ⟨impl_flatCounts_tellTree_sound, by simp⟩⟩⟩) (List.forall_mem_cons.2 ⟨Tryd.call16, List.forall_mem_cons.2 ⟨Tryd.call22, List.forall_mem_cons.2 ⟨Tryd.call23, by simp⟩⟩⟩) (by kernel_rfl)) Tryd.func7 (by kernel_rfl) LL impl_FlatAt_an ?_
  intro avs H r H' h
  unfold F_impl_FlatAt at h
  split at h
  · refine Awp.cast ?_ ?_ ?_ (impl_FlatAt_e _ _ h) <;> kernel_rfl
  · simp [Ans.no, Ans.run] at h

/-! loop.example/headtrees/spec.l4Tree, loop.example/headtrees/spec.l4Row -/

def spec_l4Tree_an : Ann := (.seq (.leaf [0, 1, 2, 3, 4, 10]) (.block (.loop (.seq (.seq (.leaf [0, 1, 2, 3, 4, 10, 16]) (.cond (.leaf [0, 1, 2, 3, 4, 10]) (.leaf []))) (.seq (.block (.seq (.leaf [0, 1, 2, 3, 4, 10, 11]) (.seq (.leaf [0, 1, 2, 3, 4, 10, 11, 12]) (.seq (.seq (.leaf [0, 1, 2, 3, 4, 10, 11, 12, 31]) (.cond (.seq (.leaf [0, 1, 2, 4, 10, 11]) (.seq (.leaf [0, 2, 4, 10, 11]) (.seq (.leaf []) (.leaf [])))) (.leaf [0, 1, 2, 3, 4, 10, 12]))) (.leaf [0, 1, 2, 3, 4, 10]))))) (.leaf [0, 1, 2, 3, 4, 10]))))))

def spec_l4Row_an : Ann := (.seq (.leaf [0, 1, 2, 3, 4, 10]) (.block (.loop (.seq (.seq (.leaf [0, 1, 2, 3, 4, 10, 16]) (.cond (.leaf [0, 1, 2, 3, 4, 10]) (.leaf []))) (.seq (.block (.seq (.leaf [0, 1, 2, 3, 4, 10, 11]) (.seq (.leaf [0, 1, 2, 3, 4, 10, 11, 12]) (.seq (.seq (.leaf [0, 1, 2, 3, 4, 10, 11, 12, 32]) (.cond (.seq (.leaf [0, 2, 3, 4, 10, 11]) (.seq (.leaf []) (.leaf []))) (.leaf [0, 1, 2, 3, 4, 10, 12]))) (.leaf [0, 1, 2, 3, 4, 10]))))) (.leaf [0, 1, 2, 3, 4, 10]))))))

def F_spec_l4Tree_fuel (n : Nat) : Fun := fun avs H =>
  match avs, H with
  | [.slc 0, .dat (.int .i64) x1141, .dat (.int .i64) x1142, .dat (.int .i64) x1143, .dat (.int .i64) x1144], [some (.seq (.int .i64) x1145)] => ⟨_, spec_l4Tree_fuel n x1141 x1142 x1143 x1144 x1145, fun (t : (List Int)) => (.tup [], [some (.seq (.int .i64) t)])⟩
  | _, _ => Ans.no

def F_spec_l4Row_fuel (n : Nat) : Fun := fun avs H =>
  match avs, H with
  | [.slc 0, .dat (.int .i64) x1331, .dat (.int .i64) x1332, .dat (.int .i64) x1333, .dat (.int .i64) x1334], [some (.seq (.int .i64) x1335)] => ⟨_, spec_l4Row_fuel n x1331 x1332 x1333 x1334 x1335, fun (t : (List Int)) => (.tup [], [some (.seq (.int .i64) t)])⟩
  | _, _ => Ans.no

noncomputable def spec_l4Tree_ctx (n : Nat) : Ctx := ⟨tlook tys, olook [(41, F_spec_l4Rows), (42, F_spec_l4Row_fuel n)], ioF, 1⟩

noncomputable def spec_l4Row_ctx (n : Nat) : Ctx := ⟨tlook tys, olook [(41, F_spec_l4Rows), (25, F_spec_l4Flat), (26, F_spec_l4Tree_fuel n), (42, F_spec_l4Row_fuel n)], ioF, 1⟩

theorem spec_l4Tree_n1_l (n : Nat) (x1141 : Int) (x1142 : Int) (x1143 : Int) (x1144 : Int) (x1145 : List Int) : Link (spec_l4Tree_ctx n) LL (Code.fst (bodyOf Tryd.f26)) (Ann.fst spec_l4Tree_an) (⟨mkE 58 0 [(0, .slc 0), (1, .dat (.int .i64) x1141), (2, .dat (.int .i64) x1142), (3, .dat (.int .i64) x1143), (4, .dat (.int .i64) x1144)], [some (.seq (.int .i64) x1145)]⟩ : St) (spec_l4Tree_n1 (spec_l4Tree_fuel n) (spec_l4Row_fuel n)) (fun (t : Unit) => (Exit.normal, (⟨mkE 58 0 [(0, .slc 0), (1, .dat (.int .i64) x1141), (2, .dat (.int .i64) x1142), (3, .dat (.int .i64) x1143), (4, .dat (.int .i64) x1144), (10, .dat (.int .i64) x1141)], [some (.seq (.int .i64) x1145)]⟩ : St))) := by
  refine Link.of fun K h => ?_
  simp only [spec_l4Tree_n1, wpO_bind, wpO_cond, wpO_map, wpO_some] at h
  exact Awp.of (by kernel_rfl) h

theorem spec_l4Tree_n2_l (n : Nat) (x1141 : Int) (x1142 : Int) (x1143 : Int) (x1543 : Int) (x1544 : Int) (x1145 : List Int) : Link (spec_l4Tree_ctx n) LL (Code.fst (Code.fst (Code.snd (bodyOf Tryd.f26)))) (Ann.fst (Ann.fst (Ann.snd spec_l4Tree_an))) (⟨mkE 58 0 [(0, .slc 0), (1, .dat (.int .i64) x1141), (2, .dat (.int .i64) x1142), (3, .dat (.int .i64) x1143), (4, .dat (.int .i64) x1543), (10, .dat (.int .i64) x1544)], [some (.seq (.int .i64) x1145)]⟩ : St) (spec_l4Tree_n2 (spec_l4Tree_fuel n) (spec_l4Row_fuel n) x1141 x1142 x1143 x1543 x1544 x1145) (Sum.elim (fun (t : Int × Int) => (Exit.normal, (⟨mkE 58 0 [(0, .slc 0), (1, .dat (.int .i64) x1141), (2, .dat (.int .i64) x1142), (3, .dat (.int .i64) x1143), (4, .dat (.int .i64) t.1), (10, .dat (.int .i64) t.2)], [some (.seq (.int .i64) x1145)]⟩ : St))) (Sum.elim (fun (t : (List Int)) => (Exit.ret, (⟨mkE 58 0 [], [some (.seq (.int .i64) t)]⟩ : St))) (fun (t : Unit) => ((Exit.exit 0), (⟨mkE 58 0 [], [some (.seq (.int .i64) x1145)]⟩ : St))))) := by
  refine Link.of fun K h => ?_
  simp only [spec_l4Tree_n2, wpO_bind, wpO_cond, wpO_map, wpO_some] at h
  exact Awp.of (by kernel_rfl) h

theorem spec_l4Tree_n3_l (n : Nat) (x1141 : Int) (x1142 : Int) (x1143 : Int) (x1144 : Int) (x1145 : List Int) : Link (spec_l4Tree_ctx n) LL (Code.fst (Code.snd (bodyOf Tryd.f26))) (Ann.fst (Ann.snd spec_l4Tree_an)) (⟨mkE 58 0 [(0, .slc 0), (1, .dat (.int .i64) x1141), (2, .dat (.int .i64) x1142), (3, .dat (.int .i64) x1143), (4, .dat (.int .i64) x1144), (10, .dat (.int .i64) x1141)], [some (.seq (.int .i64) x1145)]⟩ : St) (spec_l4Tree_n3 (spec_l4Tree_fuel n) (spec_l4Row_fuel n) x1141 x1142 x1143 x1144 x1145) (Sum.elim (fun (t : (List Int)) => (Exit.ret, (⟨mkE 58 0 [], [some (.seq (.int .i64) t)]⟩ : St))) (fun (t : Unit) => ((Exit.exit 0), (⟨mkE 58 0 [], [some (.seq (.int .i64) x1145)]⟩ : St)))) := by
  unfold spec_l4Tree_n3
  exact Link.cast (by kernel_rfl) (by kernel_rfl) (link_loop (mk := fun (s : Int × Int) => (⟨mkE 58 0 [(0, .slc 0), (1, .dat (.int .i64) x1141), (2, .dat (.int .i64) x1142), (3, .dat (.int .i64) x1143), (4, .dat (.int .i64) s.1), (10, .dat (.int .i64) s.2)], [some (.seq (.int .i64) x1145)]⟩ : St)) (fin := (Sum.elim (fun (t : (List Int)) => (Exit.ret, (⟨mkE 58 0 [], [some (.seq (.int .i64) t)]⟩ : St))) (fun (t : Unit) => ((Exit.exit 0), (⟨mkE 58 0 [], [some (.seq (.int .i64) x1145)]⟩ : St))))) (by
  rintro (t | t) f K h
  · exact h
  · exact h) (fun s => link_map (spec_l4Tree_n2_l n x1141 x1142 x1143 s.1 s.2 x1145) (Sum.elim (fun (t : Int × Int) => Sum.inl (t.1, t.2)) (Sum.elim (fun (t : (List Int)) => Sum.inr (Sum.inl t)) (fun (t : Unit) => Sum.inr (Sum.inr t)))) (by
  rintro (t | t | t)
  · kernel_rfl
  · kernel_rfl
  · kernel_rfl)) (x1144, x1141))

theorem spec_l4Tree_n4_l (n : Nat) (x1141 : Int) (x1142 : Int) (x1143 : Int) (x1144 : Int) (x1145 : List Int) : Link (spec_l4Tree_ctx n) LL (Code.snd (bodyOf Tryd.f26)) (Ann.snd spec_l4Tree_an) (⟨mkE 58 0 [(0, .slc 0), (1, .dat (.int .i64) x1141), (2, .dat (.int .i64) x1142), (3, .dat (.int .i64) x1143), (4, .dat (.int .i64) x1144), (10, .dat (.int .i64) x1141)], [some (.seq (.int .i64) x1145)]⟩ : St) (spec_l4Tree_n4 (spec_l4Tree_fuel n) (spec_l4Row_fuel n) x1141 x1142 x1143 x1144 x1145) (Sum.elim (fun (t : Unit) => (Exit.normal, (⟨mkE 58 0 [], [some (.seq (.int .i64) x1145)]⟩ : St))) (fun (t : (List Int)) => (Exit.ret, (⟨mkE 58 0 [], [some (.seq (.int .i64) t)]⟩ : St)))) := by
  unfold spec_l4Tree_n4
  exact Link.cast (by kernel_rfl) (by kernel_rfl) (link_block (id := 0) (spec_l4Tree_n3_l n x1141 x1142 x1143 x1144 x1145) (Sum.elim (fun (t : (List Int)) => (Sum.inr t)) (fun (t : Unit) => (Sum.inl ()))) (by
  rintro (t | t) K h
  · exact Eq.mp (by kernel_rfl) h
  · exact Eq.mp (by kernel_rfl) h))

theorem spec_l4Tree_n5_l (n : Nat) (x1141 : Int) (x1142 : Int) (x1143 : Int) (x1144 : Int) (x1145 : List Int) : Link (spec_l4Tree_ctx n) LL (bodyOf Tryd.f26) spec_l4Tree_an (⟨mkE 58 0 [(0, .slc 0), (1, .dat (.int .i64) x1141), (2, .dat (.int .i64) x1142), (3, .dat (.int .i64) x1143), (4, .dat (.int .i64) x1144)], [some (.seq (.int .i64) x1145)]⟩ : St) (spec_l4Tree_n5 (spec_l4Tree_fuel n) (spec_l4Row_fuel n) x1141 x1142 x1143 x1144 x1145) (Sum.elim (fun (t : Unit) => (Exit.normal, (⟨mkE 58 0 [], [some (.seq (.int .i64) x1145)]⟩ : St))) (fun (t : (List Int)) => (Exit.ret, (⟨mkE 58 0 [], [some (.seq (.int .i64) t)]⟩ : St)))) := by
  unfold spec_l4Tree_n5
  exact Link.cast (by kernel_rfl) (by kernel_rfl) (link_seq (b := (Code.snd (bodyOf Tryd.f26))) (y := (Ann.snd spec_l4Tree_an)) (spec_l4Tree_n1_l n x1141 x1142 x1143 x1144 x1145) (fun (t : Unit) => (spec_l4Tree_n4_l n x1141 x1142 x1143 x1144 x1145)))

theorem spec_l4Tree_e (n : Nat) (x1141 : Int) (x1142 : Int) (x1143 : Int) (x1144 : Int) (x1145 : List Int) {r : AV} {H' : Heap} (h : (Ans.mk _ (spec_l4Tree_fuel (n + 1) x1141 x1142 x1143 x1144 x1145) (fun (t : (List Int)) => (.tup [], [some (.seq (.int .i64) t)]))).run = some (r, H')) : Awp (spec_l4Tree_ctx n) LL (bodyOf Tryd.f26) spec_l4Tree_an (⟨mkE 58 0 [(0, .slc 0), (1, .dat (.int .i64) x1141), (2, .dat (.int .i64) x1142), (3, .dat (.int .i64) x1143), (4, .dat (.int .i64) x1144)], [some (.seq (.int .i64) x1145)]⟩ : St) (Ret (tlook tys) Tryd.f26.results.toList r H') :=
  ret_of (spec_l4Tree_n5_l n x1141 x1142 x1143 x1144 x1145) (Sum.elim (fun (t : Unit) => x1145) (fun (t : (List Int)) => t)) (by (show _ = _); kernel_rfl) (by
  rintro (t | t)
  · exact ret_mk [] (by kernel_rfl) (by kernel_rfl) (by kernel_rfl) (by kernel_rfl)
  · exact ret_mk [] (by kernel_rfl) (by kernel_rfl) (by kernel_rfl) (by kernel_rfl)) h

theorem spec_l4Row_n1_l (n : Nat) (x1331 : Int) (x1332 : Int) (x1333 : Int) (x1334 : Int) (x1335 : List Int) : Link (spec_l4Row_ctx n) LL (Code.fst (bodyOf Tryd.f42)) (Ann.fst spec_l4Row_an) (⟨mkE 53 0 [(0, .slc 0), (1, .dat (.int .i64) x1331), (2, .dat (.int .i64) x1332), (3, .dat (.int .i64) x1333), (4, .dat (.int .i64) x1334)], [some (.seq (.int .i64) x1335)]⟩ : St) (spec_l4Row_n1 (spec_l4Tree_fuel n) (spec_l4Row_fuel n)) (fun (t : Unit) => (Exit.normal, (⟨mkE 53 0 [(0, .slc 0), (1, .dat (.int .i64) x1331), (2, .dat (.int .i64) x1332), (3, .dat (.int .i64) x1333), (4, .dat (.int .i64) x1334), (10, .dat (.int .i64) x1331)], [some (.seq (.int .i64) x1335)]⟩ : St))) := by
  refine Link.of fun K h => ?_
  simp only [spec_l4Row_n1, wpO_bind, wpO_cond, wpO_map, wpO_some] at h
  exact Awp.of (by kernel_rfl) h

theorem spec_l4Row_n2_l (n : Nat) (x1331 : Int) (x1332 : Int) (x1333 : Int) (x1487 : Int) (x1488 : Int) (x1335 : List Int) : Link (spec_l4Row_ctx n) LL (Code.fst (Code.fst (Code.snd (bodyOf Tryd.f42)))) (Ann.fst (Ann.fst (Ann.snd spec_l4Row_an))) (⟨mkE 53 0 [(0, .slc 0), (1, .dat (.int .i64) x1331), (2, .dat (.int .i64) x1332), (3, .dat (.int .i64) x1333), (4, .dat (.int .i64) x1487), (10, .dat (.int .i64) x1488)], [some (.seq (.int .i64) x1335)]⟩ : St) (spec_l4Row_n2 (spec_l4Tree_fuel n) (spec_l4Row_fuel n) x1331 x1332 x1333 x1487 x1488 x1335) (Sum.elim (fun (t : Int × Int) => (Exit.normal, (⟨mkE 53 0 [(0, .slc 0), (1, .dat (.int .i64) x1331), (2, .dat (.int .i64) x1332), (3, .dat (.int .i64) x1333), (4, .dat (.int .i64) t.1), (10, .dat (.int .i64) t.2)], [some (.seq (.int .i64) x1335)]⟩ : St))) (Sum.elim (fun (t : (List Int)) => (Exit.ret, (⟨mkE 53 0 [], [some (.seq (.int .i64) t)]⟩ : St))) (fun (t : Unit) => ((Exit.exit 0), (⟨mkE 53 0 [], [some (.seq (.int .i64) x1335)]⟩ : St))))) := by
  refine Link.of fun K h => ?_
  simp only [spec_l4Row_n2, wpO_bind, wpO_cond, wpO_map, wpO_some] at h
  exact Awp.of (by kernel_rfl) h

theorem spec_l4Row_n3_l (n : Nat) (x1331 : Int) (x1332 : Int) (x1333 : Int) (x1334 : Int) (x1335 : List Int) : Link (spec_l4Row_ctx n) LL (Code.fst (Code.snd (bodyOf Tryd.f42))) (Ann.fst (Ann.snd spec_l4Row_an)) (⟨mkE 53 0 [(0, .slc 0), (1, .dat (.int .i64) x1331), (2, .dat (.int .i64) x1332), (3, .dat (.int .i64) x1333), (4, .dat (.int .i64) x1334), (10, .dat (.int .i64) x1331)], [some (.seq (.int .i64) x1335)]⟩ : St) (spec_l4Row_n3 (spec_l4Tree_fuel n) (spec_l4Row_fuel n) x1331 x1332 x1333 x1334 x1335) (Sum.elim (fun (t : (List Int)) => (Exit.ret, (⟨mkE 53 0 [], [some (.seq (.int .i64) t)]⟩ : St))) (fun (t : Unit) => ((Exit.exit 0), (⟨mkE 53 0 [], [some (.seq (.int .i64) x1335)]⟩ : St)))) := by
  unfold spec_l4Row_n3
  exact Link.cast (by kernel_rfl) (by kernel_rfl) (link_loop (mk := fun (s : Int × Int) => (⟨mkE 53 0 [(0, .slc 0), (1, .dat (.int .i64) x1331), (2, .dat (.int .i64) x1332), (3, .dat (.int .i64) x1333), (4, .dat (.int .i64) s.1), (10, .dat (.int .i64) s.2)], [some (.seq (.int .i64) x1335)]⟩ : St)) (fin := (Sum.elim (fun (t : (List Int)) => (Exit.ret, (⟨mkE 53 0 [], [some (.seq (.int .i64) t)]⟩ : St))) (fun (t : Unit) => ((Exit.exit 0), (⟨mkE 53 0 [], [some (.seq (.int .i64) x1335)]⟩ : St))))) (by
  rintro (t | t) f K h
  · exact h
  · exact h) (fun s => link_map (spec_l4Row_n2_l n x1331 x1332 x1333 s.1 s.2 x1335) (Sum.elim (fun (t : Int × Int) => Sum.inl (t.1, t.2)) (Sum.elim (fun (t : (List Int)) => Sum.inr (Sum.inl t)) (fun (t : Unit) => Sum.inr (Sum.inr t)))) (by
  rintro (t | t | t)
  · kernel_rfl
  · kernel_rfl
  · kernel_rfl)) (x1334, x1331))

theorem spec_l4Row_n4_l (n : Nat) (x1331 : Int) (x1332 : Int) (x1333 : Int) (x1334 : Int) (x1335 : List Int) : Link (spec_l4Row_ctx n) LL (Code.snd (bodyOf Tryd.f42)) (Ann.snd spec_l4Row_an) (⟨mkE 53 0 [(0, .slc 0), (1, .dat (.int .i64) x1331), (2, .dat (.int .i64) x1332), (3, .dat (.int .i64) x1333), (4, .dat (.int .i64) x1334), (10, .dat (.int .i64) x1331)], [some (.seq (.int .i64) x1335)]⟩ : St) (spec_l4Row_n4 (spec_l4Tree_fuel n) (spec_l4Row_fuel n) x1331 x1332 x1333 x1334 x1335) (Sum.elim (fun (t : Unit) => (Exit.normal, (⟨mkE 53 0 [], [some (.seq (.int .i64) x1335)]⟩ : St))) (fun (t : (List Int)) => (Exit.ret, (⟨mkE 53 0 [], [some (.seq (.int .i64) t)]⟩ : St)))) := by
  unfold spec_l4Row_n4
  exact Link.cast (by kernel_rfl) (by kernel_rfl) (link_block (id := 0) (spec_l4Row_n3_l n x1331 x1332 x1333 x1334 x1335) (Sum.elim (fun (t : (List Int)) => (Sum.inr t)) (fun (t : Unit) => (Sum.inl ()))) (by
  rintro (t | t) K h
  · exact Eq.mp (by kernel_rfl) h
  · exact Eq.mp (by kernel_rfl) h))

theorem spec_l4Row_n5_l (n : Nat) (x1331 : Int) (x1332 : Int) (x1333 : Int) (x1334 : Int) (x1335 : List Int) : Link (spec_l4Row_ctx n) LL (bodyOf Tryd.f42) spec_l4Row_an (⟨mkE 53 0 [(0, .slc 0), (1, .dat (.int .i64) x1331), (2, .dat (.int .i64) x1332), (3, .dat (.int .i64) x1333), (4, .dat (.int .i64) x1334)], [some (.seq (.int .i64) x1335)]⟩ : St) (spec_l4Row_n5 (spec_l4Tree_fuel n) (spec_l4Row_fuel n) x1331 x1332 x1333 x1334 x1335) (Sum.elim (fun (t : Unit) => (Exit.normal, (⟨mkE 53 0 [], [some (.seq (.int .i64) x1335)]⟩ : St))) (fun (t : (List Int)) => (Exit.ret, (⟨mkE 53 0 [], [some (.seq (.int .i64) t)]⟩ : St)))) := by
  unfold spec_l4Row_n5
  exact Link.cast (by kernel_rfl) (by kernel_rfl) (link_seq (b := (Code.snd (bodyOf Tryd.f42))) (y := (Ann.snd spec_l4Row_an)) (spec_l4Row_n1_l n x1331 x1332 x1333 x1334 x1335) (fun (t : Unit) => (spec_l4Row_n4_l n x1331 x1332 x1333 x1334 x1335)))

theorem spec_l4Row_e (n : Nat) (x1331 : Int) (x1332 : Int) (x1333 : Int) (x1334 : Int) (x1335 : List Int) {r : AV} {H' : Heap} (h : (Ans.mk _ (spec_l4Row_fuel (n + 1) x1331 x1332 x1333 x1334 x1335) (fun (t : (List Int)) => (.tup [], [some (.seq (.int .i64) t)]))).run = some (r, H')) : Awp (spec_l4Row_ctx n) LL (bodyOf Tryd.f42) spec_l4Row_an (⟨mkE 53 0 [(0, .slc 0), (1, .dat (.int .i64) x1331), (2, .dat (.int .i64) x1332), (3, .dat (.int .i64) x1333), (4, .dat (.int .i64) x1334)], [some (.seq (.int .i64) x1335)]⟩ : St) (Ret (tlook tys) Tryd.f42.results.toList r H') :=
  ret_of (spec_l4Row_n5_l n x1331 x1332 x1333 x1334 x1335) (Sum.elim (fun (t : Unit) => x1335) (fun (t : (List Int)) => t)) (by (show _ = _); kernel_rfl) (by
  rintro (t | t)
  · exact ret_mk [] (by kernel_rfl) (by kernel_rfl) (by kernel_rfl) (by kernel_rfl)
  · exact ret_mk [] (by kernel_rfl) (by kernel_rfl) (by kernel_rfl) (by kernel_rfl)) h

theorem spec_l4Tree_step (n : Nat) (h26 : Sound Tryd.prog 26 (F_spec_l4Tree_fuel n)) (h42 : Sound Tryd.prog 42 (F_spec_l4Row_fuel n)) : Sound Tryd.prog 26 (F_spec_l4Tree_fuel (n + 1)) := by
  refine fn_sound' (C := spec_l4Tree_ctx n) (c := bodyOf Tryd.f26) (cok_of tys_ok (List.forall_mem_cons.2 ⟨spec_l4Rows_sound, List.forall_mem_cons.2 ⟨h42, by simp⟩⟩) (List.forall_mem_cons.2 ⟨Tryd.call41, List.forall_mem_cons.2 ⟨Tryd.call42, by simp⟩⟩) (by kernel_rfl)) Tryd.func26 (by kernel_rfl) LL spec_l4Tree_an ?_
  intro avs H r H' h
  unfold F_spec_l4Tree_fuel at h
  split at h
  · refine Awp.cast ?_ ?_ ?_ (spec_l4Tree_e n _ _ _ _ _ h) <;> kernel_rfl
  · simp [Ans.no, Ans.run] at h

theorem spec_l4Tree_null : Sound Tryd.prog 26 (F_spec_l4Tree_fuel 0) := by
  intro avs H r H' h
  unfold F_spec_l4Tree_fuel at h
  split at h
  · simp [spec_l4Tree_fuel, spec_l4Tree_knot, Ans.run] at h
  · simp [Ans.no, Ans.run] at h

theorem spec_l4Row_step (n : Nat) (h26 : Sound Tryd.prog 26 (F_spec_l4Tree_fuel n)) (h42 : Sound Tryd.prog 42 (F_spec_l4Row_fuel n)) : Sound Tryd.prog 42 (F_spec_l4Row_fuel (n + 1)) := by
  refine fn_sound' (C := spec_l4Row_ctx n) (c := bodyOf Tryd.f42) (cok_of tys_ok (List.forall_mem_cons.2 ⟨spec_l4Rows_sound, List.forall_mem_cons.2 ⟨spec_l4Flat_sound, List.forall_mem_cons.2 ⟨h26, List.forall_mem_cons.2 ⟨h42, by simp⟩⟩⟩⟩) (List.forall_mem_cons.2 ⟨Tryd.call41, List.forall_mem_cons.2 ⟨Tryd.call25, List.forall_mem_cons.2 ⟨Tryd.call26, List.forall_mem_cons.2 ⟨Tryd.call42, by simp⟩⟩⟩⟩) (by kernel_rfl)) Tryd.func42 (by kernel_rfl) LL spec_l4Row_an ?_
  intro avs H r H' h
  unfold F_spec_l4Row_fuel at h
  split at h
  · refine Awp.cast ?_ ?_ ?_ (spec_l4Row_e n _ _ _ _ _ h) <;> kernel_rfl
  · simp [Ans.no, Ans.run] at h

theorem spec_l4Row_null : Sound Tryd.prog 42 (F_spec_l4Row_fuel 0) := by
  intro avs H r H' h
  unfold F_spec_l4Row_fuel at h
  split at h
  · simp [spec_l4Row_fuel, spec_l4Tree_knot, Ans.run] at h
  · simp [Ans.no, Ans.run] at h

theorem spec_l4Tree_knot_all : ∀ n, Sound Tryd.prog 26 (F_spec_l4Tree_fuel n) ∧ Sound Tryd.prog 42 (F_spec_l4Row_fuel n)
  | 0 => ⟨spec_l4Tree_null, spec_l4Row_null⟩
  | n + 1 => by
    obtain ⟨h26, h42⟩ := spec_l4Tree_knot_all n
    exact ⟨spec_l4Tree_step n h26 h42, spec_l4Row_step n h26 h42⟩

def F_spec_l4Tree : Fun := fun avs H =>
  match avs, H with
  | [.slc 0, .dat (.int .i64) x1141, .dat (.int .i64) x1142, .dat (.int .i64) x1143, .dat (.int .i64) x1144], [some (.seq (.int .i64) x1145)] => ⟨_, spec_l4Tree x1141 x1142 x1143 x1144 x1145, fun (t : (List Int)) => (.tup [], [some (.seq (.int .i64) t)])⟩
  | _, _ => Ans.no

theorem spec_l4Tree_sound : Sound Tryd.prog 26 F_spec_l4Tree := by
  have e : F_spec_l4Tree = F_spec_l4Tree_fuel RR := by
    funext avs H
    unfold F_spec_l4Tree F_spec_l4Tree_fuel
    split <;> first | rfl | (simp only [spec_l4Tree])
  rw [e]
  exact (spec_l4Tree_knot_all RR).1

def F_spec_l4Row : Fun := fun avs H =>
  match avs, H with
  | [.slc 0, .dat (.int .i64) x1331, .dat (.int .i64) x1332, .dat (.int .i64) x1333, .dat (.int .i64) x1334], [some (.seq (.int .i64) x1335)] => ⟨_, spec_l4Row x1331 x1332 x1333 x1334 x1335, fun (t : (List Int)) => (.tup [], [some (.seq (.int .i64) t)])⟩
  | _, _ => Ans.no

theorem spec_l4Row_sound : Sound Tryd.prog 42 F_spec_l4Row := by
  have e : F_spec_l4Row = F_spec_l4Row_fuel RR := by
    funext avs H
    unfold F_spec_l4Row F_spec_l4Row_fuel
    split <;> first | rfl | (simp only [spec_l4Row])
  rw [e]
  exact (spec_l4Tree_knot_all RR).2

/-! loop.example/headtrees/spec.FlatAt -/

def spec_FlatAt_an : Ann := (.seq (.leaf [0, 1]) (.seq (.seq (.leaf [0, 1, 17]) (.cond (.seq (.leaf [4, 5]) (.leaf [4, 5])) (.leaf [0, 1]))) (.seq (.leaf [0, 1, 6]) (.seq (.leaf [6]) (.seq (.leaf [4, 5]) (.leaf [4, 5]))))))

noncomputable def spec_FlatAt_ctx : Ctx := ⟨tlook tys, olook [(24, F_spec_l1In), (25, F_spec_l4Flat), (26, F_spec_l4Tree)], ioF, 0⟩

theorem spec_FlatAt_n1_l (x1117 : Int) (x1118 : Int) : Link spec_FlatAt_ctx LL (bodyOf Tryd.f8) spec_FlatAt_an (⟨mkE 26 0 [(0, .dat (.int .i64) x1117), (1, .dat (.int .i64) x1118)], []⟩ : St) (spec_FlatAt_n1 x1117 x1118) (fun (t : Bool × (List Int)) => (Exit.ret, (⟨mkE 26 0 [(4, .slc 0), (5, .dat .bool t.1)], [some (.seq (.int .i64) t.2)]⟩ : St))) := by
  refine Link.of fun K h => ?_
  simp only [spec_FlatAt_n1, wpO_bind, wpO_cond, wpO_map, wpO_some] at h
  exact Awp.of (by kernel_rfl) h

theorem spec_FlatAt_e (x1117 : Int) (x1118 : Int) {r : AV} {H' : Heap} (h : (Ans.mk _ (spec_FlatAt x1117 x1118) (fun (t : Bool × (List Int)) => (.tup [.slc 0, .dat .bool t.1], [some (.seq (.int .i64) t.2)]))).run = some (r, H')) : Awp spec_FlatAt_ctx LL (bodyOf Tryd.f8) spec_FlatAt_an (⟨mkE 26 0 [(0, .dat (.int .i64) x1117), (1, .dat (.int .i64) x1118)], []⟩ : St) (Ret (tlook tys) Tryd.f8.results.toList r H') :=
  ret_of' (spec_FlatAt_n1_l x1117 x1118) (by unfold spec_FlatAt; kernel_rfl) (by
  intro t
  exact ret_mk [.slc 0, .dat .bool t.1] (by kernel_rfl) (by kernel_rfl) (by kernel_rfl) (by kernel_rfl)) h

def F_spec_FlatAt : Fun := fun avs H =>
  match avs, H with
  | [.dat (.int .i64) x1117, .dat (.int .i64) x1118], [] => ⟨_, spec_FlatAt x1117 x1118, fun (t : Bool × (List Int)) => (.tup [.slc 0, .dat .bool t.1], [some (.seq (.int .i64) t.2)])⟩
  | _, _ => Ans.no

theorem spec_FlatAt_sound : Sound Tryd.prog 8 F_spec_FlatAt := by
  refine fn_sound' (C := spec_FlatAt_ctx) (c := bodyOf Tryd.f8) (cok_of tys_ok (List.forall_mem_cons.2 ⟨spec_l1In_sound, List.forall_mem_cons.2 ⟨spec_l4Flat_sound, List.forall_mem_cons.2 ⟨spec_l4Tree_sound, by simp⟩⟩⟩) (List.forall_mem_cons.2 ⟨Tryd.call24, List.forall_mem_cons.2 ⟨Tryd.call25, List.forall_mem_cons.2 ⟨Tryd.call26, by simp⟩⟩⟩) (by kernel_rfl)) Tryd.func8 (by kernel_rfl) LL spec_FlatAt_an ?_
  intro avs H r H' h
  unfold F_spec_FlatAt at h
  split at h
  · refine Awp.cast ?_ ?_ ?_ (spec_FlatAt_e _ _ h) <;> kernel_rfl
  · simp [Ans.no, Ans.run] at h

/-! loop.example/headtrees/laws.sameInts -/

def laws_sameInts_an : Ann := (.seq (.leaf [0, 1]) (.seq (.seq (.leaf [0, 1, 10]) (.cond (.seq (.leaf [4]) (.leaf [4])) (.leaf [0, 1]))) (.seq (.seq (.leaf [0, 1, 5]) (.block (.loop (.seq (.seq (.leaf [0, 1, 5, 14]) (.cond (.leaf [0, 1, 5]) (.leaf []))) (.seq (.block (.seq (.draw [] [0, 1, 2, 3, 4, 5, 6, 7, 8] [] [0, 1, 5, 25]) (.cond (.seq (.leaf [4]) (.leaf [4])) (.leaf [0, 1, 5])))) (.leaf [0, 1, 5])))))) (.seq (.leaf [4]) (.leaf [4])))))

noncomputable def laws_sameInts_ctx : Ctx := ⟨tlook tys, olook [], ioF, 0⟩

theorem laws_sameInts_n1_l (x1617 : List Int) (x1618 : List Int) : Link laws_sameInts_ctx LL (Code.seq (Code.fst (bodyOf Tryd.f9)) (Code.fst (Code.snd (bodyOf Tryd.f9)))) (Ann.seq (Ann.fst laws_sameInts_an) (Ann.fst (Ann.snd laws_sameInts_an))) (⟨mkE 26 0 [(0, .dat (.list (.int .i64)) x1617), (1, .dat (.list (.int .i64)) x1618)], []⟩ : St) (laws_sameInts_n1 x1617 x1618) (Sum.elim (fun (t : Unit) => (Exit.normal, (⟨mkE 26 0 [(0, .dat (.list (.int .i64)) x1617), (1, .dat (.list (.int .i64)) x1618)], []⟩ : St))) (fun (t : Bool) => (Exit.ret, (⟨mkE 26 0 [(4, .dat .bool t)], []⟩ : St)))) := by
  refine Link.of fun K h => ?_
  simp only [laws_sameInts_n1, wpO_bind, wpO_cond, wpO_map, wpO_some] at h
  exact Awp.of (by kernel_rfl) h

theorem laws_sameInts_n2_l (x1617 : List Int) (x1618 : List Int) : Link laws_sameInts_ctx LL (Code.fst (Code.fst (Code.snd (Code.snd (bodyOf Tryd.f9))))) (Ann.fst (Ann.fst (Ann.snd (Ann.snd laws_sameInts_an)))) (⟨mkE 26 0 [(0, .dat (.list (.int .i64)) x1617), (1, .dat (.list (.int .i64)) x1618)], []⟩ : St) (laws_sameInts_n2) (fun (t : Unit) => (Exit.normal, (⟨mkE 26 0 [(0, .dat (.list (.int .i64)) x1617), (1, .dat (.list (.int .i64)) x1618), (5, .dat (.int .i64) 0)], []⟩ : St))) := by
  refine Link.of fun K h => ?_
  simp only [laws_sameInts_n2, wpO_bind, wpO_cond, wpO_map, wpO_some] at h
  exact Awp.of (by kernel_rfl) h

theorem laws_sameInts_n3_l (x1617 : List Int) (x1618 : List Int) (x1635 : Int) : Link laws_sameInts_ctx LL (Code.fst (Code.fst (Code.snd (Code.fst (Code.snd (Code.snd (bodyOf Tryd.f9))))))) (Ann.fst (Ann.fst (Ann.snd (Ann.fst (Ann.snd (Ann.snd laws_sameInts_an)))))) (⟨mkE 26 0 [(0, .dat (.list (.int .i64)) x1617), (1, .dat (.list (.int .i64)) x1618), (5, .dat (.int .i64) x1635)], []⟩ : St) (laws_sameInts_n3 x1617 x1618 x1635) (Sum.elim (fun (t : Int) => (Exit.normal, (⟨mkE 26 0 [(0, .dat (.list (.int .i64)) x1617), (1, .dat (.list (.int .i64)) x1618), (5, .dat (.int .i64) t)], []⟩ : St))) (Sum.elim (fun (t : Bool) => (Exit.ret, (⟨mkE 26 0 [(4, .dat .bool t)], []⟩ : St))) (fun (t : Unit) => ((Exit.exit 0), (⟨mkE 26 0 [], []⟩ : St))))) := by
  refine Link.of fun K h => ?_
  simp only [laws_sameInts_n3, wpO_bind, wpO_cond, wpO_map, wpO_some] at h
  exact Awp.of (by kernel_rfl) h

theorem laws_sameInts_n4_l (x1617 : List Int) (x1618 : List Int) : Link laws_sameInts_ctx LL (Code.fst (Code.snd (Code.fst (Code.snd (Code.snd (bodyOf Tryd.f9)))))) (Ann.fst (Ann.snd (Ann.fst (Ann.snd (Ann.snd laws_sameInts_an))))) (⟨mkE 26 0 [(0, .dat (.list (.int .i64)) x1617), (1, .dat (.list (.int .i64)) x1618), (5, .dat (.int .i64) 0)], []⟩ : St) (laws_sameInts_n4 x1617 x1618) (Sum.elim (fun (t : Bool) => (Exit.ret, (⟨mkE 26 0 [(4, .dat .bool t)], []⟩ : St))) (fun (t : Unit) => ((Exit.exit 0), (⟨mkE 26 0 [], []⟩ : St)))) := by
  unfold laws_sameInts_n4
  exact Link.cast (by kernel_rfl) (by kernel_rfl) (link_loop (mk := fun (s : Int) => (⟨mkE 26 0 [(0, .dat (.list (.int .i64)) x1617), (1, .dat (.list (.int .i64)) x1618), (5, .dat (.int .i64) s)], []⟩ : St)) (fin := (Sum.elim (fun (t : Bool) => (Exit.ret, (⟨mkE 26 0 [(4, .dat .bool t)], []⟩ : St))) (fun (t : Unit) => ((Exit.exit 0), (⟨mkE 26 0 [], []⟩ : St))))) (by
  rintro (t | t) f K h
  · exact h
  · exact h) (fun s => link_map (laws_sameInts_n3_l x1617 x1618 s) (Sum.elim (fun (t : Int) => Sum.inl t) (Sum.elim (fun (t : Bool) => Sum.inr (Sum.inl t)) (fun (t : Unit) => Sum.inr (Sum.inr t)))) (by
  rintro (t | t | t)
  · kernel_rfl
  · kernel_rfl
  · kernel_rfl)) 0)

theorem laws_sameInts_n5_l (x1617 : List Int) (x1618 : List Int) : Link laws_sameInts_ctx LL (Code.snd (Code.fst (Code.snd (Code.snd (bodyOf Tryd.f9))))) (Ann.snd (Ann.fst (Ann.snd (Ann.snd laws_sameInts_an)))) (⟨mkE 26 0 [(0, .dat (.list (.int .i64)) x1617), (1, .dat (.list (.int .i64)) x1618), (5, .dat (.int .i64) 0)], []⟩ : St) (laws_sameInts_n5 x1617 x1618) (Sum.elim (fun (t : Unit) => (Exit.normal, (⟨mkE 26 0 [], []⟩ : St))) (fun (t : Bool) => (Exit.ret, (⟨mkE 26 0 [(4, .dat .bool t)], []⟩ : St)))) := by
  unfold laws_sameInts_n5
  exact Link.cast (by kernel_rfl) (by kernel_rfl) (link_block (id := 0) (laws_sameInts_n4_l x1617 x1618) (Sum.elim (fun (t : Bool) => (Sum.inr t)) (fun (t : Unit) => (Sum.inl ()))) (by
  rintro (t | t) K h
  · exact Eq.mp (by kernel_rfl) h
  · exact Eq.mp (by kernel_rfl) h))

theorem laws_sameInts_n6_l (x1617 : List Int) (x1618 : List Int) : Link laws_sameInts_ctx LL (Code.fst (Code.snd (Code.snd (bodyOf Tryd.f9)))) (Ann.fst (Ann.snd (Ann.snd laws_sameInts_an))) (⟨mkE 26 0 [(0, .dat (.list (.int .i64)) x1617), (1, .dat (.list (.int .i64)) x1618)], []⟩ : St) (laws_sameInts_n6 x1617 x1618) (Sum.elim (fun (t : Unit) => (Exit.normal, (⟨mkE 26 0 [], []⟩ : St))) (fun (t : Bool) => (Exit.ret, (⟨mkE 26 0 [(4, .dat .bool t)], []⟩ : St)))) := by
  unfold laws_sameInts_n6
  exact Link.cast (by kernel_rfl) (by kernel_rfl) (link_seq (b := (Code.snd (Code.fst (Code.snd (Code.snd (bodyOf Tryd.f9)))))) (y := (Ann.snd (Ann.fst (Ann.snd (Ann.snd laws_sameInts_an))))) (laws_sameInts_n2_l x1617 x1618) (fun (t : Unit) => (laws_sameInts_n5_l x1617 x1618)))

theorem laws_sameInts_n7_l : Link laws_sameInts_ctx LL (Code.snd (Code.snd (Code.snd (bodyOf Tryd.f9)))) (Ann.snd (Ann.snd (Ann.snd laws_sameInts_an))) (⟨mkE 26 0 [], []⟩ : St) (laws_sameInts_n7) (fun (t : Bool) => (Exit.ret, (⟨mkE 26 0 [(4, .dat .bool t)], []⟩ : St))) := by
  refine Link.of fun K h => ?_
  simp only [laws_sameInts_n7, wpO_bind, wpO_cond, wpO_map, wpO_some] at h
  exact Awp.of (by kernel_rfl) h

theorem laws_sameInts_n8_l (x1617 : List Int) (x1618 : List Int) : Link laws_sameInts_ctx LL (Code.snd (Code.snd (bodyOf Tryd.f9))) (Ann.snd (Ann.snd laws_sameInts_an)) (⟨mkE 26 0 [(0, .dat (.list (.int .i64)) x1617), (1, .dat (.list (.int .i64)) x1618)], []⟩ : St) (laws_sameInts_n8 x1617 x1618) (fun (t : Bool) => (Exit.ret, (⟨mkE 26 0 [(4, .dat .bool t)], []⟩ : St))) := by
  unfold laws_sameInts_n8
  exact Link.cast (by kernel_rfl) (by kernel_rfl) (link_seq2 (b := (Code.snd (Code.snd (Code.snd (bodyOf Tryd.f9))))) (y := (Ann.snd (Ann.snd (Ann.snd laws_sameInts_an)))) (laws_sameInts_n6_l x1617 x1618) (fun (t : Unit) => (laws_sameInts_n7_l)) (fun (t : Bool) => t) (by
  rintro t
  · kernel_rfl) (by
  rintro t f K h
  · exact h))

theorem laws_sameInts_n9_l (x1617 : List Int) (x1618 : List Int) : Link laws_sameInts_ctx LL (bodyOf Tryd.f9) laws_sameInts_an (⟨mkE 26 0 [(0, .dat (.list (.int .i64)) x1617), (1, .dat (.list (.int .i64)) x1618)], []⟩ : St) (laws_sameInts_n9 x1617 x1618) (fun (t : Bool) => (Exit.ret, (⟨mkE 26 0 [(4, .dat .bool t)], []⟩ : St))) := by
  unfold laws_sameInts_n9
  exact Link.cast (by kernel_rfl) (by kernel_rfl) (link_group (c := (Code.fst (Code.snd (bodyOf Tryd.f9)))) (a := (Ann.fst (Ann.snd laws_sameInts_an))) [(Code.fst (bodyOf Tryd.f9))] [(Ann.fst laws_sameInts_an)] rfl (link_seq2 (b := (Code.snd (Code.snd (bodyOf Tryd.f9)))) (y := (Ann.snd (Ann.snd laws_sameInts_an))) (laws_sameInts_n1_l x1617 x1618) (fun (t : Unit) => (laws_sameInts_n8_l x1617 x1618)) (fun (t : Bool) => t) (by
  rintro t
  · kernel_rfl) (by
  rintro t f K h
  · exact h)))

theorem laws_sameInts_e (x1617 : List Int) (x1618 : List Int) {r : AV} {H' : Heap} (h : (Ans.mk _ (laws_sameInts x1617 x1618) (fun (t : Bool) => (.dat .bool t, []))).run = some (r, H')) : Awp laws_sameInts_ctx LL (bodyOf Tryd.f9) laws_sameInts_an (⟨mkE 26 0 [(0, .dat (.list (.int .i64)) x1617), (1, .dat (.list (.int .i64)) x1618)], []⟩ : St) (Ret (tlook tys) Tryd.f9.results.toList r H') :=
  ret_of' (laws_sameInts_n9_l x1617 x1618) (by unfold laws_sameInts; kernel_rfl) (by
  intro t
  exact ret_mk [.dat .bool t] (by kernel_rfl) (by kernel_rfl) (by kernel_rfl) (by kernel_rfl)) h

def F_laws_sameInts : Fun := fun avs H =>
  match avs, H with
  | [.dat (.list (.int .i64)) x1617, .dat (.list (.int .i64)) x1618], [] => ⟨_, laws_sameInts x1617 x1618, fun (t : Bool) => (.dat .bool t, [])⟩
  | _, _ => Ans.no

theorem laws_sameInts_sound : Sound Tryd.prog 9 F_laws_sameInts := by
  refine fn_sound' (C := laws_sameInts_ctx) (c := bodyOf Tryd.f9) (cok_of tys_ok (by simp) (by simp) (by kernel_rfl)) Tryd.func9 (by kernel_rfl) LL laws_sameInts_an ?_
  intro avs H r H' h
  unfold F_laws_sameInts at h
  split at h
  · refine Awp.cast ?_ ?_ ?_ (laws_sameInts_e _ _ h) <;> kernel_rfl
  · simp [Ans.no, Ans.run] at h

/-! loop.example/headtrees/impl.oneRoot -/

def impl_oneRoot_an : Ann := (.seq (.leaf [0]) (.seq (.leaf [0, 3]) (.seq (.seq (.leaf [0, 3, 6, 7, 8]) (.block (.loop (.seq (.leaf [0, 3, 6, 7, 8, 9]) (.seq (.cond (.leaf [0, 3, 6, 7, 8]) (.leaf [3])) (.seq (.block (.seq (.leaf [0, 3, 5, 6, 7, 8]) (.seq (.seq (.leaf [0, 3, 5, 6, 7, 8, 19]) (.cond (.seq (.leaf [2]) (.leaf [2])) (.leaf [0, 3, 5, 6, 7, 8]))) (.seq (.leaf [0, 3, 6, 7, 8, 21]) (.cond (.leaf [0, 3, 6, 7, 8]) (.leaf [0, 3, 6, 7, 8])))))) (.leaf [0, 3, 6, 7, 8]))))))) (.seq (.leaf [2]) (.leaf [2])))))

noncomputable def impl_oneRoot_ctx : Ctx := ⟨tlook tys, olook [], ioF, 0⟩

theorem impl_oneRoot_n1_l (x1677 : List Int) : Link impl_oneRoot_ctx LL (Code.seq (Code.fst (bodyOf Tryd.f43)) (Code.fst (Code.snd (bodyOf Tryd.f43)))) (Ann.seq (Ann.fst impl_oneRoot_an) (Ann.fst (Ann.snd impl_oneRoot_an))) (⟨mkE 27 0 [(0, .dat (.list (.int .i64)) x1677)], []⟩ : St) (impl_oneRoot_n1) (fun (t : Unit) => (Exit.normal, (⟨mkE 27 0 [(0, .dat (.list (.int .i64)) x1677), (3, .dat (.int .i64) 0)], []⟩ : St))) := by
  refine Link.of fun K h => ?_
  simp only [impl_oneRoot_n1, wpO_bind, wpO_cond, wpO_map, wpO_some] at h
  exact Awp.of (by kernel_rfl) h

theorem impl_oneRoot_n2_l (x1677 : List Int) : Link impl_oneRoot_ctx LL (Code.fst (Code.fst (Code.snd (Code.snd (bodyOf Tryd.f43))))) (Ann.fst (Ann.fst (Ann.snd (Ann.snd impl_oneRoot_an)))) (⟨mkE 27 0 [(0, .dat (.list (.int .i64)) x1677), (3, .dat (.int .i64) 0)], []⟩ : St) (impl_oneRoot_n2 x1677) (fun (t : Int) => (Exit.normal, (⟨mkE 27 0 [(0, .dat (.list (.int .i64)) x1677), (3, .dat (.int .i64) 0), (6, .dat (.list (.int .i64)) x1677), (7, .dat (.int .i64) t), (8, .dat (.int .i64) 0)], []⟩ : St))) := by
  refine Link.of fun K h => ?_
  simp only [impl_oneRoot_n2, wpO_bind, wpO_cond, wpO_map, wpO_some] at h
  exact Awp.of (by kernel_rfl) h

theorem impl_oneRoot_n3_l (x1677 : List Int) (x1699 : Int) (x1678 : Int) (x1700 : Int) : Link impl_oneRoot_ctx LL (Code.fst (Code.fst (Code.snd (Code.fst (Code.snd (Code.snd (bodyOf Tryd.f43))))))) (Ann.fst (Ann.fst (Ann.snd (Ann.fst (Ann.snd (Ann.snd impl_oneRoot_an)))))) (⟨mkE 27 0 [(0, .dat (.list (.int .i64)) x1677), (3, .dat (.int .i64) x1699), (6, .dat (.list (.int .i64)) x1677), (7, .dat (.int .i64) x1678), (8, .dat (.int .i64) x1700)], []⟩ : St) (impl_oneRoot_n3 x1677 x1699 x1678 x1700) (Sum.elim (fun (t : Int × Int) => (Exit.normal, (⟨mkE 27 0 [(0, .dat (.list (.int .i64)) x1677), (3, .dat (.int .i64) t.1), (6, .dat (.list (.int .i64)) x1677), (7, .dat (.int .i64) x1678), (8, .dat (.int .i64) t.2)], []⟩ : St))) (Sum.elim (fun (t : Bool) => (Exit.ret, (⟨mkE 27 0 [(2, .dat .bool t)], []⟩ : St))) (fun (t : Int) => ((Exit.exit 0), (⟨mkE 27 0 [(3, .dat (.int .i64) t)], []⟩ : St))))) := by
  refine Link.of fun K h => ?_
  simp only [impl_oneRoot_n3, wpO_bind, wpO_cond, wpO_map, wpO_some] at h
  exact Awp.of (by kernel_rfl) h

theorem impl_oneRoot_n4_l (x1677 : List Int) (x1678 : Int) : Link impl_oneRoot_ctx LL (Code.fst (Code.snd (Code.fst (Code.snd (Code.snd (bodyOf Tryd.f43)))))) (Ann.fst (Ann.snd (Ann.fst (Ann.snd (Ann.snd impl_oneRoot_an))))) (⟨mkE 27 0 [(0, .dat (.list (.int .i64)) x1677), (3, .dat (.int .i64) 0), (6, .dat (.list (.int .i64)) x1677), (7, .dat (.int .i64) x1678), (8, .dat (.int .i64) 0)], []⟩ : St) (impl_oneRoot_n4 x1677 x1678) (Sum.elim (fun (t : Bool) => (Exit.ret, (⟨mkE 27 0 [(2, .dat .bool t)], []⟩ : St))) (fun (t : Int) => ((Exit.exit 0), (⟨mkE 27 0 [(3, .dat (.int .i64) t)], []⟩ : St)))) := by
  unfold impl_oneRoot_n4
  exact Link.cast (by kernel_rfl) (by kernel_rfl) (link_loop (mk := fun (s : Int × Int) => (⟨mkE 27 0 [(0, .dat (.list (.int .i64)) x1677), (3, .dat (.int .i64) s.1), (6, .dat (.list (.int .i64)) x1677), (7, .dat (.int .i64) x1678), (8, .dat (.int .i64) s.2)], []⟩ : St)) (fin := (Sum.elim (fun (t : Bool) => (Exit.ret, (⟨mkE 27 0 [(2, .dat .bool t)], []⟩ : St))) (fun (t : Int) => ((Exit.exit 0), (⟨mkE 27 0 [(3, .dat (.int .i64) t)], []⟩ : St))))) (by
  rintro (t | t) f K h
  · exact h
  · exact h) (fun s => link_map (impl_oneRoot_n3_l x1677 s.1 x1678 s.2) (Sum.elim (fun (t : Int × Int) => Sum.inl (t.1, t.2)) (Sum.elim (fun (t : Bool) => Sum.inr (Sum.inl t)) (fun (t : Int) => Sum.inr (Sum.inr t)))) (by
  rintro (t | t | t)
  · kernel_rfl
  · kernel_rfl
  · kernel_rfl)) (0, 0))

theorem impl_oneRoot_n5_l (x1677 : List Int) (x1678 : Int) : Link impl_oneRoot_ctx LL (Code.snd (Code.fst (Code.snd (Code.snd (bodyOf Tryd.f43))))) (Ann.snd (Ann.fst (Ann.snd (Ann.snd impl_oneRoot_an)))) (⟨mkE 27 0 [(0, .dat (.list (.int .i64)) x1677), (3, .dat (.int .i64) 0), (6, .dat (.list (.int .i64)) x1677), (7, .dat (.int .i64) x1678), (8, .dat (.int .i64) 0)], []⟩ : St) (impl_oneRoot_n5 x1677 x1678) (Sum.elim (fun (t : Int) => (Exit.normal, (⟨mkE 27 0 [(3, .dat (.int .i64) t)], []⟩ : St))) (fun (t : Bool) => (Exit.ret, (⟨mkE 27 0 [(2, .dat .bool t)], []⟩ : St)))) := by
  unfold impl_oneRoot_n5
  exact Link.cast (by kernel_rfl) (by kernel_rfl) (link_block (id := 0) (impl_oneRoot_n4_l x1677 x1678) (Sum.elim (fun (t : Bool) => (Sum.inr t)) (fun (t : Int) => (Sum.inl t))) (by
  rintro (t | t) K h
  · exact Eq.mp (by kernel_rfl) h
  · exact Eq.mp (by kernel_rfl) h))

theorem impl_oneRoot_n6_l (x1677 : List Int) : Link impl_oneRoot_ctx LL (Code.fst (Code.snd (Code.snd (bodyOf Tryd.f43)))) (Ann.fst (Ann.snd (Ann.snd impl_oneRoot_an))) (⟨mkE 27 0 [(0, .dat (.list (.int .i64)) x1677), (3, .dat (.int .i64) 0)], []⟩ : St) (impl_oneRoot_n6 x1677) (Sum.elim (fun (t : Int) => (Exit.normal, (⟨mkE 27 0 [(3, .dat (.int .i64) t)], []⟩ : St))) (fun (t : Bool) => (Exit.ret, (⟨mkE 27 0 [(2, .dat .bool t)], []⟩ : St)))) := by
  unfold impl_oneRoot_n6
  exact Link.cast (by kernel_rfl) (by kernel_rfl) (link_seq (b := (Code.snd (Code.fst (Code.snd (Code.snd (bodyOf Tryd.f43)))))) (y := (Ann.snd (Ann.fst (Ann.snd (Ann.snd impl_oneRoot_an))))) (impl_oneRoot_n2_l x1677) (fun (t : Int) => (impl_oneRoot_n5_l x1677 t)))

end Go.Rv
