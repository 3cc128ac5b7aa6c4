/-
  The checked code answers as the plain functions do; written by program. Conditions: none.
-/
import Derived.Test.YtmmfabigcffdfaaDoorGN
import Derived.Test.YtmmfabigcffdfaaDoorProg
set_option linter.unusedVariables false
set_option linter.unusedSimpArgs false
set_option maxRecDepth 100000
namespace Go.Rv
open Go.Proofs
theorem ty3 : TIOk Tryd.prog 3 ⟨.int .i64, 1, 8, some (.int .i64), [.int .i64 0]⟩ := ⟨⟨infoOf (Tryd.prog.info? 3), by kernel_rfl, by kernel_rfl, by kernel_rfl, .int .i64 0, by kernel_rfl, by kernel_rfl⟩, (by kernel_rfl : Tryd.prog.underlying 3 = some (.int .i64))⟩
theorem ty4 : TIOk Tryd.prog 4 ⟨.bool, 1, 1, some .bool, [.bool false]⟩ := ⟨⟨infoOf (Tryd.prog.info? 4), by kernel_rfl, by kernel_rfl, by kernel_rfl, .bool false, by kernel_rfl, by kernel_rfl⟩, (by kernel_rfl : Tryd.prog.underlying 4 = some .bool)⟩
theorem ty5 : TIOk Tryd.prog 5 ⟨.int .u8, 1, 1, some (.int .u8), [.int .u8 0]⟩ := ⟨⟨infoOf (Tryd.prog.info? 5), by kernel_rfl, by kernel_rfl, by kernel_rfl, .int .u8 0, by kernel_rfl, by kernel_rfl⟩, (by kernel_rfl : Tryd.prog.underlying 5 = some (.int .u8))⟩
theorem ty9 : TIOk Tryd.prog 9 ⟨.str, 1, 16, some .str, [.string ByteArray.empty]⟩ := ⟨⟨infoOf (Tryd.prog.info? 9), by kernel_rfl, by kernel_rfl, by kernel_rfl, .string ByteArray.empty, by kernel_rfl, by kernel_rfl⟩, (by kernel_rfl : Tryd.prog.underlying 9 = some .string)⟩
theorem ty22 : TIOk Tryd.prog 22 ⟨.slice 5, 1, 24, some (.list (.int .u8)), [.slice none 0 0]⟩ := ⟨⟨infoOf (Tryd.prog.info? 22), by kernel_rfl, by kernel_rfl, by kernel_rfl, .slice none 0 0, by kernel_rfl, by kernel_rfl⟩, (by kernel_rfl : Tryd.prog.underlying 22 = some (.slice 5))⟩
theorem ty25 : TIOk Tryd.prog 25 ⟨.slice 3, 1, 24, some (.list (.int .i64)), [.slice none 0 0]⟩ := ⟨⟨infoOf (Tryd.prog.info? 25), by kernel_rfl, by kernel_rfl, by kernel_rfl, .slice none 0 0, by kernel_rfl, by kernel_rfl⟩, (by kernel_rfl : Tryd.prog.underlying 25 = some (.slice 3))⟩
theorem ty40 : TIOk Tryd.prog 40 ⟨.scalar, 1, 8, none, [.pointer none]⟩ := ⟨⟨infoOf (Tryd.prog.info? 40), by kernel_rfl, by kernel_rfl, by kernel_rfl, .pointer none, by kernel_rfl, by kernel_rfl⟩, ⟨descOf (Tryd.prog.underlying 40), by kernel_rfl, by kernel_rfl⟩⟩
theorem ty44 : TIOk Tryd.prog 44 ⟨.strct [(0, 25), (1, 25), (2, 3), (3, 3)], 4, 64, some (.pair (.list (.int .i64)) (.pair (.list (.int .i64)) (.pair (.int .i64) (.pair (.int .i64) .unit)))), [.slice none 0 0, .slice none 0 0, .int .i64 0, .int .i64 0]⟩ := ⟨⟨infoOf (Tryd.prog.info? 44), by kernel_rfl, by kernel_rfl, by kernel_rfl, .agg #[.slice none 0 0, .slice none 0 0, .int .i64 0, .int .i64 0], by kernel_rfl, by kernel_rfl⟩, ⟨fieldsOf (Tryd.prog.underlying 44), by kernel_rfl, by kernel_rfl⟩⟩
theorem ty47 : TIOk Tryd.prog 47 ⟨.map 5 51, 1, 8, none, [.map none]⟩ := ⟨⟨infoOf (Tryd.prog.info? 47), by kernel_rfl, by kernel_rfl, by kernel_rfl, .map none, by kernel_rfl, by kernel_rfl⟩, (by kernel_rfl : Tryd.prog.underlying 47 = some (.map 5 51))⟩
theorem ty51 : TIOk Tryd.prog 51 ⟨.scalar, 1, 8, none, [.nilFunc]⟩ := ⟨⟨infoOf (Tryd.prog.info? 51), by kernel_rfl, by kernel_rfl, by kernel_rfl, .nilFunc, by kernel_rfl, by kernel_rfl⟩, ⟨descOf (Tryd.prog.underlying 51), by kernel_rfl, by kernel_rfl⟩⟩
theorem ty52 : TIOk Tryd.prog 52 ⟨.slice 55, 1, 24, some (.list (.int .u64)), [.slice none 0 0]⟩ := ⟨⟨infoOf (Tryd.prog.info? 52), by kernel_rfl, by kernel_rfl, by kernel_rfl, .slice none 0 0, by kernel_rfl, by kernel_rfl⟩, (by kernel_rfl : Tryd.prog.underlying 52 = some (.slice 55))⟩
theorem ty55 : TIOk Tryd.prog 55 ⟨.int .u64, 1, 8, some (.int .u64), [.int .u64 0]⟩ := ⟨⟨infoOf (Tryd.prog.info? 55), by kernel_rfl, by kernel_rfl, by kernel_rfl, .int .u64 0, by kernel_rfl, by kernel_rfl⟩, (by kernel_rfl : Tryd.prog.underlying 55 = some (.int .u64))⟩
theorem ty57 : TIOk Tryd.prog 57 ⟨.slice 4, 1, 24, some (.list .bool), [.slice none 0 0]⟩ := ⟨⟨infoOf (Tryd.prog.info? 57), by kernel_rfl, by kernel_rfl, by kernel_rfl, .slice none 0 0, by kernel_rfl, by kernel_rfl⟩, (by kernel_rfl : Tryd.prog.underlying 57 = some (.slice 4))⟩
theorem ty60 : TIOk Tryd.prog 60 ⟨.strct [(0, 22), (1, 3)], 2, 32, some (.pair (.list (.int .u8)) (.pair (.int .i64) .unit)), [.slice none 0 0, .int .i64 0]⟩ := ⟨⟨infoOf (Tryd.prog.info? 60), by kernel_rfl, by kernel_rfl, by kernel_rfl, .agg #[.slice none 0 0, .int .i64 0], by kernel_rfl, by kernel_rfl⟩, ⟨fieldsOf (Tryd.prog.underlying 60), by kernel_rfl, by kernel_rfl⟩⟩
theorem ty61 : TIOk Tryd.prog 61 ⟨.slice 9, 1, 24, some (.list .str), [.slice none 0 0]⟩ := ⟨⟨infoOf (Tryd.prog.info? 61), by kernel_rfl, by kernel_rfl, by kernel_rfl, .slice none 0 0, by kernel_rfl, by kernel_rfl⟩, (by kernel_rfl : Tryd.prog.underlying 61 = some (.slice 9))⟩
theorem ty67 : TIOk Tryd.prog 67 ⟨.scalar, 1, 8, none, [.nilFunc]⟩ := ⟨⟨infoOf (Tryd.prog.info? 67), by kernel_rfl, by kernel_rfl, by kernel_rfl, .nilFunc, by kernel_rfl, by kernel_rfl⟩, ⟨descOf (Tryd.prog.underlying 67), by kernel_rfl, by kernel_rfl⟩⟩
theorem ty75 : TIOk Tryd.prog 75 ⟨.strct [(0, 25), (1, 3), (2, 3)], 3, 40, some (.pair (.list (.int .i64)) (.pair (.int .i64) (.pair (.int .i64) .unit))), [.slice none 0 0, .int .i64 0, .int .i64 0]⟩ := ⟨⟨infoOf (Tryd.prog.info? 75), by kernel_rfl, by kernel_rfl, by kernel_rfl, .agg #[.slice none 0 0, .int .i64 0, .int .i64 0], by kernel_rfl, by kernel_rfl⟩, ⟨fieldsOf (Tryd.prog.underlying 75), by kernel_rfl, by kernel_rfl⟩⟩
theorem ty85 : TIOk Tryd.prog 85 ⟨.int .u64, 1, 8, some (.int .u64), [.int .u64 0]⟩ := ⟨⟨infoOf (Tryd.prog.info? 85), by kernel_rfl, by kernel_rfl, by kernel_rfl, .int .u64 0, by kernel_rfl, by kernel_rfl⟩, (by kernel_rfl : Tryd.prog.underlying 85 = some (.int .u64))⟩
theorem ty87 : TIOk Tryd.prog 87 ⟨.arr 64 5, 64, 64, none, [.int .u8 0, .int .u8 0, .int .u8 0, .int .u8 0, .int .u8 0, .int .u8 0, .int .u8 0, .int .u8 0, .int .u8 0, .int .u8 0, .int .u8 0, .int .u8 0, .int .u8 0, .int .u8 0, .int .u8 0, .int .u8 0, .int .u8 0, .int .u8 0, .int .u8 0, .int .u8 0, .int .u8 0, .int .u8 0, .int .u8 0, .int .u8 0, .int .u8 0, .int .u8 0, .int .u8 0, .int .u8 0, .int .u8 0, .int .u8 0, .int .u8 0, .int .u8 0, .int .u8 0, .int .u8 0, .int .u8 0, .int .u8 0, .int .u8 0, .int .u8 0, .int .u8 0, .int .u8 0, .int .u8 0, .int .u8 0, .int .u8 0, .int .u8 0, .int .u8 0, .int .u8 0, .int .u8 0, .int .u8 0, .int .u8 0, .int .u8 0, .int .u8 0, .int .u8 0, .int .u8 0, .int .u8 0, .int .u8 0, .int .u8 0, .int .u8 0, .int .u8 0, .int .u8 0, .int .u8 0, .int .u8 0, .int .u8 0, .int .u8 0, .int .u8 0]⟩ := ⟨⟨infoOf (Tryd.prog.info? 87), by kernel_rfl, by kernel_rfl, by kernel_rfl, .agg #[.int .u8 0, .int .u8 0, .int .u8 0, .int .u8 0, .int .u8 0, .int .u8 0, .int .u8 0, .int .u8 0, .int .u8 0, .int .u8 0, .int .u8 0, .int .u8 0, .int .u8 0, .int .u8 0, .int .u8 0, .int .u8 0, .int .u8 0, .int .u8 0, .int .u8 0, .int .u8 0, .int .u8 0, .int .u8 0, .int .u8 0, .int .u8 0, .int .u8 0, .int .u8 0, .int .u8 0, .int .u8 0, .int .u8 0, .int .u8 0, .int .u8 0, .int .u8 0, .int .u8 0, .int .u8 0, .int .u8 0, .int .u8 0, .int .u8 0, .int .u8 0, .int .u8 0, .int .u8 0, .int .u8 0, .int .u8 0, .int .u8 0, .int .u8 0, .int .u8 0, .int .u8 0, .int .u8 0, .int .u8 0, .int .u8 0, .int .u8 0, .int .u8 0, .int .u8 0, .int .u8 0, .int .u8 0, .int .u8 0, .int .u8 0, .int .u8 0, .int .u8 0, .int .u8 0, .int .u8 0, .int .u8 0, .int .u8 0, .int .u8 0, .int .u8 0], by kernel_rfl, by kernel_rfl⟩, (by kernel_rfl : Tryd.prog.underlying 87 = some (.array 64 5))⟩
def tys : List (TypeId × TI) := [(3, ⟨.int .i64, 1, 8, some (.int .i64), [.int .i64 0]⟩), (4, ⟨.bool, 1, 1, some .bool, [.bool false]⟩), (5, ⟨.int .u8, 1, 1, some (.int .u8), [.int .u8 0]⟩), (9, ⟨.str, 1, 16, some .str, [.string ByteArray.empty]⟩), (22, ⟨.slice 5, 1, 24, some (.list (.int .u8)), [.slice none 0 0]⟩), (25, ⟨.slice 3, 1, 24, some (.list (.int .i64)), [.slice none 0 0]⟩), (40, ⟨.scalar, 1, 8, none, [.pointer none]⟩), (44, ⟨.strct [(0, 25), (1, 25), (2, 3), (3, 3)], 4, 64, some (.pair (.list (.int .i64)) (.pair (.list (.int .i64)) (.pair (.int .i64) (.pair (.int .i64) .unit)))), [.slice none 0 0, .slice none 0 0, .int .i64 0, .int .i64 0]⟩), (47, ⟨.map 5 51, 1, 8, none, [.map none]⟩), (51, ⟨.scalar, 1, 8, none, [.nilFunc]⟩), (52, ⟨.slice 55, 1, 24, some (.list (.int .u64)), [.slice none 0 0]⟩), (55, ⟨.int .u64, 1, 8, some (.int .u64), [.int .u64 0]⟩), (57, ⟨.slice 4, 1, 24, some (.list .bool), [.slice none 0 0]⟩), (60, ⟨.strct [(0, 22), (1, 3)], 2, 32, some (.pair (.list (.int .u8)) (.pair (.int .i64) .unit)), [.slice none 0 0, .int .i64 0]⟩), (61, ⟨.slice 9, 1, 24, some (.list .str), [.slice none 0 0]⟩), (67, ⟨.scalar, 1, 8, none, [.nilFunc]⟩), (75, ⟨.strct [(0, 25), (1, 3), (2, 3)], 3, 40, some (.pair (.list (.int .i64)) (.pair (.int .i64) (.pair (.int .i64) .unit))), [.slice none 0 0, .int .i64 0, .int .i64 0]⟩), (85, ⟨.int .u64, 1, 8, some (.int .u64), [.int .u64 0]⟩), (87, ⟨.arr 64 5, 64, 64, none, [.int .u8 0, .int .u8 0, .int .u8 0, .int .u8 0, .int .u8 0, .int .u8 0, .int .u8 0, .int .u8 0, .int .u8 0, .int .u8 0, .int .u8 0, .int .u8 0, .int .u8 0, .int .u8 0, .int .u8 0, .int .u8 0, .int .u8 0, .int .u8 0, .int .u8 0, .int .u8 0, .int .u8 0, .int .u8 0, .int .u8 0, .int .u8 0, .int .u8 0, .int .u8 0, .int .u8 0, .int .u8 0, .int .u8 0, .int .u8 0, .int .u8 0, .int .u8 0, .int .u8 0, .int .u8 0, .int .u8 0, .int .u8 0, .int .u8 0, .int .u8 0, .int .u8 0, .int .u8 0, .int .u8 0, .int .u8 0, .int .u8 0, .int .u8 0, .int .u8 0, .int .u8 0, .int .u8 0, .int .u8 0, .int .u8 0, .int .u8 0, .int .u8 0, .int .u8 0, .int .u8 0, .int .u8 0, .int .u8 0, .int .u8 0, .int .u8 0, .int .u8 0, .int .u8 0, .int .u8 0, .int .u8 0, .int .u8 0, .int .u8 0, .int .u8 0]⟩)]
theorem tys_ok : TOk Tryd.prog (tlook tys) := tok_of (List.forall_mem_cons.2 ⟨ty3, List.forall_mem_cons.2 ⟨ty4, List.forall_mem_cons.2 ⟨ty5, List.forall_mem_cons.2 ⟨ty9, List.forall_mem_cons.2 ⟨ty22, List.forall_mem_cons.2 ⟨ty25, List.forall_mem_cons.2 ⟨ty40, List.forall_mem_cons.2 ⟨ty44, List.forall_mem_cons.2 ⟨ty47, List.forall_mem_cons.2 ⟨ty51, List.forall_mem_cons.2 ⟨ty52, List.forall_mem_cons.2 ⟨ty55, List.forall_mem_cons.2 ⟨ty57, List.forall_mem_cons.2 ⟨ty60, List.forall_mem_cons.2 ⟨ty61, List.forall_mem_cons.2 ⟨ty67, List.forall_mem_cons.2 ⟨ty75, List.forall_mem_cons.2 ⟨ty85, List.forall_mem_cons.2 ⟨ty87, by simp⟩⟩⟩⟩⟩⟩⟩⟩⟩⟩⟩⟩⟩⟩⟩⟩⟩⟩⟩)
def ioF (f : FuncId) (i : Nat) : Bool := [(43, 0), (46, 1)].any fun (p : Nat × Nat) => Nat.beq p.1 f && Nat.beq p.2 i

/-! loop.example/headtrees/spec.l20Open -/

def spec_l20Open_an : Ann := (.seq (.leaf [0]) (.seq (.seq (.leaf [0, 5]) (.cond (.leaf [0]) (.leaf [0]))) (.seq (.leaf [2]) (.leaf [2]))))

noncomputable def spec_l20Open_ctx : Ctx := ⟨tlook tys, olook [], ioF, 0, false, []⟩

theorem spec_l20Open_n1_l (x13 : List Int) : Link spec_l20Open_ctx LL (bodyOf Tryd.f17) spec_l20Open_an (⟨mkE 11 0 [(0, .dat (.list (.int .u8)) x13)], []⟩ : St) (spec_l20Open_n1 x13) (fun (t : (List Int)) => (Exit.ret, (⟨mkE 11 0 [(2, .ptr 0 0)], [some (.box [.dat (.list (.int .u8)) t, .dat (.int .i64) 0])]⟩ : St))) := by
  refine Link.of fun K h => ?_
  simp only [spec_l20Open_n1, wpO_bind, wpO_cond, wpO_map, wpO_some] at h
  exact Awp.of (by kernel_rfl) h

theorem spec_l20Open_e (x13 : List Int) {r : AV} {H' : Heap} (h : (Ans.mk _ (spec_l20Open x13) (fun (t : (List Int)) => (.ptr 0 0, [some (.box [.dat (.list (.int .u8)) t, .dat (.int .i64) 0])])) [] none).run = some (r, H')) : Awp spec_l20Open_ctx LL (bodyOf Tryd.f17) spec_l20Open_an (⟨mkE 11 0 [(0, .dat (.list (.int .u8)) x13)], []⟩ : St) (Ret (tlook tys) Tryd.f17.results.toList r H') :=
  ret_of' (spec_l20Open_n1_l x13) (by unfold spec_l20Open; kernel_rfl) (by
  intro t
  exact ret_mk [.ptr 0 0] (by kernel_rfl) (by kernel_rfl) (by kernel_rfl) (by kernel_rfl)) h

def F_spec_l20Open : Fun := fun avs H =>
  match avs, H with
  | [.dat (.list (.int .u8)) x13], [] => ⟨_, spec_l20Open x13, fun (t : (List Int)) => (.ptr 0 0, [some (.box [.dat (.list (.int .u8)) t, .dat (.int .i64) 0])]), [], none⟩
  | _, _ => Ans.no

theorem spec_l20Open_sound : Sound Tryd.prog 17 F_spec_l20Open := by
  refine fn_sound' (C := spec_l20Open_ctx) (c := bodyOf Tryd.f17) (cok_of tys_ok (by simp) (by simp) (by kernel_rfl)) Tryd.func17 (by kernel_rfl) LL spec_l20Open_an ?_
  intro avs H r H' h
  unfold F_spec_l20Open at h
  split at h
  · refine Awp.cast ?_ ?_ ?_ (spec_l20Open_e _ h) <;> kernel_rfl
  · simp [Ans.no, Ans.run] at h

/-! (*loop.example/headtrees/spec.l20Rd).pick -/

def spec_l20Rd_pick_an : Ann := (.seq (.leaf [0, 1]) (.seq (.leaf [0, 1]) (.seq (.seq (.leaf [0, 1, 24]) (.cond (.seq (.leaf [4]) (.leaf [4])) (.leaf [0, 1]))) (.seq (.leaf [0, 1, 5]) (.seq (.seq (.leaf [0, 1, 5, 36]) (.cond (.seq (.leaf [4]) (.leaf [4])) (.leaf [0, 1, 5]))) (.seq (.draw [] [0, 1, 2, 3, 4, 5, 6, 7, 8, 9, 10, 11, 12, 13, 14, 15, 16, 17, 18, 19, 20, 21, 22, 23, 24, 25, 26, 27, 28, 29, 30, 31, 32, 33, 34, 35, 36, 37, 38, 39, 40, 41, 42, 43, 44, 45] [] [1, 6]) (.seq (.leaf [1, 6]) (.seq (.leaf [4]) (.leaf [4])))))))))

noncomputable def spec_l20Rd_pick_ctx : Ctx := ⟨tlook tys, olook [], ioF, 1, false, []⟩

theorem spec_l20Rd_pick_n1_l (x35 : Int) (x36 : List Int) (x37 : Int) : Link spec_l20Rd_pick_ctx LL (bodyOf Tryd.f18) spec_l20Rd_pick_an (⟨mkE 99 0 [(0, .ptr 0 0), (1, .dat (.int .i64) x35)], [some (.box [.dat (.list (.int .u8)) x36, .dat (.int .i64) x37])]⟩ : St) (spec_l20Rd_pick_n1 x35 x36 x37) (fun (t : Int × Int) => (Exit.ret, (⟨mkE 99 0 [(4, .dat (.int .i64) t.1)], [some (.box [.dat (.list (.int .u8)) x36, .dat (.int .i64) t.2])]⟩ : St))) := by
  refine Link.of fun K h => ?_
  simp only [spec_l20Rd_pick_n1, wpO_bind, wpO_cond, wpO_map, wpO_some] at h
  exact Awp.of (by kernel_rfl) h

theorem spec_l20Rd_pick_e (x35 : Int) (x36 : List Int) (x37 : Int) {r : AV} {H' : Heap} (h : (Ans.mk _ (spec_l20Rd_pick x35 x36 x37) (fun (t : Int × Int) => (.dat (.int .i64) t.1, [some (.box [.dat (.list (.int .u8)) x36, .dat (.int .i64) t.2])])) [] none).run = some (r, H')) : Awp spec_l20Rd_pick_ctx LL (bodyOf Tryd.f18) spec_l20Rd_pick_an (⟨mkE 99 0 [(0, .ptr 0 0), (1, .dat (.int .i64) x35)], [some (.box [.dat (.list (.int .u8)) x36, .dat (.int .i64) x37])]⟩ : St) (Ret (tlook tys) Tryd.f18.results.toList r H') :=
  ret_of' (spec_l20Rd_pick_n1_l x35 x36 x37) (by unfold spec_l20Rd_pick; kernel_rfl) (by
  intro t
  exact ret_mk [.dat (.int .i64) t.1] (by kernel_rfl) (by kernel_rfl) (by kernel_rfl) (by kernel_rfl)) h

def F_spec_l20Rd_pick : Fun := fun avs H =>
  match avs, H with
  | [.ptr 0 0, .dat (.int .i64) x35], [some (.box [.dat (.list (.int .u8)) x36, .dat (.int .i64) x37])] => ⟨_, spec_l20Rd_pick x35 x36 x37, fun (t : Int × Int) => (.dat (.int .i64) t.1, [some (.box [.dat (.list (.int .u8)) x36, .dat (.int .i64) t.2])]), [], none⟩
  | _, _ => Ans.no

theorem spec_l20Rd_pick_sound : Sound Tryd.prog 18 F_spec_l20Rd_pick := by
  refine fn_sound' (C := spec_l20Rd_pick_ctx) (c := bodyOf Tryd.f18) (cok_of tys_ok (by simp) (by simp) (by kernel_rfl)) Tryd.func18 (by kernel_rfl) LL spec_l20Rd_pick_an ?_
  intro avs H r H' h
  unfold F_spec_l20Rd_pick at h
  split at h
  · refine Awp.cast ?_ ?_ ?_ (spec_l20Rd_pick_e _ _ _ h) <;> kernel_rfl
  · simp [Ans.no, Ans.run] at h

/-! (*loop.example/headtrees/spec.l20Rd).odd -/

def spec_l20Rd_odd_an : Ann := (.seq (.leaf [0, 1]) (.seq (.leaf [4]) (.leaf [4])))

noncomputable def spec_l20Rd_odd_ctx : Ctx := ⟨tlook tys, olook [(18, F_spec_l20Rd_pick)], ioF, 1, false, []⟩

theorem spec_l20Rd_odd_n1_l (x352 : Int) (x353 : List Int) (x354 : Int) : Link spec_l20Rd_odd_ctx LL (bodyOf Tryd.f32) spec_l20Rd_odd_an (⟨mkE 15 0 [(0, .ptr 0 0), (1, .dat (.int .i64) x352)], [some (.box [.dat (.list (.int .u8)) x353, .dat (.int .i64) x354])]⟩ : St) (spec_l20Rd_odd_n1 x352 x353 x354) (fun (t : Bool × Int) => (Exit.ret, (⟨mkE 15 0 [(4, .dat .bool t.1)], [some (.box [.dat (.list (.int .u8)) x353, .dat (.int .i64) t.2])]⟩ : St))) := by
  refine Link.of fun K h => ?_
  simp only [spec_l20Rd_odd_n1, wpO_bind, wpO_cond, wpO_map, wpO_some] at h
  exact Awp.of (by kernel_rfl) h

theorem spec_l20Rd_odd_e (x352 : Int) (x353 : List Int) (x354 : Int) {r : AV} {H' : Heap} (h : (Ans.mk _ (spec_l20Rd_odd x352 x353 x354) (fun (t : Bool × Int) => (.dat .bool t.1, [some (.box [.dat (.list (.int .u8)) x353, .dat (.int .i64) t.2])])) [] none).run = some (r, H')) : Awp spec_l20Rd_odd_ctx LL (bodyOf Tryd.f32) spec_l20Rd_odd_an (⟨mkE 15 0 [(0, .ptr 0 0), (1, .dat (.int .i64) x352)], [some (.box [.dat (.list (.int .u8)) x353, .dat (.int .i64) x354])]⟩ : St) (Ret (tlook tys) Tryd.f32.results.toList r H') :=
  ret_of' (spec_l20Rd_odd_n1_l x352 x353 x354) (by unfold spec_l20Rd_odd; kernel_rfl) (by
  intro t
  exact ret_mk [.dat .bool t.1] (by kernel_rfl) (by kernel_rfl) (by kernel_rfl) (by kernel_rfl)) h

def F_spec_l20Rd_odd : Fun := fun avs H =>
  match avs, H with
  | [.ptr 0 0, .dat (.int .i64) x352], [some (.box [.dat (.list (.int .u8)) x353, .dat (.int .i64) x354])] => ⟨_, spec_l20Rd_odd x352 x353 x354, fun (t : Bool × Int) => (.dat .bool t.1, [some (.box [.dat (.list (.int .u8)) x353, .dat (.int .i64) t.2])]), [], none⟩
  | _, _ => Ans.no

theorem spec_l20Rd_odd_sound : Sound Tryd.prog 32 F_spec_l20Rd_odd := by
  refine fn_sound' (C := spec_l20Rd_odd_ctx) (c := bodyOf Tryd.f32) (cok_of tys_ok (List.forall_mem_cons.2 ⟨spec_l20Rd_pick_sound, by simp⟩) (List.forall_mem_cons.2 ⟨Tryd.call18, by simp⟩) (by kernel_rfl)) Tryd.func32 (by kernel_rfl) LL spec_l20Rd_odd_an ?_
  intro avs H r H' h
  unfold F_spec_l20Rd_odd at h
  split at h
  · refine Awp.cast ?_ ?_ ?_ (spec_l20Rd_odd_e _ _ _ h) <;> kernel_rfl
  · simp [Ans.no, Ans.run] at h

/-! loop.example/headtrees/spec.l20Moves -/

def spec_l20Moves_an : Ann := (.seq (.leaf [0, 1]) (.seq (.leaf [0, 1, 5]) (.seq (.leaf [0, 1, 5, 6]) (.seq (.leaf [0, 5, 6, 7]) (.seq (.block (.loop (.seq (.seq (.leaf [0, 5, 6, 7, 15]) (.cond (.leaf [0, 5, 6, 7]) (.leaf [0, 5]))) (.block (.seq (.seq (.leaf [0, 5, 6, 7, 26]) (.cond (.seq (.leaf [0, 5, 6, 7]) (.seq (.leaf [0, 5, 6, 7]) (.seq (.leaf [0, 5, 6, 7]) (.leaf [0, 5, 6, 7])))) (.leaf [0, 5, 6, 7]))) (.seq (.leaf [0, 5, 6, 7]) (.leaf [0, 5, 6, 7]))))))) (.seq (.seq (.leaf [0, 5, 48]) (.cond (.seq (.leaf [0, 5, 8]) (.seq (.draw [3, 2, 12] [0, 1, 2, 3, 4, 9, 10, 11, 12, 5, 6, 7, 8, 13, 14] [] [4]) (.leaf [4]))) (.leaf [5]))) (.seq (.leaf [4]) (.leaf [4]))))))))

noncomputable def spec_l20Moves_ctx : Ctx := ⟨tlook tys, olook [(18, F_spec_l20Rd_pick), (32, F_spec_l20Rd_odd)], ioF, 1, false, []⟩

theorem spec_l20Moves_n1_l (x213 : Int) (x214 : List Int) (x215 : Int) : Link spec_l20Moves_ctx LL (Code.seq (Code.fst (bodyOf Tryd.f19)) (Code.seq (Code.fst (Code.snd (bodyOf Tryd.f19))) (Code.seq (Code.fst (Code.snd (Code.snd (bodyOf Tryd.f19)))) (Code.fst (Code.snd (Code.snd (Code.snd (bodyOf Tryd.f19)))))))) (Ann.seq (Ann.fst spec_l20Moves_an) (Ann.seq (Ann.fst (Ann.snd spec_l20Moves_an)) (Ann.seq (Ann.fst (Ann.snd (Ann.snd spec_l20Moves_an))) (Ann.fst (Ann.snd (Ann.snd (Ann.snd spec_l20Moves_an))))))) (⟨mkE 68 0 [(0, .ptr 0 0), (1, .dat (.int .i64) x213)], [some (.box [.dat (.list (.int .u8)) x214, .dat (.int .i64) x215])]⟩ : St) (spec_l20Moves_n1) (fun (t : Unit) => (Exit.normal, (⟨mkE 68 0 [(0, .ptr 0 0), (5, .dat .str ByteArray.empty), (6, .dat (.int .i64) 0), (7, .dat (.int .i64) x213)], [some (.box [.dat (.list (.int .u8)) x214, .dat (.int .i64) x215])]⟩ : St))) := by
  refine Link.of fun K h => ?_
  simp only [spec_l20Moves_n1, wpO_bind, wpO_cond, wpO_map, wpO_some] at h
  exact Awp.of (by kernel_rfl) h

theorem spec_l20Moves_n2_l (x734 : ByteArray) (x735 : Int) (x736 : Int) (x214 : List Int) (x737 : Int) : Link spec_l20Moves_ctx LL (Code.fst (Code.fst (Code.fst (Code.snd (Code.snd (Code.snd (Code.snd (bodyOf Tryd.f19)))))))) (Ann.fst (Ann.fst (Ann.fst (Ann.snd (Ann.snd (Ann.snd (Ann.snd spec_l20Moves_an))))))) (⟨mkE 68 0 [(0, .ptr 0 0), (5, .dat .str x734), (6, .dat (.int .i64) x735), (7, .dat (.int .i64) x736)], [some (.box [.dat (.list (.int .u8)) x214, .dat (.int .i64) x737])]⟩ : St) (spec_l20Moves_n2 x734 x735 x736 x214 x737) (Sum.elim (fun (t : ByteArray × Int × Int × Int) => (Exit.normal, (⟨mkE 68 0 [(0, .ptr 0 0), (5, .dat .str t.1), (6, .dat (.int .i64) t.2.1), (7, .dat (.int .i64) t.2.2.1)], [some (.box [.dat (.list (.int .u8)) x214, .dat (.int .i64) t.2.2.2])]⟩ : St))) (fun (t : ByteArray × Int) => ((Exit.exit 0), (⟨mkE 68 0 [(0, .ptr 0 0), (5, .dat .str t.1)], [some (.box [.dat (.list (.int .u8)) x214, .dat (.int .i64) t.2])]⟩ : St)))) := by
  refine Link.of fun K h => ?_
  simp only [spec_l20Moves_n2, wpO_bind, wpO_cond, wpO_map, wpO_some] at h
  exact Awp.of (by kernel_rfl) h

theorem spec_l20Moves_n3_l (x213 : Int) (x214 : List Int) (x215 : Int) : Link spec_l20Moves_ctx LL (Code.fst (Code.fst (Code.snd (Code.snd (Code.snd (Code.snd (bodyOf Tryd.f19))))))) (Ann.fst (Ann.fst (Ann.snd (Ann.snd (Ann.snd (Ann.snd spec_l20Moves_an)))))) (⟨mkE 68 0 [(0, .ptr 0 0), (5, .dat .str ByteArray.empty), (6, .dat (.int .i64) 0), (7, .dat (.int .i64) x213)], [some (.box [.dat (.list (.int .u8)) x214, .dat (.int .i64) x215])]⟩ : St) (spec_l20Moves_n3 x213 x214 x215) (fun (t : ByteArray × Int) => ((Exit.exit 0), (⟨mkE 68 0 [(0, .ptr 0 0), (5, .dat .str t.1)], [some (.box [.dat (.list (.int .u8)) x214, .dat (.int .i64) t.2])]⟩ : St))) := by
  unfold spec_l20Moves_n3
  exact Link.cast (by kernel_rfl) (by kernel_rfl) (link_loop (mk := fun (s : ByteArray × Int × Int × Int) => (⟨mkE 68 0 [(0, .ptr 0 0), (5, .dat .str s.1), (6, .dat (.int .i64) s.2.1), (7, .dat (.int .i64) s.2.2.1)], [some (.box [.dat (.list (.int .u8)) x214, .dat (.int .i64) s.2.2.2])]⟩ : St)) (fin := (fun (t : ByteArray × Int) => ((Exit.exit 0), (⟨mkE 68 0 [(0, .ptr 0 0), (5, .dat .str t.1)], [some (.box [.dat (.list (.int .u8)) x214, .dat (.int .i64) t.2])]⟩ : St)))) (by
  rintro t f K h
  · exact h) (fun s => link_map (spec_l20Moves_n2_l s.1 s.2.1 s.2.2.1 x214 s.2.2.2) (Sum.elim (fun (t : ByteArray × Int × Int × Int) => Sum.inl (t.1, t.2.1, t.2.2.1, t.2.2.2)) (fun (t : ByteArray × Int) => Sum.inr t)) (by
  rintro (t | t)
  · kernel_rfl
  · kernel_rfl)) (ByteArray.empty, 0, x213, x215))

theorem spec_l20Moves_n4_l (x213 : Int) (x214 : List Int) (x215 : Int) : Link spec_l20Moves_ctx LL (Code.fst (Code.snd (Code.snd (Code.snd (Code.snd (bodyOf Tryd.f19)))))) (Ann.fst (Ann.snd (Ann.snd (Ann.snd (Ann.snd spec_l20Moves_an))))) (⟨mkE 68 0 [(0, .ptr 0 0), (5, .dat .str ByteArray.empty), (6, .dat (.int .i64) 0), (7, .dat (.int .i64) x213)], [some (.box [.dat (.list (.int .u8)) x214, .dat (.int .i64) x215])]⟩ : St) (spec_l20Moves_n4 x213 x214 x215) (fun (t : ByteArray × Int) => (Exit.normal, (⟨mkE 68 0 [(0, .ptr 0 0), (5, .dat .str t.1)], [some (.box [.dat (.list (.int .u8)) x214, .dat (.int .i64) t.2])]⟩ : St))) := by
  unfold spec_l20Moves_n4
  exact Link.cast (by kernel_rfl) (by kernel_rfl) (link_block (id := 0) (spec_l20Moves_n3_l x213 x214 x215) (fun (t : ByteArray × Int) => (t.1, t.2)) (by
  rintro t K h
  · exact Eq.mp (by kernel_rfl) h))

theorem spec_l20Moves_n5_l (x734 : ByteArray) (x214 : List Int) (x737 : Int) : Link spec_l20Moves_ctx LL (Code.snd (Code.snd (Code.snd (Code.snd (Code.snd (bodyOf Tryd.f19)))))) (Ann.snd (Ann.snd (Ann.snd (Ann.snd (Ann.snd spec_l20Moves_an))))) (⟨mkE 68 0 [(0, .ptr 0 0), (5, .dat .str x734)], [some (.box [.dat (.list (.int .u8)) x214, .dat (.int .i64) x737])]⟩ : St) (spec_l20Moves_n5 x734 x214 x737) (fun (t : ByteArray × Int) => (Exit.ret, (⟨mkE 68 0 [(4, .dat .str t.1)], [some (.box [.dat (.list (.int .u8)) x214, .dat (.int .i64) t.2])]⟩ : St))) := by
  refine Link.of fun K h => ?_
  simp only [spec_l20Moves_n5, wpO_bind, wpO_cond, wpO_map, wpO_some] at h
  exact Awp.of (by kernel_rfl) h

theorem spec_l20Moves_n6_l (x213 : Int) (x214 : List Int) (x215 : Int) : Link spec_l20Moves_ctx LL (Code.snd (Code.snd (Code.snd (Code.snd (bodyOf Tryd.f19))))) (Ann.snd (Ann.snd (Ann.snd (Ann.snd spec_l20Moves_an)))) (⟨mkE 68 0 [(0, .ptr 0 0), (5, .dat .str ByteArray.empty), (6, .dat (.int .i64) 0), (7, .dat (.int .i64) x213)], [some (.box [.dat (.list (.int .u8)) x214, .dat (.int .i64) x215])]⟩ : St) (spec_l20Moves_n6 x213 x214 x215) (fun (t : ByteArray × Int) => (Exit.ret, (⟨mkE 68 0 [(4, .dat .str t.1)], [some (.box [.dat (.list (.int .u8)) x214, .dat (.int .i64) t.2])]⟩ : St))) := by
  unfold spec_l20Moves_n6
  exact Link.cast (by kernel_rfl) (by kernel_rfl) (link_seq (b := (Code.snd (Code.snd (Code.snd (Code.snd (Code.snd (bodyOf Tryd.f19))))))) (y := (Ann.snd (Ann.snd (Ann.snd (Ann.snd (Ann.snd spec_l20Moves_an)))))) (spec_l20Moves_n4_l x213 x214 x215) (fun (t : ByteArray × Int) => (spec_l20Moves_n5_l t.1 x214 t.2)))

theorem spec_l20Moves_n7_l (x213 : Int) (x214 : List Int) (x215 : Int) : Link spec_l20Moves_ctx LL (bodyOf Tryd.f19) spec_l20Moves_an (⟨mkE 68 0 [(0, .ptr 0 0), (1, .dat (.int .i64) x213)], [some (.box [.dat (.list (.int .u8)) x214, .dat (.int .i64) x215])]⟩ : St) (spec_l20Moves_n7 x213 x214 x215) (fun (t : ByteArray × Int) => (Exit.ret, (⟨mkE 68 0 [(4, .dat .str t.1)], [some (.box [.dat (.list (.int .u8)) x214, .dat (.int .i64) t.2])]⟩ : St))) := by
  unfold spec_l20Moves_n7
  exact Link.cast (by kernel_rfl) (by kernel_rfl) (link_group (c := (Code.fst (Code.snd (Code.snd (Code.snd (bodyOf Tryd.f19)))))) (a := (Ann.fst (Ann.snd (Ann.snd (Ann.snd spec_l20Moves_an))))) [(Code.fst (bodyOf Tryd.f19)), (Code.fst (Code.snd (bodyOf Tryd.f19))), (Code.fst (Code.snd (Code.snd (bodyOf Tryd.f19))))] [(Ann.fst spec_l20Moves_an), (Ann.fst (Ann.snd spec_l20Moves_an)), (Ann.fst (Ann.snd (Ann.snd spec_l20Moves_an)))] rfl (link_seq (b := (Code.snd (Code.snd (Code.snd (Code.snd (bodyOf Tryd.f19)))))) (y := (Ann.snd (Ann.snd (Ann.snd (Ann.snd spec_l20Moves_an))))) (spec_l20Moves_n1_l x213 x214 x215) (fun (t : Unit) => (spec_l20Moves_n6_l x213 x214 x215))))

theorem spec_l20Moves_e (x213 : Int) (x214 : List Int) (x215 : Int) {r : AV} {H' : Heap} (h : (Ans.mk _ (spec_l20Moves x213 x214 x215) (fun (t : ByteArray × Int) => (.dat .str t.1, [some (.box [.dat (.list (.int .u8)) x214, .dat (.int .i64) t.2])])) [] none).run = some (r, H')) : Awp spec_l20Moves_ctx LL (bodyOf Tryd.f19) spec_l20Moves_an (⟨mkE 68 0 [(0, .ptr 0 0), (1, .dat (.int .i64) x213)], [some (.box [.dat (.list (.int .u8)) x214, .dat (.int .i64) x215])]⟩ : St) (Ret (tlook tys) Tryd.f19.results.toList r H') :=
  ret_of' (spec_l20Moves_n7_l x213 x214 x215) (by unfold spec_l20Moves; kernel_rfl) (by
  intro t
  exact ret_mk [.dat .str t.1] (by kernel_rfl) (by kernel_rfl) (by kernel_rfl) (by kernel_rfl)) h

def F_spec_l20Moves : Fun := fun avs H =>
  match avs, H with
  | [.ptr 0 0, .dat (.int .i64) x213], [some (.box [.dat (.list (.int .u8)) x214, .dat (.int .i64) x215])] => ⟨_, spec_l20Moves x213 x214 x215, fun (t : ByteArray × Int) => (.dat .str t.1, [some (.box [.dat (.list (.int .u8)) x214, .dat (.int .i64) t.2])]), [], none⟩
  | _, _ => Ans.no

theorem spec_l20Moves_sound : Sound Tryd.prog 19 F_spec_l20Moves := by
  refine fn_sound' (C := spec_l20Moves_ctx) (c := bodyOf Tryd.f19) (cok_of tys_ok (List.forall_mem_cons.2 ⟨spec_l20Rd_pick_sound, List.forall_mem_cons.2 ⟨spec_l20Rd_odd_sound, by simp⟩⟩) (List.forall_mem_cons.2 ⟨Tryd.call18, List.forall_mem_cons.2 ⟨Tryd.call32, by simp⟩⟩) (by kernel_rfl)) Tryd.func19 (by kernel_rfl) LL spec_l20Moves_an ?_
  intro avs H r H' h
  unfold F_spec_l20Moves at h
  split at h
  · refine Awp.cast ?_ ?_ ?_ (spec_l20Moves_e _ _ _ h) <;> kernel_rfl
  · simp [Ans.no, Ans.run] at h

/-! loop.example/headtrees/spec.DrawRunStack -/

def spec_DrawRunStack_an : Ann := (.seq (.leaf [0]) (.seq (.leaf [4]) (.seq (.leaf [4, 5]) (.seq (.leaf [2, 3]) (.leaf [2, 3])))))

noncomputable def spec_DrawRunStack_ctx : Ctx := ⟨tlook tys, olook [(17, F_spec_l20Open), (18, F_spec_l20Rd_pick), (19, F_spec_l20Moves)], ioF, 0, false, []⟩

theorem spec_DrawRunStack_n1_l (x10 : List Int) : Link spec_DrawRunStack_ctx LL (bodyOf Tryd.f6) spec_DrawRunStack_an (⟨mkE 23 0 [(0, .dat (.list (.int .u8)) x10)], []⟩ : St) (spec_DrawRunStack_n1 x10) (fun (t : Int × ByteArray) => (Exit.ret, (⟨mkE 23 0 [(2, .dat (.int .i64) t.1), (3, .dat .str t.2)], []⟩ : St))) := by
  refine Link.of fun K h => ?_
  simp only [spec_DrawRunStack_n1, wpO_bind, wpO_cond, wpO_map, wpO_some] at h
  exact Awp.of (by kernel_rfl) h

theorem spec_DrawRunStack_e (x10 : List Int) {r : AV} {H' : Heap} (h : (Ans.mk _ (spec_DrawRunStack x10) (fun (t : Int × ByteArray) => (.tup [.dat (.int .i64) t.1, .dat .str t.2], [])) [] none).run = some (r, H')) : Awp spec_DrawRunStack_ctx LL (bodyOf Tryd.f6) spec_DrawRunStack_an (⟨mkE 23 0 [(0, .dat (.list (.int .u8)) x10)], []⟩ : St) (Ret (tlook tys) Tryd.f6.results.toList r H') :=
  ret_of' (spec_DrawRunStack_n1_l x10) (by unfold spec_DrawRunStack; kernel_rfl) (by
  intro t
  exact ret_mk [.dat (.int .i64) t.1, .dat .str t.2] (by kernel_rfl) (by kernel_rfl) (by kernel_rfl) (by kernel_rfl)) h

def F_spec_DrawRunStack : Fun := fun avs H =>
  match avs, H with
  | [.dat (.list (.int .u8)) x10], [] => ⟨_, spec_DrawRunStack x10, fun (t : Int × ByteArray) => (.tup [.dat (.int .i64) t.1, .dat .str t.2], []), [], none⟩
  | _, _ => Ans.no

theorem spec_DrawRunStack_sound : Sound Tryd.prog 6 F_spec_DrawRunStack := by
  refine fn_sound' (C := spec_DrawRunStack_ctx) (c := bodyOf Tryd.f6) (cok_of tys_ok (List.forall_mem_cons.2 ⟨spec_l20Open_sound, List.forall_mem_cons.2 ⟨spec_l20Rd_pick_sound, List.forall_mem_cons.2 ⟨spec_l20Moves_sound, by simp⟩⟩⟩) (List.forall_mem_cons.2 ⟨Tryd.call17, List.forall_mem_cons.2 ⟨Tryd.call18, List.forall_mem_cons.2 ⟨Tryd.call19, by simp⟩⟩⟩) (by kernel_rfl)) Tryd.func6 (by kernel_rfl) LL spec_DrawRunStack_an ?_
  intro avs H r H' h
  unfold F_spec_DrawRunStack at h
  split at h
  · refine Awp.cast ?_ ?_ ?_ (spec_DrawRunStack_e _ h) <;> kernel_rfl
  · simp [Ans.no, Ans.run] at h

/-! loop.example/headtrees/impl.newStackMachine -/

def impl_newStackMachine_an : Ann := (.seq (.leaf [0]) (.seq (.leaf [2]) (.leaf [2])))

noncomputable def impl_newStackMachine_ctx : Ctx := ⟨tlook tys, olook [], ioF, 0, false, []⟩

theorem impl_newStackMachine_n1_l (x911 : Int) : Link impl_newStackMachine_ctx LL (bodyOf Tryd.f24) impl_newStackMachine_an (⟨mkE 7 0 [(0, .dat (.int .i64) x911)], []⟩ : St) (impl_newStackMachine_n1 x911) (fun (t : (List Int)) => (Exit.ret, (⟨mkE 7 0 [(2, .ptr 0 0)], [some (.box [.slc 1, .nils, .dat (.int .i64) 0, .dat (.int .i64) 0]), some (.seq (.int .i64) t)]⟩ : St))) := by
  refine Link.of fun K h => ?_
  simp only [impl_newStackMachine_n1, wpO_bind, wpO_cond, wpO_map, wpO_some] at h
  exact Awp.of (by kernel_rfl) h

theorem impl_newStackMachine_e (x911 : Int) {r : AV} {H' : Heap} (h : (Ans.mk _ (impl_newStackMachine x911) (fun (t : (List Int)) => (.ptr 0 0, [some (.box [.slc 1, .nils, .dat (.int .i64) 0, .dat (.int .i64) 0]), some (.seq (.int .i64) t)])) [] none).run = some (r, H')) : Awp impl_newStackMachine_ctx LL (bodyOf Tryd.f24) impl_newStackMachine_an (⟨mkE 7 0 [(0, .dat (.int .i64) x911)], []⟩ : St) (Ret (tlook tys) Tryd.f24.results.toList r H') :=
  ret_of' (impl_newStackMachine_n1_l x911) (by unfold impl_newStackMachine; kernel_rfl) (by
  intro t
  exact ret_mk [.ptr 0 0] (by kernel_rfl) (by kernel_rfl) (by kernel_rfl) (by kernel_rfl)) h

def F_impl_newStackMachine : Fun := fun avs H =>
  match avs, H with
  | [.dat (.int .i64) x911], [] => ⟨_, impl_newStackMachine x911, fun (t : (List Int)) => (.ptr 0 0, [some (.box [.slc 1, .nils, .dat (.int .i64) 0, .dat (.int .i64) 0]), some (.seq (.int .i64) t)]), [], none⟩
  | _, _ => Ans.no

theorem impl_newStackMachine_sound : Sound Tryd.prog 24 F_impl_newStackMachine := by
  refine fn_sound' (C := impl_newStackMachine_ctx) (c := bodyOf Tryd.f24) (cok_of tys_ok (by simp) (by simp) (by kernel_rfl)) Tryd.func24 (by kernel_rfl) LL impl_newStackMachine_an ?_
  intro avs H r H' h
  unfold F_impl_newStackMachine at h
  split at h
  · refine Awp.cast ?_ ?_ ?_ (impl_newStackMachine_e _ h) <;> kernel_rfl
  · simp [Ans.no, Ans.run] at h

/-! loop.example/headtrees/impl.stackMoves -/

def F_impl_stackMoves : Fun := F_map [(.int .u8 83, 36), (.int .u8 76, 37), (.int .u8 82, 38)]

theorem impl_stackMoves_sound : Sound Tryd.prog 25 F_impl_stackMoves :=
  mapfn_sound (mt := 47) (kt := 5) (et := 51) (d := .int .u8) Tryd.func25 (by kernel_rfl) (by kernel_rfl) (by kernel_rfl) (by kernel_rfl) (by kernel_rfl)

/-! (*loop.example/headtrees/impl.stackMachine).putNext -/

def impl_stackMachine_putNext_an : Ann := (.seq (.leaf [0]) (.seq (.seq (.draw [] [0, 1, 2, 3, 4, 5, 6, 7, 8, 9] [] [0, 12]) (.cond (.seq (.leaf [2]) (.leaf [2])) (.leaf [0]))) (.seq (.leaf [0]) (.seq (.draw [] [0, 1, 2, 3, 4, 5, 6, 7, 8, 9, 10, 11, 12, 13] [] [0]) (.seq (.draw [] [0, 1, 2, 3, 4, 5, 6, 7, 8, 9, 10, 11, 12, 13] [] []) (.seq (.leaf [2]) (.leaf [2])))))))

noncomputable def impl_stackMachine_putNext_ctx : Ctx := ⟨tlook tys, olook [], ioF, 3, false, [2]⟩

theorem impl_stackMachine_putNext_n1_l (x970 : Int) (x971 : Int) (x972 : List Int) (x973 : List Int) : Link impl_stackMachine_putNext_ctx LL (bodyOf Tryd.f36) impl_stackMachine_putNext_an (⟨mkE 46 0 [(0, .ptr 0 0)], [some (.box [.slc 1, .slc 2, .dat (.int .i64) x970, .dat (.int .i64) x971]), some (.seq (.int .i64) x972), some (.seq (.int .i64) x973)]⟩ : St) (impl_stackMachine_putNext_n1 x970 x971 x972 x973) (fun (t : Bool × Int × Int × (List Int)) => (Exit.ret, (⟨mkE 46 0 [(2, .dat .bool t.1)], [some (.box [.slc 1, .slc 2, .dat (.int .i64) t.2.1, .dat (.int .i64) t.2.2.1]), some (.seq (.int .i64) x972), some (.seq (.int .i64) t.2.2.2)]⟩ : St))) := by
  refine Link.of fun K h => ?_
  simp only [impl_stackMachine_putNext_n1, wpO_bind, wpO_cond, wpO_map, wpO_some] at h
  exact Awp.of (by kernel_rfl) h

theorem impl_stackMachine_putNext_e (x970 : Int) (x971 : Int) (x972 : List Int) (x973 : List Int) {r : AV} {H' : Heap} (h : (Ans.mk _ (impl_stackMachine_putNext x970 x971 x972 x973) (fun (t : Bool × Int × Int × (List Int)) => (.dat .bool t.1, [some (.box [.slc 1, .slc 2, .dat (.int .i64) t.2.1, .dat (.int .i64) t.2.2.1]), some (.seq (.int .i64) x972), some (.seq (.int .i64) t.2.2.2)])) [2] none).run = some (r, H')) : Awp impl_stackMachine_putNext_ctx LL (bodyOf Tryd.f36) impl_stackMachine_putNext_an (⟨mkE 46 0 [(0, .ptr 0 0)], [some (.box [.slc 1, .slc 2, .dat (.int .i64) x970, .dat (.int .i64) x971]), some (.seq (.int .i64) x972), some (.seq (.int .i64) x973)]⟩ : St) (Ret (tlook tys) Tryd.f36.results.toList r H') :=
  ret_of' (impl_stackMachine_putNext_n1_l x970 x971 x972 x973) (by unfold impl_stackMachine_putNext; kernel_rfl) (by
  intro t
  exact ret_mk [.dat .bool t.1] (by kernel_rfl) (by kernel_rfl) (by kernel_rfl) (by kernel_rfl)) h

def F_impl_stackMachine_putNext : Fun := fun avs H =>
  match avs, H with
  | [.ptr 0 0], [some (.box [.slc 1, .slc 2, .dat (.int .i64) x970, .dat (.int .i64) x971]), some (.seq (.int .i64) x972), some (.seq (.int .i64) x973)] => ⟨_, impl_stackMachine_putNext x970 x971 x972 x973, fun (t : Bool × Int × Int × (List Int)) => (.dat .bool t.1, [some (.box [.slc 1, .slc 2, .dat (.int .i64) t.2.1, .dat (.int .i64) t.2.2.1]), some (.seq (.int .i64) x972), some (.seq (.int .i64) t.2.2.2)]), [2], none⟩
  | _, _ => Ans.no

theorem impl_stackMachine_putNext_sound : Sound Tryd.prog 36 F_impl_stackMachine_putNext := by
  refine fn_sound' (C := impl_stackMachine_putNext_ctx) (c := bodyOf Tryd.f36) (cok_of tys_ok (by simp) (by simp) (by kernel_rfl)) Tryd.func36 (by kernel_rfl) LL impl_stackMachine_putNext_an ?_
  intro avs H r H' h
  unfold F_impl_stackMachine_putNext at h
  split at h
  · refine Awp.cast ?_ ?_ ?_ (impl_stackMachine_putNext_e _ _ _ _ h) <;> kernel_rfl
  · simp [Ans.no, Ans.run] at h

/-! (*loop.example/headtrees/impl.stackMachine).upperTwo -/

def impl_stackMachine_upperTwo_an : Ann := (.seq (.leaf [0]) (.seq (.leaf [0, 5]) (.seq (.seq (.leaf [0, 5, 12]) (.cond (.seq (.leaf [2, 3, 4]) (.leaf [2, 3, 4])) (.leaf [0, 5]))) (.seq (.draw [] [0, 1, 2, 3, 4, 5, 6, 7, 8, 9, 10, 11, 12, 13, 14, 15, 16, 17, 18] [] [2, 3, 4]) (.leaf [2, 3, 4])))))

noncomputable def impl_stackMachine_upperTwo_ctx : Ctx := ⟨tlook tys, olook [], ioF, 3, false, []⟩

theorem impl_stackMachine_upperTwo_n1_l (x1028 : Int) (x1029 : Int) (x1030 : List Int) (x1031 : List Int) : Link impl_stackMachine_upperTwo_ctx LL (bodyOf Tryd.f42) impl_stackMachine_upperTwo_an (⟨mkE 29 0 [(0, .ptr 0 0)], [some (.box [.slc 1, .slc 2, .dat (.int .i64) x1028, .dat (.int .i64) x1029]), some (.seq (.int .i64) x1030), some (.seq (.int .i64) x1031)]⟩ : St) (impl_stackMachine_upperTwo_n1 x1031) (fun (t : Int × Int × Bool) => (Exit.ret, (⟨mkE 29 0 [(2, .dat (.int .i64) t.1), (3, .dat (.int .i64) t.2.1), (4, .dat .bool t.2.2)], [some (.box [.slc 1, .slc 2, .dat (.int .i64) x1028, .dat (.int .i64) x1029]), some (.seq (.int .i64) x1030), some (.seq (.int .i64) x1031)]⟩ : St))) := by
  refine Link.of fun K h => ?_
  simp only [impl_stackMachine_upperTwo_n1, wpO_bind, wpO_cond, wpO_map, wpO_some] at h
  exact Awp.of (by kernel_rfl) h

theorem impl_stackMachine_upperTwo_e (x1028 : Int) (x1029 : Int) (x1030 : List Int) (x1031 : List Int) {r : AV} {H' : Heap} (h : (Ans.mk _ (impl_stackMachine_upperTwo x1028 x1029 x1030 x1031) (fun (t : Int × Int × Bool) => (.tup [.dat (.int .i64) t.1, .dat (.int .i64) t.2.1, .dat .bool t.2.2], [some (.box [.slc 1, .slc 2, .dat (.int .i64) x1028, .dat (.int .i64) x1029]), some (.seq (.int .i64) x1030), some (.seq (.int .i64) x1031)])) [] none).run = some (r, H')) : Awp impl_stackMachine_upperTwo_ctx LL (bodyOf Tryd.f42) impl_stackMachine_upperTwo_an (⟨mkE 29 0 [(0, .ptr 0 0)], [some (.box [.slc 1, .slc 2, .dat (.int .i64) x1028, .dat (.int .i64) x1029]), some (.seq (.int .i64) x1030), some (.seq (.int .i64) x1031)]⟩ : St) (Ret (tlook tys) Tryd.f42.results.toList r H') :=
  ret_of' (impl_stackMachine_upperTwo_n1_l x1028 x1029 x1030 x1031) (by unfold impl_stackMachine_upperTwo; kernel_rfl) (by
  intro t
  exact ret_mk [.dat (.int .i64) t.1, .dat (.int .i64) t.2.1, .dat .bool t.2.2] (by kernel_rfl) (by kernel_rfl) (by kernel_rfl) (by kernel_rfl)) h

def F_impl_stackMachine_upperTwo : Fun := fun avs H =>
  match avs, H with
  | [.ptr 0 0], [some (.box [.slc 1, .slc 2, .dat (.int .i64) x1028, .dat (.int .i64) x1029]), some (.seq (.int .i64) x1030), some (.seq (.int .i64) x1031)] => ⟨_, impl_stackMachine_upperTwo x1028 x1029 x1030 x1031, fun (t : Int × Int × Bool) => (.tup [.dat (.int .i64) t.1, .dat (.int .i64) t.2.1, .dat .bool t.2.2], [some (.box [.slc 1, .slc 2, .dat (.int .i64) x1028, .dat (.int .i64) x1029]), some (.seq (.int .i64) x1030), some (.seq (.int .i64) x1031)]), [], none⟩
  | _, _ => Ans.no

theorem impl_stackMachine_upperTwo_sound : Sound Tryd.prog 42 F_impl_stackMachine_upperTwo := by
  refine fn_sound' (C := impl_stackMachine_upperTwo_ctx) (c := bodyOf Tryd.f42) (cok_of tys_ok (by simp) (by simp) (by kernel_rfl)) Tryd.func42 (by kernel_rfl) LL impl_stackMachine_upperTwo_an ?_
  intro avs H r H' h
  unfold F_impl_stackMachine_upperTwo at h
  split at h
  · refine Awp.cast ?_ ?_ ?_ (impl_stackMachine_upperTwo_e _ _ _ _ h) <;> kernel_rfl
  · simp [Ans.no, Ans.run] at h

/-! (*loop.example/headtrees/impl.stackMachine).join -/

def impl_stackMachine_join_an : Ann := (.seq (.leaf [0, 2]) (.draw [] [0, 1, 2, 3, 4, 5, 6, 7, 8, 9, 10, 11, 12, 13, 14, 15, 16, 17] [] []))

noncomputable def impl_stackMachine_join_ctx : Ctx := ⟨tlook tys, olook [], ioF, 3, false, [2]⟩

theorem impl_stackMachine_join_n1_l (x1062 : Int) (x1063 : Int) (x1064 : Int) (x1065 : Int) (x1066 : List Int) (x1067 : List Int) : Link impl_stackMachine_join_ctx LL (bodyOf Tryd.f51) impl_stackMachine_join_an (⟨mkE 31 0 [(0, .ptr 0 0), (1, .dat (.int .i64) x1062), (2, .dat (.int .i64) x1063)], [some (.box [.slc 1, .slc 2, .dat (.int .i64) x1064, .dat (.int .i64) x1065]), some (.seq (.int .i64) x1066), some (.seq (.int .i64) x1067)]⟩ : St) (impl_stackMachine_join_n1 x1062 x1063 x1066 x1067) (fun (t : (List Int) × (List Int)) => (Exit.normal, (⟨mkE 31 0 [], [some (.box [.slc 1, .slc 2, .dat (.int .i64) x1064, .dat (.int .i64) x1065]), some (.seq (.int .i64) t.1), some (.seq (.int .i64) t.2)]⟩ : St))) := by
  refine Link.of fun K h => ?_
  simp only [impl_stackMachine_join_n1, wpO_bind, wpO_cond, wpO_map, wpO_some] at h
  exact Awp.of (by kernel_rfl) h

theorem impl_stackMachine_join_e (x1062 : Int) (x1063 : Int) (x1064 : Int) (x1065 : Int) (x1066 : List Int) (x1067 : List Int) {r : AV} {H' : Heap} (h : (Ans.mk _ (impl_stackMachine_join x1062 x1063 x1064 x1065 x1066 x1067) (fun (t : (List Int) × (List Int)) => (.tup [], [some (.box [.slc 1, .slc 2, .dat (.int .i64) x1064, .dat (.int .i64) x1065]), some (.seq (.int .i64) t.1), some (.seq (.int .i64) t.2)])) [2] none).run = some (r, H')) : Awp impl_stackMachine_join_ctx LL (bodyOf Tryd.f51) impl_stackMachine_join_an (⟨mkE 31 0 [(0, .ptr 0 0), (1, .dat (.int .i64) x1062), (2, .dat (.int .i64) x1063)], [some (.box [.slc 1, .slc 2, .dat (.int .i64) x1064, .dat (.int .i64) x1065]), some (.seq (.int .i64) x1066), some (.seq (.int .i64) x1067)]⟩ : St) (Ret (tlook tys) Tryd.f51.results.toList r H') :=
  ret_of (impl_stackMachine_join_n1_l x1062 x1063 x1064 x1065 x1066 x1067) (fun (t : (List Int) × (List Int)) => (t.1, t.2)) (by unfold impl_stackMachine_join; kernel_rfl) (by
  rintro t
  · exact ret_mk [] (by kernel_rfl) (by kernel_rfl) (by kernel_rfl) (by kernel_rfl)) h

def F_impl_stackMachine_join : Fun := fun avs H =>
  match avs, H with
  | [.ptr 0 0, .dat (.int .i64) x1062, .dat (.int .i64) x1063], [some (.box [.slc 1, .slc 2, .dat (.int .i64) x1064, .dat (.int .i64) x1065]), some (.seq (.int .i64) x1066), some (.seq (.int .i64) x1067)] => ⟨_, impl_stackMachine_join x1062 x1063 x1064 x1065 x1066 x1067, fun (t : (List Int) × (List Int)) => (.tup [], [some (.box [.slc 1, .slc 2, .dat (.int .i64) x1064, .dat (.int .i64) x1065]), some (.seq (.int .i64) t.1), some (.seq (.int .i64) t.2)]), [2], none⟩
  | _, _ => Ans.no

theorem impl_stackMachine_join_sound : Sound Tryd.prog 51 F_impl_stackMachine_join := by
  refine fn_sound' (C := impl_stackMachine_join_ctx) (c := bodyOf Tryd.f51) (cok_of tys_ok (by simp) (by simp) (by kernel_rfl)) Tryd.func51 (by kernel_rfl) LL impl_stackMachine_join_an ?_
  intro avs H r H' h
  unfold F_impl_stackMachine_join at h
  split at h
  · refine Awp.cast ?_ ?_ ?_ (impl_stackMachine_join_e _ _ _ _ _ _ h) <;> kernel_rfl
  · simp [Ans.no, Ans.run] at h

/-! (*loop.example/headtrees/impl.stackMachine).takeBelow -/

def impl_stackMachine_takeBelow_an : Ann := (.seq (.leaf [0]) (.seq (.leaf [0, 3, 4, 5]) (.seq (.seq (.leaf [0, 3, 4, 5, 12]) (.cond (.leaf [5]) (.leaf [5]))) (.seq (.leaf [2]) (.leaf [2])))))

noncomputable def impl_stackMachine_takeBelow_ctx : Ctx := ⟨tlook tys, olook [(42, F_impl_stackMachine_upperTwo), (51, F_impl_stackMachine_join)], ioF, 3, false, [2]⟩

theorem impl_stackMachine_takeBelow_n1_l (x1024 : Int) (x1025 : Int) (x1026 : List Int) (x1027 : List Int) : Link impl_stackMachine_takeBelow_ctx LL (bodyOf Tryd.f37) impl_stackMachine_takeBelow_an (⟨mkE 18 0 [(0, .ptr 0 0)], [some (.box [.slc 1, .slc 2, .dat (.int .i64) x1024, .dat (.int .i64) x1025]), some (.seq (.int .i64) x1026), some (.seq (.int .i64) x1027)]⟩ : St) (impl_stackMachine_takeBelow_n1 x1024 x1025 x1026 x1027) (fun (t : Bool × (List Int) × (List Int)) => (Exit.ret, (⟨mkE 18 0 [(2, .dat .bool t.1)], [some (.box [.slc 1, .slc 2, .dat (.int .i64) x1024, .dat (.int .i64) x1025]), some (.seq (.int .i64) t.2.1), some (.seq (.int .i64) t.2.2)]⟩ : St))) := by
  refine Link.of fun K h => ?_
  simp only [impl_stackMachine_takeBelow_n1, wpO_bind, wpO_cond, wpO_map, wpO_some] at h
  exact Awp.of (by kernel_rfl) h

theorem impl_stackMachine_takeBelow_e (x1024 : Int) (x1025 : Int) (x1026 : List Int) (x1027 : List Int) {r : AV} {H' : Heap} (h : (Ans.mk _ (impl_stackMachine_takeBelow x1024 x1025 x1026 x1027) (fun (t : Bool × (List Int) × (List Int)) => (.dat .bool t.1, [some (.box [.slc 1, .slc 2, .dat (.int .i64) x1024, .dat (.int .i64) x1025]), some (.seq (.int .i64) t.2.1), some (.seq (.int .i64) t.2.2)])) [2] none).run = some (r, H')) : Awp impl_stackMachine_takeBelow_ctx LL (bodyOf Tryd.f37) impl_stackMachine_takeBelow_an (⟨mkE 18 0 [(0, .ptr 0 0)], [some (.box [.slc 1, .slc 2, .dat (.int .i64) x1024, .dat (.int .i64) x1025]), some (.seq (.int .i64) x1026), some (.seq (.int .i64) x1027)]⟩ : St) (Ret (tlook tys) Tryd.f37.results.toList r H') :=
  ret_of' (impl_stackMachine_takeBelow_n1_l x1024 x1025 x1026 x1027) (by unfold impl_stackMachine_takeBelow; kernel_rfl) (by
  intro t
  exact ret_mk [.dat .bool t.1] (by kernel_rfl) (by kernel_rfl) (by kernel_rfl) (by kernel_rfl)) h

def F_impl_stackMachine_takeBelow : Fun := fun avs H =>
  match avs, H with
  | [.ptr 0 0], [some (.box [.slc 1, .slc 2, .dat (.int .i64) x1024, .dat (.int .i64) x1025]), some (.seq (.int .i64) x1026), some (.seq (.int .i64) x1027)] => ⟨_, impl_stackMachine_takeBelow x1024 x1025 x1026 x1027, fun (t : Bool × (List Int) × (List Int)) => (.dat .bool t.1, [some (.box [.slc 1, .slc 2, .dat (.int .i64) x1024, .dat (.int .i64) x1025]), some (.seq (.int .i64) t.2.1), some (.seq (.int .i64) t.2.2)]), [2], none⟩
  | _, _ => Ans.no

theorem impl_stackMachine_takeBelow_sound : Sound Tryd.prog 37 F_impl_stackMachine_takeBelow := by
  refine fn_sound' (C := impl_stackMachine_takeBelow_ctx) (c := bodyOf Tryd.f37) (cok_of tys_ok (List.forall_mem_cons.2 ⟨impl_stackMachine_upperTwo_sound, List.forall_mem_cons.2 ⟨impl_stackMachine_join_sound, by simp⟩⟩) (List.forall_mem_cons.2 ⟨Tryd.call42, List.forall_mem_cons.2 ⟨Tryd.call51, by simp⟩⟩) (by kernel_rfl)) Tryd.func37 (by kernel_rfl) LL impl_stackMachine_takeBelow_an ?_
  intro avs H r H' h
  unfold F_impl_stackMachine_takeBelow at h
  split at h
  · refine Awp.cast ?_ ?_ ?_ (impl_stackMachine_takeBelow_e _ _ _ _ h) <;> kernel_rfl
  · simp [Ans.no, Ans.run] at h

/-! (*loop.example/headtrees/impl.stackMachine).takeUpper -/

def impl_stackMachine_takeUpper_an : Ann := (.seq (.leaf [0]) (.seq (.leaf [0, 3, 4, 5]) (.seq (.seq (.leaf [0, 3, 4, 5, 12]) (.cond (.leaf [5]) (.leaf [5]))) (.seq (.leaf [2]) (.leaf [2])))))

noncomputable def impl_stackMachine_takeUpper_ctx : Ctx := ⟨tlook tys, olook [(42, F_impl_stackMachine_upperTwo), (51, F_impl_stackMachine_join)], ioF, 3, false, [2]⟩

theorem impl_stackMachine_takeUpper_n1_l (x1108 : Int) (x1109 : Int) (x1110 : List Int) (x1111 : List Int) : Link impl_stackMachine_takeUpper_ctx LL (bodyOf Tryd.f38) impl_stackMachine_takeUpper_an (⟨mkE 18 0 [(0, .ptr 0 0)], [some (.box [.slc 1, .slc 2, .dat (.int .i64) x1108, .dat (.int .i64) x1109]), some (.seq (.int .i64) x1110), some (.seq (.int .i64) x1111)]⟩ : St) (impl_stackMachine_takeUpper_n1 x1108 x1109 x1110 x1111) (fun (t : Bool × (List Int) × (List Int)) => (Exit.ret, (⟨mkE 18 0 [(2, .dat .bool t.1)], [some (.box [.slc 1, .slc 2, .dat (.int .i64) x1108, .dat (.int .i64) x1109]), some (.seq (.int .i64) t.2.1), some (.seq (.int .i64) t.2.2)]⟩ : St))) := by
  refine Link.of fun K h => ?_
  simp only [impl_stackMachine_takeUpper_n1, wpO_bind, wpO_cond, wpO_map, wpO_some] at h
  exact Awp.of (by kernel_rfl) h

theorem impl_stackMachine_takeUpper_e (x1108 : Int) (x1109 : Int) (x1110 : List Int) (x1111 : List Int) {r : AV} {H' : Heap} (h : (Ans.mk _ (impl_stackMachine_takeUpper x1108 x1109 x1110 x1111) (fun (t : Bool × (List Int) × (List Int)) => (.dat .bool t.1, [some (.box [.slc 1, .slc 2, .dat (.int .i64) x1108, .dat (.int .i64) x1109]), some (.seq (.int .i64) t.2.1), some (.seq (.int .i64) t.2.2)])) [2] none).run = some (r, H')) : Awp impl_stackMachine_takeUpper_ctx LL (bodyOf Tryd.f38) impl_stackMachine_takeUpper_an (⟨mkE 18 0 [(0, .ptr 0 0)], [some (.box [.slc 1, .slc 2, .dat (.int .i64) x1108, .dat (.int .i64) x1109]), some (.seq (.int .i64) x1110), some (.seq (.int .i64) x1111)]⟩ : St) (Ret (tlook tys) Tryd.f38.results.toList r H') :=
  ret_of' (impl_stackMachine_takeUpper_n1_l x1108 x1109 x1110 x1111) (by unfold impl_stackMachine_takeUpper; kernel_rfl) (by
  intro t
  exact ret_mk [.dat .bool t.1] (by kernel_rfl) (by kernel_rfl) (by kernel_rfl) (by kernel_rfl)) h

def F_impl_stackMachine_takeUpper : Fun := fun avs H =>
  match avs, H with
  | [.ptr 0 0], [some (.box [.slc 1, .slc 2, .dat (.int .i64) x1108, .dat (.int .i64) x1109]), some (.seq (.int .i64) x1110), some (.seq (.int .i64) x1111)] => ⟨_, impl_stackMachine_takeUpper x1108 x1109 x1110 x1111, fun (t : Bool × (List Int) × (List Int)) => (.dat .bool t.1, [some (.box [.slc 1, .slc 2, .dat (.int .i64) x1108, .dat (.int .i64) x1109]), some (.seq (.int .i64) t.2.1), some (.seq (.int .i64) t.2.2)]), [2], none⟩
  | _, _ => Ans.no

theorem impl_stackMachine_takeUpper_sound : Sound Tryd.prog 38 F_impl_stackMachine_takeUpper := by
  refine fn_sound' (C := impl_stackMachine_takeUpper_ctx) (c := bodyOf Tryd.f38) (cok_of tys_ok (List.forall_mem_cons.2 ⟨impl_stackMachine_upperTwo_sound, List.forall_mem_cons.2 ⟨impl_stackMachine_join_sound, by simp⟩⟩) (List.forall_mem_cons.2 ⟨Tryd.call42, List.forall_mem_cons.2 ⟨Tryd.call51, by simp⟩⟩) (by kernel_rfl)) Tryd.func38 (by kernel_rfl) LL impl_stackMachine_takeUpper_an ?_
  intro avs H r H' h
  unfold F_impl_stackMachine_takeUpper at h
  split at h
  · refine Awp.cast ?_ ?_ ?_ (impl_stackMachine_takeUpper_e _ _ _ _ h) <;> kernel_rfl
  · simp [Ans.no, Ans.run] at h

/-! (*loop.example/headtrees/impl.stackMachine).ended -/

def impl_stackMachine_ended_an : Ann := (.seq (.leaf [0]) (.seq (.draw [] [0, 1, 2, 3, 4, 5, 6, 7, 8, 9, 10, 11, 12, 13, 14, 15, 16, 17, 18] [] [2]) (.leaf [2])))

noncomputable def impl_stackMachine_ended_ctx : Ctx := ⟨tlook tys, olook [], ioF, 3, false, []⟩

theorem impl_stackMachine_ended_n1_l (x1289 : Int) (x1290 : Int) (x1291 : List Int) (x1292 : List Int) : Link impl_stackMachine_ended_ctx LL (bodyOf Tryd.f33) impl_stackMachine_ended_an (⟨mkE 21 0 [(0, .ptr 0 0)], [some (.box [.slc 1, .slc 2, .dat (.int .i64) x1289, .dat (.int .i64) x1290]), some (.seq (.int .i64) x1291), some (.seq (.int .i64) x1292)]⟩ : St) (impl_stackMachine_ended_n1 x1289 x1291 x1292) (fun (t : Bool) => (Exit.ret, (⟨mkE 21 0 [(2, .dat .bool t)], [some (.box [.slc 1, .slc 2, .dat (.int .i64) x1289, .dat (.int .i64) x1290]), some (.seq (.int .i64) x1291), some (.seq (.int .i64) x1292)]⟩ : St))) := by
  refine Link.of fun K h => ?_
  simp only [impl_stackMachine_ended_n1, wpO_bind, wpO_cond, wpO_map, wpO_some] at h
  exact Awp.of (by kernel_rfl) h

theorem impl_stackMachine_ended_e (x1289 : Int) (x1290 : Int) (x1291 : List Int) (x1292 : List Int) {r : AV} {H' : Heap} (h : (Ans.mk _ (impl_stackMachine_ended x1289 x1290 x1291 x1292) (fun (t : Bool) => (.dat .bool t, [some (.box [.slc 1, .slc 2, .dat (.int .i64) x1289, .dat (.int .i64) x1290]), some (.seq (.int .i64) x1291), some (.seq (.int .i64) x1292)])) [] none).run = some (r, H')) : Awp impl_stackMachine_ended_ctx LL (bodyOf Tryd.f33) impl_stackMachine_ended_an (⟨mkE 21 0 [(0, .ptr 0 0)], [some (.box [.slc 1, .slc 2, .dat (.int .i64) x1289, .dat (.int .i64) x1290]), some (.seq (.int .i64) x1291), some (.seq (.int .i64) x1292)]⟩ : St) (Ret (tlook tys) Tryd.f33.results.toList r H') :=
  ret_of' (impl_stackMachine_ended_n1_l x1289 x1290 x1291 x1292) (by unfold impl_stackMachine_ended; kernel_rfl) (by
  intro t
  exact ret_mk [.dat .bool t] (by kernel_rfl) (by kernel_rfl) (by kernel_rfl) (by kernel_rfl)) h

def F_impl_stackMachine_ended : Fun := fun avs H =>
  match avs, H with
  | [.ptr 0 0], [some (.box [.slc 1, .slc 2, .dat (.int .i64) x1289, .dat (.int .i64) x1290]), some (.seq (.int .i64) x1291), some (.seq (.int .i64) x1292)] => ⟨_, impl_stackMachine_ended x1289 x1290 x1291 x1292, fun (t : Bool) => (.dat .bool t, [some (.box [.slc 1, .slc 2, .dat (.int .i64) x1289, .dat (.int .i64) x1290]), some (.seq (.int .i64) x1291), some (.seq (.int .i64) x1292)]), [], none⟩
  | _, _ => Ans.no

theorem impl_stackMachine_ended_sound : Sound Tryd.prog 33 F_impl_stackMachine_ended := by
  refine fn_sound' (C := impl_stackMachine_ended_ctx) (c := bodyOf Tryd.f33) (cok_of tys_ok (by simp) (by simp) (by kernel_rfl)) Tryd.func33 (by kernel_rfl) LL impl_stackMachine_ended_an ?_
  intro avs H r H' h
  unfold F_impl_stackMachine_ended at h
  split at h
  · refine Awp.cast ?_ ?_ ?_ (impl_stackMachine_ended_e _ _ _ _ h) <;> kernel_rfl
  · simp [Ans.no, Ans.run] at h

/-! loop.example/headtrees/impl.afterMoves -/

def impl_afterMoves_an : Ann := (.seq (.leaf [0, 1]) (.seq (.seq (.leaf [0, 1, 16]) (.cond (.seq (.leaf [4, 5]) (.leaf [4, 5])) (.leaf [0, 1]))) (.seq (.leaf [1, 6, 7]) (.seq (.seq (.leafF [⟨3, 6, false, some 1, some (.int .i64)⟩] [1, 6, 7, 21, 22]) (.block (.loop (.seq (.leaf [1, 6, 7, 21, 22, 23]) (.seq (.cond (.leaf [1, 6, 7, 21, 22]) (.leaf [6])) (.seq (.block (.seq (.leaf [1, 6, 7, 8, 21, 22]) (.seq (.leaf [1, 6, 7, 9, 10, 21, 22]) (.seq (.leafF [⟨5, 6, false, some 1, some (.int .i64)⟩] [1, 6, 7, 21, 22, 40]) (.cond (.seq (.leaf [4, 5]) (.leaf [4, 5])) (.leaf [1, 6, 7, 21, 22])))))) (.leaf [1, 6, 7, 21, 22]))))))) (.seq (.seq (.leaf [6, 44]) (.cond (.seq (.leaf [4, 5]) (.leaf [4, 5])) (.leaf [6]))) (.seq (.leaf [4, 5]) (.leaf [4, 5])))))))

noncomputable def impl_afterMoves_ctx : Ctx := ⟨tlook tys, olook [(24, F_impl_newStackMachine), (25, F_impl_stackMoves), (36, F_impl_stackMachine_putNext), (37, F_impl_stackMachine_takeBelow), (38, F_impl_stackMachine_takeUpper), (33, F_impl_stackMachine_ended)], ioF, 0, false, []⟩

theorem impl_afterMoves_n1_l (x905 : Int) (x906 : ByteArray) : Link impl_afterMoves_ctx LL (Code.seq (Code.fst (bodyOf Tryd.f20)) (Code.seq (Code.fst (Code.snd (bodyOf Tryd.f20))) (Code.fst (Code.snd (Code.snd (bodyOf Tryd.f20)))))) (Ann.seq (Ann.fst impl_afterMoves_an) (Ann.seq (Ann.fst (Ann.snd impl_afterMoves_an)) (Ann.fst (Ann.snd (Ann.snd impl_afterMoves_an))))) (⟨mkE 46 0 [(0, .dat (.int .i64) x905), (1, .dat .str x906)], []⟩ : St) (impl_afterMoves_n1 x905) (Sum.elim (fun (t : (List Int)) => (Exit.normal, (⟨mkE 46 0 [(1, .dat .str x906), (6, .ptr 0 0), (7, .fmap [(.int .u8 83, 36), (.int .u8 76, 37), (.int .u8 82, 38)])], [some (.box [.slc 1, .nils, .dat (.int .i64) 0, .dat (.int .i64) 0]), some (.seq (.int .i64) t)]⟩ : St))) (fun (t : Unit) => (Exit.ret, (⟨mkE 46 0 [(4, .raw (.pointer none)), (5, .dat .bool false)], []⟩ : St)))) := by
  refine Link.of fun K h => ?_
  simp only [impl_afterMoves_n1, wpO_bind, wpO_cond, wpO_map, wpO_some] at h
  exact Awp.of (by kernel_rfl) h

theorem impl_afterMoves_n2_l (x906 : ByteArray) (x1312 : List Int) : Link impl_afterMoves_ctx LL (Code.fst (Code.fst (Code.snd (Code.snd (Code.snd (bodyOf Tryd.f20)))))) (Ann.fst (Ann.fst (Ann.snd (Ann.snd (Ann.snd impl_afterMoves_an))))) (⟨mkE 46 0 [(1, .dat .str x906), (6, .ptr 0 0), (7, .fmap [(.int .u8 83, 36), (.int .u8 76, 37), (.int .u8 82, 38)])], [some (.box [.slc 1, .nils, .dat (.int .i64) 0, .dat (.int .i64) 0]), some (.seq (.int .i64) x1312)]⟩ : St) (impl_afterMoves_n2 x906) (fun (t : Int) => (Exit.normal, (⟨mkE 46 0 [(1, .dat .str x906), (6, .ptr 0 0), (7, .fmap [(.int .u8 83, 36), (.int .u8 76, 37), (.int .u8 82, 38)]), (21, .dat (.int .i64) t), (22, .dat (.int .i64) 0)], [some (.box [.slc 1, .slc 2, .dat (.int .i64) 0, .dat (.int .i64) 0]), some (.seq (.int .i64) x1312), some (.seq (.int .i64) ([] : List Int))]⟩ : St))) := by
  refine Link.of fun K h => ?_
  simp only [impl_afterMoves_n2, wpO_bind, wpO_cond, wpO_map, wpO_some] at h
  exact Awp.of (by kernel_rfl) h

theorem impl_afterMoves_n3_l (x906 : ByteArray) (x1314 : Int) (x1367 : Int) (x1368 : Int) (x1369 : Int) (x1370 : List Int) (x1371 : List Int) : Link impl_afterMoves_ctx LL (Code.fst (Code.fst (Code.snd (Code.fst (Code.snd (Code.snd (Code.snd (bodyOf Tryd.f20)))))))) (Ann.fst (Ann.fst (Ann.snd (Ann.fst (Ann.snd (Ann.snd (Ann.snd impl_afterMoves_an))))))) (⟨mkE 46 0 [(1, .dat .str x906), (6, .ptr 0 0), (7, .fmap [(.int .u8 83, 36), (.int .u8 76, 37), (.int .u8 82, 38)]), (21, .dat (.int .i64) x1314), (22, .dat (.int .i64) x1367)], [some (.box [.slc 1, .slc 2, .dat (.int .i64) x1368, .dat (.int .i64) x1369]), some (.seq (.int .i64) x1370), some (.seq (.int .i64) x1371)]⟩ : St) (impl_afterMoves_n3 x906 x1314 x1367 x1368 x1369 x1370 x1371) (Sum.elim (fun (t : Int × Int × Int × (List Int) × (List Int)) => (Exit.normal, (⟨mkE 46 0 [(1, .dat .str x906), (6, .ptr 0 0), (7, .fmap [(.int .u8 83, 36), (.int .u8 76, 37), (.int .u8 82, 38)]), (21, .dat (.int .i64) x1314), (22, .dat (.int .i64) t.1)], [some (.box [.slc 1, .slc 2, .dat (.int .i64) t.2.1, .dat (.int .i64) t.2.2.1]), some (.seq (.int .i64) t.2.2.2.1), some (.seq (.int .i64) t.2.2.2.2)]⟩ : St))) (Sum.elim (fun (t : Unit) => (Exit.ret, (⟨mkE 46 0 [(4, .raw (.pointer none)), (5, .dat .bool false)], []⟩ : St))) (fun (t : Int × Int × (List Int) × (List Int)) => ((Exit.exit 0), (⟨mkE 46 0 [(6, .ptr 0 0)], [some (.box [.slc 1, .slc 2, .dat (.int .i64) t.1, .dat (.int .i64) t.2.1]), some (.seq (.int .i64) t.2.2.1), some (.seq (.int .i64) t.2.2.2)]⟩ : St))))) := by
  refine Link.of fun K h => ?_
  simp only [impl_afterMoves_n3, wpO_bind, wpO_cond, wpO_map, wpO_some] at h
  exact Awp.of (by kernel_rfl) h

theorem impl_afterMoves_n4_l (x906 : ByteArray) (x1314 : Int) (x1312 : List Int) : Link impl_afterMoves_ctx LL (Code.fst (Code.snd (Code.fst (Code.snd (Code.snd (Code.snd (bodyOf Tryd.f20))))))) (Ann.fst (Ann.snd (Ann.fst (Ann.snd (Ann.snd (Ann.snd impl_afterMoves_an)))))) (⟨mkE 46 0 [(1, .dat .str x906), (6, .ptr 0 0), (7, .fmap [(.int .u8 83, 36), (.int .u8 76, 37), (.int .u8 82, 38)]), (21, .dat (.int .i64) x1314), (22, .dat (.int .i64) 0)], [some (.box [.slc 1, .slc 2, .dat (.int .i64) 0, .dat (.int .i64) 0]), some (.seq (.int .i64) x1312), some (.seq (.int .i64) ([] : List Int))]⟩ : St) (impl_afterMoves_n4 x906 x1314 x1312) (Sum.elim (fun (t : Unit) => (Exit.ret, (⟨mkE 46 0 [(4, .raw (.pointer none)), (5, .dat .bool false)], []⟩ : St))) (fun (t : Int × Int × (List Int) × (List Int)) => ((Exit.exit 0), (⟨mkE 46 0 [(6, .ptr 0 0)], [some (.box [.slc 1, .slc 2, .dat (.int .i64) t.1, .dat (.int .i64) t.2.1]), some (.seq (.int .i64) t.2.2.1), some (.seq (.int .i64) t.2.2.2)]⟩ : St)))) := by
  unfold impl_afterMoves_n4
  exact Link.cast (by kernel_rfl) (by kernel_rfl) (link_loop (mk := fun (s : Int × Int × Int × (List Int) × (List Int)) => (⟨mkE 46 0 [(1, .dat .str x906), (6, .ptr 0 0), (7, .fmap [(.int .u8 83, 36), (.int .u8 76, 37), (.int .u8 82, 38)]), (21, .dat (.int .i64) x1314), (22, .dat (.int .i64) s.1)], [some (.box [.slc 1, .slc 2, .dat (.int .i64) s.2.1, .dat (.int .i64) s.2.2.1]), some (.seq (.int .i64) s.2.2.2.1), some (.seq (.int .i64) s.2.2.2.2)]⟩ : St)) (fin := (Sum.elim (fun (t : Unit) => (Exit.ret, (⟨mkE 46 0 [(4, .raw (.pointer none)), (5, .dat .bool false)], []⟩ : St))) (fun (t : Int × Int × (List Int) × (List Int)) => ((Exit.exit 0), (⟨mkE 46 0 [(6, .ptr 0 0)], [some (.box [.slc 1, .slc 2, .dat (.int .i64) t.1, .dat (.int .i64) t.2.1]), some (.seq (.int .i64) t.2.2.1), some (.seq (.int .i64) t.2.2.2)]⟩ : St))))) (by
  rintro (t | t) f K h
  · exact h
  · exact h) (fun s => link_map (impl_afterMoves_n3_l x906 x1314 s.1 s.2.1 s.2.2.1 s.2.2.2.1 s.2.2.2.2) (Sum.elim (fun (t : Int × Int × Int × (List Int) × (List Int)) => Sum.inl (t.1, t.2.1, t.2.2.1, t.2.2.2.1, t.2.2.2.2)) (Sum.elim (fun (t : Unit) => Sum.inr (Sum.inl t)) (fun (t : Int × Int × (List Int) × (List Int)) => Sum.inr (Sum.inr t)))) (by
  rintro (t | t | t)
  · kernel_rfl
  · kernel_rfl
  · kernel_rfl)) (0, 0, 0, x1312, ([] : List Int)))

theorem impl_afterMoves_n5_l (x906 : ByteArray) (x1314 : Int) (x1312 : List Int) : Link impl_afterMoves_ctx LL (Code.snd (Code.fst (Code.snd (Code.snd (Code.snd (bodyOf Tryd.f20)))))) (Ann.snd (Ann.fst (Ann.snd (Ann.snd (Ann.snd impl_afterMoves_an))))) (⟨mkE 46 0 [(1, .dat .str x906), (6, .ptr 0 0), (7, .fmap [(.int .u8 83, 36), (.int .u8 76, 37), (.int .u8 82, 38)]), (21, .dat (.int .i64) x1314), (22, .dat (.int .i64) 0)], [some (.box [.slc 1, .slc 2, .dat (.int .i64) 0, .dat (.int .i64) 0]), some (.seq (.int .i64) x1312), some (.seq (.int .i64) ([] : List Int))]⟩ : St) (impl_afterMoves_n5 x906 x1314 x1312) (Sum.elim (fun (t : Int × Int × (List Int) × (List Int)) => (Exit.normal, (⟨mkE 46 0 [(6, .ptr 0 0)], [some (.box [.slc 1, .slc 2, .dat (.int .i64) t.1, .dat (.int .i64) t.2.1]), some (.seq (.int .i64) t.2.2.1), some (.seq (.int .i64) t.2.2.2)]⟩ : St))) (fun (t : Unit) => (Exit.ret, (⟨mkE 46 0 [(4, .raw (.pointer none)), (5, .dat .bool false)], []⟩ : St)))) := by
  unfold impl_afterMoves_n5
  exact Link.cast (by kernel_rfl) (by kernel_rfl) (link_block (id := 0) (impl_afterMoves_n4_l x906 x1314 x1312) (Sum.elim (fun (t : Unit) => (Sum.inr t)) (fun (t : Int × Int × (List Int) × (List Int)) => (Sum.inl (t.1, t.2.1, t.2.2.1, t.2.2.2)))) (by
  rintro (t | t) K h
  · exact Eq.mp (by kernel_rfl) h
  · exact Eq.mp (by kernel_rfl) h))

theorem impl_afterMoves_n6_l (x906 : ByteArray) (x1312 : List Int) : Link impl_afterMoves_ctx LL (Code.fst (Code.snd (Code.snd (Code.snd (bodyOf Tryd.f20))))) (Ann.fst (Ann.snd (Ann.snd (Ann.snd impl_afterMoves_an)))) (⟨mkE 46 0 [(1, .dat .str x906), (6, .ptr 0 0), (7, .fmap [(.int .u8 83, 36), (.int .u8 76, 37), (.int .u8 82, 38)])], [some (.box [.slc 1, .nils, .dat (.int .i64) 0, .dat (.int .i64) 0]), some (.seq (.int .i64) x1312)]⟩ : St) (impl_afterMoves_n6 x906 x1312) (Sum.elim (fun (t : Int × Int × (List Int) × (List Int)) => (Exit.normal, (⟨mkE 46 0 [(6, .ptr 0 0)], [some (.box [.slc 1, .slc 2, .dat (.int .i64) t.1, .dat (.int .i64) t.2.1]), some (.seq (.int .i64) t.2.2.1), some (.seq (.int .i64) t.2.2.2)]⟩ : St))) (fun (t : Unit) => (Exit.ret, (⟨mkE 46 0 [(4, .raw (.pointer none)), (5, .dat .bool false)], []⟩ : St)))) := by
  unfold impl_afterMoves_n6
  exact Link.cast (by kernel_rfl) (by kernel_rfl) (link_seq (b := (Code.snd (Code.fst (Code.snd (Code.snd (Code.snd (bodyOf Tryd.f20))))))) (y := (Ann.snd (Ann.fst (Ann.snd (Ann.snd (Ann.snd impl_afterMoves_an)))))) (impl_afterMoves_n2_l x906 x1312) (fun (t : Int) => (impl_afterMoves_n5_l x906 t x1312)))

theorem impl_afterMoves_n7_l (x1368 : Int) (x1369 : Int) (x1370 : List Int) (x1371 : List Int) : Link impl_afterMoves_ctx LL (Code.snd (Code.snd (Code.snd (Code.snd (bodyOf Tryd.f20))))) (Ann.snd (Ann.snd (Ann.snd (Ann.snd impl_afterMoves_an)))) (⟨mkE 46 0 [(6, .ptr 0 0)], [some (.box [.slc 1, .slc 2, .dat (.int .i64) x1368, .dat (.int .i64) x1369]), some (.seq (.int .i64) x1370), some (.seq (.int .i64) x1371)]⟩ : St) (impl_afterMoves_n7 x1368 x1369 x1370 x1371) (Sum.elim (fun (t : Int × Int × (List Int) × (List Int)) => (Exit.ret, (⟨mkE 46 0 [(4, .ptr 0 0), (5, .dat .bool true)], [some (.box [.slc 1, .slc 2, .dat (.int .i64) t.1, .dat (.int .i64) t.2.1]), some (.seq (.int .i64) t.2.2.1), some (.seq (.int .i64) t.2.2.2)]⟩ : St))) (fun (t : Unit) => (Exit.ret, (⟨mkE 46 0 [(4, .raw (.pointer none)), (5, .dat .bool false)], []⟩ : St)))) := by
  refine Link.of fun K h => ?_
  simp only [impl_afterMoves_n7, wpO_bind, wpO_cond, wpO_map, wpO_some] at h
  exact Awp.of (by kernel_rfl) h

theorem impl_afterMoves_n8_l (x906 : ByteArray) (x1312 : List Int) : Link impl_afterMoves_ctx LL (Code.snd (Code.snd (Code.snd (bodyOf Tryd.f20)))) (Ann.snd (Ann.snd (Ann.snd impl_afterMoves_an))) (⟨mkE 46 0 [(1, .dat .str x906), (6, .ptr 0 0), (7, .fmap [(.int .u8 83, 36), (.int .u8 76, 37), (.int .u8 82, 38)])], [some (.box [.slc 1, .nils, .dat (.int .i64) 0, .dat (.int .i64) 0]), some (.seq (.int .i64) x1312)]⟩ : St) (impl_afterMoves_n8 x906 x1312) (Sum.elim (fun (t : Int × Int × (List Int) × (List Int)) => (Exit.ret, (⟨mkE 46 0 [(4, .ptr 0 0), (5, .dat .bool true)], [some (.box [.slc 1, .slc 2, .dat (.int .i64) t.1, .dat (.int .i64) t.2.1]), some (.seq (.int .i64) t.2.2.1), some (.seq (.int .i64) t.2.2.2)]⟩ : St))) (fun (t : Unit) => (Exit.ret, (⟨mkE 46 0 [(4, .raw (.pointer none)), (5, .dat .bool false)], []⟩ : St)))) := by
  unfold impl_afterMoves_n8
  exact Link.cast (by kernel_rfl) (by kernel_rfl) (link_seq2 (b := (Code.snd (Code.snd (Code.snd (Code.snd (bodyOf Tryd.f20)))))) (y := (Ann.snd (Ann.snd (Ann.snd (Ann.snd impl_afterMoves_an))))) (impl_afterMoves_n6_l x906 x1312) (fun (t : Int × Int × (List Int) × (List Int)) => (impl_afterMoves_n7_l t.1 t.2.1 t.2.2.1 t.2.2.2)) (fun (t : Unit) => (Sum.inr t)) (by
  rintro t
  · kernel_rfl) (by
  rintro t f K h
  · exact h))

theorem impl_afterMoves_n9_l (x905 : Int) (x906 : ByteArray) : Link impl_afterMoves_ctx LL (bodyOf Tryd.f20) impl_afterMoves_an (⟨mkE 46 0 [(0, .dat (.int .i64) x905), (1, .dat .str x906)], []⟩ : St) (impl_afterMoves_n9 x905 x906) (Sum.elim (fun (t : Int × Int × (List Int) × (List Int)) => (Exit.ret, (⟨mkE 46 0 [(4, .ptr 0 0), (5, .dat .bool true)], [some (.box [.slc 1, .slc 2, .dat (.int .i64) t.1, .dat (.int .i64) t.2.1]), some (.seq (.int .i64) t.2.2.1), some (.seq (.int .i64) t.2.2.2)]⟩ : St))) (fun (t : Unit) => (Exit.ret, (⟨mkE 46 0 [(4, .raw (.pointer none)), (5, .dat .bool false)], []⟩ : St)))) := by
  unfold impl_afterMoves_n9
  exact Link.cast (by kernel_rfl) (by kernel_rfl) (link_group (c := (Code.fst (Code.snd (Code.snd (bodyOf Tryd.f20))))) (a := (Ann.fst (Ann.snd (Ann.snd impl_afterMoves_an)))) [(Code.fst (bodyOf Tryd.f20)), (Code.fst (Code.snd (bodyOf Tryd.f20)))] [(Ann.fst impl_afterMoves_an), (Ann.fst (Ann.snd impl_afterMoves_an))] rfl (link_seq2 (b := (Code.snd (Code.snd (Code.snd (bodyOf Tryd.f20))))) (y := (Ann.snd (Ann.snd (Ann.snd impl_afterMoves_an)))) (impl_afterMoves_n1_l x905 x906) (fun (t : (List Int)) => (impl_afterMoves_n8_l x906 t)) (fun (t : Unit) => (Sum.inr t)) (by
  rintro t
  · kernel_rfl) (by
  rintro t f K h
  · exact h)))

theorem impl_afterMoves_e (x905 : Int) (x906 : ByteArray) {r : AV} {H' : Heap} (h : (Ans.mk _ (impl_afterMoves x905 x906) (fun (t : Bool × Int × Int × (List Int) × (List Int)) => (.tup [.ptr 0 0, .dat .bool true], [some (.box [.slc 1, .slc 2, .dat (.int .i64) t.2.1, .dat (.int .i64) t.2.2.1]), some (.seq (.int .i64) t.2.2.2.1), some (.seq (.int .i64) t.2.2.2.2)])) [] (some (fun (t : Bool × Int × Int × (List Int) × (List Int)) => t.1, fun (t : Bool × Int × Int × (List Int) × (List Int)) => (.tup [.raw (.pointer none), .dat .bool false], [])))).run = some (r, H')) : Awp impl_afterMoves_ctx LL (bodyOf Tryd.f20) impl_afterMoves_an (⟨mkE 46 0 [(0, .dat (.int .i64) x905), (1, .dat .str x906)], []⟩ : St) (Ret (tlook tys) Tryd.f20.results.toList r H') :=
  ret_of2 (impl_afterMoves_n9_l x905 x906) (Sum.elim (fun (t : Int × Int × (List Int) × (List Int)) => (true, t.1, t.2.1, t.2.2.1, t.2.2.2)) (fun (t : Unit) => (false, 0, 0, [], []))) (by unfold impl_afterMoves; kernel_rfl) (by
  rintro (t | t)
  · exact ret_mk [.ptr 0 0, .dat .bool true] (by kernel_rfl) (by kernel_rfl) (by kernel_rfl) (by kernel_rfl)
  · exact ret_mk [.raw (.pointer none), .dat .bool false] (by kernel_rfl) (by kernel_rfl) (by kernel_rfl) (by kernel_rfl)) h

def F_impl_afterMoves : Fun := fun avs H =>
  match avs, H with
  | [.dat (.int .i64) x905, .dat .str x906], [] => ⟨_, impl_afterMoves x905 x906, fun (t : Bool × Int × Int × (List Int) × (List Int)) => (.tup [.ptr 0 0, .dat .bool true], [some (.box [.slc 1, .slc 2, .dat (.int .i64) t.2.1, .dat (.int .i64) t.2.2.1]), some (.seq (.int .i64) t.2.2.2.1), some (.seq (.int .i64) t.2.2.2.2)]), [], (some (fun (t : Bool × Int × Int × (List Int) × (List Int)) => t.1, fun (t : Bool × Int × Int × (List Int) × (List Int)) => (.tup [.raw (.pointer none), .dat .bool false], [])))⟩
  | _, _ => Ans.no

theorem impl_afterMoves_sound : Sound Tryd.prog 20 F_impl_afterMoves := by
  refine fn_sound' (C := impl_afterMoves_ctx) (c := bodyOf Tryd.f20) (cok_of tys_ok (List.forall_mem_cons.2 ⟨impl_newStackMachine_sound, List.forall_mem_cons.2 ⟨impl_stackMoves_sound, List.forall_mem_cons.2 ⟨impl_stackMachine_putNext_sound, List.forall_mem_cons.2 ⟨impl_stackMachine_takeBelow_sound, List.forall_mem_cons.2 ⟨impl_stackMachine_takeUpper_sound, List.forall_mem_cons.2 ⟨impl_stackMachine_ended_sound, by simp⟩⟩⟩⟩⟩⟩) (List.forall_mem_cons.2 ⟨Tryd.call24, List.forall_mem_cons.2 ⟨Tryd.call25, List.forall_mem_cons.2 ⟨Tryd.call36, List.forall_mem_cons.2 ⟨Tryd.call37, List.forall_mem_cons.2 ⟨Tryd.call38, List.forall_mem_cons.2 ⟨Tryd.call33, by simp⟩⟩⟩⟩⟩⟩) (by kernel_rfl)) Tryd.func20 (by kernel_rfl) LL impl_afterMoves_an ?_
  intro avs H r H' h
  unfold F_impl_afterMoves at h
  split at h
  · refine Awp.cast ?_ ?_ ?_ (impl_afterMoves_e _ _ h) <;> kernel_rfl
  · simp [Ans.no, Ans.run] at h

/-! loop.example/headtrees/impl.RunStack -/

def impl_RunStack_an : Ann := (.seq (.leaf [0, 1]) (.seq (.leaf [6, 7]) (.seq (.seq (.leaf [6, 15]) (.cond (.seq (.leaf [4, 5]) (.leaf [4, 5])) (.leaf [6]))) (.seq (.leaf [4, 5]) (.leaf [4, 5])))))

noncomputable def impl_RunStack_ctx : Ctx := ⟨tlook tys, olook [(20, F_impl_afterMoves)], ioF, 0, false, []⟩

theorem impl_RunStack_n1_l (x902 : Int) (x903 : ByteArray) : Link impl_RunStack_ctx LL (bodyOf Tryd.f7) impl_RunStack_an (⟨mkE 20 0 [(0, .dat (.int .i64) x902), (1, .dat .str x903)], []⟩ : St) (impl_RunStack_n1 x902 x903) (fun (t : Bool × (List Int)) => (Exit.ret, (⟨mkE 20 0 [(4, .slc 0), (5, .dat .bool t.1)], [some (.seq (.int .i64) t.2)]⟩ : St))) := by
  refine Link.of fun K h => ?_
  simp only [impl_RunStack_n1, wpO_bind, wpO_cond, wpO_map, wpO_some] at h
  exact Awp.of (by kernel_rfl) h

theorem impl_RunStack_e (x902 : Int) (x903 : ByteArray) {r : AV} {H' : Heap} (h : (Ans.mk _ (impl_RunStack x902 x903) (fun (t : Bool × (List Int)) => (.tup [.slc 0, .dat .bool t.1], [some (.seq (.int .i64) t.2)])) [] none).run = some (r, H')) : Awp impl_RunStack_ctx LL (bodyOf Tryd.f7) impl_RunStack_an (⟨mkE 20 0 [(0, .dat (.int .i64) x902), (1, .dat .str x903)], []⟩ : St) (Ret (tlook tys) Tryd.f7.results.toList r H') :=
  ret_of' (impl_RunStack_n1_l x902 x903) (by unfold impl_RunStack; kernel_rfl) (by
  intro t
  exact ret_mk [.slc 0, .dat .bool t.1] (by kernel_rfl) (by kernel_rfl) (by kernel_rfl) (by kernel_rfl)) h

def F_impl_RunStack : Fun := fun avs H =>
  match avs, H with
  | [.dat (.int .i64) x902, .dat .str x903], [] => ⟨_, impl_RunStack x902 x903, fun (t : Bool × (List Int)) => (.tup [.slc 0, .dat .bool t.1], [some (.seq (.int .i64) t.2)]), [], none⟩
  | _, _ => Ans.no

theorem impl_RunStack_sound : Sound Tryd.prog 7 F_impl_RunStack := by
  refine fn_sound' (C := impl_RunStack_ctx) (c := bodyOf Tryd.f7) (cok_of tys_ok (List.forall_mem_cons.2 ⟨impl_afterMoves_sound, by simp⟩) (List.forall_mem_cons.2 ⟨Tryd.call20, by simp⟩) (by kernel_rfl)) Tryd.func7 (by kernel_rfl) LL impl_RunStack_an ?_
  intro avs H r H' h
  unfold F_impl_RunStack at h
  split at h
  · refine Awp.cast ?_ ?_ ?_ (impl_RunStack_e _ _ h) <;> kernel_rfl
  · simp [Ans.no, Ans.run] at h

/-! loop.example/headtrees/spec.l1In -/

def spec_l1In_an : Ann := (.seq (.leaf [0, 1, 2]) (.seq (.leaf [6]) (.leaf [6])))

noncomputable def spec_l1In_ctx : Ctx := ⟨tlook tys, olook [], ioF, 0, false, []⟩

theorem spec_l1In_n1_l (x1470 : Int) (x1471 : Int) (x1472 : Int) : Link spec_l1In_ctx LL (bodyOf Tryd.f21) spec_l1In_an (⟨mkE 15 0 [(0, .dat (.int .i64) x1470), (1, .dat (.int .i64) x1471), (2, .dat (.int .i64) x1472)], []⟩ : St) (spec_l1In_n1 x1470 x1471 x1472) (fun (t : Bool) => (Exit.ret, (⟨mkE 15 0 [(6, .dat .bool t)], []⟩ : St))) := by
  refine Link.of fun K h => ?_
  simp only [spec_l1In_n1, wpO_bind, wpO_cond, wpO_map, wpO_some] at h
  exact Awp.of (by kernel_rfl) h

theorem spec_l1In_e (x1470 : Int) (x1471 : Int) (x1472 : Int) {r : AV} {H' : Heap} (h : (Ans.mk _ (spec_l1In x1470 x1471 x1472) (fun (t : Bool) => (.dat .bool t, [])) [] none).run = some (r, H')) : Awp spec_l1In_ctx LL (bodyOf Tryd.f21) spec_l1In_an (⟨mkE 15 0 [(0, .dat (.int .i64) x1470), (1, .dat (.int .i64) x1471), (2, .dat (.int .i64) x1472)], []⟩ : St) (Ret (tlook tys) Tryd.f21.results.toList r H') :=
  ret_of' (spec_l1In_n1_l x1470 x1471 x1472) (by unfold spec_l1In; kernel_rfl) (by
  intro t
  exact ret_mk [.dat .bool t] (by kernel_rfl) (by kernel_rfl) (by kernel_rfl) (by kernel_rfl)) h

def F_spec_l1In : Fun := fun avs H =>
  match avs, H with
  | [.dat (.int .i64) x1470, .dat (.int .i64) x1471, .dat (.int .i64) x1472], [] => ⟨_, spec_l1In x1470 x1471 x1472, fun (t : Bool) => (.dat .bool t, []), [], none⟩
  | _, _ => Ans.no

theorem spec_l1In_sound : Sound Tryd.prog 21 F_spec_l1In := by
  refine fn_sound' (C := spec_l1In_ctx) (c := bodyOf Tryd.f21) (cok_of tys_ok (by simp) (by simp) (by kernel_rfl)) Tryd.func21 (by kernel_rfl) LL spec_l1In_an ?_
  intro avs H r H' h
  unfold F_spec_l1In at h
  split at h
  · refine Awp.cast ?_ ?_ ?_ (spec_l1In_e _ _ _ h) <;> kernel_rfl
  · simp [Ans.no, Ans.run] at h

/-! loop.example/headtrees/spec.l6Run -/

def spec_l6Run_an : Ann := (.seq (.leaf [0, 1]) (.seq (.leaf [0, 1, 6]) (.seq (.leaf [0, 1, 6, 7]) (.seq (.leaf [0, 1, 6, 7, 8]) (.seq (.seq (.leaf [0, 1, 6, 7, 8, 9]) (.block (.loop (.seq (.seq (.leaf [0, 1, 6, 7, 8, 9, 17]) (.cond (.leaf [0, 1, 6, 7, 8, 9]) (.leaf [0, 6, 7, 8]))) (.seq (.block (.seq (.leaf [0, 1, 6, 7, 8, 9, 10]) (.block (.seq (.leaf [0, 1, 6, 7, 8, 9, 10, 24]) (.cond (.seq (.leaf [0, 1, 6, 7, 8, 9]) (.leaf [0, 1, 6, 7, 8, 9])) (.seq (.leaf [0, 1, 6, 7, 8, 9, 10, 40]) (.cond (.seq (.draw [] [0, 1, 2, 3, 4, 5, 6, 7, 8, 9, 10, 11, 12] [] [0, 1, 6, 7, 8, 9, 10]) (.draw [5, 0, 10] [0, 1, 2, 3, 4, 6, 7, 8, 9, 10, 5, 11, 12] [] [0, 1, 6, 7, 8, 9])) (.seq (.leaf [0, 1, 6, 7, 8, 9, 10, 73]) (.cond (.seq (.draw [] [0, 1, 2, 3, 4, 5, 6, 7, 8, 9, 10, 11, 12] [] [0, 1, 6, 7, 8, 9, 10]) (.leaf [0, 1, 6, 7, 8, 9])) (.seq (.leaf [4, 5]) (.leaf [4, 5]))))))))))) (.leaf [0, 1, 6, 7, 8, 9])))))) (.seq (.leaf [4, 5]) (.leaf [4, 5])))))))

noncomputable def spec_l6Run_ctx : Ctx := ⟨tlook tys, olook [], ioF, 0, false, []⟩

theorem spec_l6Run_n1_l (x1482 : Int) (x1483 : ByteArray) : Link spec_l6Run_ctx LL (Code.seq (Code.fst (bodyOf Tryd.f22)) (Code.seq (Code.fst (Code.snd (bodyOf Tryd.f22))) (Code.seq (Code.fst (Code.snd (Code.snd (bodyOf Tryd.f22)))) (Code.fst (Code.snd (Code.snd (Code.snd (bodyOf Tryd.f22)))))))) (Ann.seq (Ann.fst spec_l6Run_an) (Ann.seq (Ann.fst (Ann.snd spec_l6Run_an)) (Ann.seq (Ann.fst (Ann.snd (Ann.snd spec_l6Run_an))) (Ann.fst (Ann.snd (Ann.snd (Ann.snd spec_l6Run_an))))))) (⟨mkE 108 0 [(0, .dat (.int .i64) x1482), (1, .dat .str x1483)], []⟩ : St) (spec_l6Run_n1 x1482) (fun (t : (List Int)) => (Exit.normal, (⟨mkE 108 0 [(0, .dat (.int .i64) x1482), (1, .dat .str x1483), (6, .slc 0), (7, .slc 1), (8, .dat (.int .i64) 1)], [some (.seq (.int .i64) t), some (.seq (.int .i64) ([] : List Int))]⟩ : St))) := by
  refine Link.of fun K h => ?_
  simp only [spec_l6Run_n1, wpO_bind, wpO_cond, wpO_map, wpO_some] at h
  exact Awp.of (by kernel_rfl) h

theorem spec_l6Run_n2_l (x1482 : Int) (x1483 : ByteArray) (x1557 : List Int) : Link spec_l6Run_ctx LL (Code.fst (Code.fst (Code.snd (Code.snd (Code.snd (Code.snd (bodyOf Tryd.f22))))))) (Ann.fst (Ann.fst (Ann.snd (Ann.snd (Ann.snd (Ann.snd spec_l6Run_an)))))) (⟨mkE 108 0 [(0, .dat (.int .i64) x1482), (1, .dat .str x1483), (6, .slc 0), (7, .slc 1), (8, .dat (.int .i64) 1)], [some (.seq (.int .i64) x1557), some (.seq (.int .i64) ([] : List Int))]⟩ : St) (spec_l6Run_n2) (fun (t : Unit) => (Exit.normal, (⟨mkE 108 0 [(0, .dat (.int .i64) x1482), (1, .dat .str x1483), (6, .slc 0), (7, .slc 1), (8, .dat (.int .i64) 1), (9, .dat (.int .i64) 0)], [some (.seq (.int .i64) x1557), some (.seq (.int .i64) ([] : List Int))]⟩ : St))) := by
  refine Link.of fun K h => ?_
  simp only [spec_l6Run_n2, wpO_bind, wpO_cond, wpO_map, wpO_some] at h
  exact Awp.of (by kernel_rfl) h

theorem spec_l6Run_n3_l (x1482 : Int) (x1483 : ByteArray) (x2273 : Int) (x2274 : Int) (x2275 : List Int) (x2276 : List Int) : Link spec_l6Run_ctx LL (Code.fst (Code.fst (Code.fst (Code.snd (Code.fst (Code.snd (Code.snd (Code.snd (Code.snd (bodyOf Tryd.f22)))))))))) (Ann.fst (Ann.fst (Ann.fst (Ann.snd (Ann.fst (Ann.snd (Ann.snd (Ann.snd (Ann.snd spec_l6Run_an))))))))) (⟨mkE 108 0 [(0, .dat (.int .i64) x1482), (1, .dat .str x1483), (6, .slc 0), (7, .slc 1), (8, .dat (.int .i64) x2273), (9, .dat (.int .i64) x2274)], [some (.seq (.int .i64) x2275), some (.seq (.int .i64) x2276)]⟩ : St) (spec_l6Run_n3 x1483 x2273 x2274 x2275 x2276) (Sum.elim (fun (t : Unit) => (Exit.normal, (⟨mkE 108 0 [(0, .dat (.int .i64) x1482), (1, .dat .str x1483), (6, .slc 0), (7, .slc 1), (8, .dat (.int .i64) x2273), (9, .dat (.int .i64) x2274)], [some (.seq (.int .i64) x2275), some (.seq (.int .i64) x2276)]⟩ : St))) (fun (t : Int × (List Int) × (List Int)) => ((Exit.exit 0), (⟨mkE 108 0 [(0, .dat (.int .i64) x1482), (6, .slc 0), (7, .slc 1), (8, .dat (.int .i64) t.1)], [some (.seq (.int .i64) t.2.1), some (.seq (.int .i64) t.2.2)]⟩ : St)))) := by
  refine Link.of fun K h => ?_
  simp only [spec_l6Run_n3, wpO_bind, wpO_cond, wpO_map, wpO_some] at h
  exact Awp.of (by kernel_rfl) h

theorem spec_l6Run_n4_l (x1482 : Int) (x1483 : ByteArray) (x2273 : Int) (x2274 : Int) (x2275 : List Int) (x2276 : List Int) : Link spec_l6Run_ctx LL (Code.fst (Code.fst (Code.fst (Code.snd (Code.fst (Code.fst (Code.snd (Code.fst (Code.snd (Code.snd (Code.snd (Code.snd (bodyOf Tryd.f22))))))))))))) (Ann.fst (Ann.fst (Ann.fst (Ann.snd (Ann.fst (Ann.fst (Ann.snd (Ann.fst (Ann.snd (Ann.snd (Ann.snd (Ann.snd spec_l6Run_an)))))))))))) (⟨mkE 108 0 [(0, .dat (.int .i64) x1482), (1, .dat .str x1483), (6, .slc 0), (7, .slc 1), (8, .dat (.int .i64) x2273), (9, .dat (.int .i64) x2274)], [some (.seq (.int .i64) x2275), some (.seq (.int .i64) x2276)]⟩ : St) (spec_l6Run_n4 x2276) (fun (t : Int) => (Exit.normal, (⟨mkE 108 0 [(0, .dat (.int .i64) x1482), (1, .dat .str x1483), (6, .slc 0), (7, .slc 1), (8, .dat (.int .i64) x2273), (9, .dat (.int .i64) x2274), (10, .dat (.int .i64) t)], [some (.seq (.int .i64) x2275), some (.seq (.int .i64) x2276)]⟩ : St))) := by
  refine Link.of fun K h => ?_
  simp only [spec_l6Run_n4, wpO_bind, wpO_cond, wpO_map, wpO_some] at h
  exact Awp.of (by kernel_rfl) h

theorem spec_l6Run_n5_l (x1482 : Int) (x1483 : ByteArray) (x2273 : Int) (x2274 : Int) (x2538 : Int) (x2275 : List Int) (x2276 : List Int) : Link spec_l6Run_ctx LL (Code.fst (Code.fst (Code.snd (Code.fst (Code.fst (Code.snd (Code.fst (Code.fst (Code.snd (Code.fst (Code.snd (Code.snd (Code.snd (Code.snd (bodyOf Tryd.f22))))))))))))))) (Ann.fst (Ann.fst (Ann.snd (Ann.fst (Ann.fst (Ann.snd (Ann.fst (Ann.fst (Ann.snd (Ann.fst (Ann.snd (Ann.snd (Ann.snd (Ann.snd spec_l6Run_an)))))))))))))) (⟨mkE 108 0 [(0, .dat (.int .i64) x1482), (1, .dat .str x1483), (6, .slc 0), (7, .slc 1), (8, .dat (.int .i64) x2273), (9, .dat (.int .i64) x2274), (10, .dat (.int .i64) x2538)], [some (.seq (.int .i64) x2275), some (.seq (.int .i64) x2276)]⟩ : St) (spec_l6Run_n5 x1482 x1483 x2273 x2274) (fun (t : Bool) => (Exit.normal, (⟨mkE 108 0 [(0, .dat (.int .i64) x1482), (1, .dat .str x1483), (6, .slc 0), (7, .slc 1), (8, .dat (.int .i64) x2273), (9, .dat (.int .i64) x2274), (10, .dat (.int .i64) x2538), (24, .dat .bool t)], [some (.seq (.int .i64) x2275), some (.seq (.int .i64) x2276)]⟩ : St))) := by
  refine Link.of fun K h => ?_
  simp only [spec_l6Run_n5, wpO_bind, wpO_cond, wpO_map, wpO_some] at h
  exact Awp.of (by kernel_rfl) h

theorem spec_l6Run_n6_l (x1482 : Int) (x1483 : ByteArray) (x2273 : Int) (x2274 : Int) (x2538 : Int) (x2922 : Bool) (x2275 : List Int) (x2276 : List Int) : Link spec_l6Run_ctx LL (Code.snd (Code.fst (Code.snd (Code.fst (Code.fst (Code.snd (Code.fst (Code.fst (Code.snd (Code.fst (Code.snd (Code.snd (Code.snd (Code.snd (bodyOf Tryd.f22))))))))))))))) (Ann.snd (Ann.fst (Ann.snd (Ann.fst (Ann.fst (Ann.snd (Ann.fst (Ann.fst (Ann.snd (Ann.fst (Ann.snd (Ann.snd (Ann.snd (Ann.snd spec_l6Run_an)))))))))))))) (⟨mkE 108 0 [(0, .dat (.int .i64) x1482), (1, .dat .str x1483), (6, .slc 0), (7, .slc 1), (8, .dat (.int .i64) x2273), (9, .dat (.int .i64) x2274), (10, .dat (.int .i64) x2538), (24, .dat .bool x2922)], [some (.seq (.int .i64) x2275), some (.seq (.int .i64) x2276)]⟩ : St) (spec_l6Run_n6 x1483 x2273 x2274 x2538 x2922 x2275 x2276) (Sum.elim (fun (t : Int × (List Int) × (List Int)) => (Exit.normal, (⟨mkE 108 0 [(0, .dat (.int .i64) x1482), (1, .dat .str x1483), (6, .slc 0), (7, .slc 1), (8, .dat (.int .i64) t.1), (9, .dat (.int .i64) x2274)], [some (.seq (.int .i64) t.2.1), some (.seq (.int .i64) t.2.2)]⟩ : St))) (fun (t : Bool × (List Int)) => (Exit.ret, (⟨mkE 108 0 [(4, .slc 0), (5, .dat .bool t.1)], [some (.seq (.int .i64) t.2)]⟩ : St)))) := by
  refine Link.of fun K h => ?_
  simp only [spec_l6Run_n6, wpO_bind, wpO_cond, wpO_map, wpO_some] at h
  exact Awp.of (by kernel_rfl) h

theorem spec_l6Run_n7_l (x1482 : Int) (x1483 : ByteArray) (x2273 : Int) (x2274 : Int) (x2538 : Int) (x2275 : List Int) (x2276 : List Int) : Link spec_l6Run_ctx LL (Code.fst (Code.snd (Code.fst (Code.fst (Code.snd (Code.fst (Code.fst (Code.snd (Code.fst (Code.snd (Code.snd (Code.snd (Code.snd (bodyOf Tryd.f22)))))))))))))) (Ann.fst (Ann.snd (Ann.fst (Ann.fst (Ann.snd (Ann.fst (Ann.fst (Ann.snd (Ann.fst (Ann.snd (Ann.snd (Ann.snd (Ann.snd spec_l6Run_an))))))))))))) (⟨mkE 108 0 [(0, .dat (.int .i64) x1482), (1, .dat .str x1483), (6, .slc 0), (7, .slc 1), (8, .dat (.int .i64) x2273), (9, .dat (.int .i64) x2274), (10, .dat (.int .i64) x2538)], [some (.seq (.int .i64) x2275), some (.seq (.int .i64) x2276)]⟩ : St) (spec_l6Run_n7 x1482 x1483 x2273 x2274 x2538 x2275 x2276) (Sum.elim (fun (t : Int × (List Int) × (List Int)) => (Exit.normal, (⟨mkE 108 0 [(0, .dat (.int .i64) x1482), (1, .dat .str x1483), (6, .slc 0), (7, .slc 1), (8, .dat (.int .i64) t.1), (9, .dat (.int .i64) x2274)], [some (.seq (.int .i64) t.2.1), some (.seq (.int .i64) t.2.2)]⟩ : St))) (fun (t : Bool × (List Int)) => (Exit.ret, (⟨mkE 108 0 [(4, .slc 0), (5, .dat .bool t.1)], [some (.seq (.int .i64) t.2)]⟩ : St)))) := by
  unfold spec_l6Run_n7
  exact Link.cast (by kernel_rfl) (by kernel_rfl) (link_seq (b := (Code.snd (Code.fst (Code.snd (Code.fst (Code.fst (Code.snd (Code.fst (Code.fst (Code.snd (Code.fst (Code.snd (Code.snd (Code.snd (Code.snd (bodyOf Tryd.f22)))))))))))))))) (y := (Ann.snd (Ann.fst (Ann.snd (Ann.fst (Ann.fst (Ann.snd (Ann.fst (Ann.fst (Ann.snd (Ann.fst (Ann.snd (Ann.snd (Ann.snd (Ann.snd spec_l6Run_an))))))))))))))) (spec_l6Run_n5_l x1482 x1483 x2273 x2274 x2538 x2275 x2276) (fun (t : Bool) => (spec_l6Run_n6_l x1482 x1483 x2273 x2274 x2538 t x2275 x2276)))

theorem spec_l6Run_n8_l (x1482 : Int) (x1483 : ByteArray) (x2273 : Int) (x2274 : Int) (x2538 : Int) (x2275 : List Int) (x2276 : List Int) : Link spec_l6Run_ctx LL (Code.snd (Code.fst (Code.fst (Code.snd (Code.fst (Code.fst (Code.snd (Code.fst (Code.snd (Code.snd (Code.snd (Code.snd (bodyOf Tryd.f22))))))))))))) (Ann.snd (Ann.fst (Ann.fst (Ann.snd (Ann.fst (Ann.fst (Ann.snd (Ann.fst (Ann.snd (Ann.snd (Ann.snd (Ann.snd spec_l6Run_an)))))))))))) (⟨mkE 108 0 [(0, .dat (.int .i64) x1482), (1, .dat .str x1483), (6, .slc 0), (7, .slc 1), (8, .dat (.int .i64) x2273), (9, .dat (.int .i64) x2274), (10, .dat (.int .i64) x2538)], [some (.seq (.int .i64) x2275), some (.seq (.int .i64) x2276)]⟩ : St) (spec_l6Run_n8 x1482 x1483 x2273 x2274 x2538 x2275 x2276) (Sum.elim (fun (t : Int × (List Int) × (List Int)) => (Exit.normal, (⟨mkE 108 0 [(0, .dat (.int .i64) x1482), (1, .dat .str x1483), (6, .slc 0), (7, .slc 1), (8, .dat (.int .i64) t.1), (9, .dat (.int .i64) x2274)], [some (.seq (.int .i64) t.2.1), some (.seq (.int .i64) t.2.2)]⟩ : St))) (fun (t : Bool × (List Int)) => (Exit.ret, (⟨mkE 108 0 [(4, .slc 0), (5, .dat .bool t.1)], [some (.seq (.int .i64) t.2)]⟩ : St)))) := by
  unfold spec_l6Run_n8
  exact Link.cast (by kernel_rfl) (by kernel_rfl) (link_block (id := 2) (spec_l6Run_n7_l x1482 x1483 x2273 x2274 x2538 x2275 x2276) (Sum.elim (fun (t : Int × (List Int) × (List Int)) => (Sum.inl (t.1, t.2.1, t.2.2))) (fun (t : Bool × (List Int)) => (Sum.inr t))) (by
  rintro (t | t) K h
  · exact Eq.mp (by kernel_rfl) h
  · exact Eq.mp (by kernel_rfl) h))

theorem spec_l6Run_n9_l (x1482 : Int) (x1483 : ByteArray) (x2273 : Int) (x2274 : Int) (x2275 : List Int) (x2276 : List Int) : Link spec_l6Run_ctx LL (Code.fst (Code.fst (Code.snd (Code.fst (Code.fst (Code.snd (Code.fst (Code.snd (Code.snd (Code.snd (Code.snd (bodyOf Tryd.f22)))))))))))) (Ann.fst (Ann.fst (Ann.snd (Ann.fst (Ann.fst (Ann.snd (Ann.fst (Ann.snd (Ann.snd (Ann.snd (Ann.snd spec_l6Run_an))))))))))) (⟨mkE 108 0 [(0, .dat (.int .i64) x1482), (1, .dat .str x1483), (6, .slc 0), (7, .slc 1), (8, .dat (.int .i64) x2273), (9, .dat (.int .i64) x2274)], [some (.seq (.int .i64) x2275), some (.seq (.int .i64) x2276)]⟩ : St) (spec_l6Run_n9 x1482 x1483 x2273 x2274 x2275 x2276) (Sum.elim (fun (t : Int × (List Int) × (List Int)) => (Exit.normal, (⟨mkE 108 0 [(0, .dat (.int .i64) x1482), (1, .dat .str x1483), (6, .slc 0), (7, .slc 1), (8, .dat (.int .i64) t.1), (9, .dat (.int .i64) x2274)], [some (.seq (.int .i64) t.2.1), some (.seq (.int .i64) t.2.2)]⟩ : St))) (fun (t : Bool × (List Int)) => (Exit.ret, (⟨mkE 108 0 [(4, .slc 0), (5, .dat .bool t.1)], [some (.seq (.int .i64) t.2)]⟩ : St)))) := by
  unfold spec_l6Run_n9
  exact Link.cast (by kernel_rfl) (by kernel_rfl) (link_seq (b := (Code.snd (Code.fst (Code.fst (Code.snd (Code.fst (Code.fst (Code.snd (Code.fst (Code.snd (Code.snd (Code.snd (Code.snd (bodyOf Tryd.f22)))))))))))))) (y := (Ann.snd (Ann.fst (Ann.fst (Ann.snd (Ann.fst (Ann.fst (Ann.snd (Ann.fst (Ann.snd (Ann.snd (Ann.snd (Ann.snd spec_l6Run_an))))))))))))) (spec_l6Run_n4_l x1482 x1483 x2273 x2274 x2275 x2276) (fun (t : Int) => (spec_l6Run_n8_l x1482 x1483 x2273 x2274 t x2275 x2276)))

theorem spec_l6Run_n10_l (x1482 : Int) (x1483 : ByteArray) (x2273 : Int) (x2274 : Int) (x2275 : List Int) (x2276 : List Int) : Link spec_l6Run_ctx LL (Code.fst (Code.snd (Code.fst (Code.fst (Code.snd (Code.fst (Code.snd (Code.snd (Code.snd (Code.snd (bodyOf Tryd.f22))))))))))) (Ann.fst (Ann.snd (Ann.fst (Ann.fst (Ann.snd (Ann.fst (Ann.snd (Ann.snd (Ann.snd (Ann.snd spec_l6Run_an)))))))))) (⟨mkE 108 0 [(0, .dat (.int .i64) x1482), (1, .dat .str x1483), (6, .slc 0), (7, .slc 1), (8, .dat (.int .i64) x2273), (9, .dat (.int .i64) x2274)], [some (.seq (.int .i64) x2275), some (.seq (.int .i64) x2276)]⟩ : St) (spec_l6Run_n10 x1482 x1483 x2273 x2274 x2275 x2276) (Sum.elim (fun (t : Int × (List Int) × (List Int)) => (Exit.normal, (⟨mkE 108 0 [(0, .dat (.int .i64) x1482), (1, .dat .str x1483), (6, .slc 0), (7, .slc 1), (8, .dat (.int .i64) t.1), (9, .dat (.int .i64) x2274)], [some (.seq (.int .i64) t.2.1), some (.seq (.int .i64) t.2.2)]⟩ : St))) (fun (t : Bool × (List Int)) => (Exit.ret, (⟨mkE 108 0 [(4, .slc 0), (5, .dat .bool t.1)], [some (.seq (.int .i64) t.2)]⟩ : St)))) := by
  unfold spec_l6Run_n10
  exact Link.cast (by kernel_rfl) (by kernel_rfl) (link_block (id := 1) (spec_l6Run_n9_l x1482 x1483 x2273 x2274 x2275 x2276) (Sum.elim (fun (t : Int × (List Int) × (List Int)) => (Sum.inl (t.1, t.2.1, t.2.2))) (fun (t : Bool × (List Int)) => (Sum.inr t))) (by
  rintro (t | t) K h
  · exact Eq.mp (by kernel_rfl) h
  · exact Eq.mp (by kernel_rfl) h))

theorem spec_l6Run_n11_l (x1482 : Int) (x1483 : ByteArray) (x2987 : Int) (x2274 : Int) (x2988 : List Int) (x2989 : List Int) : Link spec_l6Run_ctx LL (Code.snd (Code.snd (Code.fst (Code.fst (Code.snd (Code.fst (Code.snd (Code.snd (Code.snd (Code.snd (bodyOf Tryd.f22))))))))))) (Ann.snd (Ann.snd (Ann.fst (Ann.fst (Ann.snd (Ann.fst (Ann.snd (Ann.snd (Ann.snd (Ann.snd spec_l6Run_an)))))))))) (⟨mkE 108 0 [(0, .dat (.int .i64) x1482), (1, .dat .str x1483), (6, .slc 0), (7, .slc 1), (8, .dat (.int .i64) x2987), (9, .dat (.int .i64) x2274)], [some (.seq (.int .i64) x2988), some (.seq (.int .i64) x2989)]⟩ : St) (spec_l6Run_n11 x2274) (fun (t : Int) => (Exit.normal, (⟨mkE 108 0 [(0, .dat (.int .i64) x1482), (1, .dat .str x1483), (6, .slc 0), (7, .slc 1), (8, .dat (.int .i64) x2987), (9, .dat (.int .i64) t)], [some (.seq (.int .i64) x2988), some (.seq (.int .i64) x2989)]⟩ : St))) := by
  refine Link.of fun K h => ?_
  simp only [spec_l6Run_n11, wpO_bind, wpO_cond, wpO_map, wpO_some] at h
  exact Awp.of (by kernel_rfl) h

theorem spec_l6Run_n12_l (x1482 : Int) (x1483 : ByteArray) (x2273 : Int) (x2274 : Int) (x2275 : List Int) (x2276 : List Int) : Link spec_l6Run_ctx LL (Code.snd (Code.fst (Code.fst (Code.snd (Code.fst (Code.snd (Code.snd (Code.snd (Code.snd (bodyOf Tryd.f22)))))))))) (Ann.snd (Ann.fst (Ann.fst (Ann.snd (Ann.fst (Ann.snd (Ann.snd (Ann.snd (Ann.snd spec_l6Run_an))))))))) (⟨mkE 108 0 [(0, .dat (.int .i64) x1482), (1, .dat .str x1483), (6, .slc 0), (7, .slc 1), (8, .dat (.int .i64) x2273), (9, .dat (.int .i64) x2274)], [some (.seq (.int .i64) x2275), some (.seq (.int .i64) x2276)]⟩ : St) (spec_l6Run_n12 x1482 x1483 x2273 x2274 x2275 x2276) (Sum.elim (fun (t : Int × Int × (List Int) × (List Int)) => (Exit.normal, (⟨mkE 108 0 [(0, .dat (.int .i64) x1482), (1, .dat .str x1483), (6, .slc 0), (7, .slc 1), (8, .dat (.int .i64) t.1), (9, .dat (.int .i64) t.2.1)], [some (.seq (.int .i64) t.2.2.1), some (.seq (.int .i64) t.2.2.2)]⟩ : St))) (fun (t : Bool × (List Int)) => (Exit.ret, (⟨mkE 108 0 [(4, .slc 0), (5, .dat .bool t.1)], [some (.seq (.int .i64) t.2)]⟩ : St)))) := by
  unfold spec_l6Run_n12
  exact Link.cast (by kernel_rfl) (by kernel_rfl) (link_seq2 (b := (Code.snd (Code.snd (Code.fst (Code.fst (Code.snd (Code.fst (Code.snd (Code.snd (Code.snd (Code.snd (bodyOf Tryd.f22)))))))))))) (y := (Ann.snd (Ann.snd (Ann.fst (Ann.fst (Ann.snd (Ann.fst (Ann.snd (Ann.snd (Ann.snd (Ann.snd spec_l6Run_an))))))))))) (spec_l6Run_n10_l x1482 x1483 x2273 x2274 x2275 x2276) (fun (t : Int × (List Int) × (List Int)) => (link_map (spec_l6Run_n11_l x1482 x1483 t.1 x2274 t.2.1 t.2.2) (fun (u : Int) => (Sum.inl (t.1, u, t.2.1, t.2.2))) (by
  rintro t
  · kernel_rfl))) (fun (t : Bool × (List Int)) => (Sum.inr t)) (by
  rintro t
  · kernel_rfl) (by
  rintro t f K h
  · exact h))

theorem spec_l6Run_n13_l (x1482 : Int) (x1483 : ByteArray) (x2273 : Int) (x2274 : Int) (x2275 : List Int) (x2276 : List Int) : Link spec_l6Run_ctx LL (Code.fst (Code.fst (Code.snd (Code.fst (Code.snd (Code.snd (Code.snd (Code.snd (bodyOf Tryd.f22))))))))) (Ann.fst (Ann.fst (Ann.snd (Ann.fst (Ann.snd (Ann.snd (Ann.snd (Ann.snd spec_l6Run_an)))))))) (⟨mkE 108 0 [(0, .dat (.int .i64) x1482), (1, .dat .str x1483), (6, .slc 0), (7, .slc 1), (8, .dat (.int .i64) x2273), (9, .dat (.int .i64) x2274)], [some (.seq (.int .i64) x2275), some (.seq (.int .i64) x2276)]⟩ : St) (spec_l6Run_n13 x1482 x1483 x2273 x2274 x2275 x2276) (Sum.elim (fun (t : Int × Int × (List Int) × (List Int)) => (Exit.normal, (⟨mkE 108 0 [(0, .dat (.int .i64) x1482), (1, .dat .str x1483), (6, .slc 0), (7, .slc 1), (8, .dat (.int .i64) t.1), (9, .dat (.int .i64) t.2.1)], [some (.seq (.int .i64) t.2.2.1), some (.seq (.int .i64) t.2.2.2)]⟩ : St))) (Sum.elim (fun (t : Bool × (List Int)) => (Exit.ret, (⟨mkE 108 0 [(4, .slc 0), (5, .dat .bool t.1)], [some (.seq (.int .i64) t.2)]⟩ : St))) (fun (t : Int × (List Int) × (List Int)) => ((Exit.exit 0), (⟨mkE 108 0 [(0, .dat (.int .i64) x1482), (6, .slc 0), (7, .slc 1), (8, .dat (.int .i64) t.1)], [some (.seq (.int .i64) t.2.1), some (.seq (.int .i64) t.2.2)]⟩ : St))))) := by
  unfold spec_l6Run_n13
  exact Link.cast (by kernel_rfl) (by kernel_rfl) (link_seq2 (b := (Code.snd (Code.fst (Code.fst (Code.snd (Code.fst (Code.snd (Code.snd (Code.snd (Code.snd (bodyOf Tryd.f22))))))))))) (y := (Ann.snd (Ann.fst (Ann.fst (Ann.snd (Ann.fst (Ann.snd (Ann.snd (Ann.snd (Ann.snd spec_l6Run_an)))))))))) (spec_l6Run_n3_l x1482 x1483 x2273 x2274 x2275 x2276) (fun (t : Unit) => (link_map (spec_l6Run_n12_l x1482 x1483 x2273 x2274 x2275 x2276) (Sum.elim (fun (t : Int × Int × (List Int) × (List Int)) => (Sum.inl (t.1, t.2.1, t.2.2.1, t.2.2.2))) (fun (t : Bool × (List Int)) => (Sum.inr (Sum.inl t)))) (by
  rintro (t | t)
  · kernel_rfl
  · kernel_rfl))) (fun (t : Int × (List Int) × (List Int)) => (Sum.inr (Sum.inr t))) (by
  rintro t
  · kernel_rfl) (by
  rintro t f K h
  · exact h))

theorem spec_l6Run_n14_l (x1482 : Int) (x1483 : ByteArray) (x1557 : List Int) : Link spec_l6Run_ctx LL (Code.fst (Code.snd (Code.fst (Code.snd (Code.snd (Code.snd (Code.snd (bodyOf Tryd.f22)))))))) (Ann.fst (Ann.snd (Ann.fst (Ann.snd (Ann.snd (Ann.snd (Ann.snd spec_l6Run_an))))))) (⟨mkE 108 0 [(0, .dat (.int .i64) x1482), (1, .dat .str x1483), (6, .slc 0), (7, .slc 1), (8, .dat (.int .i64) 1), (9, .dat (.int .i64) 0)], [some (.seq (.int .i64) x1557), some (.seq (.int .i64) ([] : List Int))]⟩ : St) (spec_l6Run_n14 x1482 x1483 x1557) (Sum.elim (fun (t : Bool × (List Int)) => (Exit.ret, (⟨mkE 108 0 [(4, .slc 0), (5, .dat .bool t.1)], [some (.seq (.int .i64) t.2)]⟩ : St))) (fun (t : Int × (List Int) × (List Int)) => ((Exit.exit 0), (⟨mkE 108 0 [(0, .dat (.int .i64) x1482), (6, .slc 0), (7, .slc 1), (8, .dat (.int .i64) t.1)], [some (.seq (.int .i64) t.2.1), some (.seq (.int .i64) t.2.2)]⟩ : St)))) := by
  unfold spec_l6Run_n14
  exact Link.cast (by kernel_rfl) (by kernel_rfl) (link_loop (mk := fun (s : Int × Int × (List Int) × (List Int)) => (⟨mkE 108 0 [(0, .dat (.int .i64) x1482), (1, .dat .str x1483), (6, .slc 0), (7, .slc 1), (8, .dat (.int .i64) s.1), (9, .dat (.int .i64) s.2.1)], [some (.seq (.int .i64) s.2.2.1), some (.seq (.int .i64) s.2.2.2)]⟩ : St)) (fin := (Sum.elim (fun (t : Bool × (List Int)) => (Exit.ret, (⟨mkE 108 0 [(4, .slc 0), (5, .dat .bool t.1)], [some (.seq (.int .i64) t.2)]⟩ : St))) (fun (t : Int × (List Int) × (List Int)) => ((Exit.exit 0), (⟨mkE 108 0 [(0, .dat (.int .i64) x1482), (6, .slc 0), (7, .slc 1), (8, .dat (.int .i64) t.1)], [some (.seq (.int .i64) t.2.1), some (.seq (.int .i64) t.2.2)]⟩ : St))))) (by
  rintro (t | t) f K h
  · exact h
  · exact h) (fun s => link_map (spec_l6Run_n13_l x1482 x1483 s.1 s.2.1 s.2.2.1 s.2.2.2) (Sum.elim (fun (t : Int × Int × (List Int) × (List Int)) => Sum.inl (t.1, t.2.1, t.2.2.1, t.2.2.2)) (Sum.elim (fun (t : Bool × (List Int)) => Sum.inr (Sum.inl t)) (fun (t : Int × (List Int) × (List Int)) => Sum.inr (Sum.inr t)))) (by
  rintro (t | t | t)
  · kernel_rfl
  · kernel_rfl
  · kernel_rfl)) (1, 0, x1557, ([] : List Int)))

theorem spec_l6Run_n15_l (x1482 : Int) (x1483 : ByteArray) (x1557 : List Int) : Link spec_l6Run_ctx LL (Code.snd (Code.fst (Code.snd (Code.snd (Code.snd (Code.snd (bodyOf Tryd.f22))))))) (Ann.snd (Ann.fst (Ann.snd (Ann.snd (Ann.snd (Ann.snd spec_l6Run_an)))))) (⟨mkE 108 0 [(0, .dat (.int .i64) x1482), (1, .dat .str x1483), (6, .slc 0), (7, .slc 1), (8, .dat (.int .i64) 1), (9, .dat (.int .i64) 0)], [some (.seq (.int .i64) x1557), some (.seq (.int .i64) ([] : List Int))]⟩ : St) (spec_l6Run_n15 x1482 x1483 x1557) (Sum.elim (fun (t : Int × (List Int) × (List Int)) => (Exit.normal, (⟨mkE 108 0 [(0, .dat (.int .i64) x1482), (6, .slc 0), (7, .slc 1), (8, .dat (.int .i64) t.1)], [some (.seq (.int .i64) t.2.1), some (.seq (.int .i64) t.2.2)]⟩ : St))) (fun (t : Bool × (List Int)) => (Exit.ret, (⟨mkE 108 0 [(4, .slc 0), (5, .dat .bool t.1)], [some (.seq (.int .i64) t.2)]⟩ : St)))) := by
  unfold spec_l6Run_n15
  exact Link.cast (by kernel_rfl) (by kernel_rfl) (link_block (id := 0) (spec_l6Run_n14_l x1482 x1483 x1557) (Sum.elim (fun (t : Bool × (List Int)) => (Sum.inr t)) (fun (t : Int × (List Int) × (List Int)) => (Sum.inl (t.1, t.2.1, t.2.2)))) (by
  rintro (t | t) K h
  · exact Eq.mp (by kernel_rfl) h
  · exact Eq.mp (by kernel_rfl) h))

theorem spec_l6Run_n16_l (x1482 : Int) (x1483 : ByteArray) (x1557 : List Int) : Link spec_l6Run_ctx LL (Code.fst (Code.snd (Code.snd (Code.snd (Code.snd (bodyOf Tryd.f22)))))) (Ann.fst (Ann.snd (Ann.snd (Ann.snd (Ann.snd spec_l6Run_an))))) (⟨mkE 108 0 [(0, .dat (.int .i64) x1482), (1, .dat .str x1483), (6, .slc 0), (7, .slc 1), (8, .dat (.int .i64) 1)], [some (.seq (.int .i64) x1557), some (.seq (.int .i64) ([] : List Int))]⟩ : St) (spec_l6Run_n16 x1482 x1483 x1557) (Sum.elim (fun (t : Int × (List Int) × (List Int)) => (Exit.normal, (⟨mkE 108 0 [(0, .dat (.int .i64) x1482), (6, .slc 0), (7, .slc 1), (8, .dat (.int .i64) t.1)], [some (.seq (.int .i64) t.2.1), some (.seq (.int .i64) t.2.2)]⟩ : St))) (fun (t : Bool × (List Int)) => (Exit.ret, (⟨mkE 108 0 [(4, .slc 0), (5, .dat .bool t.1)], [some (.seq (.int .i64) t.2)]⟩ : St)))) := by
  unfold spec_l6Run_n16
  exact Link.cast (by kernel_rfl) (by kernel_rfl) (link_seq (b := (Code.snd (Code.fst (Code.snd (Code.snd (Code.snd (Code.snd (bodyOf Tryd.f22)))))))) (y := (Ann.snd (Ann.fst (Ann.snd (Ann.snd (Ann.snd (Ann.snd spec_l6Run_an))))))) (spec_l6Run_n2_l x1482 x1483 x1557) (fun (t : Unit) => (spec_l6Run_n15_l x1482 x1483 x1557)))

theorem spec_l6Run_n17_l (x1482 : Int) (x2273 : Int) (x2275 : List Int) (x2276 : List Int) : Link spec_l6Run_ctx LL (Code.snd (Code.snd (Code.snd (Code.snd (Code.snd (bodyOf Tryd.f22)))))) (Ann.snd (Ann.snd (Ann.snd (Ann.snd (Ann.snd spec_l6Run_an))))) (⟨mkE 108 0 [(0, .dat (.int .i64) x1482), (6, .slc 0), (7, .slc 1), (8, .dat (.int .i64) x2273)], [some (.seq (.int .i64) x2275), some (.seq (.int .i64) x2276)]⟩ : St) (spec_l6Run_n17 x1482 x2273 x2275 x2276) (fun (t : Bool × (List Int)) => (Exit.ret, (⟨mkE 108 0 [(4, .slc 0), (5, .dat .bool t.1)], [some (.seq (.int .i64) t.2)]⟩ : St))) := by
  refine Link.of fun K h => ?_
  simp only [spec_l6Run_n17, wpO_bind, wpO_cond, wpO_map, wpO_some] at h
  exact Awp.of (by kernel_rfl) h

theorem spec_l6Run_n18_l (x1482 : Int) (x1483 : ByteArray) (x1557 : List Int) : Link spec_l6Run_ctx LL (Code.snd (Code.snd (Code.snd (Code.snd (bodyOf Tryd.f22))))) (Ann.snd (Ann.snd (Ann.snd (Ann.snd spec_l6Run_an)))) (⟨mkE 108 0 [(0, .dat (.int .i64) x1482), (1, .dat .str x1483), (6, .slc 0), (7, .slc 1), (8, .dat (.int .i64) 1)], [some (.seq (.int .i64) x1557), some (.seq (.int .i64) ([] : List Int))]⟩ : St) (spec_l6Run_n18 x1482 x1483 x1557) (fun (t : Bool × (List Int)) => (Exit.ret, (⟨mkE 108 0 [(4, .slc 0), (5, .dat .bool t.1)], [some (.seq (.int .i64) t.2)]⟩ : St))) := by
  unfold spec_l6Run_n18
  exact Link.cast (by kernel_rfl) (by kernel_rfl) (link_seq2 (b := (Code.snd (Code.snd (Code.snd (Code.snd (Code.snd (bodyOf Tryd.f22))))))) (y := (Ann.snd (Ann.snd (Ann.snd (Ann.snd (Ann.snd spec_l6Run_an)))))) (spec_l6Run_n16_l x1482 x1483 x1557) (fun (t : Int × (List Int) × (List Int)) => (spec_l6Run_n17_l x1482 t.1 t.2.1 t.2.2)) (fun (t : Bool × (List Int)) => t) (by
  rintro t
  · kernel_rfl) (by
  rintro t f K h
  · exact h))

theorem spec_l6Run_n19_l (x1482 : Int) (x1483 : ByteArray) : Link spec_l6Run_ctx LL (bodyOf Tryd.f22) spec_l6Run_an (⟨mkE 108 0 [(0, .dat (.int .i64) x1482), (1, .dat .str x1483)], []⟩ : St) (spec_l6Run_n19 x1482 x1483) (fun (t : Bool × (List Int)) => (Exit.ret, (⟨mkE 108 0 [(4, .slc 0), (5, .dat .bool t.1)], [some (.seq (.int .i64) t.2)]⟩ : St))) := by
  unfold spec_l6Run_n19
  exact Link.cast (by kernel_rfl) (by kernel_rfl) (link_group (c := (Code.fst (Code.snd (Code.snd (Code.snd (bodyOf Tryd.f22)))))) (a := (Ann.fst (Ann.snd (Ann.snd (Ann.snd spec_l6Run_an))))) [(Code.fst (bodyOf Tryd.f22)), (Code.fst (Code.snd (bodyOf Tryd.f22))), (Code.fst (Code.snd (Code.snd (bodyOf Tryd.f22))))] [(Ann.fst spec_l6Run_an), (Ann.fst (Ann.snd spec_l6Run_an)), (Ann.fst (Ann.snd (Ann.snd spec_l6Run_an)))] rfl (link_seq (b := (Code.snd (Code.snd (Code.snd (Code.snd (bodyOf Tryd.f22)))))) (y := (Ann.snd (Ann.snd (Ann.snd (Ann.snd spec_l6Run_an))))) (spec_l6Run_n1_l x1482 x1483) (fun (t : (List Int)) => (spec_l6Run_n18_l x1482 x1483 t))))

theorem spec_l6Run_e (x1482 : Int) (x1483 : ByteArray) {r : AV} {H' : Heap} (h : (Ans.mk _ (spec_l6Run x1482 x1483) (fun (t : Bool × (List Int)) => (.tup [.slc 0, .dat .bool t.1], [some (.seq (.int .i64) t.2)])) [] none).run = some (r, H')) : Awp spec_l6Run_ctx LL (bodyOf Tryd.f22) spec_l6Run_an (⟨mkE 108 0 [(0, .dat (.int .i64) x1482), (1, .dat .str x1483)], []⟩ : St) (Ret (tlook tys) Tryd.f22.results.toList r H') :=
  ret_of' (spec_l6Run_n19_l x1482 x1483) (by unfold spec_l6Run; kernel_rfl) (by
  intro t
  exact ret_mk [.slc 0, .dat .bool t.1] (by kernel_rfl) (by kernel_rfl) (by kernel_rfl) (by kernel_rfl)) h

def F_spec_l6Run : Fun := fun avs H =>
  match avs, H with
  | [.dat (.int .i64) x1482, .dat .str x1483], [] => ⟨_, spec_l6Run x1482 x1483, fun (t : Bool × (List Int)) => (.tup [.slc 0, .dat .bool t.1], [some (.seq (.int .i64) t.2)]), [], none⟩
  | _, _ => Ans.no

theorem spec_l6Run_sound : Sound Tryd.prog 22 F_spec_l6Run := by
  refine fn_sound' (C := spec_l6Run_ctx) (c := bodyOf Tryd.f22) (cok_of tys_ok (by simp) (by simp) (by kernel_rfl)) Tryd.func22 (by kernel_rfl) LL spec_l6Run_an ?_
  intro avs H r H' h
  unfold F_spec_l6Run at h
  split at h
  · refine Awp.cast ?_ ?_ ?_ (spec_l6Run_e _ _ h) <;> kernel_rfl
  · simp [Ans.no, Ans.run] at h

/-! loop.example/headtrees/spec.RunStack -/

def spec_RunStack_an : Ann := (.seq (.leaf [0, 1]) (.seq (.seq (.leaf [0, 1, 10]) (.cond (.seq (.leaf [4, 5]) (.leaf [4, 5])) (.leaf [0, 1]))) (.seq (.leaf [6, 7]) (.seq (.seq (.leaf [6, 19]) (.cond (.seq (.leaf [4, 5]) (.leaf [4, 5])) (.leaf [6]))) (.seq (.leaf [4, 5]) (.leaf [4, 5]))))))

noncomputable def spec_RunStack_ctx : Ctx := ⟨tlook tys, olook [(21, F_spec_l1In), (22, F_spec_l6Run)], ioF, 0, false, []⟩

theorem spec_RunStack_n1_l (x1468 : Int) (x1469 : ByteArray) : Link spec_RunStack_ctx LL (bodyOf Tryd.f8) spec_RunStack_an (⟨mkE 22 0 [(0, .dat (.int .i64) x1468), (1, .dat .str x1469)], []⟩ : St) (spec_RunStack_n1 x1468 x1469) (fun (t : Bool × (List Int)) => (Exit.ret, (⟨mkE 22 0 [(4, .slc 0), (5, .dat .bool t.1)], [some (.seq (.int .i64) t.2)]⟩ : St))) := by
  refine Link.of fun K h => ?_
  simp only [spec_RunStack_n1, wpO_bind, wpO_cond, wpO_map, wpO_some] at h
  exact Awp.of (by kernel_rfl) h

theorem spec_RunStack_e (x1468 : Int) (x1469 : ByteArray) {r : AV} {H' : Heap} (h : (Ans.mk _ (spec_RunStack x1468 x1469) (fun (t : Bool × (List Int)) => (.tup [.slc 0, .dat .bool t.1], [some (.seq (.int .i64) t.2)])) [] none).run = some (r, H')) : Awp spec_RunStack_ctx LL (bodyOf Tryd.f8) spec_RunStack_an (⟨mkE 22 0 [(0, .dat (.int .i64) x1468), (1, .dat .str x1469)], []⟩ : St) (Ret (tlook tys) Tryd.f8.results.toList r H') :=
  ret_of' (spec_RunStack_n1_l x1468 x1469) (by unfold spec_RunStack; kernel_rfl) (by
  intro t
  exact ret_mk [.slc 0, .dat .bool t.1] (by kernel_rfl) (by kernel_rfl) (by kernel_rfl) (by kernel_rfl)) h

def F_spec_RunStack : Fun := fun avs H =>
  match avs, H with
  | [.dat (.int .i64) x1468, .dat .str x1469], [] => ⟨_, spec_RunStack x1468 x1469, fun (t : Bool × (List Int)) => (.tup [.slc 0, .dat .bool t.1], [some (.seq (.int .i64) t.2)]), [], none⟩
  | _, _ => Ans.no

theorem spec_RunStack_sound : Sound Tryd.prog 8 F_spec_RunStack := by
  refine fn_sound' (C := spec_RunStack_ctx) (c := bodyOf Tryd.f8) (cok_of tys_ok (List.forall_mem_cons.2 ⟨spec_l1In_sound, List.forall_mem_cons.2 ⟨spec_l6Run_sound, by simp⟩⟩) (List.forall_mem_cons.2 ⟨Tryd.call21, List.forall_mem_cons.2 ⟨Tryd.call22, by simp⟩⟩) (by kernel_rfl)) Tryd.func8 (by kernel_rfl) LL spec_RunStack_an ?_
  intro avs H r H' h
  unfold F_spec_RunStack at h
  split at h
  · refine Awp.cast ?_ ?_ ?_ (spec_RunStack_e _ _ h) <;> kernel_rfl
  · simp [Ans.no, Ans.run] at h

/-! loop.example/headtrees/laws.sameInts -/

def laws_sameInts_an : Ann := (.seq (.leaf [0, 1]) (.seq (.seq (.leaf [0, 1, 10]) (.cond (.seq (.leaf [4]) (.leaf [4])) (.leaf [0, 1]))) (.seq (.seq (.leaf [0, 1, 5]) (.block (.loop (.seq (.seq (.leaf [0, 1, 5, 14]) (.cond (.leaf [0, 1, 5]) (.leaf []))) (.seq (.block (.seq (.draw [] [0, 1, 2, 3, 4, 5, 6, 7, 8] [] [0, 1, 5, 25]) (.cond (.seq (.leaf [4]) (.leaf [4])) (.leaf [0, 1, 5])))) (.leaf [0, 1, 5])))))) (.seq (.leaf [4]) (.leaf [4])))))

noncomputable def laws_sameInts_ctx : Ctx := ⟨tlook tys, olook [], ioF, 0, false, []⟩

theorem laws_sameInts_n1_l (x3036 : List Int) (x3037 : List Int) : Link laws_sameInts_ctx LL (Code.seq (Code.fst (bodyOf Tryd.f9)) (Code.fst (Code.snd (bodyOf Tryd.f9)))) (Ann.seq (Ann.fst laws_sameInts_an) (Ann.fst (Ann.snd laws_sameInts_an))) (⟨mkE 26 0 [(0, .dat (.list (.int .i64)) x3036), (1, .dat (.list (.int .i64)) x3037)], []⟩ : St) (laws_sameInts_n1 x3036 x3037) (Sum.elim (fun (t : Unit) => (Exit.normal, (⟨mkE 26 0 [(0, .dat (.list (.int .i64)) x3036), (1, .dat (.list (.int .i64)) x3037)], []⟩ : St))) (fun (t : Bool) => (Exit.ret, (⟨mkE 26 0 [(4, .dat .bool t)], []⟩ : St)))) := by
  refine Link.of fun K h => ?_
  simp only [laws_sameInts_n1, wpO_bind, wpO_cond, wpO_map, wpO_some] at h
  exact Awp.of (by kernel_rfl) h

theorem laws_sameInts_n2_l (x3036 : List Int) (x3037 : List Int) : Link laws_sameInts_ctx LL (Code.fst (Code.fst (Code.snd (Code.snd (bodyOf Tryd.f9))))) (Ann.fst (Ann.fst (Ann.snd (Ann.snd laws_sameInts_an)))) (⟨mkE 26 0 [(0, .dat (.list (.int .i64)) x3036), (1, .dat (.list (.int .i64)) x3037)], []⟩ : St) (laws_sameInts_n2) (fun (t : Unit) => (Exit.normal, (⟨mkE 26 0 [(0, .dat (.list (.int .i64)) x3036), (1, .dat (.list (.int .i64)) x3037), (5, .dat (.int .i64) 0)], []⟩ : St))) := by
  refine Link.of fun K h => ?_
  simp only [laws_sameInts_n2, wpO_bind, wpO_cond, wpO_map, wpO_some] at h
  exact Awp.of (by kernel_rfl) h

theorem laws_sameInts_n3_l (x3036 : List Int) (x3037 : List Int) (x3054 : Int) : Link laws_sameInts_ctx LL (Code.fst (Code.fst (Code.snd (Code.fst (Code.snd (Code.snd (bodyOf Tryd.f9))))))) (Ann.fst (Ann.fst (Ann.snd (Ann.fst (Ann.snd (Ann.snd laws_sameInts_an)))))) (⟨mkE 26 0 [(0, .dat (.list (.int .i64)) x3036), (1, .dat (.list (.int .i64)) x3037), (5, .dat (.int .i64) x3054)], []⟩ : St) (laws_sameInts_n3 x3036 x3037 x3054) (Sum.elim (fun (t : Int) => (Exit.normal, (⟨mkE 26 0 [(0, .dat (.list (.int .i64)) x3036), (1, .dat (.list (.int .i64)) x3037), (5, .dat (.int .i64) t)], []⟩ : St))) (Sum.elim (fun (t : Bool) => (Exit.ret, (⟨mkE 26 0 [(4, .dat .bool t)], []⟩ : St))) (fun (t : Unit) => ((Exit.exit 0), (⟨mkE 26 0 [], []⟩ : St))))) := by
  refine Link.of fun K h => ?_
  simp only [laws_sameInts_n3, wpO_bind, wpO_cond, wpO_map, wpO_some] at h
  exact Awp.of (by kernel_rfl) h

theorem laws_sameInts_n4_l (x3036 : List Int) (x3037 : List Int) : Link laws_sameInts_ctx LL (Code.fst (Code.snd (Code.fst (Code.snd (Code.snd (bodyOf Tryd.f9)))))) (Ann.fst (Ann.snd (Ann.fst (Ann.snd (Ann.snd laws_sameInts_an))))) (⟨mkE 26 0 [(0, .dat (.list (.int .i64)) x3036), (1, .dat (.list (.int .i64)) x3037), (5, .dat (.int .i64) 0)], []⟩ : St) (laws_sameInts_n4 x3036 x3037) (Sum.elim (fun (t : Bool) => (Exit.ret, (⟨mkE 26 0 [(4, .dat .bool t)], []⟩ : St))) (fun (t : Unit) => ((Exit.exit 0), (⟨mkE 26 0 [], []⟩ : St)))) := by
  unfold laws_sameInts_n4
  exact Link.cast (by kernel_rfl) (by kernel_rfl) (link_loop (mk := fun (s : Int) => (⟨mkE 26 0 [(0, .dat (.list (.int .i64)) x3036), (1, .dat (.list (.int .i64)) x3037), (5, .dat (.int .i64) s)], []⟩ : St)) (fin := (Sum.elim (fun (t : Bool) => (Exit.ret, (⟨mkE 26 0 [(4, .dat .bool t)], []⟩ : St))) (fun (t : Unit) => ((Exit.exit 0), (⟨mkE 26 0 [], []⟩ : St))))) (by
  rintro (t | t) f K h
  · exact h
  · exact h) (fun s => link_map (laws_sameInts_n3_l x3036 x3037 s) (Sum.elim (fun (t : Int) => Sum.inl t) (Sum.elim (fun (t : Bool) => Sum.inr (Sum.inl t)) (fun (t : Unit) => Sum.inr (Sum.inr t)))) (by
  rintro (t | t | t)
  · kernel_rfl
  · kernel_rfl
  · kernel_rfl)) 0)

theorem laws_sameInts_n5_l (x3036 : List Int) (x3037 : List Int) : Link laws_sameInts_ctx LL (Code.snd (Code.fst (Code.snd (Code.snd (bodyOf Tryd.f9))))) (Ann.snd (Ann.fst (Ann.snd (Ann.snd laws_sameInts_an)))) (⟨mkE 26 0 [(0, .dat (.list (.int .i64)) x3036), (1, .dat (.list (.int .i64)) x3037), (5, .dat (.int .i64) 0)], []⟩ : St) (laws_sameInts_n5 x3036 x3037) (Sum.elim (fun (t : Unit) => (Exit.normal, (⟨mkE 26 0 [], []⟩ : St))) (fun (t : Bool) => (Exit.ret, (⟨mkE 26 0 [(4, .dat .bool t)], []⟩ : St)))) := by
  unfold laws_sameInts_n5
  exact Link.cast (by kernel_rfl) (by kernel_rfl) (link_block (id := 0) (laws_sameInts_n4_l x3036 x3037) (Sum.elim (fun (t : Bool) => (Sum.inr t)) (fun (t : Unit) => (Sum.inl ()))) (by
  rintro (t | t) K h
  · exact Eq.mp (by kernel_rfl) h
  · exact Eq.mp (by kernel_rfl) h))

theorem laws_sameInts_n6_l (x3036 : List Int) (x3037 : List Int) : Link laws_sameInts_ctx LL (Code.fst (Code.snd (Code.snd (bodyOf Tryd.f9)))) (Ann.fst (Ann.snd (Ann.snd laws_sameInts_an))) (⟨mkE 26 0 [(0, .dat (.list (.int .i64)) x3036), (1, .dat (.list (.int .i64)) x3037)], []⟩ : St) (laws_sameInts_n6 x3036 x3037) (Sum.elim (fun (t : Unit) => (Exit.normal, (⟨mkE 26 0 [], []⟩ : St))) (fun (t : Bool) => (Exit.ret, (⟨mkE 26 0 [(4, .dat .bool t)], []⟩ : St)))) := by
  unfold laws_sameInts_n6
  exact Link.cast (by kernel_rfl) (by kernel_rfl) (link_seq (b := (Code.snd (Code.fst (Code.snd (Code.snd (bodyOf Tryd.f9)))))) (y := (Ann.snd (Ann.fst (Ann.snd (Ann.snd laws_sameInts_an))))) (laws_sameInts_n2_l x3036 x3037) (fun (t : Unit) => (laws_sameInts_n5_l x3036 x3037)))

theorem laws_sameInts_n7_l : Link laws_sameInts_ctx LL (Code.snd (Code.snd (Code.snd (bodyOf Tryd.f9)))) (Ann.snd (Ann.snd (Ann.snd laws_sameInts_an))) (⟨mkE 26 0 [], []⟩ : St) (laws_sameInts_n7) (fun (t : Bool) => (Exit.ret, (⟨mkE 26 0 [(4, .dat .bool t)], []⟩ : St))) := by
  refine Link.of fun K h => ?_
  simp only [laws_sameInts_n7, wpO_bind, wpO_cond, wpO_map, wpO_some] at h
  exact Awp.of (by kernel_rfl) h

theorem laws_sameInts_n8_l (x3036 : List Int) (x3037 : List Int) : Link laws_sameInts_ctx LL (Code.snd (Code.snd (bodyOf Tryd.f9))) (Ann.snd (Ann.snd laws_sameInts_an)) (⟨mkE 26 0 [(0, .dat (.list (.int .i64)) x3036), (1, .dat (.list (.int .i64)) x3037)], []⟩ : St) (laws_sameInts_n8 x3036 x3037) (fun (t : Bool) => (Exit.ret, (⟨mkE 26 0 [(4, .dat .bool t)], []⟩ : St))) := by
  unfold laws_sameInts_n8
  exact Link.cast (by kernel_rfl) (by kernel_rfl) (link_seq2 (b := (Code.snd (Code.snd (Code.snd (bodyOf Tryd.f9))))) (y := (Ann.snd (Ann.snd (Ann.snd laws_sameInts_an)))) (laws_sameInts_n6_l x3036 x3037) (fun (t : Unit) => (laws_sameInts_n7_l)) (fun (t : Bool) => t) (by
  rintro t
  · kernel_rfl) (by
  rintro t f K h
  · exact h))

theorem laws_sameInts_n9_l (x3036 : List Int) (x3037 : List Int) : Link laws_sameInts_ctx LL (bodyOf Tryd.f9) laws_sameInts_an (⟨mkE 26 0 [(0, .dat (.list (.int .i64)) x3036), (1, .dat (.list (.int .i64)) x3037)], []⟩ : St) (laws_sameInts_n9 x3036 x3037) (fun (t : Bool) => (Exit.ret, (⟨mkE 26 0 [(4, .dat .bool t)], []⟩ : St))) := by
  unfold laws_sameInts_n9
  exact Link.cast (by kernel_rfl) (by kernel_rfl) (link_group (c := (Code.fst (Code.snd (bodyOf Tryd.f9)))) (a := (Ann.fst (Ann.snd laws_sameInts_an))) [(Code.fst (bodyOf Tryd.f9))] [(Ann.fst laws_sameInts_an)] rfl (link_seq2 (b := (Code.snd (Code.snd (bodyOf Tryd.f9)))) (y := (Ann.snd (Ann.snd laws_sameInts_an))) (laws_sameInts_n1_l x3036 x3037) (fun (t : Unit) => (laws_sameInts_n8_l x3036 x3037)) (fun (t : Bool) => t) (by
  rintro t
  · kernel_rfl) (by
  rintro t f K h
  · exact h)))

theorem laws_sameInts_e (x3036 : List Int) (x3037 : List Int) {r : AV} {H' : Heap} (h : (Ans.mk _ (laws_sameInts x3036 x3037) (fun (t : Bool) => (.dat .bool t, [])) [] none).run = some (r, H')) : Awp laws_sameInts_ctx LL (bodyOf Tryd.f9) laws_sameInts_an (⟨mkE 26 0 [(0, .dat (.list (.int .i64)) x3036), (1, .dat (.list (.int .i64)) x3037)], []⟩ : St) (Ret (tlook tys) Tryd.f9.results.toList r H') :=
  ret_of' (laws_sameInts_n9_l x3036 x3037) (by unfold laws_sameInts; kernel_rfl) (by
  intro t
  exact ret_mk [.dat .bool t] (by kernel_rfl) (by kernel_rfl) (by kernel_rfl) (by kernel_rfl)) h

def F_laws_sameInts : Fun := fun avs H =>
  match avs, H with
  | [.dat (.list (.int .i64)) x3036, .dat (.list (.int .i64)) x3037], [] => ⟨_, laws_sameInts x3036 x3037, fun (t : Bool) => (.dat .bool t, []), [], none⟩
  | _, _ => Ans.no

theorem laws_sameInts_sound : Sound Tryd.prog 9 F_laws_sameInts := by
  refine fn_sound' (C := laws_sameInts_ctx) (c := bodyOf Tryd.f9) (cok_of tys_ok (by simp) (by simp) (by kernel_rfl)) Tryd.func9 (by kernel_rfl) LL laws_sameInts_an ?_
  intro avs H r H' h
  unfold F_laws_sameInts at h
  split at h
  · refine Awp.cast ?_ ?_ ?_ (laws_sameInts_e _ _ h) <;> kernel_rfl
  · simp [Ans.no, Ans.run] at h

/-! loop.example/headtrees/impl.oneRoot -/

def impl_oneRoot_an : Ann := (.seq (.leaf [0]) (.seq (.leaf [0, 3]) (.seq (.seq (.leaf [0, 3, 6, 7, 8]) (.block (.loop (.seq (.leaf [0, 3, 6, 7, 8, 9]) (.seq (.cond (.leaf [0, 3, 6, 7, 8]) (.leaf [3])) (.seq (.block (.seq (.leaf [0, 3, 5, 6, 7, 8]) (.seq (.seq (.leaf [0, 3, 5, 6, 7, 8, 19]) (.cond (.seq (.leaf [2]) (.leaf [2])) (.leaf [0, 3, 5, 6, 7, 8]))) (.seq (.leaf [0, 3, 6, 7, 8, 21]) (.cond (.leaf [0, 3, 6, 7, 8]) (.leaf [0, 3, 6, 7, 8])))))) (.leaf [0, 3, 6, 7, 8]))))))) (.seq (.leaf [2]) (.leaf [2])))))

noncomputable def impl_oneRoot_ctx : Ctx := ⟨tlook tys, olook [], ioF, 0, false, []⟩

theorem impl_oneRoot_n1_l (x3095 : List Int) : Link impl_oneRoot_ctx LL (Code.seq (Code.fst (bodyOf Tryd.f34)) (Code.fst (Code.snd (bodyOf Tryd.f34)))) (Ann.seq (Ann.fst impl_oneRoot_an) (Ann.fst (Ann.snd impl_oneRoot_an))) (⟨mkE 27 0 [(0, .dat (.list (.int .i64)) x3095)], []⟩ : St) (impl_oneRoot_n1) (fun (t : Unit) => (Exit.normal, (⟨mkE 27 0 [(0, .dat (.list (.int .i64)) x3095), (3, .dat (.int .i64) 0)], []⟩ : St))) := by
  refine Link.of fun K h => ?_
  simp only [impl_oneRoot_n1, wpO_bind, wpO_cond, wpO_map, wpO_some] at h
  exact Awp.of (by kernel_rfl) h

theorem impl_oneRoot_n2_l (x3095 : List Int) : Link impl_oneRoot_ctx LL (Code.fst (Code.fst (Code.snd (Code.snd (bodyOf Tryd.f34))))) (Ann.fst (Ann.fst (Ann.snd (Ann.snd impl_oneRoot_an)))) (⟨mkE 27 0 [(0, .dat (.list (.int .i64)) x3095), (3, .dat (.int .i64) 0)], []⟩ : St) (impl_oneRoot_n2 x3095) (fun (t : Int) => (Exit.normal, (⟨mkE 27 0 [(0, .dat (.list (.int .i64)) x3095), (3, .dat (.int .i64) 0), (6, .dat (.list (.int .i64)) x3095), (7, .dat (.int .i64) t), (8, .dat (.int .i64) 0)], []⟩ : St))) := by
  refine Link.of fun K h => ?_
  simp only [impl_oneRoot_n2, wpO_bind, wpO_cond, wpO_map, wpO_some] at h
  exact Awp.of (by kernel_rfl) h

theorem impl_oneRoot_n3_l (x3095 : List Int) (x3117 : Int) (x3096 : Int) (x3118 : Int) : Link impl_oneRoot_ctx LL (Code.fst (Code.fst (Code.snd (Code.fst (Code.snd (Code.snd (bodyOf Tryd.f34))))))) (Ann.fst (Ann.fst (Ann.snd (Ann.fst (Ann.snd (Ann.snd impl_oneRoot_an)))))) (⟨mkE 27 0 [(0, .dat (.list (.int .i64)) x3095), (3, .dat (.int .i64) x3117), (6, .dat (.list (.int .i64)) x3095), (7, .dat (.int .i64) x3096), (8, .dat (.int .i64) x3118)], []⟩ : St) (impl_oneRoot_n3 x3095 x3117 x3096 x3118) (Sum.elim (fun (t : Int × Int) => (Exit.normal, (⟨mkE 27 0 [(0, .dat (.list (.int .i64)) x3095), (3, .dat (.int .i64) t.1), (6, .dat (.list (.int .i64)) x3095), (7, .dat (.int .i64) x3096), (8, .dat (.int .i64) t.2)], []⟩ : St))) (Sum.elim (fun (t : Bool) => (Exit.ret, (⟨mkE 27 0 [(2, .dat .bool t)], []⟩ : St))) (fun (t : Int) => ((Exit.exit 0), (⟨mkE 27 0 [(3, .dat (.int .i64) t)], []⟩ : St))))) := by
  refine Link.of fun K h => ?_
  simp only [impl_oneRoot_n3, wpO_bind, wpO_cond, wpO_map, wpO_some] at h
  exact Awp.of (by kernel_rfl) h

theorem impl_oneRoot_n4_l (x3095 : List Int) (x3096 : Int) : Link impl_oneRoot_ctx LL (Code.fst (Code.snd (Code.fst (Code.snd (Code.snd (bodyOf Tryd.f34)))))) (Ann.fst (Ann.snd (Ann.fst (Ann.snd (Ann.snd impl_oneRoot_an))))) (⟨mkE 27 0 [(0, .dat (.list (.int .i64)) x3095), (3, .dat (.int .i64) 0), (6, .dat (.list (.int .i64)) x3095), (7, .dat (.int .i64) x3096), (8, .dat (.int .i64) 0)], []⟩ : St) (impl_oneRoot_n4 x3095 x3096) (Sum.elim (fun (t : Bool) => (Exit.ret, (⟨mkE 27 0 [(2, .dat .bool t)], []⟩ : St))) (fun (t : Int) => ((Exit.exit 0), (⟨mkE 27 0 [(3, .dat (.int .i64) t)], []⟩ : St)))) := by
  unfold impl_oneRoot_n4
  exact Link.cast (by kernel_rfl) (by kernel_rfl) (link_loop (mk := fun (s : Int × Int) => (⟨mkE 27 0 [(0, .dat (.list (.int .i64)) x3095), (3, .dat (.int .i64) s.1), (6, .dat (.list (.int .i64)) x3095), (7, .dat (.int .i64) x3096), (8, .dat (.int .i64) s.2)], []⟩ : St)) (fin := (Sum.elim (fun (t : Bool) => (Exit.ret, (⟨mkE 27 0 [(2, .dat .bool t)], []⟩ : St))) (fun (t : Int) => ((Exit.exit 0), (⟨mkE 27 0 [(3, .dat (.int .i64) t)], []⟩ : St))))) (by
  rintro (t | t) f K h
  · exact h
  · exact h) (fun s => link_map (impl_oneRoot_n3_l x3095 s.1 x3096 s.2) (Sum.elim (fun (t : Int × Int) => Sum.inl (t.1, t.2)) (Sum.elim (fun (t : Bool) => Sum.inr (Sum.inl t)) (fun (t : Int) => Sum.inr (Sum.inr t)))) (by
  rintro (t | t | t)
  · kernel_rfl
  · kernel_rfl
  · kernel_rfl)) (0, 0))

theorem impl_oneRoot_n5_l (x3095 : List Int) (x3096 : Int) : Link impl_oneRoot_ctx LL (Code.snd (Code.fst (Code.snd (Code.snd (bodyOf Tryd.f34))))) (Ann.snd (Ann.fst (Ann.snd (Ann.snd impl_oneRoot_an)))) (⟨mkE 27 0 [(0, .dat (.list (.int .i64)) x3095), (3, .dat (.int .i64) 0), (6, .dat (.list (.int .i64)) x3095), (7, .dat (.int .i64) x3096), (8, .dat (.int .i64) 0)], []⟩ : St) (impl_oneRoot_n5 x3095 x3096) (Sum.elim (fun (t : Int) => (Exit.normal, (⟨mkE 27 0 [(3, .dat (.int .i64) t)], []⟩ : St))) (fun (t : Bool) => (Exit.ret, (⟨mkE 27 0 [(2, .dat .bool t)], []⟩ : St)))) := by
  unfold impl_oneRoot_n5
  exact Link.cast (by kernel_rfl) (by kernel_rfl) (link_block (id := 0) (impl_oneRoot_n4_l x3095 x3096) (Sum.elim (fun (t : Bool) => (Sum.inr t)) (fun (t : Int) => (Sum.inl t))) (by
  rintro (t | t) K h
  · exact Eq.mp (by kernel_rfl) h
  · exact Eq.mp (by kernel_rfl) h))

theorem impl_oneRoot_n6_l (x3095 : List Int) : Link impl_oneRoot_ctx LL (Code.fst (Code.snd (Code.snd (bodyOf Tryd.f34)))) (Ann.fst (Ann.snd (Ann.snd impl_oneRoot_an))) (⟨mkE 27 0 [(0, .dat (.list (.int .i64)) x3095), (3, .dat (.int .i64) 0)], []⟩ : St) (impl_oneRoot_n6 x3095) (Sum.elim (fun (t : Int) => (Exit.normal, (⟨mkE 27 0 [(3, .dat (.int .i64) t)], []⟩ : St))) (fun (t : Bool) => (Exit.ret, (⟨mkE 27 0 [(2, .dat .bool t)], []⟩ : St)))) := by
  unfold impl_oneRoot_n6
  exact Link.cast (by kernel_rfl) (by kernel_rfl) (link_seq (b := (Code.snd (Code.fst (Code.snd (Code.snd (bodyOf Tryd.f34)))))) (y := (Ann.snd (Ann.fst (Ann.snd (Ann.snd impl_oneRoot_an))))) (impl_oneRoot_n2_l x3095) (fun (t : Int) => (impl_oneRoot_n5_l x3095 t)))

theorem impl_oneRoot_n7_l (x3117 : Int) : Link impl_oneRoot_ctx LL (Code.snd (Code.snd (Code.snd (bodyOf Tryd.f34)))) (Ann.snd (Ann.snd (Ann.snd impl_oneRoot_an))) (⟨mkE 27 0 [(3, .dat (.int .i64) x3117)], []⟩ : St) (impl_oneRoot_n7 x3117) (fun (t : Bool) => (Exit.ret, (⟨mkE 27 0 [(2, .dat .bool t)], []⟩ : St))) := by
  refine Link.of fun K h => ?_
  simp only [impl_oneRoot_n7, wpO_bind, wpO_cond, wpO_map, wpO_some] at h
  exact Awp.of (by kernel_rfl) h

theorem impl_oneRoot_n8_l (x3095 : List Int) : Link impl_oneRoot_ctx LL (Code.snd (Code.snd (bodyOf Tryd.f34))) (Ann.snd (Ann.snd impl_oneRoot_an)) (⟨mkE 27 0 [(0, .dat (.list (.int .i64)) x3095), (3, .dat (.int .i64) 0)], []⟩ : St) (impl_oneRoot_n8 x3095) (fun (t : Bool) => (Exit.ret, (⟨mkE 27 0 [(2, .dat .bool t)], []⟩ : St))) := by
  unfold impl_oneRoot_n8
  exact Link.cast (by kernel_rfl) (by kernel_rfl) (link_seq2 (b := (Code.snd (Code.snd (Code.snd (bodyOf Tryd.f34))))) (y := (Ann.snd (Ann.snd (Ann.snd impl_oneRoot_an)))) (impl_oneRoot_n6_l x3095) (fun (t : Int) => (impl_oneRoot_n7_l t)) (fun (t : Bool) => t) (by
  rintro t
  · kernel_rfl) (by
  rintro t f K h
  · exact h))

theorem impl_oneRoot_n9_l (x3095 : List Int) : Link impl_oneRoot_ctx LL (bodyOf Tryd.f34) impl_oneRoot_an (⟨mkE 27 0 [(0, .dat (.list (.int .i64)) x3095)], []⟩ : St) (impl_oneRoot_n9 x3095) (fun (t : Bool) => (Exit.ret, (⟨mkE 27 0 [(2, .dat .bool t)], []⟩ : St))) := by
  unfold impl_oneRoot_n9
  exact Link.cast (by kernel_rfl) (by kernel_rfl) (link_group (c := (Code.fst (Code.snd (bodyOf Tryd.f34)))) (a := (Ann.fst (Ann.snd impl_oneRoot_an))) [(Code.fst (bodyOf Tryd.f34))] [(Ann.fst impl_oneRoot_an)] rfl (link_seq (b := (Code.snd (Code.snd (bodyOf Tryd.f34)))) (y := (Ann.snd (Ann.snd impl_oneRoot_an))) (impl_oneRoot_n1_l x3095) (fun (t : Unit) => (impl_oneRoot_n8_l x3095))))

theorem impl_oneRoot_e (x3095 : List Int) {r : AV} {H' : Heap} (h : (Ans.mk _ (impl_oneRoot x3095) (fun (t : Bool) => (.dat .bool t, [])) [] none).run = some (r, H')) : Awp impl_oneRoot_ctx LL (bodyOf Tryd.f34) impl_oneRoot_an (⟨mkE 27 0 [(0, .dat (.list (.int .i64)) x3095)], []⟩ : St) (Ret (tlook tys) Tryd.f34.results.toList r H') :=
  ret_of' (impl_oneRoot_n9_l x3095) (by unfold impl_oneRoot; kernel_rfl) (by
  intro t
  exact ret_mk [.dat .bool t] (by kernel_rfl) (by kernel_rfl) (by kernel_rfl) (by kernel_rfl)) h

def F_impl_oneRoot : Fun := fun avs H =>
  match avs, H with
  | [.dat (.list (.int .i64)) x3095], [] => ⟨_, impl_oneRoot x3095, fun (t : Bool) => (.dat .bool t, []), [], none⟩
  | _, _ => Ans.no

theorem impl_oneRoot_sound : Sound Tryd.prog 34 F_impl_oneRoot := by
  refine fn_sound' (C := impl_oneRoot_ctx) (c := bodyOf Tryd.f34) (cok_of tys_ok (by simp) (by simp) (by kernel_rfl)) Tryd.func34 (by kernel_rfl) LL impl_oneRoot_an ?_
  intro avs H r H' h
  unfold F_impl_oneRoot at h
  split at h
  · refine Awp.cast ?_ ?_ ?_ (impl_oneRoot_e _ h) <;> kernel_rfl
  · simp [Ans.no, Ans.run] at h

/-! (*loop.example/headtrees/impl.walker).up -/

def impl_walker_up_an : Ann := (.seq (.leaf [0]) (.seq (.draw [] [0, 1, 2, 3, 4, 5, 6, 7, 8, 9, 10, 11] [] [0, 3]) (.seq (.seq (.leaf [0, 3, 16]) (.cond (.seq (.leaf [2]) (.leaf [2])) (.leaf [0, 3]))) (.seq (.leaf [0]) (.seq (.leaf []) (.seq (.leaf [2]) (.leaf [2])))))))

noncomputable def impl_walker_up_ctx : Ctx := ⟨tlook tys, olook [], ioF, 1, false, []⟩

theorem impl_walker_up_n1_l (x3151 : List Int) (x3152 : Int) (x3153 : Int) : Link impl_walker_up_ctx LL (bodyOf Tryd.f50) impl_walker_up_an (⟨mkE 28 0 [(0, .ptr 0 0)], [some (.box [.dat (.list (.int .i64)) x3151, .dat (.int .i64) x3152, .dat (.int .i64) x3153])]⟩ : St) (impl_walker_up_n1 x3151 x3152 x3153) (fun (t : Bool × Int × Int) => (Exit.ret, (⟨mkE 28 0 [(2, .dat .bool t.1)], [some (.box [.dat (.list (.int .i64)) x3151, .dat (.int .i64) t.2.1, .dat (.int .i64) t.2.2])]⟩ : St))) := by
  refine Link.of fun K h => ?_
  simp only [impl_walker_up_n1, wpO_bind, wpO_cond, wpO_map, wpO_some] at h
  exact Awp.of (by kernel_rfl) h

theorem impl_walker_up_e (x3151 : List Int) (x3152 : Int) (x3153 : Int) {r : AV} {H' : Heap} (h : (Ans.mk _ (impl_walker_up x3151 x3152 x3153) (fun (t : Bool × Int × Int) => (.dat .bool t.1, [some (.box [.dat (.list (.int .i64)) x3151, .dat (.int .i64) t.2.1, .dat (.int .i64) t.2.2])])) [] none).run = some (r, H')) : Awp impl_walker_up_ctx LL (bodyOf Tryd.f50) impl_walker_up_an (⟨mkE 28 0 [(0, .ptr 0 0)], [some (.box [.dat (.list (.int .i64)) x3151, .dat (.int .i64) x3152, .dat (.int .i64) x3153])]⟩ : St) (Ret (tlook tys) Tryd.f50.results.toList r H') :=
  ret_of' (impl_walker_up_n1_l x3151 x3152 x3153) (by unfold impl_walker_up; kernel_rfl) (by
  intro t
  exact ret_mk [.dat .bool t.1] (by kernel_rfl) (by kernel_rfl) (by kernel_rfl) (by kernel_rfl)) h

def F_impl_walker_up : Fun := fun avs H =>
  match avs, H with
  | [.ptr 0 0], [some (.box [.dat (.list (.int .i64)) x3151, .dat (.int .i64) x3152, .dat (.int .i64) x3153])] => ⟨_, impl_walker_up x3151 x3152 x3153, fun (t : Bool × Int × Int) => (.dat .bool t.1, [some (.box [.dat (.list (.int .i64)) x3151, .dat (.int .i64) t.2.1, .dat (.int .i64) t.2.2])]), [], none⟩
  | _, _ => Ans.no

theorem impl_walker_up_sound : Sound Tryd.prog 50 F_impl_walker_up := by
  refine fn_sound' (C := impl_walker_up_ctx) (c := bodyOf Tryd.f50) (cok_of tys_ok (by simp) (by simp) (by kernel_rfl)) Tryd.func50 (by kernel_rfl) LL impl_walker_up_an ?_
  intro avs H r H' h
  unfold F_impl_walker_up at h
  split at h
  · refine Awp.cast ?_ ?_ ?_ (impl_walker_up_e _ _ _ h) <;> kernel_rfl
  · simp [Ans.no, Ans.run] at h

/-! loop.example/headtrees/impl.stepsToRoot -/

def impl_stepsToRoot_an : Ann := (.seq (.leaf [0, 1]) (.seq (.leaf [0, 6]) (.seq (.block (.loop (.seq (.seq (.leaf [0, 6, 10]) (.cond (.leaf [0, 6]) (.leaf [6]))) (.block (.seq (.leaf [0, 6, 15]) (.cond (.seq (.leaf [4, 5]) (.leaf [4, 5])) (.leaf [0, 6]))))))) (.seq (.leaf [4, 5]) (.leaf [4, 5])))))

noncomputable def impl_stepsToRoot_ctx : Ctx := ⟨tlook tys, olook [(50, F_impl_walker_up)], ioF, 0, false, []⟩

theorem impl_stepsToRoot_n1_l (x3149 : List Int) (x3150 : Int) : Link impl_stepsToRoot_ctx LL (Code.seq (Code.fst (bodyOf Tryd.f35)) (Code.fst (Code.snd (bodyOf Tryd.f35)))) (Ann.seq (Ann.fst impl_stepsToRoot_an) (Ann.fst (Ann.snd impl_stepsToRoot_an))) (⟨mkE 18 0 [(0, .dat (.list (.int .i64)) x3149), (1, .dat (.int .i64) x3150)], []⟩ : St) (impl_stepsToRoot_n1) (fun (t : Unit) => (Exit.normal, (⟨mkE 18 0 [(0, .dat (.list (.int .i64)) x3149), (6, .ptr 0 0)], [some (.box [.dat (.list (.int .i64)) x3149, .dat (.int .i64) x3150, .dat (.int .i64) 0])]⟩ : St))) := by
  refine Link.of fun K h => ?_
  simp only [impl_stepsToRoot_n1, wpO_bind, wpO_cond, wpO_map, wpO_some] at h
  exact Awp.of (by kernel_rfl) h

theorem impl_stepsToRoot_n2_l (x3149 : List Int) (x3187 : Int) (x3188 : Int) : Link impl_stepsToRoot_ctx LL (Code.fst (Code.fst (Code.fst (Code.snd (Code.snd (bodyOf Tryd.f35)))))) (Ann.fst (Ann.fst (Ann.fst (Ann.snd (Ann.snd impl_stepsToRoot_an))))) (⟨mkE 18 0 [(0, .dat (.list (.int .i64)) x3149), (6, .ptr 0 0)], [some (.box [.dat (.list (.int .i64)) x3149, .dat (.int .i64) x3187, .dat (.int .i64) x3188])]⟩ : St) (impl_stepsToRoot_n2 x3149 x3187 x3188) (Sum.elim (fun (t : Int × Int) => (Exit.normal, (⟨mkE 18 0 [(0, .dat (.list (.int .i64)) x3149), (6, .ptr 0 0)], [some (.box [.dat (.list (.int .i64)) x3149, .dat (.int .i64) t.1, .dat (.int .i64) t.2])]⟩ : St))) (Sum.elim (fun (t : Int × Bool) => (Exit.ret, (⟨mkE 18 0 [(4, .dat (.int .i64) t.1), (5, .dat .bool t.2)], []⟩ : St))) (fun (t : Int × Int) => ((Exit.exit 0), (⟨mkE 18 0 [(6, .ptr 0 0)], [some (.box [.dat (.list (.int .i64)) x3149, .dat (.int .i64) t.1, .dat (.int .i64) t.2])]⟩ : St))))) := by
  refine Link.of fun K h => ?_
  simp only [impl_stepsToRoot_n2, wpO_bind, wpO_cond, wpO_map, wpO_some] at h
  exact Awp.of (by kernel_rfl) h

theorem impl_stepsToRoot_n3_l (x3149 : List Int) (x3150 : Int) : Link impl_stepsToRoot_ctx LL (Code.fst (Code.fst (Code.snd (Code.snd (bodyOf Tryd.f35))))) (Ann.fst (Ann.fst (Ann.snd (Ann.snd impl_stepsToRoot_an)))) (⟨mkE 18 0 [(0, .dat (.list (.int .i64)) x3149), (6, .ptr 0 0)], [some (.box [.dat (.list (.int .i64)) x3149, .dat (.int .i64) x3150, .dat (.int .i64) 0])]⟩ : St) (impl_stepsToRoot_n3 x3149 x3150) (Sum.elim (fun (t : Int × Bool) => (Exit.ret, (⟨mkE 18 0 [(4, .dat (.int .i64) t.1), (5, .dat .bool t.2)], []⟩ : St))) (fun (t : Int × Int) => ((Exit.exit 0), (⟨mkE 18 0 [(6, .ptr 0 0)], [some (.box [.dat (.list (.int .i64)) x3149, .dat (.int .i64) t.1, .dat (.int .i64) t.2])]⟩ : St)))) := by
  unfold impl_stepsToRoot_n3
  exact Link.cast (by kernel_rfl) (by kernel_rfl) (link_loop (mk := fun (s : Int × Int) => (⟨mkE 18 0 [(0, .dat (.list (.int .i64)) x3149), (6, .ptr 0 0)], [some (.box [.dat (.list (.int .i64)) x3149, .dat (.int .i64) s.1, .dat (.int .i64) s.2])]⟩ : St)) (fin := (Sum.elim (fun (t : Int × Bool) => (Exit.ret, (⟨mkE 18 0 [(4, .dat (.int .i64) t.1), (5, .dat .bool t.2)], []⟩ : St))) (fun (t : Int × Int) => ((Exit.exit 0), (⟨mkE 18 0 [(6, .ptr 0 0)], [some (.box [.dat (.list (.int .i64)) x3149, .dat (.int .i64) t.1, .dat (.int .i64) t.2])]⟩ : St))))) (by
  rintro (t | t) f K h
  · exact h
  · exact h) (fun s => link_map (impl_stepsToRoot_n2_l x3149 s.1 s.2) (Sum.elim (fun (t : Int × Int) => Sum.inl (t.1, t.2)) (Sum.elim (fun (t : Int × Bool) => Sum.inr (Sum.inl t)) (fun (t : Int × Int) => Sum.inr (Sum.inr t)))) (by
  rintro (t | t | t)
  · kernel_rfl
  · kernel_rfl
  · kernel_rfl)) (x3150, 0))

theorem impl_stepsToRoot_n4_l (x3149 : List Int) (x3150 : Int) : Link impl_stepsToRoot_ctx LL (Code.fst (Code.snd (Code.snd (bodyOf Tryd.f35)))) (Ann.fst (Ann.snd (Ann.snd impl_stepsToRoot_an))) (⟨mkE 18 0 [(0, .dat (.list (.int .i64)) x3149), (6, .ptr 0 0)], [some (.box [.dat (.list (.int .i64)) x3149, .dat (.int .i64) x3150, .dat (.int .i64) 0])]⟩ : St) (impl_stepsToRoot_n4 x3149 x3150) (Sum.elim (fun (t : Int × Int) => (Exit.normal, (⟨mkE 18 0 [(6, .ptr 0 0)], [some (.box [.dat (.list (.int .i64)) x3149, .dat (.int .i64) t.1, .dat (.int .i64) t.2])]⟩ : St))) (fun (t : Int × Bool) => (Exit.ret, (⟨mkE 18 0 [(4, .dat (.int .i64) t.1), (5, .dat .bool t.2)], []⟩ : St)))) := by
  unfold impl_stepsToRoot_n4
  exact Link.cast (by kernel_rfl) (by kernel_rfl) (link_block (id := 0) (impl_stepsToRoot_n3_l x3149 x3150) (Sum.elim (fun (t : Int × Bool) => (Sum.inr t)) (fun (t : Int × Int) => (Sum.inl (t.1, t.2)))) (by
  rintro (t | t) K h
  · exact Eq.mp (by kernel_rfl) h
  · exact Eq.mp (by kernel_rfl) h))

theorem impl_stepsToRoot_n5_l (x3149 : List Int) (x3195 : Int) (x3196 : Int) : Link impl_stepsToRoot_ctx LL (Code.snd (Code.snd (Code.snd (bodyOf Tryd.f35)))) (Ann.snd (Ann.snd (Ann.snd impl_stepsToRoot_an))) (⟨mkE 18 0 [(6, .ptr 0 0)], [some (.box [.dat (.list (.int .i64)) x3149, .dat (.int .i64) x3195, .dat (.int .i64) x3196])]⟩ : St) (impl_stepsToRoot_n5 x3196) (fun (t : Int × Bool) => (Exit.ret, (⟨mkE 18 0 [(4, .dat (.int .i64) t.1), (5, .dat .bool t.2)], []⟩ : St))) := by
  refine Link.of fun K h => ?_
  simp only [impl_stepsToRoot_n5, wpO_bind, wpO_cond, wpO_map, wpO_some] at h
  exact Awp.of (by kernel_rfl) h

theorem impl_stepsToRoot_n6_l (x3149 : List Int) (x3150 : Int) : Link impl_stepsToRoot_ctx LL (Code.snd (Code.snd (bodyOf Tryd.f35))) (Ann.snd (Ann.snd impl_stepsToRoot_an)) (⟨mkE 18 0 [(0, .dat (.list (.int .i64)) x3149), (6, .ptr 0 0)], [some (.box [.dat (.list (.int .i64)) x3149, .dat (.int .i64) x3150, .dat (.int .i64) 0])]⟩ : St) (impl_stepsToRoot_n6 x3149 x3150) (fun (t : Int × Bool) => (Exit.ret, (⟨mkE 18 0 [(4, .dat (.int .i64) t.1), (5, .dat .bool t.2)], []⟩ : St))) := by
  unfold impl_stepsToRoot_n6
  exact Link.cast (by kernel_rfl) (by kernel_rfl) (link_seq2 (b := (Code.snd (Code.snd (Code.snd (bodyOf Tryd.f35))))) (y := (Ann.snd (Ann.snd (Ann.snd impl_stepsToRoot_an)))) (impl_stepsToRoot_n4_l x3149 x3150) (fun (t : Int × Int) => (impl_stepsToRoot_n5_l x3149 t.1 t.2)) (fun (t : Int × Bool) => t) (by
  rintro t
  · kernel_rfl) (by
  rintro t f K h
  · exact h))

theorem impl_stepsToRoot_n7_l (x3149 : List Int) (x3150 : Int) : Link impl_stepsToRoot_ctx LL (bodyOf Tryd.f35) impl_stepsToRoot_an (⟨mkE 18 0 [(0, .dat (.list (.int .i64)) x3149), (1, .dat (.int .i64) x3150)], []⟩ : St) (impl_stepsToRoot_n7 x3149 x3150) (fun (t : Int × Bool) => (Exit.ret, (⟨mkE 18 0 [(4, .dat (.int .i64) t.1), (5, .dat .bool t.2)], []⟩ : St))) := by
  unfold impl_stepsToRoot_n7
  exact Link.cast (by kernel_rfl) (by kernel_rfl) (link_group (c := (Code.fst (Code.snd (bodyOf Tryd.f35)))) (a := (Ann.fst (Ann.snd impl_stepsToRoot_an))) [(Code.fst (bodyOf Tryd.f35))] [(Ann.fst impl_stepsToRoot_an)] rfl (link_seq (b := (Code.snd (Code.snd (bodyOf Tryd.f35)))) (y := (Ann.snd (Ann.snd impl_stepsToRoot_an))) (impl_stepsToRoot_n1_l x3149 x3150) (fun (t : Unit) => (impl_stepsToRoot_n6_l x3149 x3150))))

theorem impl_stepsToRoot_e (x3149 : List Int) (x3150 : Int) {r : AV} {H' : Heap} (h : (Ans.mk _ (impl_stepsToRoot x3149 x3150) (fun (t : Int × Bool) => (.tup [.dat (.int .i64) t.1, .dat .bool t.2], [])) [] none).run = some (r, H')) : Awp impl_stepsToRoot_ctx LL (bodyOf Tryd.f35) impl_stepsToRoot_an (⟨mkE 18 0 [(0, .dat (.list (.int .i64)) x3149), (1, .dat (.int .i64) x3150)], []⟩ : St) (Ret (tlook tys) Tryd.f35.results.toList r H') :=
  ret_of' (impl_stepsToRoot_n7_l x3149 x3150) (by unfold impl_stepsToRoot; kernel_rfl) (by
  intro t
  exact ret_mk [.dat (.int .i64) t.1, .dat .bool t.2] (by kernel_rfl) (by kernel_rfl) (by kernel_rfl) (by kernel_rfl)) h

def F_impl_stepsToRoot : Fun := fun avs H =>
  match avs, H with
  | [.dat (.list (.int .i64)) x3149, .dat (.int .i64) x3150], [] => ⟨_, impl_stepsToRoot x3149 x3150, fun (t : Int × Bool) => (.tup [.dat (.int .i64) t.1, .dat .bool t.2], []), [], none⟩
  | _, _ => Ans.no

theorem impl_stepsToRoot_sound : Sound Tryd.prog 35 F_impl_stepsToRoot := by
  refine fn_sound' (C := impl_stepsToRoot_ctx) (c := bodyOf Tryd.f35) (cok_of tys_ok (List.forall_mem_cons.2 ⟨impl_walker_up_sound, by simp⟩) (List.forall_mem_cons.2 ⟨Tryd.call50, by simp⟩) (by kernel_rfl)) Tryd.func35 (by kernel_rfl) LL impl_stepsToRoot_an ?_
  intro avs H r H' h
  unfold F_impl_stepsToRoot at h
  split at h
  · refine Awp.cast ?_ ?_ ?_ (impl_stepsToRoot_e _ _ h) <;> kernel_rfl
  · simp [Ans.no, Ans.run] at h

/-! loop.example/headtrees/impl.TreeOk -/

def impl_TreeOk_an : Ann := (.seq (.leaf [0]) (.seq (.seq (.leaf [0, 18]) (.cond (.seq (.leaf [2]) (.leaf [2])) (.leaf [0]))) (.seq (.seq (.leaf [0, 20, 21]) (.block (.loop (.seq (.leaf [0, 20, 21, 22]) (.seq (.cond (.leaf [0, 20, 21]) (.leaf [])) (.seq (.block (.seq (.leaf [0, 3, 20, 21]) (.seq (.leaf [0, 5, 20, 21]) (.seq (.leaf [0, 20, 21, 32]) (.cond (.seq (.leaf [2]) (.leaf [2])) (.leaf [0, 20, 21])))))) (.leaf [0, 20, 21]))))))) (.seq (.leaf [2]) (.leaf [2])))))

noncomputable def impl_TreeOk_ctx : Ctx := ⟨tlook tys, olook [(34, F_impl_oneRoot), (35, F_impl_stepsToRoot)], ioF, 0, false, []⟩

theorem impl_TreeOk_n1_l (x3090 : List Int) : Link impl_TreeOk_ctx LL (Code.seq (Code.fst (bodyOf Tryd.f23)) (Code.fst (Code.snd (bodyOf Tryd.f23)))) (Ann.seq (Ann.fst impl_TreeOk_an) (Ann.fst (Ann.snd impl_TreeOk_an))) (⟨mkE 34 0 [(0, .dat (.list (.int .i64)) x3090)], []⟩ : St) (impl_TreeOk_n1 x3090) (Sum.elim (fun (t : Unit) => (Exit.normal, (⟨mkE 34 0 [(0, .dat (.list (.int .i64)) x3090)], []⟩ : St))) (fun (t : Bool) => (Exit.ret, (⟨mkE 34 0 [(2, .dat .bool t)], []⟩ : St)))) := by
  refine Link.of fun K h => ?_
  simp only [impl_TreeOk_n1, wpO_bind, wpO_cond, wpO_map, wpO_some] at h
  exact Awp.of (by kernel_rfl) h

theorem impl_TreeOk_n2_l (x3090 : List Int) : Link impl_TreeOk_ctx LL (Code.fst (Code.fst (Code.snd (Code.snd (bodyOf Tryd.f23))))) (Ann.fst (Ann.fst (Ann.snd (Ann.snd impl_TreeOk_an)))) (⟨mkE 34 0 [(0, .dat (.list (.int .i64)) x3090)], []⟩ : St) (impl_TreeOk_n2 x3090) (fun (t : Int) => (Exit.normal, (⟨mkE 34 0 [(0, .dat (.list (.int .i64)) x3090), (20, .dat (.int .i64) t), (21, .dat (.int .i64) 0)], []⟩ : St))) := by
  refine Link.of fun K h => ?_
  simp only [impl_TreeOk_n2, wpO_bind, wpO_cond, wpO_map, wpO_some] at h
  exact Awp.of (by kernel_rfl) h

theorem impl_TreeOk_n3_l (x3090 : List Int) (x3144 : Int) (x3212 : Int) : Link impl_TreeOk_ctx LL (Code.fst (Code.fst (Code.snd (Code.fst (Code.snd (Code.snd (bodyOf Tryd.f23))))))) (Ann.fst (Ann.fst (Ann.snd (Ann.fst (Ann.snd (Ann.snd impl_TreeOk_an)))))) (⟨mkE 34 0 [(0, .dat (.list (.int .i64)) x3090), (20, .dat (.int .i64) x3144), (21, .dat (.int .i64) x3212)], []⟩ : St) (impl_TreeOk_n3 x3090 x3144 x3212) (Sum.elim (fun (t : Int) => (Exit.normal, (⟨mkE 34 0 [(0, .dat (.list (.int .i64)) x3090), (20, .dat (.int .i64) x3144), (21, .dat (.int .i64) t)], []⟩ : St))) (Sum.elim (fun (t : Bool) => (Exit.ret, (⟨mkE 34 0 [(2, .dat .bool t)], []⟩ : St))) (fun (t : Unit) => ((Exit.exit 0), (⟨mkE 34 0 [], []⟩ : St))))) := by
  refine Link.of fun K h => ?_
  simp only [impl_TreeOk_n3, wpO_bind, wpO_cond, wpO_map, wpO_some] at h
  exact Awp.of (by kernel_rfl) h

theorem impl_TreeOk_n4_l (x3090 : List Int) (x3144 : Int) : Link impl_TreeOk_ctx LL (Code.fst (Code.snd (Code.fst (Code.snd (Code.snd (bodyOf Tryd.f23)))))) (Ann.fst (Ann.snd (Ann.fst (Ann.snd (Ann.snd impl_TreeOk_an))))) (⟨mkE 34 0 [(0, .dat (.list (.int .i64)) x3090), (20, .dat (.int .i64) x3144), (21, .dat (.int .i64) 0)], []⟩ : St) (impl_TreeOk_n4 x3090 x3144) (Sum.elim (fun (t : Bool) => (Exit.ret, (⟨mkE 34 0 [(2, .dat .bool t)], []⟩ : St))) (fun (t : Unit) => ((Exit.exit 0), (⟨mkE 34 0 [], []⟩ : St)))) := by
  unfold impl_TreeOk_n4
  exact Link.cast (by kernel_rfl) (by kernel_rfl) (link_loop (mk := fun (s : Int) => (⟨mkE 34 0 [(0, .dat (.list (.int .i64)) x3090), (20, .dat (.int .i64) x3144), (21, .dat (.int .i64) s)], []⟩ : St)) (fin := (Sum.elim (fun (t : Bool) => (Exit.ret, (⟨mkE 34 0 [(2, .dat .bool t)], []⟩ : St))) (fun (t : Unit) => ((Exit.exit 0), (⟨mkE 34 0 [], []⟩ : St))))) (by
  rintro (t | t) f K h
  · exact h
  · exact h) (fun s => link_map (impl_TreeOk_n3_l x3090 x3144 s) (Sum.elim (fun (t : Int) => Sum.inl t) (Sum.elim (fun (t : Bool) => Sum.inr (Sum.inl t)) (fun (t : Unit) => Sum.inr (Sum.inr t)))) (by
  rintro (t | t | t)
  · kernel_rfl
  · kernel_rfl
  · kernel_rfl)) 0)

theorem impl_TreeOk_n5_l (x3090 : List Int) (x3144 : Int) : Link impl_TreeOk_ctx LL (Code.snd (Code.fst (Code.snd (Code.snd (bodyOf Tryd.f23))))) (Ann.snd (Ann.fst (Ann.snd (Ann.snd impl_TreeOk_an)))) (⟨mkE 34 0 [(0, .dat (.list (.int .i64)) x3090), (20, .dat (.int .i64) x3144), (21, .dat (.int .i64) 0)], []⟩ : St) (impl_TreeOk_n5 x3090 x3144) (Sum.elim (fun (t : Unit) => (Exit.normal, (⟨mkE 34 0 [], []⟩ : St))) (fun (t : Bool) => (Exit.ret, (⟨mkE 34 0 [(2, .dat .bool t)], []⟩ : St)))) := by
  unfold impl_TreeOk_n5
  exact Link.cast (by kernel_rfl) (by kernel_rfl) (link_block (id := 0) (impl_TreeOk_n4_l x3090 x3144) (Sum.elim (fun (t : Bool) => (Sum.inr t)) (fun (t : Unit) => (Sum.inl ()))) (by
  rintro (t | t) K h
  · exact Eq.mp (by kernel_rfl) h
  · exact Eq.mp (by kernel_rfl) h))

theorem impl_TreeOk_n6_l (x3090 : List Int) : Link impl_TreeOk_ctx LL (Code.fst (Code.snd (Code.snd (bodyOf Tryd.f23)))) (Ann.fst (Ann.snd (Ann.snd impl_TreeOk_an))) (⟨mkE 34 0 [(0, .dat (.list (.int .i64)) x3090)], []⟩ : St) (impl_TreeOk_n6 x3090) (Sum.elim (fun (t : Unit) => (Exit.normal, (⟨mkE 34 0 [], []⟩ : St))) (fun (t : Bool) => (Exit.ret, (⟨mkE 34 0 [(2, .dat .bool t)], []⟩ : St)))) := by
  unfold impl_TreeOk_n6
  exact Link.cast (by kernel_rfl) (by kernel_rfl) (link_seq (b := (Code.snd (Code.fst (Code.snd (Code.snd (bodyOf Tryd.f23)))))) (y := (Ann.snd (Ann.fst (Ann.snd (Ann.snd impl_TreeOk_an))))) (impl_TreeOk_n2_l x3090) (fun (t : Int) => (impl_TreeOk_n5_l x3090 t)))

theorem impl_TreeOk_n7_l : Link impl_TreeOk_ctx LL (Code.snd (Code.snd (Code.snd (bodyOf Tryd.f23)))) (Ann.snd (Ann.snd (Ann.snd impl_TreeOk_an))) (⟨mkE 34 0 [], []⟩ : St) (impl_TreeOk_n7) (fun (t : Bool) => (Exit.ret, (⟨mkE 34 0 [(2, .dat .bool t)], []⟩ : St))) := by
  refine Link.of fun K h => ?_
  simp only [impl_TreeOk_n7, wpO_bind, wpO_cond, wpO_map, wpO_some] at h
  exact Awp.of (by kernel_rfl) h

theorem impl_TreeOk_n8_l (x3090 : List Int) : Link impl_TreeOk_ctx LL (Code.snd (Code.snd (bodyOf Tryd.f23))) (Ann.snd (Ann.snd impl_TreeOk_an)) (⟨mkE 34 0 [(0, .dat (.list (.int .i64)) x3090)], []⟩ : St) (impl_TreeOk_n8 x3090) (fun (t : Bool) => (Exit.ret, (⟨mkE 34 0 [(2, .dat .bool t)], []⟩ : St))) := by
  unfold impl_TreeOk_n8
  exact Link.cast (by kernel_rfl) (by kernel_rfl) (link_seq2 (b := (Code.snd (Code.snd (Code.snd (bodyOf Tryd.f23))))) (y := (Ann.snd (Ann.snd (Ann.snd impl_TreeOk_an)))) (impl_TreeOk_n6_l x3090) (fun (t : Unit) => (impl_TreeOk_n7_l)) (fun (t : Bool) => t) (by
  rintro t
  · kernel_rfl) (by
  rintro t f K h
  · exact h))

theorem impl_TreeOk_n9_l (x3090 : List Int) : Link impl_TreeOk_ctx LL (bodyOf Tryd.f23) impl_TreeOk_an (⟨mkE 34 0 [(0, .dat (.list (.int .i64)) x3090)], []⟩ : St) (impl_TreeOk_n9 x3090) (fun (t : Bool) => (Exit.ret, (⟨mkE 34 0 [(2, .dat .bool t)], []⟩ : St))) := by
  unfold impl_TreeOk_n9
  exact Link.cast (by kernel_rfl) (by kernel_rfl) (link_group (c := (Code.fst (Code.snd (bodyOf Tryd.f23)))) (a := (Ann.fst (Ann.snd impl_TreeOk_an))) [(Code.fst (bodyOf Tryd.f23))] [(Ann.fst impl_TreeOk_an)] rfl (link_seq2 (b := (Code.snd (Code.snd (bodyOf Tryd.f23)))) (y := (Ann.snd (Ann.snd impl_TreeOk_an))) (impl_TreeOk_n1_l x3090) (fun (t : Unit) => (impl_TreeOk_n8_l x3090)) (fun (t : Bool) => t) (by
  rintro t
  · kernel_rfl) (by
  rintro t f K h
  · exact h)))

theorem impl_TreeOk_e (x3090 : List Int) {r : AV} {H' : Heap} (h : (Ans.mk _ (impl_TreeOk x3090) (fun (t : Bool) => (.dat .bool t, [])) [] none).run = some (r, H')) : Awp impl_TreeOk_ctx LL (bodyOf Tryd.f23) impl_TreeOk_an (⟨mkE 34 0 [(0, .dat (.list (.int .i64)) x3090)], []⟩ : St) (Ret (tlook tys) Tryd.f23.results.toList r H') :=
  ret_of' (impl_TreeOk_n9_l x3090) (by unfold impl_TreeOk; kernel_rfl) (by
  intro t
  exact ret_mk [.dat .bool t] (by kernel_rfl) (by kernel_rfl) (by kernel_rfl) (by kernel_rfl)) h

def F_impl_TreeOk : Fun := fun avs H =>
  match avs, H with
  | [.dat (.list (.int .i64)) x3090], [] => ⟨_, impl_TreeOk x3090, fun (t : Bool) => (.dat .bool t, []), [], none⟩
  | _, _ => Ans.no

theorem impl_TreeOk_sound : Sound Tryd.prog 23 F_impl_TreeOk := by
  refine fn_sound' (C := impl_TreeOk_ctx) (c := bodyOf Tryd.f23) (cok_of tys_ok (List.forall_mem_cons.2 ⟨impl_oneRoot_sound, List.forall_mem_cons.2 ⟨impl_stepsToRoot_sound, by simp⟩⟩) (List.forall_mem_cons.2 ⟨Tryd.call34, List.forall_mem_cons.2 ⟨Tryd.call35, by simp⟩⟩) (by kernel_rfl)) Tryd.func23 (by kernel_rfl) LL impl_TreeOk_an ?_
  intro avs H r H' h
  unfold F_impl_TreeOk at h
  split at h
  · refine Awp.cast ?_ ?_ ?_ (impl_TreeOk_e _ h) <;> kernel_rfl
  · simp [Ans.no, Ans.run] at h

/-! loop.example/headtrees/laws.alive -/

def laws_alive_an : Ann := (.seq (.leaf []) (.seq (.leaf [0]) (.leaf [0])))

noncomputable def laws_alive_ctx : Ctx := ⟨tlook tys, olook [(23, F_impl_TreeOk)], ioF, 0, false, []⟩

theorem laws_alive_n1_l : Link laws_alive_ctx LL (bodyOf Tryd.f10) laws_alive_an (⟨mkE 8 0 [], []⟩ : St) (laws_alive_n1) (fun (t : Bool) => (Exit.ret, (⟨mkE 8 0 [(0, .dat .bool t)], []⟩ : St))) := by
  refine Link.of fun K h => ?_
  simp only [laws_alive_n1, wpO_bind, wpO_cond, wpO_map, wpO_some] at h
  exact Awp.of (by kernel_rfl) h

theorem laws_alive_e {r : AV} {H' : Heap} (h : (Ans.mk _ (laws_alive) (fun (t : Bool) => (.dat .bool t, [])) [] none).run = some (r, H')) : Awp laws_alive_ctx LL (bodyOf Tryd.f10) laws_alive_an (⟨mkE 8 0 [], []⟩ : St) (Ret (tlook tys) Tryd.f10.results.toList r H') :=
  ret_of' (laws_alive_n1_l) (by unfold laws_alive; kernel_rfl) (by
  intro t
  exact ret_mk [.dat .bool t] (by kernel_rfl) (by kernel_rfl) (by kernel_rfl) (by kernel_rfl)) h

def F_laws_alive : Fun := fun avs H =>
  match avs, H with
  | [], [] => ⟨_, laws_alive, fun (t : Bool) => (.dat .bool t, []), [], none⟩
  | _, _ => Ans.no

theorem laws_alive_sound : Sound Tryd.prog 10 F_laws_alive := by
  refine fn_sound' (C := laws_alive_ctx) (c := bodyOf Tryd.f10) (cok_of tys_ok (List.forall_mem_cons.2 ⟨impl_TreeOk_sound, by simp⟩) (List.forall_mem_cons.2 ⟨Tryd.call23, by simp⟩) (by kernel_rfl)) Tryd.func10 (by kernel_rfl) LL laws_alive_an ?_
  intro avs H r H' h
  unfold F_laws_alive at h
  split at h
  · refine Awp.cast ?_ ?_ ?_ (laws_alive_e h) <;> kernel_rfl
  · simp [Ans.no, Ans.run] at h

/-! loop.example/headtrees/impl.RootOf -/

def impl_RootOf_an : Ann := (.seq (.leaf [0]) (.seq (.seq (.leaf [0, 6]) (.cond (.seq (.leaf [2]) (.leaf [2])) (.leaf [0]))) (.seq (.leaf [3]) (.seq (.block (.loop (.seq (.seq (.leaf [3, 9]) (.cond (.leaf [3]) (.leaf [3]))) (.block (.leaf [3]))))) (.seq (.leaf [2]) (.leaf [2]))))))

noncomputable def impl_RootOf_ctx : Ctx := ⟨tlook tys, olook [(23, F_impl_TreeOk), (50, F_impl_walker_up)], ioF, 0, false, []⟩

theorem impl_RootOf_n1_l (x3269 : List Int) : Link impl_RootOf_ctx LL (Code.seq (Code.fst (bodyOf Tryd.f44)) (Code.seq (Code.fst (Code.snd (bodyOf Tryd.f44))) (Code.fst (Code.snd (Code.snd (bodyOf Tryd.f44)))))) (Ann.seq (Ann.fst impl_RootOf_an) (Ann.seq (Ann.fst (Ann.snd impl_RootOf_an)) (Ann.fst (Ann.snd (Ann.snd impl_RootOf_an))))) (⟨mkE 12 0 [(0, .dat (.list (.int .i64)) x3269)], []⟩ : St) (impl_RootOf_n1 x3269) (Sum.elim (fun (t : Unit) => (Exit.normal, (⟨mkE 12 0 [(3, .ptr 0 0)], [some (.box [.dat (.list (.int .i64)) x3269, .dat (.int .i64) 1, .dat (.int .i64) 0])]⟩ : St))) (fun (t : Int) => (Exit.ret, (⟨mkE 12 0 [(2, .dat (.int .i64) t)], []⟩ : St)))) := by
  refine Link.of fun K h => ?_
  simp only [impl_RootOf_n1, wpO_bind, wpO_cond, wpO_map, wpO_some] at h
  exact Awp.of (by kernel_rfl) h

theorem impl_RootOf_n2_l (x3269 : List Int) (x3283 : Int) (x3284 : Int) : Link impl_RootOf_ctx LL (Code.fst (Code.fst (Code.fst (Code.snd (Code.snd (Code.snd (bodyOf Tryd.f44))))))) (Ann.fst (Ann.fst (Ann.fst (Ann.snd (Ann.snd (Ann.snd impl_RootOf_an)))))) (⟨mkE 12 0 [(3, .ptr 0 0)], [some (.box [.dat (.list (.int .i64)) x3269, .dat (.int .i64) x3283, .dat (.int .i64) x3284])]⟩ : St) (impl_RootOf_n2 x3269 x3283 x3284) (Sum.elim (fun (t : Int × Int) => (Exit.normal, (⟨mkE 12 0 [(3, .ptr 0 0)], [some (.box [.dat (.list (.int .i64)) x3269, .dat (.int .i64) t.1, .dat (.int .i64) t.2])]⟩ : St))) (fun (t : Int × Int) => ((Exit.exit 0), (⟨mkE 12 0 [(3, .ptr 0 0)], [some (.box [.dat (.list (.int .i64)) x3269, .dat (.int .i64) t.1, .dat (.int .i64) t.2])]⟩ : St)))) := by
  refine Link.of fun K h => ?_
  simp only [impl_RootOf_n2, wpO_bind, wpO_cond, wpO_map, wpO_some] at h
  exact Awp.of (by kernel_rfl) h

theorem impl_RootOf_n3_l (x3269 : List Int) : Link impl_RootOf_ctx LL (Code.fst (Code.fst (Code.snd (Code.snd (Code.snd (bodyOf Tryd.f44)))))) (Ann.fst (Ann.fst (Ann.snd (Ann.snd (Ann.snd impl_RootOf_an))))) (⟨mkE 12 0 [(3, .ptr 0 0)], [some (.box [.dat (.list (.int .i64)) x3269, .dat (.int .i64) 1, .dat (.int .i64) 0])]⟩ : St) (impl_RootOf_n3 x3269) (fun (t : Int × Int) => ((Exit.exit 0), (⟨mkE 12 0 [(3, .ptr 0 0)], [some (.box [.dat (.list (.int .i64)) x3269, .dat (.int .i64) t.1, .dat (.int .i64) t.2])]⟩ : St))) := by
  unfold impl_RootOf_n3
  exact Link.cast (by kernel_rfl) (by kernel_rfl) (link_loop (mk := fun (s : Int × Int) => (⟨mkE 12 0 [(3, .ptr 0 0)], [some (.box [.dat (.list (.int .i64)) x3269, .dat (.int .i64) s.1, .dat (.int .i64) s.2])]⟩ : St)) (fin := (fun (t : Int × Int) => ((Exit.exit 0), (⟨mkE 12 0 [(3, .ptr 0 0)], [some (.box [.dat (.list (.int .i64)) x3269, .dat (.int .i64) t.1, .dat (.int .i64) t.2])]⟩ : St)))) (by
  rintro t f K h
  · exact h) (fun s => link_map (impl_RootOf_n2_l x3269 s.1 s.2) (Sum.elim (fun (t : Int × Int) => Sum.inl (t.1, t.2)) (fun (t : Int × Int) => Sum.inr t)) (by
  rintro (t | t)
  · kernel_rfl
  · kernel_rfl)) (1, 0))

theorem impl_RootOf_n4_l (x3269 : List Int) : Link impl_RootOf_ctx LL (Code.fst (Code.snd (Code.snd (Code.snd (bodyOf Tryd.f44))))) (Ann.fst (Ann.snd (Ann.snd (Ann.snd impl_RootOf_an)))) (⟨mkE 12 0 [(3, .ptr 0 0)], [some (.box [.dat (.list (.int .i64)) x3269, .dat (.int .i64) 1, .dat (.int .i64) 0])]⟩ : St) (impl_RootOf_n4 x3269) (fun (t : Int × Int) => (Exit.normal, (⟨mkE 12 0 [(3, .ptr 0 0)], [some (.box [.dat (.list (.int .i64)) x3269, .dat (.int .i64) t.1, .dat (.int .i64) t.2])]⟩ : St))) := by
  unfold impl_RootOf_n4
  exact Link.cast (by kernel_rfl) (by kernel_rfl) (link_block (id := 0) (impl_RootOf_n3_l x3269) (fun (t : Int × Int) => (t.1, t.2)) (by
  rintro t K h
  · exact Eq.mp (by kernel_rfl) h))

theorem impl_RootOf_n5_l (x3269 : List Int) (x3291 : Int) (x3292 : Int) : Link impl_RootOf_ctx LL (Code.snd (Code.snd (Code.snd (Code.snd (bodyOf Tryd.f44))))) (Ann.snd (Ann.snd (Ann.snd (Ann.snd impl_RootOf_an)))) (⟨mkE 12 0 [(3, .ptr 0 0)], [some (.box [.dat (.list (.int .i64)) x3269, .dat (.int .i64) x3291, .dat (.int .i64) x3292])]⟩ : St) (impl_RootOf_n5 x3291) (fun (t : Int) => (Exit.ret, (⟨mkE 12 0 [(2, .dat (.int .i64) t)], []⟩ : St))) := by
  refine Link.of fun K h => ?_
  simp only [impl_RootOf_n5, wpO_bind, wpO_cond, wpO_map, wpO_some] at h
  exact Awp.of (by kernel_rfl) h

theorem impl_RootOf_n6_l (x3269 : List Int) : Link impl_RootOf_ctx LL (Code.snd (Code.snd (Code.snd (bodyOf Tryd.f44)))) (Ann.snd (Ann.snd (Ann.snd impl_RootOf_an))) (⟨mkE 12 0 [(3, .ptr 0 0)], [some (.box [.dat (.list (.int .i64)) x3269, .dat (.int .i64) 1, .dat (.int .i64) 0])]⟩ : St) (impl_RootOf_n6 x3269) (fun (t : Int) => (Exit.ret, (⟨mkE 12 0 [(2, .dat (.int .i64) t)], []⟩ : St))) := by
  unfold impl_RootOf_n6
  exact Link.cast (by kernel_rfl) (by kernel_rfl) (link_seq (b := (Code.snd (Code.snd (Code.snd (Code.snd (bodyOf Tryd.f44)))))) (y := (Ann.snd (Ann.snd (Ann.snd (Ann.snd impl_RootOf_an))))) (impl_RootOf_n4_l x3269) (fun (t : Int × Int) => (impl_RootOf_n5_l x3269 t.1 t.2)))

theorem impl_RootOf_n7_l (x3269 : List Int) : Link impl_RootOf_ctx LL (bodyOf Tryd.f44) impl_RootOf_an (⟨mkE 12 0 [(0, .dat (.list (.int .i64)) x3269)], []⟩ : St) (impl_RootOf_n7 x3269) (fun (t : Int) => (Exit.ret, (⟨mkE 12 0 [(2, .dat (.int .i64) t)], []⟩ : St))) := by
  unfold impl_RootOf_n7
  exact Link.cast (by kernel_rfl) (by kernel_rfl) (link_group (c := (Code.fst (Code.snd (Code.snd (bodyOf Tryd.f44))))) (a := (Ann.fst (Ann.snd (Ann.snd impl_RootOf_an)))) [(Code.fst (bodyOf Tryd.f44)), (Code.fst (Code.snd (bodyOf Tryd.f44)))] [(Ann.fst impl_RootOf_an), (Ann.fst (Ann.snd impl_RootOf_an))] rfl (link_seq2 (b := (Code.snd (Code.snd (Code.snd (bodyOf Tryd.f44))))) (y := (Ann.snd (Ann.snd (Ann.snd impl_RootOf_an)))) (impl_RootOf_n1_l x3269) (fun (t : Unit) => (impl_RootOf_n6_l x3269)) (fun (t : Int) => t) (by
  rintro t
  · kernel_rfl) (by
  rintro t f K h
  · exact h)))

theorem impl_RootOf_e (x3269 : List Int) {r : AV} {H' : Heap} (h : (Ans.mk _ (impl_RootOf x3269) (fun (t : Int) => (.dat (.int .i64) t, [])) [] none).run = some (r, H')) : Awp impl_RootOf_ctx LL (bodyOf Tryd.f44) impl_RootOf_an (⟨mkE 12 0 [(0, .dat (.list (.int .i64)) x3269)], []⟩ : St) (Ret (tlook tys) Tryd.f44.results.toList r H') :=
  ret_of' (impl_RootOf_n7_l x3269) (by unfold impl_RootOf; kernel_rfl) (by
  intro t
  exact ret_mk [.dat (.int .i64) t] (by kernel_rfl) (by kernel_rfl) (by kernel_rfl) (by kernel_rfl)) h

def F_impl_RootOf : Fun := fun avs H =>
  match avs, H with
  | [.dat (.list (.int .i64)) x3269], [] => ⟨_, impl_RootOf x3269, fun (t : Int) => (.dat (.int .i64) t, []), [], none⟩
  | _, _ => Ans.no

theorem impl_RootOf_sound : Sound Tryd.prog 44 F_impl_RootOf := by
  refine fn_sound' (C := impl_RootOf_ctx) (c := bodyOf Tryd.f44) (cok_of tys_ok (List.forall_mem_cons.2 ⟨impl_TreeOk_sound, List.forall_mem_cons.2 ⟨impl_walker_up_sound, by simp⟩⟩) (List.forall_mem_cons.2 ⟨Tryd.call23, List.forall_mem_cons.2 ⟨Tryd.call50, by simp⟩⟩) (by kernel_rfl)) Tryd.func44 (by kernel_rfl) LL impl_RootOf_an ?_
  intro avs H r H' h
  unfold F_impl_RootOf at h
  split at h
  · refine Awp.cast ?_ ?_ ?_ (impl_RootOf_e _ h) <;> kernel_rfl
  · simp [Ans.no, Ans.run] at h

/-! loop.example/headtrees/impl.only -/

def impl_only_an : Ann := (.seq (.leaf [0]) (.seq (.leaf [2]) (.leaf [2])))

noncomputable def impl_only_ctx : Ctx := ⟨tlook tys, olook [], ioF, 0, false, []⟩

theorem impl_only_n1_l (x3298 : Int) : Link impl_only_ctx LL (bodyOf Tryd.f52) impl_only_an (⟨mkE 6 0 [(0, .dat (.int .i64) x3298)], []⟩ : St) (impl_only_n1 x3298) (fun (t : Int) => (Exit.ret, (⟨mkE 6 0 [(2, .dat (.int .u64) t)], []⟩ : St))) := by
  refine Link.of fun K h => ?_
  simp only [impl_only_n1, wpO_bind, wpO_cond, wpO_map, wpO_some] at h
  exact Awp.of (by kernel_rfl) h

theorem impl_only_e (x3298 : Int) {r : AV} {H' : Heap} (h : (Ans.mk _ (impl_only x3298) (fun (t : Int) => (.dat (.int .u64) t, [])) [] none).run = some (r, H')) : Awp impl_only_ctx LL (bodyOf Tryd.f52) impl_only_an (⟨mkE 6 0 [(0, .dat (.int .i64) x3298)], []⟩ : St) (Ret (tlook tys) Tryd.f52.results.toList r H') :=
  ret_of' (impl_only_n1_l x3298) (by unfold impl_only; kernel_rfl) (by
  intro t
  exact ret_mk [.dat (.int .u64) t] (by kernel_rfl) (by kernel_rfl) (by kernel_rfl) (by kernel_rfl)) h

def F_impl_only : Fun := fun avs H =>
  match avs, H with
  | [.dat (.int .i64) x3298], [] => ⟨_, impl_only x3298, fun (t : Int) => (.dat (.int .u64) t, []), [], none⟩
  | _, _ => Ans.no

theorem impl_only_sound : Sound Tryd.prog 52 F_impl_only := by
  refine fn_sound' (C := impl_only_ctx) (c := bodyOf Tryd.f52) (cok_of tys_ok (by simp) (by simp) (by kernel_rfl)) Tryd.func52 (by kernel_rfl) LL impl_only_an ?_
  intro avs H r H' h
  unfold F_impl_only at h
  split at h
  · refine Awp.cast ?_ ?_ ?_ (impl_only_e _ h) <;> kernel_rfl
  · simp [Ans.no, Ans.run] at h

/-! loop.example/headtrees/impl.dependents -/

def impl_dependents_an : Ann := (.seq (.leaf [0, 1]) (.seq (.leaf [0, 1, 5]) (.seq (.seq (.leaf [0, 1, 5, 8, 9]) (.block (.loop (.seq (.leaf [0, 1, 5, 8, 9, 10]) (.seq (.cond (.leaf [0, 1, 5, 8, 9]) (.leaf [5])) (.seq (.block (.seq (.leaf [0, 1, 5, 6, 8, 9]) (.seq (.leaf [0, 1, 5, 6, 8, 9, 17]) (.cond (.leaf [0, 1, 5, 8, 9]) (.leaf [0, 1, 5, 8, 9]))))) (.leaf [0, 1, 5, 8, 9]))))))) (.seq (.leaf [4]) (.leaf [4])))))

noncomputable def impl_dependents_ctx : Ctx := ⟨tlook tys, olook [(52, F_impl_only)], ioF, 0, false, []⟩

theorem impl_dependents_n1_l (x3304 : List Int) (x3305 : Int) : Link impl_dependents_ctx LL (Code.seq (Code.fst (bodyOf Tryd.f40)) (Code.fst (Code.snd (bodyOf Tryd.f40)))) (Ann.seq (Ann.fst impl_dependents_an) (Ann.fst (Ann.snd impl_dependents_an))) (⟨mkE 25 0 [(0, .dat (.list (.int .i64)) x3304), (1, .dat (.int .i64) x3305)], []⟩ : St) (impl_dependents_n1) (fun (t : Unit) => (Exit.normal, (⟨mkE 25 0 [(0, .dat (.list (.int .i64)) x3304), (1, .dat (.int .i64) x3305), (5, .dat (.int .u64) 0)], []⟩ : St))) := by
  refine Link.of fun K h => ?_
  simp only [impl_dependents_n1, wpO_bind, wpO_cond, wpO_map, wpO_some] at h
  exact Awp.of (by kernel_rfl) h

theorem impl_dependents_n2_l (x3304 : List Int) (x3305 : Int) : Link impl_dependents_ctx LL (Code.fst (Code.fst (Code.snd (Code.snd (bodyOf Tryd.f40))))) (Ann.fst (Ann.fst (Ann.snd (Ann.snd impl_dependents_an)))) (⟨mkE 25 0 [(0, .dat (.list (.int .i64)) x3304), (1, .dat (.int .i64) x3305), (5, .dat (.int .u64) 0)], []⟩ : St) (impl_dependents_n2 x3304) (fun (t : Int) => (Exit.normal, (⟨mkE 25 0 [(0, .dat (.list (.int .i64)) x3304), (1, .dat (.int .i64) x3305), (5, .dat (.int .u64) 0), (8, .dat (.int .i64) t), (9, .dat (.int .i64) 0)], []⟩ : St))) := by
  refine Link.of fun K h => ?_
  simp only [impl_dependents_n2, wpO_bind, wpO_cond, wpO_map, wpO_some] at h
  exact Awp.of (by kernel_rfl) h

theorem impl_dependents_n3_l (x3304 : List Int) (x3305 : Int) (x3325 : Int) (x3306 : Int) (x3326 : Int) : Link impl_dependents_ctx LL (Code.fst (Code.fst (Code.snd (Code.fst (Code.snd (Code.snd (bodyOf Tryd.f40))))))) (Ann.fst (Ann.fst (Ann.snd (Ann.fst (Ann.snd (Ann.snd impl_dependents_an)))))) (⟨mkE 25 0 [(0, .dat (.list (.int .i64)) x3304), (1, .dat (.int .i64) x3305), (5, .dat (.int .u64) x3325), (8, .dat (.int .i64) x3306), (9, .dat (.int .i64) x3326)], []⟩ : St) (impl_dependents_n3 x3304 x3305 x3325 x3306 x3326) (Sum.elim (fun (t : Int × Int) => (Exit.normal, (⟨mkE 25 0 [(0, .dat (.list (.int .i64)) x3304), (1, .dat (.int .i64) x3305), (5, .dat (.int .u64) t.1), (8, .dat (.int .i64) x3306), (9, .dat (.int .i64) t.2)], []⟩ : St))) (fun (t : Int) => ((Exit.exit 0), (⟨mkE 25 0 [(5, .dat (.int .u64) t)], []⟩ : St)))) := by
  refine Link.of fun K h => ?_
  simp only [impl_dependents_n3, wpO_bind, wpO_cond, wpO_map, wpO_some] at h
  exact Awp.of (by kernel_rfl) h

theorem impl_dependents_n4_l (x3304 : List Int) (x3305 : Int) (x3306 : Int) : Link impl_dependents_ctx LL (Code.fst (Code.snd (Code.fst (Code.snd (Code.snd (bodyOf Tryd.f40)))))) (Ann.fst (Ann.snd (Ann.fst (Ann.snd (Ann.snd impl_dependents_an))))) (⟨mkE 25 0 [(0, .dat (.list (.int .i64)) x3304), (1, .dat (.int .i64) x3305), (5, .dat (.int .u64) 0), (8, .dat (.int .i64) x3306), (9, .dat (.int .i64) 0)], []⟩ : St) (impl_dependents_n4 x3304 x3305 x3306) (fun (t : Int) => ((Exit.exit 0), (⟨mkE 25 0 [(5, .dat (.int .u64) t)], []⟩ : St))) := by
  unfold impl_dependents_n4
  exact Link.cast (by kernel_rfl) (by kernel_rfl) (link_loop (mk := fun (s : Int × Int) => (⟨mkE 25 0 [(0, .dat (.list (.int .i64)) x3304), (1, .dat (.int .i64) x3305), (5, .dat (.int .u64) s.1), (8, .dat (.int .i64) x3306), (9, .dat (.int .i64) s.2)], []⟩ : St)) (fin := (fun (t : Int) => ((Exit.exit 0), (⟨mkE 25 0 [(5, .dat (.int .u64) t)], []⟩ : St)))) (by
  rintro t f K h
  · exact h) (fun s => link_map (impl_dependents_n3_l x3304 x3305 s.1 x3306 s.2) (Sum.elim (fun (t : Int × Int) => Sum.inl (t.1, t.2)) (fun (t : Int) => Sum.inr t)) (by
  rintro (t | t)
  · kernel_rfl
  · kernel_rfl)) (0, 0))

theorem impl_dependents_n5_l (x3304 : List Int) (x3305 : Int) (x3306 : Int) : Link impl_dependents_ctx LL (Code.snd (Code.fst (Code.snd (Code.snd (bodyOf Tryd.f40))))) (Ann.snd (Ann.fst (Ann.snd (Ann.snd impl_dependents_an)))) (⟨mkE 25 0 [(0, .dat (.list (.int .i64)) x3304), (1, .dat (.int .i64) x3305), (5, .dat (.int .u64) 0), (8, .dat (.int .i64) x3306), (9, .dat (.int .i64) 0)], []⟩ : St) (impl_dependents_n5 x3304 x3305 x3306) (fun (t : Int) => (Exit.normal, (⟨mkE 25 0 [(5, .dat (.int .u64) t)], []⟩ : St))) := by
  unfold impl_dependents_n5
  exact Link.cast (by kernel_rfl) (by kernel_rfl) (link_block (id := 0) (impl_dependents_n4_l x3304 x3305 x3306) (fun (t : Int) => t) (by
  rintro t K h
  · exact Eq.mp (by kernel_rfl) h))

theorem impl_dependents_n6_l (x3304 : List Int) (x3305 : Int) : Link impl_dependents_ctx LL (Code.fst (Code.snd (Code.snd (bodyOf Tryd.f40)))) (Ann.fst (Ann.snd (Ann.snd impl_dependents_an))) (⟨mkE 25 0 [(0, .dat (.list (.int .i64)) x3304), (1, .dat (.int .i64) x3305), (5, .dat (.int .u64) 0)], []⟩ : St) (impl_dependents_n6 x3304 x3305) (fun (t : Int) => (Exit.normal, (⟨mkE 25 0 [(5, .dat (.int .u64) t)], []⟩ : St))) := by
  unfold impl_dependents_n6
  exact Link.cast (by kernel_rfl) (by kernel_rfl) (link_seq (b := (Code.snd (Code.fst (Code.snd (Code.snd (bodyOf Tryd.f40)))))) (y := (Ann.snd (Ann.fst (Ann.snd (Ann.snd impl_dependents_an))))) (impl_dependents_n2_l x3304 x3305) (fun (t : Int) => (impl_dependents_n5_l x3304 x3305 t)))

theorem impl_dependents_n7_l (x3325 : Int) : Link impl_dependents_ctx LL (Code.snd (Code.snd (Code.snd (bodyOf Tryd.f40)))) (Ann.snd (Ann.snd (Ann.snd impl_dependents_an))) (⟨mkE 25 0 [(5, .dat (.int .u64) x3325)], []⟩ : St) (impl_dependents_n7 x3325) (fun (t : Int) => (Exit.ret, (⟨mkE 25 0 [(4, .dat (.int .u64) t)], []⟩ : St))) := by
  refine Link.of fun K h => ?_
  simp only [impl_dependents_n7, wpO_bind, wpO_cond, wpO_map, wpO_some] at h
  exact Awp.of (by kernel_rfl) h

theorem impl_dependents_n8_l (x3304 : List Int) (x3305 : Int) : Link impl_dependents_ctx LL (Code.snd (Code.snd (bodyOf Tryd.f40))) (Ann.snd (Ann.snd impl_dependents_an)) (⟨mkE 25 0 [(0, .dat (.list (.int .i64)) x3304), (1, .dat (.int .i64) x3305), (5, .dat (.int .u64) 0)], []⟩ : St) (impl_dependents_n8 x3304 x3305) (fun (t : Int) => (Exit.ret, (⟨mkE 25 0 [(4, .dat (.int .u64) t)], []⟩ : St))) := by
  unfold impl_dependents_n8
  exact Link.cast (by kernel_rfl) (by kernel_rfl) (link_seq (b := (Code.snd (Code.snd (Code.snd (bodyOf Tryd.f40))))) (y := (Ann.snd (Ann.snd (Ann.snd impl_dependents_an)))) (impl_dependents_n6_l x3304 x3305) (fun (t : Int) => (impl_dependents_n7_l t)))

theorem impl_dependents_n9_l (x3304 : List Int) (x3305 : Int) : Link impl_dependents_ctx LL (bodyOf Tryd.f40) impl_dependents_an (⟨mkE 25 0 [(0, .dat (.list (.int .i64)) x3304), (1, .dat (.int .i64) x3305)], []⟩ : St) (impl_dependents_n9 x3304 x3305) (fun (t : Int) => (Exit.ret, (⟨mkE 25 0 [(4, .dat (.int .u64) t)], []⟩ : St))) := by
  unfold impl_dependents_n9
  exact Link.cast (by kernel_rfl) (by kernel_rfl) (link_group (c := (Code.fst (Code.snd (bodyOf Tryd.f40)))) (a := (Ann.fst (Ann.snd impl_dependents_an))) [(Code.fst (bodyOf Tryd.f40))] [(Ann.fst impl_dependents_an)] rfl (link_seq (b := (Code.snd (Code.snd (bodyOf Tryd.f40)))) (y := (Ann.snd (Ann.snd impl_dependents_an))) (impl_dependents_n1_l x3304 x3305) (fun (t : Unit) => (impl_dependents_n8_l x3304 x3305))))

theorem impl_dependents_e (x3304 : List Int) (x3305 : Int) {r : AV} {H' : Heap} (h : (Ans.mk _ (impl_dependents x3304 x3305) (fun (t : Int) => (.dat (.int .u64) t, [])) [] none).run = some (r, H')) : Awp impl_dependents_ctx LL (bodyOf Tryd.f40) impl_dependents_an (⟨mkE 25 0 [(0, .dat (.list (.int .i64)) x3304), (1, .dat (.int .i64) x3305)], []⟩ : St) (Ret (tlook tys) Tryd.f40.results.toList r H') :=
  ret_of' (impl_dependents_n9_l x3304 x3305) (by unfold impl_dependents; kernel_rfl) (by
  intro t
  exact ret_mk [.dat (.int .u64) t] (by kernel_rfl) (by kernel_rfl) (by kernel_rfl) (by kernel_rfl)) h

def F_impl_dependents : Fun := fun avs H =>
  match avs, H with
  | [.dat (.list (.int .i64)) x3304, .dat (.int .i64) x3305], [] => ⟨_, impl_dependents x3304 x3305, fun (t : Int) => (.dat (.int .u64) t, []), [], none⟩
  | _, _ => Ans.no

theorem impl_dependents_sound : Sound Tryd.prog 40 F_impl_dependents := by
  refine fn_sound' (C := impl_dependents_ctx) (c := bodyOf Tryd.f40) (cok_of tys_ok (List.forall_mem_cons.2 ⟨impl_only_sound, by simp⟩) (List.forall_mem_cons.2 ⟨Tryd.call52, by simp⟩) (by kernel_rfl)) Tryd.func40 (by kernel_rfl) LL impl_dependents_an ?_
  intro avs H r H' h
  unfold F_impl_dependents at h
  split at h
  · refine Awp.cast ?_ ?_ ?_ (impl_dependents_e _ _ h) <;> kernel_rfl
  · simp [Ans.no, Ans.run] at h

/-! math/bits.OnesCount64 -/

def math_bits_OnesCount64_an : Ann := (.seq (.leaf [0]) (.seq (.leaf [0]) (.seq (.leaf [0]) (.seq (.leaf [0]) (.seq (.leaf [0]) (.seq (.leaf [0]) (.seq (.leaf [0]) (.seq (.leaf [2]) (.leaf [2])))))))))

noncomputable def math_bits_OnesCount64_ctx : Ctx := ⟨tlook tys, olook [], ioF, 0, false, []⟩

theorem math_bits_OnesCount64_n1_l (x3349 : Int) : Link math_bits_OnesCount64_ctx LL (Code.seq (Code.fst (bodyOf Tryd.f61)) (Code.fst (Code.snd (bodyOf Tryd.f61)))) (Ann.seq (Ann.fst math_bits_OnesCount64_an) (Ann.fst (Ann.snd math_bits_OnesCount64_an))) (⟨mkE 35 0 [(0, .dat (.int .u64) x3349)], []⟩ : St) (math_bits_OnesCount64_n1 x3349) (fun (t : Int) => (Exit.normal, (⟨mkE 35 0 [(0, .dat (.int .u64) t)], []⟩ : St))) := by
  refine Link.of fun K h => ?_
  simp only [math_bits_OnesCount64_n1, wpO_bind, wpO_cond, wpO_map, wpO_some] at h
  exact Awp.of (by kernel_rfl) h

theorem math_bits_OnesCount64_n2_l (x3354 : Int) : Link math_bits_OnesCount64_ctx LL (Code.fst (Code.snd (Code.snd (bodyOf Tryd.f61)))) (Ann.fst (Ann.snd (Ann.snd math_bits_OnesCount64_an))) (⟨mkE 35 0 [(0, .dat (.int .u64) x3354)], []⟩ : St) (math_bits_OnesCount64_n2 x3354) (fun (t : Int) => (Exit.normal, (⟨mkE 35 0 [(0, .dat (.int .u64) t)], []⟩ : St))) := by
  refine Link.of fun K h => ?_
  simp only [math_bits_OnesCount64_n2, wpO_bind, wpO_cond, wpO_map, wpO_some] at h
  exact Awp.of (by kernel_rfl) h

theorem math_bits_OnesCount64_n3_l (x3371 : Int) : Link math_bits_OnesCount64_ctx LL (Code.fst (Code.snd (Code.snd (Code.snd (bodyOf Tryd.f61))))) (Ann.fst (Ann.snd (Ann.snd (Ann.snd math_bits_OnesCount64_an)))) (⟨mkE 35 0 [(0, .dat (.int .u64) x3371)], []⟩ : St) (math_bits_OnesCount64_n3 x3371) (fun (t : Int) => (Exit.normal, (⟨mkE 35 0 [(0, .dat (.int .u64) t)], []⟩ : St))) := by
  refine Link.of fun K h => ?_
  simp only [math_bits_OnesCount64_n3, wpO_bind, wpO_cond, wpO_map, wpO_some] at h
  exact Awp.of (by kernel_rfl) h

theorem math_bits_OnesCount64_n4_l (x3378 : Int) : Link math_bits_OnesCount64_ctx LL (Code.fst (Code.snd (Code.snd (Code.snd (Code.snd (bodyOf Tryd.f61)))))) (Ann.fst (Ann.snd (Ann.snd (Ann.snd (Ann.snd math_bits_OnesCount64_an))))) (⟨mkE 35 0 [(0, .dat (.int .u64) x3378)], []⟩ : St) (math_bits_OnesCount64_n4 x3378) (fun (t : Int) => (Exit.normal, (⟨mkE 35 0 [(0, .dat (.int .u64) t)], []⟩ : St))) := by
  refine Link.of fun K h => ?_
  simp only [math_bits_OnesCount64_n4, wpO_bind, wpO_cond, wpO_map, wpO_some] at h
  exact Awp.of (by kernel_rfl) h

theorem math_bits_OnesCount64_n5_l (x3382 : Int) : Link math_bits_OnesCount64_ctx LL (Code.fst (Code.snd (Code.snd (Code.snd (Code.snd (Code.snd (bodyOf Tryd.f61))))))) (Ann.fst (Ann.snd (Ann.snd (Ann.snd (Ann.snd (Ann.snd math_bits_OnesCount64_an)))))) (⟨mkE 35 0 [(0, .dat (.int .u64) x3382)], []⟩ : St) (math_bits_OnesCount64_n5 x3382) (fun (t : Int) => (Exit.normal, (⟨mkE 35 0 [(0, .dat (.int .u64) t)], []⟩ : St))) := by
  refine Link.of fun K h => ?_
  simp only [math_bits_OnesCount64_n5, wpO_bind, wpO_cond, wpO_map, wpO_some] at h
  exact Awp.of (by kernel_rfl) h

theorem math_bits_OnesCount64_n6_l (x3387 : Int) : Link math_bits_OnesCount64_ctx LL (Code.fst (Code.snd (Code.snd (Code.snd (Code.snd (Code.snd (Code.snd (bodyOf Tryd.f61)))))))) (Ann.fst (Ann.snd (Ann.snd (Ann.snd (Ann.snd (Ann.snd (Ann.snd math_bits_OnesCount64_an))))))) (⟨mkE 35 0 [(0, .dat (.int .u64) x3387)], []⟩ : St) (math_bits_OnesCount64_n6 x3387) (fun (t : Int) => (Exit.normal, (⟨mkE 35 0 [(0, .dat (.int .u64) t)], []⟩ : St))) := by
  refine Link.of fun K h => ?_
  simp only [math_bits_OnesCount64_n6, wpO_bind, wpO_cond, wpO_map, wpO_some] at h
  exact Awp.of (by kernel_rfl) h

theorem math_bits_OnesCount64_n7_l (x3392 : Int) : Link math_bits_OnesCount64_ctx LL (Code.fst (Code.snd (Code.snd (Code.snd (Code.snd (Code.snd (Code.snd (Code.snd (bodyOf Tryd.f61))))))))) (Ann.fst (Ann.snd (Ann.snd (Ann.snd (Ann.snd (Ann.snd (Ann.snd (Ann.snd math_bits_OnesCount64_an)))))))) (⟨mkE 35 0 [(0, .dat (.int .u64) x3392)], []⟩ : St) (math_bits_OnesCount64_n7 x3392) (fun (t : Int) => (Exit.normal, (⟨mkE 35 0 [(2, .dat (.int .i64) t)], []⟩ : St))) := by
  refine Link.of fun K h => ?_
  simp only [math_bits_OnesCount64_n7, wpO_bind, wpO_cond, wpO_map, wpO_some] at h
  exact Awp.of (by kernel_rfl) h

theorem math_bits_OnesCount64_n8_l (x3397 : Int) : Link math_bits_OnesCount64_ctx LL (Code.snd (Code.snd (Code.snd (Code.snd (Code.snd (Code.snd (Code.snd (Code.snd (bodyOf Tryd.f61))))))))) (Ann.snd (Ann.snd (Ann.snd (Ann.snd (Ann.snd (Ann.snd (Ann.snd (Ann.snd math_bits_OnesCount64_an)))))))) (⟨mkE 35 0 [(2, .dat (.int .i64) x3397)], []⟩ : St) (math_bits_OnesCount64_n8 x3397) (fun (t : Int) => (Exit.ret, (⟨mkE 35 0 [(2, .dat (.int .i64) t)], []⟩ : St))) := by
  refine Link.of fun K h => ?_
  simp only [math_bits_OnesCount64_n8, wpO_bind, wpO_cond, wpO_map, wpO_some] at h
  exact Awp.of (by kernel_rfl) h

theorem math_bits_OnesCount64_n9_l (x3392 : Int) : Link math_bits_OnesCount64_ctx LL (Code.snd (Code.snd (Code.snd (Code.snd (Code.snd (Code.snd (Code.snd (bodyOf Tryd.f61)))))))) (Ann.snd (Ann.snd (Ann.snd (Ann.snd (Ann.snd (Ann.snd (Ann.snd math_bits_OnesCount64_an))))))) (⟨mkE 35 0 [(0, .dat (.int .u64) x3392)], []⟩ : St) (math_bits_OnesCount64_n9 x3392) (fun (t : Int) => (Exit.ret, (⟨mkE 35 0 [(2, .dat (.int .i64) t)], []⟩ : St))) := by
  unfold math_bits_OnesCount64_n9
  exact Link.cast (by kernel_rfl) (by kernel_rfl) (link_seq (b := (Code.snd (Code.snd (Code.snd (Code.snd (Code.snd (Code.snd (Code.snd (Code.snd (bodyOf Tryd.f61)))))))))) (y := (Ann.snd (Ann.snd (Ann.snd (Ann.snd (Ann.snd (Ann.snd (Ann.snd (Ann.snd math_bits_OnesCount64_an))))))))) (math_bits_OnesCount64_n7_l x3392) (fun (t : Int) => (math_bits_OnesCount64_n8_l t)))

theorem math_bits_OnesCount64_n10_l (x3387 : Int) : Link math_bits_OnesCount64_ctx LL (Code.snd (Code.snd (Code.snd (Code.snd (Code.snd (Code.snd (bodyOf Tryd.f61))))))) (Ann.snd (Ann.snd (Ann.snd (Ann.snd (Ann.snd (Ann.snd math_bits_OnesCount64_an)))))) (⟨mkE 35 0 [(0, .dat (.int .u64) x3387)], []⟩ : St) (math_bits_OnesCount64_n10 x3387) (fun (t : Int) => (Exit.ret, (⟨mkE 35 0 [(2, .dat (.int .i64) t)], []⟩ : St))) := by
  unfold math_bits_OnesCount64_n10
  exact Link.cast (by kernel_rfl) (by kernel_rfl) (link_seq (b := (Code.snd (Code.snd (Code.snd (Code.snd (Code.snd (Code.snd (Code.snd (bodyOf Tryd.f61))))))))) (y := (Ann.snd (Ann.snd (Ann.snd (Ann.snd (Ann.snd (Ann.snd (Ann.snd math_bits_OnesCount64_an)))))))) (math_bits_OnesCount64_n6_l x3387) (fun (t : Int) => (math_bits_OnesCount64_n9_l t)))

theorem math_bits_OnesCount64_n11_l (x3382 : Int) : Link math_bits_OnesCount64_ctx LL (Code.snd (Code.snd (Code.snd (Code.snd (Code.snd (bodyOf Tryd.f61)))))) (Ann.snd (Ann.snd (Ann.snd (Ann.snd (Ann.snd math_bits_OnesCount64_an))))) (⟨mkE 35 0 [(0, .dat (.int .u64) x3382)], []⟩ : St) (math_bits_OnesCount64_n11 x3382) (fun (t : Int) => (Exit.ret, (⟨mkE 35 0 [(2, .dat (.int .i64) t)], []⟩ : St))) := by
  unfold math_bits_OnesCount64_n11
  exact Link.cast (by kernel_rfl) (by kernel_rfl) (link_seq (b := (Code.snd (Code.snd (Code.snd (Code.snd (Code.snd (Code.snd (bodyOf Tryd.f61)))))))) (y := (Ann.snd (Ann.snd (Ann.snd (Ann.snd (Ann.snd (Ann.snd math_bits_OnesCount64_an))))))) (math_bits_OnesCount64_n5_l x3382) (fun (t : Int) => (math_bits_OnesCount64_n10_l t)))

theorem math_bits_OnesCount64_n12_l (x3378 : Int) : Link math_bits_OnesCount64_ctx LL (Code.snd (Code.snd (Code.snd (Code.snd (bodyOf Tryd.f61))))) (Ann.snd (Ann.snd (Ann.snd (Ann.snd math_bits_OnesCount64_an)))) (⟨mkE 35 0 [(0, .dat (.int .u64) x3378)], []⟩ : St) (math_bits_OnesCount64_n12 x3378) (fun (t : Int) => (Exit.ret, (⟨mkE 35 0 [(2, .dat (.int .i64) t)], []⟩ : St))) := by
  unfold math_bits_OnesCount64_n12
  exact Link.cast (by kernel_rfl) (by kernel_rfl) (link_seq (b := (Code.snd (Code.snd (Code.snd (Code.snd (Code.snd (bodyOf Tryd.f61))))))) (y := (Ann.snd (Ann.snd (Ann.snd (Ann.snd (Ann.snd math_bits_OnesCount64_an)))))) (math_bits_OnesCount64_n4_l x3378) (fun (t : Int) => (math_bits_OnesCount64_n11_l t)))

end Go.Rv
