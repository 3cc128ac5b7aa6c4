/-
  The checked code answers as the plain functions do; written by program. Conditions: none.
-/
import Derived.Test.YtegmjhjihbhakaaDoorGN
import Derived.Test.YtegmjhjihbhakaaDoorProg
set_option linter.unusedVariables false
set_option linter.unusedSimpArgs false
set_option maxRecDepth 100000
namespace Go.Rv
open Go.Proofs
theorem ty3 : TIOk Tryd.prog 3 ⟨.int .i64, 1, 8, some (.int .i64), [.int .i64 0]⟩ := ⟨⟨infoOf (Tryd.prog.info? 3), by kernel_rfl, by kernel_rfl, by kernel_rfl, .int .i64 0, by kernel_rfl, by kernel_rfl⟩, (by kernel_rfl : Tryd.prog.underlying 3 = some (.int .i64))⟩
theorem ty4 : TIOk Tryd.prog 4 ⟨.bool, 1, 1, some .bool, [.bool false]⟩ := ⟨⟨infoOf (Tryd.prog.info? 4), by kernel_rfl, by kernel_rfl, by kernel_rfl, .bool false, by kernel_rfl, by kernel_rfl⟩, (by kernel_rfl : Tryd.prog.underlying 4 = some .bool)⟩
theorem ty5 : TIOk Tryd.prog 5 ⟨.int .u8, 1, 1, some (.int .u8), [.int .u8 0]⟩ := ⟨⟨infoOf (Tryd.prog.info? 5), by kernel_rfl, by kernel_rfl, by kernel_rfl, .int .u8 0, by kernel_rfl, by kernel_rfl⟩, (by kernel_rfl : Tryd.prog.underlying 5 = some (.int .u8))⟩
theorem ty22 : TIOk Tryd.prog 22 ⟨.slice 5, 1, 24, some (.list (.int .u8)), [.slice none 0 0]⟩ := ⟨⟨infoOf (Tryd.prog.info? 22), by kernel_rfl, by kernel_rfl, by kernel_rfl, .slice none 0 0, by kernel_rfl, by kernel_rfl⟩, (by kernel_rfl : Tryd.prog.underlying 22 = some (.slice 5))⟩
theorem ty23 : TIOk Tryd.prog 23 ⟨.slice 3, 1, 24, some (.list (.int .i64)), [.slice none 0 0]⟩ := ⟨⟨infoOf (Tryd.prog.info? 23), by kernel_rfl, by kernel_rfl, by kernel_rfl, .slice none 0 0, by kernel_rfl, by kernel_rfl⟩, (by kernel_rfl : Tryd.prog.underlying 23 = some (.slice 3))⟩
theorem ty46 : TIOk Tryd.prog 46 ⟨.int .u64, 1, 8, some (.int .u64), [.int .u64 0]⟩ := ⟨⟨infoOf (Tryd.prog.info? 46), by kernel_rfl, by kernel_rfl, by kernel_rfl, .int .u64 0, by kernel_rfl, by kernel_rfl⟩, (by kernel_rfl : Tryd.prog.underlying 46 = some (.int .u64))⟩
theorem ty47 : TIOk Tryd.prog 47 ⟨.slice 46, 1, 24, some (.list (.int .u64)), [.slice none 0 0]⟩ := ⟨⟨infoOf (Tryd.prog.info? 47), by kernel_rfl, by kernel_rfl, by kernel_rfl, .slice none 0 0, by kernel_rfl, by kernel_rfl⟩, (by kernel_rfl : Tryd.prog.underlying 47 = some (.slice 46))⟩
theorem ty53 : TIOk Tryd.prog 53 ⟨.strct [(0, 23), (1, 3), (2, 3)], 3, 40, some (.pair (.list (.int .i64)) (.pair (.int .i64) (.pair (.int .i64) .unit))), [.slice none 0 0, .int .i64 0, .int .i64 0]⟩ := ⟨⟨infoOf (Tryd.prog.info? 53), by kernel_rfl, by kernel_rfl, by kernel_rfl, .agg #[.slice none 0 0, .int .i64 0, .int .i64 0], by kernel_rfl, by kernel_rfl⟩, ⟨fieldsOf (Tryd.prog.underlying 53), by kernel_rfl, by kernel_rfl⟩⟩
theorem ty62 : TIOk Tryd.prog 62 ⟨.strct [(0, 3), (1, 3)], 2, 16, some (.pair (.int .i64) (.pair (.int .i64) .unit)), [.int .i64 0, .int .i64 0]⟩ := ⟨⟨infoOf (Tryd.prog.info? 62), by kernel_rfl, by kernel_rfl, by kernel_rfl, .agg #[.int .i64 0, .int .i64 0], by kernel_rfl, by kernel_rfl⟩, ⟨fieldsOf (Tryd.prog.underlying 62), by kernel_rfl, by kernel_rfl⟩⟩
theorem ty63 : TIOk Tryd.prog 63 ⟨.slice 62, 1, 24, some (.list (.pair (.int .i64) (.pair (.int .i64) .unit))), [.slice none 0 0]⟩ := ⟨⟨infoOf (Tryd.prog.info? 63), by kernel_rfl, by kernel_rfl, by kernel_rfl, .slice none 0 0, by kernel_rfl, by kernel_rfl⟩, (by kernel_rfl : Tryd.prog.underlying 63 = some (.slice 62))⟩
theorem ty67 : TIOk Tryd.prog 67 ⟨.slice 23, 1, 24, some (.list (.list (.int .i64))), [.slice none 0 0]⟩ := ⟨⟨infoOf (Tryd.prog.info? 67), by kernel_rfl, by kernel_rfl, by kernel_rfl, .slice none 0 0, by kernel_rfl, by kernel_rfl⟩, (by kernel_rfl : Tryd.prog.underlying 67 = some (.slice 23))⟩
theorem ty76 : TIOk Tryd.prog 76 ⟨.strct [(0, 22), (1, 3)], 2, 32, some (.pair (.list (.int .u8)) (.pair (.int .i64) .unit)), [.slice none 0 0, .int .i64 0]⟩ := ⟨⟨infoOf (Tryd.prog.info? 76), by kernel_rfl, by kernel_rfl, by kernel_rfl, .agg #[.slice none 0 0, .int .i64 0], by kernel_rfl, by kernel_rfl⟩, ⟨fieldsOf (Tryd.prog.underlying 76), by kernel_rfl, by kernel_rfl⟩⟩
theorem ty87 : TIOk Tryd.prog 87 ⟨.int .u64, 1, 8, some (.int .u64), [.int .u64 0]⟩ := ⟨⟨infoOf (Tryd.prog.info? 87), by kernel_rfl, by kernel_rfl, by kernel_rfl, .int .u64 0, by kernel_rfl, by kernel_rfl⟩, (by kernel_rfl : Tryd.prog.underlying 87 = some (.int .u64))⟩
theorem ty88 : TIOk Tryd.prog 88 ⟨.arr 9 4, 9, 9, none, [.bool false, .bool false, .bool false, .bool false, .bool false, .bool false, .bool false, .bool false, .bool false]⟩ := ⟨⟨infoOf (Tryd.prog.info? 88), by kernel_rfl, by kernel_rfl, by kernel_rfl, .agg #[.bool false, .bool false, .bool false, .bool false, .bool false, .bool false, .bool false, .bool false, .bool false], by kernel_rfl, by kernel_rfl⟩, (by kernel_rfl : Tryd.prog.underlying 88 = some (.array 9 4))⟩
theorem ty90 : TIOk Tryd.prog 90 ⟨.arr 64 5, 64, 64, none, [.int .u8 0, .int .u8 0, .int .u8 0, .int .u8 0, .int .u8 0, .int .u8 0, .int .u8 0, .int .u8 0, .int .u8 0, .int .u8 0, .int .u8 0, .int .u8 0, .int .u8 0, .int .u8 0, .int .u8 0, .int .u8 0, .int .u8 0, .int .u8 0, .int .u8 0, .int .u8 0, .int .u8 0, .int .u8 0, .int .u8 0, .int .u8 0, .int .u8 0, .int .u8 0, .int .u8 0, .int .u8 0, .int .u8 0, .int .u8 0, .int .u8 0, .int .u8 0, .int .u8 0, .int .u8 0, .int .u8 0, .int .u8 0, .int .u8 0, .int .u8 0, .int .u8 0, .int .u8 0, .int .u8 0, .int .u8 0, .int .u8 0, .int .u8 0, .int .u8 0, .int .u8 0, .int .u8 0, .int .u8 0, .int .u8 0, .int .u8 0, .int .u8 0, .int .u8 0, .int .u8 0, .int .u8 0, .int .u8 0, .int .u8 0, .int .u8 0, .int .u8 0, .int .u8 0, .int .u8 0, .int .u8 0, .int .u8 0, .int .u8 0, .int .u8 0]⟩ := ⟨⟨infoOf (Tryd.prog.info? 90), by kernel_rfl, by kernel_rfl, by kernel_rfl, .agg #[.int .u8 0, .int .u8 0, .int .u8 0, .int .u8 0, .int .u8 0, .int .u8 0, .int .u8 0, .int .u8 0, .int .u8 0, .int .u8 0, .int .u8 0, .int .u8 0, .int .u8 0, .int .u8 0, .int .u8 0, .int .u8 0, .int .u8 0, .int .u8 0, .int .u8 0, .int .u8 0, .int .u8 0, .int .u8 0, .int .u8 0, .int .u8 0, .int .u8 0, .int .u8 0, .int .u8 0, .int .u8 0, .int .u8 0, .int .u8 0, .int .u8 0, .int .u8 0, .int .u8 0, .int .u8 0, .int .u8 0, .int .u8 0, .int .u8 0, .int .u8 0, .int .u8 0, .int .u8 0, .int .u8 0, .int .u8 0, .int .u8 0, .int .u8 0, .int .u8 0, .int .u8 0, .int .u8 0, .int .u8 0, .int .u8 0, .int .u8 0, .int .u8 0, .int .u8 0, .int .u8 0, .int .u8 0, .int .u8 0, .int .u8 0, .int .u8 0, .int .u8 0, .int .u8 0, .int .u8 0, .int .u8 0, .int .u8 0, .int .u8 0, .int .u8 0], by kernel_rfl, by kernel_rfl⟩, (by kernel_rfl : Tryd.prog.underlying 90 = some (.array 64 5))⟩
def tys : List (TypeId × TI) := [(3, ⟨.int .i64, 1, 8, some (.int .i64), [.int .i64 0]⟩), (4, ⟨.bool, 1, 1, some .bool, [.bool false]⟩), (5, ⟨.int .u8, 1, 1, some (.int .u8), [.int .u8 0]⟩), (22, ⟨.slice 5, 1, 24, some (.list (.int .u8)), [.slice none 0 0]⟩), (23, ⟨.slice 3, 1, 24, some (.list (.int .i64)), [.slice none 0 0]⟩), (46, ⟨.int .u64, 1, 8, some (.int .u64), [.int .u64 0]⟩), (47, ⟨.slice 46, 1, 24, some (.list (.int .u64)), [.slice none 0 0]⟩), (53, ⟨.strct [(0, 23), (1, 3), (2, 3)], 3, 40, some (.pair (.list (.int .i64)) (.pair (.int .i64) (.pair (.int .i64) .unit))), [.slice none 0 0, .int .i64 0, .int .i64 0]⟩), (62, ⟨.strct [(0, 3), (1, 3)], 2, 16, some (.pair (.int .i64) (.pair (.int .i64) .unit)), [.int .i64 0, .int .i64 0]⟩), (63, ⟨.slice 62, 1, 24, some (.list (.pair (.int .i64) (.pair (.int .i64) .unit))), [.slice none 0 0]⟩), (67, ⟨.slice 23, 1, 24, some (.list (.list (.int .i64))), [.slice none 0 0]⟩), (76, ⟨.strct [(0, 22), (1, 3)], 2, 32, some (.pair (.list (.int .u8)) (.pair (.int .i64) .unit)), [.slice none 0 0, .int .i64 0]⟩), (87, ⟨.int .u64, 1, 8, some (.int .u64), [.int .u64 0]⟩), (88, ⟨.arr 9 4, 9, 9, none, [.bool false, .bool false, .bool false, .bool false, .bool false, .bool false, .bool false, .bool false, .bool false]⟩), (90, ⟨.arr 64 5, 64, 64, none, [.int .u8 0, .int .u8 0, .int .u8 0, .int .u8 0, .int .u8 0, .int .u8 0, .int .u8 0, .int .u8 0, .int .u8 0, .int .u8 0, .int .u8 0, .int .u8 0, .int .u8 0, .int .u8 0, .int .u8 0, .int .u8 0, .int .u8 0, .int .u8 0, .int .u8 0, .int .u8 0, .int .u8 0, .int .u8 0, .int .u8 0, .int .u8 0, .int .u8 0, .int .u8 0, .int .u8 0, .int .u8 0, .int .u8 0, .int .u8 0, .int .u8 0, .int .u8 0, .int .u8 0, .int .u8 0, .int .u8 0, .int .u8 0, .int .u8 0, .int .u8 0, .int .u8 0, .int .u8 0, .int .u8 0, .int .u8 0, .int .u8 0, .int .u8 0, .int .u8 0, .int .u8 0, .int .u8 0, .int .u8 0, .int .u8 0, .int .u8 0, .int .u8 0, .int .u8 0, .int .u8 0, .int .u8 0, .int .u8 0, .int .u8 0, .int .u8 0, .int .u8 0, .int .u8 0, .int .u8 0, .int .u8 0, .int .u8 0, .int .u8 0, .int .u8 0]⟩)]
theorem tys_ok : TOk Tryd.prog (tlook tys) := tok_of (List.forall_mem_cons.2 ⟨ty3, List.forall_mem_cons.2 ⟨ty4, List.forall_mem_cons.2 ⟨ty5, List.forall_mem_cons.2 ⟨ty22, List.forall_mem_cons.2 ⟨ty23, List.forall_mem_cons.2 ⟨ty46, List.forall_mem_cons.2 ⟨ty47, List.forall_mem_cons.2 ⟨ty53, List.forall_mem_cons.2 ⟨ty62, List.forall_mem_cons.2 ⟨ty63, List.forall_mem_cons.2 ⟨ty67, List.forall_mem_cons.2 ⟨ty76, List.forall_mem_cons.2 ⟨ty87, List.forall_mem_cons.2 ⟨ty88, List.forall_mem_cons.2 ⟨ty90, by simp⟩⟩⟩⟩⟩⟩⟩⟩⟩⟩⟩⟩⟩⟩⟩)
def ioF (f : FuncId) (i : Nat) : Bool := [(51, 0), (82, 0), (85, 1)].any fun (p : Nat × Nat) => Nat.beq p.1 f && Nat.beq p.2 i


/-! loop.example/headtrees/spec.l20Open -/

def spec_l20Open_an : Ann := (.seq (.leaf [0]) (.seq (.seq (.leaf [0, 5]) (.cond (.leaf [0]) (.leaf [0]))) (.seq (.leaf [2]) (.leaf [2]))))

noncomputable def spec_l20Open_ctx : Ctx := ⟨tlook tys, olook [], ioF, 0⟩

theorem spec_l20Open_n1_l (x13 : List Int) : Link spec_l20Open_ctx LL (bodyOf Tryd.f54) spec_l20Open_an (⟨mkE 11 0 [(0, .dat (.list (.int .u8)) x13)], []⟩ : St) (spec_l20Open_n1 x13) (fun (t : (List Int)) => (Exit.ret, (⟨mkE 11 0 [(2, .ptr 0 0)], [some (.box [.dat (.list (.int .u8)) t, .dat (.int .i64) 0])]⟩ : St))) := by
  refine Link.of fun K h => ?_
  simp only [spec_l20Open_n1, wpO_bind, wpO_cond, wpO_map, wpO_some] at h
  exact Awp.of (by kernel_rfl) h

theorem spec_l20Open_e (x13 : List Int) {r : AV} {H' : Heap} (h : (Ans.mk _ (spec_l20Open x13) (fun (t : (List Int)) => (.ptr 0 0, [some (.box [.dat (.list (.int .u8)) t, .dat (.int .i64) 0])]))).run = some (r, H')) : Awp spec_l20Open_ctx LL (bodyOf Tryd.f54) spec_l20Open_an (⟨mkE 11 0 [(0, .dat (.list (.int .u8)) x13)], []⟩ : St) (Ret (tlook tys) Tryd.f54.results.toList r H') :=
  ret_of' (spec_l20Open_n1_l x13) (by unfold spec_l20Open; kernel_rfl) (by
  intro t
  exact ret_mk [.ptr 0 0] (by kernel_rfl) (by kernel_rfl) (by kernel_rfl) (by kernel_rfl)) h

def F_spec_l20Open : Fun := fun avs H =>
  match avs, H with
  | [.dat (.list (.int .u8)) x13], [] => ⟨_, spec_l20Open x13, fun (t : (List Int)) => (.ptr 0 0, [some (.box [.dat (.list (.int .u8)) t, .dat (.int .i64) 0])])⟩
  | _, _ => Ans.no

theorem spec_l20Open_sound : Sound Tryd.prog 54 F_spec_l20Open := by
  refine fn_sound' (C := spec_l20Open_ctx) (c := bodyOf Tryd.f54) (cok_of tys_ok (by simp) (by simp) (by kernel_rfl)) Tryd.func54 (by kernel_rfl) LL spec_l20Open_an ?_
  intro avs H r H' h
  unfold F_spec_l20Open at h
  split at h
  · refine Awp.cast ?_ ?_ ?_ (spec_l20Open_e _ h) <;> kernel_rfl
  · simp [Ans.no, Ans.run] at h


/-! (*loop.example/headtrees/spec.l20Rd).pick -/

def spec_l20Rd_pick_an : Ann := (.seq (.leaf [0, 1]) (.seq (.leaf [0, 1]) (.seq (.seq (.leaf [0, 1, 24]) (.cond (.seq (.leaf [4]) (.leaf [4])) (.leaf [0, 1]))) (.seq (.leaf [0, 1, 5]) (.seq (.seq (.leaf [0, 1, 5, 36]) (.cond (.seq (.leaf [4]) (.leaf [4])) (.leaf [0, 1, 5]))) (.seq (.draw [] [0, 1, 2, 3, 4, 5, 6, 7, 8, 9, 10, 11, 12, 13, 14, 15, 16, 17, 18, 19, 20, 21, 22, 23, 24, 25, 26, 27, 28, 29, 30, 31, 32, 33, 34, 35, 36, 37, 38, 39, 40, 41, 42, 43, 44, 45] [] [1, 6]) (.seq (.leaf [1, 6]) (.seq (.leaf [4]) (.leaf [4])))))))))

noncomputable def spec_l20Rd_pick_ctx : Ctx := ⟨tlook tys, olook [], ioF, 1⟩

theorem spec_l20Rd_pick_n1_l (x40 : Int) (x41 : List Int) (x42 : Int) : Link spec_l20Rd_pick_ctx LL (bodyOf Tryd.f63) spec_l20Rd_pick_an (⟨mkE 99 0 [(0, .ptr 0 0), (1, .dat (.int .i64) x40)], [some (.box [.dat (.list (.int .u8)) x41, .dat (.int .i64) x42])]⟩ : St) (spec_l20Rd_pick_n1 x40 x41 x42) (fun (t : Int × Int) => (Exit.ret, (⟨mkE 99 0 [(4, .dat (.int .i64) t.1)], [some (.box [.dat (.list (.int .u8)) x41, .dat (.int .i64) t.2])]⟩ : St))) := by
  refine Link.of fun K h => ?_
  simp only [spec_l20Rd_pick_n1, wpO_bind, wpO_cond, wpO_map, wpO_some] at h
  exact Awp.of (by kernel_rfl) h

theorem spec_l20Rd_pick_e (x40 : Int) (x41 : List Int) (x42 : Int) {r : AV} {H' : Heap} (h : (Ans.mk _ (spec_l20Rd_pick x40 x41 x42) (fun (t : Int × Int) => (.dat (.int .i64) t.1, [some (.box [.dat (.list (.int .u8)) x41, .dat (.int .i64) t.2])]))).run = some (r, H')) : Awp spec_l20Rd_pick_ctx LL (bodyOf Tryd.f63) spec_l20Rd_pick_an (⟨mkE 99 0 [(0, .ptr 0 0), (1, .dat (.int .i64) x40)], [some (.box [.dat (.list (.int .u8)) x41, .dat (.int .i64) x42])]⟩ : St) (Ret (tlook tys) Tryd.f63.results.toList r H') :=
  ret_of' (spec_l20Rd_pick_n1_l x40 x41 x42) (by unfold spec_l20Rd_pick; kernel_rfl) (by
  intro t
  exact ret_mk [.dat (.int .i64) t.1] (by kernel_rfl) (by kernel_rfl) (by kernel_rfl) (by kernel_rfl)) h

def F_spec_l20Rd_pick : Fun := fun avs H =>
  match avs, H with
  | [.ptr 0 0, .dat (.int .i64) x40], [some (.box [.dat (.list (.int .u8)) x41, .dat (.int .i64) x42])] => ⟨_, spec_l20Rd_pick x40 x41 x42, fun (t : Int × Int) => (.dat (.int .i64) t.1, [some (.box [.dat (.list (.int .u8)) x41, .dat (.int .i64) t.2])])⟩
  | _, _ => Ans.no

theorem spec_l20Rd_pick_sound : Sound Tryd.prog 63 F_spec_l20Rd_pick := by
  refine fn_sound' (C := spec_l20Rd_pick_ctx) (c := bodyOf Tryd.f63) (cok_of tys_ok (by simp) (by simp) (by kernel_rfl)) Tryd.func63 (by kernel_rfl) LL spec_l20Rd_pick_an ?_
  intro avs H r H' h
  unfold F_spec_l20Rd_pick at h
  split at h
  · refine Awp.cast ?_ ?_ ?_ (spec_l20Rd_pick_e _ _ _ h) <;> kernel_rfl
  · simp [Ans.no, Ans.run] at h


/-! loop.example/headtrees/spec.l20Order -/

def spec_l20Order_an : Ann := (.seq (.leaf [0, 1]) (.seq (.leaf [0, 1, 5]) (.seq (.leaf [0, 1, 5, 6]) (.seq (.seq (.leaf [0, 1, 5, 6, 7]) (.block (.loop (.seq (.seq (.leaf [0, 1, 5, 6, 7, 15]) (.cond (.leaf [0, 1, 5, 6, 7]) (.leaf [5]))) (.seq (.block (.seq (.leaf [0, 1, 5, 6, 7, 8]) (.seq (.seq (.leaf [0, 1, 5, 6, 7, 8, 26]) (.cond (.leaf [0, 1, 5, 6, 7, 8]) (.leaf [0, 1, 5, 6, 7, 8]))) (.seq (.leaf [0, 1, 5, 6, 7, 8, 9]) (.seq (.leaf [0, 1, 5, 6, 7, 8, 9]) (.leaf [0, 1, 5, 6, 7])))))) (.leaf [0, 1, 5, 6, 7])))))) (.seq (.leaf [4]) (.leaf [4]))))))

noncomputable def spec_l20Order_ctx : Ctx := ⟨tlook tys, olook [(63, F_spec_l20Rd_pick)], ioF, 1⟩

theorem spec_l20Order_n1_l (x203 : Int) (x204 : List Int) (x205 : Int) : Link spec_l20Order_ctx LL (Code.seq (Code.fst (bodyOf Tryd.f92)) (Code.seq (Code.fst (Code.snd (bodyOf Tryd.f92))) (Code.fst (Code.snd (Code.snd (bodyOf Tryd.f92)))))) (Ann.seq (Ann.fst spec_l20Order_an) (Ann.seq (Ann.fst (Ann.snd spec_l20Order_an)) (Ann.fst (Ann.snd (Ann.snd spec_l20Order_an))))) (⟨mkE 45 0 [(0, .ptr 0 0), (1, .dat (.int .i64) x203)], [some (.box [.dat (.list (.int .u8)) x204, .dat (.int .i64) x205])]⟩ : St) (spec_l20Order_n1 x204 x205) (fun (t : Int × Int) => (Exit.normal, (⟨mkE 45 0 [(0, .ptr 0 0), (1, .dat (.int .i64) x203), (5, .slc 1), (6, .dat (.int .i64) t.1)], [some (.box [.dat (.list (.int .u8)) x204, .dat (.int .i64) t.2]), some (.seq (.int .i64) ([] : List Int))]⟩ : St))) := by
  refine Link.of fun K h => ?_
  simp only [spec_l20Order_n1, wpO_bind, wpO_cond, wpO_map, wpO_some] at h
  exact Awp.of (by kernel_rfl) h

theorem spec_l20Order_n2_l (x203 : Int) (x208 : Int) (x204 : List Int) (x209 : Int) : Link spec_l20Order_ctx LL (Code.fst (Code.fst (Code.snd (Code.snd (Code.snd (bodyOf Tryd.f92)))))) (Ann.fst (Ann.fst (Ann.snd (Ann.snd (Ann.snd spec_l20Order_an))))) (⟨mkE 45 0 [(0, .ptr 0 0), (1, .dat (.int .i64) x203), (5, .slc 1), (6, .dat (.int .i64) x208)], [some (.box [.dat (.list (.int .u8)) x204, .dat (.int .i64) x209]), some (.seq (.int .i64) ([] : List Int))]⟩ : St) (spec_l20Order_n2) (fun (t : Unit) => (Exit.normal, (⟨mkE 45 0 [(0, .ptr 0 0), (1, .dat (.int .i64) x203), (5, .slc 1), (6, .dat (.int .i64) x208), (7, .dat (.int .i64) 1)], [some (.box [.dat (.list (.int .u8)) x204, .dat (.int .i64) x209]), some (.seq (.int .i64) ([] : List Int))]⟩ : St))) := by
  refine Link.of fun K h => ?_
  simp only [spec_l20Order_n2, wpO_bind, wpO_cond, wpO_map, wpO_some] at h
  exact Awp.of (by kernel_rfl) h

theorem spec_l20Order_n3_l (x203 : Int) (x208 : Int) (x351 : Int) (x204 : List Int) (x352 : Int) (x353 : List Int) : Link spec_l20Order_ctx LL (Code.fst (Code.fst (Code.snd (Code.fst (Code.snd (Code.snd (Code.snd (bodyOf Tryd.f92)))))))) (Ann.fst (Ann.fst (Ann.snd (Ann.fst (Ann.snd (Ann.snd (Ann.snd spec_l20Order_an))))))) (⟨mkE 45 0 [(0, .ptr 0 0), (1, .dat (.int .i64) x203), (5, .slc 1), (6, .dat (.int .i64) x208), (7, .dat (.int .i64) x351)], [some (.box [.dat (.list (.int .u8)) x204, .dat (.int .i64) x352]), some (.seq (.int .i64) x353)]⟩ : St) (spec_l20Order_n3 x203 x208 x351 x204 x352 x353) (Sum.elim (fun (t : Int × Int × (List Int)) => (Exit.normal, (⟨mkE 45 0 [(0, .ptr 0 0), (1, .dat (.int .i64) x203), (5, .slc 1), (6, .dat (.int .i64) x208), (7, .dat (.int .i64) t.1)], [some (.box [.dat (.list (.int .u8)) x204, .dat (.int .i64) t.2.1]), some (.seq (.int .i64) t.2.2)]⟩ : St))) (fun (t : Int × (List Int)) => ((Exit.exit 0), (⟨mkE 45 0 [(5, .slc 1)], [some (.box [.dat (.list (.int .u8)) x204, .dat (.int .i64) t.1]), some (.seq (.int .i64) t.2)]⟩ : St)))) := by
  refine Link.of fun K h => ?_
  simp only [spec_l20Order_n3, wpO_bind, wpO_cond, wpO_map, wpO_some] at h
  exact Awp.of (by kernel_rfl) h

theorem spec_l20Order_n4_l (x203 : Int) (x208 : Int) (x204 : List Int) (x209 : Int) : Link spec_l20Order_ctx LL (Code.fst (Code.snd (Code.fst (Code.snd (Code.snd (Code.snd (bodyOf Tryd.f92))))))) (Ann.fst (Ann.snd (Ann.fst (Ann.snd (Ann.snd (Ann.snd spec_l20Order_an)))))) (⟨mkE 45 0 [(0, .ptr 0 0), (1, .dat (.int .i64) x203), (5, .slc 1), (6, .dat (.int .i64) x208), (7, .dat (.int .i64) 1)], [some (.box [.dat (.list (.int .u8)) x204, .dat (.int .i64) x209]), some (.seq (.int .i64) ([] : List Int))]⟩ : St) (spec_l20Order_n4 x203 x208 x204 x209) (fun (t : Int × (List Int)) => ((Exit.exit 0), (⟨mkE 45 0 [(5, .slc 1)], [some (.box [.dat (.list (.int .u8)) x204, .dat (.int .i64) t.1]), some (.seq (.int .i64) t.2)]⟩ : St))) := by
  unfold spec_l20Order_n4
  exact Link.cast (by kernel_rfl) (by kernel_rfl) (link_loop (mk := fun (s : Int × Int × (List Int)) => (⟨mkE 45 0 [(0, .ptr 0 0), (1, .dat (.int .i64) x203), (5, .slc 1), (6, .dat (.int .i64) x208), (7, .dat (.int .i64) s.1)], [some (.box [.dat (.list (.int .u8)) x204, .dat (.int .i64) s.2.1]), some (.seq (.int .i64) s.2.2)]⟩ : St)) (fin := (fun (t : Int × (List Int)) => ((Exit.exit 0), (⟨mkE 45 0 [(5, .slc 1)], [some (.box [.dat (.list (.int .u8)) x204, .dat (.int .i64) t.1]), some (.seq (.int .i64) t.2)]⟩ : St)))) (by
  rintro t f K h
  · exact h) (fun s => link_map (spec_l20Order_n3_l x203 x208 s.1 x204 s.2.1 s.2.2) (Sum.elim (fun (t : Int × Int × (List Int)) => Sum.inl (t.1, t.2.1, t.2.2)) (fun (t : Int × (List Int)) => Sum.inr t)) (by
  rintro (t | t)
  · kernel_rfl
  · kernel_rfl)) (1, x209, ([] : List Int)))

theorem spec_l20Order_n5_l (x203 : Int) (x208 : Int) (x204 : List Int) (x209 : Int) : Link spec_l20Order_ctx LL (Code.snd (Code.fst (Code.snd (Code.snd (Code.snd (bodyOf Tryd.f92)))))) (Ann.snd (Ann.fst (Ann.snd (Ann.snd (Ann.snd spec_l20Order_an))))) (⟨mkE 45 0 [(0, .ptr 0 0), (1, .dat (.int .i64) x203), (5, .slc 1), (6, .dat (.int .i64) x208), (7, .dat (.int .i64) 1)], [some (.box [.dat (.list (.int .u8)) x204, .dat (.int .i64) x209]), some (.seq (.int .i64) ([] : List Int))]⟩ : St) (spec_l20Order_n5 x203 x208 x204 x209) (fun (t : Int × (List Int)) => (Exit.normal, (⟨mkE 45 0 [(5, .slc 1)], [some (.box [.dat (.list (.int .u8)) x204, .dat (.int .i64) t.1]), some (.seq (.int .i64) t.2)]⟩ : St))) := by
  unfold spec_l20Order_n5
  exact Link.cast (by kernel_rfl) (by kernel_rfl) (link_block (id := 0) (spec_l20Order_n4_l x203 x208 x204 x209) (fun (t : Int × (List Int)) => (t.1, t.2)) (by
  rintro t K h
  · exact Eq.mp (by kernel_rfl) h))

theorem spec_l20Order_n6_l (x203 : Int) (x208 : Int) (x204 : List Int) (x209 : Int) : Link spec_l20Order_ctx LL (Code.fst (Code.snd (Code.snd (Code.snd (bodyOf Tryd.f92))))) (Ann.fst (Ann.snd (Ann.snd (Ann.snd spec_l20Order_an)))) (⟨mkE 45 0 [(0, .ptr 0 0), (1, .dat (.int .i64) x203), (5, .slc 1), (6, .dat (.int .i64) x208)], [some (.box [.dat (.list (.int .u8)) x204, .dat (.int .i64) x209]), some (.seq (.int .i64) ([] : List Int))]⟩ : St) (spec_l20Order_n6 x203 x208 x204 x209) (fun (t : Int × (List Int)) => (Exit.normal, (⟨mkE 45 0 [(5, .slc 1)], [some (.box [.dat (.list (.int .u8)) x204, .dat (.int .i64) t.1]), some (.seq (.int .i64) t.2)]⟩ : St))) := by
  unfold spec_l20Order_n6
  exact Link.cast (by kernel_rfl) (by kernel_rfl) (link_seq (b := (Code.snd (Code.fst (Code.snd (Code.snd (Code.snd (bodyOf Tryd.f92))))))) (y := (Ann.snd (Ann.fst (Ann.snd (Ann.snd (Ann.snd spec_l20Order_an)))))) (spec_l20Order_n2_l x203 x208 x204 x209) (fun (t : Unit) => (spec_l20Order_n5_l x203 x208 x204 x209)))

theorem spec_l20Order_n7_l (x204 : List Int) (x352 : Int) (x353 : List Int) : Link spec_l20Order_ctx LL (Code.snd (Code.snd (Code.snd (Code.snd (bodyOf Tryd.f92))))) (Ann.snd (Ann.snd (Ann.snd (Ann.snd spec_l20Order_an)))) (⟨mkE 45 0 [(5, .slc 1)], [some (.box [.dat (.list (.int .u8)) x204, .dat (.int .i64) x352]), some (.seq (.int .i64) x353)]⟩ : St) (spec_l20Order_n7 x352 x353) (fun (t : Int × (List Int)) => (Exit.ret, (⟨mkE 45 0 [(4, .slc 1)], [some (.box [.dat (.list (.int .u8)) x204, .dat (.int .i64) t.1]), some (.seq (.int .i64) t.2)]⟩ : St))) := by
  refine Link.of fun K h => ?_
  simp only [spec_l20Order_n7, wpO_bind, wpO_cond, wpO_map, wpO_some] at h
  exact Awp.of (by kernel_rfl) h

theorem spec_l20Order_n8_l (x203 : Int) (x208 : Int) (x204 : List Int) (x209 : Int) : Link spec_l20Order_ctx LL (Code.snd (Code.snd (Code.snd (bodyOf Tryd.f92)))) (Ann.snd (Ann.snd (Ann.snd spec_l20Order_an))) (⟨mkE 45 0 [(0, .ptr 0 0), (1, .dat (.int .i64) x203), (5, .slc 1), (6, .dat (.int .i64) x208)], [some (.box [.dat (.list (.int .u8)) x204, .dat (.int .i64) x209]), some (.seq (.int .i64) ([] : List Int))]⟩ : St) (spec_l20Order_n8 x203 x208 x204 x209) (fun (t : Int × (List Int)) => (Exit.ret, (⟨mkE 45 0 [(4, .slc 1)], [some (.box [.dat (.list (.int .u8)) x204, .dat (.int .i64) t.1]), some (.seq (.int .i64) t.2)]⟩ : St))) := by
  unfold spec_l20Order_n8
  exact Link.cast (by kernel_rfl) (by kernel_rfl) (link_seq (b := (Code.snd (Code.snd (Code.snd (Code.snd (bodyOf Tryd.f92)))))) (y := (Ann.snd (Ann.snd (Ann.snd (Ann.snd spec_l20Order_an))))) (spec_l20Order_n6_l x203 x208 x204 x209) (fun (t : Int × (List Int)) => (spec_l20Order_n7_l x204 t.1 t.2)))

theorem spec_l20Order_n9_l (x203 : Int) (x204 : List Int) (x205 : Int) : Link spec_l20Order_ctx LL (bodyOf Tryd.f92) spec_l20Order_an (⟨mkE 45 0 [(0, .ptr 0 0), (1, .dat (.int .i64) x203)], [some (.box [.dat (.list (.int .u8)) x204, .dat (.int .i64) x205])]⟩ : St) (spec_l20Order_n9 x203 x204 x205) (fun (t : Int × (List Int)) => (Exit.ret, (⟨mkE 45 0 [(4, .slc 1)], [some (.box [.dat (.list (.int .u8)) x204, .dat (.int .i64) t.1]), some (.seq (.int .i64) t.2)]⟩ : St))) := by
  unfold spec_l20Order_n9
  exact Link.cast (by kernel_rfl) (by kernel_rfl) (link_group (c := (Code.fst (Code.snd (Code.snd (bodyOf Tryd.f92))))) (a := (Ann.fst (Ann.snd (Ann.snd spec_l20Order_an)))) [(Code.fst (bodyOf Tryd.f92)), (Code.fst (Code.snd (bodyOf Tryd.f92)))] [(Ann.fst spec_l20Order_an), (Ann.fst (Ann.snd spec_l20Order_an))] rfl (link_seq (b := (Code.snd (Code.snd (Code.snd (bodyOf Tryd.f92))))) (y := (Ann.snd (Ann.snd (Ann.snd spec_l20Order_an)))) (spec_l20Order_n1_l x203 x204 x205) (fun (t : Int × Int) => (spec_l20Order_n8_l x203 t.1 x204 t.2))))

theorem spec_l20Order_e (x203 : Int) (x204 : List Int) (x205 : Int) {r : AV} {H' : Heap} (h : (Ans.mk _ (spec_l20Order x203 x204 x205) (fun (t : Int × (List Int)) => (.slc 1, [some (.box [.dat (.list (.int .u8)) x204, .dat (.int .i64) t.1]), some (.seq (.int .i64) t.2)]))).run = some (r, H')) : Awp spec_l20Order_ctx LL (bodyOf Tryd.f92) spec_l20Order_an (⟨mkE 45 0 [(0, .ptr 0 0), (1, .dat (.int .i64) x203)], [some (.box [.dat (.list (.int .u8)) x204, .dat (.int .i64) x205])]⟩ : St) (Ret (tlook tys) Tryd.f92.results.toList r H') :=
  ret_of' (spec_l20Order_n9_l x203 x204 x205) (by unfold spec_l20Order; kernel_rfl) (by
  intro t
  exact ret_mk [.slc 1] (by kernel_rfl) (by kernel_rfl) (by kernel_rfl) (by kernel_rfl)) h

def F_spec_l20Order : Fun := fun avs H =>
  match avs, H with
  | [.ptr 0 0, .dat (.int .i64) x203], [some (.box [.dat (.list (.int .u8)) x204, .dat (.int .i64) x205])] => ⟨_, spec_l20Order x203 x204 x205, fun (t : Int × (List Int)) => (.slc 1, [some (.box [.dat (.list (.int .u8)) x204, .dat (.int .i64) t.1]), some (.seq (.int .i64) t.2)])⟩
  | _, _ => Ans.no

theorem spec_l20Order_sound : Sound Tryd.prog 92 F_spec_l20Order := by
  refine fn_sound' (C := spec_l20Order_ctx) (c := bodyOf Tryd.f92) (cok_of tys_ok (List.forall_mem_cons.2 ⟨spec_l20Rd_pick_sound, by simp⟩) (List.forall_mem_cons.2 ⟨Tryd.call63, by simp⟩) (by kernel_rfl)) Tryd.func92 (by kernel_rfl) LL spec_l20Order_an ?_
  intro avs H r H' h
  unfold F_spec_l20Order at h
  split at h
  · refine Awp.cast ?_ ?_ ?_ (spec_l20Order_e _ _ _ h) <;> kernel_rfl
  · simp [Ans.no, Ans.run] at h


/-! (*loop.example/headtrees/spec.l20Rd).odd -/

def spec_l20Rd_odd_an : Ann := (.seq (.leaf [0, 1]) (.seq (.leaf [4]) (.leaf [4])))

noncomputable def spec_l20Rd_odd_ctx : Ctx := ⟨tlook tys, olook [(63, F_spec_l20Rd_pick)], ioF, 1⟩

theorem spec_l20Rd_odd_n1_l (x660 : Int) (x661 : List Int) (x662 : Int) : Link spec_l20Rd_odd_ctx LL (bodyOf Tryd.f93) spec_l20Rd_odd_an (⟨mkE 15 0 [(0, .ptr 0 0), (1, .dat (.int .i64) x660)], [some (.box [.dat (.list (.int .u8)) x661, .dat (.int .i64) x662])]⟩ : St) (spec_l20Rd_odd_n1 x660 x661 x662) (fun (t : Bool × Int) => (Exit.ret, (⟨mkE 15 0 [(4, .dat .bool t.1)], [some (.box [.dat (.list (.int .u8)) x661, .dat (.int .i64) t.2])]⟩ : St))) := by
  refine Link.of fun K h => ?_
  simp only [spec_l20Rd_odd_n1, wpO_bind, wpO_cond, wpO_map, wpO_some] at h
  exact Awp.of (by kernel_rfl) h

theorem spec_l20Rd_odd_e (x660 : Int) (x661 : List Int) (x662 : Int) {r : AV} {H' : Heap} (h : (Ans.mk _ (spec_l20Rd_odd x660 x661 x662) (fun (t : Bool × Int) => (.dat .bool t.1, [some (.box [.dat (.list (.int .u8)) x661, .dat (.int .i64) t.2])]))).run = some (r, H')) : Awp spec_l20Rd_odd_ctx LL (bodyOf Tryd.f93) spec_l20Rd_odd_an (⟨mkE 15 0 [(0, .ptr 0 0), (1, .dat (.int .i64) x660)], [some (.box [.dat (.list (.int .u8)) x661, .dat (.int .i64) x662])]⟩ : St) (Ret (tlook tys) Tryd.f93.results.toList r H') :=
  ret_of' (spec_l20Rd_odd_n1_l x660 x661 x662) (by unfold spec_l20Rd_odd; kernel_rfl) (by
  intro t
  exact ret_mk [.dat .bool t.1] (by kernel_rfl) (by kernel_rfl) (by kernel_rfl) (by kernel_rfl)) h

def F_spec_l20Rd_odd : Fun := fun avs H =>
  match avs, H with
  | [.ptr 0 0, .dat (.int .i64) x660], [some (.box [.dat (.list (.int .u8)) x661, .dat (.int .i64) x662])] => ⟨_, spec_l20Rd_odd x660 x661 x662, fun (t : Bool × Int) => (.dat .bool t.1, [some (.box [.dat (.list (.int .u8)) x661, .dat (.int .i64) t.2])])⟩
  | _, _ => Ans.no

theorem spec_l20Rd_odd_sound : Sound Tryd.prog 93 F_spec_l20Rd_odd := by
  refine fn_sound' (C := spec_l20Rd_odd_ctx) (c := bodyOf Tryd.f93) (cok_of tys_ok (List.forall_mem_cons.2 ⟨spec_l20Rd_pick_sound, by simp⟩) (List.forall_mem_cons.2 ⟨Tryd.call63, by simp⟩) (by kernel_rfl)) Tryd.func93 (by kernel_rfl) LL spec_l20Rd_odd_an ?_
  intro avs H r H' h
  unfold F_spec_l20Rd_odd at h
  split at h
  · refine Awp.cast ?_ ?_ ?_ (spec_l20Rd_odd_e _ _ _ h) <;> kernel_rfl
  · simp [Ans.no, Ans.run] at h


/-! loop.example/headtrees/spec.l20Tree -/

def spec_l20Tree_an : Ann := (.seq (.leaf [0, 1]) (.seq (.leaf [0, 1, 5]) (.seq (.leaf [0, 1, 5, 6]) (.seq (.leaf [0, 1, 5, 6, 7]) (.seq (.leaf [0, 1, 5, 6, 7, 8]) (.seq (.seq (.leaf [0, 1, 5, 6, 7, 8, 9]) (.block (.loop (.seq (.seq (.leaf [0, 1, 5, 6, 7, 8, 9, 23]) (.cond (.leaf [0, 1, 5, 6, 7, 8, 9]) (.leaf [0, 1, 5, 7]))) (.seq (.block (.seq (.leaf [0, 1, 5, 6, 7, 8, 9, 10]) (.seq (.seq (.leaf [0, 1, 5, 6, 7, 8, 9, 10, 35]) (.cond (.leaf [0, 1, 5, 6, 7, 8, 9, 10]) (.leaf [0, 1, 5, 6, 7, 8, 9, 10]))) (.draw [] [0, 1, 2, 3, 4, 5, 6, 7, 8, 9, 10, 11] [] [0, 1, 5, 6, 7, 8, 9])))) (.leaf [0, 1, 5, 6, 7, 8, 9])))))) (.seq (.seq (.leaf [0, 5, 7, 51]) (.cond (.seq (.leaf [0, 5, 7, 53]) (.block (.seq (.leaf [0, 5, 7, 53, 63]) (.cond (.seq (.leaf [4]) (.leaf [4])) (.seq (.leaf [0, 5, 7, 53, 66]) (.cond (.seq (.leaf [4]) (.leaf [4])) (.seq (.leaf [0, 5, 7, 69]) (.cond (.seq (.leaf [7]) (.seq (.leaf [4]) (.leaf [4]))) (.leaf [7]))))))))) (.leaf [7]))) (.seq (.leaf [4]) (.leaf [4])))))))))

noncomputable def spec_l20Tree_ctx : Ctx := ⟨tlook tys, olook [(63, F_spec_l20Rd_pick), (92, F_spec_l20Order), (93, F_spec_l20Rd_odd)], ioF, 1⟩

theorem spec_l20Tree_n1_l (x36 : Int) (x37 : List Int) (x38 : Int) : Link spec_l20Tree_ctx LL (Code.seq (Code.fst (bodyOf Tryd.f81)) (Code.seq (Code.fst (Code.snd (bodyOf Tryd.f81))) (Code.seq (Code.fst (Code.snd (Code.snd (bodyOf Tryd.f81)))) (Code.seq (Code.fst (Code.snd (Code.snd (Code.snd (bodyOf Tryd.f81))))) (Code.fst (Code.snd (Code.snd (Code.snd (Code.snd (bodyOf Tryd.f81)))))))))) (Ann.seq (Ann.fst spec_l20Tree_an) (Ann.seq (Ann.fst (Ann.snd spec_l20Tree_an)) (Ann.seq (Ann.fst (Ann.snd (Ann.snd spec_l20Tree_an))) (Ann.seq (Ann.fst (Ann.snd (Ann.snd (Ann.snd spec_l20Tree_an)))) (Ann.fst (Ann.snd (Ann.snd (Ann.snd (Ann.snd spec_l20Tree_an))))))))) (⟨mkE 80 0 [(0, .ptr 0 0), (1, .dat (.int .i64) x36)], [some (.box [.dat (.list (.int .u8)) x37, .dat (.int .i64) x38])]⟩ : St) (spec_l20Tree_n1 x37 x38) (fun (t : Int × Int × Int × (List Int) × (List Int)) => (Exit.normal, (⟨mkE 80 0 [(0, .ptr 0 0), (1, .dat (.int .i64) x36), (5, .dat (.int .i64) t.1), (6, .slc 1), (7, .slc 2), (8, .dat (.int .i64) t.2.1)], [some (.box [.dat (.list (.int .u8)) x37, .dat (.int .i64) t.2.2.1]), some (.seq (.int .i64) t.2.2.2.1), some (.seq (.int .i64) t.2.2.2.2)]⟩ : St))) := by
  refine Link.of fun K h => ?_
  simp only [spec_l20Tree_n1, wpO_bind, wpO_cond, wpO_map, wpO_some] at h
  exact Awp.of (by kernel_rfl) h

theorem spec_l20Tree_n2_l (x36 : Int) (x510 : Int) (x517 : Int) (x37 : List Int) (x518 : Int) (x513 : List Int) (x515 : List Int) : Link spec_l20Tree_ctx LL (Code.fst (Code.fst (Code.snd (Code.snd (Code.snd (Code.snd (Code.snd (bodyOf Tryd.f81)))))))) (Ann.fst (Ann.fst (Ann.snd (Ann.snd (Ann.snd (Ann.snd (Ann.snd spec_l20Tree_an))))))) (⟨mkE 80 0 [(0, .ptr 0 0), (1, .dat (.int .i64) x36), (5, .dat (.int .i64) x510), (6, .slc 1), (7, .slc 2), (8, .dat (.int .i64) x517)], [some (.box [.dat (.list (.int .u8)) x37, .dat (.int .i64) x518]), some (.seq (.int .i64) x513), some (.seq (.int .i64) x515)]⟩ : St) (spec_l20Tree_n2) (fun (t : Unit) => (Exit.normal, (⟨mkE 80 0 [(0, .ptr 0 0), (1, .dat (.int .i64) x36), (5, .dat (.int .i64) x510), (6, .slc 1), (7, .slc 2), (8, .dat (.int .i64) x517), (9, .dat (.int .i64) 1)], [some (.box [.dat (.list (.int .u8)) x37, .dat (.int .i64) x518]), some (.seq (.int .i64) x513), some (.seq (.int .i64) x515)]⟩ : St))) := by
  refine Link.of fun K h => ?_
  simp only [spec_l20Tree_n2, wpO_bind, wpO_cond, wpO_map, wpO_some] at h
  exact Awp.of (by kernel_rfl) h

theorem spec_l20Tree_n3_l (x36 : Int) (x510 : Int) (x517 : Int) (x588 : Int) (x37 : List Int) (x589 : Int) (x513 : List Int) (x590 : List Int) : Link spec_l20Tree_ctx LL (Code.fst (Code.fst (Code.snd (Code.fst (Code.snd (Code.snd (Code.snd (Code.snd (Code.snd (bodyOf Tryd.f81)))))))))) (Ann.fst (Ann.fst (Ann.snd (Ann.fst (Ann.snd (Ann.snd (Ann.snd (Ann.snd (Ann.snd spec_l20Tree_an))))))))) (⟨mkE 80 0 [(0, .ptr 0 0), (1, .dat (.int .i64) x36), (5, .dat (.int .i64) x510), (6, .slc 1), (7, .slc 2), (8, .dat (.int .i64) x517), (9, .dat (.int .i64) x588)], [some (.box [.dat (.list (.int .u8)) x37, .dat (.int .i64) x589]), some (.seq (.int .i64) x513), some (.seq (.int .i64) x590)]⟩ : St) (spec_l20Tree_n3 x510 x517 x588 x37 x589 x513 x590) (Sum.elim (fun (t : Int × Int × (List Int)) => (Exit.normal, (⟨mkE 80 0 [(0, .ptr 0 0), (1, .dat (.int .i64) x36), (5, .dat (.int .i64) x510), (6, .slc 1), (7, .slc 2), (8, .dat (.int .i64) x517), (9, .dat (.int .i64) t.1)], [some (.box [.dat (.list (.int .u8)) x37, .dat (.int .i64) t.2.1]), some (.seq (.int .i64) x513), some (.seq (.int .i64) t.2.2)]⟩ : St))) (fun (t : Int × (List Int)) => ((Exit.exit 0), (⟨mkE 80 0 [(0, .ptr 0 0), (1, .dat (.int .i64) x36), (5, .dat (.int .i64) x510), (7, .slc 1)], [some (.box [.dat (.list (.int .u8)) x37, .dat (.int .i64) t.1]), some (.seq (.int .i64) t.2)]⟩ : St)))) := by
  refine Link.of fun K h => ?_
  simp only [spec_l20Tree_n3, wpO_bind, wpO_cond, wpO_map, wpO_some] at h
  exact Awp.of (by kernel_rfl) h

theorem spec_l20Tree_n4_l (x36 : Int) (x510 : Int) (x517 : Int) (x37 : List Int) (x518 : Int) (x513 : List Int) (x515 : List Int) : Link spec_l20Tree_ctx LL (Code.fst (Code.snd (Code.fst (Code.snd (Code.snd (Code.snd (Code.snd (Code.snd (bodyOf Tryd.f81))))))))) (Ann.fst (Ann.snd (Ann.fst (Ann.snd (Ann.snd (Ann.snd (Ann.snd (Ann.snd spec_l20Tree_an)))))))) (⟨mkE 80 0 [(0, .ptr 0 0), (1, .dat (.int .i64) x36), (5, .dat (.int .i64) x510), (6, .slc 1), (7, .slc 2), (8, .dat (.int .i64) x517), (9, .dat (.int .i64) 1)], [some (.box [.dat (.list (.int .u8)) x37, .dat (.int .i64) x518]), some (.seq (.int .i64) x513), some (.seq (.int .i64) x515)]⟩ : St) (spec_l20Tree_n4 x510 x517 x37 x518 x513 x515) (fun (t : Int × (List Int)) => ((Exit.exit 0), (⟨mkE 80 0 [(0, .ptr 0 0), (1, .dat (.int .i64) x36), (5, .dat (.int .i64) x510), (7, .slc 1)], [some (.box [.dat (.list (.int .u8)) x37, .dat (.int .i64) t.1]), some (.seq (.int .i64) t.2)]⟩ : St))) := by
  unfold spec_l20Tree_n4
  exact Link.cast (by kernel_rfl) (by kernel_rfl) (link_loop (mk := fun (s : Int × Int × (List Int)) => (⟨mkE 80 0 [(0, .ptr 0 0), (1, .dat (.int .i64) x36), (5, .dat (.int .i64) x510), (6, .slc 1), (7, .slc 2), (8, .dat (.int .i64) x517), (9, .dat (.int .i64) s.1)], [some (.box [.dat (.list (.int .u8)) x37, .dat (.int .i64) s.2.1]), some (.seq (.int .i64) x513), some (.seq (.int .i64) s.2.2)]⟩ : St)) (fin := (fun (t : Int × (List Int)) => ((Exit.exit 0), (⟨mkE 80 0 [(0, .ptr 0 0), (1, .dat (.int .i64) x36), (5, .dat (.int .i64) x510), (7, .slc 1)], [some (.box [.dat (.list (.int .u8)) x37, .dat (.int .i64) t.1]), some (.seq (.int .i64) t.2)]⟩ : St)))) (by
  rintro t f K h
  · exact h) (fun s => link_map (spec_l20Tree_n3_l x36 x510 x517 s.1 x37 s.2.1 x513 s.2.2) (Sum.elim (fun (t : Int × Int × (List Int)) => Sum.inl (t.1, t.2.1, t.2.2)) (fun (t : Int × (List Int)) => Sum.inr t)) (by
  rintro (t | t)
  · kernel_rfl
  · kernel_rfl)) (1, x518, x515))

theorem spec_l20Tree_n5_l (x36 : Int) (x510 : Int) (x517 : Int) (x37 : List Int) (x518 : Int) (x513 : List Int) (x515 : List Int) : Link spec_l20Tree_ctx LL (Code.snd (Code.fst (Code.snd (Code.snd (Code.snd (Code.snd (Code.snd (bodyOf Tryd.f81)))))))) (Ann.snd (Ann.fst (Ann.snd (Ann.snd (Ann.snd (Ann.snd (Ann.snd spec_l20Tree_an))))))) (⟨mkE 80 0 [(0, .ptr 0 0), (1, .dat (.int .i64) x36), (5, .dat (.int .i64) x510), (6, .slc 1), (7, .slc 2), (8, .dat (.int .i64) x517), (9, .dat (.int .i64) 1)], [some (.box [.dat (.list (.int .u8)) x37, .dat (.int .i64) x518]), some (.seq (.int .i64) x513), some (.seq (.int .i64) x515)]⟩ : St) (spec_l20Tree_n5 x510 x517 x37 x518 x513 x515) (fun (t : Int × (List Int)) => (Exit.normal, (⟨mkE 80 0 [(0, .ptr 0 0), (1, .dat (.int .i64) x36), (5, .dat (.int .i64) x510), (7, .slc 1)], [some (.box [.dat (.list (.int .u8)) x37, .dat (.int .i64) t.1]), some (.seq (.int .i64) t.2)]⟩ : St))) := by
  unfold spec_l20Tree_n5
  exact Link.cast (by kernel_rfl) (by kernel_rfl) (link_block (id := 0) (spec_l20Tree_n4_l x36 x510 x517 x37 x518 x513 x515) (fun (t : Int × (List Int)) => (t.1, t.2)) (by
  rintro t K h
  · exact Eq.mp (by kernel_rfl) h))

theorem spec_l20Tree_n6_l (x36 : Int) (x510 : Int) (x517 : Int) (x37 : List Int) (x518 : Int) (x513 : List Int) (x515 : List Int) : Link spec_l20Tree_ctx LL (Code.fst (Code.snd (Code.snd (Code.snd (Code.snd (Code.snd (bodyOf Tryd.f81))))))) (Ann.fst (Ann.snd (Ann.snd (Ann.snd (Ann.snd (Ann.snd spec_l20Tree_an)))))) (⟨mkE 80 0 [(0, .ptr 0 0), (1, .dat (.int .i64) x36), (5, .dat (.int .i64) x510), (6, .slc 1), (7, .slc 2), (8, .dat (.int .i64) x517)], [some (.box [.dat (.list (.int .u8)) x37, .dat (.int .i64) x518]), some (.seq (.int .i64) x513), some (.seq (.int .i64) x515)]⟩ : St) (spec_l20Tree_n6 x510 x517 x37 x518 x513 x515) (fun (t : Int × (List Int)) => (Exit.normal, (⟨mkE 80 0 [(0, .ptr 0 0), (1, .dat (.int .i64) x36), (5, .dat (.int .i64) x510), (7, .slc 1)], [some (.box [.dat (.list (.int .u8)) x37, .dat (.int .i64) t.1]), some (.seq (.int .i64) t.2)]⟩ : St))) := by
  unfold spec_l20Tree_n6
  exact Link.cast (by kernel_rfl) (by kernel_rfl) (link_seq (b := (Code.snd (Code.fst (Code.snd (Code.snd (Code.snd (Code.snd (Code.snd (bodyOf Tryd.f81))))))))) (y := (Ann.snd (Ann.fst (Ann.snd (Ann.snd (Ann.snd (Ann.snd (Ann.snd spec_l20Tree_an)))))))) (spec_l20Tree_n2_l x36 x510 x517 x37 x518 x513 x515) (fun (t : Unit) => (spec_l20Tree_n5_l x36 x510 x517 x37 x518 x513 x515)))

theorem spec_l20Tree_n7_l (x36 : Int) (x510 : Int) (x37 : List Int) (x589 : Int) (x590 : List Int) : Link spec_l20Tree_ctx LL (Code.snd (Code.snd (Code.snd (Code.snd (Code.snd (Code.snd (bodyOf Tryd.f81))))))) (Ann.snd (Ann.snd (Ann.snd (Ann.snd (Ann.snd (Ann.snd spec_l20Tree_an)))))) (⟨mkE 80 0 [(0, .ptr 0 0), (1, .dat (.int .i64) x36), (5, .dat (.int .i64) x510), (7, .slc 1)], [some (.box [.dat (.list (.int .u8)) x37, .dat (.int .i64) x589]), some (.seq (.int .i64) x590)]⟩ : St) (spec_l20Tree_n7 x36 x510 x37 x589 x590) (fun (t : Int × (List Int)) => (Exit.ret, (⟨mkE 80 0 [(4, .slc 1)], [some (.box [.dat (.list (.int .u8)) x37, .dat (.int .i64) t.1]), some (.seq (.int .i64) t.2)]⟩ : St))) := by
  refine Link.of fun K h => ?_
  simp only [spec_l20Tree_n7, wpO_bind, wpO_cond, wpO_map, wpO_some] at h
  exact Awp.of (by kernel_rfl) h

theorem spec_l20Tree_n8_l (x36 : Int) (x510 : Int) (x517 : Int) (x37 : List Int) (x518 : Int) (x513 : List Int) (x515 : List Int) : Link spec_l20Tree_ctx LL (Code.snd (Code.snd (Code.snd (Code.snd (Code.snd (bodyOf Tryd.f81)))))) (Ann.snd (Ann.snd (Ann.snd (Ann.snd (Ann.snd spec_l20Tree_an))))) (⟨mkE 80 0 [(0, .ptr 0 0), (1, .dat (.int .i64) x36), (5, .dat (.int .i64) x510), (6, .slc 1), (7, .slc 2), (8, .dat (.int .i64) x517)], [some (.box [.dat (.list (.int .u8)) x37, .dat (.int .i64) x518]), some (.seq (.int .i64) x513), some (.seq (.int .i64) x515)]⟩ : St) (spec_l20Tree_n8 x36 x510 x517 x37 x518 x513 x515) (fun (t : Int × (List Int)) => (Exit.ret, (⟨mkE 80 0 [(4, .slc 1)], [some (.box [.dat (.list (.int .u8)) x37, .dat (.int .i64) t.1]), some (.seq (.int .i64) t.2)]⟩ : St))) := by
  unfold spec_l20Tree_n8
  exact Link.cast (by kernel_rfl) (by kernel_rfl) (link_seq (b := (Code.snd (Code.snd (Code.snd (Code.snd (Code.snd (Code.snd (bodyOf Tryd.f81)))))))) (y := (Ann.snd (Ann.snd (Ann.snd (Ann.snd (Ann.snd (Ann.snd spec_l20Tree_an))))))) (spec_l20Tree_n6_l x36 x510 x517 x37 x518 x513 x515) (fun (t : Int × (List Int)) => (spec_l20Tree_n7_l x36 x510 x37 t.1 t.2)))

theorem spec_l20Tree_n9_l (x36 : Int) (x37 : List Int) (x38 : Int) : Link spec_l20Tree_ctx LL (bodyOf Tryd.f81) spec_l20Tree_an (⟨mkE 80 0 [(0, .ptr 0 0), (1, .dat (.int .i64) x36)], [some (.box [.dat (.list (.int .u8)) x37, .dat (.int .i64) x38])]⟩ : St) (spec_l20Tree_n9 x36 x37 x38) (fun (t : Int × (List Int)) => (Exit.ret, (⟨mkE 80 0 [(4, .slc 1)], [some (.box [.dat (.list (.int .u8)) x37, .dat (.int .i64) t.1]), some (.seq (.int .i64) t.2)]⟩ : St))) := by
  unfold spec_l20Tree_n9
  exact Link.cast (by kernel_rfl) (by kernel_rfl) (link_group (c := (Code.fst (Code.snd (Code.snd (Code.snd (Code.snd (bodyOf Tryd.f81))))))) (a := (Ann.fst (Ann.snd (Ann.snd (Ann.snd (Ann.snd spec_l20Tree_an)))))) [(Code.fst (bodyOf Tryd.f81)), (Code.fst (Code.snd (bodyOf Tryd.f81))), (Code.fst (Code.snd (Code.snd (bodyOf Tryd.f81)))), (Code.fst (Code.snd (Code.snd (Code.snd (bodyOf Tryd.f81)))))] [(Ann.fst spec_l20Tree_an), (Ann.fst (Ann.snd spec_l20Tree_an)), (Ann.fst (Ann.snd (Ann.snd spec_l20Tree_an))), (Ann.fst (Ann.snd (Ann.snd (Ann.snd spec_l20Tree_an))))] rfl (link_seq (b := (Code.snd (Code.snd (Code.snd (Code.snd (Code.snd (bodyOf Tryd.f81))))))) (y := (Ann.snd (Ann.snd (Ann.snd (Ann.snd (Ann.snd spec_l20Tree_an)))))) (spec_l20Tree_n1_l x36 x37 x38) (fun (t : Int × Int × Int × (List Int) × (List Int)) => (spec_l20Tree_n8_l x36 t.1 t.2.1 x37 t.2.2.1 t.2.2.2.1 t.2.2.2.2))))

theorem spec_l20Tree_e (x36 : Int) (x37 : List Int) (x38 : Int) {r : AV} {H' : Heap} (h : (Ans.mk _ (spec_l20Tree x36 x37 x38) (fun (t : Int × (List Int)) => (.slc 1, [some (.box [.dat (.list (.int .u8)) x37, .dat (.int .i64) t.1]), some (.seq (.int .i64) t.2)]))).run = some (r, H')) : Awp spec_l20Tree_ctx LL (bodyOf Tryd.f81) spec_l20Tree_an (⟨mkE 80 0 [(0, .ptr 0 0), (1, .dat (.int .i64) x36)], [some (.box [.dat (.list (.int .u8)) x37, .dat (.int .i64) x38])]⟩ : St) (Ret (tlook tys) Tryd.f81.results.toList r H') :=
  ret_of' (spec_l20Tree_n9_l x36 x37 x38) (by unfold spec_l20Tree; kernel_rfl) (by
  intro t
  exact ret_mk [.slc 1] (by kernel_rfl) (by kernel_rfl) (by kernel_rfl) (by kernel_rfl)) h

def F_spec_l20Tree : Fun := fun avs H =>
  match avs, H with
  | [.ptr 0 0, .dat (.int .i64) x36], [some (.box [.dat (.list (.int .u8)) x37, .dat (.int .i64) x38])] => ⟨_, spec_l20Tree x36 x37 x38, fun (t : Int × (List Int)) => (.slc 1, [some (.box [.dat (.list (.int .u8)) x37, .dat (.int .i64) t.1]), some (.seq (.int .i64) t.2)])⟩
  | _, _ => Ans.no

theorem spec_l20Tree_sound : Sound Tryd.prog 81 F_spec_l20Tree := by
  refine fn_sound' (C := spec_l20Tree_ctx) (c := bodyOf Tryd.f81) (cok_of tys_ok (List.forall_mem_cons.2 ⟨spec_l20Rd_pick_sound, List.forall_mem_cons.2 ⟨spec_l20Order_sound, List.forall_mem_cons.2 ⟨spec_l20Rd_odd_sound, by simp⟩⟩⟩) (List.forall_mem_cons.2 ⟨Tryd.call63, List.forall_mem_cons.2 ⟨Tryd.call92, List.forall_mem_cons.2 ⟨Tryd.call93, by simp⟩⟩⟩) (by kernel_rfl)) Tryd.func81 (by kernel_rfl) LL spec_l20Tree_an ?_
  intro avs H r H' h
  unfold F_spec_l20Tree at h
  split at h
  · refine Awp.cast ?_ ?_ ?_ (spec_l20Tree_e _ _ _ h) <;> kernel_rfl
  · simp [Ans.no, Ans.run] at h


/-! loop.example/headtrees/impl.oneRoot -/

def impl_oneRoot_an : Ann := (.seq (.leaf [0]) (.seq (.leaf [0, 3]) (.seq (.seq (.leaf [0, 3, 6, 7, 8]) (.block (.loop (.seq (.leaf [0, 3, 6, 7, 8, 9]) (.seq (.cond (.leaf [0, 3, 6, 7, 8]) (.leaf [3])) (.seq (.block (.seq (.leaf [0, 3, 5, 6, 7, 8]) (.seq (.seq (.leaf [0, 3, 5, 6, 7, 8, 19]) (.cond (.seq (.leaf [2]) (.leaf [2])) (.leaf [0, 3, 5, 6, 7, 8]))) (.seq (.leaf [0, 3, 6, 7, 8, 21]) (.cond (.leaf [0, 3, 6, 7, 8]) (.leaf [0, 3, 6, 7, 8])))))) (.leaf [0, 3, 6, 7, 8]))))))) (.seq (.leaf [2]) (.leaf [2])))))

noncomputable def impl_oneRoot_ctx : Ctx := ⟨tlook tys, olook [], ioF, 0⟩

theorem impl_oneRoot_n1_l (x840 : List Int) : Link impl_oneRoot_ctx LL (Code.seq (Code.fst (bodyOf Tryd.f74)) (Code.fst (Code.snd (bodyOf Tryd.f74)))) (Ann.seq (Ann.fst impl_oneRoot_an) (Ann.fst (Ann.snd impl_oneRoot_an))) (⟨mkE 27 0 [(0, .dat (.list (.int .i64)) x840)], []⟩ : St) (impl_oneRoot_n1) (fun (t : Unit) => (Exit.normal, (⟨mkE 27 0 [(0, .dat (.list (.int .i64)) x840), (3, .dat (.int .i64) 0)], []⟩ : St))) := by
  refine Link.of fun K h => ?_
  simp only [impl_oneRoot_n1, wpO_bind, wpO_cond, wpO_map, wpO_some] at h
  exact Awp.of (by kernel_rfl) h

theorem impl_oneRoot_n2_l (x840 : List Int) : Link impl_oneRoot_ctx LL (Code.fst (Code.fst (Code.snd (Code.snd (bodyOf Tryd.f74))))) (Ann.fst (Ann.fst (Ann.snd (Ann.snd impl_oneRoot_an)))) (⟨mkE 27 0 [(0, .dat (.list (.int .i64)) x840), (3, .dat (.int .i64) 0)], []⟩ : St) (impl_oneRoot_n2 x840) (fun (t : Int) => (Exit.normal, (⟨mkE 27 0 [(0, .dat (.list (.int .i64)) x840), (3, .dat (.int .i64) 0), (6, .dat (.list (.int .i64)) x840), (7, .dat (.int .i64) t), (8, .dat (.int .i64) 0)], []⟩ : St))) := by
  refine Link.of fun K h => ?_
  simp only [impl_oneRoot_n2, wpO_bind, wpO_cond, wpO_map, wpO_some] at h
  exact Awp.of (by kernel_rfl) h

theorem impl_oneRoot_n3_l (x840 : List Int) (x862 : Int) (x841 : Int) (x863 : Int) : Link impl_oneRoot_ctx LL (Code.fst (Code.fst (Code.snd (Code.fst (Code.snd (Code.snd (bodyOf Tryd.f74))))))) (Ann.fst (Ann.fst (Ann.snd (Ann.fst (Ann.snd (Ann.snd impl_oneRoot_an)))))) (⟨mkE 27 0 [(0, .dat (.list (.int .i64)) x840), (3, .dat (.int .i64) x862), (6, .dat (.list (.int .i64)) x840), (7, .dat (.int .i64) x841), (8, .dat (.int .i64) x863)], []⟩ : St) (impl_oneRoot_n3 x840 x862 x841 x863) (Sum.elim (fun (t : Int × Int) => (Exit.normal, (⟨mkE 27 0 [(0, .dat (.list (.int .i64)) x840), (3, .dat (.int .i64) t.1), (6, .dat (.list (.int .i64)) x840), (7, .dat (.int .i64) x841), (8, .dat (.int .i64) t.2)], []⟩ : St))) (Sum.elim (fun (t : Bool) => (Exit.ret, (⟨mkE 27 0 [(2, .dat .bool t)], []⟩ : St))) (fun (t : Int) => ((Exit.exit 0), (⟨mkE 27 0 [(3, .dat (.int .i64) t)], []⟩ : St))))) := by
  refine Link.of fun K h => ?_
  simp only [impl_oneRoot_n3, wpO_bind, wpO_cond, wpO_map, wpO_some] at h
  exact Awp.of (by kernel_rfl) h

theorem impl_oneRoot_n4_l (x840 : List Int) (x841 : Int) : Link impl_oneRoot_ctx LL (Code.fst (Code.snd (Code.fst (Code.snd (Code.snd (bodyOf Tryd.f74)))))) (Ann.fst (Ann.snd (Ann.fst (Ann.snd (Ann.snd impl_oneRoot_an))))) (⟨mkE 27 0 [(0, .dat (.list (.int .i64)) x840), (3, .dat (.int .i64) 0), (6, .dat (.list (.int .i64)) x840), (7, .dat (.int .i64) x841), (8, .dat (.int .i64) 0)], []⟩ : St) (impl_oneRoot_n4 x840 x841) (Sum.elim (fun (t : Bool) => (Exit.ret, (⟨mkE 27 0 [(2, .dat .bool t)], []⟩ : St))) (fun (t : Int) => ((Exit.exit 0), (⟨mkE 27 0 [(3, .dat (.int .i64) t)], []⟩ : St)))) := by
  unfold impl_oneRoot_n4
  exact Link.cast (by kernel_rfl) (by kernel_rfl) (link_loop (mk := fun (s : Int × Int) => (⟨mkE 27 0 [(0, .dat (.list (.int .i64)) x840), (3, .dat (.int .i64) s.1), (6, .dat (.list (.int .i64)) x840), (7, .dat (.int .i64) x841), (8, .dat (.int .i64) s.2)], []⟩ : St)) (fin := (Sum.elim (fun (t : Bool) => (Exit.ret, (⟨mkE 27 0 [(2, .dat .bool t)], []⟩ : St))) (fun (t : Int) => ((Exit.exit 0), (⟨mkE 27 0 [(3, .dat (.int .i64) t)], []⟩ : St))))) (by
  rintro (t | t) f K h
  · exact h
  · exact h) (fun s => link_map (impl_oneRoot_n3_l x840 s.1 x841 s.2) (Sum.elim (fun (t : Int × Int) => Sum.inl (t.1, t.2)) (Sum.elim (fun (t : Bool) => Sum.inr (Sum.inl t)) (fun (t : Int) => Sum.inr (Sum.inr t)))) (by
  rintro (t | t | t)
  · kernel_rfl
  · kernel_rfl
  · kernel_rfl)) (0, 0))

theorem impl_oneRoot_n5_l (x840 : List Int) (x841 : Int) : Link impl_oneRoot_ctx LL (Code.snd (Code.fst (Code.snd (Code.snd (bodyOf Tryd.f74))))) (Ann.snd (Ann.fst (Ann.snd (Ann.snd impl_oneRoot_an)))) (⟨mkE 27 0 [(0, .dat (.list (.int .i64)) x840), (3, .dat (.int .i64) 0), (6, .dat (.list (.int .i64)) x840), (7, .dat (.int .i64) x841), (8, .dat (.int .i64) 0)], []⟩ : St) (impl_oneRoot_n5 x840 x841) (Sum.elim (fun (t : Int) => (Exit.normal, (⟨mkE 27 0 [(3, .dat (.int .i64) t)], []⟩ : St))) (fun (t : Bool) => (Exit.ret, (⟨mkE 27 0 [(2, .dat .bool t)], []⟩ : St)))) := by
  unfold impl_oneRoot_n5
  exact Link.cast (by kernel_rfl) (by kernel_rfl) (link_block (id := 0) (impl_oneRoot_n4_l x840 x841) (Sum.elim (fun (t : Bool) => (Sum.inr t)) (fun (t : Int) => (Sum.inl t))) (by
  rintro (t | t) K h
  · exact Eq.mp (by kernel_rfl) h
  · exact Eq.mp (by kernel_rfl) h))

theorem impl_oneRoot_n6_l (x840 : List Int) : Link impl_oneRoot_ctx LL (Code.fst (Code.snd (Code.snd (bodyOf Tryd.f74)))) (Ann.fst (Ann.snd (Ann.snd impl_oneRoot_an))) (⟨mkE 27 0 [(0, .dat (.list (.int .i64)) x840), (3, .dat (.int .i64) 0)], []⟩ : St) (impl_oneRoot_n6 x840) (Sum.elim (fun (t : Int) => (Exit.normal, (⟨mkE 27 0 [(3, .dat (.int .i64) t)], []⟩ : St))) (fun (t : Bool) => (Exit.ret, (⟨mkE 27 0 [(2, .dat .bool t)], []⟩ : St)))) := by
  unfold impl_oneRoot_n6
  exact Link.cast (by kernel_rfl) (by kernel_rfl) (link_seq (b := (Code.snd (Code.fst (Code.snd (Code.snd (bodyOf Tryd.f74)))))) (y := (Ann.snd (Ann.fst (Ann.snd (Ann.snd impl_oneRoot_an))))) (impl_oneRoot_n2_l x840) (fun (t : Int) => (impl_oneRoot_n5_l x840 t)))

theorem impl_oneRoot_n7_l (x862 : Int) : Link impl_oneRoot_ctx LL (Code.snd (Code.snd (Code.snd (bodyOf Tryd.f74)))) (Ann.snd (Ann.snd (Ann.snd impl_oneRoot_an))) (⟨mkE 27 0 [(3, .dat (.int .i64) x862)], []⟩ : St) (impl_oneRoot_n7 x862) (fun (t : Bool) => (Exit.ret, (⟨mkE 27 0 [(2, .dat .bool t)], []⟩ : St))) := by
  refine Link.of fun K h => ?_
  simp only [impl_oneRoot_n7, wpO_bind, wpO_cond, wpO_map, wpO_some] at h
  exact Awp.of (by kernel_rfl) h

theorem impl_oneRoot_n8_l (x840 : List Int) : Link impl_oneRoot_ctx LL (Code.snd (Code.snd (bodyOf Tryd.f74))) (Ann.snd (Ann.snd impl_oneRoot_an)) (⟨mkE 27 0 [(0, .dat (.list (.int .i64)) x840), (3, .dat (.int .i64) 0)], []⟩ : St) (impl_oneRoot_n8 x840) (fun (t : Bool) => (Exit.ret, (⟨mkE 27 0 [(2, .dat .bool t)], []⟩ : St))) := by
  unfold impl_oneRoot_n8
  exact Link.cast (by kernel_rfl) (by kernel_rfl) (link_seq2 (b := (Code.snd (Code.snd (Code.snd (bodyOf Tryd.f74))))) (y := (Ann.snd (Ann.snd (Ann.snd impl_oneRoot_an)))) (impl_oneRoot_n6_l x840) (fun (t : Int) => (impl_oneRoot_n7_l t)) (fun (t : Bool) => t) (by
  rintro t
  · kernel_rfl) (by
  rintro t f K h
  · exact h))

theorem impl_oneRoot_n9_l (x840 : List Int) : Link impl_oneRoot_ctx LL (bodyOf Tryd.f74) impl_oneRoot_an (⟨mkE 27 0 [(0, .dat (.list (.int .i64)) x840)], []⟩ : St) (impl_oneRoot_n9 x840) (fun (t : Bool) => (Exit.ret, (⟨mkE 27 0 [(2, .dat .bool t)], []⟩ : St))) := by
  unfold impl_oneRoot_n9
  exact Link.cast (by kernel_rfl) (by kernel_rfl) (link_group (c := (Code.fst (Code.snd (bodyOf Tryd.f74)))) (a := (Ann.fst (Ann.snd impl_oneRoot_an))) [(Code.fst (bodyOf Tryd.f74))] [(Ann.fst impl_oneRoot_an)] rfl (link_seq (b := (Code.snd (Code.snd (bodyOf Tryd.f74)))) (y := (Ann.snd (Ann.snd impl_oneRoot_an))) (impl_oneRoot_n1_l x840) (fun (t : Unit) => (impl_oneRoot_n8_l x840))))

theorem impl_oneRoot_e (x840 : List Int) {r : AV} {H' : Heap} (h : (Ans.mk _ (impl_oneRoot x840) (fun (t : Bool) => (.dat .bool t, []))).run = some (r, H')) : Awp impl_oneRoot_ctx LL (bodyOf Tryd.f74) impl_oneRoot_an (⟨mkE 27 0 [(0, .dat (.list (.int .i64)) x840)], []⟩ : St) (Ret (tlook tys) Tryd.f74.results.toList r H') :=
  ret_of' (impl_oneRoot_n9_l x840) (by unfold impl_oneRoot; kernel_rfl) (by
  intro t
  exact ret_mk [.dat .bool t] (by kernel_rfl) (by kernel_rfl) (by kernel_rfl) (by kernel_rfl)) h

def F_impl_oneRoot : Fun := fun avs H =>
  match avs, H with
  | [.dat (.list (.int .i64)) x840], [] => ⟨_, impl_oneRoot x840, fun (t : Bool) => (.dat .bool t, [])⟩
  | _, _ => Ans.no

theorem impl_oneRoot_sound : Sound Tryd.prog 74 F_impl_oneRoot := by
  refine fn_sound' (C := impl_oneRoot_ctx) (c := bodyOf Tryd.f74) (cok_of tys_ok (by simp) (by simp) (by kernel_rfl)) Tryd.func74 (by kernel_rfl) LL impl_oneRoot_an ?_
  intro avs H r H' h
  unfold F_impl_oneRoot at h
  split at h
  · refine Awp.cast ?_ ?_ ?_ (impl_oneRoot_e _ h) <;> kernel_rfl
  · simp [Ans.no, Ans.run] at h


/-! (*loop.example/headtrees/impl.walker).up -/

def impl_walker_up_an : Ann := (.seq (.leaf [0]) (.seq (.draw [] [0, 1, 2, 3, 4, 5, 6, 7, 8, 9, 10, 11] [] [0, 3]) (.seq (.seq (.leaf [0, 3, 16]) (.cond (.seq (.leaf [2]) (.leaf [2])) (.leaf [0, 3]))) (.seq (.leaf [0]) (.seq (.leaf []) (.seq (.leaf [2]) (.leaf [2])))))))

noncomputable def impl_walker_up_ctx : Ctx := ⟨tlook tys, olook [], ioF, 1⟩

theorem impl_walker_up_n1_l (x896 : List Int) (x897 : Int) (x898 : Int) : Link impl_walker_up_ctx LL (bodyOf Tryd.f61) impl_walker_up_an (⟨mkE 28 0 [(0, .ptr 0 0)], [some (.box [.dat (.list (.int .i64)) x896, .dat (.int .i64) x897, .dat (.int .i64) x898])]⟩ : St) (impl_walker_up_n1 x896 x897 x898) (fun (t : Bool × Int × Int) => (Exit.ret, (⟨mkE 28 0 [(2, .dat .bool t.1)], [some (.box [.dat (.list (.int .i64)) x896, .dat (.int .i64) t.2.1, .dat (.int .i64) t.2.2])]⟩ : St))) := by
  refine Link.of fun K h => ?_
  simp only [impl_walker_up_n1, wpO_bind, wpO_cond, wpO_map, wpO_some] at h
  exact Awp.of (by kernel_rfl) h

theorem impl_walker_up_e (x896 : List Int) (x897 : Int) (x898 : Int) {r : AV} {H' : Heap} (h : (Ans.mk _ (impl_walker_up x896 x897 x898) (fun (t : Bool × Int × Int) => (.dat .bool t.1, [some (.box [.dat (.list (.int .i64)) x896, .dat (.int .i64) t.2.1, .dat (.int .i64) t.2.2])]))).run = some (r, H')) : Awp impl_walker_up_ctx LL (bodyOf Tryd.f61) impl_walker_up_an (⟨mkE 28 0 [(0, .ptr 0 0)], [some (.box [.dat (.list (.int .i64)) x896, .dat (.int .i64) x897, .dat (.int .i64) x898])]⟩ : St) (Ret (tlook tys) Tryd.f61.results.toList r H') :=
  ret_of' (impl_walker_up_n1_l x896 x897 x898) (by unfold impl_walker_up; kernel_rfl) (by
  intro t
  exact ret_mk [.dat .bool t.1] (by kernel_rfl) (by kernel_rfl) (by kernel_rfl) (by kernel_rfl)) h

def F_impl_walker_up : Fun := fun avs H =>
  match avs, H with
  | [.ptr 0 0], [some (.box [.dat (.list (.int .i64)) x896, .dat (.int .i64) x897, .dat (.int .i64) x898])] => ⟨_, impl_walker_up x896 x897 x898, fun (t : Bool × Int × Int) => (.dat .bool t.1, [some (.box [.dat (.list (.int .i64)) x896, .dat (.int .i64) t.2.1, .dat (.int .i64) t.2.2])])⟩
  | _, _ => Ans.no

theorem impl_walker_up_sound : Sound Tryd.prog 61 F_impl_walker_up := by
  refine fn_sound' (C := impl_walker_up_ctx) (c := bodyOf Tryd.f61) (cok_of tys_ok (by simp) (by simp) (by kernel_rfl)) Tryd.func61 (by kernel_rfl) LL impl_walker_up_an ?_
  intro avs H r H' h
  unfold F_impl_walker_up at h
  split at h
  · refine Awp.cast ?_ ?_ ?_ (impl_walker_up_e _ _ _ h) <;> kernel_rfl
  · simp [Ans.no, Ans.run] at h


/-! loop.example/headtrees/impl.stepsToRoot -/

def impl_stepsToRoot_an : Ann := (.seq (.leaf [0, 1]) (.seq (.leaf [0, 6]) (.seq (.block (.loop (.seq (.seq (.leaf [0, 6, 10]) (.cond (.leaf [0, 6]) (.leaf [6]))) (.block (.seq (.leaf [0, 6, 15]) (.cond (.seq (.leaf [4, 5]) (.leaf [4, 5])) (.leaf [0, 6]))))))) (.seq (.leaf [4, 5]) (.leaf [4, 5])))))

noncomputable def impl_stepsToRoot_ctx : Ctx := ⟨tlook tys, olook [(61, F_impl_walker_up)], ioF, 0⟩

theorem impl_stepsToRoot_n1_l (x894 : List Int) (x895 : Int) : Link impl_stepsToRoot_ctx LL (Code.seq (Code.fst (bodyOf Tryd.f75)) (Code.fst (Code.snd (bodyOf Tryd.f75)))) (Ann.seq (Ann.fst impl_stepsToRoot_an) (Ann.fst (Ann.snd impl_stepsToRoot_an))) (⟨mkE 18 0 [(0, .dat (.list (.int .i64)) x894), (1, .dat (.int .i64) x895)], []⟩ : St) (impl_stepsToRoot_n1) (fun (t : Unit) => (Exit.normal, (⟨mkE 18 0 [(0, .dat (.list (.int .i64)) x894), (6, .ptr 0 0)], [some (.box [.dat (.list (.int .i64)) x894, .dat (.int .i64) x895, .dat (.int .i64) 0])]⟩ : St))) := by
  refine Link.of fun K h => ?_
  simp only [impl_stepsToRoot_n1, wpO_bind, wpO_cond, wpO_map, wpO_some] at h
  exact Awp.of (by kernel_rfl) h

theorem impl_stepsToRoot_n2_l (x894 : List Int) (x932 : Int) (x933 : Int) : Link impl_stepsToRoot_ctx LL (Code.fst (Code.fst (Code.fst (Code.snd (Code.snd (bodyOf Tryd.f75)))))) (Ann.fst (Ann.fst (Ann.fst (Ann.snd (Ann.snd impl_stepsToRoot_an))))) (⟨mkE 18 0 [(0, .dat (.list (.int .i64)) x894), (6, .ptr 0 0)], [some (.box [.dat (.list (.int .i64)) x894, .dat (.int .i64) x932, .dat (.int .i64) x933])]⟩ : St) (impl_stepsToRoot_n2 x894 x932 x933) (Sum.elim (fun (t : Int × Int) => (Exit.normal, (⟨mkE 18 0 [(0, .dat (.list (.int .i64)) x894), (6, .ptr 0 0)], [some (.box [.dat (.list (.int .i64)) x894, .dat (.int .i64) t.1, .dat (.int .i64) t.2])]⟩ : St))) (Sum.elim (fun (t : Int × Bool) => (Exit.ret, (⟨mkE 18 0 [(4, .dat (.int .i64) t.1), (5, .dat .bool t.2)], []⟩ : St))) (fun (t : Int × Int) => ((Exit.exit 0), (⟨mkE 18 0 [(6, .ptr 0 0)], [some (.box [.dat (.list (.int .i64)) x894, .dat (.int .i64) t.1, .dat (.int .i64) t.2])]⟩ : St))))) := by
  refine Link.of fun K h => ?_
  simp only [impl_stepsToRoot_n2, wpO_bind, wpO_cond, wpO_map, wpO_some] at h
  exact Awp.of (by kernel_rfl) h

theorem impl_stepsToRoot_n3_l (x894 : List Int) (x895 : Int) : Link impl_stepsToRoot_ctx LL (Code.fst (Code.fst (Code.snd (Code.snd (bodyOf Tryd.f75))))) (Ann.fst (Ann.fst (Ann.snd (Ann.snd impl_stepsToRoot_an)))) (⟨mkE 18 0 [(0, .dat (.list (.int .i64)) x894), (6, .ptr 0 0)], [some (.box [.dat (.list (.int .i64)) x894, .dat (.int .i64) x895, .dat (.int .i64) 0])]⟩ : St) (impl_stepsToRoot_n3 x894 x895) (Sum.elim (fun (t : Int × Bool) => (Exit.ret, (⟨mkE 18 0 [(4, .dat (.int .i64) t.1), (5, .dat .bool t.2)], []⟩ : St))) (fun (t : Int × Int) => ((Exit.exit 0), (⟨mkE 18 0 [(6, .ptr 0 0)], [some (.box [.dat (.list (.int .i64)) x894, .dat (.int .i64) t.1, .dat (.int .i64) t.2])]⟩ : St)))) := by
  unfold impl_stepsToRoot_n3
  exact Link.cast (by kernel_rfl) (by kernel_rfl) (link_loop (mk := fun (s : Int × Int) => (⟨mkE 18 0 [(0, .dat (.list (.int .i64)) x894), (6, .ptr 0 0)], [some (.box [.dat (.list (.int .i64)) x894, .dat (.int .i64) s.1, .dat (.int .i64) s.2])]⟩ : St)) (fin := (Sum.elim (fun (t : Int × Bool) => (Exit.ret, (⟨mkE 18 0 [(4, .dat (.int .i64) t.1), (5, .dat .bool t.2)], []⟩ : St))) (fun (t : Int × Int) => ((Exit.exit 0), (⟨mkE 18 0 [(6, .ptr 0 0)], [some (.box [.dat (.list (.int .i64)) x894, .dat (.int .i64) t.1, .dat (.int .i64) t.2])]⟩ : St))))) (by
  rintro (t | t) f K h
  · exact h
  · exact h) (fun s => link_map (impl_stepsToRoot_n2_l x894 s.1 s.2) (Sum.elim (fun (t : Int × Int) => Sum.inl (t.1, t.2)) (Sum.elim (fun (t : Int × Bool) => Sum.inr (Sum.inl t)) (fun (t : Int × Int) => Sum.inr (Sum.inr t)))) (by
  rintro (t | t | t)
  · kernel_rfl
  · kernel_rfl
  · kernel_rfl)) (x895, 0))

theorem impl_stepsToRoot_n4_l (x894 : List Int) (x895 : Int) : Link impl_stepsToRoot_ctx LL (Code.fst (Code.snd (Code.snd (bodyOf Tryd.f75)))) (Ann.fst (Ann.snd (Ann.snd impl_stepsToRoot_an))) (⟨mkE 18 0 [(0, .dat (.list (.int .i64)) x894), (6, .ptr 0 0)], [some (.box [.dat (.list (.int .i64)) x894, .dat (.int .i64) x895, .dat (.int .i64) 0])]⟩ : St) (impl_stepsToRoot_n4 x894 x895) (Sum.elim (fun (t : Int × Int) => (Exit.normal, (⟨mkE 18 0 [(6, .ptr 0 0)], [some (.box [.dat (.list (.int .i64)) x894, .dat (.int .i64) t.1, .dat (.int .i64) t.2])]⟩ : St))) (fun (t : Int × Bool) => (Exit.ret, (⟨mkE 18 0 [(4, .dat (.int .i64) t.1), (5, .dat .bool t.2)], []⟩ : St)))) := by
  unfold impl_stepsToRoot_n4
  exact Link.cast (by kernel_rfl) (by kernel_rfl) (link_block (id := 0) (impl_stepsToRoot_n3_l x894 x895) (Sum.elim (fun (t : Int × Bool) => (Sum.inr t)) (fun (t : Int × Int) => (Sum.inl (t.1, t.2)))) (by
  rintro (t | t) K h
  · exact Eq.mp (by kernel_rfl) h
  · exact Eq.mp (by kernel_rfl) h))

theorem impl_stepsToRoot_n5_l (x894 : List Int) (x940 : Int) (x941 : Int) : Link impl_stepsToRoot_ctx LL (Code.snd (Code.snd (Code.snd (bodyOf Tryd.f75)))) (Ann.snd (Ann.snd (Ann.snd impl_stepsToRoot_an))) (⟨mkE 18 0 [(6, .ptr 0 0)], [some (.box [.dat (.list (.int .i64)) x894, .dat (.int .i64) x940, .dat (.int .i64) x941])]⟩ : St) (impl_stepsToRoot_n5 x941) (fun (t : Int × Bool) => (Exit.ret, (⟨mkE 18 0 [(4, .dat (.int .i64) t.1), (5, .dat .bool t.2)], []⟩ : St))) := by
  refine Link.of fun K h => ?_
  simp only [impl_stepsToRoot_n5, wpO_bind, wpO_cond, wpO_map, wpO_some] at h
  exact Awp.of (by kernel_rfl) h

theorem impl_stepsToRoot_n6_l (x894 : List Int) (x895 : Int) : Link impl_stepsToRoot_ctx LL (Code.snd (Code.snd (bodyOf Tryd.f75))) (Ann.snd (Ann.snd impl_stepsToRoot_an)) (⟨mkE 18 0 [(0, .dat (.list (.int .i64)) x894), (6, .ptr 0 0)], [some (.box [.dat (.list (.int .i64)) x894, .dat (.int .i64) x895, .dat (.int .i64) 0])]⟩ : St) (impl_stepsToRoot_n6 x894 x895) (fun (t : Int × Bool) => (Exit.ret, (⟨mkE 18 0 [(4, .dat (.int .i64) t.1), (5, .dat .bool t.2)], []⟩ : St))) := by
  unfold impl_stepsToRoot_n6
  exact Link.cast (by kernel_rfl) (by kernel_rfl) (link_seq2 (b := (Code.snd (Code.snd (Code.snd (bodyOf Tryd.f75))))) (y := (Ann.snd (Ann.snd (Ann.snd impl_stepsToRoot_an)))) (impl_stepsToRoot_n4_l x894 x895) (fun (t : Int × Int) => (impl_stepsToRoot_n5_l x894 t.1 t.2)) (fun (t : Int × Bool) => t) (by
  rintro t
  · kernel_rfl) (by
  rintro t f K h
  · exact h))

theorem impl_stepsToRoot_n7_l (x894 : List Int) (x895 : Int) : Link impl_stepsToRoot_ctx LL (bodyOf Tryd.f75) impl_stepsToRoot_an (⟨mkE 18 0 [(0, .dat (.list (.int .i64)) x894), (1, .dat (.int .i64) x895)], []⟩ : St) (impl_stepsToRoot_n7 x894 x895) (fun (t : Int × Bool) => (Exit.ret, (⟨mkE 18 0 [(4, .dat (.int .i64) t.1), (5, .dat .bool t.2)], []⟩ : St))) := by
  unfold impl_stepsToRoot_n7
  exact Link.cast (by kernel_rfl) (by kernel_rfl) (link_group (c := (Code.fst (Code.snd (bodyOf Tryd.f75)))) (a := (Ann.fst (Ann.snd impl_stepsToRoot_an))) [(Code.fst (bodyOf Tryd.f75))] [(Ann.fst impl_stepsToRoot_an)] rfl (link_seq (b := (Code.snd (Code.snd (bodyOf Tryd.f75)))) (y := (Ann.snd (Ann.snd impl_stepsToRoot_an))) (impl_stepsToRoot_n1_l x894 x895) (fun (t : Unit) => (impl_stepsToRoot_n6_l x894 x895))))

theorem impl_stepsToRoot_e (x894 : List Int) (x895 : Int) {r : AV} {H' : Heap} (h : (Ans.mk _ (impl_stepsToRoot x894 x895) (fun (t : Int × Bool) => (.tup [.dat (.int .i64) t.1, .dat .bool t.2], []))).run = some (r, H')) : Awp impl_stepsToRoot_ctx LL (bodyOf Tryd.f75) impl_stepsToRoot_an (⟨mkE 18 0 [(0, .dat (.list (.int .i64)) x894), (1, .dat (.int .i64) x895)], []⟩ : St) (Ret (tlook tys) Tryd.f75.results.toList r H') :=
  ret_of' (impl_stepsToRoot_n7_l x894 x895) (by unfold impl_stepsToRoot; kernel_rfl) (by
  intro t
  exact ret_mk [.dat (.int .i64) t.1, .dat .bool t.2] (by kernel_rfl) (by kernel_rfl) (by kernel_rfl) (by kernel_rfl)) h

def F_impl_stepsToRoot : Fun := fun avs H =>
  match avs, H with
  | [.dat (.list (.int .i64)) x894, .dat (.int .i64) x895], [] => ⟨_, impl_stepsToRoot x894 x895, fun (t : Int × Bool) => (.tup [.dat (.int .i64) t.1, .dat .bool t.2], [])⟩
  | _, _ => Ans.no

theorem impl_stepsToRoot_sound : Sound Tryd.prog 75 F_impl_stepsToRoot := by
  refine fn_sound' (C := impl_stepsToRoot_ctx) (c := bodyOf Tryd.f75) (cok_of tys_ok (List.forall_mem_cons.2 ⟨impl_walker_up_sound, by simp⟩) (List.forall_mem_cons.2 ⟨Tryd.call61, by simp⟩) (by kernel_rfl)) Tryd.func75 (by kernel_rfl) LL impl_stepsToRoot_an ?_
  intro avs H r H' h
  unfold F_impl_stepsToRoot at h
  split at h
  · refine Awp.cast ?_ ?_ ?_ (impl_stepsToRoot_e _ _ h) <;> kernel_rfl
  · simp [Ans.no, Ans.run] at h


/-! loop.example/headtrees/impl.TreeOk -/

def impl_TreeOk_an : Ann := (.seq (.leaf [0]) (.seq (.seq (.leaf [0, 18]) (.cond (.seq (.leaf [2]) (.leaf [2])) (.leaf [0]))) (.seq (.seq (.leaf [0, 20, 21]) (.block (.loop (.seq (.leaf [0, 20, 21, 22]) (.seq (.cond (.leaf [0, 20, 21]) (.leaf [])) (.seq (.block (.seq (.leaf [0, 3, 20, 21]) (.seq (.leaf [0, 5, 20, 21]) (.seq (.leaf [0, 20, 21, 32]) (.cond (.seq (.leaf [2]) (.leaf [2])) (.leaf [0, 20, 21])))))) (.leaf [0, 20, 21]))))))) (.seq (.leaf [2]) (.leaf [2])))))

noncomputable def impl_TreeOk_ctx : Ctx := ⟨tlook tys, olook [(74, F_impl_oneRoot), (75, F_impl_stepsToRoot)], ioF, 0⟩

theorem impl_TreeOk_n1_l (x834 : List Int) : Link impl_TreeOk_ctx LL (Code.seq (Code.fst (bodyOf Tryd.f40)) (Code.fst (Code.snd (bodyOf Tryd.f40)))) (Ann.seq (Ann.fst impl_TreeOk_an) (Ann.fst (Ann.snd impl_TreeOk_an))) (⟨mkE 34 0 [(0, .dat (.list (.int .i64)) x834)], []⟩ : St) (impl_TreeOk_n1 x834) (Sum.elim (fun (t : Unit) => (Exit.normal, (⟨mkE 34 0 [(0, .dat (.list (.int .i64)) x834)], []⟩ : St))) (fun (t : Bool) => (Exit.ret, (⟨mkE 34 0 [(2, .dat .bool t)], []⟩ : St)))) := by
  refine Link.of fun K h => ?_
  simp only [impl_TreeOk_n1, wpO_bind, wpO_cond, wpO_map, wpO_some] at h
  exact Awp.of (by kernel_rfl) h

theorem impl_TreeOk_n2_l (x834 : List Int) : Link impl_TreeOk_ctx LL (Code.fst (Code.fst (Code.snd (Code.snd (bodyOf Tryd.f40))))) (Ann.fst (Ann.fst (Ann.snd (Ann.snd impl_TreeOk_an)))) (⟨mkE 34 0 [(0, .dat (.list (.int .i64)) x834)], []⟩ : St) (impl_TreeOk_n2 x834) (fun (t : Int) => (Exit.normal, (⟨mkE 34 0 [(0, .dat (.list (.int .i64)) x834), (20, .dat (.int .i64) t), (21, .dat (.int .i64) 0)], []⟩ : St))) := by
  refine Link.of fun K h => ?_
  simp only [impl_TreeOk_n2, wpO_bind, wpO_cond, wpO_map, wpO_some] at h
  exact Awp.of (by kernel_rfl) h

theorem impl_TreeOk_n3_l (x834 : List Int) (x889 : Int) (x957 : Int) : Link impl_TreeOk_ctx LL (Code.fst (Code.fst (Code.snd (Code.fst (Code.snd (Code.snd (bodyOf Tryd.f40))))))) (Ann.fst (Ann.fst (Ann.snd (Ann.fst (Ann.snd (Ann.snd impl_TreeOk_an)))))) (⟨mkE 34 0 [(0, .dat (.list (.int .i64)) x834), (20, .dat (.int .i64) x889), (21, .dat (.int .i64) x957)], []⟩ : St) (impl_TreeOk_n3 x834 x889 x957) (Sum.elim (fun (t : Int) => (Exit.normal, (⟨mkE 34 0 [(0, .dat (.list (.int .i64)) x834), (20, .dat (.int .i64) x889), (21, .dat (.int .i64) t)], []⟩ : St))) (Sum.elim (fun (t : Bool) => (Exit.ret, (⟨mkE 34 0 [(2, .dat .bool t)], []⟩ : St))) (fun (t : Unit) => ((Exit.exit 0), (⟨mkE 34 0 [], []⟩ : St))))) := by
  refine Link.of fun K h => ?_
  simp only [impl_TreeOk_n3, wpO_bind, wpO_cond, wpO_map, wpO_some] at h
  exact Awp.of (by kernel_rfl) h

theorem impl_TreeOk_n4_l (x834 : List Int) (x889 : Int) : Link impl_TreeOk_ctx LL (Code.fst (Code.snd (Code.fst (Code.snd (Code.snd (bodyOf Tryd.f40)))))) (Ann.fst (Ann.snd (Ann.fst (Ann.snd (Ann.snd impl_TreeOk_an))))) (⟨mkE 34 0 [(0, .dat (.list (.int .i64)) x834), (20, .dat (.int .i64) x889), (21, .dat (.int .i64) 0)], []⟩ : St) (impl_TreeOk_n4 x834 x889) (Sum.elim (fun (t : Bool) => (Exit.ret, (⟨mkE 34 0 [(2, .dat .bool t)], []⟩ : St))) (fun (t : Unit) => ((Exit.exit 0), (⟨mkE 34 0 [], []⟩ : St)))) := by
  unfold impl_TreeOk_n4
  exact Link.cast (by kernel_rfl) (by kernel_rfl) (link_loop (mk := fun (s : Int) => (⟨mkE 34 0 [(0, .dat (.list (.int .i64)) x834), (20, .dat (.int .i64) x889), (21, .dat (.int .i64) s)], []⟩ : St)) (fin := (Sum.elim (fun (t : Bool) => (Exit.ret, (⟨mkE 34 0 [(2, .dat .bool t)], []⟩ : St))) (fun (t : Unit) => ((Exit.exit 0), (⟨mkE 34 0 [], []⟩ : St))))) (by
  rintro (t | t) f K h
  · exact h
  · exact h) (fun s => link_map (impl_TreeOk_n3_l x834 x889 s) (Sum.elim (fun (t : Int) => Sum.inl t) (Sum.elim (fun (t : Bool) => Sum.inr (Sum.inl t)) (fun (t : Unit) => Sum.inr (Sum.inr t)))) (by
  rintro (t | t | t)
  · kernel_rfl
  · kernel_rfl
  · kernel_rfl)) 0)

theorem impl_TreeOk_n5_l (x834 : List Int) (x889 : Int) : Link impl_TreeOk_ctx LL (Code.snd (Code.fst (Code.snd (Code.snd (bodyOf Tryd.f40))))) (Ann.snd (Ann.fst (Ann.snd (Ann.snd impl_TreeOk_an)))) (⟨mkE 34 0 [(0, .dat (.list (.int .i64)) x834), (20, .dat (.int .i64) x889), (21, .dat (.int .i64) 0)], []⟩ : St) (impl_TreeOk_n5 x834 x889) (Sum.elim (fun (t : Unit) => (Exit.normal, (⟨mkE 34 0 [], []⟩ : St))) (fun (t : Bool) => (Exit.ret, (⟨mkE 34 0 [(2, .dat .bool t)], []⟩ : St)))) := by
  unfold impl_TreeOk_n5
  exact Link.cast (by kernel_rfl) (by kernel_rfl) (link_block (id := 0) (impl_TreeOk_n4_l x834 x889) (Sum.elim (fun (t : Bool) => (Sum.inr t)) (fun (t : Unit) => (Sum.inl ()))) (by
  rintro (t | t) K h
  · exact Eq.mp (by kernel_rfl) h
  · exact Eq.mp (by kernel_rfl) h))

theorem impl_TreeOk_n6_l (x834 : List Int) : Link impl_TreeOk_ctx LL (Code.fst (Code.snd (Code.snd (bodyOf Tryd.f40)))) (Ann.fst (Ann.snd (Ann.snd impl_TreeOk_an))) (⟨mkE 34 0 [(0, .dat (.list (.int .i64)) x834)], []⟩ : St) (impl_TreeOk_n6 x834) (Sum.elim (fun (t : Unit) => (Exit.normal, (⟨mkE 34 0 [], []⟩ : St))) (fun (t : Bool) => (Exit.ret, (⟨mkE 34 0 [(2, .dat .bool t)], []⟩ : St)))) := by
  unfold impl_TreeOk_n6
  exact Link.cast (by kernel_rfl) (by kernel_rfl) (link_seq (b := (Code.snd (Code.fst (Code.snd (Code.snd (bodyOf Tryd.f40)))))) (y := (Ann.snd (Ann.fst (Ann.snd (Ann.snd impl_TreeOk_an))))) (impl_TreeOk_n2_l x834) (fun (t : Int) => (impl_TreeOk_n5_l x834 t)))

theorem impl_TreeOk_n7_l : Link impl_TreeOk_ctx LL (Code.snd (Code.snd (Code.snd (bodyOf Tryd.f40)))) (Ann.snd (Ann.snd (Ann.snd impl_TreeOk_an))) (⟨mkE 34 0 [], []⟩ : St) (impl_TreeOk_n7) (fun (t : Bool) => (Exit.ret, (⟨mkE 34 0 [(2, .dat .bool t)], []⟩ : St))) := by
  refine Link.of fun K h => ?_
  simp only [impl_TreeOk_n7, wpO_bind, wpO_cond, wpO_map, wpO_some] at h
  exact Awp.of (by kernel_rfl) h

theorem impl_TreeOk_n8_l (x834 : List Int) : Link impl_TreeOk_ctx LL (Code.snd (Code.snd (bodyOf Tryd.f40))) (Ann.snd (Ann.snd impl_TreeOk_an)) (⟨mkE 34 0 [(0, .dat (.list (.int .i64)) x834)], []⟩ : St) (impl_TreeOk_n8 x834) (fun (t : Bool) => (Exit.ret, (⟨mkE 34 0 [(2, .dat .bool t)], []⟩ : St))) := by
  unfold impl_TreeOk_n8
  exact Link.cast (by kernel_rfl) (by kernel_rfl) (link_seq2 (b := (Code.snd (Code.snd (Code.snd (bodyOf Tryd.f40))))) (y := (Ann.snd (Ann.snd (Ann.snd impl_TreeOk_an)))) (impl_TreeOk_n6_l x834) (fun (t : Unit) => (impl_TreeOk_n7_l)) (fun (t : Bool) => t) (by
  rintro t
  · kernel_rfl) (by
  rintro t f K h
  · exact h))

theorem impl_TreeOk_n9_l (x834 : List Int) : Link impl_TreeOk_ctx LL (bodyOf Tryd.f40) impl_TreeOk_an (⟨mkE 34 0 [(0, .dat (.list (.int .i64)) x834)], []⟩ : St) (impl_TreeOk_n9 x834) (fun (t : Bool) => (Exit.ret, (⟨mkE 34 0 [(2, .dat .bool t)], []⟩ : St))) := by
  unfold impl_TreeOk_n9
  exact Link.cast (by kernel_rfl) (by kernel_rfl) (link_group (c := (Code.fst (Code.snd (bodyOf Tryd.f40)))) (a := (Ann.fst (Ann.snd impl_TreeOk_an))) [(Code.fst (bodyOf Tryd.f40))] [(Ann.fst impl_TreeOk_an)] rfl (link_seq2 (b := (Code.snd (Code.snd (bodyOf Tryd.f40)))) (y := (Ann.snd (Ann.snd impl_TreeOk_an))) (impl_TreeOk_n1_l x834) (fun (t : Unit) => (impl_TreeOk_n8_l x834)) (fun (t : Bool) => t) (by
  rintro t
  · kernel_rfl) (by
  rintro t f K h
  · exact h)))

theorem impl_TreeOk_e (x834 : List Int) {r : AV} {H' : Heap} (h : (Ans.mk _ (impl_TreeOk x834) (fun (t : Bool) => (.dat .bool t, []))).run = some (r, H')) : Awp impl_TreeOk_ctx LL (bodyOf Tryd.f40) impl_TreeOk_an (⟨mkE 34 0 [(0, .dat (.list (.int .i64)) x834)], []⟩ : St) (Ret (tlook tys) Tryd.f40.results.toList r H') :=
  ret_of' (impl_TreeOk_n9_l x834) (by unfold impl_TreeOk; kernel_rfl) (by
  intro t
  exact ret_mk [.dat .bool t] (by kernel_rfl) (by kernel_rfl) (by kernel_rfl) (by kernel_rfl)) h

def F_impl_TreeOk : Fun := fun avs H =>
  match avs, H with
  | [.dat (.list (.int .i64)) x834], [] => ⟨_, impl_TreeOk x834, fun (t : Bool) => (.dat .bool t, [])⟩
  | _, _ => Ans.no

theorem impl_TreeOk_sound : Sound Tryd.prog 40 F_impl_TreeOk := by
  refine fn_sound' (C := impl_TreeOk_ctx) (c := bodyOf Tryd.f40) (cok_of tys_ok (List.forall_mem_cons.2 ⟨impl_oneRoot_sound, List.forall_mem_cons.2 ⟨impl_stepsToRoot_sound, by simp⟩⟩) (List.forall_mem_cons.2 ⟨Tryd.call74, List.forall_mem_cons.2 ⟨Tryd.call75, by simp⟩⟩) (by kernel_rfl)) Tryd.func40 (by kernel_rfl) LL impl_TreeOk_an ?_
  intro avs H r H' h
  unfold F_impl_TreeOk at h
  split at h
  · refine Awp.cast ?_ ?_ ?_ (impl_TreeOk_e _ h) <;> kernel_rfl
  · simp [Ans.no, Ans.run] at h


/-! loop.example/headtrees/impl.wordOk -/

def impl_wordOk_an : Ann := (.seq (.leaf [0, 1]) (.seq (.leaf [4]) (.leaf [4])))

noncomputable def impl_wordOk_ctx : Ctx := ⟨tlook tys, olook [(40, F_impl_TreeOk)], ioF, 0⟩

theorem impl_wordOk_n1_l (x832 : List Int) (x833 : Int) : Link impl_wordOk_ctx LL (bodyOf Tryd.f55) impl_wordOk_an (⟨mkE 17 0 [(0, .dat (.list (.int .i64)) x832), (1, .dat (.int .i64) x833)], []⟩ : St) (impl_wordOk_n1 x832 x833) (fun (t : Bool) => (Exit.ret, (⟨mkE 17 0 [(4, .dat .bool t)], []⟩ : St))) := by
  refine Link.of fun K h => ?_
  simp only [impl_wordOk_n1, wpO_bind, wpO_cond, wpO_map, wpO_some] at h
  exact Awp.of (by kernel_rfl) h

theorem impl_wordOk_e (x832 : List Int) (x833 : Int) {r : AV} {H' : Heap} (h : (Ans.mk _ (impl_wordOk x832 x833) (fun (t : Bool) => (.dat .bool t, []))).run = some (r, H')) : Awp impl_wordOk_ctx LL (bodyOf Tryd.f55) impl_wordOk_an (⟨mkE 17 0 [(0, .dat (.list (.int .i64)) x832), (1, .dat (.int .i64) x833)], []⟩ : St) (Ret (tlook tys) Tryd.f55.results.toList r H') :=
  ret_of' (impl_wordOk_n1_l x832 x833) (by unfold impl_wordOk; kernel_rfl) (by
  intro t
  exact ret_mk [.dat .bool t] (by kernel_rfl) (by kernel_rfl) (by kernel_rfl) (by kernel_rfl)) h

def F_impl_wordOk : Fun := fun avs H =>
  match avs, H with
  | [.dat (.list (.int .i64)) x832, .dat (.int .i64) x833], [] => ⟨_, impl_wordOk x832 x833, fun (t : Bool) => (.dat .bool t, [])⟩
  | _, _ => Ans.no

theorem impl_wordOk_sound : Sound Tryd.prog 55 F_impl_wordOk := by
  refine fn_sound' (C := impl_wordOk_ctx) (c := bodyOf Tryd.f55) (cok_of tys_ok (List.forall_mem_cons.2 ⟨impl_TreeOk_sound, by simp⟩) (List.forall_mem_cons.2 ⟨Tryd.call40, by simp⟩) (by kernel_rfl)) Tryd.func55 (by kernel_rfl) LL impl_wordOk_an ?_
  intro avs H r H' h
  unfold F_impl_wordOk at h
  split at h
  · refine Awp.cast ?_ ?_ ?_ (impl_wordOk_e _ _ h) <;> kernel_rfl
  · simp [Ans.no, Ans.run] at h


/-! loop.example/headtrees/impl.RootOf -/

def impl_RootOf_an : Ann := (.seq (.leaf [0]) (.seq (.seq (.leaf [0, 6]) (.cond (.seq (.leaf [2]) (.leaf [2])) (.leaf [0]))) (.seq (.leaf [3]) (.seq (.block (.loop (.seq (.seq (.leaf [3, 9]) (.cond (.leaf [3]) (.leaf [3]))) (.block (.leaf [3]))))) (.seq (.leaf [2]) (.leaf [2]))))))

noncomputable def impl_RootOf_ctx : Ctx := ⟨tlook tys, olook [(40, F_impl_TreeOk), (61, F_impl_walker_up)], ioF, 0⟩

theorem impl_RootOf_n1_l (x994 : List Int) : Link impl_RootOf_ctx LL (Code.seq (Code.fst (bodyOf Tryd.f23)) (Code.seq (Code.fst (Code.snd (bodyOf Tryd.f23))) (Code.fst (Code.snd (Code.snd (bodyOf Tryd.f23)))))) (Ann.seq (Ann.fst impl_RootOf_an) (Ann.seq (Ann.fst (Ann.snd impl_RootOf_an)) (Ann.fst (Ann.snd (Ann.snd impl_RootOf_an))))) (⟨mkE 12 0 [(0, .dat (.list (.int .i64)) x994)], []⟩ : St) (impl_RootOf_n1 x994) (Sum.elim (fun (t : Unit) => (Exit.normal, (⟨mkE 12 0 [(3, .ptr 0 0)], [some (.box [.dat (.list (.int .i64)) x994, .dat (.int .i64) 1, .dat (.int .i64) 0])]⟩ : St))) (fun (t : Int) => (Exit.ret, (⟨mkE 12 0 [(2, .dat (.int .i64) t)], []⟩ : St)))) := by
  refine Link.of fun K h => ?_
  simp only [impl_RootOf_n1, wpO_bind, wpO_cond, wpO_map, wpO_some] at h
  exact Awp.of (by kernel_rfl) h

theorem impl_RootOf_n2_l (x994 : List Int) (x1007 : Int) (x1008 : Int) : Link impl_RootOf_ctx LL (Code.fst (Code.fst (Code.fst (Code.snd (Code.snd (Code.snd (bodyOf Tryd.f23))))))) (Ann.fst (Ann.fst (Ann.fst (Ann.snd (Ann.snd (Ann.snd impl_RootOf_an)))))) (⟨mkE 12 0 [(3, .ptr 0 0)], [some (.box [.dat (.list (.int .i64)) x994, .dat (.int .i64) x1007, .dat (.int .i64) x1008])]⟩ : St) (impl_RootOf_n2 x994 x1007 x1008) (Sum.elim (fun (t : Int × Int) => (Exit.normal, (⟨mkE 12 0 [(3, .ptr 0 0)], [some (.box [.dat (.list (.int .i64)) x994, .dat (.int .i64) t.1, .dat (.int .i64) t.2])]⟩ : St))) (fun (t : Int × Int) => ((Exit.exit 0), (⟨mkE 12 0 [(3, .ptr 0 0)], [some (.box [.dat (.list (.int .i64)) x994, .dat (.int .i64) t.1, .dat (.int .i64) t.2])]⟩ : St)))) := by
  refine Link.of fun K h => ?_
  simp only [impl_RootOf_n2, wpO_bind, wpO_cond, wpO_map, wpO_some] at h
  exact Awp.of (by kernel_rfl) h

theorem impl_RootOf_n3_l (x994 : List Int) : Link impl_RootOf_ctx LL (Code.fst (Code.fst (Code.snd (Code.snd (Code.snd (bodyOf Tryd.f23)))))) (Ann.fst (Ann.fst (Ann.snd (Ann.snd (Ann.snd impl_RootOf_an))))) (⟨mkE 12 0 [(3, .ptr 0 0)], [some (.box [.dat (.list (.int .i64)) x994, .dat (.int .i64) 1, .dat (.int .i64) 0])]⟩ : St) (impl_RootOf_n3 x994) (fun (t : Int × Int) => ((Exit.exit 0), (⟨mkE 12 0 [(3, .ptr 0 0)], [some (.box [.dat (.list (.int .i64)) x994, .dat (.int .i64) t.1, .dat (.int .i64) t.2])]⟩ : St))) := by
  unfold impl_RootOf_n3
  exact Link.cast (by kernel_rfl) (by kernel_rfl) (link_loop (mk := fun (s : Int × Int) => (⟨mkE 12 0 [(3, .ptr 0 0)], [some (.box [.dat (.list (.int .i64)) x994, .dat (.int .i64) s.1, .dat (.int .i64) s.2])]⟩ : St)) (fin := (fun (t : Int × Int) => ((Exit.exit 0), (⟨mkE 12 0 [(3, .ptr 0 0)], [some (.box [.dat (.list (.int .i64)) x994, .dat (.int .i64) t.1, .dat (.int .i64) t.2])]⟩ : St)))) (by
  rintro t f K h
  · exact h) (fun s => link_map (impl_RootOf_n2_l x994 s.1 s.2) (Sum.elim (fun (t : Int × Int) => Sum.inl (t.1, t.2)) (fun (t : Int × Int) => Sum.inr t)) (by
  rintro (t | t)
  · kernel_rfl
  · kernel_rfl)) (1, 0))

theorem impl_RootOf_n4_l (x994 : List Int) : Link impl_RootOf_ctx LL (Code.fst (Code.snd (Code.snd (Code.snd (bodyOf Tryd.f23))))) (Ann.fst (Ann.snd (Ann.snd (Ann.snd impl_RootOf_an)))) (⟨mkE 12 0 [(3, .ptr 0 0)], [some (.box [.dat (.list (.int .i64)) x994, .dat (.int .i64) 1, .dat (.int .i64) 0])]⟩ : St) (impl_RootOf_n4 x994) (fun (t : Int × Int) => (Exit.normal, (⟨mkE 12 0 [(3, .ptr 0 0)], [some (.box [.dat (.list (.int .i64)) x994, .dat (.int .i64) t.1, .dat (.int .i64) t.2])]⟩ : St))) := by
  unfold impl_RootOf_n4
  exact Link.cast (by kernel_rfl) (by kernel_rfl) (link_block (id := 0) (impl_RootOf_n3_l x994) (fun (t : Int × Int) => (t.1, t.2)) (by
  rintro t K h
  · exact Eq.mp (by kernel_rfl) h))

theorem impl_RootOf_n5_l (x994 : List Int) (x1015 : Int) (x1016 : Int) : Link impl_RootOf_ctx LL (Code.snd (Code.snd (Code.snd (Code.snd (bodyOf Tryd.f23))))) (Ann.snd (Ann.snd (Ann.snd (Ann.snd impl_RootOf_an)))) (⟨mkE 12 0 [(3, .ptr 0 0)], [some (.box [.dat (.list (.int .i64)) x994, .dat (.int .i64) x1015, .dat (.int .i64) x1016])]⟩ : St) (impl_RootOf_n5 x1015) (fun (t : Int) => (Exit.ret, (⟨mkE 12 0 [(2, .dat (.int .i64) t)], []⟩ : St))) := by
  refine Link.of fun K h => ?_
  simp only [impl_RootOf_n5, wpO_bind, wpO_cond, wpO_map, wpO_some] at h
  exact Awp.of (by kernel_rfl) h

theorem impl_RootOf_n6_l (x994 : List Int) : Link impl_RootOf_ctx LL (Code.snd (Code.snd (Code.snd (bodyOf Tryd.f23)))) (Ann.snd (Ann.snd (Ann.snd impl_RootOf_an))) (⟨mkE 12 0 [(3, .ptr 0 0)], [some (.box [.dat (.list (.int .i64)) x994, .dat (.int .i64) 1, .dat (.int .i64) 0])]⟩ : St) (impl_RootOf_n6 x994) (fun (t : Int) => (Exit.ret, (⟨mkE 12 0 [(2, .dat (.int .i64) t)], []⟩ : St))) := by
  unfold impl_RootOf_n6
  exact Link.cast (by kernel_rfl) (by kernel_rfl) (link_seq (b := (Code.snd (Code.snd (Code.snd (Code.snd (bodyOf Tryd.f23)))))) (y := (Ann.snd (Ann.snd (Ann.snd (Ann.snd impl_RootOf_an))))) (impl_RootOf_n4_l x994) (fun (t : Int × Int) => (impl_RootOf_n5_l x994 t.1 t.2)))

theorem impl_RootOf_n7_l (x994 : List Int) : Link impl_RootOf_ctx LL (bodyOf Tryd.f23) impl_RootOf_an (⟨mkE 12 0 [(0, .dat (.list (.int .i64)) x994)], []⟩ : St) (impl_RootOf_n7 x994) (fun (t : Int) => (Exit.ret, (⟨mkE 12 0 [(2, .dat (.int .i64) t)], []⟩ : St))) := by
  unfold impl_RootOf_n7
  exact Link.cast (by kernel_rfl) (by kernel_rfl) (link_group (c := (Code.fst (Code.snd (Code.snd (bodyOf Tryd.f23))))) (a := (Ann.fst (Ann.snd (Ann.snd impl_RootOf_an)))) [(Code.fst (bodyOf Tryd.f23)), (Code.fst (Code.snd (bodyOf Tryd.f23)))] [(Ann.fst impl_RootOf_an), (Ann.fst (Ann.snd impl_RootOf_an))] rfl (link_seq2 (b := (Code.snd (Code.snd (Code.snd (bodyOf Tryd.f23))))) (y := (Ann.snd (Ann.snd (Ann.snd impl_RootOf_an)))) (impl_RootOf_n1_l x994) (fun (t : Unit) => (impl_RootOf_n6_l x994)) (fun (t : Int) => t) (by
  rintro t
  · kernel_rfl) (by
  rintro t f K h
  · exact h)))

theorem impl_RootOf_e (x994 : List Int) {r : AV} {H' : Heap} (h : (Ans.mk _ (impl_RootOf x994) (fun (t : Int) => (.dat (.int .i64) t, []))).run = some (r, H')) : Awp impl_RootOf_ctx LL (bodyOf Tryd.f23) impl_RootOf_an (⟨mkE 12 0 [(0, .dat (.list (.int .i64)) x994)], []⟩ : St) (Ret (tlook tys) Tryd.f23.results.toList r H') :=
  ret_of' (impl_RootOf_n7_l x994) (by unfold impl_RootOf; kernel_rfl) (by
  intro t
  exact ret_mk [.dat (.int .i64) t] (by kernel_rfl) (by kernel_rfl) (by kernel_rfl) (by kernel_rfl)) h

def F_impl_RootOf : Fun := fun avs H =>
  match avs, H with
  | [.dat (.list (.int .i64)) x994], [] => ⟨_, impl_RootOf x994, fun (t : Int) => (.dat (.int .i64) t, [])⟩
  | _, _ => Ans.no

theorem impl_RootOf_sound : Sound Tryd.prog 23 F_impl_RootOf := by
  refine fn_sound' (C := impl_RootOf_ctx) (c := bodyOf Tryd.f23) (cok_of tys_ok (List.forall_mem_cons.2 ⟨impl_TreeOk_sound, List.forall_mem_cons.2 ⟨impl_walker_up_sound, by simp⟩⟩) (List.forall_mem_cons.2 ⟨Tryd.call40, List.forall_mem_cons.2 ⟨Tryd.call61, by simp⟩⟩) (by kernel_rfl)) Tryd.func23 (by kernel_rfl) LL impl_RootOf_an ?_
  intro avs H r H' h
  unfold F_impl_RootOf at h
  split at h
  · refine Awp.cast ?_ ?_ ?_ (impl_RootOf_e _ h) <;> kernel_rfl
  · simp [Ans.no, Ans.run] at h


/-! loop.example/headtrees/impl.only -/

def impl_only_an : Ann := (.seq (.leaf [0]) (.seq (.leaf [2]) (.leaf [2])))

noncomputable def impl_only_ctx : Ctx := ⟨tlook tys, olook [], ioF, 0⟩

theorem impl_only_n1_l (x1022 : Int) : Link impl_only_ctx LL (bodyOf Tryd.f65) impl_only_an (⟨mkE 6 0 [(0, .dat (.int .i64) x1022)], []⟩ : St) (impl_only_n1 x1022) (fun (t : Int) => (Exit.ret, (⟨mkE 6 0 [(2, .dat (.int .u64) t)], []⟩ : St))) := by
  refine Link.of fun K h => ?_
  simp only [impl_only_n1, wpO_bind, wpO_cond, wpO_map, wpO_some] at h
  exact Awp.of (by kernel_rfl) h

theorem impl_only_e (x1022 : Int) {r : AV} {H' : Heap} (h : (Ans.mk _ (impl_only x1022) (fun (t : Int) => (.dat (.int .u64) t, []))).run = some (r, H')) : Awp impl_only_ctx LL (bodyOf Tryd.f65) impl_only_an (⟨mkE 6 0 [(0, .dat (.int .i64) x1022)], []⟩ : St) (Ret (tlook tys) Tryd.f65.results.toList r H') :=
  ret_of' (impl_only_n1_l x1022) (by unfold impl_only; kernel_rfl) (by
  intro t
  exact ret_mk [.dat (.int .u64) t] (by kernel_rfl) (by kernel_rfl) (by kernel_rfl) (by kernel_rfl)) h

def F_impl_only : Fun := fun avs H =>
  match avs, H with
  | [.dat (.int .i64) x1022], [] => ⟨_, impl_only x1022, fun (t : Int) => (.dat (.int .u64) t, [])⟩
  | _, _ => Ans.no

theorem impl_only_sound : Sound Tryd.prog 65 F_impl_only := by
  refine fn_sound' (C := impl_only_ctx) (c := bodyOf Tryd.f65) (cok_of tys_ok (by simp) (by simp) (by kernel_rfl)) Tryd.func65 (by kernel_rfl) LL impl_only_an ?_
  intro avs H r H' h
  unfold F_impl_only at h
  split at h
  · refine Awp.cast ?_ ?_ ?_ (impl_only_e _ h) <;> kernel_rfl
  · simp [Ans.no, Ans.run] at h


/-! loop.example/headtrees/impl.dependents -/

def impl_dependents_an : Ann := (.seq (.leaf [0, 1]) (.seq (.leaf [0, 1, 5]) (.seq (.seq (.leaf [0, 1, 5, 8, 9]) (.block (.loop (.seq (.leaf [0, 1, 5, 8, 9, 10]) (.seq (.cond (.leaf [0, 1, 5, 8, 9]) (.leaf [5])) (.seq (.block (.seq (.leaf [0, 1, 5, 6, 8, 9]) (.seq (.leaf [0, 1, 5, 6, 8, 9, 17]) (.cond (.leaf [0, 1, 5, 8, 9]) (.leaf [0, 1, 5, 8, 9]))))) (.leaf [0, 1, 5, 8, 9]))))))) (.seq (.leaf [4]) (.leaf [4])))))

noncomputable def impl_dependents_ctx : Ctx := ⟨tlook tys, olook [(65, F_impl_only)], ioF, 0⟩

theorem impl_dependents_n1_l (x1028 : List Int) (x1029 : Int) : Link impl_dependents_ctx LL (Code.seq (Code.fst (bodyOf Tryd.f62)) (Code.fst (Code.snd (bodyOf Tryd.f62)))) (Ann.seq (Ann.fst impl_dependents_an) (Ann.fst (Ann.snd impl_dependents_an))) (⟨mkE 25 0 [(0, .dat (.list (.int .i64)) x1028), (1, .dat (.int .i64) x1029)], []⟩ : St) (impl_dependents_n1) (fun (t : Unit) => (Exit.normal, (⟨mkE 25 0 [(0, .dat (.list (.int .i64)) x1028), (1, .dat (.int .i64) x1029), (5, .dat (.int .u64) 0)], []⟩ : St))) := by
  refine Link.of fun K h => ?_
  simp only [impl_dependents_n1, wpO_bind, wpO_cond, wpO_map, wpO_some] at h
  exact Awp.of (by kernel_rfl) h

theorem impl_dependents_n2_l (x1028 : List Int) (x1029 : Int) : Link impl_dependents_ctx LL (Code.fst (Code.fst (Code.snd (Code.snd (bodyOf Tryd.f62))))) (Ann.fst (Ann.fst (Ann.snd (Ann.snd impl_dependents_an)))) (⟨mkE 25 0 [(0, .dat (.list (.int .i64)) x1028), (1, .dat (.int .i64) x1029), (5, .dat (.int .u64) 0)], []⟩ : St) (impl_dependents_n2 x1028) (fun (t : Int) => (Exit.normal, (⟨mkE 25 0 [(0, .dat (.list (.int .i64)) x1028), (1, .dat (.int .i64) x1029), (5, .dat (.int .u64) 0), (8, .dat (.int .i64) t), (9, .dat (.int .i64) 0)], []⟩ : St))) := by
  refine Link.of fun K h => ?_
  simp only [impl_dependents_n2, wpO_bind, wpO_cond, wpO_map, wpO_some] at h
  exact Awp.of (by kernel_rfl) h

theorem impl_dependents_n3_l (x1028 : List Int) (x1029 : Int) (x1049 : Int) (x1030 : Int) (x1050 : Int) : Link impl_dependents_ctx LL (Code.fst (Code.fst (Code.snd (Code.fst (Code.snd (Code.snd (bodyOf Tryd.f62))))))) (Ann.fst (Ann.fst (Ann.snd (Ann.fst (Ann.snd (Ann.snd impl_dependents_an)))))) (⟨mkE 25 0 [(0, .dat (.list (.int .i64)) x1028), (1, .dat (.int .i64) x1029), (5, .dat (.int .u64) x1049), (8, .dat (.int .i64) x1030), (9, .dat (.int .i64) x1050)], []⟩ : St) (impl_dependents_n3 x1028 x1029 x1049 x1030 x1050) (Sum.elim (fun (t : Int × Int) => (Exit.normal, (⟨mkE 25 0 [(0, .dat (.list (.int .i64)) x1028), (1, .dat (.int .i64) x1029), (5, .dat (.int .u64) t.1), (8, .dat (.int .i64) x1030), (9, .dat (.int .i64) t.2)], []⟩ : St))) (fun (t : Int) => ((Exit.exit 0), (⟨mkE 25 0 [(5, .dat (.int .u64) t)], []⟩ : St)))) := by
  refine Link.of fun K h => ?_
  simp only [impl_dependents_n3, wpO_bind, wpO_cond, wpO_map, wpO_some] at h
  exact Awp.of (by kernel_rfl) h

theorem impl_dependents_n4_l (x1028 : List Int) (x1029 : Int) (x1030 : Int) : Link impl_dependents_ctx LL (Code.fst (Code.snd (Code.fst (Code.snd (Code.snd (bodyOf Tryd.f62)))))) (Ann.fst (Ann.snd (Ann.fst (Ann.snd (Ann.snd impl_dependents_an))))) (⟨mkE 25 0 [(0, .dat (.list (.int .i64)) x1028), (1, .dat (.int .i64) x1029), (5, .dat (.int .u64) 0), (8, .dat (.int .i64) x1030), (9, .dat (.int .i64) 0)], []⟩ : St) (impl_dependents_n4 x1028 x1029 x1030) (fun (t : Int) => ((Exit.exit 0), (⟨mkE 25 0 [(5, .dat (.int .u64) t)], []⟩ : St))) := by
  unfold impl_dependents_n4
  exact Link.cast (by kernel_rfl) (by kernel_rfl) (link_loop (mk := fun (s : Int × Int) => (⟨mkE 25 0 [(0, .dat (.list (.int .i64)) x1028), (1, .dat (.int .i64) x1029), (5, .dat (.int .u64) s.1), (8, .dat (.int .i64) x1030), (9, .dat (.int .i64) s.2)], []⟩ : St)) (fin := (fun (t : Int) => ((Exit.exit 0), (⟨mkE 25 0 [(5, .dat (.int .u64) t)], []⟩ : St)))) (by
  rintro t f K h
  · exact h) (fun s => link_map (impl_dependents_n3_l x1028 x1029 s.1 x1030 s.2) (Sum.elim (fun (t : Int × Int) => Sum.inl (t.1, t.2)) (fun (t : Int) => Sum.inr t)) (by
  rintro (t | t)
  · kernel_rfl
  · kernel_rfl)) (0, 0))

theorem impl_dependents_n5_l (x1028 : List Int) (x1029 : Int) (x1030 : Int) : Link impl_dependents_ctx LL (Code.snd (Code.fst (Code.snd (Code.snd (bodyOf Tryd.f62))))) (Ann.snd (Ann.fst (Ann.snd (Ann.snd impl_dependents_an)))) (⟨mkE 25 0 [(0, .dat (.list (.int .i64)) x1028), (1, .dat (.int .i64) x1029), (5, .dat (.int .u64) 0), (8, .dat (.int .i64) x1030), (9, .dat (.int .i64) 0)], []⟩ : St) (impl_dependents_n5 x1028 x1029 x1030) (fun (t : Int) => (Exit.normal, (⟨mkE 25 0 [(5, .dat (.int .u64) t)], []⟩ : St))) := by
  unfold impl_dependents_n5
  exact Link.cast (by kernel_rfl) (by kernel_rfl) (link_block (id := 0) (impl_dependents_n4_l x1028 x1029 x1030) (fun (t : Int) => t) (by
  rintro t K h
  · exact Eq.mp (by kernel_rfl) h))

theorem impl_dependents_n6_l (x1028 : List Int) (x1029 : Int) : Link impl_dependents_ctx LL (Code.fst (Code.snd (Code.snd (bodyOf Tryd.f62)))) (Ann.fst (Ann.snd (Ann.snd impl_dependents_an))) (⟨mkE 25 0 [(0, .dat (.list (.int .i64)) x1028), (1, .dat (.int .i64) x1029), (5, .dat (.int .u64) 0)], []⟩ : St) (impl_dependents_n6 x1028 x1029) (fun (t : Int) => (Exit.normal, (⟨mkE 25 0 [(5, .dat (.int .u64) t)], []⟩ : St))) := by
  unfold impl_dependents_n6
  exact Link.cast (by kernel_rfl) (by kernel_rfl) (link_seq (b := (Code.snd (Code.fst (Code.snd (Code.snd (bodyOf Tryd.f62)))))) (y := (Ann.snd (Ann.fst (Ann.snd (Ann.snd impl_dependents_an))))) (impl_dependents_n2_l x1028 x1029) (fun (t : Int) => (impl_dependents_n5_l x1028 x1029 t)))

theorem impl_dependents_n7_l (x1049 : Int) : Link impl_dependents_ctx LL (Code.snd (Code.snd (Code.snd (bodyOf Tryd.f62)))) (Ann.snd (Ann.snd (Ann.snd impl_dependents_an))) (⟨mkE 25 0 [(5, .dat (.int .u64) x1049)], []⟩ : St) (impl_dependents_n7 x1049) (fun (t : Int) => (Exit.ret, (⟨mkE 25 0 [(4, .dat (.int .u64) t)], []⟩ : St))) := by
  refine Link.of fun K h => ?_
  simp only [impl_dependents_n7, wpO_bind, wpO_cond, wpO_map, wpO_some] at h
  exact Awp.of (by kernel_rfl) h

theorem impl_dependents_n8_l (x1028 : List Int) (x1029 : Int) : Link impl_dependents_ctx LL (Code.snd (Code.snd (bodyOf Tryd.f62))) (Ann.snd (Ann.snd impl_dependents_an)) (⟨mkE 25 0 [(0, .dat (.list (.int .i64)) x1028), (1, .dat (.int .i64) x1029), (5, .dat (.int .u64) 0)], []⟩ : St) (impl_dependents_n8 x1028 x1029) (fun (t : Int) => (Exit.ret, (⟨mkE 25 0 [(4, .dat (.int .u64) t)], []⟩ : St))) := by
  unfold impl_dependents_n8
  exact Link.cast (by kernel_rfl) (by kernel_rfl) (link_seq (b := (Code.snd (Code.snd (Code.snd (bodyOf Tryd.f62))))) (y := (Ann.snd (Ann.snd (Ann.snd impl_dependents_an)))) (impl_dependents_n6_l x1028 x1029) (fun (t : Int) => (impl_dependents_n7_l t)))

theorem impl_dependents_n9_l (x1028 : List Int) (x1029 : Int) : Link impl_dependents_ctx LL (bodyOf Tryd.f62) impl_dependents_an (⟨mkE 25 0 [(0, .dat (.list (.int .i64)) x1028), (1, .dat (.int .i64) x1029)], []⟩ : St) (impl_dependents_n9 x1028 x1029) (fun (t : Int) => (Exit.ret, (⟨mkE 25 0 [(4, .dat (.int .u64) t)], []⟩ : St))) := by
  unfold impl_dependents_n9
  exact Link.cast (by kernel_rfl) (by kernel_rfl) (link_group (c := (Code.fst (Code.snd (bodyOf Tryd.f62)))) (a := (Ann.fst (Ann.snd impl_dependents_an))) [(Code.fst (bodyOf Tryd.f62))] [(Ann.fst impl_dependents_an)] rfl (link_seq (b := (Code.snd (Code.snd (bodyOf Tryd.f62)))) (y := (Ann.snd (Ann.snd impl_dependents_an))) (impl_dependents_n1_l x1028 x1029) (fun (t : Unit) => (impl_dependents_n8_l x1028 x1029))))

theorem impl_dependents_e (x1028 : List Int) (x1029 : Int) {r : AV} {H' : Heap} (h : (Ans.mk _ (impl_dependents x1028 x1029) (fun (t : Int) => (.dat (.int .u64) t, []))).run = some (r, H')) : Awp impl_dependents_ctx LL (bodyOf Tryd.f62) impl_dependents_an (⟨mkE 25 0 [(0, .dat (.list (.int .i64)) x1028), (1, .dat (.int .i64) x1029)], []⟩ : St) (Ret (tlook tys) Tryd.f62.results.toList r H') :=
  ret_of' (impl_dependents_n9_l x1028 x1029) (by unfold impl_dependents; kernel_rfl) (by
  intro t
  exact ret_mk [.dat (.int .u64) t] (by kernel_rfl) (by kernel_rfl) (by kernel_rfl) (by kernel_rfl)) h

def F_impl_dependents : Fun := fun avs H =>
  match avs, H with
  | [.dat (.list (.int .i64)) x1028, .dat (.int .i64) x1029], [] => ⟨_, impl_dependents x1028 x1029, fun (t : Int) => (.dat (.int .u64) t, [])⟩
  | _, _ => Ans.no

theorem impl_dependents_sound : Sound Tryd.prog 62 F_impl_dependents := by
  refine fn_sound' (C := impl_dependents_ctx) (c := bodyOf Tryd.f62) (cok_of tys_ok (List.forall_mem_cons.2 ⟨impl_only_sound, by simp⟩) (List.forall_mem_cons.2 ⟨Tryd.call65, by simp⟩) (by kernel_rfl)) Tryd.func62 (by kernel_rfl) LL impl_dependents_an ?_
  intro avs H r H' h
  unfold F_impl_dependents at h
  split at h
  · refine Awp.cast ?_ ?_ ?_ (impl_dependents_e _ _ h) <;> kernel_rfl
  · simp [Ans.no, Ans.run] at h


/-! math/bits.OnesCount64 -/

def math_bits_OnesCount64_an : Ann := (.seq (.leaf [0]) (.seq (.leaf [0]) (.seq (.leaf [0]) (.seq (.leaf [0]) (.seq (.leaf [0]) (.seq (.leaf [0]) (.seq (.leaf [0]) (.seq (.leaf [2]) (.leaf [2])))))))))

noncomputable def math_bits_OnesCount64_ctx : Ctx := ⟨tlook tys, olook [], ioF, 0⟩

theorem math_bits_OnesCount64_n1_l (x1073 : Int) : Link math_bits_OnesCount64_ctx LL (Code.seq (Code.fst (bodyOf Tryd.f97)) (Code.fst (Code.snd (bodyOf Tryd.f97)))) (Ann.seq (Ann.fst math_bits_OnesCount64_an) (Ann.fst (Ann.snd math_bits_OnesCount64_an))) (⟨mkE 35 0 [(0, .dat (.int .u64) x1073)], []⟩ : St) (math_bits_OnesCount64_n1 x1073) (fun (t : Int) => (Exit.normal, (⟨mkE 35 0 [(0, .dat (.int .u64) t)], []⟩ : St))) := by
  refine Link.of fun K h => ?_
  simp only [math_bits_OnesCount64_n1, wpO_bind, wpO_cond, wpO_map, wpO_some] at h
  exact Awp.of (by kernel_rfl) h

theorem math_bits_OnesCount64_n2_l (x1078 : Int) : Link math_bits_OnesCount64_ctx LL (Code.fst (Code.snd (Code.snd (bodyOf Tryd.f97)))) (Ann.fst (Ann.snd (Ann.snd math_bits_OnesCount64_an))) (⟨mkE 35 0 [(0, .dat (.int .u64) x1078)], []⟩ : St) (math_bits_OnesCount64_n2 x1078) (fun (t : Int) => (Exit.normal, (⟨mkE 35 0 [(0, .dat (.int .u64) t)], []⟩ : St))) := by
  refine Link.of fun K h => ?_
  simp only [math_bits_OnesCount64_n2, wpO_bind, wpO_cond, wpO_map, wpO_some] at h
  exact Awp.of (by kernel_rfl) h

theorem math_bits_OnesCount64_n3_l (x1095 : Int) : Link math_bits_OnesCount64_ctx LL (Code.fst (Code.snd (Code.snd (Code.snd (bodyOf Tryd.f97))))) (Ann.fst (Ann.snd (Ann.snd (Ann.snd math_bits_OnesCount64_an)))) (⟨mkE 35 0 [(0, .dat (.int .u64) x1095)], []⟩ : St) (math_bits_OnesCount64_n3 x1095) (fun (t : Int) => (Exit.normal, (⟨mkE 35 0 [(0, .dat (.int .u64) t)], []⟩ : St))) := by
  refine Link.of fun K h => ?_
  simp only [math_bits_OnesCount64_n3, wpO_bind, wpO_cond, wpO_map, wpO_some] at h
  exact Awp.of (by kernel_rfl) h

theorem math_bits_OnesCount64_n4_l (x1102 : Int) : Link math_bits_OnesCount64_ctx LL (Code.fst (Code.snd (Code.snd (Code.snd (Code.snd (bodyOf Tryd.f97)))))) (Ann.fst (Ann.snd (Ann.snd (Ann.snd (Ann.snd math_bits_OnesCount64_an))))) (⟨mkE 35 0 [(0, .dat (.int .u64) x1102)], []⟩ : St) (math_bits_OnesCount64_n4 x1102) (fun (t : Int) => (Exit.normal, (⟨mkE 35 0 [(0, .dat (.int .u64) t)], []⟩ : St))) := by
  refine Link.of fun K h => ?_
  simp only [math_bits_OnesCount64_n4, wpO_bind, wpO_cond, wpO_map, wpO_some] at h
  exact Awp.of (by kernel_rfl) h

theorem math_bits_OnesCount64_n5_l (x1106 : Int) : Link math_bits_OnesCount64_ctx LL (Code.fst (Code.snd (Code.snd (Code.snd (Code.snd (Code.snd (bodyOf Tryd.f97))))))) (Ann.fst (Ann.snd (Ann.snd (Ann.snd (Ann.snd (Ann.snd math_bits_OnesCount64_an)))))) (⟨mkE 35 0 [(0, .dat (.int .u64) x1106)], []⟩ : St) (math_bits_OnesCount64_n5 x1106) (fun (t : Int) => (Exit.normal, (⟨mkE 35 0 [(0, .dat (.int .u64) t)], []⟩ : St))) := by
  refine Link.of fun K h => ?_
  simp only [math_bits_OnesCount64_n5, wpO_bind, wpO_cond, wpO_map, wpO_some] at h
  exact Awp.of (by kernel_rfl) h

theorem math_bits_OnesCount64_n6_l (x1111 : Int) : Link math_bits_OnesCount64_ctx LL (Code.fst (Code.snd (Code.snd (Code.snd (Code.snd (Code.snd (Code.snd (bodyOf Tryd.f97)))))))) (Ann.fst (Ann.snd (Ann.snd (Ann.snd (Ann.snd (Ann.snd (Ann.snd math_bits_OnesCount64_an))))))) (⟨mkE 35 0 [(0, .dat (.int .u64) x1111)], []⟩ : St) (math_bits_OnesCount64_n6 x1111) (fun (t : Int) => (Exit.normal, (⟨mkE 35 0 [(0, .dat (.int .u64) t)], []⟩ : St))) := by
  refine Link.of fun K h => ?_
  simp only [math_bits_OnesCount64_n6, wpO_bind, wpO_cond, wpO_map, wpO_some] at h
  exact Awp.of (by kernel_rfl) h

theorem math_bits_OnesCount64_n7_l (x1116 : Int) : Link math_bits_OnesCount64_ctx LL (Code.fst (Code.snd (Code.snd (Code.snd (Code.snd (Code.snd (Code.snd (Code.snd (bodyOf Tryd.f97))))))))) (Ann.fst (Ann.snd (Ann.snd (Ann.snd (Ann.snd (Ann.snd (Ann.snd (Ann.snd math_bits_OnesCount64_an)))))))) (⟨mkE 35 0 [(0, .dat (.int .u64) x1116)], []⟩ : St) (math_bits_OnesCount64_n7 x1116) (fun (t : Int) => (Exit.normal, (⟨mkE 35 0 [(2, .dat (.int .i64) t)], []⟩ : St))) := by
  refine Link.of fun K h => ?_
  simp only [math_bits_OnesCount64_n7, wpO_bind, wpO_cond, wpO_map, wpO_some] at h
  exact Awp.of (by kernel_rfl) h

theorem math_bits_OnesCount64_n8_l (x1121 : Int) : Link math_bits_OnesCount64_ctx LL (Code.snd (Code.snd (Code.snd (Code.snd (Code.snd (Code.snd (Code.snd (Code.snd (bodyOf Tryd.f97))))))))) (Ann.snd (Ann.snd (Ann.snd (Ann.snd (Ann.snd (Ann.snd (Ann.snd (Ann.snd math_bits_OnesCount64_an)))))))) (⟨mkE 35 0 [(2, .dat (.int .i64) x1121)], []⟩ : St) (math_bits_OnesCount64_n8 x1121) (fun (t : Int) => (Exit.ret, (⟨mkE 35 0 [(2, .dat (.int .i64) t)], []⟩ : St))) := by
  refine Link.of fun K h => ?_
  simp only [math_bits_OnesCount64_n8, wpO_bind, wpO_cond, wpO_map, wpO_some] at h
  exact Awp.of (by kernel_rfl) h

theorem math_bits_OnesCount64_n9_l (x1116 : Int) : Link math_bits_OnesCount64_ctx LL (Code.snd (Code.snd (Code.snd (Code.snd (Code.snd (Code.snd (Code.snd (bodyOf Tryd.f97)))))))) (Ann.snd (Ann.snd (Ann.snd (Ann.snd (Ann.snd (Ann.snd (Ann.snd math_bits_OnesCount64_an))))))) (⟨mkE 35 0 [(0, .dat (.int .u64) x1116)], []⟩ : St) (math_bits_OnesCount64_n9 x1116) (fun (t : Int) => (Exit.ret, (⟨mkE 35 0 [(2, .dat (.int .i64) t)], []⟩ : St))) := by
  unfold math_bits_OnesCount64_n9
  exact Link.cast (by kernel_rfl) (by kernel_rfl) (link_seq (b := (Code.snd (Code.snd (Code.snd (Code.snd (Code.snd (Code.snd (Code.snd (Code.snd (bodyOf Tryd.f97)))))))))) (y := (Ann.snd (Ann.snd (Ann.snd (Ann.snd (Ann.snd (Ann.snd (Ann.snd (Ann.snd math_bits_OnesCount64_an))))))))) (math_bits_OnesCount64_n7_l x1116) (fun (t : Int) => (math_bits_OnesCount64_n8_l t)))

theorem math_bits_OnesCount64_n10_l (x1111 : Int) : Link math_bits_OnesCount64_ctx LL (Code.snd (Code.snd (Code.snd (Code.snd (Code.snd (Code.snd (bodyOf Tryd.f97))))))) (Ann.snd (Ann.snd (Ann.snd (Ann.snd (Ann.snd (Ann.snd math_bits_OnesCount64_an)))))) (⟨mkE 35 0 [(0, .dat (.int .u64) x1111)], []⟩ : St) (math_bits_OnesCount64_n10 x1111) (fun (t : Int) => (Exit.ret, (⟨mkE 35 0 [(2, .dat (.int .i64) t)], []⟩ : St))) := by
  unfold math_bits_OnesCount64_n10
  exact Link.cast (by kernel_rfl) (by kernel_rfl) (link_seq (b := (Code.snd (Code.snd (Code.snd (Code.snd (Code.snd (Code.snd (Code.snd (bodyOf Tryd.f97))))))))) (y := (Ann.snd (Ann.snd (Ann.snd (Ann.snd (Ann.snd (Ann.snd (Ann.snd math_bits_OnesCount64_an)))))))) (math_bits_OnesCount64_n6_l x1111) (fun (t : Int) => (math_bits_OnesCount64_n9_l t)))

theorem math_bits_OnesCount64_n11_l (x1106 : Int) : Link math_bits_OnesCount64_ctx LL (Code.snd (Code.snd (Code.snd (Code.snd (Code.snd (bodyOf Tryd.f97)))))) (Ann.snd (Ann.snd (Ann.snd (Ann.snd (Ann.snd math_bits_OnesCount64_an))))) (⟨mkE 35 0 [(0, .dat (.int .u64) x1106)], []⟩ : St) (math_bits_OnesCount64_n11 x1106) (fun (t : Int) => (Exit.ret, (⟨mkE 35 0 [(2, .dat (.int .i64) t)], []⟩ : St))) := by
  unfold math_bits_OnesCount64_n11
  exact Link.cast (by kernel_rfl) (by kernel_rfl) (link_seq (b := (Code.snd (Code.snd (Code.snd (Code.snd (Code.snd (Code.snd (bodyOf Tryd.f97)))))))) (y := (Ann.snd (Ann.snd (Ann.snd (Ann.snd (Ann.snd (Ann.snd math_bits_OnesCount64_an))))))) (math_bits_OnesCount64_n5_l x1106) (fun (t : Int) => (math_bits_OnesCount64_n10_l t)))

theorem math_bits_OnesCount64_n12_l (x1102 : Int) : Link math_bits_OnesCount64_ctx LL (Code.snd (Code.snd (Code.snd (Code.snd (bodyOf Tryd.f97))))) (Ann.snd (Ann.snd (Ann.snd (Ann.snd math_bits_OnesCount64_an)))) (⟨mkE 35 0 [(0, .dat (.int .u64) x1102)], []⟩ : St) (math_bits_OnesCount64_n12 x1102) (fun (t : Int) => (Exit.ret, (⟨mkE 35 0 [(2, .dat (.int .i64) t)], []⟩ : St))) := by
  unfold math_bits_OnesCount64_n12
  exact Link.cast (by kernel_rfl) (by kernel_rfl) (link_seq (b := (Code.snd (Code.snd (Code.snd (Code.snd (Code.snd (bodyOf Tryd.f97))))))) (y := (Ann.snd (Ann.snd (Ann.snd (Ann.snd (Ann.snd math_bits_OnesCount64_an)))))) (math_bits_OnesCount64_n4_l x1102) (fun (t : Int) => (math_bits_OnesCount64_n11_l t)))

theorem math_bits_OnesCount64_n13_l (x1095 : Int) : Link math_bits_OnesCount64_ctx LL (Code.snd (Code.snd (Code.snd (bodyOf Tryd.f97)))) (Ann.snd (Ann.snd (Ann.snd math_bits_OnesCount64_an))) (⟨mkE 35 0 [(0, .dat (.int .u64) x1095)], []⟩ : St) (math_bits_OnesCount64_n13 x1095) (fun (t : Int) => (Exit.ret, (⟨mkE 35 0 [(2, .dat (.int .i64) t)], []⟩ : St))) := by
  unfold math_bits_OnesCount64_n13
  exact Link.cast (by kernel_rfl) (by kernel_rfl) (link_seq (b := (Code.snd (Code.snd (Code.snd (Code.snd (bodyOf Tryd.f97)))))) (y := (Ann.snd (Ann.snd (Ann.snd (Ann.snd math_bits_OnesCount64_an))))) (math_bits_OnesCount64_n3_l x1095) (fun (t : Int) => (math_bits_OnesCount64_n12_l t)))

theorem math_bits_OnesCount64_n14_l (x1078 : Int) : Link math_bits_OnesCount64_ctx LL (Code.snd (Code.snd (bodyOf Tryd.f97))) (Ann.snd (Ann.snd math_bits_OnesCount64_an)) (⟨mkE 35 0 [(0, .dat (.int .u64) x1078)], []⟩ : St) (math_bits_OnesCount64_n14 x1078) (fun (t : Int) => (Exit.ret, (⟨mkE 35 0 [(2, .dat (.int .i64) t)], []⟩ : St))) := by
  unfold math_bits_OnesCount64_n14
  exact Link.cast (by kernel_rfl) (by kernel_rfl) (link_seq (b := (Code.snd (Code.snd (Code.snd (bodyOf Tryd.f97))))) (y := (Ann.snd (Ann.snd (Ann.snd math_bits_OnesCount64_an)))) (math_bits_OnesCount64_n2_l x1078) (fun (t : Int) => (math_bits_OnesCount64_n13_l t)))

theorem math_bits_OnesCount64_n15_l (x1073 : Int) : Link math_bits_OnesCount64_ctx LL (bodyOf Tryd.f97) math_bits_OnesCount64_an (⟨mkE 35 0 [(0, .dat (.int .u64) x1073)], []⟩ : St) (math_bits_OnesCount64_n15 x1073) (fun (t : Int) => (Exit.ret, (⟨mkE 35 0 [(2, .dat (.int .i64) t)], []⟩ : St))) := by
  unfold math_bits_OnesCount64_n15
  exact Link.cast (by kernel_rfl) (by kernel_rfl) (link_group (c := (Code.fst (Code.snd (bodyOf Tryd.f97)))) (a := (Ann.fst (Ann.snd math_bits_OnesCount64_an))) [(Code.fst (bodyOf Tryd.f97))] [(Ann.fst math_bits_OnesCount64_an)] rfl (link_seq (b := (Code.snd (Code.snd (bodyOf Tryd.f97)))) (y := (Ann.snd (Ann.snd math_bits_OnesCount64_an))) (math_bits_OnesCount64_n1_l x1073) (fun (t : Int) => (math_bits_OnesCount64_n14_l t))))

theorem math_bits_OnesCount64_e (x1073 : Int) {r : AV} {H' : Heap} (h : (Ans.mk _ (math_bits_OnesCount64 x1073) (fun (t : Int) => (.dat (.int .i64) t, []))).run = some (r, H')) : Awp math_bits_OnesCount64_ctx LL (bodyOf Tryd.f97) math_bits_OnesCount64_an (⟨mkE 35 0 [(0, .dat (.int .u64) x1073)], []⟩ : St) (Ret (tlook tys) Tryd.f97.results.toList r H') :=
  ret_of' (math_bits_OnesCount64_n15_l x1073) (by unfold math_bits_OnesCount64; kernel_rfl) (by
  intro t
  exact ret_mk [.dat (.int .i64) t] (by kernel_rfl) (by kernel_rfl) (by kernel_rfl) (by kernel_rfl)) h

def F_math_bits_OnesCount64 : Fun := fun avs H =>
  match avs, H with
  | [.dat (.int .u64) x1073], [] => ⟨_, math_bits_OnesCount64 x1073, fun (t : Int) => (.dat (.int .i64) t, [])⟩
  | _, _ => Ans.no

theorem math_bits_OnesCount64_sound : Sound Tryd.prog 97 F_math_bits_OnesCount64 := by
  refine fn_sound' (C := math_bits_OnesCount64_ctx) (c := bodyOf Tryd.f97) (cok_of tys_ok (by simp) (by simp) (by kernel_rfl)) Tryd.func97 (by kernel_rfl) LL math_bits_OnesCount64_an ?_
  intro avs H r H' h
  unfold F_math_bits_OnesCount64 at h
  split at h
  · refine Awp.cast ?_ ?_ ?_ (math_bits_OnesCount64_e _ h) <;> kernel_rfl
  · simp [Ans.no, Ans.run] at h


/-! math/bits.OnesCount -/

def math_bits_OnesCount_an : Ann := (.seq (.leaf [0]) (.seq (.cond (.seq (.leaf [2]) (.leaf [2])) (.leaf [0])) (.seq (.leaf [2]) (.leaf [2]))))

noncomputable def math_bits_OnesCount_ctx : Ctx := ⟨tlook tys, olook [(97, F_math_bits_OnesCount64)], ioF, 0⟩

theorem math_bits_OnesCount_n1_l (x1072 : Int) : Link math_bits_OnesCount_ctx LL (bodyOf Tryd.f84) math_bits_OnesCount_an (⟨mkE 8 0 [(0, .dat (.int .u64) x1072)], []⟩ : St) (math_bits_OnesCount_n1 x1072) (fun (t : Int) => (Exit.ret, (⟨mkE 8 0 [(2, .dat (.int .i64) t)], []⟩ : St))) := by
  refine Link.of fun K h => ?_
  simp only [math_bits_OnesCount_n1, wpO_bind, wpO_cond, wpO_map, wpO_some] at h
  exact Awp.of (by kernel_rfl) h

theorem math_bits_OnesCount_e (x1072 : Int) {r : AV} {H' : Heap} (h : (Ans.mk _ (math_bits_OnesCount x1072) (fun (t : Int) => (.dat (.int .i64) t, []))).run = some (r, H')) : Awp math_bits_OnesCount_ctx LL (bodyOf Tryd.f84) math_bits_OnesCount_an (⟨mkE 8 0 [(0, .dat (.int .u64) x1072)], []⟩ : St) (Ret (tlook tys) Tryd.f84.results.toList r H') :=
  ret_of' (math_bits_OnesCount_n1_l x1072) (by unfold math_bits_OnesCount; kernel_rfl) (by
  intro t
  exact ret_mk [.dat (.int .i64) t] (by kernel_rfl) (by kernel_rfl) (by kernel_rfl) (by kernel_rfl)) h

def F_math_bits_OnesCount : Fun := fun avs H =>
  match avs, H with
  | [.dat (.int .u64) x1072], [] => ⟨_, math_bits_OnesCount x1072, fun (t : Int) => (.dat (.int .i64) t, [])⟩
  | _, _ => Ans.no

theorem math_bits_OnesCount_sound : Sound Tryd.prog 84 F_math_bits_OnesCount := by
  refine fn_sound' (C := math_bits_OnesCount_ctx) (c := bodyOf Tryd.f84) (cok_of tys_ok (List.forall_mem_cons.2 ⟨math_bits_OnesCount64_sound, by simp⟩) (List.forall_mem_cons.2 ⟨Tryd.call97, by simp⟩) (by kernel_rfl)) Tryd.func84 (by kernel_rfl) LL math_bits_OnesCount_an ?_
  intro avs H r H' h
  unfold F_math_bits_OnesCount at h
  split at h
  · refine Awp.cast ?_ ?_ ?_ (math_bits_OnesCount_e _ h) <;> kernel_rfl
  · simp [Ans.no, Ans.run] at h


/-! (loop.example/headtrees/impl.wordSet).count -/

def impl_wordSet_count_an : Ann := (.seq (.leaf [0]) (.seq (.leaf [2]) (.leaf [2])))

noncomputable def impl_wordSet_count_ctx : Ctx := ⟨tlook tys, olook [(84, F_math_bits_OnesCount)], ioF, 0⟩

theorem impl_wordSet_count_n1_l (x1071 : Int) : Link impl_wordSet_count_ctx LL (bodyOf Tryd.f67) impl_wordSet_count_an (⟨mkE 5 0 [(0, .dat (.int .u64) x1071)], []⟩ : St) (impl_wordSet_count_n1 x1071) (fun (t : Int) => (Exit.ret, (⟨mkE 5 0 [(2, .dat (.int .i64) t)], []⟩ : St))) := by
  refine Link.of fun K h => ?_
  simp only [impl_wordSet_count_n1, wpO_bind, wpO_cond, wpO_map, wpO_some] at h
  exact Awp.of (by kernel_rfl) h

theorem impl_wordSet_count_e (x1071 : Int) {r : AV} {H' : Heap} (h : (Ans.mk _ (impl_wordSet_count x1071) (fun (t : Int) => (.dat (.int .i64) t, []))).run = some (r, H')) : Awp impl_wordSet_count_ctx LL (bodyOf Tryd.f67) impl_wordSet_count_an (⟨mkE 5 0 [(0, .dat (.int .u64) x1071)], []⟩ : St) (Ret (tlook tys) Tryd.f67.results.toList r H') :=
  ret_of' (impl_wordSet_count_n1_l x1071) (by unfold impl_wordSet_count; kernel_rfl) (by
  intro t
  exact ret_mk [.dat (.int .i64) t] (by kernel_rfl) (by kernel_rfl) (by kernel_rfl) (by kernel_rfl)) h

def F_impl_wordSet_count : Fun := fun avs H =>
  match avs, H with
  | [.dat (.int .u64) x1071], [] => ⟨_, impl_wordSet_count x1071, fun (t : Int) => (.dat (.int .i64) t, [])⟩
  | _, _ => Ans.no

theorem impl_wordSet_count_sound : Sound Tryd.prog 67 F_impl_wordSet_count := by
  refine fn_sound' (C := impl_wordSet_count_ctx) (c := bodyOf Tryd.f67) (cok_of tys_ok (List.forall_mem_cons.2 ⟨math_bits_OnesCount_sound, by simp⟩) (List.forall_mem_cons.2 ⟨Tryd.call84, by simp⟩) (by kernel_rfl)) Tryd.func67 (by kernel_rfl) LL impl_wordSet_count_an ?_
  intro avs H r H' h
  unfold F_impl_wordSet_count at h
  split at h
  · refine Awp.cast ?_ ?_ ?_ (impl_wordSet_count_e _ h) <;> kernel_rfl
  · simp [Ans.no, Ans.run] at h


/-! math/bits.TrailingZeros64 -/

def math_bits_TrailingZeros64_an : Ann := (.seq (.leaf [0]) (.seq (.seq (.leaf [0, 4]) (.cond (.seq (.leaf [2]) (.leaf [2])) (.leaf [0]))) (.seq (.leaf [2]) (.leaf [2]))))

noncomputable def math_bits_TrailingZeros64_ctx : Ctx := ⟨tlook tys, olook [], ioF, 0⟩

theorem math_bits_TrailingZeros64_n1_l (x1132 : Int) : Link math_bits_TrailingZeros64_ctx LL (bodyOf Tryd.f95) math_bits_TrailingZeros64_an (⟨mkE 14 0 [(0, .dat (.int .u64) x1132)], []⟩ : St) (math_bits_TrailingZeros64_n1 x1132) (fun (t : Int) => (Exit.ret, (⟨mkE 14 0 [(2, .dat (.int .i64) t)], []⟩ : St))) := by
  refine Link.of fun K h => ?_
  simp only [math_bits_TrailingZeros64_n1, wpO_bind, wpO_cond, wpO_map, wpO_some] at h
  exact Awp.of (by kernel_rfl) h

theorem math_bits_TrailingZeros64_e (x1132 : Int) {r : AV} {H' : Heap} (h : (Ans.mk _ (math_bits_TrailingZeros64 x1132) (fun (t : Int) => (.dat (.int .i64) t, []))).run = some (r, H')) : Awp math_bits_TrailingZeros64_ctx LL (bodyOf Tryd.f95) math_bits_TrailingZeros64_an (⟨mkE 14 0 [(0, .dat (.int .u64) x1132)], []⟩ : St) (Ret (tlook tys) Tryd.f95.results.toList r H') :=
  ret_of' (math_bits_TrailingZeros64_n1_l x1132) (by unfold math_bits_TrailingZeros64; kernel_rfl) (by
  intro t
  exact ret_mk [.dat (.int .i64) t] (by kernel_rfl) (by kernel_rfl) (by kernel_rfl) (by kernel_rfl)) h

def F_math_bits_TrailingZeros64 : Fun := fun avs H =>
  match avs, H with
  | [.dat (.int .u64) x1132], [] => ⟨_, math_bits_TrailingZeros64 x1132, fun (t : Int) => (.dat (.int .i64) t, [])⟩
  | _, _ => Ans.no

theorem math_bits_TrailingZeros64_sound : Sound Tryd.prog 95 F_math_bits_TrailingZeros64 := by
  refine fn_sound' (C := math_bits_TrailingZeros64_ctx) (c := bodyOf Tryd.f95) (cok_of tys_ok (by simp) (by simp) (by kernel_rfl)) Tryd.func95 (by kernel_rfl) LL math_bits_TrailingZeros64_an ?_
  intro avs H r H' h
  unfold F_math_bits_TrailingZeros64 at h
  split at h
  · refine Awp.cast ?_ ?_ ?_ (math_bits_TrailingZeros64_e _ h) <;> kernel_rfl
  · simp [Ans.no, Ans.run] at h


/-! math/bits.TrailingZeros -/

def math_bits_TrailingZeros_an : Ann := (.seq (.leaf [0]) (.seq (.cond (.seq (.leaf [2]) (.leaf [2])) (.leaf [0])) (.seq (.leaf [2]) (.leaf [2]))))

noncomputable def math_bits_TrailingZeros_ctx : Ctx := ⟨tlook tys, olook [(95, F_math_bits_TrailingZeros64)], ioF, 0⟩

theorem math_bits_TrailingZeros_n1_l (x1131 : Int) : Link math_bits_TrailingZeros_ctx LL (bodyOf Tryd.f83) math_bits_TrailingZeros_an (⟨mkE 8 0 [(0, .dat (.int .u64) x1131)], []⟩ : St) (math_bits_TrailingZeros_n1 x1131) (fun (t : Int) => (Exit.ret, (⟨mkE 8 0 [(2, .dat (.int .i64) t)], []⟩ : St))) := by
  refine Link.of fun K h => ?_
  simp only [math_bits_TrailingZeros_n1, wpO_bind, wpO_cond, wpO_map, wpO_some] at h
  exact Awp.of (by kernel_rfl) h

theorem math_bits_TrailingZeros_e (x1131 : Int) {r : AV} {H' : Heap} (h : (Ans.mk _ (math_bits_TrailingZeros x1131) (fun (t : Int) => (.dat (.int .i64) t, []))).run = some (r, H')) : Awp math_bits_TrailingZeros_ctx LL (bodyOf Tryd.f83) math_bits_TrailingZeros_an (⟨mkE 8 0 [(0, .dat (.int .u64) x1131)], []⟩ : St) (Ret (tlook tys) Tryd.f83.results.toList r H') :=
  ret_of' (math_bits_TrailingZeros_n1_l x1131) (by unfold math_bits_TrailingZeros; kernel_rfl) (by
  intro t
  exact ret_mk [.dat (.int .i64) t] (by kernel_rfl) (by kernel_rfl) (by kernel_rfl) (by kernel_rfl)) h

def F_math_bits_TrailingZeros : Fun := fun avs H =>
  match avs, H with
  | [.dat (.int .u64) x1131], [] => ⟨_, math_bits_TrailingZeros x1131, fun (t : Int) => (.dat (.int .i64) t, [])⟩
  | _, _ => Ans.no

theorem math_bits_TrailingZeros_sound : Sound Tryd.prog 83 F_math_bits_TrailingZeros := by
  refine fn_sound' (C := math_bits_TrailingZeros_ctx) (c := bodyOf Tryd.f83) (cok_of tys_ok (List.forall_mem_cons.2 ⟨math_bits_TrailingZeros64_sound, by simp⟩) (List.forall_mem_cons.2 ⟨Tryd.call95, by simp⟩) (by kernel_rfl)) Tryd.func83 (by kernel_rfl) LL math_bits_TrailingZeros_an ?_
  intro avs H r H' h
  unfold F_math_bits_TrailingZeros at h
  split at h
  · refine Awp.cast ?_ ?_ ?_ (math_bits_TrailingZeros_e _ h) <;> kernel_rfl
  · simp [Ans.no, Ans.run] at h


/-! (loop.example/headtrees/impl.wordSet).list -/

def impl_wordSet_list_an : Ann := (.seq (.leaf [0]) (.seq (.leaf [0, 3]) (.seq (.seq (.leaf [3, 4]) (.block (.loop (.seq (.seq (.leaf [3, 4, 10]) (.cond (.leaf [3, 4]) (.leaf [3]))) (.seq (.block (.leaf [3, 4])) (.leaf [3, 4])))))) (.seq (.leaf [2]) (.leaf [2])))))

noncomputable def impl_wordSet_list_ctx : Ctx := ⟨tlook tys, olook [(67, F_impl_wordSet_count), (83, F_math_bits_TrailingZeros)], ioF, 0⟩

theorem impl_wordSet_list_n1_l (x1070 : Int) : Link impl_wordSet_list_ctx LL (Code.seq (Code.fst (bodyOf Tryd.f57)) (Code.fst (Code.snd (bodyOf Tryd.f57)))) (Ann.seq (Ann.fst impl_wordSet_list_an) (Ann.fst (Ann.snd impl_wordSet_list_an))) (⟨mkE 22 0 [(0, .dat (.int .u64) x1070)], []⟩ : St) (impl_wordSet_list_n1 x1070) (fun (t : (List Int)) => (Exit.normal, (⟨mkE 22 0 [(0, .dat (.int .u64) x1070), (3, .slc 0)], [some (.seq (.int .i64) t)]⟩ : St))) := by
  refine Link.of fun K h => ?_
  simp only [impl_wordSet_list_n1, wpO_bind, wpO_cond, wpO_map, wpO_some] at h
  exact Awp.of (by kernel_rfl) h

theorem impl_wordSet_list_n2_l (x1070 : Int) (x1128 : List Int) : Link impl_wordSet_list_ctx LL (Code.fst (Code.fst (Code.snd (Code.snd (bodyOf Tryd.f57))))) (Ann.fst (Ann.fst (Ann.snd (Ann.snd impl_wordSet_list_an)))) (⟨mkE 22 0 [(0, .dat (.int .u64) x1070), (3, .slc 0)], [some (.seq (.int .i64) x1128)]⟩ : St) (impl_wordSet_list_n2) (fun (t : Unit) => (Exit.normal, (⟨mkE 22 0 [(3, .slc 0), (4, .dat (.int .u64) x1070)], [some (.seq (.int .i64) x1128)]⟩ : St))) := by
  refine Link.of fun K h => ?_
  simp only [impl_wordSet_list_n2, wpO_bind, wpO_cond, wpO_map, wpO_some] at h
  exact Awp.of (by kernel_rfl) h

theorem impl_wordSet_list_n3_l (x1171 : Int) (x1172 : List Int) : Link impl_wordSet_list_ctx LL (Code.fst (Code.fst (Code.snd (Code.fst (Code.snd (Code.snd (bodyOf Tryd.f57))))))) (Ann.fst (Ann.fst (Ann.snd (Ann.fst (Ann.snd (Ann.snd impl_wordSet_list_an)))))) (⟨mkE 22 0 [(3, .slc 0), (4, .dat (.int .u64) x1171)], [some (.seq (.int .i64) x1172)]⟩ : St) (impl_wordSet_list_n3 x1171 x1172) (Sum.elim (fun (t : Int × (List Int)) => (Exit.normal, (⟨mkE 22 0 [(3, .slc 0), (4, .dat (.int .u64) t.1)], [some (.seq (.int .i64) t.2)]⟩ : St))) (fun (t : (List Int)) => ((Exit.exit 0), (⟨mkE 22 0 [(3, .slc 0)], [some (.seq (.int .i64) t)]⟩ : St)))) := by
  refine Link.of fun K h => ?_
  simp only [impl_wordSet_list_n3, wpO_bind, wpO_cond, wpO_map, wpO_some] at h
  exact Awp.of (by kernel_rfl) h

theorem impl_wordSet_list_n4_l (x1070 : Int) (x1128 : List Int) : Link impl_wordSet_list_ctx LL (Code.fst (Code.snd (Code.fst (Code.snd (Code.snd (bodyOf Tryd.f57)))))) (Ann.fst (Ann.snd (Ann.fst (Ann.snd (Ann.snd impl_wordSet_list_an))))) (⟨mkE 22 0 [(3, .slc 0), (4, .dat (.int .u64) x1070)], [some (.seq (.int .i64) x1128)]⟩ : St) (impl_wordSet_list_n4 x1070 x1128) (fun (t : (List Int)) => ((Exit.exit 0), (⟨mkE 22 0 [(3, .slc 0)], [some (.seq (.int .i64) t)]⟩ : St))) := by
  unfold impl_wordSet_list_n4
  exact Link.cast (by kernel_rfl) (by kernel_rfl) (link_loop (mk := fun (s : Int × (List Int)) => (⟨mkE 22 0 [(3, .slc 0), (4, .dat (.int .u64) s.1)], [some (.seq (.int .i64) s.2)]⟩ : St)) (fin := (fun (t : (List Int)) => ((Exit.exit 0), (⟨mkE 22 0 [(3, .slc 0)], [some (.seq (.int .i64) t)]⟩ : St)))) (by
  rintro t f K h
  · exact h) (fun s => link_map (impl_wordSet_list_n3_l s.1 s.2) (Sum.elim (fun (t : Int × (List Int)) => Sum.inl (t.1, t.2)) (fun (t : (List Int)) => Sum.inr t)) (by
  rintro (t | t)
  · kernel_rfl
  · kernel_rfl)) (x1070, x1128))

theorem impl_wordSet_list_n5_l (x1070 : Int) (x1128 : List Int) : Link impl_wordSet_list_ctx LL (Code.snd (Code.fst (Code.snd (Code.snd (bodyOf Tryd.f57))))) (Ann.snd (Ann.fst (Ann.snd (Ann.snd impl_wordSet_list_an)))) (⟨mkE 22 0 [(3, .slc 0), (4, .dat (.int .u64) x1070)], [some (.seq (.int .i64) x1128)]⟩ : St) (impl_wordSet_list_n5 x1070 x1128) (fun (t : (List Int)) => (Exit.normal, (⟨mkE 22 0 [(3, .slc 0)], [some (.seq (.int .i64) t)]⟩ : St))) := by
  unfold impl_wordSet_list_n5
  exact Link.cast (by kernel_rfl) (by kernel_rfl) (link_block (id := 0) (impl_wordSet_list_n4_l x1070 x1128) (fun (t : (List Int)) => t) (by
  rintro t K h
  · exact Eq.mp (by kernel_rfl) h))

theorem impl_wordSet_list_n6_l (x1070 : Int) (x1128 : List Int) : Link impl_wordSet_list_ctx LL (Code.fst (Code.snd (Code.snd (bodyOf Tryd.f57)))) (Ann.fst (Ann.snd (Ann.snd impl_wordSet_list_an))) (⟨mkE 22 0 [(0, .dat (.int .u64) x1070), (3, .slc 0)], [some (.seq (.int .i64) x1128)]⟩ : St) (impl_wordSet_list_n6 x1070 x1128) (fun (t : (List Int)) => (Exit.normal, (⟨mkE 22 0 [(3, .slc 0)], [some (.seq (.int .i64) t)]⟩ : St))) := by
  unfold impl_wordSet_list_n6
  exact Link.cast (by kernel_rfl) (by kernel_rfl) (link_seq (b := (Code.snd (Code.fst (Code.snd (Code.snd (bodyOf Tryd.f57)))))) (y := (Ann.snd (Ann.fst (Ann.snd (Ann.snd impl_wordSet_list_an))))) (impl_wordSet_list_n2_l x1070 x1128) (fun (t : Unit) => (impl_wordSet_list_n5_l x1070 x1128)))

theorem impl_wordSet_list_n7_l (x1172 : List Int) : Link impl_wordSet_list_ctx LL (Code.snd (Code.snd (Code.snd (bodyOf Tryd.f57)))) (Ann.snd (Ann.snd (Ann.snd impl_wordSet_list_an))) (⟨mkE 22 0 [(3, .slc 0)], [some (.seq (.int .i64) x1172)]⟩ : St) (impl_wordSet_list_n7 x1172) (fun (t : (List Int)) => (Exit.ret, (⟨mkE 22 0 [(2, .slc 0)], [some (.seq (.int .i64) t)]⟩ : St))) := by
  refine Link.of fun K h => ?_
  simp only [impl_wordSet_list_n7, wpO_bind, wpO_cond, wpO_map, wpO_some] at h
  exact Awp.of (by kernel_rfl) h

theorem impl_wordSet_list_n8_l (x1070 : Int) (x1128 : List Int) : Link impl_wordSet_list_ctx LL (Code.snd (Code.snd (bodyOf Tryd.f57))) (Ann.snd (Ann.snd impl_wordSet_list_an)) (⟨mkE 22 0 [(0, .dat (.int .u64) x1070), (3, .slc 0)], [some (.seq (.int .i64) x1128)]⟩ : St) (impl_wordSet_list_n8 x1070 x1128) (fun (t : (List Int)) => (Exit.ret, (⟨mkE 22 0 [(2, .slc 0)], [some (.seq (.int .i64) t)]⟩ : St))) := by
  unfold impl_wordSet_list_n8
  exact Link.cast (by kernel_rfl) (by kernel_rfl) (link_seq (b := (Code.snd (Code.snd (Code.snd (bodyOf Tryd.f57))))) (y := (Ann.snd (Ann.snd (Ann.snd impl_wordSet_list_an)))) (impl_wordSet_list_n6_l x1070 x1128) (fun (t : (List Int)) => (impl_wordSet_list_n7_l t)))

theorem impl_wordSet_list_n9_l (x1070 : Int) : Link impl_wordSet_list_ctx LL (bodyOf Tryd.f57) impl_wordSet_list_an (⟨mkE 22 0 [(0, .dat (.int .u64) x1070)], []⟩ : St) (impl_wordSet_list_n9 x1070) (fun (t : (List Int)) => (Exit.ret, (⟨mkE 22 0 [(2, .slc 0)], [some (.seq (.int .i64) t)]⟩ : St))) := by
  unfold impl_wordSet_list_n9
  exact Link.cast (by kernel_rfl) (by kernel_rfl) (link_group (c := (Code.fst (Code.snd (bodyOf Tryd.f57)))) (a := (Ann.fst (Ann.snd impl_wordSet_list_an))) [(Code.fst (bodyOf Tryd.f57))] [(Ann.fst impl_wordSet_list_an)] rfl (link_seq (b := (Code.snd (Code.snd (bodyOf Tryd.f57)))) (y := (Ann.snd (Ann.snd impl_wordSet_list_an))) (impl_wordSet_list_n1_l x1070) (fun (t : (List Int)) => (impl_wordSet_list_n8_l x1070 t))))

theorem impl_wordSet_list_e (x1070 : Int) {r : AV} {H' : Heap} (h : (Ans.mk _ (impl_wordSet_list x1070) (fun (t : (List Int)) => (.slc 0, [some (.seq (.int .i64) t)]))).run = some (r, H')) : Awp impl_wordSet_list_ctx LL (bodyOf Tryd.f57) impl_wordSet_list_an (⟨mkE 22 0 [(0, .dat (.int .u64) x1070)], []⟩ : St) (Ret (tlook tys) Tryd.f57.results.toList r H') :=
  ret_of' (impl_wordSet_list_n9_l x1070) (by unfold impl_wordSet_list; kernel_rfl) (by
  intro t
  exact ret_mk [.slc 0] (by kernel_rfl) (by kernel_rfl) (by kernel_rfl) (by kernel_rfl)) h

def F_impl_wordSet_list : Fun := fun avs H =>
  match avs, H with
  | [.dat (.int .u64) x1070], [] => ⟨_, impl_wordSet_list x1070, fun (t : (List Int)) => (.slc 0, [some (.seq (.int .i64) t)])⟩
  | _, _ => Ans.no

theorem impl_wordSet_list_sound : Sound Tryd.prog 57 F_impl_wordSet_list := by
  refine fn_sound' (C := impl_wordSet_list_ctx) (c := bodyOf Tryd.f57) (cok_of tys_ok (List.forall_mem_cons.2 ⟨impl_wordSet_count_sound, List.forall_mem_cons.2 ⟨math_bits_TrailingZeros_sound, by simp⟩⟩) (List.forall_mem_cons.2 ⟨Tryd.call67, List.forall_mem_cons.2 ⟨Tryd.call83, by simp⟩⟩) (by kernel_rfl)) Tryd.func57 (by kernel_rfl) LL impl_wordSet_list_an ?_
  intro avs H r H' h
  unfold F_impl_wordSet_list at h
  split at h
  · refine Awp.cast ?_ ?_ ?_ (impl_wordSet_list_e _ h) <;> kernel_rfl
  · simp [Ans.no, Ans.run] at h


/-! loop.example/headtrees/impl.fillYields -/

def impl_fillYields_an : Ann := (.seq (.leaf [0, 1, 2]) (.seq (.leaf [0, 1, 2, 7]) (.seq (.seq (.leaf [0, 1, 2, 7, 15, 16, 17]) (.block (.loop (.seq (.leaf [0, 1, 2, 7, 15, 16, 17, 18]) (.seq (.cond (.leaf [0, 1, 2, 7, 15, 16, 17]) (.leaf [0, 2, 7])) (.seq (.block (.seq (.leaf [0, 1, 2, 7, 9, 15, 16, 17]) (.leaf [0, 1, 2, 7, 15, 16, 17]))) (.leaf [0, 1, 2, 7, 15, 16, 17]))))))) (.seq (.leaf [7]) (.seq (.leaf [6]) (.leaf [6]))))))

def F_impl_fillYields_fuel (n : Nat) : Fun := fun avs H =>
  match avs, H with
  | [.slc 0, .dat (.list (.int .i64)) x1019, .dat (.int .i64) x1020], [some (.seq (.int .u64) x1021)] => ⟨_, impl_fillYields_fuel n x1019 x1020 x1021, fun (t : Int × (List Int)) => (.dat (.int .u64) t.1, [some (.seq (.int .u64) t.2)])⟩
  | _, _ => Ans.no

noncomputable def impl_fillYields_ctx (n : Nat) : Ctx := ⟨tlook tys, olook [(65, F_impl_only), (62, F_impl_dependents), (57, F_impl_wordSet_list), (82, F_impl_fillYields_fuel n)], ioF, 1⟩

theorem impl_fillYields_n1_l (n : Nat) (x1019 : List Int) (x1020 : Int) (x1021 : List Int) : Link (impl_fillYields_ctx n) LL (Code.seq (Code.fst (bodyOf Tryd.f82)) (Code.fst (Code.snd (bodyOf Tryd.f82)))) (Ann.seq (Ann.fst impl_fillYields_an) (Ann.fst (Ann.snd impl_fillYields_an))) (⟨mkE 34 0 [(0, .slc 0), (1, .dat (.list (.int .i64)) x1019), (2, .dat (.int .i64) x1020)], [some (.seq (.int .u64) x1021)]⟩ : St) (impl_fillYields_n1 (impl_fillYields_fuel n) x1020) (fun (t : Int) => (Exit.normal, (⟨mkE 34 0 [(0, .slc 0), (1, .dat (.list (.int .i64)) x1019), (2, .dat (.int .i64) x1020), (7, .dat (.int .u64) t)], [some (.seq (.int .u64) x1021)]⟩ : St))) := by
  refine Link.of fun K h => ?_
  simp only [impl_fillYields_n1, wpO_bind, wpO_cond, wpO_map, wpO_some] at h
  exact Awp.of (by kernel_rfl) h

theorem impl_fillYields_n2_l (n : Nat) (x1019 : List Int) (x1020 : Int) (x1206 : Int) (x1021 : List Int) : Link (impl_fillYields_ctx n) LL (Code.fst (Code.fst (Code.snd (Code.snd (bodyOf Tryd.f82))))) (Ann.fst (Ann.fst (Ann.snd (Ann.snd impl_fillYields_an)))) (⟨mkE 34 0 [(0, .slc 0), (1, .dat (.list (.int .i64)) x1019), (2, .dat (.int .i64) x1020), (7, .dat (.int .u64) x1206)], [some (.seq (.int .u64) x1021)]⟩ : St) (impl_fillYields_n2 (impl_fillYields_fuel n) x1019 x1020) (fun (t : Int × (List Int)) => (Exit.normal, (⟨mkE 34 0 [(0, .slc 0), (1, .dat (.list (.int .i64)) x1019), (2, .dat (.int .i64) x1020), (7, .dat (.int .u64) x1206), (15, .slc 1), (16, .dat (.int .i64) t.1), (17, .dat (.int .i64) 0)], [some (.seq (.int .u64) x1021), some (.seq (.int .i64) t.2)]⟩ : St))) := by
  refine Link.of fun K h => ?_
  simp only [impl_fillYields_n2, wpO_bind, wpO_cond, wpO_map, wpO_some] at h
  exact Awp.of (by kernel_rfl) h

theorem impl_fillYields_n3_l (n : Nat) (x1019 : List Int) (x1020 : Int) (x1227 : Int) (x1209 : Int) (x1228 : Int) (x1229 : List Int) (x1208 : List Int) : Link (impl_fillYields_ctx n) LL (Code.fst (Code.fst (Code.snd (Code.fst (Code.snd (Code.snd (bodyOf Tryd.f82))))))) (Ann.fst (Ann.fst (Ann.snd (Ann.fst (Ann.snd (Ann.snd impl_fillYields_an)))))) (⟨mkE 34 0 [(0, .slc 0), (1, .dat (.list (.int .i64)) x1019), (2, .dat (.int .i64) x1020), (7, .dat (.int .u64) x1227), (15, .slc 1), (16, .dat (.int .i64) x1209), (17, .dat (.int .i64) x1228)], [some (.seq (.int .u64) x1229), some (.seq (.int .i64) x1208)]⟩ : St) (impl_fillYields_n3 (impl_fillYields_fuel n) x1019 x1227 x1209 x1228 x1229 x1208) (Sum.elim (fun (t : Int × Int × (List Int)) => (Exit.normal, (⟨mkE 34 0 [(0, .slc 0), (1, .dat (.list (.int .i64)) x1019), (2, .dat (.int .i64) x1020), (7, .dat (.int .u64) t.1), (15, .slc 1), (16, .dat (.int .i64) x1209), (17, .dat (.int .i64) t.2.1)], [some (.seq (.int .u64) t.2.2), some (.seq (.int .i64) x1208)]⟩ : St))) (fun (t : Int × (List Int)) => ((Exit.exit 0), (⟨mkE 34 0 [(0, .slc 0), (2, .dat (.int .i64) x1020), (7, .dat (.int .u64) t.1)], [some (.seq (.int .u64) t.2)]⟩ : St)))) := by
  refine Link.of fun K h => ?_
  simp only [impl_fillYields_n3, wpO_bind, wpO_cond, wpO_map, wpO_some] at h
  exact Awp.of (by kernel_rfl) h

theorem impl_fillYields_n4_l (n : Nat) (x1019 : List Int) (x1020 : Int) (x1206 : Int) (x1209 : Int) (x1021 : List Int) (x1208 : List Int) : Link (impl_fillYields_ctx n) LL (Code.fst (Code.snd (Code.fst (Code.snd (Code.snd (bodyOf Tryd.f82)))))) (Ann.fst (Ann.snd (Ann.fst (Ann.snd (Ann.snd impl_fillYields_an))))) (⟨mkE 34 0 [(0, .slc 0), (1, .dat (.list (.int .i64)) x1019), (2, .dat (.int .i64) x1020), (7, .dat (.int .u64) x1206), (15, .slc 1), (16, .dat (.int .i64) x1209), (17, .dat (.int .i64) 0)], [some (.seq (.int .u64) x1021), some (.seq (.int .i64) x1208)]⟩ : St) (impl_fillYields_n4 (impl_fillYields_fuel n) x1019 x1206 x1209 x1021 x1208) (fun (t : Int × (List Int)) => ((Exit.exit 0), (⟨mkE 34 0 [(0, .slc 0), (2, .dat (.int .i64) x1020), (7, .dat (.int .u64) t.1)], [some (.seq (.int .u64) t.2)]⟩ : St))) := by
  unfold impl_fillYields_n4
  exact Link.cast (by kernel_rfl) (by kernel_rfl) (link_loop (mk := fun (s : Int × Int × (List Int)) => (⟨mkE 34 0 [(0, .slc 0), (1, .dat (.list (.int .i64)) x1019), (2, .dat (.int .i64) x1020), (7, .dat (.int .u64) s.1), (15, .slc 1), (16, .dat (.int .i64) x1209), (17, .dat (.int .i64) s.2.1)], [some (.seq (.int .u64) s.2.2), some (.seq (.int .i64) x1208)]⟩ : St)) (fin := (fun (t : Int × (List Int)) => ((Exit.exit 0), (⟨mkE 34 0 [(0, .slc 0), (2, .dat (.int .i64) x1020), (7, .dat (.int .u64) t.1)], [some (.seq (.int .u64) t.2)]⟩ : St)))) (by
  rintro t f K h
  · exact h) (fun s => link_map (impl_fillYields_n3_l n x1019 x1020 s.1 x1209 s.2.1 s.2.2 x1208) (Sum.elim (fun (t : Int × Int × (List Int)) => Sum.inl (t.1, t.2.1, t.2.2)) (fun (t : Int × (List Int)) => Sum.inr t)) (by
  rintro (t | t)
  · kernel_rfl
  · kernel_rfl)) (x1206, 0, x1021))

theorem impl_fillYields_n5_l (n : Nat) (x1019 : List Int) (x1020 : Int) (x1206 : Int) (x1209 : Int) (x1021 : List Int) (x1208 : List Int) : Link (impl_fillYields_ctx n) LL (Code.snd (Code.fst (Code.snd (Code.snd (bodyOf Tryd.f82))))) (Ann.snd (Ann.fst (Ann.snd (Ann.snd impl_fillYields_an)))) (⟨mkE 34 0 [(0, .slc 0), (1, .dat (.list (.int .i64)) x1019), (2, .dat (.int .i64) x1020), (7, .dat (.int .u64) x1206), (15, .slc 1), (16, .dat (.int .i64) x1209), (17, .dat (.int .i64) 0)], [some (.seq (.int .u64) x1021), some (.seq (.int .i64) x1208)]⟩ : St) (impl_fillYields_n5 (impl_fillYields_fuel n) x1019 x1206 x1209 x1021 x1208) (fun (t : Int × (List Int)) => (Exit.normal, (⟨mkE 34 0 [(0, .slc 0), (2, .dat (.int .i64) x1020), (7, .dat (.int .u64) t.1)], [some (.seq (.int .u64) t.2)]⟩ : St))) := by
  unfold impl_fillYields_n5
  exact Link.cast (by kernel_rfl) (by kernel_rfl) (link_block (id := 0) (impl_fillYields_n4_l n x1019 x1020 x1206 x1209 x1021 x1208) (fun (t : Int × (List Int)) => (t.1, t.2)) (by
  rintro t K h
  · exact Eq.mp (by kernel_rfl) h))

theorem impl_fillYields_n6_l (n : Nat) (x1019 : List Int) (x1020 : Int) (x1206 : Int) (x1021 : List Int) : Link (impl_fillYields_ctx n) LL (Code.fst (Code.snd (Code.snd (bodyOf Tryd.f82)))) (Ann.fst (Ann.snd (Ann.snd impl_fillYields_an))) (⟨mkE 34 0 [(0, .slc 0), (1, .dat (.list (.int .i64)) x1019), (2, .dat (.int .i64) x1020), (7, .dat (.int .u64) x1206)], [some (.seq (.int .u64) x1021)]⟩ : St) (impl_fillYields_n6 (impl_fillYields_fuel n) x1019 x1020 x1206 x1021) (fun (t : Int × (List Int)) => (Exit.normal, (⟨mkE 34 0 [(0, .slc 0), (2, .dat (.int .i64) x1020), (7, .dat (.int .u64) t.1)], [some (.seq (.int .u64) t.2)]⟩ : St))) := by
  unfold impl_fillYields_n6
  exact Link.cast (by kernel_rfl) (by kernel_rfl) (link_seq (b := (Code.snd (Code.fst (Code.snd (Code.snd (bodyOf Tryd.f82)))))) (y := (Ann.snd (Ann.fst (Ann.snd (Ann.snd impl_fillYields_an))))) (impl_fillYields_n2_l n x1019 x1020 x1206 x1021) (fun (t : Int × (List Int)) => (impl_fillYields_n5_l n x1019 x1020 x1206 t.1 x1021 t.2)))

theorem impl_fillYields_n7_l (n : Nat) (x1020 : Int) (x1227 : Int) (x1229 : List Int) : Link (impl_fillYields_ctx n) LL (Code.snd (Code.snd (Code.snd (bodyOf Tryd.f82)))) (Ann.snd (Ann.snd (Ann.snd impl_fillYields_an))) (⟨mkE 34 0 [(0, .slc 0), (2, .dat (.int .i64) x1020), (7, .dat (.int .u64) x1227)], [some (.seq (.int .u64) x1229)]⟩ : St) (impl_fillYields_n7 (impl_fillYields_fuel n) x1020 x1227 x1229) (fun (t : Int × (List Int)) => (Exit.ret, (⟨mkE 34 0 [(6, .dat (.int .u64) t.1)], [some (.seq (.int .u64) t.2)]⟩ : St))) := by
  refine Link.of fun K h => ?_
  simp only [impl_fillYields_n7, wpO_bind, wpO_cond, wpO_map, wpO_some] at h
  exact Awp.of (by kernel_rfl) h

theorem impl_fillYields_n8_l (n : Nat) (x1019 : List Int) (x1020 : Int) (x1206 : Int) (x1021 : List Int) : Link (impl_fillYields_ctx n) LL (Code.snd (Code.snd (bodyOf Tryd.f82))) (Ann.snd (Ann.snd impl_fillYields_an)) (⟨mkE 34 0 [(0, .slc 0), (1, .dat (.list (.int .i64)) x1019), (2, .dat (.int .i64) x1020), (7, .dat (.int .u64) x1206)], [some (.seq (.int .u64) x1021)]⟩ : St) (impl_fillYields_n8 (impl_fillYields_fuel n) x1019 x1020 x1206 x1021) (fun (t : Int × (List Int)) => (Exit.ret, (⟨mkE 34 0 [(6, .dat (.int .u64) t.1)], [some (.seq (.int .u64) t.2)]⟩ : St))) := by
  unfold impl_fillYields_n8
  exact Link.cast (by kernel_rfl) (by kernel_rfl) (link_seq (b := (Code.snd (Code.snd (Code.snd (bodyOf Tryd.f82))))) (y := (Ann.snd (Ann.snd (Ann.snd impl_fillYields_an)))) (impl_fillYields_n6_l n x1019 x1020 x1206 x1021) (fun (t : Int × (List Int)) => (impl_fillYields_n7_l n x1020 t.1 t.2)))

theorem impl_fillYields_n9_l (n : Nat) (x1019 : List Int) (x1020 : Int) (x1021 : List Int) : Link (impl_fillYields_ctx n) LL (bodyOf Tryd.f82) impl_fillYields_an (⟨mkE 34 0 [(0, .slc 0), (1, .dat (.list (.int .i64)) x1019), (2, .dat (.int .i64) x1020)], [some (.seq (.int .u64) x1021)]⟩ : St) (impl_fillYields_n9 (impl_fillYields_fuel n) x1019 x1020 x1021) (fun (t : Int × (List Int)) => (Exit.ret, (⟨mkE 34 0 [(6, .dat (.int .u64) t.1)], [some (.seq (.int .u64) t.2)]⟩ : St))) := by
  unfold impl_fillYields_n9
  exact Link.cast (by kernel_rfl) (by kernel_rfl) (link_group (c := (Code.fst (Code.snd (bodyOf Tryd.f82)))) (a := (Ann.fst (Ann.snd impl_fillYields_an))) [(Code.fst (bodyOf Tryd.f82))] [(Ann.fst impl_fillYields_an)] rfl (link_seq (b := (Code.snd (Code.snd (bodyOf Tryd.f82)))) (y := (Ann.snd (Ann.snd impl_fillYields_an))) (impl_fillYields_n1_l n x1019 x1020 x1021) (fun (t : Int) => (impl_fillYields_n8_l n x1019 x1020 t x1021))))

theorem impl_fillYields_e (n : Nat) (x1019 : List Int) (x1020 : Int) (x1021 : List Int) {r : AV} {H' : Heap} (h : (Ans.mk _ (impl_fillYields_fuel (n + 1) x1019 x1020 x1021) (fun (t : Int × (List Int)) => (.dat (.int .u64) t.1, [some (.seq (.int .u64) t.2)]))).run = some (r, H')) : Awp (impl_fillYields_ctx n) LL (bodyOf Tryd.f82) impl_fillYields_an (⟨mkE 34 0 [(0, .slc 0), (1, .dat (.list (.int .i64)) x1019), (2, .dat (.int .i64) x1020)], [some (.seq (.int .u64) x1021)]⟩ : St) (Ret (tlook tys) Tryd.f82.results.toList r H') :=
  ret_of' (impl_fillYields_n9_l n x1019 x1020 x1021) (by (show _ = _); kernel_rfl) (by
  intro t
  exact ret_mk [.dat (.int .u64) t.1] (by kernel_rfl) (by kernel_rfl) (by kernel_rfl) (by kernel_rfl)) h

theorem impl_fillYields_step (n : Nat) (h82 : Sound Tryd.prog 82 (F_impl_fillYields_fuel n)) : Sound Tryd.prog 82 (F_impl_fillYields_fuel (n + 1)) := by
  refine fn_sound' (C := impl_fillYields_ctx n) (c := bodyOf Tryd.f82) (cok_of tys_ok (List.forall_mem_cons.2 ⟨impl_only_sound, List.forall_mem_cons.2 ⟨impl_dependents_sound, List.forall_mem_cons.2 ⟨impl_wordSet_list_sound, List.forall_mem_cons.2 ⟨h82, by simp⟩⟩⟩⟩) (List.forall_mem_cons.2 ⟨Tryd.call65, List.forall_mem_cons.2 ⟨Tryd.call62, List.forall_mem_cons.2 ⟨Tryd.call57, List.forall_mem_cons.2 ⟨Tryd.call82, by simp⟩⟩⟩⟩) (by kernel_rfl)) Tryd.func82 (by kernel_rfl) LL impl_fillYields_an ?_
  intro avs H r H' h
  unfold F_impl_fillYields_fuel at h
  split at h
  · refine Awp.cast ?_ ?_ ?_ (impl_fillYields_e n _ _ _ h) <;> kernel_rfl
  · simp [Ans.no, Ans.run] at h

theorem impl_fillYields_null : Sound Tryd.prog 82 (F_impl_fillYields_fuel 0) := by
  intro avs H r H' h
  unfold F_impl_fillYields_fuel at h
  split at h
  · simp [impl_fillYields_fuel, impl_fillYields_knot, Ans.run] at h
  · simp [Ans.no, Ans.run] at h

theorem impl_fillYields_knot_all : ∀ n, Sound Tryd.prog 82 (F_impl_fillYields_fuel n)
  | 0 => impl_fillYields_null
  | n + 1 => by
    have h82 := impl_fillYields_knot_all n
    exact impl_fillYields_step n h82

def F_impl_fillYields : Fun := fun avs H =>
  match avs, H with
  | [.slc 0, .dat (.list (.int .i64)) x1019, .dat (.int .i64) x1020], [some (.seq (.int .u64) x1021)] => ⟨_, impl_fillYields x1019 x1020 x1021, fun (t : Int × (List Int)) => (.dat (.int .u64) t.1, [some (.seq (.int .u64) t.2)])⟩
  | _, _ => Ans.no

theorem impl_fillYields_sound : Sound Tryd.prog 82 F_impl_fillYields := by
  have e : F_impl_fillYields = F_impl_fillYields_fuel RR := by
    funext avs H
    unfold F_impl_fillYields F_impl_fillYields_fuel
    split <;> first | rfl | (simp only [impl_fillYields])
  rw [e]
  exact (impl_fillYields_knot_all RR)


/-! loop.example/headtrees/impl.yieldsOf -/

def impl_yieldsOf_an : Ann := (.seq (.leaf [0]) (.seq (.leaf [0, 3]) (.seq (.leaf [3]) (.seq (.leaf [2]) (.leaf [2])))))

noncomputable def impl_yieldsOf_ctx : Ctx := ⟨tlook tys, olook [(23, F_impl_RootOf), (82, F_impl_fillYields)], ioF, 0⟩

theorem impl_yieldsOf_n1_l (x987 : List Int) : Link impl_yieldsOf_ctx LL (bodyOf Tryd.f56) impl_yieldsOf_an (⟨mkE 13 0 [(0, .dat (.list (.int .i64)) x987)], []⟩ : St) (impl_yieldsOf_n1 x987) (fun (t : (List Int)) => (Exit.ret, (⟨mkE 13 0 [(2, .slc 0)], [some (.seq (.int .u64) t)]⟩ : St))) := by
  refine Link.of fun K h => ?_
  simp only [impl_yieldsOf_n1, wpO_bind, wpO_cond, wpO_map, wpO_some] at h
  exact Awp.of (by kernel_rfl) h

theorem impl_yieldsOf_e (x987 : List Int) {r : AV} {H' : Heap} (h : (Ans.mk _ (impl_yieldsOf x987) (fun (t : (List Int)) => (.slc 0, [some (.seq (.int .u64) t)]))).run = some (r, H')) : Awp impl_yieldsOf_ctx LL (bodyOf Tryd.f56) impl_yieldsOf_an (⟨mkE 13 0 [(0, .dat (.list (.int .i64)) x987)], []⟩ : St) (Ret (tlook tys) Tryd.f56.results.toList r H') :=
  ret_of' (impl_yieldsOf_n1_l x987) (by unfold impl_yieldsOf; kernel_rfl) (by
  intro t
  exact ret_mk [.slc 0] (by kernel_rfl) (by kernel_rfl) (by kernel_rfl) (by kernel_rfl)) h

def F_impl_yieldsOf : Fun := fun avs H =>
  match avs, H with
  | [.dat (.list (.int .i64)) x987], [] => ⟨_, impl_yieldsOf x987, fun (t : (List Int)) => (.slc 0, [some (.seq (.int .u64) t)])⟩
  | _, _ => Ans.no

theorem impl_yieldsOf_sound : Sound Tryd.prog 56 F_impl_yieldsOf := by
  refine fn_sound' (C := impl_yieldsOf_ctx) (c := bodyOf Tryd.f56) (cok_of tys_ok (List.forall_mem_cons.2 ⟨impl_RootOf_sound, List.forall_mem_cons.2 ⟨impl_fillYields_sound, by simp⟩⟩) (List.forall_mem_cons.2 ⟨Tryd.call23, List.forall_mem_cons.2 ⟨Tryd.call82, by simp⟩⟩) (by kernel_rfl)) Tryd.func56 (by kernel_rfl) LL impl_yieldsOf_an ?_
  intro avs H r H' h
  unfold F_impl_yieldsOf at h
  split at h
  · refine Awp.cast ?_ ?_ ?_ (impl_yieldsOf_e _ h) <;> kernel_rfl
  · simp [Ans.no, Ans.run] at h


/-! loop.example/headtrees/spec.l1In -/

def spec_l1In_an : Ann := (.seq (.leaf [0, 1, 2]) (.seq (.leaf [6]) (.leaf [6])))

noncomputable def spec_l1In_ctx : Ctx := ⟨tlook tys, olook [], ioF, 0⟩

theorem spec_l1In_n1_l (x1298 : Int) (x1299 : Int) (x1300 : Int) : Link spec_l1In_ctx LL (bodyOf Tryd.f58) spec_l1In_an (⟨mkE 15 0 [(0, .dat (.int .i64) x1298), (1, .dat (.int .i64) x1299), (2, .dat (.int .i64) x1300)], []⟩ : St) (spec_l1In_n1 x1298 x1299 x1300) (fun (t : Bool) => (Exit.ret, (⟨mkE 15 0 [(6, .dat .bool t)], []⟩ : St))) := by
  refine Link.of fun K h => ?_
  simp only [spec_l1In_n1, wpO_bind, wpO_cond, wpO_map, wpO_some] at h
  exact Awp.of (by kernel_rfl) h

theorem spec_l1In_e (x1298 : Int) (x1299 : Int) (x1300 : Int) {r : AV} {H' : Heap} (h : (Ans.mk _ (spec_l1In x1298 x1299 x1300) (fun (t : Bool) => (.dat .bool t, []))).run = some (r, H')) : Awp spec_l1In_ctx LL (bodyOf Tryd.f58) spec_l1In_an (⟨mkE 15 0 [(0, .dat (.int .i64) x1298), (1, .dat (.int .i64) x1299), (2, .dat (.int .i64) x1300)], []⟩ : St) (Ret (tlook tys) Tryd.f58.results.toList r H') :=
  ret_of' (spec_l1In_n1_l x1298 x1299 x1300) (by unfold spec_l1In; kernel_rfl) (by
  intro t
  exact ret_mk [.dat .bool t] (by kernel_rfl) (by kernel_rfl) (by kernel_rfl) (by kernel_rfl)) h

def F_spec_l1In : Fun := fun avs H =>
  match avs, H with
  | [.dat (.int .i64) x1298, .dat (.int .i64) x1299, .dat (.int .i64) x1300], [] => ⟨_, spec_l1In x1298 x1299 x1300, fun (t : Bool) => (.dat .bool t, [])⟩
  | _, _ => Ans.no

theorem spec_l1In_sound : Sound Tryd.prog 58 F_spec_l1In := by
  refine fn_sound' (C := spec_l1In_ctx) (c := bodyOf Tryd.f58) (cok_of tys_ok (by simp) (by simp) (by kernel_rfl)) Tryd.func58 (by kernel_rfl) LL spec_l1In_an ?_
  intro avs H r H' h
  unfold F_spec_l1In at h
  split at h
  · refine Awp.cast ?_ ?_ ?_ (spec_l1In_e _ _ _ h) <;> kernel_rfl
  · simp [Ans.no, Ans.run] at h


/-! loop.example/headtrees/spec.TreeOk -/

def spec_TreeOk_an : Ann := (.seq (.leaf [0]) (.seq (.leaf [0, 3]) (.seq (.seq (.leaf [0, 3, 12]) (.cond (.seq (.leaf [2]) (.leaf [2])) (.leaf [0, 3]))) (.seq (.leaf [0, 3, 4]) (.seq (.seq (.leaf [0, 3, 4, 5]) (.block (.loop (.seq (.seq (.leaf [0, 3, 4, 5, 15]) (.cond (.leaf [0, 3, 4, 5]) (.leaf [4]))) (.seq (.block (.seq (.seq (.leaf [0, 3, 4, 5, 33]) (.cond (.seq (.leaf [2]) (.leaf [2])) (.leaf [0, 3, 4, 5]))) (.seq (.seq (.leaf [0, 3, 4, 5, 38]) (.cond (.leaf [0, 3, 4, 5]) (.leaf [0, 3, 4, 5]))) (.seq (.leaf [0, 3, 4, 5, 6]) (.seq (.seq (.leaf [0, 3, 4, 5, 6, 7]) (.block (.loop (.seq (.seq (.leaf [0, 3, 4, 5, 6, 7, 49]) (.cond (.leaf [0, 3, 4, 5, 6, 7]) (.leaf [0, 3, 4, 5, 6]))) (.seq (.block (.seq (.leaf [0, 3, 4, 5, 6, 7]) (.seq (.leaf [0, 3, 4, 5, 6, 7, 60]) (.cond (.seq (.leaf [2]) (.leaf [2])) (.leaf [0, 3, 4, 5, 6, 7]))))) (.leaf [0, 3, 4, 5, 6, 7])))))) (.seq (.leaf [0, 3, 4, 5, 62]) (.cond (.seq (.leaf [2]) (.leaf [2])) (.leaf [0, 3, 4, 5])))))))) (.leaf [0, 3, 4, 5])))))) (.seq (.leaf [2]) (.leaf [2])))))))

noncomputable def spec_TreeOk_ctx : Ctx := ⟨tlook tys, olook [(58, F_spec_l1In)], ioF, 0⟩

theorem spec_TreeOk_n1_l (x1295 : List Int) : Link spec_TreeOk_ctx LL (Code.seq (Code.fst (bodyOf Tryd.f27)) (Code.seq (Code.fst (Code.snd (bodyOf Tryd.f27))) (Code.seq (Code.fst (Code.snd (Code.snd (bodyOf Tryd.f27)))) (Code.fst (Code.snd (Code.snd (Code.snd (bodyOf Tryd.f27)))))))) (Ann.seq (Ann.fst spec_TreeOk_an) (Ann.seq (Ann.fst (Ann.snd spec_TreeOk_an)) (Ann.seq (Ann.fst (Ann.snd (Ann.snd spec_TreeOk_an))) (Ann.fst (Ann.snd (Ann.snd (Ann.snd spec_TreeOk_an))))))) (⟨mkE 65 0 [(0, .dat (.list (.int .i64)) x1295)], []⟩ : St) (spec_TreeOk_n1 x1295) (Sum.elim (fun (t : Int) => (Exit.normal, (⟨mkE 65 0 [(0, .dat (.list (.int .i64)) x1295), (3, .dat (.int .i64) t), (4, .dat (.int .i64) 0)], []⟩ : St))) (fun (t : Bool) => (Exit.ret, (⟨mkE 65 0 [(2, .dat .bool t)], []⟩ : St)))) := by
  refine Link.of fun K h => ?_
  simp only [spec_TreeOk_n1, wpO_bind, wpO_cond, wpO_map, wpO_some] at h
  exact Awp.of (by kernel_rfl) h

theorem spec_TreeOk_n2_l (x1295 : List Int) (x1308 : Int) : Link spec_TreeOk_ctx LL (Code.fst (Code.fst (Code.snd (Code.snd (Code.snd (Code.snd (bodyOf Tryd.f27))))))) (Ann.fst (Ann.fst (Ann.snd (Ann.snd (Ann.snd (Ann.snd spec_TreeOk_an)))))) (⟨mkE 65 0 [(0, .dat (.list (.int .i64)) x1295), (3, .dat (.int .i64) x1308), (4, .dat (.int .i64) 0)], []⟩ : St) (spec_TreeOk_n2) (fun (t : Unit) => (Exit.normal, (⟨mkE 65 0 [(0, .dat (.list (.int .i64)) x1295), (3, .dat (.int .i64) x1308), (4, .dat (.int .i64) 0), (5, .dat (.int .i64) 0)], []⟩ : St))) := by
  refine Link.of fun K h => ?_
  simp only [spec_TreeOk_n2, wpO_bind, wpO_cond, wpO_map, wpO_some] at h
  exact Awp.of (by kernel_rfl) h

theorem spec_TreeOk_n3_l (x1295 : List Int) (x1308 : Int) (x1375 : Int) (x1376 : Int) : Link spec_TreeOk_ctx LL (Code.fst (Code.fst (Code.fst (Code.snd (Code.fst (Code.snd (Code.snd (Code.snd (Code.snd (bodyOf Tryd.f27)))))))))) (Ann.fst (Ann.fst (Ann.fst (Ann.snd (Ann.fst (Ann.snd (Ann.snd (Ann.snd (Ann.snd spec_TreeOk_an))))))))) (⟨mkE 65 0 [(0, .dat (.list (.int .i64)) x1295), (3, .dat (.int .i64) x1308), (4, .dat (.int .i64) x1375), (5, .dat (.int .i64) x1376)], []⟩ : St) (spec_TreeOk_n3 x1308 x1375 x1376) (Sum.elim (fun (t : Unit) => (Exit.normal, (⟨mkE 65 0 [(0, .dat (.list (.int .i64)) x1295), (3, .dat (.int .i64) x1308), (4, .dat (.int .i64) x1375), (5, .dat (.int .i64) x1376)], []⟩ : St))) (fun (t : Int) => ((Exit.exit 0), (⟨mkE 65 0 [(4, .dat (.int .i64) t)], []⟩ : St)))) := by
  refine Link.of fun K h => ?_
  simp only [spec_TreeOk_n3, wpO_bind, wpO_cond, wpO_map, wpO_some] at h
  exact Awp.of (by kernel_rfl) h

theorem spec_TreeOk_n4_l (x1295 : List Int) (x1308 : Int) (x1375 : Int) (x1376 : Int) : Link spec_TreeOk_ctx LL (Code.seq (Code.fst (Code.fst (Code.fst (Code.snd (Code.fst (Code.fst (Code.snd (Code.fst (Code.snd (Code.snd (Code.snd (Code.snd (bodyOf Tryd.f27))))))))))))) (Code.seq (Code.fst (Code.snd (Code.fst (Code.fst (Code.snd (Code.fst (Code.fst (Code.snd (Code.fst (Code.snd (Code.snd (Code.snd (Code.snd (bodyOf Tryd.f27)))))))))))))) (Code.fst (Code.snd (Code.snd (Code.fst (Code.fst (Code.snd (Code.fst (Code.fst (Code.snd (Code.fst (Code.snd (Code.snd (Code.snd (Code.snd (bodyOf Tryd.f27))))))))))))))))) (Ann.seq (Ann.fst (Ann.fst (Ann.fst (Ann.snd (Ann.fst (Ann.fst (Ann.snd (Ann.fst (Ann.snd (Ann.snd (Ann.snd (Ann.snd spec_TreeOk_an)))))))))))) (Ann.seq (Ann.fst (Ann.snd (Ann.fst (Ann.fst (Ann.snd (Ann.fst (Ann.fst (Ann.snd (Ann.fst (Ann.snd (Ann.snd (Ann.snd (Ann.snd spec_TreeOk_an))))))))))))) (Ann.fst (Ann.snd (Ann.snd (Ann.fst (Ann.fst (Ann.snd (Ann.fst (Ann.fst (Ann.snd (Ann.fst (Ann.snd (Ann.snd (Ann.snd (Ann.snd spec_TreeOk_an)))))))))))))))) (⟨mkE 65 0 [(0, .dat (.list (.int .i64)) x1295), (3, .dat (.int .i64) x1308), (4, .dat (.int .i64) x1375), (5, .dat (.int .i64) x1376)], []⟩ : St) (spec_TreeOk_n4 x1295 x1308 x1375 x1376) (Sum.elim (fun (t : Int × Int) => (Exit.normal, (⟨mkE 65 0 [(0, .dat (.list (.int .i64)) x1295), (3, .dat (.int .i64) x1308), (4, .dat (.int .i64) t.1), (5, .dat (.int .i64) x1376), (6, .dat (.int .i64) t.2)], []⟩ : St))) (fun (t : Bool) => (Exit.ret, (⟨mkE 65 0 [(2, .dat .bool t)], []⟩ : St)))) := by
  refine Link.of fun K h => ?_
  simp only [spec_TreeOk_n4, wpO_bind, wpO_cond, wpO_map, wpO_some] at h
  exact Awp.of (by kernel_rfl) h

theorem spec_TreeOk_n5_l (x1295 : List Int) (x1308 : Int) (x1404 : Int) (x1376 : Int) (x1405 : Int) : Link spec_TreeOk_ctx LL (Code.fst (Code.fst (Code.snd (Code.snd (Code.snd (Code.fst (Code.fst (Code.snd (Code.fst (Code.fst (Code.snd (Code.fst (Code.snd (Code.snd (Code.snd (Code.snd (bodyOf Tryd.f27))))))))))))))))) (Ann.fst (Ann.fst (Ann.snd (Ann.snd (Ann.snd (Ann.fst (Ann.fst (Ann.snd (Ann.fst (Ann.fst (Ann.snd (Ann.fst (Ann.snd (Ann.snd (Ann.snd (Ann.snd spec_TreeOk_an)))))))))))))))) (⟨mkE 65 0 [(0, .dat (.list (.int .i64)) x1295), (3, .dat (.int .i64) x1308), (4, .dat (.int .i64) x1404), (5, .dat (.int .i64) x1376), (6, .dat (.int .i64) x1405)], []⟩ : St) (spec_TreeOk_n5) (fun (t : Unit) => (Exit.normal, (⟨mkE 65 0 [(0, .dat (.list (.int .i64)) x1295), (3, .dat (.int .i64) x1308), (4, .dat (.int .i64) x1404), (5, .dat (.int .i64) x1376), (6, .dat (.int .i64) x1405), (7, .dat (.int .i64) 0)], []⟩ : St))) := by
  refine Link.of fun K h => ?_
  simp only [spec_TreeOk_n5, wpO_bind, wpO_cond, wpO_map, wpO_some] at h
  exact Awp.of (by kernel_rfl) h

theorem spec_TreeOk_n6_l (x1295 : List Int) (x1308 : Int) (x1404 : Int) (x1376 : Int) (x1421 : Int) (x1422 : Int) : Link spec_TreeOk_ctx LL (Code.fst (Code.fst (Code.snd (Code.fst (Code.snd (Code.snd (Code.snd (Code.fst (Code.fst (Code.snd (Code.fst (Code.fst (Code.snd (Code.fst (Code.snd (Code.snd (Code.snd (Code.snd (bodyOf Tryd.f27))))))))))))))))))) (Ann.fst (Ann.fst (Ann.snd (Ann.fst (Ann.snd (Ann.snd (Ann.snd (Ann.fst (Ann.fst (Ann.snd (Ann.fst (Ann.fst (Ann.snd (Ann.fst (Ann.snd (Ann.snd (Ann.snd (Ann.snd spec_TreeOk_an)))))))))))))))))) (⟨mkE 65 0 [(0, .dat (.list (.int .i64)) x1295), (3, .dat (.int .i64) x1308), (4, .dat (.int .i64) x1404), (5, .dat (.int .i64) x1376), (6, .dat (.int .i64) x1421), (7, .dat (.int .i64) x1422)], []⟩ : St) (spec_TreeOk_n6 x1295 x1308 x1421 x1422) (Sum.elim (fun (t : Int × Int) => (Exit.normal, (⟨mkE 65 0 [(0, .dat (.list (.int .i64)) x1295), (3, .dat (.int .i64) x1308), (4, .dat (.int .i64) x1404), (5, .dat (.int .i64) x1376), (6, .dat (.int .i64) t.1), (7, .dat (.int .i64) t.2)], []⟩ : St))) (Sum.elim (fun (t : Bool) => (Exit.ret, (⟨mkE 65 0 [(2, .dat .bool t)], []⟩ : St))) (fun (t : Int) => ((Exit.exit 2), (⟨mkE 65 0 [(0, .dat (.list (.int .i64)) x1295), (3, .dat (.int .i64) x1308), (4, .dat (.int .i64) x1404), (5, .dat (.int .i64) x1376), (6, .dat (.int .i64) t)], []⟩ : St))))) := by
  refine Link.of fun K h => ?_
  simp only [spec_TreeOk_n6, wpO_bind, wpO_cond, wpO_map, wpO_some] at h
  exact Awp.of (by kernel_rfl) h

theorem spec_TreeOk_n7_l (x1295 : List Int) (x1308 : Int) (x1404 : Int) (x1376 : Int) (x1405 : Int) : Link spec_TreeOk_ctx LL (Code.fst (Code.snd (Code.fst (Code.snd (Code.snd (Code.snd (Code.fst (Code.fst (Code.snd (Code.fst (Code.fst (Code.snd (Code.fst (Code.snd (Code.snd (Code.snd (Code.snd (bodyOf Tryd.f27)))))))))))))))))) (Ann.fst (Ann.snd (Ann.fst (Ann.snd (Ann.snd (Ann.snd (Ann.fst (Ann.fst (Ann.snd (Ann.fst (Ann.fst (Ann.snd (Ann.fst (Ann.snd (Ann.snd (Ann.snd (Ann.snd spec_TreeOk_an))))))))))))))))) (⟨mkE 65 0 [(0, .dat (.list (.int .i64)) x1295), (3, .dat (.int .i64) x1308), (4, .dat (.int .i64) x1404), (5, .dat (.int .i64) x1376), (6, .dat (.int .i64) x1405), (7, .dat (.int .i64) 0)], []⟩ : St) (spec_TreeOk_n7 x1295 x1308 x1405) (Sum.elim (fun (t : Bool) => (Exit.ret, (⟨mkE 65 0 [(2, .dat .bool t)], []⟩ : St))) (fun (t : Int) => ((Exit.exit 2), (⟨mkE 65 0 [(0, .dat (.list (.int .i64)) x1295), (3, .dat (.int .i64) x1308), (4, .dat (.int .i64) x1404), (5, .dat (.int .i64) x1376), (6, .dat (.int .i64) t)], []⟩ : St)))) := by
  unfold spec_TreeOk_n7
  exact Link.cast (by kernel_rfl) (by kernel_rfl) (link_loop (mk := fun (s : Int × Int) => (⟨mkE 65 0 [(0, .dat (.list (.int .i64)) x1295), (3, .dat (.int .i64) x1308), (4, .dat (.int .i64) x1404), (5, .dat (.int .i64) x1376), (6, .dat (.int .i64) s.1), (7, .dat (.int .i64) s.2)], []⟩ : St)) (fin := (Sum.elim (fun (t : Bool) => (Exit.ret, (⟨mkE 65 0 [(2, .dat .bool t)], []⟩ : St))) (fun (t : Int) => ((Exit.exit 2), (⟨mkE 65 0 [(0, .dat (.list (.int .i64)) x1295), (3, .dat (.int .i64) x1308), (4, .dat (.int .i64) x1404), (5, .dat (.int .i64) x1376), (6, .dat (.int .i64) t)], []⟩ : St))))) (by
  rintro (t | t) f K h
  · exact h
  · exact h) (fun s => link_map (spec_TreeOk_n6_l x1295 x1308 x1404 x1376 s.1 s.2) (Sum.elim (fun (t : Int × Int) => Sum.inl (t.1, t.2)) (Sum.elim (fun (t : Bool) => Sum.inr (Sum.inl t)) (fun (t : Int) => Sum.inr (Sum.inr t)))) (by
  rintro (t | t | t)
  · kernel_rfl
  · kernel_rfl
  · kernel_rfl)) (x1405, 0))

theorem spec_TreeOk_n8_l (x1295 : List Int) (x1308 : Int) (x1404 : Int) (x1376 : Int) (x1405 : Int) : Link spec_TreeOk_ctx LL (Code.snd (Code.fst (Code.snd (Code.snd (Code.snd (Code.fst (Code.fst (Code.snd (Code.fst (Code.fst (Code.snd (Code.fst (Code.snd (Code.snd (Code.snd (Code.snd (bodyOf Tryd.f27))))))))))))))))) (Ann.snd (Ann.fst (Ann.snd (Ann.snd (Ann.snd (Ann.fst (Ann.fst (Ann.snd (Ann.fst (Ann.fst (Ann.snd (Ann.fst (Ann.snd (Ann.snd (Ann.snd (Ann.snd spec_TreeOk_an)))))))))))))))) (⟨mkE 65 0 [(0, .dat (.list (.int .i64)) x1295), (3, .dat (.int .i64) x1308), (4, .dat (.int .i64) x1404), (5, .dat (.int .i64) x1376), (6, .dat (.int .i64) x1405), (7, .dat (.int .i64) 0)], []⟩ : St) (spec_TreeOk_n8 x1295 x1308 x1405) (Sum.elim (fun (t : Int) => (Exit.normal, (⟨mkE 65 0 [(0, .dat (.list (.int .i64)) x1295), (3, .dat (.int .i64) x1308), (4, .dat (.int .i64) x1404), (5, .dat (.int .i64) x1376), (6, .dat (.int .i64) t)], []⟩ : St))) (fun (t : Bool) => (Exit.ret, (⟨mkE 65 0 [(2, .dat .bool t)], []⟩ : St)))) := by
  unfold spec_TreeOk_n8
  exact Link.cast (by kernel_rfl) (by kernel_rfl) (link_block (id := 2) (spec_TreeOk_n7_l x1295 x1308 x1404 x1376 x1405) (Sum.elim (fun (t : Bool) => (Sum.inr t)) (fun (t : Int) => (Sum.inl t))) (by
  rintro (t | t) K h
  · exact Eq.mp (by kernel_rfl) h
  · exact Eq.mp (by kernel_rfl) h))

theorem spec_TreeOk_n9_l (x1295 : List Int) (x1308 : Int) (x1404 : Int) (x1376 : Int) (x1405 : Int) : Link spec_TreeOk_ctx LL (Code.fst (Code.snd (Code.snd (Code.snd (Code.fst (Code.fst (Code.snd (Code.fst (Code.fst (Code.snd (Code.fst (Code.snd (Code.snd (Code.snd (Code.snd (bodyOf Tryd.f27)))))))))))))))) (Ann.fst (Ann.snd (Ann.snd (Ann.snd (Ann.fst (Ann.fst (Ann.snd (Ann.fst (Ann.fst (Ann.snd (Ann.fst (Ann.snd (Ann.snd (Ann.snd (Ann.snd spec_TreeOk_an))))))))))))))) (⟨mkE 65 0 [(0, .dat (.list (.int .i64)) x1295), (3, .dat (.int .i64) x1308), (4, .dat (.int .i64) x1404), (5, .dat (.int .i64) x1376), (6, .dat (.int .i64) x1405)], []⟩ : St) (spec_TreeOk_n9 x1295 x1308 x1405) (Sum.elim (fun (t : Int) => (Exit.normal, (⟨mkE 65 0 [(0, .dat (.list (.int .i64)) x1295), (3, .dat (.int .i64) x1308), (4, .dat (.int .i64) x1404), (5, .dat (.int .i64) x1376), (6, .dat (.int .i64) t)], []⟩ : St))) (fun (t : Bool) => (Exit.ret, (⟨mkE 65 0 [(2, .dat .bool t)], []⟩ : St)))) := by
  unfold spec_TreeOk_n9
  exact Link.cast (by kernel_rfl) (by kernel_rfl) (link_seq (b := (Code.snd (Code.fst (Code.snd (Code.snd (Code.snd (Code.fst (Code.fst (Code.snd (Code.fst (Code.fst (Code.snd (Code.fst (Code.snd (Code.snd (Code.snd (Code.snd (bodyOf Tryd.f27)))))))))))))))))) (y := (Ann.snd (Ann.fst (Ann.snd (Ann.snd (Ann.snd (Ann.fst (Ann.fst (Ann.snd (Ann.fst (Ann.fst (Ann.snd (Ann.fst (Ann.snd (Ann.snd (Ann.snd (Ann.snd spec_TreeOk_an))))))))))))))))) (spec_TreeOk_n5_l x1295 x1308 x1404 x1376 x1405) (fun (t : Unit) => (spec_TreeOk_n8_l x1295 x1308 x1404 x1376 x1405)))

theorem spec_TreeOk_n10_l (x1295 : List Int) (x1308 : Int) (x1404 : Int) (x1376 : Int) (x1421 : Int) : Link spec_TreeOk_ctx LL (Code.snd (Code.snd (Code.snd (Code.snd (Code.fst (Code.fst (Code.snd (Code.fst (Code.fst (Code.snd (Code.fst (Code.snd (Code.snd (Code.snd (Code.snd (bodyOf Tryd.f27)))))))))))))))) (Ann.snd (Ann.snd (Ann.snd (Ann.snd (Ann.fst (Ann.fst (Ann.snd (Ann.fst (Ann.fst (Ann.snd (Ann.fst (Ann.snd (Ann.snd (Ann.snd (Ann.snd spec_TreeOk_an))))))))))))))) (⟨mkE 65 0 [(0, .dat (.list (.int .i64)) x1295), (3, .dat (.int .i64) x1308), (4, .dat (.int .i64) x1404), (5, .dat (.int .i64) x1376), (6, .dat (.int .i64) x1421)], []⟩ : St) (spec_TreeOk_n10 x1421) (Sum.elim (fun (t : Unit) => (Exit.normal, (⟨mkE 65 0 [(0, .dat (.list (.int .i64)) x1295), (3, .dat (.int .i64) x1308), (4, .dat (.int .i64) x1404), (5, .dat (.int .i64) x1376)], []⟩ : St))) (fun (t : Bool) => (Exit.ret, (⟨mkE 65 0 [(2, .dat .bool t)], []⟩ : St)))) := by
  refine Link.of fun K h => ?_
  simp only [spec_TreeOk_n10, wpO_bind, wpO_cond, wpO_map, wpO_some] at h
  exact Awp.of (by kernel_rfl) h

theorem spec_TreeOk_n11_l (x1295 : List Int) (x1308 : Int) (x1404 : Int) (x1376 : Int) (x1405 : Int) : Link spec_TreeOk_ctx LL (Code.snd (Code.snd (Code.snd (Code.fst (Code.fst (Code.snd (Code.fst (Code.fst (Code.snd (Code.fst (Code.snd (Code.snd (Code.snd (Code.snd (bodyOf Tryd.f27))))))))))))))) (Ann.snd (Ann.snd (Ann.snd (Ann.fst (Ann.fst (Ann.snd (Ann.fst (Ann.fst (Ann.snd (Ann.fst (Ann.snd (Ann.snd (Ann.snd (Ann.snd spec_TreeOk_an)))))))))))))) (⟨mkE 65 0 [(0, .dat (.list (.int .i64)) x1295), (3, .dat (.int .i64) x1308), (4, .dat (.int .i64) x1404), (5, .dat (.int .i64) x1376), (6, .dat (.int .i64) x1405)], []⟩ : St) (spec_TreeOk_n11 x1295 x1308 x1405) (Sum.elim (fun (t : Unit) => (Exit.normal, (⟨mkE 65 0 [(0, .dat (.list (.int .i64)) x1295), (3, .dat (.int .i64) x1308), (4, .dat (.int .i64) x1404), (5, .dat (.int .i64) x1376)], []⟩ : St))) (fun (t : Bool) => (Exit.ret, (⟨mkE 65 0 [(2, .dat .bool t)], []⟩ : St)))) := by
  unfold spec_TreeOk_n11
  exact Link.cast (by kernel_rfl) (by kernel_rfl) (link_seq2 (b := (Code.snd (Code.snd (Code.snd (Code.snd (Code.fst (Code.fst (Code.snd (Code.fst (Code.fst (Code.snd (Code.fst (Code.snd (Code.snd (Code.snd (Code.snd (bodyOf Tryd.f27))))))))))))))))) (y := (Ann.snd (Ann.snd (Ann.snd (Ann.snd (Ann.fst (Ann.fst (Ann.snd (Ann.fst (Ann.fst (Ann.snd (Ann.fst (Ann.snd (Ann.snd (Ann.snd (Ann.snd spec_TreeOk_an)))))))))))))))) (spec_TreeOk_n9_l x1295 x1308 x1404 x1376 x1405) (fun (t : Int) => (spec_TreeOk_n10_l x1295 x1308 x1404 x1376 t)) (fun (t : Bool) => (Sum.inr t)) (by
  rintro t
  · kernel_rfl) (by
  rintro t f K h
  · exact h))

theorem spec_TreeOk_n12_l (x1295 : List Int) (x1308 : Int) (x1375 : Int) (x1376 : Int) : Link spec_TreeOk_ctx LL (Code.fst (Code.fst (Code.snd (Code.fst (Code.fst (Code.snd (Code.fst (Code.snd (Code.snd (Code.snd (Code.snd (bodyOf Tryd.f27)))))))))))) (Ann.fst (Ann.fst (Ann.snd (Ann.fst (Ann.fst (Ann.snd (Ann.fst (Ann.snd (Ann.snd (Ann.snd (Ann.snd spec_TreeOk_an))))))))))) (⟨mkE 65 0 [(0, .dat (.list (.int .i64)) x1295), (3, .dat (.int .i64) x1308), (4, .dat (.int .i64) x1375), (5, .dat (.int .i64) x1376)], []⟩ : St) (spec_TreeOk_n12 x1295 x1308 x1375 x1376) (Sum.elim (fun (t : Int) => (Exit.normal, (⟨mkE 65 0 [(0, .dat (.list (.int .i64)) x1295), (3, .dat (.int .i64) x1308), (4, .dat (.int .i64) t), (5, .dat (.int .i64) x1376)], []⟩ : St))) (fun (t : Bool) => (Exit.ret, (⟨mkE 65 0 [(2, .dat .bool t)], []⟩ : St)))) := by
  unfold spec_TreeOk_n12
  exact Link.cast (by kernel_rfl) (by kernel_rfl) (link_group (c := (Code.fst (Code.snd (Code.snd (Code.fst (Code.fst (Code.snd (Code.fst (Code.fst (Code.snd (Code.fst (Code.snd (Code.snd (Code.snd (Code.snd (bodyOf Tryd.f27)))))))))))))))) (a := (Ann.fst (Ann.snd (Ann.snd (Ann.fst (Ann.fst (Ann.snd (Ann.fst (Ann.fst (Ann.snd (Ann.fst (Ann.snd (Ann.snd (Ann.snd (Ann.snd spec_TreeOk_an))))))))))))))) [(Code.fst (Code.fst (Code.fst (Code.snd (Code.fst (Code.fst (Code.snd (Code.fst (Code.snd (Code.snd (Code.snd (Code.snd (bodyOf Tryd.f27))))))))))))), (Code.fst (Code.snd (Code.fst (Code.fst (Code.snd (Code.fst (Code.fst (Code.snd (Code.fst (Code.snd (Code.snd (Code.snd (Code.snd (bodyOf Tryd.f27))))))))))))))] [(Ann.fst (Ann.fst (Ann.fst (Ann.snd (Ann.fst (Ann.fst (Ann.snd (Ann.fst (Ann.snd (Ann.snd (Ann.snd (Ann.snd spec_TreeOk_an)))))))))))), (Ann.fst (Ann.snd (Ann.fst (Ann.fst (Ann.snd (Ann.fst (Ann.fst (Ann.snd (Ann.fst (Ann.snd (Ann.snd (Ann.snd (Ann.snd spec_TreeOk_an)))))))))))))] rfl (link_seq2 (b := (Code.snd (Code.snd (Code.snd (Code.fst (Code.fst (Code.snd (Code.fst (Code.fst (Code.snd (Code.fst (Code.snd (Code.snd (Code.snd (Code.snd (bodyOf Tryd.f27)))))))))))))))) (y := (Ann.snd (Ann.snd (Ann.snd (Ann.fst (Ann.fst (Ann.snd (Ann.fst (Ann.fst (Ann.snd (Ann.fst (Ann.snd (Ann.snd (Ann.snd (Ann.snd spec_TreeOk_an))))))))))))))) (spec_TreeOk_n4_l x1295 x1308 x1375 x1376) (fun (t : Int × Int) => (link_map (spec_TreeOk_n11_l x1295 x1308 t.1 x1376 t.2) (Sum.elim (fun (u : Unit) => (Sum.inl t.1)) (fun (u : Bool) => (Sum.inr u))) (by
  rintro (t | t)
  · kernel_rfl
  · kernel_rfl))) (fun (t : Bool) => (Sum.inr t)) (by
  rintro t
  · kernel_rfl) (by
  rintro t f K h
  · exact h)))

theorem spec_TreeOk_n13_l (x1295 : List Int) (x1308 : Int) (x1375 : Int) (x1376 : Int) : Link spec_TreeOk_ctx LL (Code.fst (Code.snd (Code.fst (Code.fst (Code.snd (Code.fst (Code.snd (Code.snd (Code.snd (Code.snd (bodyOf Tryd.f27))))))))))) (Ann.fst (Ann.snd (Ann.fst (Ann.fst (Ann.snd (Ann.fst (Ann.snd (Ann.snd (Ann.snd (Ann.snd spec_TreeOk_an)))))))))) (⟨mkE 65 0 [(0, .dat (.list (.int .i64)) x1295), (3, .dat (.int .i64) x1308), (4, .dat (.int .i64) x1375), (5, .dat (.int .i64) x1376)], []⟩ : St) (spec_TreeOk_n13 x1295 x1308 x1375 x1376) (Sum.elim (fun (t : Int) => (Exit.normal, (⟨mkE 65 0 [(0, .dat (.list (.int .i64)) x1295), (3, .dat (.int .i64) x1308), (4, .dat (.int .i64) t), (5, .dat (.int .i64) x1376)], []⟩ : St))) (fun (t : Bool) => (Exit.ret, (⟨mkE 65 0 [(2, .dat .bool t)], []⟩ : St)))) := by
  unfold spec_TreeOk_n13
  exact Link.cast (by kernel_rfl) (by kernel_rfl) (link_block (id := 1) (spec_TreeOk_n12_l x1295 x1308 x1375 x1376) (Sum.elim (fun (t : Int) => (Sum.inl t)) (fun (t : Bool) => (Sum.inr t))) (by
  rintro (t | t) K h
  · exact Eq.mp (by kernel_rfl) h
  · exact Eq.mp (by kernel_rfl) h))

theorem spec_TreeOk_n14_l (x1295 : List Int) (x1308 : Int) (x1404 : Int) (x1376 : Int) : Link spec_TreeOk_ctx LL (Code.snd (Code.snd (Code.fst (Code.fst (Code.snd (Code.fst (Code.snd (Code.snd (Code.snd (Code.snd (bodyOf Tryd.f27))))))))))) (Ann.snd (Ann.snd (Ann.fst (Ann.fst (Ann.snd (Ann.fst (Ann.snd (Ann.snd (Ann.snd (Ann.snd spec_TreeOk_an)))))))))) (⟨mkE 65 0 [(0, .dat (.list (.int .i64)) x1295), (3, .dat (.int .i64) x1308), (4, .dat (.int .i64) x1404), (5, .dat (.int .i64) x1376)], []⟩ : St) (spec_TreeOk_n14 x1376) (fun (t : Int) => (Exit.normal, (⟨mkE 65 0 [(0, .dat (.list (.int .i64)) x1295), (3, .dat (.int .i64) x1308), (4, .dat (.int .i64) x1404), (5, .dat (.int .i64) t)], []⟩ : St))) := by
  refine Link.of fun K h => ?_
  simp only [spec_TreeOk_n14, wpO_bind, wpO_cond, wpO_map, wpO_some] at h
  exact Awp.of (by kernel_rfl) h

theorem spec_TreeOk_n15_l (x1295 : List Int) (x1308 : Int) (x1375 : Int) (x1376 : Int) : Link spec_TreeOk_ctx LL (Code.snd (Code.fst (Code.fst (Code.snd (Code.fst (Code.snd (Code.snd (Code.snd (Code.snd (bodyOf Tryd.f27)))))))))) (Ann.snd (Ann.fst (Ann.fst (Ann.snd (Ann.fst (Ann.snd (Ann.snd (Ann.snd (Ann.snd spec_TreeOk_an))))))))) (⟨mkE 65 0 [(0, .dat (.list (.int .i64)) x1295), (3, .dat (.int .i64) x1308), (4, .dat (.int .i64) x1375), (5, .dat (.int .i64) x1376)], []⟩ : St) (spec_TreeOk_n15 x1295 x1308 x1375 x1376) (Sum.elim (fun (t : Int × Int) => (Exit.normal, (⟨mkE 65 0 [(0, .dat (.list (.int .i64)) x1295), (3, .dat (.int .i64) x1308), (4, .dat (.int .i64) t.1), (5, .dat (.int .i64) t.2)], []⟩ : St))) (fun (t : Bool) => (Exit.ret, (⟨mkE 65 0 [(2, .dat .bool t)], []⟩ : St)))) := by
  unfold spec_TreeOk_n15
  exact Link.cast (by kernel_rfl) (by kernel_rfl) (link_seq2 (b := (Code.snd (Code.snd (Code.fst (Code.fst (Code.snd (Code.fst (Code.snd (Code.snd (Code.snd (Code.snd (bodyOf Tryd.f27)))))))))))) (y := (Ann.snd (Ann.snd (Ann.fst (Ann.fst (Ann.snd (Ann.fst (Ann.snd (Ann.snd (Ann.snd (Ann.snd spec_TreeOk_an))))))))))) (spec_TreeOk_n13_l x1295 x1308 x1375 x1376) (fun (t : Int) => (link_map (spec_TreeOk_n14_l x1295 x1308 t x1376) (fun (u : Int) => (Sum.inl (t, u))) (by
  rintro t
  · kernel_rfl))) (fun (t : Bool) => (Sum.inr t)) (by
  rintro t
  · kernel_rfl) (by
  rintro t f K h
  · exact h))

theorem spec_TreeOk_n16_l (x1295 : List Int) (x1308 : Int) (x1375 : Int) (x1376 : Int) : Link spec_TreeOk_ctx LL (Code.fst (Code.fst (Code.snd (Code.fst (Code.snd (Code.snd (Code.snd (Code.snd (bodyOf Tryd.f27))))))))) (Ann.fst (Ann.fst (Ann.snd (Ann.fst (Ann.snd (Ann.snd (Ann.snd (Ann.snd spec_TreeOk_an)))))))) (⟨mkE 65 0 [(0, .dat (.list (.int .i64)) x1295), (3, .dat (.int .i64) x1308), (4, .dat (.int .i64) x1375), (5, .dat (.int .i64) x1376)], []⟩ : St) (spec_TreeOk_n16 x1295 x1308 x1375 x1376) (Sum.elim (fun (t : Int × Int) => (Exit.normal, (⟨mkE 65 0 [(0, .dat (.list (.int .i64)) x1295), (3, .dat (.int .i64) x1308), (4, .dat (.int .i64) t.1), (5, .dat (.int .i64) t.2)], []⟩ : St))) (Sum.elim (fun (t : Bool) => (Exit.ret, (⟨mkE 65 0 [(2, .dat .bool t)], []⟩ : St))) (fun (t : Int) => ((Exit.exit 0), (⟨mkE 65 0 [(4, .dat (.int .i64) t)], []⟩ : St))))) := by
  unfold spec_TreeOk_n16
  exact Link.cast (by kernel_rfl) (by kernel_rfl) (link_seq2 (b := (Code.snd (Code.fst (Code.fst (Code.snd (Code.fst (Code.snd (Code.snd (Code.snd (Code.snd (bodyOf Tryd.f27))))))))))) (y := (Ann.snd (Ann.fst (Ann.fst (Ann.snd (Ann.fst (Ann.snd (Ann.snd (Ann.snd (Ann.snd spec_TreeOk_an)))))))))) (spec_TreeOk_n3_l x1295 x1308 x1375 x1376) (fun (t : Unit) => (link_map (spec_TreeOk_n15_l x1295 x1308 x1375 x1376) (Sum.elim (fun (t : Int × Int) => (Sum.inl (t.1, t.2))) (fun (t : Bool) => (Sum.inr (Sum.inl t)))) (by
  rintro (t | t)
  · kernel_rfl
  · kernel_rfl))) (fun (t : Int) => (Sum.inr (Sum.inr t))) (by
  rintro t
  · kernel_rfl) (by
  rintro t f K h
  · exact h))

theorem spec_TreeOk_n17_l (x1295 : List Int) (x1308 : Int) : Link spec_TreeOk_ctx LL (Code.fst (Code.snd (Code.fst (Code.snd (Code.snd (Code.snd (Code.snd (bodyOf Tryd.f27)))))))) (Ann.fst (Ann.snd (Ann.fst (Ann.snd (Ann.snd (Ann.snd (Ann.snd spec_TreeOk_an))))))) (⟨mkE 65 0 [(0, .dat (.list (.int .i64)) x1295), (3, .dat (.int .i64) x1308), (4, .dat (.int .i64) 0), (5, .dat (.int .i64) 0)], []⟩ : St) (spec_TreeOk_n17 x1295 x1308) (Sum.elim (fun (t : Bool) => (Exit.ret, (⟨mkE 65 0 [(2, .dat .bool t)], []⟩ : St))) (fun (t : Int) => ((Exit.exit 0), (⟨mkE 65 0 [(4, .dat (.int .i64) t)], []⟩ : St)))) := by
  unfold spec_TreeOk_n17
  exact Link.cast (by kernel_rfl) (by kernel_rfl) (link_loop (mk := fun (s : Int × Int) => (⟨mkE 65 0 [(0, .dat (.list (.int .i64)) x1295), (3, .dat (.int .i64) x1308), (4, .dat (.int .i64) s.1), (5, .dat (.int .i64) s.2)], []⟩ : St)) (fin := (Sum.elim (fun (t : Bool) => (Exit.ret, (⟨mkE 65 0 [(2, .dat .bool t)], []⟩ : St))) (fun (t : Int) => ((Exit.exit 0), (⟨mkE 65 0 [(4, .dat (.int .i64) t)], []⟩ : St))))) (by
  rintro (t | t) f K h
  · exact h
  · exact h) (fun s => link_map (spec_TreeOk_n16_l x1295 x1308 s.1 s.2) (Sum.elim (fun (t : Int × Int) => Sum.inl (t.1, t.2)) (Sum.elim (fun (t : Bool) => Sum.inr (Sum.inl t)) (fun (t : Int) => Sum.inr (Sum.inr t)))) (by
  rintro (t | t | t)
  · kernel_rfl
  · kernel_rfl
  · kernel_rfl)) (0, 0))

theorem spec_TreeOk_n18_l (x1295 : List Int) (x1308 : Int) : Link spec_TreeOk_ctx LL (Code.snd (Code.fst (Code.snd (Code.snd (Code.snd (Code.snd (bodyOf Tryd.f27))))))) (Ann.snd (Ann.fst (Ann.snd (Ann.snd (Ann.snd (Ann.snd spec_TreeOk_an)))))) (⟨mkE 65 0 [(0, .dat (.list (.int .i64)) x1295), (3, .dat (.int .i64) x1308), (4, .dat (.int .i64) 0), (5, .dat (.int .i64) 0)], []⟩ : St) (spec_TreeOk_n18 x1295 x1308) (Sum.elim (fun (t : Int) => (Exit.normal, (⟨mkE 65 0 [(4, .dat (.int .i64) t)], []⟩ : St))) (fun (t : Bool) => (Exit.ret, (⟨mkE 65 0 [(2, .dat .bool t)], []⟩ : St)))) := by
  unfold spec_TreeOk_n18
  exact Link.cast (by kernel_rfl) (by kernel_rfl) (link_block (id := 0) (spec_TreeOk_n17_l x1295 x1308) (Sum.elim (fun (t : Bool) => (Sum.inr t)) (fun (t : Int) => (Sum.inl t))) (by
  rintro (t | t) K h
  · exact Eq.mp (by kernel_rfl) h
  · exact Eq.mp (by kernel_rfl) h))

theorem spec_TreeOk_n19_l (x1295 : List Int) (x1308 : Int) : Link spec_TreeOk_ctx LL (Code.fst (Code.snd (Code.snd (Code.snd (Code.snd (bodyOf Tryd.f27)))))) (Ann.fst (Ann.snd (Ann.snd (Ann.snd (Ann.snd spec_TreeOk_an))))) (⟨mkE 65 0 [(0, .dat (.list (.int .i64)) x1295), (3, .dat (.int .i64) x1308), (4, .dat (.int .i64) 0)], []⟩ : St) (spec_TreeOk_n19 x1295 x1308) (Sum.elim (fun (t : Int) => (Exit.normal, (⟨mkE 65 0 [(4, .dat (.int .i64) t)], []⟩ : St))) (fun (t : Bool) => (Exit.ret, (⟨mkE 65 0 [(2, .dat .bool t)], []⟩ : St)))) := by
  unfold spec_TreeOk_n19
  exact Link.cast (by kernel_rfl) (by kernel_rfl) (link_seq (b := (Code.snd (Code.fst (Code.snd (Code.snd (Code.snd (Code.snd (bodyOf Tryd.f27)))))))) (y := (Ann.snd (Ann.fst (Ann.snd (Ann.snd (Ann.snd (Ann.snd spec_TreeOk_an))))))) (spec_TreeOk_n2_l x1295 x1308) (fun (t : Unit) => (spec_TreeOk_n18_l x1295 x1308)))

theorem spec_TreeOk_n20_l (x1375 : Int) : Link spec_TreeOk_ctx LL (Code.snd (Code.snd (Code.snd (Code.snd (Code.snd (bodyOf Tryd.f27)))))) (Ann.snd (Ann.snd (Ann.snd (Ann.snd (Ann.snd spec_TreeOk_an))))) (⟨mkE 65 0 [(4, .dat (.int .i64) x1375)], []⟩ : St) (spec_TreeOk_n20 x1375) (fun (t : Bool) => (Exit.ret, (⟨mkE 65 0 [(2, .dat .bool t)], []⟩ : St))) := by
  refine Link.of fun K h => ?_
  simp only [spec_TreeOk_n20, wpO_bind, wpO_cond, wpO_map, wpO_some] at h
  exact Awp.of (by kernel_rfl) h

theorem spec_TreeOk_n21_l (x1295 : List Int) (x1308 : Int) : Link spec_TreeOk_ctx LL (Code.snd (Code.snd (Code.snd (Code.snd (bodyOf Tryd.f27))))) (Ann.snd (Ann.snd (Ann.snd (Ann.snd spec_TreeOk_an)))) (⟨mkE 65 0 [(0, .dat (.list (.int .i64)) x1295), (3, .dat (.int .i64) x1308), (4, .dat (.int .i64) 0)], []⟩ : St) (spec_TreeOk_n21 x1295 x1308) (fun (t : Bool) => (Exit.ret, (⟨mkE 65 0 [(2, .dat .bool t)], []⟩ : St))) := by
  unfold spec_TreeOk_n21
  exact Link.cast (by kernel_rfl) (by kernel_rfl) (link_seq2 (b := (Code.snd (Code.snd (Code.snd (Code.snd (Code.snd (bodyOf Tryd.f27))))))) (y := (Ann.snd (Ann.snd (Ann.snd (Ann.snd (Ann.snd spec_TreeOk_an)))))) (spec_TreeOk_n19_l x1295 x1308) (fun (t : Int) => (spec_TreeOk_n20_l t)) (fun (t : Bool) => t) (by
  rintro t
  · kernel_rfl) (by
  rintro t f K h
  · exact h))

theorem spec_TreeOk_n22_l (x1295 : List Int) : Link spec_TreeOk_ctx LL (bodyOf Tryd.f27) spec_TreeOk_an (⟨mkE 65 0 [(0, .dat (.list (.int .i64)) x1295)], []⟩ : St) (spec_TreeOk_n22 x1295) (fun (t : Bool) => (Exit.ret, (⟨mkE 65 0 [(2, .dat .bool t)], []⟩ : St))) := by
  unfold spec_TreeOk_n22
  exact Link.cast (by kernel_rfl) (by kernel_rfl) (link_group (c := (Code.fst (Code.snd (Code.snd (Code.snd (bodyOf Tryd.f27)))))) (a := (Ann.fst (Ann.snd (Ann.snd (Ann.snd spec_TreeOk_an))))) [(Code.fst (bodyOf Tryd.f27)), (Code.fst (Code.snd (bodyOf Tryd.f27))), (Code.fst (Code.snd (Code.snd (bodyOf Tryd.f27))))] [(Ann.fst spec_TreeOk_an), (Ann.fst (Ann.snd spec_TreeOk_an)), (Ann.fst (Ann.snd (Ann.snd spec_TreeOk_an)))] rfl (link_seq2 (b := (Code.snd (Code.snd (Code.snd (Code.snd (bodyOf Tryd.f27)))))) (y := (Ann.snd (Ann.snd (Ann.snd (Ann.snd spec_TreeOk_an))))) (spec_TreeOk_n1_l x1295) (fun (t : Int) => (spec_TreeOk_n21_l x1295 t)) (fun (t : Bool) => t) (by
  rintro t
  · kernel_rfl) (by
  rintro t f K h
  · exact h)))

theorem spec_TreeOk_e (x1295 : List Int) {r : AV} {H' : Heap} (h : (Ans.mk _ (spec_TreeOk x1295) (fun (t : Bool) => (.dat .bool t, []))).run = some (r, H')) : Awp spec_TreeOk_ctx LL (bodyOf Tryd.f27) spec_TreeOk_an (⟨mkE 65 0 [(0, .dat (.list (.int .i64)) x1295)], []⟩ : St) (Ret (tlook tys) Tryd.f27.results.toList r H') :=
  ret_of' (spec_TreeOk_n22_l x1295) (by unfold spec_TreeOk; kernel_rfl) (by
  intro t
  exact ret_mk [.dat .bool t] (by kernel_rfl) (by kernel_rfl) (by kernel_rfl) (by kernel_rfl)) h

def F_spec_TreeOk : Fun := fun avs H =>
  match avs, H with
  | [.dat (.list (.int .i64)) x1295], [] => ⟨_, spec_TreeOk x1295, fun (t : Bool) => (.dat .bool t, [])⟩
  | _, _ => Ans.no

theorem spec_TreeOk_sound : Sound Tryd.prog 27 F_spec_TreeOk := by
  refine fn_sound' (C := spec_TreeOk_ctx) (c := bodyOf Tryd.f27) (cok_of tys_ok (List.forall_mem_cons.2 ⟨spec_l1In_sound, by simp⟩) (List.forall_mem_cons.2 ⟨Tryd.call58, by simp⟩) (by kernel_rfl)) Tryd.func27 (by kernel_rfl) LL spec_TreeOk_an ?_
  intro avs H r H' h
  unfold F_spec_TreeOk at h
  split at h
  · refine Awp.cast ?_ ?_ ?_ (spec_TreeOk_e _ h) <;> kernel_rfl
  · simp [Ans.no, Ans.run] at h


/-! loop.example/headtrees/spec.l2Yield -/

def spec_l2Yield_an : Ann := (.seq (.leaf [0, 1]) (.seq (.leaf [0, 1, 5]) (.seq (.seq (.leaf [0, 1, 5, 6]) (.block (.loop (.seq (.seq (.leaf [0, 1, 5, 6, 13]) (.cond (.leaf [0, 1, 5, 6]) (.leaf [5]))) (.seq (.block (.seq (.leaf [0, 1, 5, 6, 21]) (.cond (.leaf [0, 1, 5, 6]) (.leaf [0, 1, 5, 6])))) (.leaf [0, 1, 5, 6])))))) (.seq (.leaf [4]) (.leaf [4])))))

def F_spec_l2Yield_fuel (n : Nat) : Fun := fun avs H =>
  match avs, H with
  | [.dat (.list (.int .i64)) x1454, .dat (.int .i64) x1455], [] => ⟨_, spec_l2Yield_fuel n x1454 x1455, fun (t : Int) => (.dat (.int .i64) t, [])⟩
  | _, _ => Ans.no

noncomputable def spec_l2Yield_ctx (n : Nat) : Ctx := ⟨tlook tys, olook [(60, F_spec_l2Yield_fuel n)], ioF, 0⟩

theorem spec_l2Yield_n1_l (n : Nat) (x1454 : List Int) (x1455 : Int) : Link (spec_l2Yield_ctx n) LL (Code.seq (Code.fst (bodyOf Tryd.f60)) (Code.fst (Code.snd (bodyOf Tryd.f60)))) (Ann.seq (Ann.fst spec_l2Yield_an) (Ann.fst (Ann.snd spec_l2Yield_an))) (⟨mkE 29 0 [(0, .dat (.list (.int .i64)) x1454), (1, .dat (.int .i64) x1455)], []⟩ : St) (spec_l2Yield_n1 (spec_l2Yield_fuel n) x1455) (fun (t : Int) => (Exit.normal, (⟨mkE 29 0 [(0, .dat (.list (.int .i64)) x1454), (1, .dat (.int .i64) x1455), (5, .dat (.int .i64) t)], []⟩ : St))) := by
  refine Link.of fun K h => ?_
  simp only [spec_l2Yield_n1, wpO_bind, wpO_cond, wpO_map, wpO_some] at h
  exact Awp.of (by kernel_rfl) h

theorem spec_l2Yield_n2_l (n : Nat) (x1454 : List Int) (x1455 : Int) (x1486 : Int) : Link (spec_l2Yield_ctx n) LL (Code.fst (Code.fst (Code.snd (Code.snd (bodyOf Tryd.f60))))) (Ann.fst (Ann.fst (Ann.snd (Ann.snd spec_l2Yield_an)))) (⟨mkE 29 0 [(0, .dat (.list (.int .i64)) x1454), (1, .dat (.int .i64) x1455), (5, .dat (.int .i64) x1486)], []⟩ : St) (spec_l2Yield_n2 (spec_l2Yield_fuel n)) (fun (t : Unit) => (Exit.normal, (⟨mkE 29 0 [(0, .dat (.list (.int .i64)) x1454), (1, .dat (.int .i64) x1455), (5, .dat (.int .i64) x1486), (6, .dat (.int .i64) 0)], []⟩ : St))) := by
  refine Link.of fun K h => ?_
  simp only [spec_l2Yield_n2, wpO_bind, wpO_cond, wpO_map, wpO_some] at h
  exact Awp.of (by kernel_rfl) h

theorem spec_l2Yield_n3_l (n : Nat) (x1454 : List Int) (x1455 : Int) (x1507 : Int) (x1508 : Int) : Link (spec_l2Yield_ctx n) LL (Code.fst (Code.fst (Code.snd (Code.fst (Code.snd (Code.snd (bodyOf Tryd.f60))))))) (Ann.fst (Ann.fst (Ann.snd (Ann.fst (Ann.snd (Ann.snd spec_l2Yield_an)))))) (⟨mkE 29 0 [(0, .dat (.list (.int .i64)) x1454), (1, .dat (.int .i64) x1455), (5, .dat (.int .i64) x1507), (6, .dat (.int .i64) x1508)], []⟩ : St) (spec_l2Yield_n3 (spec_l2Yield_fuel n) x1454 x1455 x1507 x1508) (Sum.elim (fun (t : Int × Int) => (Exit.normal, (⟨mkE 29 0 [(0, .dat (.list (.int .i64)) x1454), (1, .dat (.int .i64) x1455), (5, .dat (.int .i64) t.1), (6, .dat (.int .i64) t.2)], []⟩ : St))) (fun (t : Int) => ((Exit.exit 0), (⟨mkE 29 0 [(5, .dat (.int .i64) t)], []⟩ : St)))) := by
  refine Link.of fun K h => ?_
  simp only [spec_l2Yield_n3, wpO_bind, wpO_cond, wpO_map, wpO_some] at h
  exact Awp.of (by kernel_rfl) h

theorem spec_l2Yield_n4_l (n : Nat) (x1454 : List Int) (x1455 : Int) (x1486 : Int) : Link (spec_l2Yield_ctx n) LL (Code.fst (Code.snd (Code.fst (Code.snd (Code.snd (bodyOf Tryd.f60)))))) (Ann.fst (Ann.snd (Ann.fst (Ann.snd (Ann.snd spec_l2Yield_an))))) (⟨mkE 29 0 [(0, .dat (.list (.int .i64)) x1454), (1, .dat (.int .i64) x1455), (5, .dat (.int .i64) x1486), (6, .dat (.int .i64) 0)], []⟩ : St) (spec_l2Yield_n4 (spec_l2Yield_fuel n) x1454 x1455 x1486) (fun (t : Int) => ((Exit.exit 0), (⟨mkE 29 0 [(5, .dat (.int .i64) t)], []⟩ : St))) := by
  unfold spec_l2Yield_n4
  exact Link.cast (by kernel_rfl) (by kernel_rfl) (link_loop (mk := fun (s : Int × Int) => (⟨mkE 29 0 [(0, .dat (.list (.int .i64)) x1454), (1, .dat (.int .i64) x1455), (5, .dat (.int .i64) s.1), (6, .dat (.int .i64) s.2)], []⟩ : St)) (fin := (fun (t : Int) => ((Exit.exit 0), (⟨mkE 29 0 [(5, .dat (.int .i64) t)], []⟩ : St)))) (by
  rintro t f K h
  · exact h) (fun s => link_map (spec_l2Yield_n3_l n x1454 x1455 s.1 s.2) (Sum.elim (fun (t : Int × Int) => Sum.inl (t.1, t.2)) (fun (t : Int) => Sum.inr t)) (by
  rintro (t | t)
  · kernel_rfl
  · kernel_rfl)) (x1486, 0))

theorem spec_l2Yield_n5_l (n : Nat) (x1454 : List Int) (x1455 : Int) (x1486 : Int) : Link (spec_l2Yield_ctx n) LL (Code.snd (Code.fst (Code.snd (Code.snd (bodyOf Tryd.f60))))) (Ann.snd (Ann.fst (Ann.snd (Ann.snd spec_l2Yield_an)))) (⟨mkE 29 0 [(0, .dat (.list (.int .i64)) x1454), (1, .dat (.int .i64) x1455), (5, .dat (.int .i64) x1486), (6, .dat (.int .i64) 0)], []⟩ : St) (spec_l2Yield_n5 (spec_l2Yield_fuel n) x1454 x1455 x1486) (fun (t : Int) => (Exit.normal, (⟨mkE 29 0 [(5, .dat (.int .i64) t)], []⟩ : St))) := by
  unfold spec_l2Yield_n5
  exact Link.cast (by kernel_rfl) (by kernel_rfl) (link_block (id := 0) (spec_l2Yield_n4_l n x1454 x1455 x1486) (fun (t : Int) => t) (by
  rintro t K h
  · exact Eq.mp (by kernel_rfl) h))

theorem spec_l2Yield_n6_l (n : Nat) (x1454 : List Int) (x1455 : Int) (x1486 : Int) : Link (spec_l2Yield_ctx n) LL (Code.fst (Code.snd (Code.snd (bodyOf Tryd.f60)))) (Ann.fst (Ann.snd (Ann.snd spec_l2Yield_an))) (⟨mkE 29 0 [(0, .dat (.list (.int .i64)) x1454), (1, .dat (.int .i64) x1455), (5, .dat (.int .i64) x1486)], []⟩ : St) (spec_l2Yield_n6 (spec_l2Yield_fuel n) x1454 x1455 x1486) (fun (t : Int) => (Exit.normal, (⟨mkE 29 0 [(5, .dat (.int .i64) t)], []⟩ : St))) := by
  unfold spec_l2Yield_n6
  exact Link.cast (by kernel_rfl) (by kernel_rfl) (link_seq (b := (Code.snd (Code.fst (Code.snd (Code.snd (bodyOf Tryd.f60)))))) (y := (Ann.snd (Ann.fst (Ann.snd (Ann.snd spec_l2Yield_an))))) (spec_l2Yield_n2_l n x1454 x1455 x1486) (fun (t : Unit) => (spec_l2Yield_n5_l n x1454 x1455 x1486)))

theorem spec_l2Yield_n7_l (n : Nat) (x1507 : Int) : Link (spec_l2Yield_ctx n) LL (Code.snd (Code.snd (Code.snd (bodyOf Tryd.f60)))) (Ann.snd (Ann.snd (Ann.snd spec_l2Yield_an))) (⟨mkE 29 0 [(5, .dat (.int .i64) x1507)], []⟩ : St) (spec_l2Yield_n7 (spec_l2Yield_fuel n) x1507) (fun (t : Int) => (Exit.ret, (⟨mkE 29 0 [(4, .dat (.int .i64) t)], []⟩ : St))) := by
  refine Link.of fun K h => ?_
  simp only [spec_l2Yield_n7, wpO_bind, wpO_cond, wpO_map, wpO_some] at h
  exact Awp.of (by kernel_rfl) h

theorem spec_l2Yield_n8_l (n : Nat) (x1454 : List Int) (x1455 : Int) (x1486 : Int) : Link (spec_l2Yield_ctx n) LL (Code.snd (Code.snd (bodyOf Tryd.f60))) (Ann.snd (Ann.snd spec_l2Yield_an)) (⟨mkE 29 0 [(0, .dat (.list (.int .i64)) x1454), (1, .dat (.int .i64) x1455), (5, .dat (.int .i64) x1486)], []⟩ : St) (spec_l2Yield_n8 (spec_l2Yield_fuel n) x1454 x1455 x1486) (fun (t : Int) => (Exit.ret, (⟨mkE 29 0 [(4, .dat (.int .i64) t)], []⟩ : St))) := by
  unfold spec_l2Yield_n8
  exact Link.cast (by kernel_rfl) (by kernel_rfl) (link_seq (b := (Code.snd (Code.snd (Code.snd (bodyOf Tryd.f60))))) (y := (Ann.snd (Ann.snd (Ann.snd spec_l2Yield_an)))) (spec_l2Yield_n6_l n x1454 x1455 x1486) (fun (t : Int) => (spec_l2Yield_n7_l n t)))

theorem spec_l2Yield_n9_l (n : Nat) (x1454 : List Int) (x1455 : Int) : Link (spec_l2Yield_ctx n) LL (bodyOf Tryd.f60) spec_l2Yield_an (⟨mkE 29 0 [(0, .dat (.list (.int .i64)) x1454), (1, .dat (.int .i64) x1455)], []⟩ : St) (spec_l2Yield_n9 (spec_l2Yield_fuel n) x1454 x1455) (fun (t : Int) => (Exit.ret, (⟨mkE 29 0 [(4, .dat (.int .i64) t)], []⟩ : St))) := by
  unfold spec_l2Yield_n9
  exact Link.cast (by kernel_rfl) (by kernel_rfl) (link_group (c := (Code.fst (Code.snd (bodyOf Tryd.f60)))) (a := (Ann.fst (Ann.snd spec_l2Yield_an))) [(Code.fst (bodyOf Tryd.f60))] [(Ann.fst spec_l2Yield_an)] rfl (link_seq (b := (Code.snd (Code.snd (bodyOf Tryd.f60)))) (y := (Ann.snd (Ann.snd spec_l2Yield_an))) (spec_l2Yield_n1_l n x1454 x1455) (fun (t : Int) => (spec_l2Yield_n8_l n x1454 x1455 t))))

theorem spec_l2Yield_e (n : Nat) (x1454 : List Int) (x1455 : Int) {r : AV} {H' : Heap} (h : (Ans.mk _ (spec_l2Yield_fuel (n + 1) x1454 x1455) (fun (t : Int) => (.dat (.int .i64) t, []))).run = some (r, H')) : Awp (spec_l2Yield_ctx n) LL (bodyOf Tryd.f60) spec_l2Yield_an (⟨mkE 29 0 [(0, .dat (.list (.int .i64)) x1454), (1, .dat (.int .i64) x1455)], []⟩ : St) (Ret (tlook tys) Tryd.f60.results.toList r H') :=
  ret_of' (spec_l2Yield_n9_l n x1454 x1455) (by (show _ = _); kernel_rfl) (by
  intro t
  exact ret_mk [.dat (.int .i64) t] (by kernel_rfl) (by kernel_rfl) (by kernel_rfl) (by kernel_rfl)) h

theorem spec_l2Yield_step (n : Nat) (h60 : Sound Tryd.prog 60 (F_spec_l2Yield_fuel n)) : Sound Tryd.prog 60 (F_spec_l2Yield_fuel (n + 1)) := by
  refine fn_sound' (C := spec_l2Yield_ctx n) (c := bodyOf Tryd.f60) (cok_of tys_ok (List.forall_mem_cons.2 ⟨h60, by simp⟩) (List.forall_mem_cons.2 ⟨Tryd.call60, by simp⟩) (by kernel_rfl)) Tryd.func60 (by kernel_rfl) LL spec_l2Yield_an ?_
  intro avs H r H' h
  unfold F_spec_l2Yield_fuel at h
  split at h
  · refine Awp.cast ?_ ?_ ?_ (spec_l2Yield_e n _ _ h) <;> kernel_rfl
  · simp [Ans.no, Ans.run] at h

theorem spec_l2Yield_null : Sound Tryd.prog 60 (F_spec_l2Yield_fuel 0) := by
  intro avs H r H' h
  unfold F_spec_l2Yield_fuel at h
  split at h
  · simp [spec_l2Yield_fuel, spec_l2Yield_knot, Ans.run] at h
  · simp [Ans.no, Ans.run] at h

theorem spec_l2Yield_knot_all : ∀ n, Sound Tryd.prog 60 (F_spec_l2Yield_fuel n)
  | 0 => spec_l2Yield_null
  | n + 1 => by
    have h60 := spec_l2Yield_knot_all n
    exact spec_l2Yield_step n h60

def F_spec_l2Yield : Fun := fun avs H =>
  match avs, H with
  | [.dat (.list (.int .i64)) x1454, .dat (.int .i64) x1455], [] => ⟨_, spec_l2Yield x1454 x1455, fun (t : Int) => (.dat (.int .i64) t, [])⟩
  | _, _ => Ans.no

theorem spec_l2Yield_sound : Sound Tryd.prog 60 F_spec_l2Yield := by
  have e : F_spec_l2Yield = F_spec_l2Yield_fuel RR := by
    funext avs H
    unfold F_spec_l2Yield F_spec_l2Yield_fuel
    split <;> first | rfl | (simp only [spec_l2Yield])
  rw [e]
  exact (spec_l2Yield_knot_all RR)


/-! loop.example/headtrees/laws.alive -/

def laws_alive_an : Ann := (.seq (.leaf []) (.seq (.leaf [0]) (.leaf [0])))

noncomputable def laws_alive_ctx : Ctx := ⟨tlook tys, olook [(40, F_impl_TreeOk)], ioF, 0⟩

theorem laws_alive_n1_l : Link laws_alive_ctx LL (bodyOf Tryd.f20) laws_alive_an (⟨mkE 8 0 [], []⟩ : St) (laws_alive_n1) (fun (t : Bool) => (Exit.ret, (⟨mkE 8 0 [(0, .dat .bool t)], []⟩ : St))) := by
  refine Link.of fun K h => ?_
  simp only [laws_alive_n1, wpO_bind, wpO_cond, wpO_map, wpO_some] at h
  exact Awp.of (by kernel_rfl) h

theorem laws_alive_e {r : AV} {H' : Heap} (h : (Ans.mk _ (laws_alive) (fun (t : Bool) => (.dat .bool t, []))).run = some (r, H')) : Awp laws_alive_ctx LL (bodyOf Tryd.f20) laws_alive_an (⟨mkE 8 0 [], []⟩ : St) (Ret (tlook tys) Tryd.f20.results.toList r H') :=
  ret_of' (laws_alive_n1_l) (by unfold laws_alive; kernel_rfl) (by
  intro t
  exact ret_mk [.dat .bool t] (by kernel_rfl) (by kernel_rfl) (by kernel_rfl) (by kernel_rfl)) h

def F_laws_alive : Fun := fun avs H =>
  match avs, H with
  | [], [] => ⟨_, laws_alive, fun (t : Bool) => (.dat .bool t, [])⟩
  | _, _ => Ans.no

theorem laws_alive_sound : Sound Tryd.prog 20 F_laws_alive := by
  refine fn_sound' (C := laws_alive_ctx) (c := bodyOf Tryd.f20) (cok_of tys_ok (List.forall_mem_cons.2 ⟨impl_TreeOk_sound, by simp⟩) (List.forall_mem_cons.2 ⟨Tryd.call40, by simp⟩) (by kernel_rfl)) Tryd.func20 (by kernel_rfl) LL laws_alive_an ?_
  intro avs H r H' h
  unfold F_laws_alive at h
  split at h
  · refine Awp.cast ?_ ?_ ?_ (laws_alive_e h) <;> kernel_rfl
  · simp [Ans.no, Ans.run] at h


/-! (loop.example/headtrees/impl.wordSet).hasAll -/

def impl_wordSet_hasAll_an : Ann := (.seq (.leaf [0, 1]) (.seq (.leaf [4]) (.leaf [4])))

noncomputable def impl_wordSet_hasAll_ctx : Ctx := ⟨tlook tys, olook [], ioF, 0⟩

theorem impl_wordSet_hasAll_n1_l (x2245 : Int) (x2246 : Int) : Link impl_wordSet_hasAll_ctx LL (bodyOf Tryd.f64) impl_wordSet_hasAll_an (⟨mkE 10 0 [(0, .dat (.int .u64) x2245), (1, .dat (.int .u64) x2246)], []⟩ : St) (impl_wordSet_hasAll_n1 x2245 x2246) (fun (t : Bool) => (Exit.ret, (⟨mkE 10 0 [(4, .dat .bool t)], []⟩ : St))) := by
  refine Link.of fun K h => ?_
  simp only [impl_wordSet_hasAll_n1, wpO_bind, wpO_cond, wpO_map, wpO_some] at h
  exact Awp.of (by kernel_rfl) h

theorem impl_wordSet_hasAll_e (x2245 : Int) (x2246 : Int) {r : AV} {H' : Heap} (h : (Ans.mk _ (impl_wordSet_hasAll x2245 x2246) (fun (t : Bool) => (.dat .bool t, []))).run = some (r, H')) : Awp impl_wordSet_hasAll_ctx LL (bodyOf Tryd.f64) impl_wordSet_hasAll_an (⟨mkE 10 0 [(0, .dat (.int .u64) x2245), (1, .dat (.int .u64) x2246)], []⟩ : St) (Ret (tlook tys) Tryd.f64.results.toList r H') :=
  ret_of' (impl_wordSet_hasAll_n1_l x2245 x2246) (by unfold impl_wordSet_hasAll; kernel_rfl) (by
  intro t
  exact ret_mk [.dat .bool t] (by kernel_rfl) (by kernel_rfl) (by kernel_rfl) (by kernel_rfl)) h

def F_impl_wordSet_hasAll : Fun := fun avs H =>
  match avs, H with
  | [.dat (.int .u64) x2245, .dat (.int .u64) x2246], [] => ⟨_, impl_wordSet_hasAll x2245 x2246, fun (t : Bool) => (.dat .bool t, [])⟩
  | _, _ => Ans.no

theorem impl_wordSet_hasAll_sound : Sound Tryd.prog 64 F_impl_wordSet_hasAll := by
  refine fn_sound' (C := impl_wordSet_hasAll_ctx) (c := bodyOf Tryd.f64) (cok_of tys_ok (by simp) (by simp) (by kernel_rfl)) Tryd.func64 (by kernel_rfl) LL impl_wordSet_hasAll_an ?_
  intro avs H r H' h
  unfold F_impl_wordSet_hasAll at h
  split at h
  · refine Awp.cast ?_ ?_ ?_ (impl_wordSet_hasAll_e _ _ h) <;> kernel_rfl
  · simp [Ans.no, Ans.run] at h


/-! loop.example/headtrees/impl.UnderOk -/

def impl_UnderOk_an : Ann := (.seq (.leaf [0, 1, 2]) (.seq (.seq (.leaf [0, 1, 2, 16]) (.cond (.seq (.leaf [6]) (.leaf [6])) (.leaf [0, 1, 2]))) (.seq (.draw [1, 7, 8] [0, 2, 3, 6, 1, 4, 5, 7, 8, 9] [] [6]) (.leaf [6]))))

noncomputable def impl_UnderOk_ctx : Ctx := ⟨tlook tys, olook [(55, F_impl_wordOk), (56, F_impl_yieldsOf), (65, F_impl_only), (64, F_impl_wordSet_hasAll)], ioF, 0⟩

theorem impl_UnderOk_n1_l (x2229 : List Int) (x2230 : Int) (x2231 : Int) : Link impl_UnderOk_ctx LL (bodyOf Tryd.f29) impl_UnderOk_an (⟨mkE 26 0 [(0, .dat (.list (.int .i64)) x2229), (1, .dat (.int .i64) x2230), (2, .dat (.int .i64) x2231)], []⟩ : St) (impl_UnderOk_n1 x2229 x2230 x2231) (fun (t : Bool) => (Exit.ret, (⟨mkE 26 0 [(6, .dat .bool t)], []⟩ : St))) := by
  refine Link.of fun K h => ?_
  simp only [impl_UnderOk_n1, wpO_bind, wpO_cond, wpO_map, wpO_some] at h
  exact Awp.of (by kernel_rfl) h

theorem impl_UnderOk_e (x2229 : List Int) (x2230 : Int) (x2231 : Int) {r : AV} {H' : Heap} (h : (Ans.mk _ (impl_UnderOk x2229 x2230 x2231) (fun (t : Bool) => (.dat .bool t, []))).run = some (r, H')) : Awp impl_UnderOk_ctx LL (bodyOf Tryd.f29) impl_UnderOk_an (⟨mkE 26 0 [(0, .dat (.list (.int .i64)) x2229), (1, .dat (.int .i64) x2230), (2, .dat (.int .i64) x2231)], []⟩ : St) (Ret (tlook tys) Tryd.f29.results.toList r H') :=
  ret_of' (impl_UnderOk_n1_l x2229 x2230 x2231) (by unfold impl_UnderOk; kernel_rfl) (by
  intro t
  exact ret_mk [.dat .bool t] (by kernel_rfl) (by kernel_rfl) (by kernel_rfl) (by kernel_rfl)) h

def F_impl_UnderOk : Fun := fun avs H =>
  match avs, H with
  | [.dat (.list (.int .i64)) x2229, .dat (.int .i64) x2230, .dat (.int .i64) x2231], [] => ⟨_, impl_UnderOk x2229 x2230 x2231, fun (t : Bool) => (.dat .bool t, [])⟩
  | _, _ => Ans.no

theorem impl_UnderOk_sound : Sound Tryd.prog 29 F_impl_UnderOk := by
  refine fn_sound' (C := impl_UnderOk_ctx) (c := bodyOf Tryd.f29) (cok_of tys_ok (List.forall_mem_cons.2 ⟨impl_wordOk_sound, List.forall_mem_cons.2 ⟨impl_yieldsOf_sound, List.forall_mem_cons.2 ⟨impl_only_sound, List.forall_mem_cons.2 ⟨impl_wordSet_hasAll_sound, by simp⟩⟩⟩⟩) (List.forall_mem_cons.2 ⟨Tryd.call55, List.forall_mem_cons.2 ⟨Tryd.call56, List.forall_mem_cons.2 ⟨Tryd.call65, List.forall_mem_cons.2 ⟨Tryd.call64, by simp⟩⟩⟩⟩) (by kernel_rfl)) Tryd.func29 (by kernel_rfl) LL impl_UnderOk_an ?_
  intro avs H r H' h
  unfold F_impl_UnderOk at h
  split at h
  · refine Awp.cast ?_ ?_ ?_ (impl_UnderOk_e _ _ _ h) <;> kernel_rfl
  · simp [Ans.no, Ans.run] at h


/-! loop.example/headtrees/spec.l20Fill -/

def spec_l20Fill_an : Ann := (.seq (.seq (.leaf [0, 1, 2, 3, 4, 16]) (.cond (.leaf []) (.leaf [0, 1, 2, 3, 4]))) (.seq (.leaf [0, 1, 2, 3, 4, 10]) (.seq (.leaf [0, 1, 2, 3, 10]) (.seq (.leaf [0, 1, 3, 10, 11]) (.seq (.block (.loop (.seq (.seq (.leaf [0, 1, 3, 10, 11, 33]) (.cond (.leaf [0, 1, 3, 10, 11]) (.leaf [0, 1, 3, 10]))) (.block (.seq (.leaf [0, 1, 3, 10, 11, 12]) (.seq (.leaf [0, 1, 3, 10, 12]) (.leaf [0, 1, 3, 10, 11]))))))) (.seq (.leaf [0, 1, 3, 10, 11]) (.block (.loop (.seq (.seq (.leaf [0, 1, 3, 10, 11, 53]) (.cond (.leaf [0, 1, 3, 10, 11]) (.leaf []))) (.block (.seq (.leaf [0, 1, 3, 10, 11, 13]) (.seq (.leaf [0, 1, 3, 10, 13]) (.leaf [0, 1, 3, 10, 11])))))))))))))

def F_spec_l20Fill_fuel (n : Nat) : Fun := fun avs H =>
  match avs, H with
  | [.ptr 0 0, .slc 1, .dat (.int .i64) x3102, .dat (.int .i64) x3103, .dat (.int .i64) x3104], [some (.box [.dat (.list (.int .u8)) x3105, .dat (.int .i64) x3106]), some (.seq (.int .i64) x3107)] => ⟨_, spec_l20Fill_fuel n x3102 x3103 x3104 x3105 x3106 x3107, fun (t : Int × (List Int)) => (.tup [], [some (.box [.dat (.list (.int .u8)) x3105, .dat (.int .i64) t.1]), some (.seq (.int .i64) t.2)])⟩
  | _, _ => Ans.no

noncomputable def spec_l20Fill_ctx (n : Nat) : Ctx := ⟨tlook tys, olook [(63, F_spec_l20Rd_pick), (85, F_spec_l20Fill_fuel n)], ioF, 2⟩

theorem spec_l20Fill_n1_l (n : Nat) (x3102 : Int) (x3103 : Int) (x3104 : Int) (x3105 : List Int) (x3106 : Int) (x3107 : List Int) : Link (spec_l20Fill_ctx n) LL (Code.seq (Code.fst (bodyOf Tryd.f85)) (Code.seq (Code.fst (Code.snd (bodyOf Tryd.f85))) (Code.seq (Code.fst (Code.snd (Code.snd (bodyOf Tryd.f85)))) (Code.fst (Code.snd (Code.snd (Code.snd (bodyOf Tryd.f85)))))))) (Ann.seq (Ann.fst spec_l20Fill_an) (Ann.seq (Ann.fst (Ann.snd spec_l20Fill_an)) (Ann.seq (Ann.fst (Ann.snd (Ann.snd spec_l20Fill_an))) (Ann.fst (Ann.snd (Ann.snd (Ann.snd spec_l20Fill_an))))))) (⟨mkE 70 0 [(0, .ptr 0 0), (1, .slc 1), (2, .dat (.int .i64) x3102), (3, .dat (.int .i64) x3103), (4, .dat (.int .i64) x3104)], [some (.box [.dat (.list (.int .u8)) x3105, .dat (.int .i64) x3106]), some (.seq (.int .i64) x3107)]⟩ : St) (spec_l20Fill_n1 (spec_l20Fill_fuel n) x3102 x3103 x3104 x3105 x3106 x3107) (Sum.elim (fun (t : Int × Int × (List Int)) => (Exit.normal, (⟨mkE 70 0 [(0, .ptr 0 0), (1, .slc 1), (3, .dat (.int .i64) x3103), (10, .dat (.int .i64) t.1), (11, .dat (.int .i64) x3102)], [some (.box [.dat (.list (.int .u8)) x3105, .dat (.int .i64) t.2.1]), some (.seq (.int .i64) t.2.2)]⟩ : St))) (fun (t : Int × (List Int)) => (Exit.ret, (⟨mkE 70 0 [], [some (.box [.dat (.list (.int .u8)) x3105, .dat (.int .i64) t.1]), some (.seq (.int .i64) t.2)]⟩ : St)))) := by
  refine Link.of fun K h => ?_
  simp only [spec_l20Fill_n1, wpO_bind, wpO_cond, wpO_map, wpO_some] at h
  exact Awp.of (by kernel_rfl) h

theorem spec_l20Fill_n2_l (n : Nat) (x3103 : Int) (x3178 : Int) (x3193 : Int) (x3105 : List Int) (x3194 : Int) (x3195 : List Int) : Link (spec_l20Fill_ctx n) LL (Code.fst (Code.fst (Code.fst (Code.snd (Code.snd (Code.snd (Code.snd (bodyOf Tryd.f85)))))))) (Ann.fst (Ann.fst (Ann.fst (Ann.snd (Ann.snd (Ann.snd (Ann.snd spec_l20Fill_an))))))) (⟨mkE 70 0 [(0, .ptr 0 0), (1, .slc 1), (3, .dat (.int .i64) x3103), (10, .dat (.int .i64) x3178), (11, .dat (.int .i64) x3193)], [some (.box [.dat (.list (.int .u8)) x3105, .dat (.int .i64) x3194]), some (.seq (.int .i64) x3195)]⟩ : St) (spec_l20Fill_n2 (spec_l20Fill_fuel n) x3178 x3193 x3105 x3194 x3195) (Sum.elim (fun (t : Int × Int × (List Int)) => (Exit.normal, (⟨mkE 70 0 [(0, .ptr 0 0), (1, .slc 1), (3, .dat (.int .i64) x3103), (10, .dat (.int .i64) x3178), (11, .dat (.int .i64) t.1)], [some (.box [.dat (.list (.int .u8)) x3105, .dat (.int .i64) t.2.1]), some (.seq (.int .i64) t.2.2)]⟩ : St))) (fun (t : Int × (List Int)) => ((Exit.exit 0), (⟨mkE 70 0 [(0, .ptr 0 0), (1, .slc 1), (3, .dat (.int .i64) x3103), (10, .dat (.int .i64) x3178)], [some (.box [.dat (.list (.int .u8)) x3105, .dat (.int .i64) t.1]), some (.seq (.int .i64) t.2)]⟩ : St)))) := by
  refine Link.of fun K h => ?_
  simp only [spec_l20Fill_n2, wpO_bind, wpO_cond, wpO_map, wpO_some] at h
  exact Awp.of (by kernel_rfl) h

theorem spec_l20Fill_n3_l (n : Nat) (x3103 : Int) (x3178 : Int) (x3102 : Int) (x3105 : List Int) (x3177 : Int) (x3181 : List Int) : Link (spec_l20Fill_ctx n) LL (Code.fst (Code.fst (Code.snd (Code.snd (Code.snd (Code.snd (bodyOf Tryd.f85))))))) (Ann.fst (Ann.fst (Ann.snd (Ann.snd (Ann.snd (Ann.snd spec_l20Fill_an)))))) (⟨mkE 70 0 [(0, .ptr 0 0), (1, .slc 1), (3, .dat (.int .i64) x3103), (10, .dat (.int .i64) x3178), (11, .dat (.int .i64) x3102)], [some (.box [.dat (.list (.int .u8)) x3105, .dat (.int .i64) x3177]), some (.seq (.int .i64) x3181)]⟩ : St) (spec_l20Fill_n3 (spec_l20Fill_fuel n) x3178 x3102 x3105 x3177 x3181) (fun (t : Int × (List Int)) => ((Exit.exit 0), (⟨mkE 70 0 [(0, .ptr 0 0), (1, .slc 1), (3, .dat (.int .i64) x3103), (10, .dat (.int .i64) x3178)], [some (.box [.dat (.list (.int .u8)) x3105, .dat (.int .i64) t.1]), some (.seq (.int .i64) t.2)]⟩ : St))) := by
  unfold spec_l20Fill_n3
  exact Link.cast (by kernel_rfl) (by kernel_rfl) (link_loop (mk := fun (s : Int × Int × (List Int)) => (⟨mkE 70 0 [(0, .ptr 0 0), (1, .slc 1), (3, .dat (.int .i64) x3103), (10, .dat (.int .i64) x3178), (11, .dat (.int .i64) s.1)], [some (.box [.dat (.list (.int .u8)) x3105, .dat (.int .i64) s.2.1]), some (.seq (.int .i64) s.2.2)]⟩ : St)) (fin := (fun (t : Int × (List Int)) => ((Exit.exit 0), (⟨mkE 70 0 [(0, .ptr 0 0), (1, .slc 1), (3, .dat (.int .i64) x3103), (10, .dat (.int .i64) x3178)], [some (.box [.dat (.list (.int .u8)) x3105, .dat (.int .i64) t.1]), some (.seq (.int .i64) t.2)]⟩ : St)))) (by
  rintro t f K h
  · exact h) (fun s => link_map (spec_l20Fill_n2_l n x3103 x3178 s.1 x3105 s.2.1 s.2.2) (Sum.elim (fun (t : Int × Int × (List Int)) => Sum.inl (t.1, t.2.1, t.2.2)) (fun (t : Int × (List Int)) => Sum.inr t)) (by
  rintro (t | t)
  · kernel_rfl
  · kernel_rfl)) (x3102, x3177, x3181))

theorem spec_l20Fill_n4_l (n : Nat) (x3103 : Int) (x3178 : Int) (x3102 : Int) (x3105 : List Int) (x3177 : Int) (x3181 : List Int) : Link (spec_l20Fill_ctx n) LL (Code.fst (Code.snd (Code.snd (Code.snd (Code.snd (bodyOf Tryd.f85)))))) (Ann.fst (Ann.snd (Ann.snd (Ann.snd (Ann.snd spec_l20Fill_an))))) (⟨mkE 70 0 [(0, .ptr 0 0), (1, .slc 1), (3, .dat (.int .i64) x3103), (10, .dat (.int .i64) x3178), (11, .dat (.int .i64) x3102)], [some (.box [.dat (.list (.int .u8)) x3105, .dat (.int .i64) x3177]), some (.seq (.int .i64) x3181)]⟩ : St) (spec_l20Fill_n4 (spec_l20Fill_fuel n) x3178 x3102 x3105 x3177 x3181) (fun (t : Int × (List Int)) => (Exit.normal, (⟨mkE 70 0 [(0, .ptr 0 0), (1, .slc 1), (3, .dat (.int .i64) x3103), (10, .dat (.int .i64) x3178)], [some (.box [.dat (.list (.int .u8)) x3105, .dat (.int .i64) t.1]), some (.seq (.int .i64) t.2)]⟩ : St))) := by
  unfold spec_l20Fill_n4
  exact Link.cast (by kernel_rfl) (by kernel_rfl) (link_block (id := 0) (spec_l20Fill_n3_l n x3103 x3178 x3102 x3105 x3177 x3181) (fun (t : Int × (List Int)) => (t.1, t.2)) (by
  rintro t K h
  · exact Eq.mp (by kernel_rfl) h))

theorem spec_l20Fill_n5_l (n : Nat) (x3103 : Int) (x3178 : Int) (x3105 : List Int) (x3194 : Int) (x3195 : List Int) : Link (spec_l20Fill_ctx n) LL (Code.fst (Code.snd (Code.snd (Code.snd (Code.snd (Code.snd (bodyOf Tryd.f85))))))) (Ann.fst (Ann.snd (Ann.snd (Ann.snd (Ann.snd (Ann.snd spec_l20Fill_an)))))) (⟨mkE 70 0 [(0, .ptr 0 0), (1, .slc 1), (3, .dat (.int .i64) x3103), (10, .dat (.int .i64) x3178)], [some (.box [.dat (.list (.int .u8)) x3105, .dat (.int .i64) x3194]), some (.seq (.int .i64) x3195)]⟩ : St) (spec_l20Fill_n5 (spec_l20Fill_fuel n) x3178) (fun (t : Int) => (Exit.normal, (⟨mkE 70 0 [(0, .ptr 0 0), (1, .slc 1), (3, .dat (.int .i64) x3103), (10, .dat (.int .i64) x3178), (11, .dat (.int .i64) t)], [some (.box [.dat (.list (.int .u8)) x3105, .dat (.int .i64) x3194]), some (.seq (.int .i64) x3195)]⟩ : St))) := by
  refine Link.of fun K h => ?_
  simp only [spec_l20Fill_n5, wpO_bind, wpO_cond, wpO_map, wpO_some] at h
  exact Awp.of (by kernel_rfl) h

theorem spec_l20Fill_n6_l (n : Nat) (x3103 : Int) (x3178 : Int) (x3220 : Int) (x3105 : List Int) (x3221 : Int) (x3222 : List Int) : Link (spec_l20Fill_ctx n) LL (Code.fst (Code.fst (Code.snd (Code.snd (Code.snd (Code.snd (Code.snd (Code.snd (bodyOf Tryd.f85))))))))) (Ann.fst (Ann.fst (Ann.snd (Ann.snd (Ann.snd (Ann.snd (Ann.snd (Ann.snd spec_l20Fill_an)))))))) (⟨mkE 70 0 [(0, .ptr 0 0), (1, .slc 1), (3, .dat (.int .i64) x3103), (10, .dat (.int .i64) x3178), (11, .dat (.int .i64) x3220)], [some (.box [.dat (.list (.int .u8)) x3105, .dat (.int .i64) x3221]), some (.seq (.int .i64) x3222)]⟩ : St) (spec_l20Fill_n6 (spec_l20Fill_fuel n) x3103 x3178 x3220 x3105 x3221 x3222) (Sum.elim (fun (t : Int × Int × (List Int)) => (Exit.normal, (⟨mkE 70 0 [(0, .ptr 0 0), (1, .slc 1), (3, .dat (.int .i64) x3103), (10, .dat (.int .i64) x3178), (11, .dat (.int .i64) t.1)], [some (.box [.dat (.list (.int .u8)) x3105, .dat (.int .i64) t.2.1]), some (.seq (.int .i64) t.2.2)]⟩ : St))) (fun (t : Int × (List Int)) => ((Exit.exit 2), (⟨mkE 70 0 [], [some (.box [.dat (.list (.int .u8)) x3105, .dat (.int .i64) t.1]), some (.seq (.int .i64) t.2)]⟩ : St)))) := by
  refine Link.of fun K h => ?_
  simp only [spec_l20Fill_n6, wpO_bind, wpO_cond, wpO_map, wpO_some] at h
  exact Awp.of (by kernel_rfl) h

theorem spec_l20Fill_n7_l (n : Nat) (x3103 : Int) (x3178 : Int) (x3207 : Int) (x3105 : List Int) (x3194 : Int) (x3195 : List Int) : Link (spec_l20Fill_ctx n) LL (Code.fst (Code.snd (Code.snd (Code.snd (Code.snd (Code.snd (Code.snd (bodyOf Tryd.f85)))))))) (Ann.fst (Ann.snd (Ann.snd (Ann.snd (Ann.snd (Ann.snd (Ann.snd spec_l20Fill_an))))))) (⟨mkE 70 0 [(0, .ptr 0 0), (1, .slc 1), (3, .dat (.int .i64) x3103), (10, .dat (.int .i64) x3178), (11, .dat (.int .i64) x3207)], [some (.box [.dat (.list (.int .u8)) x3105, .dat (.int .i64) x3194]), some (.seq (.int .i64) x3195)]⟩ : St) (spec_l20Fill_n7 (spec_l20Fill_fuel n) x3103 x3178 x3207 x3105 x3194 x3195) (fun (t : Int × (List Int)) => ((Exit.exit 2), (⟨mkE 70 0 [], [some (.box [.dat (.list (.int .u8)) x3105, .dat (.int .i64) t.1]), some (.seq (.int .i64) t.2)]⟩ : St))) := by
  unfold spec_l20Fill_n7
  exact Link.cast (by kernel_rfl) (by kernel_rfl) (link_loop (mk := fun (s : Int × Int × (List Int)) => (⟨mkE 70 0 [(0, .ptr 0 0), (1, .slc 1), (3, .dat (.int .i64) x3103), (10, .dat (.int .i64) x3178), (11, .dat (.int .i64) s.1)], [some (.box [.dat (.list (.int .u8)) x3105, .dat (.int .i64) s.2.1]), some (.seq (.int .i64) s.2.2)]⟩ : St)) (fin := (fun (t : Int × (List Int)) => ((Exit.exit 2), (⟨mkE 70 0 [], [some (.box [.dat (.list (.int .u8)) x3105, .dat (.int .i64) t.1]), some (.seq (.int .i64) t.2)]⟩ : St)))) (by
  rintro t f K h
  · exact h) (fun s => link_map (spec_l20Fill_n6_l n x3103 x3178 s.1 x3105 s.2.1 s.2.2) (Sum.elim (fun (t : Int × Int × (List Int)) => Sum.inl (t.1, t.2.1, t.2.2)) (fun (t : Int × (List Int)) => Sum.inr t)) (by
  rintro (t | t)
  · kernel_rfl
  · kernel_rfl)) (x3207, x3194, x3195))

theorem spec_l20Fill_n8_l (n : Nat) (x3103 : Int) (x3178 : Int) (x3207 : Int) (x3105 : List Int) (x3194 : Int) (x3195 : List Int) : Link (spec_l20Fill_ctx n) LL (Code.snd (Code.snd (Code.snd (Code.snd (Code.snd (Code.snd (bodyOf Tryd.f85))))))) (Ann.snd (Ann.snd (Ann.snd (Ann.snd (Ann.snd (Ann.snd spec_l20Fill_an)))))) (⟨mkE 70 0 [(0, .ptr 0 0), (1, .slc 1), (3, .dat (.int .i64) x3103), (10, .dat (.int .i64) x3178), (11, .dat (.int .i64) x3207)], [some (.box [.dat (.list (.int .u8)) x3105, .dat (.int .i64) x3194]), some (.seq (.int .i64) x3195)]⟩ : St) (spec_l20Fill_n8 (spec_l20Fill_fuel n) x3103 x3178 x3207 x3105 x3194 x3195) (fun (t : Int × (List Int)) => (Exit.normal, (⟨mkE 70 0 [], [some (.box [.dat (.list (.int .u8)) x3105, .dat (.int .i64) t.1]), some (.seq (.int .i64) t.2)]⟩ : St))) := by
  unfold spec_l20Fill_n8
  exact Link.cast (by kernel_rfl) (by kernel_rfl) (link_block (id := 2) (spec_l20Fill_n7_l n x3103 x3178 x3207 x3105 x3194 x3195) (fun (t : Int × (List Int)) => (t.1, t.2)) (by
  rintro t K h
  · exact Eq.mp (by kernel_rfl) h))

theorem spec_l20Fill_n9_l (n : Nat) (x3103 : Int) (x3178 : Int) (x3105 : List Int) (x3194 : Int) (x3195 : List Int) : Link (spec_l20Fill_ctx n) LL (Code.snd (Code.snd (Code.snd (Code.snd (Code.snd (bodyOf Tryd.f85)))))) (Ann.snd (Ann.snd (Ann.snd (Ann.snd (Ann.snd spec_l20Fill_an))))) (⟨mkE 70 0 [(0, .ptr 0 0), (1, .slc 1), (3, .dat (.int .i64) x3103), (10, .dat (.int .i64) x3178)], [some (.box [.dat (.list (.int .u8)) x3105, .dat (.int .i64) x3194]), some (.seq (.int .i64) x3195)]⟩ : St) (spec_l20Fill_n9 (spec_l20Fill_fuel n) x3103 x3178 x3105 x3194 x3195) (fun (t : Int × (List Int)) => (Exit.normal, (⟨mkE 70 0 [], [some (.box [.dat (.list (.int .u8)) x3105, .dat (.int .i64) t.1]), some (.seq (.int .i64) t.2)]⟩ : St))) := by
  unfold spec_l20Fill_n9
  exact Link.cast (by kernel_rfl) (by kernel_rfl) (link_seq (b := (Code.snd (Code.snd (Code.snd (Code.snd (Code.snd (Code.snd (bodyOf Tryd.f85)))))))) (y := (Ann.snd (Ann.snd (Ann.snd (Ann.snd (Ann.snd (Ann.snd spec_l20Fill_an))))))) (spec_l20Fill_n5_l n x3103 x3178 x3105 x3194 x3195) (fun (t : Int) => (spec_l20Fill_n8_l n x3103 x3178 t x3105 x3194 x3195)))

theorem spec_l20Fill_n10_l (n : Nat) (x3103 : Int) (x3178 : Int) (x3102 : Int) (x3105 : List Int) (x3177 : Int) (x3181 : List Int) : Link (spec_l20Fill_ctx n) LL (Code.snd (Code.snd (Code.snd (Code.snd (bodyOf Tryd.f85))))) (Ann.snd (Ann.snd (Ann.snd (Ann.snd spec_l20Fill_an)))) (⟨mkE 70 0 [(0, .ptr 0 0), (1, .slc 1), (3, .dat (.int .i64) x3103), (10, .dat (.int .i64) x3178), (11, .dat (.int .i64) x3102)], [some (.box [.dat (.list (.int .u8)) x3105, .dat (.int .i64) x3177]), some (.seq (.int .i64) x3181)]⟩ : St) (spec_l20Fill_n10 (spec_l20Fill_fuel n) x3103 x3178 x3102 x3105 x3177 x3181) (fun (t : Int × (List Int)) => (Exit.normal, (⟨mkE 70 0 [], [some (.box [.dat (.list (.int .u8)) x3105, .dat (.int .i64) t.1]), some (.seq (.int .i64) t.2)]⟩ : St))) := by
  unfold spec_l20Fill_n10
  exact Link.cast (by kernel_rfl) (by kernel_rfl) (link_seq (b := (Code.snd (Code.snd (Code.snd (Code.snd (Code.snd (bodyOf Tryd.f85))))))) (y := (Ann.snd (Ann.snd (Ann.snd (Ann.snd (Ann.snd spec_l20Fill_an)))))) (spec_l20Fill_n4_l n x3103 x3178 x3102 x3105 x3177 x3181) (fun (t : Int × (List Int)) => (spec_l20Fill_n9_l n x3103 x3178 x3105 t.1 t.2)))

theorem spec_l20Fill_n11_l (n : Nat) (x3102 : Int) (x3103 : Int) (x3104 : Int) (x3105 : List Int) (x3106 : Int) (x3107 : List Int) : Link (spec_l20Fill_ctx n) LL (bodyOf Tryd.f85) spec_l20Fill_an (⟨mkE 70 0 [(0, .ptr 0 0), (1, .slc 1), (2, .dat (.int .i64) x3102), (3, .dat (.int .i64) x3103), (4, .dat (.int .i64) x3104)], [some (.box [.dat (.list (.int .u8)) x3105, .dat (.int .i64) x3106]), some (.seq (.int .i64) x3107)]⟩ : St) (spec_l20Fill_n11 (spec_l20Fill_fuel n) x3102 x3103 x3104 x3105 x3106 x3107) (Sum.elim (fun (t : Int × (List Int)) => (Exit.normal, (⟨mkE 70 0 [], [some (.box [.dat (.list (.int .u8)) x3105, .dat (.int .i64) t.1]), some (.seq (.int .i64) t.2)]⟩ : St))) (fun (t : Int × (List Int)) => (Exit.ret, (⟨mkE 70 0 [], [some (.box [.dat (.list (.int .u8)) x3105, .dat (.int .i64) t.1]), some (.seq (.int .i64) t.2)]⟩ : St)))) := by
  unfold spec_l20Fill_n11
  exact Link.cast (by kernel_rfl) (by kernel_rfl) (link_group (c := (Code.fst (Code.snd (Code.snd (Code.snd (bodyOf Tryd.f85)))))) (a := (Ann.fst (Ann.snd (Ann.snd (Ann.snd spec_l20Fill_an))))) [(Code.fst (bodyOf Tryd.f85)), (Code.fst (Code.snd (bodyOf Tryd.f85))), (Code.fst (Code.snd (Code.snd (bodyOf Tryd.f85))))] [(Ann.fst spec_l20Fill_an), (Ann.fst (Ann.snd spec_l20Fill_an)), (Ann.fst (Ann.snd (Ann.snd spec_l20Fill_an)))] rfl (link_seq2 (b := (Code.snd (Code.snd (Code.snd (Code.snd (bodyOf Tryd.f85)))))) (y := (Ann.snd (Ann.snd (Ann.snd (Ann.snd spec_l20Fill_an))))) (spec_l20Fill_n1_l n x3102 x3103 x3104 x3105 x3106 x3107) (fun (t : Int × Int × (List Int)) => (link_map (spec_l20Fill_n10_l n x3103 t.1 x3102 x3105 t.2.1 t.2.2) (fun (u : Int × (List Int)) => (Sum.inl (u.1, u.2))) (by
  rintro t
  · kernel_rfl))) (fun (t : Int × (List Int)) => (Sum.inr t)) (by
  rintro t
  · kernel_rfl) (by
  rintro t f K h
  · exact h)))

theorem spec_l20Fill_e (n : Nat) (x3102 : Int) (x3103 : Int) (x3104 : Int) (x3105 : List Int) (x3106 : Int) (x3107 : List Int) {r : AV} {H' : Heap} (h : (Ans.mk _ (spec_l20Fill_fuel (n + 1) x3102 x3103 x3104 x3105 x3106 x3107) (fun (t : Int × (List Int)) => (.tup [], [some (.box [.dat (.list (.int .u8)) x3105, .dat (.int .i64) t.1]), some (.seq (.int .i64) t.2)]))).run = some (r, H')) : Awp (spec_l20Fill_ctx n) LL (bodyOf Tryd.f85) spec_l20Fill_an (⟨mkE 70 0 [(0, .ptr 0 0), (1, .slc 1), (2, .dat (.int .i64) x3102), (3, .dat (.int .i64) x3103), (4, .dat (.int .i64) x3104)], [some (.box [.dat (.list (.int .u8)) x3105, .dat (.int .i64) x3106]), some (.seq (.int .i64) x3107)]⟩ : St) (Ret (tlook tys) Tryd.f85.results.toList r H') :=
  ret_of (spec_l20Fill_n11_l n x3102 x3103 x3104 x3105 x3106 x3107) (Sum.elim (fun (t : Int × (List Int)) => (t.1, t.2)) (fun (t : Int × (List Int)) => t)) (by (show _ = _); kernel_rfl) (by
  rintro (t | t)
  · exact ret_mk [] (by kernel_rfl) (by kernel_rfl) (by kernel_rfl) (by kernel_rfl)
  · exact ret_mk [] (by kernel_rfl) (by kernel_rfl) (by kernel_rfl) (by kernel_rfl)) h

theorem spec_l20Fill_step (n : Nat) (h85 : Sound Tryd.prog 85 (F_spec_l20Fill_fuel n)) : Sound Tryd.prog 85 (F_spec_l20Fill_fuel (n + 1)) := by
  refine fn_sound' (C := spec_l20Fill_ctx n) (c := bodyOf Tryd.f85) (cok_of tys_ok (List.forall_mem_cons.2 ⟨spec_l20Rd_pick_sound, List.forall_mem_cons.2 ⟨h85, by simp⟩⟩) (List.forall_mem_cons.2 ⟨Tryd.call63, List.forall_mem_cons.2 ⟨Tryd.call85, by simp⟩⟩) (by kernel_rfl)) Tryd.func85 (by kernel_rfl) LL spec_l20Fill_an ?_
  intro avs H r H' h
  unfold F_spec_l20Fill_fuel at h
  split at h
  · refine Awp.cast ?_ ?_ ?_ (spec_l20Fill_e n _ _ _ _ _ _ h) <;> kernel_rfl
  · simp [Ans.no, Ans.run] at h

theorem spec_l20Fill_null : Sound Tryd.prog 85 (F_spec_l20Fill_fuel 0) := by
  intro avs H r H' h
  unfold F_spec_l20Fill_fuel at h
  split at h
  · simp [spec_l20Fill_fuel, spec_l20Fill_knot, Ans.run] at h
  · simp [Ans.no, Ans.run] at h

theorem spec_l20Fill_knot_all : ∀ n, Sound Tryd.prog 85 (F_spec_l20Fill_fuel n)
  | 0 => spec_l20Fill_null
  | n + 1 => by
    have h85 := spec_l20Fill_knot_all n
    exact spec_l20Fill_step n h85

def F_spec_l20Fill : Fun := fun avs H =>
  match avs, H with
  | [.ptr 0 0, .slc 1, .dat (.int .i64) x3102, .dat (.int .i64) x3103, .dat (.int .i64) x3104], [some (.box [.dat (.list (.int .u8)) x3105, .dat (.int .i64) x3106]), some (.seq (.int .i64) x3107)] => ⟨_, spec_l20Fill x3102 x3103 x3104 x3105 x3106 x3107, fun (t : Int × (List Int)) => (.tup [], [some (.box [.dat (.list (.int .u8)) x3105, .dat (.int .i64) t.1]), some (.seq (.int .i64) t.2)])⟩
  | _, _ => Ans.no

theorem spec_l20Fill_sound : Sound Tryd.prog 85 F_spec_l20Fill := by
  have e : F_spec_l20Fill = F_spec_l20Fill_fuel RR := by
    funext avs H
    unfold F_spec_l20Fill F_spec_l20Fill_fuel
    split <;> first | rfl | (simp only [spec_l20Fill])
  rw [e]
  exact (spec_l20Fill_knot_all RR)


/-! loop.example/headtrees/spec.l20Flat -/

def spec_l20Flat_an : Ann := (.seq (.leaf [0, 1]) (.seq (.seq (.leaf [0, 1, 9]) (.cond (.seq (.leaf [4]) (.leaf [4])) (.leaf [0]))) (.seq (.leaf [0, 5]) (.seq (.leaf [0, 5, 6]) (.seq (.leaf [6]) (.seq (.leaf [4]) (.leaf [4])))))))

noncomputable def spec_l20Flat_ctx : Ctx := ⟨tlook tys, olook [(63, F_spec_l20Rd_pick), (81, F_spec_l20Tree), (85, F_spec_l20Fill)], ioF, 1⟩

theorem spec_l20Flat_n1_l (x3055 : Int) (x3056 : List Int) (x3057 : Int) : Link spec_l20Flat_ctx LL (bodyOf Tryd.f68) spec_l20Flat_an (⟨mkE 23 0 [(0, .ptr 0 0), (1, .dat (.int .i64) x3055)], [some (.box [.dat (.list (.int .u8)) x3056, .dat (.int .i64) x3057])]⟩ : St) (spec_l20Flat_n1 x3055 x3056 x3057) (fun (t : Int × (List Int)) => (Exit.ret, (⟨mkE 23 0 [(4, .slc 1)], [some (.box [.dat (.list (.int .u8)) x3056, .dat (.int .i64) t.1]), some (.seq (.int .i64) t.2)]⟩ : St))) := by
  refine Link.of fun K h => ?_
  simp only [spec_l20Flat_n1, wpO_bind, wpO_cond, wpO_map, wpO_some] at h
  exact Awp.of (by kernel_rfl) h

theorem spec_l20Flat_e (x3055 : Int) (x3056 : List Int) (x3057 : Int) {r : AV} {H' : Heap} (h : (Ans.mk _ (spec_l20Flat x3055 x3056 x3057) (fun (t : Int × (List Int)) => (.slc 1, [some (.box [.dat (.list (.int .u8)) x3056, .dat (.int .i64) t.1]), some (.seq (.int .i64) t.2)]))).run = some (r, H')) : Awp spec_l20Flat_ctx LL (bodyOf Tryd.f68) spec_l20Flat_an (⟨mkE 23 0 [(0, .ptr 0 0), (1, .dat (.int .i64) x3055)], [some (.box [.dat (.list (.int .u8)) x3056, .dat (.int .i64) x3057])]⟩ : St) (Ret (tlook tys) Tryd.f68.results.toList r H') :=
  ret_of' (spec_l20Flat_n1_l x3055 x3056 x3057) (by unfold spec_l20Flat; kernel_rfl) (by
  intro t
  exact ret_mk [.slc 1] (by kernel_rfl) (by kernel_rfl) (by kernel_rfl) (by kernel_rfl)) h

def F_spec_l20Flat : Fun := fun avs H =>
  match avs, H with
  | [.ptr 0 0, .dat (.int .i64) x3055], [some (.box [.dat (.list (.int .u8)) x3056, .dat (.int .i64) x3057])] => ⟨_, spec_l20Flat x3055 x3056 x3057, fun (t : Int × (List Int)) => (.slc 1, [some (.box [.dat (.list (.int .u8)) x3056, .dat (.int .i64) t.1]), some (.seq (.int .i64) t.2)])⟩
  | _, _ => Ans.no

theorem spec_l20Flat_sound : Sound Tryd.prog 68 F_spec_l20Flat := by
  refine fn_sound' (C := spec_l20Flat_ctx) (c := bodyOf Tryd.f68) (cok_of tys_ok (List.forall_mem_cons.2 ⟨spec_l20Rd_pick_sound, List.forall_mem_cons.2 ⟨spec_l20Tree_sound, List.forall_mem_cons.2 ⟨spec_l20Fill_sound, by simp⟩⟩⟩) (List.forall_mem_cons.2 ⟨Tryd.call63, List.forall_mem_cons.2 ⟨Tryd.call81, List.forall_mem_cons.2 ⟨Tryd.call85, by simp⟩⟩⟩) (by kernel_rfl)) Tryd.func68 (by kernel_rfl) LL spec_l20Flat_an ?_
  intro avs H r H' h
  unfold F_spec_l20Flat at h
  split at h
  · refine Awp.cast ?_ ?_ ?_ (spec_l20Flat_e _ _ _ h) <;> kernel_rfl
  · simp [Ans.no, Ans.run] at h


/-! loop.example/headtrees/impl.arcBetween -/

def impl_arcBetween_an : Ann := (.seq (.leaf [0, 1, 4]) (.seq (.seq (.leaf [0, 1, 4, 16]) (.cond (.seq (.leaf [4, 5]) (.leaf [4, 5])) (.leaf [0, 1, 4]))) (.seq (.leaf [4, 5]) (.leaf [4, 5]))))

noncomputable def impl_arcBetween_ctx : Ctx := ⟨tlook tys, olook [], ioF, 0⟩

theorem impl_arcBetween_n1_l (x3301 : Int) (x3302 : Int) : Link impl_arcBetween_ctx LL (bodyOf Tryd.f86) impl_arcBetween_an (⟨mkE 25 0 [(0, .dat (.int .i64) x3301), (1, .dat (.int .i64) x3302)], []⟩ : St) (impl_arcBetween_n1 x3301 x3302) (fun (t : Bool × Int × Int) => (Exit.ret, (⟨mkE 25 0 [(4, .ptr 0 0), (5, .dat .bool t.1)], [some (.box [.dat (.int .i64) t.2.1, .dat (.int .i64) t.2.2])]⟩ : St))) := by
  refine Link.of fun K h => ?_
  simp only [impl_arcBetween_n1, wpO_bind, wpO_cond, wpO_map, wpO_some] at h
  exact Awp.of (by kernel_rfl) h

theorem impl_arcBetween_e (x3301 : Int) (x3302 : Int) {r : AV} {H' : Heap} (h : (Ans.mk _ (impl_arcBetween x3301 x3302) (fun (t : Bool × Int × Int) => (.tup [.agg [.dat (.int .i64) t.2.1, .dat (.int .i64) t.2.2], .dat .bool t.1], [some (.box [.dat (.int .i64) t.2.1, .dat (.int .i64) t.2.2])]))).run = some (r, H')) : Awp impl_arcBetween_ctx LL (bodyOf Tryd.f86) impl_arcBetween_an (⟨mkE 25 0 [(0, .dat (.int .i64) x3301), (1, .dat (.int .i64) x3302)], []⟩ : St) (Ret (tlook tys) Tryd.f86.results.toList r H') :=
  ret_of' (impl_arcBetween_n1_l x3301 x3302) (by unfold impl_arcBetween; kernel_rfl) (by
  intro t
  exact ret_mk [.agg [.dat (.int .i64) t.2.1, .dat (.int .i64) t.2.2], .dat .bool t.1] (by kernel_rfl) (by kernel_rfl) (by kernel_rfl) (by kernel_rfl)) h

def F_impl_arcBetween : Fun := fun avs H =>
  match avs, H with
  | [.dat (.int .i64) x3301, .dat (.int .i64) x3302], [] => ⟨_, impl_arcBetween x3301 x3302, fun (t : Bool × Int × Int) => (.tup [.agg [.dat (.int .i64) t.2.1, .dat (.int .i64) t.2.2], .dat .bool t.1], [some (.box [.dat (.int .i64) t.2.1, .dat (.int .i64) t.2.2])])⟩
  | _, _ => Ans.no

theorem impl_arcBetween_sound : Sound Tryd.prog 86 F_impl_arcBetween := by
  refine fn_sound' (C := impl_arcBetween_ctx) (c := bodyOf Tryd.f86) (cok_of tys_ok (by simp) (by simp) (by kernel_rfl)) Tryd.func86 (by kernel_rfl) LL impl_arcBetween_an ?_
  intro avs H r H' h
  unfold F_impl_arcBetween at h
  split at h
  · refine Awp.cast ?_ ?_ ?_ (impl_arcBetween_e _ _ h) <;> kernel_rfl
  · simp [Ans.no, Ans.run] at h


/-! loop.example/headtrees/impl.arcsOf -/

def impl_arcsOf_an : Ann := (.seq (.leaf [0]) (.seq (.leaf [0, 3]) (.seq (.seq (.leaf [3, 11, 12, 13]) (.block (.loop (.seq (.leaf [3, 11, 12, 13, 14]) (.seq (.cond (.leaf [3, 11, 12, 13]) (.leaf [3])) (.seq (.block (.seq (.leaf [3, 4, 5, 11, 12, 13]) (.seq (.leaf [3, 6, 7, 11, 12, 13]) (.seq (.leaf [3, 6, 11, 12, 13, 25]) (.cond (.leaf [3, 11, 12, 13]) (.leaf [3, 11, 12, 13])))))) (.leaf [3, 11, 12, 13]))))))) (.seq (.leaf [2]) (.leaf [2])))))

noncomputable def impl_arcsOf_ctx : Ctx := ⟨tlook tys, olook [(86, F_impl_arcBetween)], ioF, 0⟩

theorem impl_arcsOf_n1_l (x3290 : List Int) : Link impl_arcsOf_ctx LL (Code.seq (Code.fst (bodyOf Tryd.f70)) (Code.fst (Code.snd (bodyOf Tryd.f70)))) (Ann.seq (Ann.fst impl_arcsOf_an) (Ann.fst (Ann.snd impl_arcsOf_an))) (⟨mkE 32 0 [(0, .dat (.list (.int .i64)) x3290)], []⟩ : St) (impl_arcsOf_n1 x3290) (fun (t : (List (Int × Int × Unit))) => (Exit.normal, (⟨mkE 32 0 [(0, .dat (.list (.int .i64)) x3290), (3, .slc 0)], [some (.seq (.pair (.int .i64) (.pair (.int .i64) .unit)) t)]⟩ : St))) := by
  refine Link.of fun K h => ?_
  simp only [impl_arcsOf_n1, wpO_bind, wpO_cond, wpO_map, wpO_some] at h
  exact Awp.of (by kernel_rfl) h

theorem impl_arcsOf_n2_l (x3290 : List Int) (x3294 : List (Int × Int × Unit)) : Link impl_arcsOf_ctx LL (Code.fst (Code.fst (Code.snd (Code.snd (bodyOf Tryd.f70))))) (Ann.fst (Ann.fst (Ann.snd (Ann.snd impl_arcsOf_an)))) (⟨mkE 32 0 [(0, .dat (.list (.int .i64)) x3290), (3, .slc 0)], [some (.seq (.pair (.int .i64) (.pair (.int .i64) .unit)) x3294)]⟩ : St) (impl_arcsOf_n2 x3290) (fun (t : Int) => (Exit.normal, (⟨mkE 32 0 [(3, .slc 0), (11, .dat (.list (.int .i64)) x3290), (12, .dat (.int .i64) t), (13, .dat (.int .i64) 0)], [some (.seq (.pair (.int .i64) (.pair (.int .i64) .unit)) x3294)]⟩ : St))) := by
  refine Link.of fun K h => ?_
  simp only [impl_arcsOf_n2, wpO_bind, wpO_cond, wpO_map, wpO_some] at h
  exact Awp.of (by kernel_rfl) h

theorem impl_arcsOf_n3_l (x3290 : List Int) (x3295 : Int) (x3347 : Int) (x3348 : List (Int × Int × Unit)) : Link impl_arcsOf_ctx LL (Code.fst (Code.fst (Code.snd (Code.fst (Code.snd (Code.snd (bodyOf Tryd.f70))))))) (Ann.fst (Ann.fst (Ann.snd (Ann.fst (Ann.snd (Ann.snd impl_arcsOf_an)))))) (⟨mkE 32 0 [(3, .slc 0), (11, .dat (.list (.int .i64)) x3290), (12, .dat (.int .i64) x3295), (13, .dat (.int .i64) x3347)], [some (.seq (.pair (.int .i64) (.pair (.int .i64) .unit)) x3348)]⟩ : St) (impl_arcsOf_n3 x3290 x3295 x3347 x3348) (Sum.elim (fun (t : Int × (List (Int × Int × Unit))) => (Exit.normal, (⟨mkE 32 0 [(3, .slc 0), (11, .dat (.list (.int .i64)) x3290), (12, .dat (.int .i64) x3295), (13, .dat (.int .i64) t.1)], [some (.seq (.pair (.int .i64) (.pair (.int .i64) .unit)) t.2)]⟩ : St))) (fun (t : (List (Int × Int × Unit))) => ((Exit.exit 0), (⟨mkE 32 0 [(3, .slc 0)], [some (.seq (.pair (.int .i64) (.pair (.int .i64) .unit)) t)]⟩ : St)))) := by
  refine Link.of fun K h => ?_
  simp only [impl_arcsOf_n3, wpO_bind, wpO_cond, wpO_map, wpO_some] at h
  exact Awp.of (by kernel_rfl) h

theorem impl_arcsOf_n4_l (x3290 : List Int) (x3295 : Int) (x3294 : List (Int × Int × Unit)) : Link impl_arcsOf_ctx LL (Code.fst (Code.snd (Code.fst (Code.snd (Code.snd (bodyOf Tryd.f70)))))) (Ann.fst (Ann.snd (Ann.fst (Ann.snd (Ann.snd impl_arcsOf_an))))) (⟨mkE 32 0 [(3, .slc 0), (11, .dat (.list (.int .i64)) x3290), (12, .dat (.int .i64) x3295), (13, .dat (.int .i64) 0)], [some (.seq (.pair (.int .i64) (.pair (.int .i64) .unit)) x3294)]⟩ : St) (impl_arcsOf_n4 x3290 x3295 x3294) (fun (t : (List (Int × Int × Unit))) => ((Exit.exit 0), (⟨mkE 32 0 [(3, .slc 0)], [some (.seq (.pair (.int .i64) (.pair (.int .i64) .unit)) t)]⟩ : St))) := by
  unfold impl_arcsOf_n4
  exact Link.cast (by kernel_rfl) (by kernel_rfl) (link_loop (mk := fun (s : Int × (List (Int × Int × Unit))) => (⟨mkE 32 0 [(3, .slc 0), (11, .dat (.list (.int .i64)) x3290), (12, .dat (.int .i64) x3295), (13, .dat (.int .i64) s.1)], [some (.seq (.pair (.int .i64) (.pair (.int .i64) .unit)) s.2)]⟩ : St)) (fin := (fun (t : (List (Int × Int × Unit))) => ((Exit.exit 0), (⟨mkE 32 0 [(3, .slc 0)], [some (.seq (.pair (.int .i64) (.pair (.int .i64) .unit)) t)]⟩ : St)))) (by
  rintro t f K h
  · exact h) (fun s => link_map (impl_arcsOf_n3_l x3290 x3295 s.1 s.2) (Sum.elim (fun (t : Int × (List (Int × Int × Unit))) => Sum.inl (t.1, t.2)) (fun (t : (List (Int × Int × Unit))) => Sum.inr t)) (by
  rintro (t | t)
  · kernel_rfl
  · kernel_rfl)) (0, x3294))

theorem impl_arcsOf_n5_l (x3290 : List Int) (x3295 : Int) (x3294 : List (Int × Int × Unit)) : Link impl_arcsOf_ctx LL (Code.snd (Code.fst (Code.snd (Code.snd (bodyOf Tryd.f70))))) (Ann.snd (Ann.fst (Ann.snd (Ann.snd impl_arcsOf_an)))) (⟨mkE 32 0 [(3, .slc 0), (11, .dat (.list (.int .i64)) x3290), (12, .dat (.int .i64) x3295), (13, .dat (.int .i64) 0)], [some (.seq (.pair (.int .i64) (.pair (.int .i64) .unit)) x3294)]⟩ : St) (impl_arcsOf_n5 x3290 x3295 x3294) (fun (t : (List (Int × Int × Unit))) => (Exit.normal, (⟨mkE 32 0 [(3, .slc 0)], [some (.seq (.pair (.int .i64) (.pair (.int .i64) .unit)) t)]⟩ : St))) := by
  unfold impl_arcsOf_n5
  exact Link.cast (by kernel_rfl) (by kernel_rfl) (link_block (id := 0) (impl_arcsOf_n4_l x3290 x3295 x3294) (fun (t : (List (Int × Int × Unit))) => t) (by
  rintro t K h
  · exact Eq.mp (by kernel_rfl) h))

theorem impl_arcsOf_n6_l (x3290 : List Int) (x3294 : List (Int × Int × Unit)) : Link impl_arcsOf_ctx LL (Code.fst (Code.snd (Code.snd (bodyOf Tryd.f70)))) (Ann.fst (Ann.snd (Ann.snd impl_arcsOf_an))) (⟨mkE 32 0 [(0, .dat (.list (.int .i64)) x3290), (3, .slc 0)], [some (.seq (.pair (.int .i64) (.pair (.int .i64) .unit)) x3294)]⟩ : St) (impl_arcsOf_n6 x3290 x3294) (fun (t : (List (Int × Int × Unit))) => (Exit.normal, (⟨mkE 32 0 [(3, .slc 0)], [some (.seq (.pair (.int .i64) (.pair (.int .i64) .unit)) t)]⟩ : St))) := by
  unfold impl_arcsOf_n6
  exact Link.cast (by kernel_rfl) (by kernel_rfl) (link_seq (b := (Code.snd (Code.fst (Code.snd (Code.snd (bodyOf Tryd.f70)))))) (y := (Ann.snd (Ann.fst (Ann.snd (Ann.snd impl_arcsOf_an))))) (impl_arcsOf_n2_l x3290 x3294) (fun (t : Int) => (impl_arcsOf_n5_l x3290 t x3294)))

theorem impl_arcsOf_n7_l (x3348 : List (Int × Int × Unit)) : Link impl_arcsOf_ctx LL (Code.snd (Code.snd (Code.snd (bodyOf Tryd.f70)))) (Ann.snd (Ann.snd (Ann.snd impl_arcsOf_an))) (⟨mkE 32 0 [(3, .slc 0)], [some (.seq (.pair (.int .i64) (.pair (.int .i64) .unit)) x3348)]⟩ : St) (impl_arcsOf_n7 x3348) (fun (t : (List (Int × Int × Unit))) => (Exit.ret, (⟨mkE 32 0 [(2, .slc 0)], [some (.seq (.pair (.int .i64) (.pair (.int .i64) .unit)) t)]⟩ : St))) := by
  refine Link.of fun K h => ?_
  simp only [impl_arcsOf_n7, wpO_bind, wpO_cond, wpO_map, wpO_some] at h
  exact Awp.of (by kernel_rfl) h

theorem impl_arcsOf_n8_l (x3290 : List Int) (x3294 : List (Int × Int × Unit)) : Link impl_arcsOf_ctx LL (Code.snd (Code.snd (bodyOf Tryd.f70))) (Ann.snd (Ann.snd impl_arcsOf_an)) (⟨mkE 32 0 [(0, .dat (.list (.int .i64)) x3290), (3, .slc 0)], [some (.seq (.pair (.int .i64) (.pair (.int .i64) .unit)) x3294)]⟩ : St) (impl_arcsOf_n8 x3290 x3294) (fun (t : (List (Int × Int × Unit))) => (Exit.ret, (⟨mkE 32 0 [(2, .slc 0)], [some (.seq (.pair (.int .i64) (.pair (.int .i64) .unit)) t)]⟩ : St))) := by
  unfold impl_arcsOf_n8
  exact Link.cast (by kernel_rfl) (by kernel_rfl) (link_seq (b := (Code.snd (Code.snd (Code.snd (bodyOf Tryd.f70))))) (y := (Ann.snd (Ann.snd (Ann.snd impl_arcsOf_an)))) (impl_arcsOf_n6_l x3290 x3294) (fun (t : (List (Int × Int × Unit))) => (impl_arcsOf_n7_l t)))

theorem impl_arcsOf_n9_l (x3290 : List Int) : Link impl_arcsOf_ctx LL (bodyOf Tryd.f70) impl_arcsOf_an (⟨mkE 32 0 [(0, .dat (.list (.int .i64)) x3290)], []⟩ : St) (impl_arcsOf_n9 x3290) (fun (t : (List (Int × Int × Unit))) => (Exit.ret, (⟨mkE 32 0 [(2, .slc 0)], [some (.seq (.pair (.int .i64) (.pair (.int .i64) .unit)) t)]⟩ : St))) := by
  unfold impl_arcsOf_n9
  exact Link.cast (by kernel_rfl) (by kernel_rfl) (link_group (c := (Code.fst (Code.snd (bodyOf Tryd.f70)))) (a := (Ann.fst (Ann.snd impl_arcsOf_an))) [(Code.fst (bodyOf Tryd.f70))] [(Ann.fst impl_arcsOf_an)] rfl (link_seq (b := (Code.snd (Code.snd (bodyOf Tryd.f70)))) (y := (Ann.snd (Ann.snd impl_arcsOf_an))) (impl_arcsOf_n1_l x3290) (fun (t : (List (Int × Int × Unit))) => (impl_arcsOf_n8_l x3290 t))))

theorem impl_arcsOf_e (x3290 : List Int) {r : AV} {H' : Heap} (h : (Ans.mk _ (impl_arcsOf x3290) (fun (t : (List (Int × Int × Unit))) => (.slc 0, [some (.seq (.pair (.int .i64) (.pair (.int .i64) .unit)) t)]))).run = some (r, H')) : Awp impl_arcsOf_ctx LL (bodyOf Tryd.f70) impl_arcsOf_an (⟨mkE 32 0 [(0, .dat (.list (.int .i64)) x3290)], []⟩ : St) (Ret (tlook tys) Tryd.f70.results.toList r H') :=
  ret_of' (impl_arcsOf_n9_l x3290) (by unfold impl_arcsOf; kernel_rfl) (by
  intro t
  exact ret_mk [.slc 0] (by kernel_rfl) (by kernel_rfl) (by kernel_rfl) (by kernel_rfl)) h

def F_impl_arcsOf : Fun := fun avs H =>
  match avs, H with
  | [.dat (.list (.int .i64)) x3290], [] => ⟨_, impl_arcsOf x3290, fun (t : (List (Int × Int × Unit))) => (.slc 0, [some (.seq (.pair (.int .i64) (.pair (.int .i64) .unit)) t)])⟩
  | _, _ => Ans.no

theorem impl_arcsOf_sound : Sound Tryd.prog 70 F_impl_arcsOf := by
  refine fn_sound' (C := impl_arcsOf_ctx) (c := bodyOf Tryd.f70) (cok_of tys_ok (List.forall_mem_cons.2 ⟨impl_arcBetween_sound, by simp⟩) (List.forall_mem_cons.2 ⟨Tryd.call86, by simp⟩) (by kernel_rfl)) Tryd.func70 (by kernel_rfl) LL impl_arcsOf_an ?_
  intro avs H r H' h
  unfold F_impl_arcsOf at h
  split at h
  · refine Awp.cast ?_ ?_ ?_ (impl_arcsOf_e _ h) <;> kernel_rfl
  · simp [Ans.no, Ans.run] at h


/-! (loop.example/headtrees/impl.arc).covers -/

def impl_arc_covers_an : Ann := (.seq (.leaf [1, 2]) (.seq (.leaf [4]) (.leaf [4])))

noncomputable def impl_arc_covers_ctx : Ctx := ⟨tlook tys, olook [], ioF, 0⟩

theorem impl_arc_covers_n1_l (x3413 : Int) (x3414 : Int) (x3415 : Int) : Link impl_arc_covers_ctx LL (bodyOf Tryd.f80) impl_arc_covers_an (⟨mkE 15 0 [(0, .agg [.dat (.int .i64) x3413, .dat (.int .i64) x3414]), (1, .dat (.int .i64) x3415)], []⟩ : St) (impl_arc_covers_n1 x3413 x3414 x3415) (fun (t : Bool) => (Exit.ret, (⟨mkE 15 0 [(4, .dat .bool t)], []⟩ : St))) := by
  refine Link.of fun K h => ?_
  simp only [impl_arc_covers_n1, wpO_bind, wpO_cond, wpO_map, wpO_some] at h
  exact Awp.of (by kernel_rfl) h

theorem impl_arc_covers_e (x3413 : Int) (x3414 : Int) (x3415 : Int) {r : AV} {H' : Heap} (h : (Ans.mk _ (impl_arc_covers x3413 x3414 x3415) (fun (t : Bool) => (.dat .bool t, []))).run = some (r, H')) : Awp impl_arc_covers_ctx LL (bodyOf Tryd.f80) impl_arc_covers_an (⟨mkE 15 0 [(0, .agg [.dat (.int .i64) x3413, .dat (.int .i64) x3414]), (1, .dat (.int .i64) x3415)], []⟩ : St) (Ret (tlook tys) Tryd.f80.results.toList r H') :=
  ret_of' (impl_arc_covers_n1_l x3413 x3414 x3415) (by unfold impl_arc_covers; kernel_rfl) (by
  intro t
  exact ret_mk [.dat .bool t] (by kernel_rfl) (by kernel_rfl) (by kernel_rfl) (by kernel_rfl)) h

def F_impl_arc_covers : Fun := fun avs H =>
  match avs, H with
  | [.agg [.dat (.int .i64) x3413, .dat (.int .i64) x3414], .dat (.int .i64) x3415], [] => ⟨_, impl_arc_covers x3413 x3414 x3415, fun (t : Bool) => (.dat .bool t, [])⟩
  | _, _ => Ans.no

theorem impl_arc_covers_sound : Sound Tryd.prog 80 F_impl_arc_covers := by
  refine fn_sound' (C := impl_arc_covers_ctx) (c := bodyOf Tryd.f80) (cok_of tys_ok (by simp) (by simp) (by kernel_rfl)) Tryd.func80 (by kernel_rfl) LL impl_arc_covers_an ?_
  intro avs H r H' h
  unfold F_impl_arc_covers at h
  split at h
  · refine Awp.cast ?_ ?_ ?_ (impl_arc_covers_e _ _ _ h) <;> kernel_rfl
  · simp [Ans.no, Ans.run] at h


/-! (loop.example/headtrees/impl.arc).leavesOut -/

def impl_arc_leavesOut_an : Ann := (.seq (.leaf [1, 2]) (.seq (.leaf [4]) (.leaf [4])))

noncomputable def impl_arc_leavesOut_ctx : Ctx := ⟨tlook tys, olook [], ioF, 0⟩

theorem impl_arc_leavesOut_n1_l (x3422 : Int) (x3423 : Int) (x3424 : Int) : Link impl_arc_leavesOut_ctx LL (bodyOf Tryd.f87) impl_arc_leavesOut_an (⟨mkE 15 0 [(0, .agg [.dat (.int .i64) x3422, .dat (.int .i64) x3423]), (1, .dat (.int .i64) x3424)], []⟩ : St) (impl_arc_leavesOut_n1 x3422 x3423 x3424) (fun (t : Bool) => (Exit.ret, (⟨mkE 15 0 [(4, .dat .bool t)], []⟩ : St))) := by
  refine Link.of fun K h => ?_
  simp only [impl_arc_leavesOut_n1, wpO_bind, wpO_cond, wpO_map, wpO_some] at h
  exact Awp.of (by kernel_rfl) h

theorem impl_arc_leavesOut_e (x3422 : Int) (x3423 : Int) (x3424 : Int) {r : AV} {H' : Heap} (h : (Ans.mk _ (impl_arc_leavesOut x3422 x3423 x3424) (fun (t : Bool) => (.dat .bool t, []))).run = some (r, H')) : Awp impl_arc_leavesOut_ctx LL (bodyOf Tryd.f87) impl_arc_leavesOut_an (⟨mkE 15 0 [(0, .agg [.dat (.int .i64) x3422, .dat (.int .i64) x3423]), (1, .dat (.int .i64) x3424)], []⟩ : St) (Ret (tlook tys) Tryd.f87.results.toList r H') :=
  ret_of' (impl_arc_leavesOut_n1_l x3422 x3423 x3424) (by unfold impl_arc_leavesOut; kernel_rfl) (by
  intro t
  exact ret_mk [.dat .bool t] (by kernel_rfl) (by kernel_rfl) (by kernel_rfl) (by kernel_rfl)) h

def F_impl_arc_leavesOut : Fun := fun avs H =>
  match avs, H with
  | [.agg [.dat (.int .i64) x3422, .dat (.int .i64) x3423], .dat (.int .i64) x3424], [] => ⟨_, impl_arc_leavesOut x3422 x3423 x3424, fun (t : Bool) => (.dat .bool t, [])⟩
  | _, _ => Ans.no

theorem impl_arc_leavesOut_sound : Sound Tryd.prog 87 F_impl_arc_leavesOut := by
  refine fn_sound' (C := impl_arc_leavesOut_ctx) (c := bodyOf Tryd.f87) (cok_of tys_ok (by simp) (by simp) (by kernel_rfl)) Tryd.func87 (by kernel_rfl) LL impl_arc_leavesOut_an ?_
  intro avs H r H' h
  unfold F_impl_arc_leavesOut at h
  split at h
  · refine Awp.cast ?_ ?_ ?_ (impl_arc_leavesOut_e _ _ _ h) <;> kernel_rfl
  · simp [Ans.no, Ans.run] at h


/-! (loop.example/headtrees/impl.arc).crosses -/

def impl_arc_crosses_an : Ann := (.seq (.leaf [2, 3]) (.seq (.leaf [4]) (.leaf [4])))

noncomputable def impl_arc_crosses_ctx : Ctx := ⟨tlook tys, olook [(80, F_impl_arc_covers), (87, F_impl_arc_leavesOut)], ioF, 0⟩

theorem impl_arc_crosses_n1_l (x3409 : Int) (x3410 : Int) (x3411 : Int) (x3412 : Int) : Link impl_arc_crosses_ctx LL (bodyOf Tryd.f71) impl_arc_crosses_an (⟨mkE 27 0 [(0, .agg [.dat (.int .i64) x3409, .dat (.int .i64) x3410]), (1, .agg [.dat (.int .i64) x3411, .dat (.int .i64) x3412])], []⟩ : St) (impl_arc_crosses_n1 x3409 x3410 x3411 x3412) (fun (t : Bool) => (Exit.ret, (⟨mkE 27 0 [(4, .dat .bool t)], []⟩ : St))) := by
  refine Link.of fun K h => ?_
  simp only [impl_arc_crosses_n1, wpO_bind, wpO_cond, wpO_map, wpO_some] at h
  exact Awp.of (by kernel_rfl) h

theorem impl_arc_crosses_e (x3409 : Int) (x3410 : Int) (x3411 : Int) (x3412 : Int) {r : AV} {H' : Heap} (h : (Ans.mk _ (impl_arc_crosses x3409 x3410 x3411 x3412) (fun (t : Bool) => (.dat .bool t, []))).run = some (r, H')) : Awp impl_arc_crosses_ctx LL (bodyOf Tryd.f71) impl_arc_crosses_an (⟨mkE 27 0 [(0, .agg [.dat (.int .i64) x3409, .dat (.int .i64) x3410]), (1, .agg [.dat (.int .i64) x3411, .dat (.int .i64) x3412])], []⟩ : St) (Ret (tlook tys) Tryd.f71.results.toList r H') :=
  ret_of' (impl_arc_crosses_n1_l x3409 x3410 x3411 x3412) (by unfold impl_arc_crosses; kernel_rfl) (by
  intro t
  exact ret_mk [.dat .bool t] (by kernel_rfl) (by kernel_rfl) (by kernel_rfl) (by kernel_rfl)) h

def F_impl_arc_crosses : Fun := fun avs H =>
  match avs, H with
  | [.agg [.dat (.int .i64) x3409, .dat (.int .i64) x3410], .agg [.dat (.int .i64) x3411, .dat (.int .i64) x3412]], [] => ⟨_, impl_arc_crosses x3409 x3410 x3411 x3412, fun (t : Bool) => (.dat .bool t, [])⟩
  | _, _ => Ans.no

theorem impl_arc_crosses_sound : Sound Tryd.prog 71 F_impl_arc_crosses := by
  refine fn_sound' (C := impl_arc_crosses_ctx) (c := bodyOf Tryd.f71) (cok_of tys_ok (List.forall_mem_cons.2 ⟨impl_arc_covers_sound, List.forall_mem_cons.2 ⟨impl_arc_leavesOut_sound, by simp⟩⟩) (List.forall_mem_cons.2 ⟨Tryd.call80, List.forall_mem_cons.2 ⟨Tryd.call87, by simp⟩⟩) (by kernel_rfl)) Tryd.func71 (by kernel_rfl) LL impl_arc_crosses_an ?_
  intro avs H r H' h
  unfold F_impl_arc_crosses at h
  split at h
  · refine Awp.cast ?_ ?_ ?_ (impl_arc_crosses_e _ _ _ _ h) <;> kernel_rfl
  · simp [Ans.no, Ans.run] at h


/-! loop.example/headtrees/impl.countPairs[loop.example/headtrees/impl.arc] -/

def impl_countPairs_impl_arc_an : Ann := (.seq (.leaf [0, 1]) (.seq (.leaf [0, 1, 5]) (.seq (.seq (.leaf [0, 1, 5, 10, 11, 12]) (.block (.loop (.seq (.leaf [0, 1, 5, 10, 11, 12, 13]) (.seq (.cond (.leaf [0, 1, 5, 10, 11, 12]) (.leaf [5])) (.seq (.block (.seq (.leaf [0, 1, 5, 6, 7, 10, 11, 12]) (.seq (.leaf [0, 1, 5, 7, 10, 11, 12, 20, 21, 22]) (.block (.loop (.seq (.leaf [0, 1, 5, 7, 10, 11, 12, 20, 21, 22, 23]) (.seq (.cond (.leaf [0, 1, 5, 7, 10, 11, 12, 20, 21, 22]) (.leaf [0, 1, 5, 10, 11, 12])) (.seq (.block (.seq (.leaf [0, 1, 5, 7, 9, 10, 11, 12, 20, 21, 22]) (.seq (.leaf [0, 1, 5, 7, 10, 11, 12, 20, 21, 22, 29]) (.cond (.leaf [0, 1, 5, 7, 10, 11, 12, 20, 21, 22]) (.leaf [0, 1, 5, 7, 10, 11, 12, 20, 21, 22]))))) (.leaf [0, 1, 5, 7, 10, 11, 12, 20, 21, 22]))))))))) (.leaf [0, 1, 5, 10, 11, 12]))))))) (.seq (.leaf [4]) (.leaf [4])))))

noncomputable def impl_countPairs_impl_arc_ctx : Ctx := ⟨tlook tys, olook [(71, F_impl_arc_crosses)], ioF, 0⟩

theorem impl_countPairs_impl_arc_n1_l (x3382 : List (Int × Int × Unit)) : Link impl_countPairs_impl_arc_ctx LL (Code.seq (Code.fst (bodyOf Tryd.f69)) (Code.fst (Code.snd (bodyOf Tryd.f69)))) (Ann.seq (Ann.fst impl_countPairs_impl_arc_an) (Ann.fst (Ann.snd impl_countPairs_impl_arc_an))) (⟨mkE 35 0 [(0, .dat (.list (.pair (.int .i64) (.pair (.int .i64) .unit))) x3382), (1, .fn 71 [] [])], []⟩ : St) (impl_countPairs_impl_arc_n1) (fun (t : Unit) => (Exit.normal, (⟨mkE 35 0 [(0, .dat (.list (.pair (.int .i64) (.pair (.int .i64) .unit))) x3382), (1, .fn 71 [] []), (5, .dat (.int .i64) 0)], []⟩ : St))) := by
  refine Link.of fun K h => ?_
  simp only [impl_countPairs_impl_arc_n1, wpO_bind, wpO_cond, wpO_map, wpO_some] at h
  exact Awp.of (by kernel_rfl) h

theorem impl_countPairs_impl_arc_n2_l (x3382 : List (Int × Int × Unit)) : Link impl_countPairs_impl_arc_ctx LL (Code.fst (Code.fst (Code.snd (Code.snd (bodyOf Tryd.f69))))) (Ann.fst (Ann.fst (Ann.snd (Ann.snd impl_countPairs_impl_arc_an)))) (⟨mkE 35 0 [(0, .dat (.list (.pair (.int .i64) (.pair (.int .i64) .unit))) x3382), (1, .fn 71 [] []), (5, .dat (.int .i64) 0)], []⟩ : St) (impl_countPairs_impl_arc_n2 x3382) (fun (t : Int) => (Exit.normal, (⟨mkE 35 0 [(0, .dat (.list (.pair (.int .i64) (.pair (.int .i64) .unit))) x3382), (1, .fn 71 [] []), (5, .dat (.int .i64) 0), (10, .dat (.list (.pair (.int .i64) (.pair (.int .i64) .unit))) x3382), (11, .dat (.int .i64) t), (12, .dat (.int .i64) 0)], []⟩ : St))) := by
  refine Link.of fun K h => ?_
  simp only [impl_countPairs_impl_arc_n2, wpO_bind, wpO_cond, wpO_map, wpO_some] at h
  exact Awp.of (by kernel_rfl) h

theorem impl_countPairs_impl_arc_n3_l (x3382 : List (Int × Int × Unit)) (x3481 : Int) (x3383 : Int) (x3482 : Int) : Link impl_countPairs_impl_arc_ctx LL (Code.seq (Code.fst (Code.fst (Code.fst (Code.snd (Code.fst (Code.snd (Code.snd (bodyOf Tryd.f69)))))))) (Code.fst (Code.snd (Code.fst (Code.fst (Code.snd (Code.fst (Code.snd (Code.snd (bodyOf Tryd.f69)))))))))) (Ann.seq (Ann.fst (Ann.fst (Ann.fst (Ann.snd (Ann.fst (Ann.snd (Ann.snd impl_countPairs_impl_arc_an))))))) (Ann.fst (Ann.snd (Ann.fst (Ann.fst (Ann.snd (Ann.fst (Ann.snd (Ann.snd impl_countPairs_impl_arc_an))))))))) (⟨mkE 35 0 [(0, .dat (.list (.pair (.int .i64) (.pair (.int .i64) .unit))) x3382), (1, .fn 71 [] []), (5, .dat (.int .i64) x3481), (10, .dat (.list (.pair (.int .i64) (.pair (.int .i64) .unit))) x3382), (11, .dat (.int .i64) x3383), (12, .dat (.int .i64) x3482)], []⟩ : St) (impl_countPairs_impl_arc_n3 x3481 x3383 x3482) (Sum.elim (fun (t : Unit) => (Exit.normal, (⟨mkE 35 0 [(0, .dat (.list (.pair (.int .i64) (.pair (.int .i64) .unit))) x3382), (1, .fn 71 [] []), (5, .dat (.int .i64) x3481), (10, .dat (.list (.pair (.int .i64) (.pair (.int .i64) .unit))) x3382), (11, .dat (.int .i64) x3383), (12, .dat (.int .i64) x3482)], []⟩ : St))) (fun (t : Int) => ((Exit.exit 0), (⟨mkE 35 0 [(5, .dat (.int .i64) t)], []⟩ : St)))) := by
  refine Link.of fun K h => ?_
  simp only [impl_countPairs_impl_arc_n3, wpO_bind, wpO_cond, wpO_map, wpO_some] at h
  exact Awp.of (by kernel_rfl) h

theorem impl_countPairs_impl_arc_n4_l (x3382 : List (Int × Int × Unit)) (x3481 : Int) (x3383 : Int) (x3482 : Int) : Link impl_countPairs_impl_arc_ctx LL (Code.seq (Code.fst (Code.fst (Code.fst (Code.snd (Code.snd (Code.fst (Code.fst (Code.snd (Code.fst (Code.snd (Code.snd (bodyOf Tryd.f69)))))))))))) (Code.fst (Code.snd (Code.fst (Code.fst (Code.snd (Code.snd (Code.fst (Code.fst (Code.snd (Code.fst (Code.snd (Code.snd (bodyOf Tryd.f69)))))))))))))) (Ann.seq (Ann.fst (Ann.fst (Ann.fst (Ann.snd (Ann.snd (Ann.fst (Ann.fst (Ann.snd (Ann.fst (Ann.snd (Ann.snd impl_countPairs_impl_arc_an))))))))))) (Ann.fst (Ann.snd (Ann.fst (Ann.fst (Ann.snd (Ann.snd (Ann.fst (Ann.fst (Ann.snd (Ann.fst (Ann.snd (Ann.snd impl_countPairs_impl_arc_an))))))))))))) (⟨mkE 35 0 [(0, .dat (.list (.pair (.int .i64) (.pair (.int .i64) .unit))) x3382), (1, .fn 71 [] []), (5, .dat (.int .i64) x3481), (10, .dat (.list (.pair (.int .i64) (.pair (.int .i64) .unit))) x3382), (11, .dat (.int .i64) x3383), (12, .dat (.int .i64) x3482)], []⟩ : St) (impl_countPairs_impl_arc_n4 x3382 x3482) (fun (t : (List (Int × Int × Unit)) × Int × Int × Int) => (Exit.normal, (⟨mkE 35 0 [(0, .dat (.list (.pair (.int .i64) (.pair (.int .i64) .unit))) x3382), (1, .fn 71 [] []), (5, .dat (.int .i64) x3481), (7, .ptr 0 0), (10, .dat (.list (.pair (.int .i64) (.pair (.int .i64) .unit))) x3382), (11, .dat (.int .i64) x3383), (12, .dat (.int .i64) x3482), (20, .dat (.list (.pair (.int .i64) (.pair (.int .i64) .unit))) t.1), (21, .dat (.int .i64) t.2.1), (22, .dat (.int .i64) 0)], [some (.box [.dat (.int .i64) t.2.2.1, .dat (.int .i64) t.2.2.2])]⟩ : St))) := by
  refine Link.of fun K h => ?_
  simp only [impl_countPairs_impl_arc_n4, wpO_bind, wpO_cond, wpO_map, wpO_some] at h
  exact Awp.of (by kernel_rfl) h

theorem impl_countPairs_impl_arc_n5_l (x3382 : List (Int × Int × Unit)) (x3522 : Int) (x3383 : Int) (x3482 : Int) (x3498 : List (Int × Int × Unit)) (x3499 : Int) (x3523 : Int) (x3491 : Int) (x3493 : Int) : Link impl_countPairs_impl_arc_ctx LL (Code.fst (Code.fst (Code.snd (Code.snd (Code.fst (Code.fst (Code.snd (Code.snd (Code.fst (Code.fst (Code.snd (Code.fst (Code.snd (Code.snd (bodyOf Tryd.f69))))))))))))))) (Ann.fst (Ann.fst (Ann.snd (Ann.snd (Ann.fst (Ann.fst (Ann.snd (Ann.snd (Ann.fst (Ann.fst (Ann.snd (Ann.fst (Ann.snd (Ann.snd impl_countPairs_impl_arc_an)))))))))))))) (⟨mkE 35 0 [(0, .dat (.list (.pair (.int .i64) (.pair (.int .i64) .unit))) x3382), (1, .fn 71 [] []), (5, .dat (.int .i64) x3522), (7, .ptr 0 0), (10, .dat (.list (.pair (.int .i64) (.pair (.int .i64) .unit))) x3382), (11, .dat (.int .i64) x3383), (12, .dat (.int .i64) x3482), (20, .dat (.list (.pair (.int .i64) (.pair (.int .i64) .unit))) x3498), (21, .dat (.int .i64) x3499), (22, .dat (.int .i64) x3523)], [some (.box [.dat (.int .i64) x3491, .dat (.int .i64) x3493])]⟩ : St) (impl_countPairs_impl_arc_n5 x3522 x3498 x3499 x3523 x3491 x3493) (Sum.elim (fun (t : Int × Int) => (Exit.normal, (⟨mkE 35 0 [(0, .dat (.list (.pair (.int .i64) (.pair (.int .i64) .unit))) x3382), (1, .fn 71 [] []), (5, .dat (.int .i64) t.1), (7, .ptr 0 0), (10, .dat (.list (.pair (.int .i64) (.pair (.int .i64) .unit))) x3382), (11, .dat (.int .i64) x3383), (12, .dat (.int .i64) x3482), (20, .dat (.list (.pair (.int .i64) (.pair (.int .i64) .unit))) x3498), (21, .dat (.int .i64) x3499), (22, .dat (.int .i64) t.2)], [some (.box [.dat (.int .i64) x3491, .dat (.int .i64) x3493])]⟩ : St))) (fun (t : Int) => ((Exit.exit 2), (⟨mkE 35 0 [(0, .dat (.list (.pair (.int .i64) (.pair (.int .i64) .unit))) x3382), (1, .fn 71 [] []), (5, .dat (.int .i64) t), (10, .dat (.list (.pair (.int .i64) (.pair (.int .i64) .unit))) x3382), (11, .dat (.int .i64) x3383), (12, .dat (.int .i64) x3482)], []⟩ : St)))) := by
  refine Link.of fun K h => ?_
  simp only [impl_countPairs_impl_arc_n5, wpO_bind, wpO_cond, wpO_map, wpO_some] at h
  exact Awp.of (by kernel_rfl) h

theorem impl_countPairs_impl_arc_n6_l (x3382 : List (Int × Int × Unit)) (x3481 : Int) (x3383 : Int) (x3482 : Int) (x3498 : List (Int × Int × Unit)) (x3499 : Int) (x3491 : Int) (x3493 : Int) : Link impl_countPairs_impl_arc_ctx LL (Code.fst (Code.snd (Code.snd (Code.fst (Code.fst (Code.snd (Code.snd (Code.fst (Code.fst (Code.snd (Code.fst (Code.snd (Code.snd (bodyOf Tryd.f69)))))))))))))) (Ann.fst (Ann.snd (Ann.snd (Ann.fst (Ann.fst (Ann.snd (Ann.snd (Ann.fst (Ann.fst (Ann.snd (Ann.fst (Ann.snd (Ann.snd impl_countPairs_impl_arc_an))))))))))))) (⟨mkE 35 0 [(0, .dat (.list (.pair (.int .i64) (.pair (.int .i64) .unit))) x3382), (1, .fn 71 [] []), (5, .dat (.int .i64) x3481), (7, .ptr 0 0), (10, .dat (.list (.pair (.int .i64) (.pair (.int .i64) .unit))) x3382), (11, .dat (.int .i64) x3383), (12, .dat (.int .i64) x3482), (20, .dat (.list (.pair (.int .i64) (.pair (.int .i64) .unit))) x3498), (21, .dat (.int .i64) x3499), (22, .dat (.int .i64) 0)], [some (.box [.dat (.int .i64) x3491, .dat (.int .i64) x3493])]⟩ : St) (impl_countPairs_impl_arc_n6 x3481 x3498 x3499 x3491 x3493) (fun (t : Int) => ((Exit.exit 2), (⟨mkE 35 0 [(0, .dat (.list (.pair (.int .i64) (.pair (.int .i64) .unit))) x3382), (1, .fn 71 [] []), (5, .dat (.int .i64) t), (10, .dat (.list (.pair (.int .i64) (.pair (.int .i64) .unit))) x3382), (11, .dat (.int .i64) x3383), (12, .dat (.int .i64) x3482)], []⟩ : St))) := by
  unfold impl_countPairs_impl_arc_n6
  exact Link.cast (by kernel_rfl) (by kernel_rfl) (link_loop (mk := fun (s : Int × Int) => (⟨mkE 35 0 [(0, .dat (.list (.pair (.int .i64) (.pair (.int .i64) .unit))) x3382), (1, .fn 71 [] []), (5, .dat (.int .i64) s.1), (7, .ptr 0 0), (10, .dat (.list (.pair (.int .i64) (.pair (.int .i64) .unit))) x3382), (11, .dat (.int .i64) x3383), (12, .dat (.int .i64) x3482), (20, .dat (.list (.pair (.int .i64) (.pair (.int .i64) .unit))) x3498), (21, .dat (.int .i64) x3499), (22, .dat (.int .i64) s.2)], [some (.box [.dat (.int .i64) x3491, .dat (.int .i64) x3493])]⟩ : St)) (fin := (fun (t : Int) => ((Exit.exit 2), (⟨mkE 35 0 [(0, .dat (.list (.pair (.int .i64) (.pair (.int .i64) .unit))) x3382), (1, .fn 71 [] []), (5, .dat (.int .i64) t), (10, .dat (.list (.pair (.int .i64) (.pair (.int .i64) .unit))) x3382), (11, .dat (.int .i64) x3383), (12, .dat (.int .i64) x3482)], []⟩ : St)))) (by
  rintro t f K h
  · exact h) (fun s => link_map (impl_countPairs_impl_arc_n5_l x3382 s.1 x3383 x3482 x3498 x3499 s.2 x3491 x3493) (Sum.elim (fun (t : Int × Int) => Sum.inl (t.1, t.2)) (fun (t : Int) => Sum.inr t)) (by
  rintro (t | t)
  · kernel_rfl
  · kernel_rfl)) (x3481, 0))

theorem impl_countPairs_impl_arc_n7_l (x3382 : List (Int × Int × Unit)) (x3481 : Int) (x3383 : Int) (x3482 : Int) (x3498 : List (Int × Int × Unit)) (x3499 : Int) (x3491 : Int) (x3493 : Int) : Link impl_countPairs_impl_arc_ctx LL (Code.snd (Code.snd (Code.fst (Code.fst (Code.snd (Code.snd (Code.fst (Code.fst (Code.snd (Code.fst (Code.snd (Code.snd (bodyOf Tryd.f69))))))))))))) (Ann.snd (Ann.snd (Ann.fst (Ann.fst (Ann.snd (Ann.snd (Ann.fst (Ann.fst (Ann.snd (Ann.fst (Ann.snd (Ann.snd impl_countPairs_impl_arc_an)))))))))))) (⟨mkE 35 0 [(0, .dat (.list (.pair (.int .i64) (.pair (.int .i64) .unit))) x3382), (1, .fn 71 [] []), (5, .dat (.int .i64) x3481), (7, .ptr 0 0), (10, .dat (.list (.pair (.int .i64) (.pair (.int .i64) .unit))) x3382), (11, .dat (.int .i64) x3383), (12, .dat (.int .i64) x3482), (20, .dat (.list (.pair (.int .i64) (.pair (.int .i64) .unit))) x3498), (21, .dat (.int .i64) x3499), (22, .dat (.int .i64) 0)], [some (.box [.dat (.int .i64) x3491, .dat (.int .i64) x3493])]⟩ : St) (impl_countPairs_impl_arc_n7 x3481 x3498 x3499 x3491 x3493) (fun (t : Int) => (Exit.normal, (⟨mkE 35 0 [(0, .dat (.list (.pair (.int .i64) (.pair (.int .i64) .unit))) x3382), (1, .fn 71 [] []), (5, .dat (.int .i64) t), (10, .dat (.list (.pair (.int .i64) (.pair (.int .i64) .unit))) x3382), (11, .dat (.int .i64) x3383), (12, .dat (.int .i64) x3482)], []⟩ : St))) := by
  unfold impl_countPairs_impl_arc_n7
  exact Link.cast (by kernel_rfl) (by kernel_rfl) (link_block (id := 2) (impl_countPairs_impl_arc_n6_l x3382 x3481 x3383 x3482 x3498 x3499 x3491 x3493) (fun (t : Int) => t) (by
  rintro t K h
  · exact Eq.mp (by kernel_rfl) h))

theorem impl_countPairs_impl_arc_n8_l (x3382 : List (Int × Int × Unit)) (x3481 : Int) (x3383 : Int) (x3482 : Int) : Link impl_countPairs_impl_arc_ctx LL (Code.fst (Code.fst (Code.snd (Code.snd (Code.fst (Code.fst (Code.snd (Code.fst (Code.snd (Code.snd (bodyOf Tryd.f69))))))))))) (Ann.fst (Ann.fst (Ann.snd (Ann.snd (Ann.fst (Ann.fst (Ann.snd (Ann.fst (Ann.snd (Ann.snd impl_countPairs_impl_arc_an)))))))))) (⟨mkE 35 0 [(0, .dat (.list (.pair (.int .i64) (.pair (.int .i64) .unit))) x3382), (1, .fn 71 [] []), (5, .dat (.int .i64) x3481), (10, .dat (.list (.pair (.int .i64) (.pair (.int .i64) .unit))) x3382), (11, .dat (.int .i64) x3383), (12, .dat (.int .i64) x3482)], []⟩ : St) (impl_countPairs_impl_arc_n8 x3382 x3481 x3482) (fun (t : Int) => (Exit.normal, (⟨mkE 35 0 [(0, .dat (.list (.pair (.int .i64) (.pair (.int .i64) .unit))) x3382), (1, .fn 71 [] []), (5, .dat (.int .i64) t), (10, .dat (.list (.pair (.int .i64) (.pair (.int .i64) .unit))) x3382), (11, .dat (.int .i64) x3383), (12, .dat (.int .i64) x3482)], []⟩ : St))) := by
  unfold impl_countPairs_impl_arc_n8
  exact Link.cast (by kernel_rfl) (by kernel_rfl) (link_group (c := (Code.fst (Code.snd (Code.fst (Code.fst (Code.snd (Code.snd (Code.fst (Code.fst (Code.snd (Code.fst (Code.snd (Code.snd (bodyOf Tryd.f69)))))))))))))) (a := (Ann.fst (Ann.snd (Ann.fst (Ann.fst (Ann.snd (Ann.snd (Ann.fst (Ann.fst (Ann.snd (Ann.fst (Ann.snd (Ann.snd impl_countPairs_impl_arc_an))))))))))))) [(Code.fst (Code.fst (Code.fst (Code.snd (Code.snd (Code.fst (Code.fst (Code.snd (Code.fst (Code.snd (Code.snd (bodyOf Tryd.f69))))))))))))] [(Ann.fst (Ann.fst (Ann.fst (Ann.snd (Ann.snd (Ann.fst (Ann.fst (Ann.snd (Ann.fst (Ann.snd (Ann.snd impl_countPairs_impl_arc_an)))))))))))] rfl (link_seq (b := (Code.snd (Code.snd (Code.fst (Code.fst (Code.snd (Code.snd (Code.fst (Code.fst (Code.snd (Code.fst (Code.snd (Code.snd (bodyOf Tryd.f69)))))))))))))) (y := (Ann.snd (Ann.snd (Ann.fst (Ann.fst (Ann.snd (Ann.snd (Ann.fst (Ann.fst (Ann.snd (Ann.fst (Ann.snd (Ann.snd impl_countPairs_impl_arc_an))))))))))))) (impl_countPairs_impl_arc_n4_l x3382 x3481 x3383 x3482) (fun (t : (List (Int × Int × Unit)) × Int × Int × Int) => (impl_countPairs_impl_arc_n7_l x3382 x3481 x3383 x3482 t.1 t.2.1 t.2.2.1 t.2.2.2))))

theorem impl_countPairs_impl_arc_n9_l (x3382 : List (Int × Int × Unit)) (x3481 : Int) (x3383 : Int) (x3482 : Int) : Link impl_countPairs_impl_arc_ctx LL (Code.fst (Code.snd (Code.snd (Code.fst (Code.fst (Code.snd (Code.fst (Code.snd (Code.snd (bodyOf Tryd.f69)))))))))) (Ann.fst (Ann.snd (Ann.snd (Ann.fst (Ann.fst (Ann.snd (Ann.fst (Ann.snd (Ann.snd impl_countPairs_impl_arc_an))))))))) (⟨mkE 35 0 [(0, .dat (.list (.pair (.int .i64) (.pair (.int .i64) .unit))) x3382), (1, .fn 71 [] []), (5, .dat (.int .i64) x3481), (10, .dat (.list (.pair (.int .i64) (.pair (.int .i64) .unit))) x3382), (11, .dat (.int .i64) x3383), (12, .dat (.int .i64) x3482)], []⟩ : St) (impl_countPairs_impl_arc_n9 x3382 x3481 x3482) (fun (t : Int) => (Exit.normal, (⟨mkE 35 0 [(0, .dat (.list (.pair (.int .i64) (.pair (.int .i64) .unit))) x3382), (1, .fn 71 [] []), (5, .dat (.int .i64) t), (10, .dat (.list (.pair (.int .i64) (.pair (.int .i64) .unit))) x3382), (11, .dat (.int .i64) x3383), (12, .dat (.int .i64) x3482)], []⟩ : St))) := by
  unfold impl_countPairs_impl_arc_n9
  exact Link.cast (by kernel_rfl) (by kernel_rfl) (link_block (id := 1) (impl_countPairs_impl_arc_n8_l x3382 x3481 x3383 x3482) (fun (t : Int) => t) (by
  rintro t K h
  · exact Eq.mp (by kernel_rfl) h))

theorem impl_countPairs_impl_arc_n10_l (x3382 : List (Int × Int × Unit)) (x3522 : Int) (x3383 : Int) (x3482 : Int) : Link impl_countPairs_impl_arc_ctx LL (Code.snd (Code.snd (Code.snd (Code.fst (Code.fst (Code.snd (Code.fst (Code.snd (Code.snd (bodyOf Tryd.f69)))))))))) (Ann.snd (Ann.snd (Ann.snd (Ann.fst (Ann.fst (Ann.snd (Ann.fst (Ann.snd (Ann.snd impl_countPairs_impl_arc_an))))))))) (⟨mkE 35 0 [(0, .dat (.list (.pair (.int .i64) (.pair (.int .i64) .unit))) x3382), (1, .fn 71 [] []), (5, .dat (.int .i64) x3522), (10, .dat (.list (.pair (.int .i64) (.pair (.int .i64) .unit))) x3382), (11, .dat (.int .i64) x3383), (12, .dat (.int .i64) x3482)], []⟩ : St) (impl_countPairs_impl_arc_n10 x3482) (fun (t : Int) => (Exit.normal, (⟨mkE 35 0 [(0, .dat (.list (.pair (.int .i64) (.pair (.int .i64) .unit))) x3382), (1, .fn 71 [] []), (5, .dat (.int .i64) x3522), (10, .dat (.list (.pair (.int .i64) (.pair (.int .i64) .unit))) x3382), (11, .dat (.int .i64) x3383), (12, .dat (.int .i64) t)], []⟩ : St))) := by
  refine Link.of fun K h => ?_
  simp only [impl_countPairs_impl_arc_n10, wpO_bind, wpO_cond, wpO_map, wpO_some] at h
  exact Awp.of (by kernel_rfl) h

theorem impl_countPairs_impl_arc_n11_l (x3382 : List (Int × Int × Unit)) (x3481 : Int) (x3383 : Int) (x3482 : Int) : Link impl_countPairs_impl_arc_ctx LL (Code.snd (Code.snd (Code.fst (Code.fst (Code.snd (Code.fst (Code.snd (Code.snd (bodyOf Tryd.f69))))))))) (Ann.snd (Ann.snd (Ann.fst (Ann.fst (Ann.snd (Ann.fst (Ann.snd (Ann.snd impl_countPairs_impl_arc_an)))))))) (⟨mkE 35 0 [(0, .dat (.list (.pair (.int .i64) (.pair (.int .i64) .unit))) x3382), (1, .fn 71 [] []), (5, .dat (.int .i64) x3481), (10, .dat (.list (.pair (.int .i64) (.pair (.int .i64) .unit))) x3382), (11, .dat (.int .i64) x3383), (12, .dat (.int .i64) x3482)], []⟩ : St) (impl_countPairs_impl_arc_n11 x3382 x3481 x3482) (fun (t : Int × Int) => (Exit.normal, (⟨mkE 35 0 [(0, .dat (.list (.pair (.int .i64) (.pair (.int .i64) .unit))) x3382), (1, .fn 71 [] []), (5, .dat (.int .i64) t.1), (10, .dat (.list (.pair (.int .i64) (.pair (.int .i64) .unit))) x3382), (11, .dat (.int .i64) x3383), (12, .dat (.int .i64) t.2)], []⟩ : St))) := by
  unfold impl_countPairs_impl_arc_n11
  exact Link.cast (by kernel_rfl) (by kernel_rfl) (link_seq (b := (Code.snd (Code.snd (Code.snd (Code.fst (Code.fst (Code.snd (Code.fst (Code.snd (Code.snd (bodyOf Tryd.f69))))))))))) (y := (Ann.snd (Ann.snd (Ann.snd (Ann.fst (Ann.fst (Ann.snd (Ann.fst (Ann.snd (Ann.snd impl_countPairs_impl_arc_an)))))))))) (impl_countPairs_impl_arc_n9_l x3382 x3481 x3383 x3482) (fun (t : Int) => (link_map (impl_countPairs_impl_arc_n10_l x3382 t x3383 x3482) (fun (u : Int) => (t, u)) (by
  rintro t
  · kernel_rfl))))

theorem impl_countPairs_impl_arc_n12_l (x3382 : List (Int × Int × Unit)) (x3481 : Int) (x3383 : Int) (x3482 : Int) : Link impl_countPairs_impl_arc_ctx LL (Code.fst (Code.fst (Code.snd (Code.fst (Code.snd (Code.snd (bodyOf Tryd.f69))))))) (Ann.fst (Ann.fst (Ann.snd (Ann.fst (Ann.snd (Ann.snd impl_countPairs_impl_arc_an)))))) (⟨mkE 35 0 [(0, .dat (.list (.pair (.int .i64) (.pair (.int .i64) .unit))) x3382), (1, .fn 71 [] []), (5, .dat (.int .i64) x3481), (10, .dat (.list (.pair (.int .i64) (.pair (.int .i64) .unit))) x3382), (11, .dat (.int .i64) x3383), (12, .dat (.int .i64) x3482)], []⟩ : St) (impl_countPairs_impl_arc_n12 x3382 x3481 x3383 x3482) (Sum.elim (fun (t : Int × Int) => (Exit.normal, (⟨mkE 35 0 [(0, .dat (.list (.pair (.int .i64) (.pair (.int .i64) .unit))) x3382), (1, .fn 71 [] []), (5, .dat (.int .i64) t.1), (10, .dat (.list (.pair (.int .i64) (.pair (.int .i64) .unit))) x3382), (11, .dat (.int .i64) x3383), (12, .dat (.int .i64) t.2)], []⟩ : St))) (fun (t : Int) => ((Exit.exit 0), (⟨mkE 35 0 [(5, .dat (.int .i64) t)], []⟩ : St)))) := by
  unfold impl_countPairs_impl_arc_n12
  exact Link.cast (by kernel_rfl) (by kernel_rfl) (link_group (c := (Code.fst (Code.snd (Code.fst (Code.fst (Code.snd (Code.fst (Code.snd (Code.snd (bodyOf Tryd.f69)))))))))) (a := (Ann.fst (Ann.snd (Ann.fst (Ann.fst (Ann.snd (Ann.fst (Ann.snd (Ann.snd impl_countPairs_impl_arc_an))))))))) [(Code.fst (Code.fst (Code.fst (Code.snd (Code.fst (Code.snd (Code.snd (bodyOf Tryd.f69))))))))] [(Ann.fst (Ann.fst (Ann.fst (Ann.snd (Ann.fst (Ann.snd (Ann.snd impl_countPairs_impl_arc_an)))))))] rfl (link_seq2 (b := (Code.snd (Code.snd (Code.fst (Code.fst (Code.snd (Code.fst (Code.snd (Code.snd (bodyOf Tryd.f69)))))))))) (y := (Ann.snd (Ann.snd (Ann.fst (Ann.fst (Ann.snd (Ann.fst (Ann.snd (Ann.snd impl_countPairs_impl_arc_an))))))))) (impl_countPairs_impl_arc_n3_l x3382 x3481 x3383 x3482) (fun (t : Unit) => (link_map (impl_countPairs_impl_arc_n11_l x3382 x3481 x3383 x3482) (fun (t : Int × Int) => (Sum.inl (t.1, t.2))) (by
  rintro t
  · kernel_rfl))) (fun (t : Int) => (Sum.inr t)) (by
  rintro t
  · kernel_rfl) (by
  rintro t f K h
  · exact h)))

theorem impl_countPairs_impl_arc_n13_l (x3382 : List (Int × Int × Unit)) (x3383 : Int) : Link impl_countPairs_impl_arc_ctx LL (Code.fst (Code.snd (Code.fst (Code.snd (Code.snd (bodyOf Tryd.f69)))))) (Ann.fst (Ann.snd (Ann.fst (Ann.snd (Ann.snd impl_countPairs_impl_arc_an))))) (⟨mkE 35 0 [(0, .dat (.list (.pair (.int .i64) (.pair (.int .i64) .unit))) x3382), (1, .fn 71 [] []), (5, .dat (.int .i64) 0), (10, .dat (.list (.pair (.int .i64) (.pair (.int .i64) .unit))) x3382), (11, .dat (.int .i64) x3383), (12, .dat (.int .i64) 0)], []⟩ : St) (impl_countPairs_impl_arc_n13 x3382 x3383) (fun (t : Int) => ((Exit.exit 0), (⟨mkE 35 0 [(5, .dat (.int .i64) t)], []⟩ : St))) := by
  unfold impl_countPairs_impl_arc_n13
  exact Link.cast (by kernel_rfl) (by kernel_rfl) (link_loop (mk := fun (s : Int × Int) => (⟨mkE 35 0 [(0, .dat (.list (.pair (.int .i64) (.pair (.int .i64) .unit))) x3382), (1, .fn 71 [] []), (5, .dat (.int .i64) s.1), (10, .dat (.list (.pair (.int .i64) (.pair (.int .i64) .unit))) x3382), (11, .dat (.int .i64) x3383), (12, .dat (.int .i64) s.2)], []⟩ : St)) (fin := (fun (t : Int) => ((Exit.exit 0), (⟨mkE 35 0 [(5, .dat (.int .i64) t)], []⟩ : St)))) (by
  rintro t f K h
  · exact h) (fun s => link_map (impl_countPairs_impl_arc_n12_l x3382 s.1 x3383 s.2) (Sum.elim (fun (t : Int × Int) => Sum.inl (t.1, t.2)) (fun (t : Int) => Sum.inr t)) (by
  rintro (t | t)
  · kernel_rfl
  · kernel_rfl)) (0, 0))

theorem impl_countPairs_impl_arc_n14_l (x3382 : List (Int × Int × Unit)) (x3383 : Int) : Link impl_countPairs_impl_arc_ctx LL (Code.snd (Code.fst (Code.snd (Code.snd (bodyOf Tryd.f69))))) (Ann.snd (Ann.fst (Ann.snd (Ann.snd impl_countPairs_impl_arc_an)))) (⟨mkE 35 0 [(0, .dat (.list (.pair (.int .i64) (.pair (.int .i64) .unit))) x3382), (1, .fn 71 [] []), (5, .dat (.int .i64) 0), (10, .dat (.list (.pair (.int .i64) (.pair (.int .i64) .unit))) x3382), (11, .dat (.int .i64) x3383), (12, .dat (.int .i64) 0)], []⟩ : St) (impl_countPairs_impl_arc_n14 x3382 x3383) (fun (t : Int) => (Exit.normal, (⟨mkE 35 0 [(5, .dat (.int .i64) t)], []⟩ : St))) := by
  unfold impl_countPairs_impl_arc_n14
  exact Link.cast (by kernel_rfl) (by kernel_rfl) (link_block (id := 0) (impl_countPairs_impl_arc_n13_l x3382 x3383) (fun (t : Int) => t) (by
  rintro t K h
  · exact Eq.mp (by kernel_rfl) h))

theorem impl_countPairs_impl_arc_n15_l (x3382 : List (Int × Int × Unit)) : Link impl_countPairs_impl_arc_ctx LL (Code.fst (Code.snd (Code.snd (bodyOf Tryd.f69)))) (Ann.fst (Ann.snd (Ann.snd impl_countPairs_impl_arc_an))) (⟨mkE 35 0 [(0, .dat (.list (.pair (.int .i64) (.pair (.int .i64) .unit))) x3382), (1, .fn 71 [] []), (5, .dat (.int .i64) 0)], []⟩ : St) (impl_countPairs_impl_arc_n15 x3382) (fun (t : Int) => (Exit.normal, (⟨mkE 35 0 [(5, .dat (.int .i64) t)], []⟩ : St))) := by
  unfold impl_countPairs_impl_arc_n15
  exact Link.cast (by kernel_rfl) (by kernel_rfl) (link_seq (b := (Code.snd (Code.fst (Code.snd (Code.snd (bodyOf Tryd.f69)))))) (y := (Ann.snd (Ann.fst (Ann.snd (Ann.snd impl_countPairs_impl_arc_an))))) (impl_countPairs_impl_arc_n2_l x3382) (fun (t : Int) => (impl_countPairs_impl_arc_n14_l x3382 t)))

theorem impl_countPairs_impl_arc_n16_l (x3481 : Int) : Link impl_countPairs_impl_arc_ctx LL (Code.snd (Code.snd (Code.snd (bodyOf Tryd.f69)))) (Ann.snd (Ann.snd (Ann.snd impl_countPairs_impl_arc_an))) (⟨mkE 35 0 [(5, .dat (.int .i64) x3481)], []⟩ : St) (impl_countPairs_impl_arc_n16 x3481) (fun (t : Int) => (Exit.ret, (⟨mkE 35 0 [(4, .dat (.int .i64) t)], []⟩ : St))) := by
  refine Link.of fun K h => ?_
  simp only [impl_countPairs_impl_arc_n16, wpO_bind, wpO_cond, wpO_map, wpO_some] at h
  exact Awp.of (by kernel_rfl) h

theorem impl_countPairs_impl_arc_n17_l (x3382 : List (Int × Int × Unit)) : Link impl_countPairs_impl_arc_ctx LL (Code.snd (Code.snd (bodyOf Tryd.f69))) (Ann.snd (Ann.snd impl_countPairs_impl_arc_an)) (⟨mkE 35 0 [(0, .dat (.list (.pair (.int .i64) (.pair (.int .i64) .unit))) x3382), (1, .fn 71 [] []), (5, .dat (.int .i64) 0)], []⟩ : St) (impl_countPairs_impl_arc_n17 x3382) (fun (t : Int) => (Exit.ret, (⟨mkE 35 0 [(4, .dat (.int .i64) t)], []⟩ : St))) := by
  unfold impl_countPairs_impl_arc_n17
  exact Link.cast (by kernel_rfl) (by kernel_rfl) (link_seq (b := (Code.snd (Code.snd (Code.snd (bodyOf Tryd.f69))))) (y := (Ann.snd (Ann.snd (Ann.snd impl_countPairs_impl_arc_an)))) (impl_countPairs_impl_arc_n15_l x3382) (fun (t : Int) => (impl_countPairs_impl_arc_n16_l t)))

theorem impl_countPairs_impl_arc_n18_l (x3382 : List (Int × Int × Unit)) : Link impl_countPairs_impl_arc_ctx LL (bodyOf Tryd.f69) impl_countPairs_impl_arc_an (⟨mkE 35 0 [(0, .dat (.list (.pair (.int .i64) (.pair (.int .i64) .unit))) x3382), (1, .fn 71 [] [])], []⟩ : St) (impl_countPairs_impl_arc_n18 x3382) (fun (t : Int) => (Exit.ret, (⟨mkE 35 0 [(4, .dat (.int .i64) t)], []⟩ : St))) := by
  unfold impl_countPairs_impl_arc_n18
  exact Link.cast (by kernel_rfl) (by kernel_rfl) (link_group (c := (Code.fst (Code.snd (bodyOf Tryd.f69)))) (a := (Ann.fst (Ann.snd impl_countPairs_impl_arc_an))) [(Code.fst (bodyOf Tryd.f69))] [(Ann.fst impl_countPairs_impl_arc_an)] rfl (link_seq (b := (Code.snd (Code.snd (bodyOf Tryd.f69)))) (y := (Ann.snd (Ann.snd impl_countPairs_impl_arc_an))) (impl_countPairs_impl_arc_n1_l x3382) (fun (t : Unit) => (impl_countPairs_impl_arc_n17_l x3382))))

theorem impl_countPairs_impl_arc_e (x3382 : List (Int × Int × Unit)) {r : AV} {H' : Heap} (h : (Ans.mk _ (impl_countPairs_impl_arc x3382) (fun (t : Int) => (.dat (.int .i64) t, []))).run = some (r, H')) : Awp impl_countPairs_impl_arc_ctx LL (bodyOf Tryd.f69) impl_countPairs_impl_arc_an (⟨mkE 35 0 [(0, .dat (.list (.pair (.int .i64) (.pair (.int .i64) .unit))) x3382), (1, .fn 71 [] [])], []⟩ : St) (Ret (tlook tys) Tryd.f69.results.toList r H') :=
  ret_of' (impl_countPairs_impl_arc_n18_l x3382) (by unfold impl_countPairs_impl_arc; kernel_rfl) (by
  intro t
  exact ret_mk [.dat (.int .i64) t] (by kernel_rfl) (by kernel_rfl) (by kernel_rfl) (by kernel_rfl)) h

def F_impl_countPairs_impl_arc : Fun := fun avs H =>
  match avs, H with
  | [.dat (.list (.pair (.int .i64) (.pair (.int .i64) .unit))) x3382, .fn 71 [] []], [] => ⟨_, impl_countPairs_impl_arc x3382, fun (t : Int) => (.dat (.int .i64) t, [])⟩
  | _, _ => Ans.no

theorem impl_countPairs_impl_arc_sound : Sound Tryd.prog 69 F_impl_countPairs_impl_arc := by
  refine fn_sound' (C := impl_countPairs_impl_arc_ctx) (c := bodyOf Tryd.f69) (cok_of tys_ok (List.forall_mem_cons.2 ⟨impl_arc_crosses_sound, by simp⟩) (List.forall_mem_cons.2 ⟨Tryd.call71, by simp⟩) (by kernel_rfl)) Tryd.func69 (by kernel_rfl) LL impl_countPairs_impl_arc_an ?_
  intro avs H r H' h
  unfold F_impl_countPairs_impl_arc at h
  split at h
  · refine Awp.cast ?_ ?_ ?_ (impl_countPairs_impl_arc_e _ h) <;> kernel_rfl
  · simp [Ans.no, Ans.run] at h


/-! loop.example/headtrees/impl.CrossingsOf -/

def impl_CrossingsOf_an : Ann := (.seq (.leaf [0]) (.seq (.seq (.leaf [0, 5]) (.cond (.seq (.leaf [2]) (.leaf [2])) (.leaf [0]))) (.seq (.leaf [2]) (.leaf [2]))))

noncomputable def impl_CrossingsOf_ctx : Ctx := ⟨tlook tys, olook [(40, F_impl_TreeOk), (70, F_impl_arcsOf), (69, F_impl_countPairs_impl_arc)], ioF, 0⟩

theorem impl_CrossingsOf_n1_l (x3285 : List Int) : Link impl_CrossingsOf_ctx LL (bodyOf Tryd.f38) impl_CrossingsOf_an (⟨mkE 9 0 [(0, .dat (.list (.int .i64)) x3285)], []⟩ : St) (impl_CrossingsOf_n1 x3285) (fun (t : Int) => (Exit.ret, (⟨mkE 9 0 [(2, .dat (.int .i64) t)], []⟩ : St))) := by
  refine Link.of fun K h => ?_
  simp only [impl_CrossingsOf_n1, wpO_bind, wpO_cond, wpO_map, wpO_some] at h
  exact Awp.of (by kernel_rfl) h

theorem impl_CrossingsOf_e (x3285 : List Int) {r : AV} {H' : Heap} (h : (Ans.mk _ (impl_CrossingsOf x3285) (fun (t : Int) => (.dat (.int .i64) t, []))).run = some (r, H')) : Awp impl_CrossingsOf_ctx LL (bodyOf Tryd.f38) impl_CrossingsOf_an (⟨mkE 9 0 [(0, .dat (.list (.int .i64)) x3285)], []⟩ : St) (Ret (tlook tys) Tryd.f38.results.toList r H') :=
  ret_of' (impl_CrossingsOf_n1_l x3285) (by unfold impl_CrossingsOf; kernel_rfl) (by
  intro t
  exact ret_mk [.dat (.int .i64) t] (by kernel_rfl) (by kernel_rfl) (by kernel_rfl) (by kernel_rfl)) h

def F_impl_CrossingsOf : Fun := fun avs H =>
  match avs, H with
  | [.dat (.list (.int .i64)) x3285], [] => ⟨_, impl_CrossingsOf x3285, fun (t : Int) => (.dat (.int .i64) t, [])⟩
  | _, _ => Ans.no

theorem impl_CrossingsOf_sound : Sound Tryd.prog 38 F_impl_CrossingsOf := by
  refine fn_sound' (C := impl_CrossingsOf_ctx) (c := bodyOf Tryd.f38) (cok_of tys_ok (List.forall_mem_cons.2 ⟨impl_TreeOk_sound, List.forall_mem_cons.2 ⟨impl_arcsOf_sound, List.forall_mem_cons.2 ⟨impl_countPairs_impl_arc_sound, by simp⟩⟩⟩) (List.forall_mem_cons.2 ⟨Tryd.call40, List.forall_mem_cons.2 ⟨Tryd.call70, List.forall_mem_cons.2 ⟨Tryd.call69, by simp⟩⟩⟩) (by kernel_rfl)) Tryd.func38 (by kernel_rfl) LL impl_CrossingsOf_an ?_
  intro avs H r H' h
  unfold F_impl_CrossingsOf at h
  split at h
  · refine Awp.cast ?_ ?_ ?_ (impl_CrossingsOf_e _ h) <;> kernel_rfl
  · simp [Ans.no, Ans.run] at h


/-! (loop.example/headtrees/impl.wordSet).isRow -/

def impl_wordSet_isRow_an : Ann := (.seq (.leaf [0]) (.seq (.leaf [0, 3]) (.seq (.leaf [2]) (.leaf [2]))))

noncomputable def impl_wordSet_isRow_ctx : Ctx := ⟨tlook tys, olook [], ioF, 0⟩

theorem impl_wordSet_isRow_n1_l (x4164 : Int) : Link impl_wordSet_isRow_ctx LL (bodyOf Tryd.f76) impl_wordSet_isRow_an (⟨mkE 14 0 [(0, .dat (.int .u64) x4164)], []⟩ : St) (impl_wordSet_isRow_n1 x4164) (fun (t : Bool) => (Exit.ret, (⟨mkE 14 0 [(2, .dat .bool t)], []⟩ : St))) := by
  refine Link.of fun K h => ?_
  simp only [impl_wordSet_isRow_n1, wpO_bind, wpO_cond, wpO_map, wpO_some] at h
  exact Awp.of (by kernel_rfl) h

theorem impl_wordSet_isRow_e (x4164 : Int) {r : AV} {H' : Heap} (h : (Ans.mk _ (impl_wordSet_isRow x4164) (fun (t : Bool) => (.dat .bool t, []))).run = some (r, H')) : Awp impl_wordSet_isRow_ctx LL (bodyOf Tryd.f76) impl_wordSet_isRow_an (⟨mkE 14 0 [(0, .dat (.int .u64) x4164)], []⟩ : St) (Ret (tlook tys) Tryd.f76.results.toList r H') :=
  ret_of' (impl_wordSet_isRow_n1_l x4164) (by unfold impl_wordSet_isRow; kernel_rfl) (by
  intro t
  exact ret_mk [.dat .bool t] (by kernel_rfl) (by kernel_rfl) (by kernel_rfl) (by kernel_rfl)) h

def F_impl_wordSet_isRow : Fun := fun avs H =>
  match avs, H with
  | [.dat (.int .u64) x4164], [] => ⟨_, impl_wordSet_isRow x4164, fun (t : Bool) => (.dat .bool t, [])⟩
  | _, _ => Ans.no

theorem impl_wordSet_isRow_sound : Sound Tryd.prog 76 F_impl_wordSet_isRow := by
  refine fn_sound' (C := impl_wordSet_isRow_ctx) (c := bodyOf Tryd.f76) (cok_of tys_ok (by simp) (by simp) (by kernel_rfl)) Tryd.func76 (by kernel_rfl) LL impl_wordSet_isRow_an ?_
  intro avs H r H' h
  unfold F_impl_wordSet_isRow at h
  split at h
  · refine Awp.cast ?_ ?_ ?_ (impl_wordSet_isRow_e _ h) <;> kernel_rfl
  · simp [Ans.no, Ans.run] at h


end Go.Rv
