/-
  The checked code answers as the plain functions do; written by program. Conditions: none.
-/
import Derived.Test.YtgnjabkkcglmkaaDoorGN
import Derived.Test.YtgnjabkkcglmkaaDoorProg
set_option linter.unusedVariables false
set_option linter.unusedSimpArgs false
set_option maxRecDepth 100000
namespace Go.Rv
open Go.Proofs
theorem ty3 : TIOk Tryd.prog 3 ⟨.int .i64, 1, 8, some (.int .i64), [.int .i64 0]⟩ := ⟨⟨infoOf (Tryd.prog.info? 3), by kernel_rfl, by kernel_rfl, by kernel_rfl, .int .i64 0, by kernel_rfl, by kernel_rfl⟩, (by kernel_rfl : Tryd.prog.underlying 3 = some (.int .i64))⟩
theorem ty4 : TIOk Tryd.prog 4 ⟨.bool, 1, 1, some .bool, [.bool false]⟩ := ⟨⟨infoOf (Tryd.prog.info? 4), by kernel_rfl, by kernel_rfl, by kernel_rfl, .bool false, by kernel_rfl, by kernel_rfl⟩, (by kernel_rfl : Tryd.prog.underlying 4 = some .bool)⟩
theorem ty5 : TIOk Tryd.prog 5 ⟨.int .u8, 1, 1, some (.int .u8), [.int .u8 0]⟩ := ⟨⟨infoOf (Tryd.prog.info? 5), by kernel_rfl, by kernel_rfl, by kernel_rfl, .int .u8 0, by kernel_rfl, by kernel_rfl⟩, (by kernel_rfl : Tryd.prog.underlying 5 = some (.int .u8))⟩
theorem ty22 : TIOk Tryd.prog 22 ⟨.slice 5, 1, 24, some (.list (.int .u8)), [.slice none 0 0]⟩ := ⟨⟨infoOf (Tryd.prog.info? 22), by kernel_rfl, by kernel_rfl, by kernel_rfl, .slice none 0 0, by kernel_rfl, by kernel_rfl⟩, (by kernel_rfl : Tryd.prog.underlying 22 = some (.slice 5))⟩
theorem ty23 : TIOk Tryd.prog 23 ⟨.slice 3, 1, 24, some (.list (.int .i64)), [.slice none 0 0]⟩ := ⟨⟨infoOf (Tryd.prog.info? 23), by kernel_rfl, by kernel_rfl, by kernel_rfl, .slice none 0 0, by kernel_rfl, by kernel_rfl⟩, (by kernel_rfl : Tryd.prog.underlying 23 = some (.slice 3))⟩
theorem ty37 : TIOk Tryd.prog 37 ⟨.slice 23, 1, 24, some (.list (.list (.int .i64))), [.slice none 0 0]⟩ := ⟨⟨infoOf (Tryd.prog.info? 37), by kernel_rfl, by kernel_rfl, by kernel_rfl, .slice none 0 0, by kernel_rfl, by kernel_rfl⟩, (by kernel_rfl : Tryd.prog.underlying 37 = some (.slice 23))⟩
theorem ty46 : TIOk Tryd.prog 46 ⟨.int .u64, 1, 8, some (.int .u64), [.int .u64 0]⟩ := ⟨⟨infoOf (Tryd.prog.info? 46), by kernel_rfl, by kernel_rfl, by kernel_rfl, .int .u64 0, by kernel_rfl, by kernel_rfl⟩, (by kernel_rfl : Tryd.prog.underlying 46 = some (.int .u64))⟩
theorem ty47 : TIOk Tryd.prog 47 ⟨.slice 46, 1, 24, some (.list (.int .u64)), [.slice none 0 0]⟩ := ⟨⟨infoOf (Tryd.prog.info? 47), by kernel_rfl, by kernel_rfl, by kernel_rfl, .slice none 0 0, by kernel_rfl, by kernel_rfl⟩, (by kernel_rfl : Tryd.prog.underlying 47 = some (.slice 46))⟩
theorem ty54 : TIOk Tryd.prog 54 ⟨.strct [(0, 23), (1, 3), (2, 3)], 3, 40, some (.pair (.list (.int .i64)) (.pair (.int .i64) (.pair (.int .i64) .unit))), [.slice none 0 0, .int .i64 0, .int .i64 0]⟩ := ⟨⟨infoOf (Tryd.prog.info? 54), by kernel_rfl, by kernel_rfl, by kernel_rfl, .agg #[.slice none 0 0, .int .i64 0, .int .i64 0], by kernel_rfl, by kernel_rfl⟩, ⟨fieldsOf (Tryd.prog.underlying 54), by kernel_rfl, by kernel_rfl⟩⟩
theorem ty62 : TIOk Tryd.prog 62 ⟨.strct [(0, 3), (1, 3)], 2, 16, some (.pair (.int .i64) (.pair (.int .i64) .unit)), [.int .i64 0, .int .i64 0]⟩ := ⟨⟨infoOf (Tryd.prog.info? 62), by kernel_rfl, by kernel_rfl, by kernel_rfl, .agg #[.int .i64 0, .int .i64 0], by kernel_rfl, by kernel_rfl⟩, ⟨fieldsOf (Tryd.prog.underlying 62), by kernel_rfl, by kernel_rfl⟩⟩
theorem ty63 : TIOk Tryd.prog 63 ⟨.slice 62, 1, 24, some (.list (.pair (.int .i64) (.pair (.int .i64) .unit))), [.slice none 0 0]⟩ := ⟨⟨infoOf (Tryd.prog.info? 63), by kernel_rfl, by kernel_rfl, by kernel_rfl, .slice none 0 0, by kernel_rfl, by kernel_rfl⟩, (by kernel_rfl : Tryd.prog.underlying 63 = some (.slice 62))⟩
theorem ty74 : TIOk Tryd.prog 74 ⟨.strct [(0, 22), (1, 3)], 2, 32, some (.pair (.list (.int .u8)) (.pair (.int .i64) .unit)), [.slice none 0 0, .int .i64 0]⟩ := ⟨⟨infoOf (Tryd.prog.info? 74), by kernel_rfl, by kernel_rfl, by kernel_rfl, .agg #[.slice none 0 0, .int .i64 0], by kernel_rfl, by kernel_rfl⟩, ⟨fieldsOf (Tryd.prog.underlying 74), by kernel_rfl, by kernel_rfl⟩⟩
theorem ty88 : TIOk Tryd.prog 88 ⟨.int .u64, 1, 8, some (.int .u64), [.int .u64 0]⟩ := ⟨⟨infoOf (Tryd.prog.info? 88), by kernel_rfl, by kernel_rfl, by kernel_rfl, .int .u64 0, by kernel_rfl, by kernel_rfl⟩, (by kernel_rfl : Tryd.prog.underlying 88 = some (.int .u64))⟩
theorem ty89 : TIOk Tryd.prog 89 ⟨.arr 9 4, 9, 9, none, [.bool false, .bool false, .bool false, .bool false, .bool false, .bool false, .bool false, .bool false, .bool false]⟩ := ⟨⟨infoOf (Tryd.prog.info? 89), by kernel_rfl, by kernel_rfl, by kernel_rfl, .agg #[.bool false, .bool false, .bool false, .bool false, .bool false, .bool false, .bool false, .bool false, .bool false], by kernel_rfl, by kernel_rfl⟩, (by kernel_rfl : Tryd.prog.underlying 89 = some (.array 9 4))⟩
theorem ty91 : TIOk Tryd.prog 91 ⟨.arr 64 5, 64, 64, none, [.int .u8 0, .int .u8 0, .int .u8 0, .int .u8 0, .int .u8 0, .int .u8 0, .int .u8 0, .int .u8 0, .int .u8 0, .int .u8 0, .int .u8 0, .int .u8 0, .int .u8 0, .int .u8 0, .int .u8 0, .int .u8 0, .int .u8 0, .int .u8 0, .int .u8 0, .int .u8 0, .int .u8 0, .int .u8 0, .int .u8 0, .int .u8 0, .int .u8 0, .int .u8 0, .int .u8 0, .int .u8 0, .int .u8 0, .int .u8 0, .int .u8 0, .int .u8 0, .int .u8 0, .int .u8 0, .int .u8 0, .int .u8 0, .int .u8 0, .int .u8 0, .int .u8 0, .int .u8 0, .int .u8 0, .int .u8 0, .int .u8 0, .int .u8 0, .int .u8 0, .int .u8 0, .int .u8 0, .int .u8 0, .int .u8 0, .int .u8 0, .int .u8 0, .int .u8 0, .int .u8 0, .int .u8 0, .int .u8 0, .int .u8 0, .int .u8 0, .int .u8 0, .int .u8 0, .int .u8 0, .int .u8 0, .int .u8 0, .int .u8 0, .int .u8 0]⟩ := ⟨⟨infoOf (Tryd.prog.info? 91), by kernel_rfl, by kernel_rfl, by kernel_rfl, .agg #[.int .u8 0, .int .u8 0, .int .u8 0, .int .u8 0, .int .u8 0, .int .u8 0, .int .u8 0, .int .u8 0, .int .u8 0, .int .u8 0, .int .u8 0, .int .u8 0, .int .u8 0, .int .u8 0, .int .u8 0, .int .u8 0, .int .u8 0, .int .u8 0, .int .u8 0, .int .u8 0, .int .u8 0, .int .u8 0, .int .u8 0, .int .u8 0, .int .u8 0, .int .u8 0, .int .u8 0, .int .u8 0, .int .u8 0, .int .u8 0, .int .u8 0, .int .u8 0, .int .u8 0, .int .u8 0, .int .u8 0, .int .u8 0, .int .u8 0, .int .u8 0, .int .u8 0, .int .u8 0, .int .u8 0, .int .u8 0, .int .u8 0, .int .u8 0, .int .u8 0, .int .u8 0, .int .u8 0, .int .u8 0, .int .u8 0, .int .u8 0, .int .u8 0, .int .u8 0, .int .u8 0, .int .u8 0, .int .u8 0, .int .u8 0, .int .u8 0, .int .u8 0, .int .u8 0, .int .u8 0, .int .u8 0, .int .u8 0, .int .u8 0, .int .u8 0], by kernel_rfl, by kernel_rfl⟩, (by kernel_rfl : Tryd.prog.underlying 91 = some (.array 64 5))⟩
def tys : List (TypeId × TI) := [(3, ⟨.int .i64, 1, 8, some (.int .i64), [.int .i64 0]⟩), (4, ⟨.bool, 1, 1, some .bool, [.bool false]⟩), (5, ⟨.int .u8, 1, 1, some (.int .u8), [.int .u8 0]⟩), (22, ⟨.slice 5, 1, 24, some (.list (.int .u8)), [.slice none 0 0]⟩), (23, ⟨.slice 3, 1, 24, some (.list (.int .i64)), [.slice none 0 0]⟩), (37, ⟨.slice 23, 1, 24, some (.list (.list (.int .i64))), [.slice none 0 0]⟩), (46, ⟨.int .u64, 1, 8, some (.int .u64), [.int .u64 0]⟩), (47, ⟨.slice 46, 1, 24, some (.list (.int .u64)), [.slice none 0 0]⟩), (54, ⟨.strct [(0, 23), (1, 3), (2, 3)], 3, 40, some (.pair (.list (.int .i64)) (.pair (.int .i64) (.pair (.int .i64) .unit))), [.slice none 0 0, .int .i64 0, .int .i64 0]⟩), (62, ⟨.strct [(0, 3), (1, 3)], 2, 16, some (.pair (.int .i64) (.pair (.int .i64) .unit)), [.int .i64 0, .int .i64 0]⟩), (63, ⟨.slice 62, 1, 24, some (.list (.pair (.int .i64) (.pair (.int .i64) .unit))), [.slice none 0 0]⟩), (74, ⟨.strct [(0, 22), (1, 3)], 2, 32, some (.pair (.list (.int .u8)) (.pair (.int .i64) .unit)), [.slice none 0 0, .int .i64 0]⟩), (88, ⟨.int .u64, 1, 8, some (.int .u64), [.int .u64 0]⟩), (89, ⟨.arr 9 4, 9, 9, none, [.bool false, .bool false, .bool false, .bool false, .bool false, .bool false, .bool false, .bool false, .bool false]⟩), (91, ⟨.arr 64 5, 64, 64, none, [.int .u8 0, .int .u8 0, .int .u8 0, .int .u8 0, .int .u8 0, .int .u8 0, .int .u8 0, .int .u8 0, .int .u8 0, .int .u8 0, .int .u8 0, .int .u8 0, .int .u8 0, .int .u8 0, .int .u8 0, .int .u8 0, .int .u8 0, .int .u8 0, .int .u8 0, .int .u8 0, .int .u8 0, .int .u8 0, .int .u8 0, .int .u8 0, .int .u8 0, .int .u8 0, .int .u8 0, .int .u8 0, .int .u8 0, .int .u8 0, .int .u8 0, .int .u8 0, .int .u8 0, .int .u8 0, .int .u8 0, .int .u8 0, .int .u8 0, .int .u8 0, .int .u8 0, .int .u8 0, .int .u8 0, .int .u8 0, .int .u8 0, .int .u8 0, .int .u8 0, .int .u8 0, .int .u8 0, .int .u8 0, .int .u8 0, .int .u8 0, .int .u8 0, .int .u8 0, .int .u8 0, .int .u8 0, .int .u8 0, .int .u8 0, .int .u8 0, .int .u8 0, .int .u8 0, .int .u8 0, .int .u8 0, .int .u8 0, .int .u8 0, .int .u8 0]⟩)]
theorem tys_ok : TOk Tryd.prog (tlook tys) := tok_of (List.forall_mem_cons.2 ⟨ty3, List.forall_mem_cons.2 ⟨ty4, List.forall_mem_cons.2 ⟨ty5, List.forall_mem_cons.2 ⟨ty22, List.forall_mem_cons.2 ⟨ty23, List.forall_mem_cons.2 ⟨ty37, List.forall_mem_cons.2 ⟨ty46, List.forall_mem_cons.2 ⟨ty47, List.forall_mem_cons.2 ⟨ty54, List.forall_mem_cons.2 ⟨ty62, List.forall_mem_cons.2 ⟨ty63, List.forall_mem_cons.2 ⟨ty74, List.forall_mem_cons.2 ⟨ty88, List.forall_mem_cons.2 ⟨ty89, List.forall_mem_cons.2 ⟨ty91, by simp⟩⟩⟩⟩⟩⟩⟩⟩⟩⟩⟩⟩⟩⟩⟩)
def ioF (f : FuncId) (i : Nat) : Bool := [(71, 0), (88, 1)].any fun (p : Nat × Nat) => Nat.beq p.1 f && Nat.beq p.2 i


/-! loop.example/headtrees/spec.l20Open -/

def spec_l20Open_an : Ann := (.seq (.leaf [0]) (.seq (.seq (.leaf [0, 5]) (.cond (.leaf [0]) (.leaf [0]))) (.seq (.leaf [2]) (.leaf [2]))))

noncomputable def spec_l20Open_ctx : Ctx := ⟨tlook tys, olook [], ioF, 0, false⟩

theorem spec_l20Open_n1_l (x13 : List Int) : Link spec_l20Open_ctx LL (bodyOf Tryd.f39) spec_l20Open_an (⟨mkE 11 0 [(0, .dat (.list (.int .u8)) x13)], []⟩ : St) (spec_l20Open_n1 x13) (fun (t : (List Int)) => (Exit.ret, (⟨mkE 11 0 [(2, .ptr 0 0)], [some (.box [.dat (.list (.int .u8)) t, .dat (.int .i64) 0])]⟩ : St))) := by
  refine Link.of fun K h => ?_
  simp only [spec_l20Open_n1, wpO_bind, wpO_cond, wpO_map, wpO_some] at h
  exact Awp.of (by kernel_rfl) h

theorem spec_l20Open_e (x13 : List Int) {r : AV} {H' : Heap} (h : (Ans.mk _ (spec_l20Open x13) (fun (t : (List Int)) => (.ptr 0 0, [some (.box [.dat (.list (.int .u8)) t, .dat (.int .i64) 0])]))).run = some (r, H')) : Awp spec_l20Open_ctx LL (bodyOf Tryd.f39) spec_l20Open_an (⟨mkE 11 0 [(0, .dat (.list (.int .u8)) x13)], []⟩ : St) (Ret (tlook tys) Tryd.f39.results.toList r H') :=
  ret_of' (spec_l20Open_n1_l x13) (by unfold spec_l20Open; kernel_rfl) (by
  intro t
  exact ret_mk [.ptr 0 0] (by kernel_rfl) (by kernel_rfl) (by kernel_rfl) (by kernel_rfl)) h

def F_spec_l20Open : Fun := fun avs H =>
  match avs, H with
  | [.dat (.list (.int .u8)) x13], [] => ⟨_, spec_l20Open x13, fun (t : (List Int)) => (.ptr 0 0, [some (.box [.dat (.list (.int .u8)) t, .dat (.int .i64) 0])])⟩
  | _, _ => Ans.no

theorem spec_l20Open_sound : Sound Tryd.prog 39 F_spec_l20Open := by
  refine fn_sound' (C := spec_l20Open_ctx) (c := bodyOf Tryd.f39) (cok_of tys_ok (by simp) (by simp) (by kernel_rfl)) Tryd.func39 (by kernel_rfl) LL spec_l20Open_an ?_
  intro avs H r H' h
  unfold F_spec_l20Open at h
  split at h
  · refine Awp.cast ?_ ?_ ?_ (spec_l20Open_e _ h) <;> kernel_rfl
  · simp [Ans.no, Ans.run] at h


/-! (*loop.example/headtrees/spec.l20Rd).pick -/

def spec_l20Rd_pick_an : Ann := (.seq (.leaf [0, 1]) (.seq (.leaf [0, 1]) (.seq (.seq (.leaf [0, 1, 24]) (.cond (.seq (.leaf [4]) (.leaf [4])) (.leaf [0, 1]))) (.seq (.leaf [0, 1, 5]) (.seq (.seq (.leaf [0, 1, 5, 36]) (.cond (.seq (.leaf [4]) (.leaf [4])) (.leaf [0, 1, 5]))) (.seq (.draw [] [0, 1, 2, 3, 4, 5, 6, 7, 8, 9, 10, 11, 12, 13, 14, 15, 16, 17, 18, 19, 20, 21, 22, 23, 24, 25, 26, 27, 28, 29, 30, 31, 32, 33, 34, 35, 36, 37, 38, 39, 40, 41, 42, 43, 44, 45] [] [1, 6]) (.seq (.leaf [1, 6]) (.seq (.leaf [4]) (.leaf [4])))))))))

noncomputable def spec_l20Rd_pick_ctx : Ctx := ⟨tlook tys, olook [], ioF, 1, false⟩

theorem spec_l20Rd_pick_n1_l (x42 : Int) (x43 : List Int) (x44 : Int) : Link spec_l20Rd_pick_ctx LL (bodyOf Tryd.f41) spec_l20Rd_pick_an (⟨mkE 99 0 [(0, .ptr 0 0), (1, .dat (.int .i64) x42)], [some (.box [.dat (.list (.int .u8)) x43, .dat (.int .i64) x44])]⟩ : St) (spec_l20Rd_pick_n1 x42 x43 x44) (fun (t : Int × Int) => (Exit.ret, (⟨mkE 99 0 [(4, .dat (.int .i64) t.1)], [some (.box [.dat (.list (.int .u8)) x43, .dat (.int .i64) t.2])]⟩ : St))) := by
  refine Link.of fun K h => ?_
  simp only [spec_l20Rd_pick_n1, wpO_bind, wpO_cond, wpO_map, wpO_some] at h
  exact Awp.of (by kernel_rfl) h

theorem spec_l20Rd_pick_e (x42 : Int) (x43 : List Int) (x44 : Int) {r : AV} {H' : Heap} (h : (Ans.mk _ (spec_l20Rd_pick x42 x43 x44) (fun (t : Int × Int) => (.dat (.int .i64) t.1, [some (.box [.dat (.list (.int .u8)) x43, .dat (.int .i64) t.2])]))).run = some (r, H')) : Awp spec_l20Rd_pick_ctx LL (bodyOf Tryd.f41) spec_l20Rd_pick_an (⟨mkE 99 0 [(0, .ptr 0 0), (1, .dat (.int .i64) x42)], [some (.box [.dat (.list (.int .u8)) x43, .dat (.int .i64) x44])]⟩ : St) (Ret (tlook tys) Tryd.f41.results.toList r H') :=
  ret_of' (spec_l20Rd_pick_n1_l x42 x43 x44) (by unfold spec_l20Rd_pick; kernel_rfl) (by
  intro t
  exact ret_mk [.dat (.int .i64) t.1] (by kernel_rfl) (by kernel_rfl) (by kernel_rfl) (by kernel_rfl)) h

def F_spec_l20Rd_pick : Fun := fun avs H =>
  match avs, H with
  | [.ptr 0 0, .dat (.int .i64) x42], [some (.box [.dat (.list (.int .u8)) x43, .dat (.int .i64) x44])] => ⟨_, spec_l20Rd_pick x42 x43 x44, fun (t : Int × Int) => (.dat (.int .i64) t.1, [some (.box [.dat (.list (.int .u8)) x43, .dat (.int .i64) t.2])])⟩
  | _, _ => Ans.no

theorem spec_l20Rd_pick_sound : Sound Tryd.prog 41 F_spec_l20Rd_pick := by
  refine fn_sound' (C := spec_l20Rd_pick_ctx) (c := bodyOf Tryd.f41) (cok_of tys_ok (by simp) (by simp) (by kernel_rfl)) Tryd.func41 (by kernel_rfl) LL spec_l20Rd_pick_an ?_
  intro avs H r H' h
  unfold F_spec_l20Rd_pick at h
  split at h
  · refine Awp.cast ?_ ?_ ?_ (spec_l20Rd_pick_e _ _ _ h) <;> kernel_rfl
  · simp [Ans.no, Ans.run] at h


/-! loop.example/headtrees/spec.l20Order -/

def spec_l20Order_an : Ann := (.seq (.leaf [0, 1]) (.seq (.leaf [0, 1, 5]) (.seq (.leaf [0, 1, 5, 6]) (.seq (.seq (.leaf [0, 1, 5, 6, 7]) (.block (.loop (.seq (.seq (.leaf [0, 1, 5, 6, 7, 15]) (.cond (.leaf [0, 1, 5, 6, 7]) (.leaf [5]))) (.seq (.block (.seq (.leaf [0, 1, 5, 6, 7, 8]) (.seq (.seq (.leaf [0, 1, 5, 6, 7, 8, 26]) (.cond (.leaf [0, 1, 5, 6, 7, 8]) (.leaf [0, 1, 5, 6, 7, 8]))) (.seq (.leaf [0, 1, 5, 6, 7, 8, 9]) (.seq (.leaf [0, 1, 5, 6, 7, 8, 9]) (.leaf [0, 1, 5, 6, 7])))))) (.leaf [0, 1, 5, 6, 7])))))) (.seq (.leaf [4]) (.leaf [4]))))))

noncomputable def spec_l20Order_ctx : Ctx := ⟨tlook tys, olook [(41, F_spec_l20Rd_pick)], ioF, 1, false⟩

theorem spec_l20Order_n1_l (x205 : Int) (x206 : List Int) (x207 : Int) : Link spec_l20Order_ctx LL (Code.seq (Code.fst (bodyOf Tryd.f69)) (Code.seq (Code.fst (Code.snd (bodyOf Tryd.f69))) (Code.fst (Code.snd (Code.snd (bodyOf Tryd.f69)))))) (Ann.seq (Ann.fst spec_l20Order_an) (Ann.seq (Ann.fst (Ann.snd spec_l20Order_an)) (Ann.fst (Ann.snd (Ann.snd spec_l20Order_an))))) (⟨mkE 45 0 [(0, .ptr 0 0), (1, .dat (.int .i64) x205)], [some (.box [.dat (.list (.int .u8)) x206, .dat (.int .i64) x207])]⟩ : St) (spec_l20Order_n1 x206 x207) (fun (t : Int × Int) => (Exit.normal, (⟨mkE 45 0 [(0, .ptr 0 0), (1, .dat (.int .i64) x205), (5, .slc 1), (6, .dat (.int .i64) t.1)], [some (.box [.dat (.list (.int .u8)) x206, .dat (.int .i64) t.2]), some (.seq (.int .i64) ([] : List Int))]⟩ : St))) := by
  refine Link.of fun K h => ?_
  simp only [spec_l20Order_n1, wpO_bind, wpO_cond, wpO_map, wpO_some] at h
  exact Awp.of (by kernel_rfl) h

theorem spec_l20Order_n2_l (x205 : Int) (x210 : Int) (x206 : List Int) (x211 : Int) : Link spec_l20Order_ctx LL (Code.fst (Code.fst (Code.snd (Code.snd (Code.snd (bodyOf Tryd.f69)))))) (Ann.fst (Ann.fst (Ann.snd (Ann.snd (Ann.snd spec_l20Order_an))))) (⟨mkE 45 0 [(0, .ptr 0 0), (1, .dat (.int .i64) x205), (5, .slc 1), (6, .dat (.int .i64) x210)], [some (.box [.dat (.list (.int .u8)) x206, .dat (.int .i64) x211]), some (.seq (.int .i64) ([] : List Int))]⟩ : St) (spec_l20Order_n2) (fun (t : Unit) => (Exit.normal, (⟨mkE 45 0 [(0, .ptr 0 0), (1, .dat (.int .i64) x205), (5, .slc 1), (6, .dat (.int .i64) x210), (7, .dat (.int .i64) 1)], [some (.box [.dat (.list (.int .u8)) x206, .dat (.int .i64) x211]), some (.seq (.int .i64) ([] : List Int))]⟩ : St))) := by
  refine Link.of fun K h => ?_
  simp only [spec_l20Order_n2, wpO_bind, wpO_cond, wpO_map, wpO_some] at h
  exact Awp.of (by kernel_rfl) h

theorem spec_l20Order_n3_l (x205 : Int) (x210 : Int) (x353 : Int) (x206 : List Int) (x354 : Int) (x355 : List Int) : Link spec_l20Order_ctx LL (Code.fst (Code.fst (Code.snd (Code.fst (Code.snd (Code.snd (Code.snd (bodyOf Tryd.f69)))))))) (Ann.fst (Ann.fst (Ann.snd (Ann.fst (Ann.snd (Ann.snd (Ann.snd spec_l20Order_an))))))) (⟨mkE 45 0 [(0, .ptr 0 0), (1, .dat (.int .i64) x205), (5, .slc 1), (6, .dat (.int .i64) x210), (7, .dat (.int .i64) x353)], [some (.box [.dat (.list (.int .u8)) x206, .dat (.int .i64) x354]), some (.seq (.int .i64) x355)]⟩ : St) (spec_l20Order_n3 x205 x210 x353 x206 x354 x355) (Sum.elim (fun (t : Int × Int × (List Int)) => (Exit.normal, (⟨mkE 45 0 [(0, .ptr 0 0), (1, .dat (.int .i64) x205), (5, .slc 1), (6, .dat (.int .i64) x210), (7, .dat (.int .i64) t.1)], [some (.box [.dat (.list (.int .u8)) x206, .dat (.int .i64) t.2.1]), some (.seq (.int .i64) t.2.2)]⟩ : St))) (fun (t : Int × (List Int)) => ((Exit.exit 0), (⟨mkE 45 0 [(5, .slc 1)], [some (.box [.dat (.list (.int .u8)) x206, .dat (.int .i64) t.1]), some (.seq (.int .i64) t.2)]⟩ : St)))) := by
  refine Link.of fun K h => ?_
  simp only [spec_l20Order_n3, wpO_bind, wpO_cond, wpO_map, wpO_some] at h
  exact Awp.of (by kernel_rfl) h

theorem spec_l20Order_n4_l (x205 : Int) (x210 : Int) (x206 : List Int) (x211 : Int) : Link spec_l20Order_ctx LL (Code.fst (Code.snd (Code.fst (Code.snd (Code.snd (Code.snd (bodyOf Tryd.f69))))))) (Ann.fst (Ann.snd (Ann.fst (Ann.snd (Ann.snd (Ann.snd spec_l20Order_an)))))) (⟨mkE 45 0 [(0, .ptr 0 0), (1, .dat (.int .i64) x205), (5, .slc 1), (6, .dat (.int .i64) x210), (7, .dat (.int .i64) 1)], [some (.box [.dat (.list (.int .u8)) x206, .dat (.int .i64) x211]), some (.seq (.int .i64) ([] : List Int))]⟩ : St) (spec_l20Order_n4 x205 x210 x206 x211) (fun (t : Int × (List Int)) => ((Exit.exit 0), (⟨mkE 45 0 [(5, .slc 1)], [some (.box [.dat (.list (.int .u8)) x206, .dat (.int .i64) t.1]), some (.seq (.int .i64) t.2)]⟩ : St))) := by
  unfold spec_l20Order_n4
  exact Link.cast (by kernel_rfl) (by kernel_rfl) (link_loop (mk := fun (s : Int × Int × (List Int)) => (⟨mkE 45 0 [(0, .ptr 0 0), (1, .dat (.int .i64) x205), (5, .slc 1), (6, .dat (.int .i64) x210), (7, .dat (.int .i64) s.1)], [some (.box [.dat (.list (.int .u8)) x206, .dat (.int .i64) s.2.1]), some (.seq (.int .i64) s.2.2)]⟩ : St)) (fin := (fun (t : Int × (List Int)) => ((Exit.exit 0), (⟨mkE 45 0 [(5, .slc 1)], [some (.box [.dat (.list (.int .u8)) x206, .dat (.int .i64) t.1]), some (.seq (.int .i64) t.2)]⟩ : St)))) (by
  rintro t f K h
  · exact h) (fun s => link_map (spec_l20Order_n3_l x205 x210 s.1 x206 s.2.1 s.2.2) (Sum.elim (fun (t : Int × Int × (List Int)) => Sum.inl (t.1, t.2.1, t.2.2)) (fun (t : Int × (List Int)) => Sum.inr t)) (by
  rintro (t | t)
  · kernel_rfl
  · kernel_rfl)) (1, x211, ([] : List Int)))

theorem spec_l20Order_n5_l (x205 : Int) (x210 : Int) (x206 : List Int) (x211 : Int) : Link spec_l20Order_ctx LL (Code.snd (Code.fst (Code.snd (Code.snd (Code.snd (bodyOf Tryd.f69)))))) (Ann.snd (Ann.fst (Ann.snd (Ann.snd (Ann.snd spec_l20Order_an))))) (⟨mkE 45 0 [(0, .ptr 0 0), (1, .dat (.int .i64) x205), (5, .slc 1), (6, .dat (.int .i64) x210), (7, .dat (.int .i64) 1)], [some (.box [.dat (.list (.int .u8)) x206, .dat (.int .i64) x211]), some (.seq (.int .i64) ([] : List Int))]⟩ : St) (spec_l20Order_n5 x205 x210 x206 x211) (fun (t : Int × (List Int)) => (Exit.normal, (⟨mkE 45 0 [(5, .slc 1)], [some (.box [.dat (.list (.int .u8)) x206, .dat (.int .i64) t.1]), some (.seq (.int .i64) t.2)]⟩ : St))) := by
  unfold spec_l20Order_n5
  exact Link.cast (by kernel_rfl) (by kernel_rfl) (link_block (id := 0) (spec_l20Order_n4_l x205 x210 x206 x211) (fun (t : Int × (List Int)) => (t.1, t.2)) (by
  rintro t K h
  · exact Eq.mp (by kernel_rfl) h))

theorem spec_l20Order_n6_l (x205 : Int) (x210 : Int) (x206 : List Int) (x211 : Int) : Link spec_l20Order_ctx LL (Code.fst (Code.snd (Code.snd (Code.snd (bodyOf Tryd.f69))))) (Ann.fst (Ann.snd (Ann.snd (Ann.snd spec_l20Order_an)))) (⟨mkE 45 0 [(0, .ptr 0 0), (1, .dat (.int .i64) x205), (5, .slc 1), (6, .dat (.int .i64) x210)], [some (.box [.dat (.list (.int .u8)) x206, .dat (.int .i64) x211]), some (.seq (.int .i64) ([] : List Int))]⟩ : St) (spec_l20Order_n6 x205 x210 x206 x211) (fun (t : Int × (List Int)) => (Exit.normal, (⟨mkE 45 0 [(5, .slc 1)], [some (.box [.dat (.list (.int .u8)) x206, .dat (.int .i64) t.1]), some (.seq (.int .i64) t.2)]⟩ : St))) := by
  unfold spec_l20Order_n6
  exact Link.cast (by kernel_rfl) (by kernel_rfl) (link_seq (b := (Code.snd (Code.fst (Code.snd (Code.snd (Code.snd (bodyOf Tryd.f69))))))) (y := (Ann.snd (Ann.fst (Ann.snd (Ann.snd (Ann.snd spec_l20Order_an)))))) (spec_l20Order_n2_l x205 x210 x206 x211) (fun (t : Unit) => (spec_l20Order_n5_l x205 x210 x206 x211)))

theorem spec_l20Order_n7_l (x206 : List Int) (x354 : Int) (x355 : List Int) : Link spec_l20Order_ctx LL (Code.snd (Code.snd (Code.snd (Code.snd (bodyOf Tryd.f69))))) (Ann.snd (Ann.snd (Ann.snd (Ann.snd spec_l20Order_an)))) (⟨mkE 45 0 [(5, .slc 1)], [some (.box [.dat (.list (.int .u8)) x206, .dat (.int .i64) x354]), some (.seq (.int .i64) x355)]⟩ : St) (spec_l20Order_n7 x354 x355) (fun (t : Int × (List Int)) => (Exit.ret, (⟨mkE 45 0 [(4, .slc 1)], [some (.box [.dat (.list (.int .u8)) x206, .dat (.int .i64) t.1]), some (.seq (.int .i64) t.2)]⟩ : St))) := by
  refine Link.of fun K h => ?_
  simp only [spec_l20Order_n7, wpO_bind, wpO_cond, wpO_map, wpO_some] at h
  exact Awp.of (by kernel_rfl) h

theorem spec_l20Order_n8_l (x205 : Int) (x210 : Int) (x206 : List Int) (x211 : Int) : Link spec_l20Order_ctx LL (Code.snd (Code.snd (Code.snd (bodyOf Tryd.f69)))) (Ann.snd (Ann.snd (Ann.snd spec_l20Order_an))) (⟨mkE 45 0 [(0, .ptr 0 0), (1, .dat (.int .i64) x205), (5, .slc 1), (6, .dat (.int .i64) x210)], [some (.box [.dat (.list (.int .u8)) x206, .dat (.int .i64) x211]), some (.seq (.int .i64) ([] : List Int))]⟩ : St) (spec_l20Order_n8 x205 x210 x206 x211) (fun (t : Int × (List Int)) => (Exit.ret, (⟨mkE 45 0 [(4, .slc 1)], [some (.box [.dat (.list (.int .u8)) x206, .dat (.int .i64) t.1]), some (.seq (.int .i64) t.2)]⟩ : St))) := by
  unfold spec_l20Order_n8
  exact Link.cast (by kernel_rfl) (by kernel_rfl) (link_seq (b := (Code.snd (Code.snd (Code.snd (Code.snd (bodyOf Tryd.f69)))))) (y := (Ann.snd (Ann.snd (Ann.snd (Ann.snd spec_l20Order_an))))) (spec_l20Order_n6_l x205 x210 x206 x211) (fun (t : Int × (List Int)) => (spec_l20Order_n7_l x206 t.1 t.2)))

theorem spec_l20Order_n9_l (x205 : Int) (x206 : List Int) (x207 : Int) : Link spec_l20Order_ctx LL (bodyOf Tryd.f69) spec_l20Order_an (⟨mkE 45 0 [(0, .ptr 0 0), (1, .dat (.int .i64) x205)], [some (.box [.dat (.list (.int .u8)) x206, .dat (.int .i64) x207])]⟩ : St) (spec_l20Order_n9 x205 x206 x207) (fun (t : Int × (List Int)) => (Exit.ret, (⟨mkE 45 0 [(4, .slc 1)], [some (.box [.dat (.list (.int .u8)) x206, .dat (.int .i64) t.1]), some (.seq (.int .i64) t.2)]⟩ : St))) := by
  unfold spec_l20Order_n9
  exact Link.cast (by kernel_rfl) (by kernel_rfl) (link_group (c := (Code.fst (Code.snd (Code.snd (bodyOf Tryd.f69))))) (a := (Ann.fst (Ann.snd (Ann.snd spec_l20Order_an)))) [(Code.fst (bodyOf Tryd.f69)), (Code.fst (Code.snd (bodyOf Tryd.f69)))] [(Ann.fst spec_l20Order_an), (Ann.fst (Ann.snd spec_l20Order_an))] rfl (link_seq (b := (Code.snd (Code.snd (Code.snd (bodyOf Tryd.f69))))) (y := (Ann.snd (Ann.snd (Ann.snd spec_l20Order_an)))) (spec_l20Order_n1_l x205 x206 x207) (fun (t : Int × Int) => (spec_l20Order_n8_l x205 t.1 x206 t.2))))

theorem spec_l20Order_e (x205 : Int) (x206 : List Int) (x207 : Int) {r : AV} {H' : Heap} (h : (Ans.mk _ (spec_l20Order x205 x206 x207) (fun (t : Int × (List Int)) => (.slc 1, [some (.box [.dat (.list (.int .u8)) x206, .dat (.int .i64) t.1]), some (.seq (.int .i64) t.2)]))).run = some (r, H')) : Awp spec_l20Order_ctx LL (bodyOf Tryd.f69) spec_l20Order_an (⟨mkE 45 0 [(0, .ptr 0 0), (1, .dat (.int .i64) x205)], [some (.box [.dat (.list (.int .u8)) x206, .dat (.int .i64) x207])]⟩ : St) (Ret (tlook tys) Tryd.f69.results.toList r H') :=
  ret_of' (spec_l20Order_n9_l x205 x206 x207) (by unfold spec_l20Order; kernel_rfl) (by
  intro t
  exact ret_mk [.slc 1] (by kernel_rfl) (by kernel_rfl) (by kernel_rfl) (by kernel_rfl)) h

def F_spec_l20Order : Fun := fun avs H =>
  match avs, H with
  | [.ptr 0 0, .dat (.int .i64) x205], [some (.box [.dat (.list (.int .u8)) x206, .dat (.int .i64) x207])] => ⟨_, spec_l20Order x205 x206 x207, fun (t : Int × (List Int)) => (.slc 1, [some (.box [.dat (.list (.int .u8)) x206, .dat (.int .i64) t.1]), some (.seq (.int .i64) t.2)])⟩
  | _, _ => Ans.no

theorem spec_l20Order_sound : Sound Tryd.prog 69 F_spec_l20Order := by
  refine fn_sound' (C := spec_l20Order_ctx) (c := bodyOf Tryd.f69) (cok_of tys_ok (List.forall_mem_cons.2 ⟨spec_l20Rd_pick_sound, by simp⟩) (List.forall_mem_cons.2 ⟨Tryd.call41, by simp⟩) (by kernel_rfl)) Tryd.func69 (by kernel_rfl) LL spec_l20Order_an ?_
  intro avs H r H' h
  unfold F_spec_l20Order at h
  split at h
  · refine Awp.cast ?_ ?_ ?_ (spec_l20Order_e _ _ _ h) <;> kernel_rfl
  · simp [Ans.no, Ans.run] at h


/-! (*loop.example/headtrees/spec.l20Rd).odd -/

def spec_l20Rd_odd_an : Ann := (.seq (.leaf [0, 1]) (.seq (.leaf [4]) (.leaf [4])))

noncomputable def spec_l20Rd_odd_ctx : Ctx := ⟨tlook tys, olook [(41, F_spec_l20Rd_pick)], ioF, 1, false⟩

theorem spec_l20Rd_odd_n1_l (x662 : Int) (x663 : List Int) (x664 : Int) : Link spec_l20Rd_odd_ctx LL (bodyOf Tryd.f86) spec_l20Rd_odd_an (⟨mkE 15 0 [(0, .ptr 0 0), (1, .dat (.int .i64) x662)], [some (.box [.dat (.list (.int .u8)) x663, .dat (.int .i64) x664])]⟩ : St) (spec_l20Rd_odd_n1 x662 x663 x664) (fun (t : Bool × Int) => (Exit.ret, (⟨mkE 15 0 [(4, .dat .bool t.1)], [some (.box [.dat (.list (.int .u8)) x663, .dat (.int .i64) t.2])]⟩ : St))) := by
  refine Link.of fun K h => ?_
  simp only [spec_l20Rd_odd_n1, wpO_bind, wpO_cond, wpO_map, wpO_some] at h
  exact Awp.of (by kernel_rfl) h

theorem spec_l20Rd_odd_e (x662 : Int) (x663 : List Int) (x664 : Int) {r : AV} {H' : Heap} (h : (Ans.mk _ (spec_l20Rd_odd x662 x663 x664) (fun (t : Bool × Int) => (.dat .bool t.1, [some (.box [.dat (.list (.int .u8)) x663, .dat (.int .i64) t.2])]))).run = some (r, H')) : Awp spec_l20Rd_odd_ctx LL (bodyOf Tryd.f86) spec_l20Rd_odd_an (⟨mkE 15 0 [(0, .ptr 0 0), (1, .dat (.int .i64) x662)], [some (.box [.dat (.list (.int .u8)) x663, .dat (.int .i64) x664])]⟩ : St) (Ret (tlook tys) Tryd.f86.results.toList r H') :=
  ret_of' (spec_l20Rd_odd_n1_l x662 x663 x664) (by unfold spec_l20Rd_odd; kernel_rfl) (by
  intro t
  exact ret_mk [.dat .bool t.1] (by kernel_rfl) (by kernel_rfl) (by kernel_rfl) (by kernel_rfl)) h

def F_spec_l20Rd_odd : Fun := fun avs H =>
  match avs, H with
  | [.ptr 0 0, .dat (.int .i64) x662], [some (.box [.dat (.list (.int .u8)) x663, .dat (.int .i64) x664])] => ⟨_, spec_l20Rd_odd x662 x663 x664, fun (t : Bool × Int) => (.dat .bool t.1, [some (.box [.dat (.list (.int .u8)) x663, .dat (.int .i64) t.2])])⟩
  | _, _ => Ans.no

theorem spec_l20Rd_odd_sound : Sound Tryd.prog 86 F_spec_l20Rd_odd := by
  refine fn_sound' (C := spec_l20Rd_odd_ctx) (c := bodyOf Tryd.f86) (cok_of tys_ok (List.forall_mem_cons.2 ⟨spec_l20Rd_pick_sound, by simp⟩) (List.forall_mem_cons.2 ⟨Tryd.call41, by simp⟩) (by kernel_rfl)) Tryd.func86 (by kernel_rfl) LL spec_l20Rd_odd_an ?_
  intro avs H r H' h
  unfold F_spec_l20Rd_odd at h
  split at h
  · refine Awp.cast ?_ ?_ ?_ (spec_l20Rd_odd_e _ _ _ h) <;> kernel_rfl
  · simp [Ans.no, Ans.run] at h


/-! loop.example/headtrees/spec.l20Tree -/

def spec_l20Tree_an : Ann := (.seq (.leaf [0, 1]) (.seq (.leaf [0, 1, 5]) (.seq (.leaf [0, 1, 5, 6]) (.seq (.leaf [0, 1, 5, 6, 7]) (.seq (.leaf [0, 1, 5, 6, 7, 8]) (.seq (.seq (.leaf [0, 1, 5, 6, 7, 8, 9]) (.block (.loop (.seq (.seq (.leaf [0, 1, 5, 6, 7, 8, 9, 23]) (.cond (.leaf [0, 1, 5, 6, 7, 8, 9]) (.leaf [0, 1, 5, 7]))) (.seq (.block (.seq (.leaf [0, 1, 5, 6, 7, 8, 9, 10]) (.seq (.seq (.leaf [0, 1, 5, 6, 7, 8, 9, 10, 35]) (.cond (.leaf [0, 1, 5, 6, 7, 8, 9, 10]) (.leaf [0, 1, 5, 6, 7, 8, 9, 10]))) (.draw [] [0, 1, 2, 3, 4, 5, 6, 7, 8, 9, 10, 11] [] [0, 1, 5, 6, 7, 8, 9])))) (.leaf [0, 1, 5, 6, 7, 8, 9])))))) (.seq (.seq (.leaf [0, 5, 7, 51]) (.cond (.seq (.leaf [0, 5, 7, 53]) (.block (.seq (.leaf [0, 5, 7, 53, 63]) (.cond (.seq (.leaf [4]) (.leaf [4])) (.seq (.leaf [0, 5, 7, 53, 66]) (.cond (.seq (.leaf [4]) (.leaf [4])) (.seq (.leaf [0, 5, 7, 69]) (.cond (.seq (.leaf [7]) (.seq (.leaf [4]) (.leaf [4]))) (.leaf [7]))))))))) (.leaf [7]))) (.seq (.leaf [4]) (.leaf [4])))))))))

noncomputable def spec_l20Tree_ctx : Ctx := ⟨tlook tys, olook [(41, F_spec_l20Rd_pick), (69, F_spec_l20Order), (86, F_spec_l20Rd_odd)], ioF, 1, false⟩

theorem spec_l20Tree_n1_l (x38 : Int) (x39 : List Int) (x40 : Int) : Link spec_l20Tree_ctx LL (Code.seq (Code.fst (bodyOf Tryd.f67)) (Code.seq (Code.fst (Code.snd (bodyOf Tryd.f67))) (Code.seq (Code.fst (Code.snd (Code.snd (bodyOf Tryd.f67)))) (Code.seq (Code.fst (Code.snd (Code.snd (Code.snd (bodyOf Tryd.f67))))) (Code.fst (Code.snd (Code.snd (Code.snd (Code.snd (bodyOf Tryd.f67)))))))))) (Ann.seq (Ann.fst spec_l20Tree_an) (Ann.seq (Ann.fst (Ann.snd spec_l20Tree_an)) (Ann.seq (Ann.fst (Ann.snd (Ann.snd spec_l20Tree_an))) (Ann.seq (Ann.fst (Ann.snd (Ann.snd (Ann.snd spec_l20Tree_an)))) (Ann.fst (Ann.snd (Ann.snd (Ann.snd (Ann.snd spec_l20Tree_an))))))))) (⟨mkE 80 0 [(0, .ptr 0 0), (1, .dat (.int .i64) x38)], [some (.box [.dat (.list (.int .u8)) x39, .dat (.int .i64) x40])]⟩ : St) (spec_l20Tree_n1 x39 x40) (fun (t : Int × Int × Int × (List Int) × (List Int)) => (Exit.normal, (⟨mkE 80 0 [(0, .ptr 0 0), (1, .dat (.int .i64) x38), (5, .dat (.int .i64) t.1), (6, .slc 1), (7, .slc 2), (8, .dat (.int .i64) t.2.1)], [some (.box [.dat (.list (.int .u8)) x39, .dat (.int .i64) t.2.2.1]), some (.seq (.int .i64) t.2.2.2.1), some (.seq (.int .i64) t.2.2.2.2)]⟩ : St))) := by
  refine Link.of fun K h => ?_
  simp only [spec_l20Tree_n1, wpO_bind, wpO_cond, wpO_map, wpO_some] at h
  exact Awp.of (by kernel_rfl) h

theorem spec_l20Tree_n2_l (x38 : Int) (x512 : Int) (x519 : Int) (x39 : List Int) (x520 : Int) (x515 : List Int) (x517 : List Int) : Link spec_l20Tree_ctx LL (Code.fst (Code.fst (Code.snd (Code.snd (Code.snd (Code.snd (Code.snd (bodyOf Tryd.f67)))))))) (Ann.fst (Ann.fst (Ann.snd (Ann.snd (Ann.snd (Ann.snd (Ann.snd spec_l20Tree_an))))))) (⟨mkE 80 0 [(0, .ptr 0 0), (1, .dat (.int .i64) x38), (5, .dat (.int .i64) x512), (6, .slc 1), (7, .slc 2), (8, .dat (.int .i64) x519)], [some (.box [.dat (.list (.int .u8)) x39, .dat (.int .i64) x520]), some (.seq (.int .i64) x515), some (.seq (.int .i64) x517)]⟩ : St) (spec_l20Tree_n2) (fun (t : Unit) => (Exit.normal, (⟨mkE 80 0 [(0, .ptr 0 0), (1, .dat (.int .i64) x38), (5, .dat (.int .i64) x512), (6, .slc 1), (7, .slc 2), (8, .dat (.int .i64) x519), (9, .dat (.int .i64) 1)], [some (.box [.dat (.list (.int .u8)) x39, .dat (.int .i64) x520]), some (.seq (.int .i64) x515), some (.seq (.int .i64) x517)]⟩ : St))) := by
  refine Link.of fun K h => ?_
  simp only [spec_l20Tree_n2, wpO_bind, wpO_cond, wpO_map, wpO_some] at h
  exact Awp.of (by kernel_rfl) h

theorem spec_l20Tree_n3_l (x38 : Int) (x512 : Int) (x519 : Int) (x590 : Int) (x39 : List Int) (x591 : Int) (x515 : List Int) (x592 : List Int) : Link spec_l20Tree_ctx LL (Code.fst (Code.fst (Code.snd (Code.fst (Code.snd (Code.snd (Code.snd (Code.snd (Code.snd (bodyOf Tryd.f67)))))))))) (Ann.fst (Ann.fst (Ann.snd (Ann.fst (Ann.snd (Ann.snd (Ann.snd (Ann.snd (Ann.snd spec_l20Tree_an))))))))) (⟨mkE 80 0 [(0, .ptr 0 0), (1, .dat (.int .i64) x38), (5, .dat (.int .i64) x512), (6, .slc 1), (7, .slc 2), (8, .dat (.int .i64) x519), (9, .dat (.int .i64) x590)], [some (.box [.dat (.list (.int .u8)) x39, .dat (.int .i64) x591]), some (.seq (.int .i64) x515), some (.seq (.int .i64) x592)]⟩ : St) (spec_l20Tree_n3 x512 x519 x590 x39 x591 x515 x592) (Sum.elim (fun (t : Int × Int × (List Int)) => (Exit.normal, (⟨mkE 80 0 [(0, .ptr 0 0), (1, .dat (.int .i64) x38), (5, .dat (.int .i64) x512), (6, .slc 1), (7, .slc 2), (8, .dat (.int .i64) x519), (9, .dat (.int .i64) t.1)], [some (.box [.dat (.list (.int .u8)) x39, .dat (.int .i64) t.2.1]), some (.seq (.int .i64) x515), some (.seq (.int .i64) t.2.2)]⟩ : St))) (fun (t : Int × (List Int)) => ((Exit.exit 0), (⟨mkE 80 0 [(0, .ptr 0 0), (1, .dat (.int .i64) x38), (5, .dat (.int .i64) x512), (7, .slc 1)], [some (.box [.dat (.list (.int .u8)) x39, .dat (.int .i64) t.1]), some (.seq (.int .i64) t.2)]⟩ : St)))) := by
  refine Link.of fun K h => ?_
  simp only [spec_l20Tree_n3, wpO_bind, wpO_cond, wpO_map, wpO_some] at h
  exact Awp.of (by kernel_rfl) h

theorem spec_l20Tree_n4_l (x38 : Int) (x512 : Int) (x519 : Int) (x39 : List Int) (x520 : Int) (x515 : List Int) (x517 : List Int) : Link spec_l20Tree_ctx LL (Code.fst (Code.snd (Code.fst (Code.snd (Code.snd (Code.snd (Code.snd (Code.snd (bodyOf Tryd.f67))))))))) (Ann.fst (Ann.snd (Ann.fst (Ann.snd (Ann.snd (Ann.snd (Ann.snd (Ann.snd spec_l20Tree_an)))))))) (⟨mkE 80 0 [(0, .ptr 0 0), (1, .dat (.int .i64) x38), (5, .dat (.int .i64) x512), (6, .slc 1), (7, .slc 2), (8, .dat (.int .i64) x519), (9, .dat (.int .i64) 1)], [some (.box [.dat (.list (.int .u8)) x39, .dat (.int .i64) x520]), some (.seq (.int .i64) x515), some (.seq (.int .i64) x517)]⟩ : St) (spec_l20Tree_n4 x512 x519 x39 x520 x515 x517) (fun (t : Int × (List Int)) => ((Exit.exit 0), (⟨mkE 80 0 [(0, .ptr 0 0), (1, .dat (.int .i64) x38), (5, .dat (.int .i64) x512), (7, .slc 1)], [some (.box [.dat (.list (.int .u8)) x39, .dat (.int .i64) t.1]), some (.seq (.int .i64) t.2)]⟩ : St))) := by
  unfold spec_l20Tree_n4
  exact Link.cast (by kernel_rfl) (by kernel_rfl) (link_loop (mk := fun (s : Int × Int × (List Int)) => (⟨mkE 80 0 [(0, .ptr 0 0), (1, .dat (.int .i64) x38), (5, .dat (.int .i64) x512), (6, .slc 1), (7, .slc 2), (8, .dat (.int .i64) x519), (9, .dat (.int .i64) s.1)], [some (.box [.dat (.list (.int .u8)) x39, .dat (.int .i64) s.2.1]), some (.seq (.int .i64) x515), some (.seq (.int .i64) s.2.2)]⟩ : St)) (fin := (fun (t : Int × (List Int)) => ((Exit.exit 0), (⟨mkE 80 0 [(0, .ptr 0 0), (1, .dat (.int .i64) x38), (5, .dat (.int .i64) x512), (7, .slc 1)], [some (.box [.dat (.list (.int .u8)) x39, .dat (.int .i64) t.1]), some (.seq (.int .i64) t.2)]⟩ : St)))) (by
  rintro t f K h
  · exact h) (fun s => link_map (spec_l20Tree_n3_l x38 x512 x519 s.1 x39 s.2.1 x515 s.2.2) (Sum.elim (fun (t : Int × Int × (List Int)) => Sum.inl (t.1, t.2.1, t.2.2)) (fun (t : Int × (List Int)) => Sum.inr t)) (by
  rintro (t | t)
  · kernel_rfl
  · kernel_rfl)) (1, x520, x517))

theorem spec_l20Tree_n5_l (x38 : Int) (x512 : Int) (x519 : Int) (x39 : List Int) (x520 : Int) (x515 : List Int) (x517 : List Int) : Link spec_l20Tree_ctx LL (Code.snd (Code.fst (Code.snd (Code.snd (Code.snd (Code.snd (Code.snd (bodyOf Tryd.f67)))))))) (Ann.snd (Ann.fst (Ann.snd (Ann.snd (Ann.snd (Ann.snd (Ann.snd spec_l20Tree_an))))))) (⟨mkE 80 0 [(0, .ptr 0 0), (1, .dat (.int .i64) x38), (5, .dat (.int .i64) x512), (6, .slc 1), (7, .slc 2), (8, .dat (.int .i64) x519), (9, .dat (.int .i64) 1)], [some (.box [.dat (.list (.int .u8)) x39, .dat (.int .i64) x520]), some (.seq (.int .i64) x515), some (.seq (.int .i64) x517)]⟩ : St) (spec_l20Tree_n5 x512 x519 x39 x520 x515 x517) (fun (t : Int × (List Int)) => (Exit.normal, (⟨mkE 80 0 [(0, .ptr 0 0), (1, .dat (.int .i64) x38), (5, .dat (.int .i64) x512), (7, .slc 1)], [some (.box [.dat (.list (.int .u8)) x39, .dat (.int .i64) t.1]), some (.seq (.int .i64) t.2)]⟩ : St))) := by
  unfold spec_l20Tree_n5
  exact Link.cast (by kernel_rfl) (by kernel_rfl) (link_block (id := 0) (spec_l20Tree_n4_l x38 x512 x519 x39 x520 x515 x517) (fun (t : Int × (List Int)) => (t.1, t.2)) (by
  rintro t K h
  · exact Eq.mp (by kernel_rfl) h))

theorem spec_l20Tree_n6_l (x38 : Int) (x512 : Int) (x519 : Int) (x39 : List Int) (x520 : Int) (x515 : List Int) (x517 : List Int) : Link spec_l20Tree_ctx LL (Code.fst (Code.snd (Code.snd (Code.snd (Code.snd (Code.snd (bodyOf Tryd.f67))))))) (Ann.fst (Ann.snd (Ann.snd (Ann.snd (Ann.snd (Ann.snd spec_l20Tree_an)))))) (⟨mkE 80 0 [(0, .ptr 0 0), (1, .dat (.int .i64) x38), (5, .dat (.int .i64) x512), (6, .slc 1), (7, .slc 2), (8, .dat (.int .i64) x519)], [some (.box [.dat (.list (.int .u8)) x39, .dat (.int .i64) x520]), some (.seq (.int .i64) x515), some (.seq (.int .i64) x517)]⟩ : St) (spec_l20Tree_n6 x512 x519 x39 x520 x515 x517) (fun (t : Int × (List Int)) => (Exit.normal, (⟨mkE 80 0 [(0, .ptr 0 0), (1, .dat (.int .i64) x38), (5, .dat (.int .i64) x512), (7, .slc 1)], [some (.box [.dat (.list (.int .u8)) x39, .dat (.int .i64) t.1]), some (.seq (.int .i64) t.2)]⟩ : St))) := by
  unfold spec_l20Tree_n6
  exact Link.cast (by kernel_rfl) (by kernel_rfl) (link_seq (b := (Code.snd (Code.fst (Code.snd (Code.snd (Code.snd (Code.snd (Code.snd (bodyOf Tryd.f67))))))))) (y := (Ann.snd (Ann.fst (Ann.snd (Ann.snd (Ann.snd (Ann.snd (Ann.snd spec_l20Tree_an)))))))) (spec_l20Tree_n2_l x38 x512 x519 x39 x520 x515 x517) (fun (t : Unit) => (spec_l20Tree_n5_l x38 x512 x519 x39 x520 x515 x517)))

theorem spec_l20Tree_n7_l (x38 : Int) (x512 : Int) (x39 : List Int) (x591 : Int) (x592 : List Int) : Link spec_l20Tree_ctx LL (Code.snd (Code.snd (Code.snd (Code.snd (Code.snd (Code.snd (bodyOf Tryd.f67))))))) (Ann.snd (Ann.snd (Ann.snd (Ann.snd (Ann.snd (Ann.snd spec_l20Tree_an)))))) (⟨mkE 80 0 [(0, .ptr 0 0), (1, .dat (.int .i64) x38), (5, .dat (.int .i64) x512), (7, .slc 1)], [some (.box [.dat (.list (.int .u8)) x39, .dat (.int .i64) x591]), some (.seq (.int .i64) x592)]⟩ : St) (spec_l20Tree_n7 x38 x512 x39 x591 x592) (fun (t : Int × (List Int)) => (Exit.ret, (⟨mkE 80 0 [(4, .slc 1)], [some (.box [.dat (.list (.int .u8)) x39, .dat (.int .i64) t.1]), some (.seq (.int .i64) t.2)]⟩ : St))) := by
  refine Link.of fun K h => ?_
  simp only [spec_l20Tree_n7, wpO_bind, wpO_cond, wpO_map, wpO_some] at h
  exact Awp.of (by kernel_rfl) h

theorem spec_l20Tree_n8_l (x38 : Int) (x512 : Int) (x519 : Int) (x39 : List Int) (x520 : Int) (x515 : List Int) (x517 : List Int) : Link spec_l20Tree_ctx LL (Code.snd (Code.snd (Code.snd (Code.snd (Code.snd (bodyOf Tryd.f67)))))) (Ann.snd (Ann.snd (Ann.snd (Ann.snd (Ann.snd spec_l20Tree_an))))) (⟨mkE 80 0 [(0, .ptr 0 0), (1, .dat (.int .i64) x38), (5, .dat (.int .i64) x512), (6, .slc 1), (7, .slc 2), (8, .dat (.int .i64) x519)], [some (.box [.dat (.list (.int .u8)) x39, .dat (.int .i64) x520]), some (.seq (.int .i64) x515), some (.seq (.int .i64) x517)]⟩ : St) (spec_l20Tree_n8 x38 x512 x519 x39 x520 x515 x517) (fun (t : Int × (List Int)) => (Exit.ret, (⟨mkE 80 0 [(4, .slc 1)], [some (.box [.dat (.list (.int .u8)) x39, .dat (.int .i64) t.1]), some (.seq (.int .i64) t.2)]⟩ : St))) := by
  unfold spec_l20Tree_n8
  exact Link.cast (by kernel_rfl) (by kernel_rfl) (link_seq (b := (Code.snd (Code.snd (Code.snd (Code.snd (Code.snd (Code.snd (bodyOf Tryd.f67)))))))) (y := (Ann.snd (Ann.snd (Ann.snd (Ann.snd (Ann.snd (Ann.snd spec_l20Tree_an))))))) (spec_l20Tree_n6_l x38 x512 x519 x39 x520 x515 x517) (fun (t : Int × (List Int)) => (spec_l20Tree_n7_l x38 x512 x39 t.1 t.2)))

theorem spec_l20Tree_n9_l (x38 : Int) (x39 : List Int) (x40 : Int) : Link spec_l20Tree_ctx LL (bodyOf Tryd.f67) spec_l20Tree_an (⟨mkE 80 0 [(0, .ptr 0 0), (1, .dat (.int .i64) x38)], [some (.box [.dat (.list (.int .u8)) x39, .dat (.int .i64) x40])]⟩ : St) (spec_l20Tree_n9 x38 x39 x40) (fun (t : Int × (List Int)) => (Exit.ret, (⟨mkE 80 0 [(4, .slc 1)], [some (.box [.dat (.list (.int .u8)) x39, .dat (.int .i64) t.1]), some (.seq (.int .i64) t.2)]⟩ : St))) := by
  unfold spec_l20Tree_n9
  exact Link.cast (by kernel_rfl) (by kernel_rfl) (link_group (c := (Code.fst (Code.snd (Code.snd (Code.snd (Code.snd (bodyOf Tryd.f67))))))) (a := (Ann.fst (Ann.snd (Ann.snd (Ann.snd (Ann.snd spec_l20Tree_an)))))) [(Code.fst (bodyOf Tryd.f67)), (Code.fst (Code.snd (bodyOf Tryd.f67))), (Code.fst (Code.snd (Code.snd (bodyOf Tryd.f67)))), (Code.fst (Code.snd (Code.snd (Code.snd (bodyOf Tryd.f67)))))] [(Ann.fst spec_l20Tree_an), (Ann.fst (Ann.snd spec_l20Tree_an)), (Ann.fst (Ann.snd (Ann.snd spec_l20Tree_an))), (Ann.fst (Ann.snd (Ann.snd (Ann.snd spec_l20Tree_an))))] rfl (link_seq (b := (Code.snd (Code.snd (Code.snd (Code.snd (Code.snd (bodyOf Tryd.f67))))))) (y := (Ann.snd (Ann.snd (Ann.snd (Ann.snd (Ann.snd spec_l20Tree_an)))))) (spec_l20Tree_n1_l x38 x39 x40) (fun (t : Int × Int × Int × (List Int) × (List Int)) => (spec_l20Tree_n8_l x38 t.1 t.2.1 x39 t.2.2.1 t.2.2.2.1 t.2.2.2.2))))

theorem spec_l20Tree_e (x38 : Int) (x39 : List Int) (x40 : Int) {r : AV} {H' : Heap} (h : (Ans.mk _ (spec_l20Tree x38 x39 x40) (fun (t : Int × (List Int)) => (.slc 1, [some (.box [.dat (.list (.int .u8)) x39, .dat (.int .i64) t.1]), some (.seq (.int .i64) t.2)]))).run = some (r, H')) : Awp spec_l20Tree_ctx LL (bodyOf Tryd.f67) spec_l20Tree_an (⟨mkE 80 0 [(0, .ptr 0 0), (1, .dat (.int .i64) x38)], [some (.box [.dat (.list (.int .u8)) x39, .dat (.int .i64) x40])]⟩ : St) (Ret (tlook tys) Tryd.f67.results.toList r H') :=
  ret_of' (spec_l20Tree_n9_l x38 x39 x40) (by unfold spec_l20Tree; kernel_rfl) (by
  intro t
  exact ret_mk [.slc 1] (by kernel_rfl) (by kernel_rfl) (by kernel_rfl) (by kernel_rfl)) h

def F_spec_l20Tree : Fun := fun avs H =>
  match avs, H with
  | [.ptr 0 0, .dat (.int .i64) x38], [some (.box [.dat (.list (.int .u8)) x39, .dat (.int .i64) x40])] => ⟨_, spec_l20Tree x38 x39 x40, fun (t : Int × (List Int)) => (.slc 1, [some (.box [.dat (.list (.int .u8)) x39, .dat (.int .i64) t.1]), some (.seq (.int .i64) t.2)])⟩
  | _, _ => Ans.no

theorem spec_l20Tree_sound : Sound Tryd.prog 67 F_spec_l20Tree := by
  refine fn_sound' (C := spec_l20Tree_ctx) (c := bodyOf Tryd.f67) (cok_of tys_ok (List.forall_mem_cons.2 ⟨spec_l20Rd_pick_sound, List.forall_mem_cons.2 ⟨spec_l20Order_sound, List.forall_mem_cons.2 ⟨spec_l20Rd_odd_sound, by simp⟩⟩⟩) (List.forall_mem_cons.2 ⟨Tryd.call41, List.forall_mem_cons.2 ⟨Tryd.call69, List.forall_mem_cons.2 ⟨Tryd.call86, by simp⟩⟩⟩) (by kernel_rfl)) Tryd.func67 (by kernel_rfl) LL spec_l20Tree_an ?_
  intro avs H r H' h
  unfold F_spec_l20Tree at h
  split at h
  · refine Awp.cast ?_ ?_ ?_ (spec_l20Tree_e _ _ _ h) <;> kernel_rfl
  · simp [Ans.no, Ans.run] at h


/-! loop.example/headtrees/spec.l1In -/

def spec_l1In_an : Ann := (.seq (.leaf [0, 1, 2]) (.seq (.leaf [6]) (.leaf [6])))

noncomputable def spec_l1In_ctx : Ctx := ⟨tlook tys, olook [], ioF, 0, false⟩

theorem spec_l1In_n1_l (x781 : Int) (x782 : Int) (x783 : Int) : Link spec_l1In_ctx LL (bodyOf Tryd.f45) spec_l1In_an (⟨mkE 15 0 [(0, .dat (.int .i64) x781), (1, .dat (.int .i64) x782), (2, .dat (.int .i64) x783)], []⟩ : St) (spec_l1In_n1 x781 x782 x783) (fun (t : Bool) => (Exit.ret, (⟨mkE 15 0 [(6, .dat .bool t)], []⟩ : St))) := by
  refine Link.of fun K h => ?_
  simp only [spec_l1In_n1, wpO_bind, wpO_cond, wpO_map, wpO_some] at h
  exact Awp.of (by kernel_rfl) h

theorem spec_l1In_e (x781 : Int) (x782 : Int) (x783 : Int) {r : AV} {H' : Heap} (h : (Ans.mk _ (spec_l1In x781 x782 x783) (fun (t : Bool) => (.dat .bool t, []))).run = some (r, H')) : Awp spec_l1In_ctx LL (bodyOf Tryd.f45) spec_l1In_an (⟨mkE 15 0 [(0, .dat (.int .i64) x781), (1, .dat (.int .i64) x782), (2, .dat (.int .i64) x783)], []⟩ : St) (Ret (tlook tys) Tryd.f45.results.toList r H') :=
  ret_of' (spec_l1In_n1_l x781 x782 x783) (by unfold spec_l1In; kernel_rfl) (by
  intro t
  exact ret_mk [.dat .bool t] (by kernel_rfl) (by kernel_rfl) (by kernel_rfl) (by kernel_rfl)) h

def F_spec_l1In : Fun := fun avs H =>
  match avs, H with
  | [.dat (.int .i64) x781, .dat (.int .i64) x782, .dat (.int .i64) x783], [] => ⟨_, spec_l1In x781 x782 x783, fun (t : Bool) => (.dat .bool t, [])⟩
  | _, _ => Ans.no

theorem spec_l1In_sound : Sound Tryd.prog 45 F_spec_l1In := by
  refine fn_sound' (C := spec_l1In_ctx) (c := bodyOf Tryd.f45) (cok_of tys_ok (by simp) (by simp) (by kernel_rfl)) Tryd.func45 (by kernel_rfl) LL spec_l1In_an ?_
  intro avs H r H' h
  unfold F_spec_l1In at h
  split at h
  · refine Awp.cast ?_ ?_ ?_ (spec_l1In_e _ _ _ h) <;> kernel_rfl
  · simp [Ans.no, Ans.run] at h


/-! loop.example/headtrees/spec.TreeOk -/

def spec_TreeOk_an : Ann := (.seq (.leaf [0]) (.seq (.leaf [0, 3]) (.seq (.seq (.leaf [0, 3, 12]) (.cond (.seq (.leaf [2]) (.leaf [2])) (.leaf [0, 3]))) (.seq (.leaf [0, 3, 4]) (.seq (.seq (.leaf [0, 3, 4, 5]) (.block (.loop (.seq (.seq (.leaf [0, 3, 4, 5, 15]) (.cond (.leaf [0, 3, 4, 5]) (.leaf [4]))) (.seq (.block (.seq (.seq (.leaf [0, 3, 4, 5, 33]) (.cond (.seq (.leaf [2]) (.leaf [2])) (.leaf [0, 3, 4, 5]))) (.seq (.seq (.leaf [0, 3, 4, 5, 38]) (.cond (.leaf [0, 3, 4, 5]) (.leaf [0, 3, 4, 5]))) (.seq (.leaf [0, 3, 4, 5, 6]) (.seq (.seq (.leaf [0, 3, 4, 5, 6, 7]) (.block (.loop (.seq (.seq (.leaf [0, 3, 4, 5, 6, 7, 49]) (.cond (.leaf [0, 3, 4, 5, 6, 7]) (.leaf [0, 3, 4, 5, 6]))) (.seq (.block (.seq (.leaf [0, 3, 4, 5, 6, 7]) (.seq (.leaf [0, 3, 4, 5, 6, 7, 60]) (.cond (.seq (.leaf [2]) (.leaf [2])) (.leaf [0, 3, 4, 5, 6, 7]))))) (.leaf [0, 3, 4, 5, 6, 7])))))) (.seq (.leaf [0, 3, 4, 5, 62]) (.cond (.seq (.leaf [2]) (.leaf [2])) (.leaf [0, 3, 4, 5])))))))) (.leaf [0, 3, 4, 5])))))) (.seq (.leaf [2]) (.leaf [2])))))))

noncomputable def spec_TreeOk_ctx : Ctx := ⟨tlook tys, olook [(45, F_spec_l1In)], ioF, 0, false⟩

theorem spec_TreeOk_n1_l (x777 : List Int) : Link spec_TreeOk_ctx LL (Code.seq (Code.fst (bodyOf Tryd.f32)) (Code.seq (Code.fst (Code.snd (bodyOf Tryd.f32))) (Code.seq (Code.fst (Code.snd (Code.snd (bodyOf Tryd.f32)))) (Code.fst (Code.snd (Code.snd (Code.snd (bodyOf Tryd.f32)))))))) (Ann.seq (Ann.fst spec_TreeOk_an) (Ann.seq (Ann.fst (Ann.snd spec_TreeOk_an)) (Ann.seq (Ann.fst (Ann.snd (Ann.snd spec_TreeOk_an))) (Ann.fst (Ann.snd (Ann.snd (Ann.snd spec_TreeOk_an))))))) (⟨mkE 65 0 [(0, .dat (.list (.int .i64)) x777)], []⟩ : St) (spec_TreeOk_n1 x777) (Sum.elim (fun (t : Int) => (Exit.normal, (⟨mkE 65 0 [(0, .dat (.list (.int .i64)) x777), (3, .dat (.int .i64) t), (4, .dat (.int .i64) 0)], []⟩ : St))) (fun (t : Bool) => (Exit.ret, (⟨mkE 65 0 [(2, .dat .bool t)], []⟩ : St)))) := by
  refine Link.of fun K h => ?_
  simp only [spec_TreeOk_n1, wpO_bind, wpO_cond, wpO_map, wpO_some] at h
  exact Awp.of (by kernel_rfl) h

theorem spec_TreeOk_n2_l (x777 : List Int) (x791 : Int) : Link spec_TreeOk_ctx LL (Code.fst (Code.fst (Code.snd (Code.snd (Code.snd (Code.snd (bodyOf Tryd.f32))))))) (Ann.fst (Ann.fst (Ann.snd (Ann.snd (Ann.snd (Ann.snd spec_TreeOk_an)))))) (⟨mkE 65 0 [(0, .dat (.list (.int .i64)) x777), (3, .dat (.int .i64) x791), (4, .dat (.int .i64) 0)], []⟩ : St) (spec_TreeOk_n2) (fun (t : Unit) => (Exit.normal, (⟨mkE 65 0 [(0, .dat (.list (.int .i64)) x777), (3, .dat (.int .i64) x791), (4, .dat (.int .i64) 0), (5, .dat (.int .i64) 0)], []⟩ : St))) := by
  refine Link.of fun K h => ?_
  simp only [spec_TreeOk_n2, wpO_bind, wpO_cond, wpO_map, wpO_some] at h
  exact Awp.of (by kernel_rfl) h

theorem spec_TreeOk_n3_l (x777 : List Int) (x791 : Int) (x858 : Int) (x859 : Int) : Link spec_TreeOk_ctx LL (Code.fst (Code.fst (Code.fst (Code.snd (Code.fst (Code.snd (Code.snd (Code.snd (Code.snd (bodyOf Tryd.f32)))))))))) (Ann.fst (Ann.fst (Ann.fst (Ann.snd (Ann.fst (Ann.snd (Ann.snd (Ann.snd (Ann.snd spec_TreeOk_an))))))))) (⟨mkE 65 0 [(0, .dat (.list (.int .i64)) x777), (3, .dat (.int .i64) x791), (4, .dat (.int .i64) x858), (5, .dat (.int .i64) x859)], []⟩ : St) (spec_TreeOk_n3 x791 x858 x859) (Sum.elim (fun (t : Unit) => (Exit.normal, (⟨mkE 65 0 [(0, .dat (.list (.int .i64)) x777), (3, .dat (.int .i64) x791), (4, .dat (.int .i64) x858), (5, .dat (.int .i64) x859)], []⟩ : St))) (fun (t : Int) => ((Exit.exit 0), (⟨mkE 65 0 [(4, .dat (.int .i64) t)], []⟩ : St)))) := by
  refine Link.of fun K h => ?_
  simp only [spec_TreeOk_n3, wpO_bind, wpO_cond, wpO_map, wpO_some] at h
  exact Awp.of (by kernel_rfl) h

theorem spec_TreeOk_n4_l (x777 : List Int) (x791 : Int) (x858 : Int) (x859 : Int) : Link spec_TreeOk_ctx LL (Code.seq (Code.fst (Code.fst (Code.fst (Code.snd (Code.fst (Code.fst (Code.snd (Code.fst (Code.snd (Code.snd (Code.snd (Code.snd (bodyOf Tryd.f32))))))))))))) (Code.seq (Code.fst (Code.snd (Code.fst (Code.fst (Code.snd (Code.fst (Code.fst (Code.snd (Code.fst (Code.snd (Code.snd (Code.snd (Code.snd (bodyOf Tryd.f32)))))))))))))) (Code.fst (Code.snd (Code.snd (Code.fst (Code.fst (Code.snd (Code.fst (Code.fst (Code.snd (Code.fst (Code.snd (Code.snd (Code.snd (Code.snd (bodyOf Tryd.f32))))))))))))))))) (Ann.seq (Ann.fst (Ann.fst (Ann.fst (Ann.snd (Ann.fst (Ann.fst (Ann.snd (Ann.fst (Ann.snd (Ann.snd (Ann.snd (Ann.snd spec_TreeOk_an)))))))))))) (Ann.seq (Ann.fst (Ann.snd (Ann.fst (Ann.fst (Ann.snd (Ann.fst (Ann.fst (Ann.snd (Ann.fst (Ann.snd (Ann.snd (Ann.snd (Ann.snd spec_TreeOk_an))))))))))))) (Ann.fst (Ann.snd (Ann.snd (Ann.fst (Ann.fst (Ann.snd (Ann.fst (Ann.fst (Ann.snd (Ann.fst (Ann.snd (Ann.snd (Ann.snd (Ann.snd spec_TreeOk_an)))))))))))))))) (⟨mkE 65 0 [(0, .dat (.list (.int .i64)) x777), (3, .dat (.int .i64) x791), (4, .dat (.int .i64) x858), (5, .dat (.int .i64) x859)], []⟩ : St) (spec_TreeOk_n4 x777 x791 x858 x859) (Sum.elim (fun (t : Int × Int) => (Exit.normal, (⟨mkE 65 0 [(0, .dat (.list (.int .i64)) x777), (3, .dat (.int .i64) x791), (4, .dat (.int .i64) t.1), (5, .dat (.int .i64) x859), (6, .dat (.int .i64) t.2)], []⟩ : St))) (fun (t : Bool) => (Exit.ret, (⟨mkE 65 0 [(2, .dat .bool t)], []⟩ : St)))) := by
  refine Link.of fun K h => ?_
  simp only [spec_TreeOk_n4, wpO_bind, wpO_cond, wpO_map, wpO_some] at h
  exact Awp.of (by kernel_rfl) h

theorem spec_TreeOk_n5_l (x777 : List Int) (x791 : Int) (x887 : Int) (x859 : Int) (x888 : Int) : Link spec_TreeOk_ctx LL (Code.fst (Code.fst (Code.snd (Code.snd (Code.snd (Code.fst (Code.fst (Code.snd (Code.fst (Code.fst (Code.snd (Code.fst (Code.snd (Code.snd (Code.snd (Code.snd (bodyOf Tryd.f32))))))))))))))))) (Ann.fst (Ann.fst (Ann.snd (Ann.snd (Ann.snd (Ann.fst (Ann.fst (Ann.snd (Ann.fst (Ann.fst (Ann.snd (Ann.fst (Ann.snd (Ann.snd (Ann.snd (Ann.snd spec_TreeOk_an)))))))))))))))) (⟨mkE 65 0 [(0, .dat (.list (.int .i64)) x777), (3, .dat (.int .i64) x791), (4, .dat (.int .i64) x887), (5, .dat (.int .i64) x859), (6, .dat (.int .i64) x888)], []⟩ : St) (spec_TreeOk_n5) (fun (t : Unit) => (Exit.normal, (⟨mkE 65 0 [(0, .dat (.list (.int .i64)) x777), (3, .dat (.int .i64) x791), (4, .dat (.int .i64) x887), (5, .dat (.int .i64) x859), (6, .dat (.int .i64) x888), (7, .dat (.int .i64) 0)], []⟩ : St))) := by
  refine Link.of fun K h => ?_
  simp only [spec_TreeOk_n5, wpO_bind, wpO_cond, wpO_map, wpO_some] at h
  exact Awp.of (by kernel_rfl) h

theorem spec_TreeOk_n6_l (x777 : List Int) (x791 : Int) (x887 : Int) (x859 : Int) (x904 : Int) (x905 : Int) : Link spec_TreeOk_ctx LL (Code.fst (Code.fst (Code.snd (Code.fst (Code.snd (Code.snd (Code.snd (Code.fst (Code.fst (Code.snd (Code.fst (Code.fst (Code.snd (Code.fst (Code.snd (Code.snd (Code.snd (Code.snd (bodyOf Tryd.f32))))))))))))))))))) (Ann.fst (Ann.fst (Ann.snd (Ann.fst (Ann.snd (Ann.snd (Ann.snd (Ann.fst (Ann.fst (Ann.snd (Ann.fst (Ann.fst (Ann.snd (Ann.fst (Ann.snd (Ann.snd (Ann.snd (Ann.snd spec_TreeOk_an)))))))))))))))))) (⟨mkE 65 0 [(0, .dat (.list (.int .i64)) x777), (3, .dat (.int .i64) x791), (4, .dat (.int .i64) x887), (5, .dat (.int .i64) x859), (6, .dat (.int .i64) x904), (7, .dat (.int .i64) x905)], []⟩ : St) (spec_TreeOk_n6 x777 x791 x904 x905) (Sum.elim (fun (t : Int × Int) => (Exit.normal, (⟨mkE 65 0 [(0, .dat (.list (.int .i64)) x777), (3, .dat (.int .i64) x791), (4, .dat (.int .i64) x887), (5, .dat (.int .i64) x859), (6, .dat (.int .i64) t.1), (7, .dat (.int .i64) t.2)], []⟩ : St))) (Sum.elim (fun (t : Bool) => (Exit.ret, (⟨mkE 65 0 [(2, .dat .bool t)], []⟩ : St))) (fun (t : Int) => ((Exit.exit 2), (⟨mkE 65 0 [(0, .dat (.list (.int .i64)) x777), (3, .dat (.int .i64) x791), (4, .dat (.int .i64) x887), (5, .dat (.int .i64) x859), (6, .dat (.int .i64) t)], []⟩ : St))))) := by
  refine Link.of fun K h => ?_
  simp only [spec_TreeOk_n6, wpO_bind, wpO_cond, wpO_map, wpO_some] at h
  exact Awp.of (by kernel_rfl) h

theorem spec_TreeOk_n7_l (x777 : List Int) (x791 : Int) (x887 : Int) (x859 : Int) (x888 : Int) : Link spec_TreeOk_ctx LL (Code.fst (Code.snd (Code.fst (Code.snd (Code.snd (Code.snd (Code.fst (Code.fst (Code.snd (Code.fst (Code.fst (Code.snd (Code.fst (Code.snd (Code.snd (Code.snd (Code.snd (bodyOf Tryd.f32)))))))))))))))))) (Ann.fst (Ann.snd (Ann.fst (Ann.snd (Ann.snd (Ann.snd (Ann.fst (Ann.fst (Ann.snd (Ann.fst (Ann.fst (Ann.snd (Ann.fst (Ann.snd (Ann.snd (Ann.snd (Ann.snd spec_TreeOk_an))))))))))))))))) (⟨mkE 65 0 [(0, .dat (.list (.int .i64)) x777), (3, .dat (.int .i64) x791), (4, .dat (.int .i64) x887), (5, .dat (.int .i64) x859), (6, .dat (.int .i64) x888), (7, .dat (.int .i64) 0)], []⟩ : St) (spec_TreeOk_n7 x777 x791 x888) (Sum.elim (fun (t : Bool) => (Exit.ret, (⟨mkE 65 0 [(2, .dat .bool t)], []⟩ : St))) (fun (t : Int) => ((Exit.exit 2), (⟨mkE 65 0 [(0, .dat (.list (.int .i64)) x777), (3, .dat (.int .i64) x791), (4, .dat (.int .i64) x887), (5, .dat (.int .i64) x859), (6, .dat (.int .i64) t)], []⟩ : St)))) := by
  unfold spec_TreeOk_n7
  exact Link.cast (by kernel_rfl) (by kernel_rfl) (link_loop (mk := fun (s : Int × Int) => (⟨mkE 65 0 [(0, .dat (.list (.int .i64)) x777), (3, .dat (.int .i64) x791), (4, .dat (.int .i64) x887), (5, .dat (.int .i64) x859), (6, .dat (.int .i64) s.1), (7, .dat (.int .i64) s.2)], []⟩ : St)) (fin := (Sum.elim (fun (t : Bool) => (Exit.ret, (⟨mkE 65 0 [(2, .dat .bool t)], []⟩ : St))) (fun (t : Int) => ((Exit.exit 2), (⟨mkE 65 0 [(0, .dat (.list (.int .i64)) x777), (3, .dat (.int .i64) x791), (4, .dat (.int .i64) x887), (5, .dat (.int .i64) x859), (6, .dat (.int .i64) t)], []⟩ : St))))) (by
  rintro (t | t) f K h
  · exact h
  · exact h) (fun s => link_map (spec_TreeOk_n6_l x777 x791 x887 x859 s.1 s.2) (Sum.elim (fun (t : Int × Int) => Sum.inl (t.1, t.2)) (Sum.elim (fun (t : Bool) => Sum.inr (Sum.inl t)) (fun (t : Int) => Sum.inr (Sum.inr t)))) (by
  rintro (t | t | t)
  · kernel_rfl
  · kernel_rfl
  · kernel_rfl)) (x888, 0))

theorem spec_TreeOk_n8_l (x777 : List Int) (x791 : Int) (x887 : Int) (x859 : Int) (x888 : Int) : Link spec_TreeOk_ctx LL (Code.snd (Code.fst (Code.snd (Code.snd (Code.snd (Code.fst (Code.fst (Code.snd (Code.fst (Code.fst (Code.snd (Code.fst (Code.snd (Code.snd (Code.snd (Code.snd (bodyOf Tryd.f32))))))))))))))))) (Ann.snd (Ann.fst (Ann.snd (Ann.snd (Ann.snd (Ann.fst (Ann.fst (Ann.snd (Ann.fst (Ann.fst (Ann.snd (Ann.fst (Ann.snd (Ann.snd (Ann.snd (Ann.snd spec_TreeOk_an)))))))))))))))) (⟨mkE 65 0 [(0, .dat (.list (.int .i64)) x777), (3, .dat (.int .i64) x791), (4, .dat (.int .i64) x887), (5, .dat (.int .i64) x859), (6, .dat (.int .i64) x888), (7, .dat (.int .i64) 0)], []⟩ : St) (spec_TreeOk_n8 x777 x791 x888) (Sum.elim (fun (t : Int) => (Exit.normal, (⟨mkE 65 0 [(0, .dat (.list (.int .i64)) x777), (3, .dat (.int .i64) x791), (4, .dat (.int .i64) x887), (5, .dat (.int .i64) x859), (6, .dat (.int .i64) t)], []⟩ : St))) (fun (t : Bool) => (Exit.ret, (⟨mkE 65 0 [(2, .dat .bool t)], []⟩ : St)))) := by
  unfold spec_TreeOk_n8
  exact Link.cast (by kernel_rfl) (by kernel_rfl) (link_block (id := 2) (spec_TreeOk_n7_l x777 x791 x887 x859 x888) (Sum.elim (fun (t : Bool) => (Sum.inr t)) (fun (t : Int) => (Sum.inl t))) (by
  rintro (t | t) K h
  · exact Eq.mp (by kernel_rfl) h
  · exact Eq.mp (by kernel_rfl) h))

theorem spec_TreeOk_n9_l (x777 : List Int) (x791 : Int) (x887 : Int) (x859 : Int) (x888 : Int) : Link spec_TreeOk_ctx LL (Code.fst (Code.snd (Code.snd (Code.snd (Code.fst (Code.fst (Code.snd (Code.fst (Code.fst (Code.snd (Code.fst (Code.snd (Code.snd (Code.snd (Code.snd (bodyOf Tryd.f32)))))))))))))))) (Ann.fst (Ann.snd (Ann.snd (Ann.snd (Ann.fst (Ann.fst (Ann.snd (Ann.fst (Ann.fst (Ann.snd (Ann.fst (Ann.snd (Ann.snd (Ann.snd (Ann.snd spec_TreeOk_an))))))))))))))) (⟨mkE 65 0 [(0, .dat (.list (.int .i64)) x777), (3, .dat (.int .i64) x791), (4, .dat (.int .i64) x887), (5, .dat (.int .i64) x859), (6, .dat (.int .i64) x888)], []⟩ : St) (spec_TreeOk_n9 x777 x791 x888) (Sum.elim (fun (t : Int) => (Exit.normal, (⟨mkE 65 0 [(0, .dat (.list (.int .i64)) x777), (3, .dat (.int .i64) x791), (4, .dat (.int .i64) x887), (5, .dat (.int .i64) x859), (6, .dat (.int .i64) t)], []⟩ : St))) (fun (t : Bool) => (Exit.ret, (⟨mkE 65 0 [(2, .dat .bool t)], []⟩ : St)))) := by
  unfold spec_TreeOk_n9
  exact Link.cast (by kernel_rfl) (by kernel_rfl) (link_seq (b := (Code.snd (Code.fst (Code.snd (Code.snd (Code.snd (Code.fst (Code.fst (Code.snd (Code.fst (Code.fst (Code.snd (Code.fst (Code.snd (Code.snd (Code.snd (Code.snd (bodyOf Tryd.f32)))))))))))))))))) (y := (Ann.snd (Ann.fst (Ann.snd (Ann.snd (Ann.snd (Ann.fst (Ann.fst (Ann.snd (Ann.fst (Ann.fst (Ann.snd (Ann.fst (Ann.snd (Ann.snd (Ann.snd (Ann.snd spec_TreeOk_an))))))))))))))))) (spec_TreeOk_n5_l x777 x791 x887 x859 x888) (fun (t : Unit) => (spec_TreeOk_n8_l x777 x791 x887 x859 x888)))

theorem spec_TreeOk_n10_l (x777 : List Int) (x791 : Int) (x887 : Int) (x859 : Int) (x904 : Int) : Link spec_TreeOk_ctx LL (Code.snd (Code.snd (Code.snd (Code.snd (Code.fst (Code.fst (Code.snd (Code.fst (Code.fst (Code.snd (Code.fst (Code.snd (Code.snd (Code.snd (Code.snd (bodyOf Tryd.f32)))))))))))))))) (Ann.snd (Ann.snd (Ann.snd (Ann.snd (Ann.fst (Ann.fst (Ann.snd (Ann.fst (Ann.fst (Ann.snd (Ann.fst (Ann.snd (Ann.snd (Ann.snd (Ann.snd spec_TreeOk_an))))))))))))))) (⟨mkE 65 0 [(0, .dat (.list (.int .i64)) x777), (3, .dat (.int .i64) x791), (4, .dat (.int .i64) x887), (5, .dat (.int .i64) x859), (6, .dat (.int .i64) x904)], []⟩ : St) (spec_TreeOk_n10 x904) (Sum.elim (fun (t : Unit) => (Exit.normal, (⟨mkE 65 0 [(0, .dat (.list (.int .i64)) x777), (3, .dat (.int .i64) x791), (4, .dat (.int .i64) x887), (5, .dat (.int .i64) x859)], []⟩ : St))) (fun (t : Bool) => (Exit.ret, (⟨mkE 65 0 [(2, .dat .bool t)], []⟩ : St)))) := by
  refine Link.of fun K h => ?_
  simp only [spec_TreeOk_n10, wpO_bind, wpO_cond, wpO_map, wpO_some] at h
  exact Awp.of (by kernel_rfl) h

theorem spec_TreeOk_n11_l (x777 : List Int) (x791 : Int) (x887 : Int) (x859 : Int) (x888 : Int) : Link spec_TreeOk_ctx LL (Code.snd (Code.snd (Code.snd (Code.fst (Code.fst (Code.snd (Code.fst (Code.fst (Code.snd (Code.fst (Code.snd (Code.snd (Code.snd (Code.snd (bodyOf Tryd.f32))))))))))))))) (Ann.snd (Ann.snd (Ann.snd (Ann.fst (Ann.fst (Ann.snd (Ann.fst (Ann.fst (Ann.snd (Ann.fst (Ann.snd (Ann.snd (Ann.snd (Ann.snd spec_TreeOk_an)))))))))))))) (⟨mkE 65 0 [(0, .dat (.list (.int .i64)) x777), (3, .dat (.int .i64) x791), (4, .dat (.int .i64) x887), (5, .dat (.int .i64) x859), (6, .dat (.int .i64) x888)], []⟩ : St) (spec_TreeOk_n11 x777 x791 x888) (Sum.elim (fun (t : Unit) => (Exit.normal, (⟨mkE 65 0 [(0, .dat (.list (.int .i64)) x777), (3, .dat (.int .i64) x791), (4, .dat (.int .i64) x887), (5, .dat (.int .i64) x859)], []⟩ : St))) (fun (t : Bool) => (Exit.ret, (⟨mkE 65 0 [(2, .dat .bool t)], []⟩ : St)))) := by
  unfold spec_TreeOk_n11
  exact Link.cast (by kernel_rfl) (by kernel_rfl) (link_seq2 (b := (Code.snd (Code.snd (Code.snd (Code.snd (Code.fst (Code.fst (Code.snd (Code.fst (Code.fst (Code.snd (Code.fst (Code.snd (Code.snd (Code.snd (Code.snd (bodyOf Tryd.f32))))))))))))))))) (y := (Ann.snd (Ann.snd (Ann.snd (Ann.snd (Ann.fst (Ann.fst (Ann.snd (Ann.fst (Ann.fst (Ann.snd (Ann.fst (Ann.snd (Ann.snd (Ann.snd (Ann.snd spec_TreeOk_an)))))))))))))))) (spec_TreeOk_n9_l x777 x791 x887 x859 x888) (fun (t : Int) => (spec_TreeOk_n10_l x777 x791 x887 x859 t)) (fun (t : Bool) => (Sum.inr t)) (by
  rintro t
  · kernel_rfl) (by
  rintro t f K h
  · exact h))

theorem spec_TreeOk_n12_l (x777 : List Int) (x791 : Int) (x858 : Int) (x859 : Int) : Link spec_TreeOk_ctx LL (Code.fst (Code.fst (Code.snd (Code.fst (Code.fst (Code.snd (Code.fst (Code.snd (Code.snd (Code.snd (Code.snd (bodyOf Tryd.f32)))))))))))) (Ann.fst (Ann.fst (Ann.snd (Ann.fst (Ann.fst (Ann.snd (Ann.fst (Ann.snd (Ann.snd (Ann.snd (Ann.snd spec_TreeOk_an))))))))))) (⟨mkE 65 0 [(0, .dat (.list (.int .i64)) x777), (3, .dat (.int .i64) x791), (4, .dat (.int .i64) x858), (5, .dat (.int .i64) x859)], []⟩ : St) (spec_TreeOk_n12 x777 x791 x858 x859) (Sum.elim (fun (t : Int) => (Exit.normal, (⟨mkE 65 0 [(0, .dat (.list (.int .i64)) x777), (3, .dat (.int .i64) x791), (4, .dat (.int .i64) t), (5, .dat (.int .i64) x859)], []⟩ : St))) (fun (t : Bool) => (Exit.ret, (⟨mkE 65 0 [(2, .dat .bool t)], []⟩ : St)))) := by
  unfold spec_TreeOk_n12
  exact Link.cast (by kernel_rfl) (by kernel_rfl) (link_group (c := (Code.fst (Code.snd (Code.snd (Code.fst (Code.fst (Code.snd (Code.fst (Code.fst (Code.snd (Code.fst (Code.snd (Code.snd (Code.snd (Code.snd (bodyOf Tryd.f32)))))))))))))))) (a := (Ann.fst (Ann.snd (Ann.snd (Ann.fst (Ann.fst (Ann.snd (Ann.fst (Ann.fst (Ann.snd (Ann.fst (Ann.snd (Ann.snd (Ann.snd (Ann.snd spec_TreeOk_an))))))))))))))) [(Code.fst (Code.fst (Code.fst (Code.snd (Code.fst (Code.fst (Code.snd (Code.fst (Code.snd (Code.snd (Code.snd (Code.snd (bodyOf Tryd.f32))))))))))))), (Code.fst (Code.snd (Code.fst (Code.fst (Code.snd (Code.fst (Code.fst (Code.snd (Code.fst (Code.snd (Code.snd (Code.snd (Code.snd (bodyOf Tryd.f32))))))))))))))] [(Ann.fst (Ann.fst (Ann.fst (Ann.snd (Ann.fst (Ann.fst (Ann.snd (Ann.fst (Ann.snd (Ann.snd (Ann.snd (Ann.snd spec_TreeOk_an)))))))))))), (Ann.fst (Ann.snd (Ann.fst (Ann.fst (Ann.snd (Ann.fst (Ann.fst (Ann.snd (Ann.fst (Ann.snd (Ann.snd (Ann.snd (Ann.snd spec_TreeOk_an)))))))))))))] rfl (link_seq2 (b := (Code.snd (Code.snd (Code.snd (Code.fst (Code.fst (Code.snd (Code.fst (Code.fst (Code.snd (Code.fst (Code.snd (Code.snd (Code.snd (Code.snd (bodyOf Tryd.f32)))))))))))))))) (y := (Ann.snd (Ann.snd (Ann.snd (Ann.fst (Ann.fst (Ann.snd (Ann.fst (Ann.fst (Ann.snd (Ann.fst (Ann.snd (Ann.snd (Ann.snd (Ann.snd spec_TreeOk_an))))))))))))))) (spec_TreeOk_n4_l x777 x791 x858 x859) (fun (t : Int × Int) => (link_map (spec_TreeOk_n11_l x777 x791 t.1 x859 t.2) (Sum.elim (fun (u : Unit) => (Sum.inl t.1)) (fun (u : Bool) => (Sum.inr u))) (by
  rintro (t | t)
  · kernel_rfl
  · kernel_rfl))) (fun (t : Bool) => (Sum.inr t)) (by
  rintro t
  · kernel_rfl) (by
  rintro t f K h
  · exact h)))

theorem spec_TreeOk_n13_l (x777 : List Int) (x791 : Int) (x858 : Int) (x859 : Int) : Link spec_TreeOk_ctx LL (Code.fst (Code.snd (Code.fst (Code.fst (Code.snd (Code.fst (Code.snd (Code.snd (Code.snd (Code.snd (bodyOf Tryd.f32))))))))))) (Ann.fst (Ann.snd (Ann.fst (Ann.fst (Ann.snd (Ann.fst (Ann.snd (Ann.snd (Ann.snd (Ann.snd spec_TreeOk_an)))))))))) (⟨mkE 65 0 [(0, .dat (.list (.int .i64)) x777), (3, .dat (.int .i64) x791), (4, .dat (.int .i64) x858), (5, .dat (.int .i64) x859)], []⟩ : St) (spec_TreeOk_n13 x777 x791 x858 x859) (Sum.elim (fun (t : Int) => (Exit.normal, (⟨mkE 65 0 [(0, .dat (.list (.int .i64)) x777), (3, .dat (.int .i64) x791), (4, .dat (.int .i64) t), (5, .dat (.int .i64) x859)], []⟩ : St))) (fun (t : Bool) => (Exit.ret, (⟨mkE 65 0 [(2, .dat .bool t)], []⟩ : St)))) := by
  unfold spec_TreeOk_n13
  exact Link.cast (by kernel_rfl) (by kernel_rfl) (link_block (id := 1) (spec_TreeOk_n12_l x777 x791 x858 x859) (Sum.elim (fun (t : Int) => (Sum.inl t)) (fun (t : Bool) => (Sum.inr t))) (by
  rintro (t | t) K h
  · exact Eq.mp (by kernel_rfl) h
  · exact Eq.mp (by kernel_rfl) h))

theorem spec_TreeOk_n14_l (x777 : List Int) (x791 : Int) (x887 : Int) (x859 : Int) : Link spec_TreeOk_ctx LL (Code.snd (Code.snd (Code.fst (Code.fst (Code.snd (Code.fst (Code.snd (Code.snd (Code.snd (Code.snd (bodyOf Tryd.f32))))))))))) (Ann.snd (Ann.snd (Ann.fst (Ann.fst (Ann.snd (Ann.fst (Ann.snd (Ann.snd (Ann.snd (Ann.snd spec_TreeOk_an)))))))))) (⟨mkE 65 0 [(0, .dat (.list (.int .i64)) x777), (3, .dat (.int .i64) x791), (4, .dat (.int .i64) x887), (5, .dat (.int .i64) x859)], []⟩ : St) (spec_TreeOk_n14 x859) (fun (t : Int) => (Exit.normal, (⟨mkE 65 0 [(0, .dat (.list (.int .i64)) x777), (3, .dat (.int .i64) x791), (4, .dat (.int .i64) x887), (5, .dat (.int .i64) t)], []⟩ : St))) := by
  refine Link.of fun K h => ?_
  simp only [spec_TreeOk_n14, wpO_bind, wpO_cond, wpO_map, wpO_some] at h
  exact Awp.of (by kernel_rfl) h

theorem spec_TreeOk_n15_l (x777 : List Int) (x791 : Int) (x858 : Int) (x859 : Int) : Link spec_TreeOk_ctx LL (Code.snd (Code.fst (Code.fst (Code.snd (Code.fst (Code.snd (Code.snd (Code.snd (Code.snd (bodyOf Tryd.f32)))))))))) (Ann.snd (Ann.fst (Ann.fst (Ann.snd (Ann.fst (Ann.snd (Ann.snd (Ann.snd (Ann.snd spec_TreeOk_an))))))))) (⟨mkE 65 0 [(0, .dat (.list (.int .i64)) x777), (3, .dat (.int .i64) x791), (4, .dat (.int .i64) x858), (5, .dat (.int .i64) x859)], []⟩ : St) (spec_TreeOk_n15 x777 x791 x858 x859) (Sum.elim (fun (t : Int × Int) => (Exit.normal, (⟨mkE 65 0 [(0, .dat (.list (.int .i64)) x777), (3, .dat (.int .i64) x791), (4, .dat (.int .i64) t.1), (5, .dat (.int .i64) t.2)], []⟩ : St))) (fun (t : Bool) => (Exit.ret, (⟨mkE 65 0 [(2, .dat .bool t)], []⟩ : St)))) := by
  unfold spec_TreeOk_n15
  exact Link.cast (by kernel_rfl) (by kernel_rfl) (link_seq2 (b := (Code.snd (Code.snd (Code.fst (Code.fst (Code.snd (Code.fst (Code.snd (Code.snd (Code.snd (Code.snd (bodyOf Tryd.f32)))))))))))) (y := (Ann.snd (Ann.snd (Ann.fst (Ann.fst (Ann.snd (Ann.fst (Ann.snd (Ann.snd (Ann.snd (Ann.snd spec_TreeOk_an))))))))))) (spec_TreeOk_n13_l x777 x791 x858 x859) (fun (t : Int) => (link_map (spec_TreeOk_n14_l x777 x791 t x859) (fun (u : Int) => (Sum.inl (t, u))) (by
  rintro t
  · kernel_rfl))) (fun (t : Bool) => (Sum.inr t)) (by
  rintro t
  · kernel_rfl) (by
  rintro t f K h
  · exact h))

theorem spec_TreeOk_n16_l (x777 : List Int) (x791 : Int) (x858 : Int) (x859 : Int) : Link spec_TreeOk_ctx LL (Code.fst (Code.fst (Code.snd (Code.fst (Code.snd (Code.snd (Code.snd (Code.snd (bodyOf Tryd.f32))))))))) (Ann.fst (Ann.fst (Ann.snd (Ann.fst (Ann.snd (Ann.snd (Ann.snd (Ann.snd spec_TreeOk_an)))))))) (⟨mkE 65 0 [(0, .dat (.list (.int .i64)) x777), (3, .dat (.int .i64) x791), (4, .dat (.int .i64) x858), (5, .dat (.int .i64) x859)], []⟩ : St) (spec_TreeOk_n16 x777 x791 x858 x859) (Sum.elim (fun (t : Int × Int) => (Exit.normal, (⟨mkE 65 0 [(0, .dat (.list (.int .i64)) x777), (3, .dat (.int .i64) x791), (4, .dat (.int .i64) t.1), (5, .dat (.int .i64) t.2)], []⟩ : St))) (Sum.elim (fun (t : Bool) => (Exit.ret, (⟨mkE 65 0 [(2, .dat .bool t)], []⟩ : St))) (fun (t : Int) => ((Exit.exit 0), (⟨mkE 65 0 [(4, .dat (.int .i64) t)], []⟩ : St))))) := by
  unfold spec_TreeOk_n16
  exact Link.cast (by kernel_rfl) (by kernel_rfl) (link_seq2 (b := (Code.snd (Code.fst (Code.fst (Code.snd (Code.fst (Code.snd (Code.snd (Code.snd (Code.snd (bodyOf Tryd.f32))))))))))) (y := (Ann.snd (Ann.fst (Ann.fst (Ann.snd (Ann.fst (Ann.snd (Ann.snd (Ann.snd (Ann.snd spec_TreeOk_an)))))))))) (spec_TreeOk_n3_l x777 x791 x858 x859) (fun (t : Unit) => (link_map (spec_TreeOk_n15_l x777 x791 x858 x859) (Sum.elim (fun (t : Int × Int) => (Sum.inl (t.1, t.2))) (fun (t : Bool) => (Sum.inr (Sum.inl t)))) (by
  rintro (t | t)
  · kernel_rfl
  · kernel_rfl))) (fun (t : Int) => (Sum.inr (Sum.inr t))) (by
  rintro t
  · kernel_rfl) (by
  rintro t f K h
  · exact h))

theorem spec_TreeOk_n17_l (x777 : List Int) (x791 : Int) : Link spec_TreeOk_ctx LL (Code.fst (Code.snd (Code.fst (Code.snd (Code.snd (Code.snd (Code.snd (bodyOf Tryd.f32)))))))) (Ann.fst (Ann.snd (Ann.fst (Ann.snd (Ann.snd (Ann.snd (Ann.snd spec_TreeOk_an))))))) (⟨mkE 65 0 [(0, .dat (.list (.int .i64)) x777), (3, .dat (.int .i64) x791), (4, .dat (.int .i64) 0), (5, .dat (.int .i64) 0)], []⟩ : St) (spec_TreeOk_n17 x777 x791) (Sum.elim (fun (t : Bool) => (Exit.ret, (⟨mkE 65 0 [(2, .dat .bool t)], []⟩ : St))) (fun (t : Int) => ((Exit.exit 0), (⟨mkE 65 0 [(4, .dat (.int .i64) t)], []⟩ : St)))) := by
  unfold spec_TreeOk_n17
  exact Link.cast (by kernel_rfl) (by kernel_rfl) (link_loop (mk := fun (s : Int × Int) => (⟨mkE 65 0 [(0, .dat (.list (.int .i64)) x777), (3, .dat (.int .i64) x791), (4, .dat (.int .i64) s.1), (5, .dat (.int .i64) s.2)], []⟩ : St)) (fin := (Sum.elim (fun (t : Bool) => (Exit.ret, (⟨mkE 65 0 [(2, .dat .bool t)], []⟩ : St))) (fun (t : Int) => ((Exit.exit 0), (⟨mkE 65 0 [(4, .dat (.int .i64) t)], []⟩ : St))))) (by
  rintro (t | t) f K h
  · exact h
  · exact h) (fun s => link_map (spec_TreeOk_n16_l x777 x791 s.1 s.2) (Sum.elim (fun (t : Int × Int) => Sum.inl (t.1, t.2)) (Sum.elim (fun (t : Bool) => Sum.inr (Sum.inl t)) (fun (t : Int) => Sum.inr (Sum.inr t)))) (by
  rintro (t | t | t)
  · kernel_rfl
  · kernel_rfl
  · kernel_rfl)) (0, 0))

theorem spec_TreeOk_n18_l (x777 : List Int) (x791 : Int) : Link spec_TreeOk_ctx LL (Code.snd (Code.fst (Code.snd (Code.snd (Code.snd (Code.snd (bodyOf Tryd.f32))))))) (Ann.snd (Ann.fst (Ann.snd (Ann.snd (Ann.snd (Ann.snd spec_TreeOk_an)))))) (⟨mkE 65 0 [(0, .dat (.list (.int .i64)) x777), (3, .dat (.int .i64) x791), (4, .dat (.int .i64) 0), (5, .dat (.int .i64) 0)], []⟩ : St) (spec_TreeOk_n18 x777 x791) (Sum.elim (fun (t : Int) => (Exit.normal, (⟨mkE 65 0 [(4, .dat (.int .i64) t)], []⟩ : St))) (fun (t : Bool) => (Exit.ret, (⟨mkE 65 0 [(2, .dat .bool t)], []⟩ : St)))) := by
  unfold spec_TreeOk_n18
  exact Link.cast (by kernel_rfl) (by kernel_rfl) (link_block (id := 0) (spec_TreeOk_n17_l x777 x791) (Sum.elim (fun (t : Bool) => (Sum.inr t)) (fun (t : Int) => (Sum.inl t))) (by
  rintro (t | t) K h
  · exact Eq.mp (by kernel_rfl) h
  · exact Eq.mp (by kernel_rfl) h))

theorem spec_TreeOk_n19_l (x777 : List Int) (x791 : Int) : Link spec_TreeOk_ctx LL (Code.fst (Code.snd (Code.snd (Code.snd (Code.snd (bodyOf Tryd.f32)))))) (Ann.fst (Ann.snd (Ann.snd (Ann.snd (Ann.snd spec_TreeOk_an))))) (⟨mkE 65 0 [(0, .dat (.list (.int .i64)) x777), (3, .dat (.int .i64) x791), (4, .dat (.int .i64) 0)], []⟩ : St) (spec_TreeOk_n19 x777 x791) (Sum.elim (fun (t : Int) => (Exit.normal, (⟨mkE 65 0 [(4, .dat (.int .i64) t)], []⟩ : St))) (fun (t : Bool) => (Exit.ret, (⟨mkE 65 0 [(2, .dat .bool t)], []⟩ : St)))) := by
  unfold spec_TreeOk_n19
  exact Link.cast (by kernel_rfl) (by kernel_rfl) (link_seq (b := (Code.snd (Code.fst (Code.snd (Code.snd (Code.snd (Code.snd (bodyOf Tryd.f32)))))))) (y := (Ann.snd (Ann.fst (Ann.snd (Ann.snd (Ann.snd (Ann.snd spec_TreeOk_an))))))) (spec_TreeOk_n2_l x777 x791) (fun (t : Unit) => (spec_TreeOk_n18_l x777 x791)))

theorem spec_TreeOk_n20_l (x858 : Int) : Link spec_TreeOk_ctx LL (Code.snd (Code.snd (Code.snd (Code.snd (Code.snd (bodyOf Tryd.f32)))))) (Ann.snd (Ann.snd (Ann.snd (Ann.snd (Ann.snd spec_TreeOk_an))))) (⟨mkE 65 0 [(4, .dat (.int .i64) x858)], []⟩ : St) (spec_TreeOk_n20 x858) (fun (t : Bool) => (Exit.ret, (⟨mkE 65 0 [(2, .dat .bool t)], []⟩ : St))) := by
  refine Link.of fun K h => ?_
  simp only [spec_TreeOk_n20, wpO_bind, wpO_cond, wpO_map, wpO_some] at h
  exact Awp.of (by kernel_rfl) h

theorem spec_TreeOk_n21_l (x777 : List Int) (x791 : Int) : Link spec_TreeOk_ctx LL (Code.snd (Code.snd (Code.snd (Code.snd (bodyOf Tryd.f32))))) (Ann.snd (Ann.snd (Ann.snd (Ann.snd spec_TreeOk_an)))) (⟨mkE 65 0 [(0, .dat (.list (.int .i64)) x777), (3, .dat (.int .i64) x791), (4, .dat (.int .i64) 0)], []⟩ : St) (spec_TreeOk_n21 x777 x791) (fun (t : Bool) => (Exit.ret, (⟨mkE 65 0 [(2, .dat .bool t)], []⟩ : St))) := by
  unfold spec_TreeOk_n21
  exact Link.cast (by kernel_rfl) (by kernel_rfl) (link_seq2 (b := (Code.snd (Code.snd (Code.snd (Code.snd (Code.snd (bodyOf Tryd.f32))))))) (y := (Ann.snd (Ann.snd (Ann.snd (Ann.snd (Ann.snd spec_TreeOk_an)))))) (spec_TreeOk_n19_l x777 x791) (fun (t : Int) => (spec_TreeOk_n20_l t)) (fun (t : Bool) => t) (by
  rintro t
  · kernel_rfl) (by
  rintro t f K h
  · exact h))

theorem spec_TreeOk_n22_l (x777 : List Int) : Link spec_TreeOk_ctx LL (bodyOf Tryd.f32) spec_TreeOk_an (⟨mkE 65 0 [(0, .dat (.list (.int .i64)) x777)], []⟩ : St) (spec_TreeOk_n22 x777) (fun (t : Bool) => (Exit.ret, (⟨mkE 65 0 [(2, .dat .bool t)], []⟩ : St))) := by
  unfold spec_TreeOk_n22
  exact Link.cast (by kernel_rfl) (by kernel_rfl) (link_group (c := (Code.fst (Code.snd (Code.snd (Code.snd (bodyOf Tryd.f32)))))) (a := (Ann.fst (Ann.snd (Ann.snd (Ann.snd spec_TreeOk_an))))) [(Code.fst (bodyOf Tryd.f32)), (Code.fst (Code.snd (bodyOf Tryd.f32))), (Code.fst (Code.snd (Code.snd (bodyOf Tryd.f32))))] [(Ann.fst spec_TreeOk_an), (Ann.fst (Ann.snd spec_TreeOk_an)), (Ann.fst (Ann.snd (Ann.snd spec_TreeOk_an)))] rfl (link_seq2 (b := (Code.snd (Code.snd (Code.snd (Code.snd (bodyOf Tryd.f32)))))) (y := (Ann.snd (Ann.snd (Ann.snd (Ann.snd spec_TreeOk_an))))) (spec_TreeOk_n1_l x777) (fun (t : Int) => (spec_TreeOk_n21_l x777 t)) (fun (t : Bool) => t) (by
  rintro t
  · kernel_rfl) (by
  rintro t f K h
  · exact h)))

theorem spec_TreeOk_e (x777 : List Int) {r : AV} {H' : Heap} (h : (Ans.mk _ (spec_TreeOk x777) (fun (t : Bool) => (.dat .bool t, []))).run = some (r, H')) : Awp spec_TreeOk_ctx LL (bodyOf Tryd.f32) spec_TreeOk_an (⟨mkE 65 0 [(0, .dat (.list (.int .i64)) x777)], []⟩ : St) (Ret (tlook tys) Tryd.f32.results.toList r H') :=
  ret_of' (spec_TreeOk_n22_l x777) (by unfold spec_TreeOk; kernel_rfl) (by
  intro t
  exact ret_mk [.dat .bool t] (by kernel_rfl) (by kernel_rfl) (by kernel_rfl) (by kernel_rfl)) h

def F_spec_TreeOk : Fun := fun avs H =>
  match avs, H with
  | [.dat (.list (.int .i64)) x777], [] => ⟨_, spec_TreeOk x777, fun (t : Bool) => (.dat .bool t, [])⟩
  | _, _ => Ans.no

theorem spec_TreeOk_sound : Sound Tryd.prog 32 F_spec_TreeOk := by
  refine fn_sound' (C := spec_TreeOk_ctx) (c := bodyOf Tryd.f32) (cok_of tys_ok (List.forall_mem_cons.2 ⟨spec_l1In_sound, by simp⟩) (List.forall_mem_cons.2 ⟨Tryd.call45, by simp⟩) (by kernel_rfl)) Tryd.func32 (by kernel_rfl) LL spec_TreeOk_an ?_
  intro avs H r H' h
  unfold F_spec_TreeOk at h
  split at h
  · refine Awp.cast ?_ ?_ ?_ (spec_TreeOk_e _ h) <;> kernel_rfl
  · simp [Ans.no, Ans.run] at h


/-! loop.example/headtrees/spec.OrderOk -/

def spec_OrderOk_an : Ann := (.seq (.leaf [0, 1]) (.seq (.seq (.leaf [0, 1, 5]) (.block (.loop (.seq (.seq (.leaf [0, 1, 5, 10]) (.cond (.leaf [0, 1, 5]) (.leaf [0, 1]))) (.seq (.block (.seq (.seq (.leaf [0, 1, 5, 19]) (.cond (.seq (.leaf [4]) (.leaf [4])) (.leaf [0, 1, 5]))) (.seq (.leaf [0, 1, 5, 6]) (.block (.loop (.seq (.seq (.leaf [0, 1, 5, 6, 22]) (.cond (.leaf [0, 1, 5, 6]) (.leaf [0, 1, 5]))) (.seq (.block (.seq (.draw [] [0, 1, 2, 3, 4, 5, 6, 7, 8] [] [0, 1, 5, 6, 33]) (.cond (.seq (.leaf [4]) (.leaf [4])) (.leaf [0, 1, 5, 6])))) (.leaf [0, 1, 5, 6])))))))) (.leaf [0, 1, 5])))))) (.seq (.leaf [4]) (.leaf [4]))))

noncomputable def spec_OrderOk_ctx : Ctx := ⟨tlook tys, olook [(45, F_spec_l1In)], ioF, 0, false⟩

theorem spec_OrderOk_n1_l (x937 : List Int) (x938 : Int) : Link spec_OrderOk_ctx LL (Code.fst (bodyOf Tryd.f87)) (Ann.fst spec_OrderOk_an) (⟨mkE 42 0 [(0, .dat (.list (.int .i64)) x937), (1, .dat (.int .i64) x938)], []⟩ : St) (spec_OrderOk_n1) (fun (t : Unit) => (Exit.normal, (⟨mkE 42 0 [(0, .dat (.list (.int .i64)) x937), (1, .dat (.int .i64) x938)], []⟩ : St))) := by
  refine Link.of fun K h => ?_
  simp only [spec_OrderOk_n1, wpO_bind, wpO_cond, wpO_map, wpO_some] at h
  exact Awp.of (by kernel_rfl) h

theorem spec_OrderOk_n2_l (x937 : List Int) (x938 : Int) : Link spec_OrderOk_ctx LL (Code.fst (Code.fst (Code.snd (bodyOf Tryd.f87)))) (Ann.fst (Ann.fst (Ann.snd spec_OrderOk_an))) (⟨mkE 42 0 [(0, .dat (.list (.int .i64)) x937), (1, .dat (.int .i64) x938)], []⟩ : St) (spec_OrderOk_n2) (fun (t : Unit) => (Exit.normal, (⟨mkE 42 0 [(0, .dat (.list (.int .i64)) x937), (1, .dat (.int .i64) x938), (5, .dat (.int .i64) 0)], []⟩ : St))) := by
  refine Link.of fun K h => ?_
  simp only [spec_OrderOk_n2, wpO_bind, wpO_cond, wpO_map, wpO_some] at h
  exact Awp.of (by kernel_rfl) h

theorem spec_OrderOk_n3_l (x937 : List Int) (x938 : Int) (x969 : Int) : Link spec_OrderOk_ctx LL (Code.fst (Code.fst (Code.fst (Code.snd (Code.fst (Code.snd (bodyOf Tryd.f87))))))) (Ann.fst (Ann.fst (Ann.fst (Ann.snd (Ann.fst (Ann.snd spec_OrderOk_an)))))) (⟨mkE 42 0 [(0, .dat (.list (.int .i64)) x937), (1, .dat (.int .i64) x938), (5, .dat (.int .i64) x969)], []⟩ : St) (spec_OrderOk_n3 x937 x969) (Sum.elim (fun (t : Unit) => (Exit.normal, (⟨mkE 42 0 [(0, .dat (.list (.int .i64)) x937), (1, .dat (.int .i64) x938), (5, .dat (.int .i64) x969)], []⟩ : St))) (fun (t : Unit) => ((Exit.exit 0), (⟨mkE 42 0 [(0, .dat (.list (.int .i64)) x937), (1, .dat (.int .i64) x938)], []⟩ : St)))) := by
  refine Link.of fun K h => ?_
  simp only [spec_OrderOk_n3, wpO_bind, wpO_cond, wpO_map, wpO_some] at h
  exact Awp.of (by kernel_rfl) h

theorem spec_OrderOk_n4_l (x937 : List Int) (x938 : Int) (x969 : Int) : Link spec_OrderOk_ctx LL (Code.seq (Code.fst (Code.fst (Code.fst (Code.snd (Code.fst (Code.fst (Code.snd (Code.fst (Code.snd (bodyOf Tryd.f87)))))))))) (Code.fst (Code.snd (Code.fst (Code.fst (Code.snd (Code.fst (Code.fst (Code.snd (Code.fst (Code.snd (bodyOf Tryd.f87)))))))))))) (Ann.seq (Ann.fst (Ann.fst (Ann.fst (Ann.snd (Ann.fst (Ann.fst (Ann.snd (Ann.fst (Ann.snd spec_OrderOk_an))))))))) (Ann.fst (Ann.snd (Ann.fst (Ann.fst (Ann.snd (Ann.fst (Ann.fst (Ann.snd (Ann.fst (Ann.snd spec_OrderOk_an))))))))))) (⟨mkE 42 0 [(0, .dat (.list (.int .i64)) x937), (1, .dat (.int .i64) x938), (5, .dat (.int .i64) x969)], []⟩ : St) (spec_OrderOk_n4 x937 x938 x969) (Sum.elim (fun (t : Unit) => (Exit.normal, (⟨mkE 42 0 [(0, .dat (.list (.int .i64)) x937), (1, .dat (.int .i64) x938), (5, .dat (.int .i64) x969), (6, .dat (.int .i64) 0)], []⟩ : St))) (fun (t : Bool) => (Exit.ret, (⟨mkE 42 0 [(4, .dat .bool t)], []⟩ : St)))) := by
  refine Link.of fun K h => ?_
  simp only [spec_OrderOk_n4, wpO_bind, wpO_cond, wpO_map, wpO_some] at h
  exact Awp.of (by kernel_rfl) h

theorem spec_OrderOk_n5_l (x937 : List Int) (x938 : Int) (x969 : Int) (x988 : Int) : Link spec_OrderOk_ctx LL (Code.fst (Code.fst (Code.snd (Code.snd (Code.fst (Code.fst (Code.snd (Code.fst (Code.fst (Code.snd (Code.fst (Code.snd (bodyOf Tryd.f87))))))))))))) (Ann.fst (Ann.fst (Ann.snd (Ann.snd (Ann.fst (Ann.fst (Ann.snd (Ann.fst (Ann.fst (Ann.snd (Ann.fst (Ann.snd spec_OrderOk_an)))))))))))) (⟨mkE 42 0 [(0, .dat (.list (.int .i64)) x937), (1, .dat (.int .i64) x938), (5, .dat (.int .i64) x969), (6, .dat (.int .i64) x988)], []⟩ : St) (spec_OrderOk_n5 x937 x969 x988) (Sum.elim (fun (t : Int) => (Exit.normal, (⟨mkE 42 0 [(0, .dat (.list (.int .i64)) x937), (1, .dat (.int .i64) x938), (5, .dat (.int .i64) x969), (6, .dat (.int .i64) t)], []⟩ : St))) (Sum.elim (fun (t : Bool) => (Exit.ret, (⟨mkE 42 0 [(4, .dat .bool t)], []⟩ : St))) (fun (t : Unit) => ((Exit.exit 2), (⟨mkE 42 0 [(0, .dat (.list (.int .i64)) x937), (1, .dat (.int .i64) x938), (5, .dat (.int .i64) x969)], []⟩ : St))))) := by
  refine Link.of fun K h => ?_
  simp only [spec_OrderOk_n5, wpO_bind, wpO_cond, wpO_map, wpO_some] at h
  exact Awp.of (by kernel_rfl) h

theorem spec_OrderOk_n6_l (x937 : List Int) (x938 : Int) (x969 : Int) : Link spec_OrderOk_ctx LL (Code.fst (Code.snd (Code.snd (Code.fst (Code.fst (Code.snd (Code.fst (Code.fst (Code.snd (Code.fst (Code.snd (bodyOf Tryd.f87)))))))))))) (Ann.fst (Ann.snd (Ann.snd (Ann.fst (Ann.fst (Ann.snd (Ann.fst (Ann.fst (Ann.snd (Ann.fst (Ann.snd spec_OrderOk_an))))))))))) (⟨mkE 42 0 [(0, .dat (.list (.int .i64)) x937), (1, .dat (.int .i64) x938), (5, .dat (.int .i64) x969), (6, .dat (.int .i64) 0)], []⟩ : St) (spec_OrderOk_n6 x937 x969) (Sum.elim (fun (t : Bool) => (Exit.ret, (⟨mkE 42 0 [(4, .dat .bool t)], []⟩ : St))) (fun (t : Unit) => ((Exit.exit 2), (⟨mkE 42 0 [(0, .dat (.list (.int .i64)) x937), (1, .dat (.int .i64) x938), (5, .dat (.int .i64) x969)], []⟩ : St)))) := by
  unfold spec_OrderOk_n6
  exact Link.cast (by kernel_rfl) (by kernel_rfl) (link_loop (mk := fun (s : Int) => (⟨mkE 42 0 [(0, .dat (.list (.int .i64)) x937), (1, .dat (.int .i64) x938), (5, .dat (.int .i64) x969), (6, .dat (.int .i64) s)], []⟩ : St)) (fin := (Sum.elim (fun (t : Bool) => (Exit.ret, (⟨mkE 42 0 [(4, .dat .bool t)], []⟩ : St))) (fun (t : Unit) => ((Exit.exit 2), (⟨mkE 42 0 [(0, .dat (.list (.int .i64)) x937), (1, .dat (.int .i64) x938), (5, .dat (.int .i64) x969)], []⟩ : St))))) (by
  rintro (t | t) f K h
  · exact h
  · exact h) (fun s => link_map (spec_OrderOk_n5_l x937 x938 x969 s) (Sum.elim (fun (t : Int) => Sum.inl t) (Sum.elim (fun (t : Bool) => Sum.inr (Sum.inl t)) (fun (t : Unit) => Sum.inr (Sum.inr t)))) (by
  rintro (t | t | t)
  · kernel_rfl
  · kernel_rfl
  · kernel_rfl)) 0)

theorem spec_OrderOk_n7_l (x937 : List Int) (x938 : Int) (x969 : Int) : Link spec_OrderOk_ctx LL (Code.snd (Code.snd (Code.fst (Code.fst (Code.snd (Code.fst (Code.fst (Code.snd (Code.fst (Code.snd (bodyOf Tryd.f87))))))))))) (Ann.snd (Ann.snd (Ann.fst (Ann.fst (Ann.snd (Ann.fst (Ann.fst (Ann.snd (Ann.fst (Ann.snd spec_OrderOk_an)))))))))) (⟨mkE 42 0 [(0, .dat (.list (.int .i64)) x937), (1, .dat (.int .i64) x938), (5, .dat (.int .i64) x969), (6, .dat (.int .i64) 0)], []⟩ : St) (spec_OrderOk_n7 x937 x969) (Sum.elim (fun (t : Unit) => (Exit.normal, (⟨mkE 42 0 [(0, .dat (.list (.int .i64)) x937), (1, .dat (.int .i64) x938), (5, .dat (.int .i64) x969)], []⟩ : St))) (fun (t : Bool) => (Exit.ret, (⟨mkE 42 0 [(4, .dat .bool t)], []⟩ : St)))) := by
  unfold spec_OrderOk_n7
  exact Link.cast (by kernel_rfl) (by kernel_rfl) (link_block (id := 2) (spec_OrderOk_n6_l x937 x938 x969) (Sum.elim (fun (t : Bool) => (Sum.inr t)) (fun (t : Unit) => (Sum.inl ()))) (by
  rintro (t | t) K h
  · exact Eq.mp (by kernel_rfl) h
  · exact Eq.mp (by kernel_rfl) h))

theorem spec_OrderOk_n8_l (x937 : List Int) (x938 : Int) (x969 : Int) : Link spec_OrderOk_ctx LL (Code.fst (Code.fst (Code.snd (Code.fst (Code.fst (Code.snd (Code.fst (Code.snd (bodyOf Tryd.f87))))))))) (Ann.fst (Ann.fst (Ann.snd (Ann.fst (Ann.fst (Ann.snd (Ann.fst (Ann.snd spec_OrderOk_an)))))))) (⟨mkE 42 0 [(0, .dat (.list (.int .i64)) x937), (1, .dat (.int .i64) x938), (5, .dat (.int .i64) x969)], []⟩ : St) (spec_OrderOk_n8 x937 x938 x969) (Sum.elim (fun (t : Unit) => (Exit.normal, (⟨mkE 42 0 [(0, .dat (.list (.int .i64)) x937), (1, .dat (.int .i64) x938), (5, .dat (.int .i64) x969)], []⟩ : St))) (fun (t : Bool) => (Exit.ret, (⟨mkE 42 0 [(4, .dat .bool t)], []⟩ : St)))) := by
  unfold spec_OrderOk_n8
  exact Link.cast (by kernel_rfl) (by kernel_rfl) (link_group (c := (Code.fst (Code.snd (Code.fst (Code.fst (Code.snd (Code.fst (Code.fst (Code.snd (Code.fst (Code.snd (bodyOf Tryd.f87)))))))))))) (a := (Ann.fst (Ann.snd (Ann.fst (Ann.fst (Ann.snd (Ann.fst (Ann.fst (Ann.snd (Ann.fst (Ann.snd spec_OrderOk_an))))))))))) [(Code.fst (Code.fst (Code.fst (Code.snd (Code.fst (Code.fst (Code.snd (Code.fst (Code.snd (bodyOf Tryd.f87))))))))))] [(Ann.fst (Ann.fst (Ann.fst (Ann.snd (Ann.fst (Ann.fst (Ann.snd (Ann.fst (Ann.snd spec_OrderOk_an)))))))))] rfl (link_seq2 (b := (Code.snd (Code.snd (Code.fst (Code.fst (Code.snd (Code.fst (Code.fst (Code.snd (Code.fst (Code.snd (bodyOf Tryd.f87)))))))))))) (y := (Ann.snd (Ann.snd (Ann.fst (Ann.fst (Ann.snd (Ann.fst (Ann.fst (Ann.snd (Ann.fst (Ann.snd spec_OrderOk_an))))))))))) (spec_OrderOk_n4_l x937 x938 x969) (fun (t : Unit) => (spec_OrderOk_n7_l x937 x938 x969)) (fun (t : Bool) => (Sum.inr t)) (by
  rintro t
  · kernel_rfl) (by
  rintro t f K h
  · exact h)))

theorem spec_OrderOk_n9_l (x937 : List Int) (x938 : Int) (x969 : Int) : Link spec_OrderOk_ctx LL (Code.fst (Code.snd (Code.fst (Code.fst (Code.snd (Code.fst (Code.snd (bodyOf Tryd.f87)))))))) (Ann.fst (Ann.snd (Ann.fst (Ann.fst (Ann.snd (Ann.fst (Ann.snd spec_OrderOk_an))))))) (⟨mkE 42 0 [(0, .dat (.list (.int .i64)) x937), (1, .dat (.int .i64) x938), (5, .dat (.int .i64) x969)], []⟩ : St) (spec_OrderOk_n9 x937 x938 x969) (Sum.elim (fun (t : Unit) => (Exit.normal, (⟨mkE 42 0 [(0, .dat (.list (.int .i64)) x937), (1, .dat (.int .i64) x938), (5, .dat (.int .i64) x969)], []⟩ : St))) (fun (t : Bool) => (Exit.ret, (⟨mkE 42 0 [(4, .dat .bool t)], []⟩ : St)))) := by
  unfold spec_OrderOk_n9
  exact Link.cast (by kernel_rfl) (by kernel_rfl) (link_block (id := 1) (spec_OrderOk_n8_l x937 x938 x969) (Sum.elim (fun (t : Unit) => (Sum.inl ())) (fun (t : Bool) => (Sum.inr t))) (by
  rintro (t | t) K h
  · exact Eq.mp (by kernel_rfl) h
  · exact Eq.mp (by kernel_rfl) h))

theorem spec_OrderOk_n10_l (x937 : List Int) (x938 : Int) (x969 : Int) : Link spec_OrderOk_ctx LL (Code.snd (Code.snd (Code.fst (Code.fst (Code.snd (Code.fst (Code.snd (bodyOf Tryd.f87)))))))) (Ann.snd (Ann.snd (Ann.fst (Ann.fst (Ann.snd (Ann.fst (Ann.snd spec_OrderOk_an))))))) (⟨mkE 42 0 [(0, .dat (.list (.int .i64)) x937), (1, .dat (.int .i64) x938), (5, .dat (.int .i64) x969)], []⟩ : St) (spec_OrderOk_n10 x969) (fun (t : Int) => (Exit.normal, (⟨mkE 42 0 [(0, .dat (.list (.int .i64)) x937), (1, .dat (.int .i64) x938), (5, .dat (.int .i64) t)], []⟩ : St))) := by
  refine Link.of fun K h => ?_
  simp only [spec_OrderOk_n10, wpO_bind, wpO_cond, wpO_map, wpO_some] at h
  exact Awp.of (by kernel_rfl) h

theorem spec_OrderOk_n11_l (x937 : List Int) (x938 : Int) (x969 : Int) : Link spec_OrderOk_ctx LL (Code.snd (Code.fst (Code.fst (Code.snd (Code.fst (Code.snd (bodyOf Tryd.f87))))))) (Ann.snd (Ann.fst (Ann.fst (Ann.snd (Ann.fst (Ann.snd spec_OrderOk_an)))))) (⟨mkE 42 0 [(0, .dat (.list (.int .i64)) x937), (1, .dat (.int .i64) x938), (5, .dat (.int .i64) x969)], []⟩ : St) (spec_OrderOk_n11 x937 x938 x969) (Sum.elim (fun (t : Int) => (Exit.normal, (⟨mkE 42 0 [(0, .dat (.list (.int .i64)) x937), (1, .dat (.int .i64) x938), (5, .dat (.int .i64) t)], []⟩ : St))) (fun (t : Bool) => (Exit.ret, (⟨mkE 42 0 [(4, .dat .bool t)], []⟩ : St)))) := by
  unfold spec_OrderOk_n11
  exact Link.cast (by kernel_rfl) (by kernel_rfl) (link_seq2 (b := (Code.snd (Code.snd (Code.fst (Code.fst (Code.snd (Code.fst (Code.snd (bodyOf Tryd.f87))))))))) (y := (Ann.snd (Ann.snd (Ann.fst (Ann.fst (Ann.snd (Ann.fst (Ann.snd spec_OrderOk_an)))))))) (spec_OrderOk_n9_l x937 x938 x969) (fun (t : Unit) => (link_map (spec_OrderOk_n10_l x937 x938 x969) (fun (t : Int) => (Sum.inl t)) (by
  rintro t
  · kernel_rfl))) (fun (t : Bool) => (Sum.inr t)) (by
  rintro t
  · kernel_rfl) (by
  rintro t f K h
  · exact h))

theorem spec_OrderOk_n12_l (x937 : List Int) (x938 : Int) (x969 : Int) : Link spec_OrderOk_ctx LL (Code.fst (Code.fst (Code.snd (Code.fst (Code.snd (bodyOf Tryd.f87)))))) (Ann.fst (Ann.fst (Ann.snd (Ann.fst (Ann.snd spec_OrderOk_an))))) (⟨mkE 42 0 [(0, .dat (.list (.int .i64)) x937), (1, .dat (.int .i64) x938), (5, .dat (.int .i64) x969)], []⟩ : St) (spec_OrderOk_n12 x937 x938 x969) (Sum.elim (fun (t : Int) => (Exit.normal, (⟨mkE 42 0 [(0, .dat (.list (.int .i64)) x937), (1, .dat (.int .i64) x938), (5, .dat (.int .i64) t)], []⟩ : St))) (Sum.elim (fun (t : Bool) => (Exit.ret, (⟨mkE 42 0 [(4, .dat .bool t)], []⟩ : St))) (fun (t : Unit) => ((Exit.exit 0), (⟨mkE 42 0 [(0, .dat (.list (.int .i64)) x937), (1, .dat (.int .i64) x938)], []⟩ : St))))) := by
  unfold spec_OrderOk_n12
  exact Link.cast (by kernel_rfl) (by kernel_rfl) (link_seq2 (b := (Code.snd (Code.fst (Code.fst (Code.snd (Code.fst (Code.snd (bodyOf Tryd.f87)))))))) (y := (Ann.snd (Ann.fst (Ann.fst (Ann.snd (Ann.fst (Ann.snd spec_OrderOk_an))))))) (spec_OrderOk_n3_l x937 x938 x969) (fun (t : Unit) => (link_map (spec_OrderOk_n11_l x937 x938 x969) (Sum.elim (fun (t : Int) => (Sum.inl t)) (fun (t : Bool) => (Sum.inr (Sum.inl t)))) (by
  rintro (t | t)
  · kernel_rfl
  · kernel_rfl))) (fun (t : Unit) => (Sum.inr (Sum.inr t))) (by
  rintro t
  · kernel_rfl) (by
  rintro t f K h
  · exact h))

theorem spec_OrderOk_n13_l (x937 : List Int) (x938 : Int) : Link spec_OrderOk_ctx LL (Code.fst (Code.snd (Code.fst (Code.snd (bodyOf Tryd.f87))))) (Ann.fst (Ann.snd (Ann.fst (Ann.snd spec_OrderOk_an)))) (⟨mkE 42 0 [(0, .dat (.list (.int .i64)) x937), (1, .dat (.int .i64) x938), (5, .dat (.int .i64) 0)], []⟩ : St) (spec_OrderOk_n13 x937 x938) (Sum.elim (fun (t : Bool) => (Exit.ret, (⟨mkE 42 0 [(4, .dat .bool t)], []⟩ : St))) (fun (t : Unit) => ((Exit.exit 0), (⟨mkE 42 0 [(0, .dat (.list (.int .i64)) x937), (1, .dat (.int .i64) x938)], []⟩ : St)))) := by
  unfold spec_OrderOk_n13
  exact Link.cast (by kernel_rfl) (by kernel_rfl) (link_loop (mk := fun (s : Int) => (⟨mkE 42 0 [(0, .dat (.list (.int .i64)) x937), (1, .dat (.int .i64) x938), (5, .dat (.int .i64) s)], []⟩ : St)) (fin := (Sum.elim (fun (t : Bool) => (Exit.ret, (⟨mkE 42 0 [(4, .dat .bool t)], []⟩ : St))) (fun (t : Unit) => ((Exit.exit 0), (⟨mkE 42 0 [(0, .dat (.list (.int .i64)) x937), (1, .dat (.int .i64) x938)], []⟩ : St))))) (by
  rintro (t | t) f K h
  · exact h
  · exact h) (fun s => link_map (spec_OrderOk_n12_l x937 x938 s) (Sum.elim (fun (t : Int) => Sum.inl t) (Sum.elim (fun (t : Bool) => Sum.inr (Sum.inl t)) (fun (t : Unit) => Sum.inr (Sum.inr t)))) (by
  rintro (t | t | t)
  · kernel_rfl
  · kernel_rfl
  · kernel_rfl)) 0)

theorem spec_OrderOk_n14_l (x937 : List Int) (x938 : Int) : Link spec_OrderOk_ctx LL (Code.snd (Code.fst (Code.snd (bodyOf Tryd.f87)))) (Ann.snd (Ann.fst (Ann.snd spec_OrderOk_an))) (⟨mkE 42 0 [(0, .dat (.list (.int .i64)) x937), (1, .dat (.int .i64) x938), (5, .dat (.int .i64) 0)], []⟩ : St) (spec_OrderOk_n14 x937 x938) (Sum.elim (fun (t : Unit) => (Exit.normal, (⟨mkE 42 0 [(0, .dat (.list (.int .i64)) x937), (1, .dat (.int .i64) x938)], []⟩ : St))) (fun (t : Bool) => (Exit.ret, (⟨mkE 42 0 [(4, .dat .bool t)], []⟩ : St)))) := by
  unfold spec_OrderOk_n14
  exact Link.cast (by kernel_rfl) (by kernel_rfl) (link_block (id := 0) (spec_OrderOk_n13_l x937 x938) (Sum.elim (fun (t : Bool) => (Sum.inr t)) (fun (t : Unit) => (Sum.inl ()))) (by
  rintro (t | t) K h
  · exact Eq.mp (by kernel_rfl) h
  · exact Eq.mp (by kernel_rfl) h))

theorem spec_OrderOk_n15_l (x937 : List Int) (x938 : Int) : Link spec_OrderOk_ctx LL (Code.fst (Code.snd (bodyOf Tryd.f87))) (Ann.fst (Ann.snd spec_OrderOk_an)) (⟨mkE 42 0 [(0, .dat (.list (.int .i64)) x937), (1, .dat (.int .i64) x938)], []⟩ : St) (spec_OrderOk_n15 x937 x938) (Sum.elim (fun (t : Unit) => (Exit.normal, (⟨mkE 42 0 [(0, .dat (.list (.int .i64)) x937), (1, .dat (.int .i64) x938)], []⟩ : St))) (fun (t : Bool) => (Exit.ret, (⟨mkE 42 0 [(4, .dat .bool t)], []⟩ : St)))) := by
  unfold spec_OrderOk_n15
  exact Link.cast (by kernel_rfl) (by kernel_rfl) (link_seq (b := (Code.snd (Code.fst (Code.snd (bodyOf Tryd.f87))))) (y := (Ann.snd (Ann.fst (Ann.snd spec_OrderOk_an)))) (spec_OrderOk_n2_l x937 x938) (fun (t : Unit) => (spec_OrderOk_n14_l x937 x938)))

theorem spec_OrderOk_n16_l (x937 : List Int) (x938 : Int) : Link spec_OrderOk_ctx LL (Code.snd (Code.snd (bodyOf Tryd.f87))) (Ann.snd (Ann.snd spec_OrderOk_an)) (⟨mkE 42 0 [(0, .dat (.list (.int .i64)) x937), (1, .dat (.int .i64) x938)], []⟩ : St) (spec_OrderOk_n16 x937 x938) (fun (t : Bool) => (Exit.ret, (⟨mkE 42 0 [(4, .dat .bool t)], []⟩ : St))) := by
  refine Link.of fun K h => ?_
  simp only [spec_OrderOk_n16, wpO_bind, wpO_cond, wpO_map, wpO_some] at h
  exact Awp.of (by kernel_rfl) h

theorem spec_OrderOk_n17_l (x937 : List Int) (x938 : Int) : Link spec_OrderOk_ctx LL (Code.snd (bodyOf Tryd.f87)) (Ann.snd spec_OrderOk_an) (⟨mkE 42 0 [(0, .dat (.list (.int .i64)) x937), (1, .dat (.int .i64) x938)], []⟩ : St) (spec_OrderOk_n17 x937 x938) (fun (t : Bool) => (Exit.ret, (⟨mkE 42 0 [(4, .dat .bool t)], []⟩ : St))) := by
  unfold spec_OrderOk_n17
  exact Link.cast (by kernel_rfl) (by kernel_rfl) (link_seq2 (b := (Code.snd (Code.snd (bodyOf Tryd.f87)))) (y := (Ann.snd (Ann.snd spec_OrderOk_an))) (spec_OrderOk_n15_l x937 x938) (fun (t : Unit) => (spec_OrderOk_n16_l x937 x938)) (fun (t : Bool) => t) (by
  rintro t
  · kernel_rfl) (by
  rintro t f K h
  · exact h))

theorem spec_OrderOk_n18_l (x937 : List Int) (x938 : Int) : Link spec_OrderOk_ctx LL (bodyOf Tryd.f87) spec_OrderOk_an (⟨mkE 42 0 [(0, .dat (.list (.int .i64)) x937), (1, .dat (.int .i64) x938)], []⟩ : St) (spec_OrderOk_n18 x937 x938) (fun (t : Bool) => (Exit.ret, (⟨mkE 42 0 [(4, .dat .bool t)], []⟩ : St))) := by
  unfold spec_OrderOk_n18
  exact Link.cast (by kernel_rfl) (by kernel_rfl) (link_seq (b := (Code.snd (bodyOf Tryd.f87))) (y := (Ann.snd spec_OrderOk_an)) (spec_OrderOk_n1_l x937 x938) (fun (t : Unit) => (spec_OrderOk_n17_l x937 x938)))

theorem spec_OrderOk_e (x937 : List Int) (x938 : Int) {r : AV} {H' : Heap} (h : (Ans.mk _ (spec_OrderOk x937 x938) (fun (t : Bool) => (.dat .bool t, []))).run = some (r, H')) : Awp spec_OrderOk_ctx LL (bodyOf Tryd.f87) spec_OrderOk_an (⟨mkE 42 0 [(0, .dat (.list (.int .i64)) x937), (1, .dat (.int .i64) x938)], []⟩ : St) (Ret (tlook tys) Tryd.f87.results.toList r H') :=
  ret_of' (spec_OrderOk_n18_l x937 x938) (by unfold spec_OrderOk; kernel_rfl) (by
  intro t
  exact ret_mk [.dat .bool t] (by kernel_rfl) (by kernel_rfl) (by kernel_rfl) (by kernel_rfl)) h

def F_spec_OrderOk : Fun := fun avs H =>
  match avs, H with
  | [.dat (.list (.int .i64)) x937, .dat (.int .i64) x938], [] => ⟨_, spec_OrderOk x937 x938, fun (t : Bool) => (.dat .bool t, [])⟩
  | _, _ => Ans.no

theorem spec_OrderOk_sound : Sound Tryd.prog 87 F_spec_OrderOk := by
  refine fn_sound' (C := spec_OrderOk_ctx) (c := bodyOf Tryd.f87) (cok_of tys_ok (List.forall_mem_cons.2 ⟨spec_l1In_sound, by simp⟩) (List.forall_mem_cons.2 ⟨Tryd.call45, by simp⟩) (by kernel_rfl)) Tryd.func87 (by kernel_rfl) LL spec_OrderOk_an ?_
  intro avs H r H' h
  unfold F_spec_OrderOk at h
  split at h
  · refine Awp.cast ?_ ?_ ?_ (spec_OrderOk_e _ _ h) <;> kernel_rfl
  · simp [Ans.no, Ans.run] at h


/-! loop.example/headtrees/spec.PutInOrder -/

def spec_PutInOrder_an : Ann := (.seq (.leaf [0, 1]) (.seq (.seq (.leaf [0, 1, 19]) (.cond (.seq (.leaf [4, 5]) (.leaf [4, 5])) (.leaf [0, 1]))) (.seq (.leaf [0, 1, 6]) (.seq (.seq (.leaf [0, 1, 6, 7]) (.block (.loop (.seq (.seq (.leaf [0, 1, 6, 7, 28]) (.cond (.leaf [0, 1, 6, 7]) (.leaf [0, 1, 6]))) (.seq (.block (.leaf [0, 1, 6, 7])) (.leaf [0, 1, 6, 7])))))) (.seq (.leaf [0, 1, 6, 8]) (.seq (.seq (.leaf [0, 1, 6, 8, 9]) (.block (.loop (.seq (.seq (.leaf [0, 1, 6, 8, 9, 43]) (.cond (.leaf [0, 1, 6, 8, 9]) (.leaf [8]))) (.seq (.block (.leaf [0, 1, 6, 8, 9])) (.leaf [0, 1, 6, 8, 9])))))) (.seq (.leaf [4, 5]) (.leaf [4, 5]))))))))

noncomputable def spec_PutInOrder_ctx : Ctx := ⟨tlook tys, olook [(32, F_spec_TreeOk), (87, F_spec_OrderOk)], ioF, 0, false⟩

theorem spec_PutInOrder_n1_l (x932 : List Int) (x933 : List Int) : Link spec_PutInOrder_ctx LL (Code.seq (Code.fst (bodyOf Tryd.f68)) (Code.seq (Code.fst (Code.snd (bodyOf Tryd.f68))) (Code.fst (Code.snd (Code.snd (bodyOf Tryd.f68)))))) (Ann.seq (Ann.fst spec_PutInOrder_an) (Ann.seq (Ann.fst (Ann.snd spec_PutInOrder_an)) (Ann.fst (Ann.snd (Ann.snd spec_PutInOrder_an))))) (⟨mkE 61 0 [(0, .dat (.list (.int .i64)) x932), (1, .dat (.list (.int .i64)) x933)], []⟩ : St) (spec_PutInOrder_n1 x932 x933) (Sum.elim (fun (t : (List Int)) => (Exit.normal, (⟨mkE 61 0 [(0, .dat (.list (.int .i64)) x932), (1, .dat (.list (.int .i64)) x933), (6, .slc 0)], [some (.seq (.int .i64) t)]⟩ : St))) (fun (t : Bool × (List Int)) => (Exit.ret, (⟨mkE 61 0 [(4, .slc 0), (5, .dat .bool t.1)], [some (.seq (.int .i64) t.2)]⟩ : St)))) := by
  refine Link.of fun K h => ?_
  simp only [spec_PutInOrder_n1, wpO_bind, wpO_cond, wpO_map, wpO_some] at h
  exact Awp.of (by kernel_rfl) h

theorem spec_PutInOrder_n2_l (x932 : List Int) (x933 : List Int) (x1017 : List Int) : Link spec_PutInOrder_ctx LL (Code.fst (Code.fst (Code.snd (Code.snd (Code.snd (bodyOf Tryd.f68)))))) (Ann.fst (Ann.fst (Ann.snd (Ann.snd (Ann.snd spec_PutInOrder_an))))) (⟨mkE 61 0 [(0, .dat (.list (.int .i64)) x932), (1, .dat (.list (.int .i64)) x933), (6, .slc 0)], [some (.seq (.int .i64) x1017)]⟩ : St) (spec_PutInOrder_n2) (fun (t : Unit) => (Exit.normal, (⟨mkE 61 0 [(0, .dat (.list (.int .i64)) x932), (1, .dat (.list (.int .i64)) x933), (6, .slc 0), (7, .dat (.int .i64) 0)], [some (.seq (.int .i64) x1017)]⟩ : St))) := by
  refine Link.of fun K h => ?_
  simp only [spec_PutInOrder_n2, wpO_bind, wpO_cond, wpO_map, wpO_some] at h
  exact Awp.of (by kernel_rfl) h

theorem spec_PutInOrder_n3_l (x932 : List Int) (x933 : List Int) (x1033 : Int) (x1034 : List Int) : Link spec_PutInOrder_ctx LL (Code.fst (Code.fst (Code.snd (Code.fst (Code.snd (Code.snd (Code.snd (bodyOf Tryd.f68)))))))) (Ann.fst (Ann.fst (Ann.snd (Ann.fst (Ann.snd (Ann.snd (Ann.snd spec_PutInOrder_an))))))) (⟨mkE 61 0 [(0, .dat (.list (.int .i64)) x932), (1, .dat (.list (.int .i64)) x933), (6, .slc 0), (7, .dat (.int .i64) x1033)], [some (.seq (.int .i64) x1034)]⟩ : St) (spec_PutInOrder_n3 x933 x1033 x1034) (Sum.elim (fun (t : Int × (List Int)) => (Exit.normal, (⟨mkE 61 0 [(0, .dat (.list (.int .i64)) x932), (1, .dat (.list (.int .i64)) x933), (6, .slc 0), (7, .dat (.int .i64) t.1)], [some (.seq (.int .i64) t.2)]⟩ : St))) (fun (t : (List Int)) => ((Exit.exit 0), (⟨mkE 61 0 [(0, .dat (.list (.int .i64)) x932), (1, .dat (.list (.int .i64)) x933), (6, .slc 0)], [some (.seq (.int .i64) t)]⟩ : St)))) := by
  refine Link.of fun K h => ?_
  simp only [spec_PutInOrder_n3, wpO_bind, wpO_cond, wpO_map, wpO_some] at h
  exact Awp.of (by kernel_rfl) h

theorem spec_PutInOrder_n4_l (x932 : List Int) (x933 : List Int) (x1017 : List Int) : Link spec_PutInOrder_ctx LL (Code.fst (Code.snd (Code.fst (Code.snd (Code.snd (Code.snd (bodyOf Tryd.f68))))))) (Ann.fst (Ann.snd (Ann.fst (Ann.snd (Ann.snd (Ann.snd spec_PutInOrder_an)))))) (⟨mkE 61 0 [(0, .dat (.list (.int .i64)) x932), (1, .dat (.list (.int .i64)) x933), (6, .slc 0), (7, .dat (.int .i64) 0)], [some (.seq (.int .i64) x1017)]⟩ : St) (spec_PutInOrder_n4 x933 x1017) (fun (t : (List Int)) => ((Exit.exit 0), (⟨mkE 61 0 [(0, .dat (.list (.int .i64)) x932), (1, .dat (.list (.int .i64)) x933), (6, .slc 0)], [some (.seq (.int .i64) t)]⟩ : St))) := by
  unfold spec_PutInOrder_n4
  exact Link.cast (by kernel_rfl) (by kernel_rfl) (link_loop (mk := fun (s : Int × (List Int)) => (⟨mkE 61 0 [(0, .dat (.list (.int .i64)) x932), (1, .dat (.list (.int .i64)) x933), (6, .slc 0), (7, .dat (.int .i64) s.1)], [some (.seq (.int .i64) s.2)]⟩ : St)) (fin := (fun (t : (List Int)) => ((Exit.exit 0), (⟨mkE 61 0 [(0, .dat (.list (.int .i64)) x932), (1, .dat (.list (.int .i64)) x933), (6, .slc 0)], [some (.seq (.int .i64) t)]⟩ : St)))) (by
  rintro t f K h
  · exact h) (fun s => link_map (spec_PutInOrder_n3_l x932 x933 s.1 s.2) (Sum.elim (fun (t : Int × (List Int)) => Sum.inl (t.1, t.2)) (fun (t : (List Int)) => Sum.inr t)) (by
  rintro (t | t)
  · kernel_rfl
  · kernel_rfl)) (0, x1017))

theorem spec_PutInOrder_n5_l (x932 : List Int) (x933 : List Int) (x1017 : List Int) : Link spec_PutInOrder_ctx LL (Code.snd (Code.fst (Code.snd (Code.snd (Code.snd (bodyOf Tryd.f68)))))) (Ann.snd (Ann.fst (Ann.snd (Ann.snd (Ann.snd spec_PutInOrder_an))))) (⟨mkE 61 0 [(0, .dat (.list (.int .i64)) x932), (1, .dat (.list (.int .i64)) x933), (6, .slc 0), (7, .dat (.int .i64) 0)], [some (.seq (.int .i64) x1017)]⟩ : St) (spec_PutInOrder_n5 x933 x1017) (fun (t : (List Int)) => (Exit.normal, (⟨mkE 61 0 [(0, .dat (.list (.int .i64)) x932), (1, .dat (.list (.int .i64)) x933), (6, .slc 0)], [some (.seq (.int .i64) t)]⟩ : St))) := by
  unfold spec_PutInOrder_n5
  exact Link.cast (by kernel_rfl) (by kernel_rfl) (link_block (id := 0) (spec_PutInOrder_n4_l x932 x933 x1017) (fun (t : (List Int)) => t) (by
  rintro t K h
  · exact Eq.mp (by kernel_rfl) h))

theorem spec_PutInOrder_n6_l (x932 : List Int) (x933 : List Int) (x1017 : List Int) : Link spec_PutInOrder_ctx LL (Code.fst (Code.snd (Code.snd (Code.snd (bodyOf Tryd.f68))))) (Ann.fst (Ann.snd (Ann.snd (Ann.snd spec_PutInOrder_an)))) (⟨mkE 61 0 [(0, .dat (.list (.int .i64)) x932), (1, .dat (.list (.int .i64)) x933), (6, .slc 0)], [some (.seq (.int .i64) x1017)]⟩ : St) (spec_PutInOrder_n6 x933 x1017) (fun (t : (List Int)) => (Exit.normal, (⟨mkE 61 0 [(0, .dat (.list (.int .i64)) x932), (1, .dat (.list (.int .i64)) x933), (6, .slc 0)], [some (.seq (.int .i64) t)]⟩ : St))) := by
  unfold spec_PutInOrder_n6
  exact Link.cast (by kernel_rfl) (by kernel_rfl) (link_seq (b := (Code.snd (Code.fst (Code.snd (Code.snd (Code.snd (bodyOf Tryd.f68))))))) (y := (Ann.snd (Ann.fst (Ann.snd (Ann.snd (Ann.snd spec_PutInOrder_an)))))) (spec_PutInOrder_n2_l x932 x933 x1017) (fun (t : Unit) => (spec_PutInOrder_n5_l x932 x933 x1017)))

theorem spec_PutInOrder_n7_l (x932 : List Int) (x933 : List Int) (x1034 : List Int) : Link spec_PutInOrder_ctx LL (Code.fst (Code.snd (Code.snd (Code.snd (Code.snd (bodyOf Tryd.f68)))))) (Ann.fst (Ann.snd (Ann.snd (Ann.snd (Ann.snd spec_PutInOrder_an))))) (⟨mkE 61 0 [(0, .dat (.list (.int .i64)) x932), (1, .dat (.list (.int .i64)) x933), (6, .slc 0)], [some (.seq (.int .i64) x1034)]⟩ : St) (spec_PutInOrder_n7) (fun (t : Unit) => (Exit.normal, (⟨mkE 61 0 [(0, .dat (.list (.int .i64)) x932), (1, .dat (.list (.int .i64)) x933), (6, .slc 0), (8, .slc 1)], [some (.seq (.int .i64) x1034), some (.seq (.int .i64) ([] : List Int))]⟩ : St))) := by
  refine Link.of fun K h => ?_
  simp only [spec_PutInOrder_n7, wpO_bind, wpO_cond, wpO_map, wpO_some] at h
  exact Awp.of (by kernel_rfl) h

theorem spec_PutInOrder_n8_l (x932 : List Int) (x933 : List Int) (x1034 : List Int) : Link spec_PutInOrder_ctx LL (Code.fst (Code.fst (Code.snd (Code.snd (Code.snd (Code.snd (Code.snd (bodyOf Tryd.f68)))))))) (Ann.fst (Ann.fst (Ann.snd (Ann.snd (Ann.snd (Ann.snd (Ann.snd spec_PutInOrder_an))))))) (⟨mkE 61 0 [(0, .dat (.list (.int .i64)) x932), (1, .dat (.list (.int .i64)) x933), (6, .slc 0), (8, .slc 1)], [some (.seq (.int .i64) x1034), some (.seq (.int .i64) ([] : List Int))]⟩ : St) (spec_PutInOrder_n8) (fun (t : Unit) => (Exit.normal, (⟨mkE 61 0 [(0, .dat (.list (.int .i64)) x932), (1, .dat (.list (.int .i64)) x933), (6, .slc 0), (8, .slc 1), (9, .dat (.int .i64) 0)], [some (.seq (.int .i64) x1034), some (.seq (.int .i64) ([] : List Int))]⟩ : St))) := by
  refine Link.of fun K h => ?_
  simp only [spec_PutInOrder_n8, wpO_bind, wpO_cond, wpO_map, wpO_some] at h
  exact Awp.of (by kernel_rfl) h

theorem spec_PutInOrder_n9_l (x932 : List Int) (x933 : List Int) (x1075 : Int) (x1034 : List Int) (x1076 : List Int) : Link spec_PutInOrder_ctx LL (Code.fst (Code.fst (Code.snd (Code.fst (Code.snd (Code.snd (Code.snd (Code.snd (Code.snd (bodyOf Tryd.f68)))))))))) (Ann.fst (Ann.fst (Ann.snd (Ann.fst (Ann.snd (Ann.snd (Ann.snd (Ann.snd (Ann.snd spec_PutInOrder_an))))))))) (⟨mkE 61 0 [(0, .dat (.list (.int .i64)) x932), (1, .dat (.list (.int .i64)) x933), (6, .slc 0), (8, .slc 1), (9, .dat (.int .i64) x1075)], [some (.seq (.int .i64) x1034), some (.seq (.int .i64) x1076)]⟩ : St) (spec_PutInOrder_n9 x932 x933 x1075 x1034 x1076) (Sum.elim (fun (t : Int × (List Int)) => (Exit.normal, (⟨mkE 61 0 [(0, .dat (.list (.int .i64)) x932), (1, .dat (.list (.int .i64)) x933), (6, .slc 0), (8, .slc 1), (9, .dat (.int .i64) t.1)], [some (.seq (.int .i64) x1034), some (.seq (.int .i64) t.2)]⟩ : St))) (fun (t : (List Int)) => ((Exit.exit 2), (⟨mkE 61 0 [(8, .slc 0)], [some (.seq (.int .i64) t)]⟩ : St)))) := by
  refine Link.of fun K h => ?_
  simp only [spec_PutInOrder_n9, wpO_bind, wpO_cond, wpO_map, wpO_some] at h
  exact Awp.of (by kernel_rfl) h

theorem spec_PutInOrder_n10_l (x932 : List Int) (x933 : List Int) (x1034 : List Int) : Link spec_PutInOrder_ctx LL (Code.fst (Code.snd (Code.fst (Code.snd (Code.snd (Code.snd (Code.snd (Code.snd (bodyOf Tryd.f68))))))))) (Ann.fst (Ann.snd (Ann.fst (Ann.snd (Ann.snd (Ann.snd (Ann.snd (Ann.snd spec_PutInOrder_an)))))))) (⟨mkE 61 0 [(0, .dat (.list (.int .i64)) x932), (1, .dat (.list (.int .i64)) x933), (6, .slc 0), (8, .slc 1), (9, .dat (.int .i64) 0)], [some (.seq (.int .i64) x1034), some (.seq (.int .i64) ([] : List Int))]⟩ : St) (spec_PutInOrder_n10 x932 x933 x1034) (fun (t : (List Int)) => ((Exit.exit 2), (⟨mkE 61 0 [(8, .slc 0)], [some (.seq (.int .i64) t)]⟩ : St))) := by
  unfold spec_PutInOrder_n10
  exact Link.cast (by kernel_rfl) (by kernel_rfl) (link_loop (mk := fun (s : Int × (List Int)) => (⟨mkE 61 0 [(0, .dat (.list (.int .i64)) x932), (1, .dat (.list (.int .i64)) x933), (6, .slc 0), (8, .slc 1), (9, .dat (.int .i64) s.1)], [some (.seq (.int .i64) x1034), some (.seq (.int .i64) s.2)]⟩ : St)) (fin := (fun (t : (List Int)) => ((Exit.exit 2), (⟨mkE 61 0 [(8, .slc 0)], [some (.seq (.int .i64) t)]⟩ : St)))) (by
  rintro t f K h
  · exact h) (fun s => link_map (spec_PutInOrder_n9_l x932 x933 s.1 x1034 s.2) (Sum.elim (fun (t : Int × (List Int)) => Sum.inl (t.1, t.2)) (fun (t : (List Int)) => Sum.inr t)) (by
  rintro (t | t)
  · kernel_rfl
  · kernel_rfl)) (0, ([] : List Int)))

theorem spec_PutInOrder_n11_l (x932 : List Int) (x933 : List Int) (x1034 : List Int) : Link spec_PutInOrder_ctx LL (Code.snd (Code.fst (Code.snd (Code.snd (Code.snd (Code.snd (Code.snd (bodyOf Tryd.f68)))))))) (Ann.snd (Ann.fst (Ann.snd (Ann.snd (Ann.snd (Ann.snd (Ann.snd spec_PutInOrder_an))))))) (⟨mkE 61 0 [(0, .dat (.list (.int .i64)) x932), (1, .dat (.list (.int .i64)) x933), (6, .slc 0), (8, .slc 1), (9, .dat (.int .i64) 0)], [some (.seq (.int .i64) x1034), some (.seq (.int .i64) ([] : List Int))]⟩ : St) (spec_PutInOrder_n11 x932 x933 x1034) (fun (t : (List Int)) => (Exit.normal, (⟨mkE 61 0 [(8, .slc 0)], [some (.seq (.int .i64) t)]⟩ : St))) := by
  unfold spec_PutInOrder_n11
  exact Link.cast (by kernel_rfl) (by kernel_rfl) (link_block (id := 2) (spec_PutInOrder_n10_l x932 x933 x1034) (fun (t : (List Int)) => t) (by
  rintro t K h
  · exact Eq.mp (by kernel_rfl) h))

theorem spec_PutInOrder_n12_l (x932 : List Int) (x933 : List Int) (x1034 : List Int) : Link spec_PutInOrder_ctx LL (Code.fst (Code.snd (Code.snd (Code.snd (Code.snd (Code.snd (bodyOf Tryd.f68))))))) (Ann.fst (Ann.snd (Ann.snd (Ann.snd (Ann.snd (Ann.snd spec_PutInOrder_an)))))) (⟨mkE 61 0 [(0, .dat (.list (.int .i64)) x932), (1, .dat (.list (.int .i64)) x933), (6, .slc 0), (8, .slc 1)], [some (.seq (.int .i64) x1034), some (.seq (.int .i64) ([] : List Int))]⟩ : St) (spec_PutInOrder_n12 x932 x933 x1034) (fun (t : (List Int)) => (Exit.normal, (⟨mkE 61 0 [(8, .slc 0)], [some (.seq (.int .i64) t)]⟩ : St))) := by
  unfold spec_PutInOrder_n12
  exact Link.cast (by kernel_rfl) (by kernel_rfl) (link_seq (b := (Code.snd (Code.fst (Code.snd (Code.snd (Code.snd (Code.snd (Code.snd (bodyOf Tryd.f68))))))))) (y := (Ann.snd (Ann.fst (Ann.snd (Ann.snd (Ann.snd (Ann.snd (Ann.snd spec_PutInOrder_an)))))))) (spec_PutInOrder_n8_l x932 x933 x1034) (fun (t : Unit) => (spec_PutInOrder_n11_l x932 x933 x1034)))

theorem spec_PutInOrder_n13_l (x1076 : List Int) : Link spec_PutInOrder_ctx LL (Code.snd (Code.snd (Code.snd (Code.snd (Code.snd (Code.snd (bodyOf Tryd.f68))))))) (Ann.snd (Ann.snd (Ann.snd (Ann.snd (Ann.snd (Ann.snd spec_PutInOrder_an)))))) (⟨mkE 61 0 [(8, .slc 0)], [some (.seq (.int .i64) x1076)]⟩ : St) (spec_PutInOrder_n13 x1076) (fun (t : Bool × (List Int)) => (Exit.ret, (⟨mkE 61 0 [(4, .slc 0), (5, .dat .bool t.1)], [some (.seq (.int .i64) t.2)]⟩ : St))) := by
  refine Link.of fun K h => ?_
  simp only [spec_PutInOrder_n13, wpO_bind, wpO_cond, wpO_map, wpO_some] at h
  exact Awp.of (by kernel_rfl) h

theorem spec_PutInOrder_n14_l (x932 : List Int) (x933 : List Int) (x1034 : List Int) : Link spec_PutInOrder_ctx LL (Code.snd (Code.snd (Code.snd (Code.snd (Code.snd (bodyOf Tryd.f68)))))) (Ann.snd (Ann.snd (Ann.snd (Ann.snd (Ann.snd spec_PutInOrder_an))))) (⟨mkE 61 0 [(0, .dat (.list (.int .i64)) x932), (1, .dat (.list (.int .i64)) x933), (6, .slc 0), (8, .slc 1)], [some (.seq (.int .i64) x1034), some (.seq (.int .i64) ([] : List Int))]⟩ : St) (spec_PutInOrder_n14 x932 x933 x1034) (fun (t : Bool × (List Int)) => (Exit.ret, (⟨mkE 61 0 [(4, .slc 0), (5, .dat .bool t.1)], [some (.seq (.int .i64) t.2)]⟩ : St))) := by
  unfold spec_PutInOrder_n14
  exact Link.cast (by kernel_rfl) (by kernel_rfl) (link_seq (b := (Code.snd (Code.snd (Code.snd (Code.snd (Code.snd (Code.snd (bodyOf Tryd.f68)))))))) (y := (Ann.snd (Ann.snd (Ann.snd (Ann.snd (Ann.snd (Ann.snd spec_PutInOrder_an))))))) (spec_PutInOrder_n12_l x932 x933 x1034) (fun (t : (List Int)) => (spec_PutInOrder_n13_l t)))

theorem spec_PutInOrder_n15_l (x932 : List Int) (x933 : List Int) (x1034 : List Int) : Link spec_PutInOrder_ctx LL (Code.snd (Code.snd (Code.snd (Code.snd (bodyOf Tryd.f68))))) (Ann.snd (Ann.snd (Ann.snd (Ann.snd spec_PutInOrder_an)))) (⟨mkE 61 0 [(0, .dat (.list (.int .i64)) x932), (1, .dat (.list (.int .i64)) x933), (6, .slc 0)], [some (.seq (.int .i64) x1034)]⟩ : St) (spec_PutInOrder_n15 x932 x933 x1034) (fun (t : Bool × (List Int)) => (Exit.ret, (⟨mkE 61 0 [(4, .slc 0), (5, .dat .bool t.1)], [some (.seq (.int .i64) t.2)]⟩ : St))) := by
  unfold spec_PutInOrder_n15
  exact Link.cast (by kernel_rfl) (by kernel_rfl) (link_seq (b := (Code.snd (Code.snd (Code.snd (Code.snd (Code.snd (bodyOf Tryd.f68))))))) (y := (Ann.snd (Ann.snd (Ann.snd (Ann.snd (Ann.snd spec_PutInOrder_an)))))) (spec_PutInOrder_n7_l x932 x933 x1034) (fun (t : Unit) => (spec_PutInOrder_n14_l x932 x933 x1034)))

theorem spec_PutInOrder_n16_l (x932 : List Int) (x933 : List Int) (x1017 : List Int) : Link spec_PutInOrder_ctx LL (Code.snd (Code.snd (Code.snd (bodyOf Tryd.f68)))) (Ann.snd (Ann.snd (Ann.snd spec_PutInOrder_an))) (⟨mkE 61 0 [(0, .dat (.list (.int .i64)) x932), (1, .dat (.list (.int .i64)) x933), (6, .slc 0)], [some (.seq (.int .i64) x1017)]⟩ : St) (spec_PutInOrder_n16 x932 x933 x1017) (fun (t : Bool × (List Int)) => (Exit.ret, (⟨mkE 61 0 [(4, .slc 0), (5, .dat .bool t.1)], [some (.seq (.int .i64) t.2)]⟩ : St))) := by
  unfold spec_PutInOrder_n16
  exact Link.cast (by kernel_rfl) (by kernel_rfl) (link_seq (b := (Code.snd (Code.snd (Code.snd (Code.snd (bodyOf Tryd.f68)))))) (y := (Ann.snd (Ann.snd (Ann.snd (Ann.snd spec_PutInOrder_an))))) (spec_PutInOrder_n6_l x932 x933 x1017) (fun (t : (List Int)) => (spec_PutInOrder_n15_l x932 x933 t)))

theorem spec_PutInOrder_n17_l (x932 : List Int) (x933 : List Int) : Link spec_PutInOrder_ctx LL (bodyOf Tryd.f68) spec_PutInOrder_an (⟨mkE 61 0 [(0, .dat (.list (.int .i64)) x932), (1, .dat (.list (.int .i64)) x933)], []⟩ : St) (spec_PutInOrder_n17 x932 x933) (fun (t : Bool × (List Int)) => (Exit.ret, (⟨mkE 61 0 [(4, .slc 0), (5, .dat .bool t.1)], [some (.seq (.int .i64) t.2)]⟩ : St))) := by
  unfold spec_PutInOrder_n17
  exact Link.cast (by kernel_rfl) (by kernel_rfl) (link_group (c := (Code.fst (Code.snd (Code.snd (bodyOf Tryd.f68))))) (a := (Ann.fst (Ann.snd (Ann.snd spec_PutInOrder_an)))) [(Code.fst (bodyOf Tryd.f68)), (Code.fst (Code.snd (bodyOf Tryd.f68)))] [(Ann.fst spec_PutInOrder_an), (Ann.fst (Ann.snd spec_PutInOrder_an))] rfl (link_seq2 (b := (Code.snd (Code.snd (Code.snd (bodyOf Tryd.f68))))) (y := (Ann.snd (Ann.snd (Ann.snd spec_PutInOrder_an)))) (spec_PutInOrder_n1_l x932 x933) (fun (t : (List Int)) => (spec_PutInOrder_n16_l x932 x933 t)) (fun (t : Bool × (List Int)) => t) (by
  rintro t
  · kernel_rfl) (by
  rintro t f K h
  · exact h)))

theorem spec_PutInOrder_e (x932 : List Int) (x933 : List Int) {r : AV} {H' : Heap} (h : (Ans.mk _ (spec_PutInOrder x932 x933) (fun (t : Bool × (List Int)) => (.tup [.slc 0, .dat .bool t.1], [some (.seq (.int .i64) t.2)]))).run = some (r, H')) : Awp spec_PutInOrder_ctx LL (bodyOf Tryd.f68) spec_PutInOrder_an (⟨mkE 61 0 [(0, .dat (.list (.int .i64)) x932), (1, .dat (.list (.int .i64)) x933)], []⟩ : St) (Ret (tlook tys) Tryd.f68.results.toList r H') :=
  ret_of' (spec_PutInOrder_n17_l x932 x933) (by unfold spec_PutInOrder; kernel_rfl) (by
  intro t
  exact ret_mk [.slc 0, .dat .bool t.1] (by kernel_rfl) (by kernel_rfl) (by kernel_rfl) (by kernel_rfl)) h

def F_spec_PutInOrder : Fun := fun avs H =>
  match avs, H with
  | [.dat (.list (.int .i64)) x932, .dat (.list (.int .i64)) x933], [] => ⟨_, spec_PutInOrder x932 x933, fun (t : Bool × (List Int)) => (.tup [.slc 0, .dat .bool t.1], [some (.seq (.int .i64) t.2)])⟩
  | _, _ => Ans.no

theorem spec_PutInOrder_sound : Sound Tryd.prog 68 F_spec_PutInOrder := by
  refine fn_sound' (C := spec_PutInOrder_ctx) (c := bodyOf Tryd.f68) (cok_of tys_ok (List.forall_mem_cons.2 ⟨spec_TreeOk_sound, List.forall_mem_cons.2 ⟨spec_OrderOk_sound, by simp⟩⟩) (List.forall_mem_cons.2 ⟨Tryd.call32, List.forall_mem_cons.2 ⟨Tryd.call87, by simp⟩⟩) (by kernel_rfl)) Tryd.func68 (by kernel_rfl) LL spec_PutInOrder_an ?_
  intro avs H r H' h
  unfold F_spec_PutInOrder at h
  split at h
  · refine Awp.cast ?_ ?_ ?_ (spec_PutInOrder_e _ _ h) <;> kernel_rfl
  · simp [Ans.no, Ans.run] at h


/-! loop.example/headtrees/spec.l20Fill -/

def spec_l20Fill_an : Ann := (.seq (.seq (.leaf [0, 1, 2, 3, 4, 16]) (.cond (.leaf []) (.leaf [0, 1, 2, 3, 4]))) (.seq (.leaf [0, 1, 2, 3, 4, 10]) (.seq (.leaf [0, 1, 2, 3, 10]) (.seq (.leaf [0, 1, 3, 10, 11]) (.seq (.block (.loop (.seq (.seq (.leaf [0, 1, 3, 10, 11, 33]) (.cond (.leaf [0, 1, 3, 10, 11]) (.leaf [0, 1, 3, 10]))) (.block (.seq (.leaf [0, 1, 3, 10, 11, 12]) (.seq (.leaf [0, 1, 3, 10, 12]) (.leaf [0, 1, 3, 10, 11]))))))) (.seq (.leaf [0, 1, 3, 10, 11]) (.block (.loop (.seq (.seq (.leaf [0, 1, 3, 10, 11, 53]) (.cond (.leaf [0, 1, 3, 10, 11]) (.leaf []))) (.block (.seq (.leaf [0, 1, 3, 10, 11, 13]) (.seq (.leaf [0, 1, 3, 10, 13]) (.leaf [0, 1, 3, 10, 11])))))))))))))

def F_spec_l20Fill_fuel (n : Nat) : Fun := fun avs H =>
  match avs, H with
  | [.ptr 0 0, .slc 1, .dat (.int .i64) x1173, .dat (.int .i64) x1174, .dat (.int .i64) x1175], [some (.box [.dat (.list (.int .u8)) x1176, .dat (.int .i64) x1177]), some (.seq (.int .i64) x1178)] => ⟨_, spec_l20Fill_fuel n x1173 x1174 x1175 x1176 x1177 x1178, fun (t : Int × (List Int)) => (.tup [], [some (.box [.dat (.list (.int .u8)) x1176, .dat (.int .i64) t.1]), some (.seq (.int .i64) t.2)])⟩
  | _, _ => Ans.no

noncomputable def spec_l20Fill_ctx (n : Nat) : Ctx := ⟨tlook tys, olook [(41, F_spec_l20Rd_pick), (88, F_spec_l20Fill_fuel n)], ioF, 2, false⟩

theorem spec_l20Fill_n1_l (n : Nat) (x1173 : Int) (x1174 : Int) (x1175 : Int) (x1176 : List Int) (x1177 : Int) (x1178 : List Int) : Link (spec_l20Fill_ctx n) LL (Code.seq (Code.fst (bodyOf Tryd.f88)) (Code.seq (Code.fst (Code.snd (bodyOf Tryd.f88))) (Code.seq (Code.fst (Code.snd (Code.snd (bodyOf Tryd.f88)))) (Code.fst (Code.snd (Code.snd (Code.snd (bodyOf Tryd.f88)))))))) (Ann.seq (Ann.fst spec_l20Fill_an) (Ann.seq (Ann.fst (Ann.snd spec_l20Fill_an)) (Ann.seq (Ann.fst (Ann.snd (Ann.snd spec_l20Fill_an))) (Ann.fst (Ann.snd (Ann.snd (Ann.snd spec_l20Fill_an))))))) (⟨mkE 70 0 [(0, .ptr 0 0), (1, .slc 1), (2, .dat (.int .i64) x1173), (3, .dat (.int .i64) x1174), (4, .dat (.int .i64) x1175)], [some (.box [.dat (.list (.int .u8)) x1176, .dat (.int .i64) x1177]), some (.seq (.int .i64) x1178)]⟩ : St) (spec_l20Fill_n1 (spec_l20Fill_fuel n) x1173 x1174 x1175 x1176 x1177 x1178) (Sum.elim (fun (t : Int × Int × (List Int)) => (Exit.normal, (⟨mkE 70 0 [(0, .ptr 0 0), (1, .slc 1), (3, .dat (.int .i64) x1174), (10, .dat (.int .i64) t.1), (11, .dat (.int .i64) x1173)], [some (.box [.dat (.list (.int .u8)) x1176, .dat (.int .i64) t.2.1]), some (.seq (.int .i64) t.2.2)]⟩ : St))) (fun (t : Int × (List Int)) => (Exit.ret, (⟨mkE 70 0 [], [some (.box [.dat (.list (.int .u8)) x1176, .dat (.int .i64) t.1]), some (.seq (.int .i64) t.2)]⟩ : St)))) := by
  refine Link.of fun K h => ?_
  simp only [spec_l20Fill_n1, wpO_bind, wpO_cond, wpO_map, wpO_some] at h
  exact Awp.of (by kernel_rfl) h

theorem spec_l20Fill_n2_l (n : Nat) (x1174 : Int) (x1249 : Int) (x1264 : Int) (x1176 : List Int) (x1265 : Int) (x1266 : List Int) : Link (spec_l20Fill_ctx n) LL (Code.fst (Code.fst (Code.fst (Code.snd (Code.snd (Code.snd (Code.snd (bodyOf Tryd.f88)))))))) (Ann.fst (Ann.fst (Ann.fst (Ann.snd (Ann.snd (Ann.snd (Ann.snd spec_l20Fill_an))))))) (⟨mkE 70 0 [(0, .ptr 0 0), (1, .slc 1), (3, .dat (.int .i64) x1174), (10, .dat (.int .i64) x1249), (11, .dat (.int .i64) x1264)], [some (.box [.dat (.list (.int .u8)) x1176, .dat (.int .i64) x1265]), some (.seq (.int .i64) x1266)]⟩ : St) (spec_l20Fill_n2 (spec_l20Fill_fuel n) x1249 x1264 x1176 x1265 x1266) (Sum.elim (fun (t : Int × Int × (List Int)) => (Exit.normal, (⟨mkE 70 0 [(0, .ptr 0 0), (1, .slc 1), (3, .dat (.int .i64) x1174), (10, .dat (.int .i64) x1249), (11, .dat (.int .i64) t.1)], [some (.box [.dat (.list (.int .u8)) x1176, .dat (.int .i64) t.2.1]), some (.seq (.int .i64) t.2.2)]⟩ : St))) (fun (t : Int × (List Int)) => ((Exit.exit 0), (⟨mkE 70 0 [(0, .ptr 0 0), (1, .slc 1), (3, .dat (.int .i64) x1174), (10, .dat (.int .i64) x1249)], [some (.box [.dat (.list (.int .u8)) x1176, .dat (.int .i64) t.1]), some (.seq (.int .i64) t.2)]⟩ : St)))) := by
  refine Link.of fun K h => ?_
  simp only [spec_l20Fill_n2, wpO_bind, wpO_cond, wpO_map, wpO_some] at h
  exact Awp.of (by kernel_rfl) h

theorem spec_l20Fill_n3_l (n : Nat) (x1174 : Int) (x1249 : Int) (x1173 : Int) (x1176 : List Int) (x1248 : Int) (x1252 : List Int) : Link (spec_l20Fill_ctx n) LL (Code.fst (Code.fst (Code.snd (Code.snd (Code.snd (Code.snd (bodyOf Tryd.f88))))))) (Ann.fst (Ann.fst (Ann.snd (Ann.snd (Ann.snd (Ann.snd spec_l20Fill_an)))))) (⟨mkE 70 0 [(0, .ptr 0 0), (1, .slc 1), (3, .dat (.int .i64) x1174), (10, .dat (.int .i64) x1249), (11, .dat (.int .i64) x1173)], [some (.box [.dat (.list (.int .u8)) x1176, .dat (.int .i64) x1248]), some (.seq (.int .i64) x1252)]⟩ : St) (spec_l20Fill_n3 (spec_l20Fill_fuel n) x1249 x1173 x1176 x1248 x1252) (fun (t : Int × (List Int)) => ((Exit.exit 0), (⟨mkE 70 0 [(0, .ptr 0 0), (1, .slc 1), (3, .dat (.int .i64) x1174), (10, .dat (.int .i64) x1249)], [some (.box [.dat (.list (.int .u8)) x1176, .dat (.int .i64) t.1]), some (.seq (.int .i64) t.2)]⟩ : St))) := by
  unfold spec_l20Fill_n3
  exact Link.cast (by kernel_rfl) (by kernel_rfl) (link_loop (mk := fun (s : Int × Int × (List Int)) => (⟨mkE 70 0 [(0, .ptr 0 0), (1, .slc 1), (3, .dat (.int .i64) x1174), (10, .dat (.int .i64) x1249), (11, .dat (.int .i64) s.1)], [some (.box [.dat (.list (.int .u8)) x1176, .dat (.int .i64) s.2.1]), some (.seq (.int .i64) s.2.2)]⟩ : St)) (fin := (fun (t : Int × (List Int)) => ((Exit.exit 0), (⟨mkE 70 0 [(0, .ptr 0 0), (1, .slc 1), (3, .dat (.int .i64) x1174), (10, .dat (.int .i64) x1249)], [some (.box [.dat (.list (.int .u8)) x1176, .dat (.int .i64) t.1]), some (.seq (.int .i64) t.2)]⟩ : St)))) (by
  rintro t f K h
  · exact h) (fun s => link_map (spec_l20Fill_n2_l n x1174 x1249 s.1 x1176 s.2.1 s.2.2) (Sum.elim (fun (t : Int × Int × (List Int)) => Sum.inl (t.1, t.2.1, t.2.2)) (fun (t : Int × (List Int)) => Sum.inr t)) (by
  rintro (t | t)
  · kernel_rfl
  · kernel_rfl)) (x1173, x1248, x1252))

theorem spec_l20Fill_n4_l (n : Nat) (x1174 : Int) (x1249 : Int) (x1173 : Int) (x1176 : List Int) (x1248 : Int) (x1252 : List Int) : Link (spec_l20Fill_ctx n) LL (Code.fst (Code.snd (Code.snd (Code.snd (Code.snd (bodyOf Tryd.f88)))))) (Ann.fst (Ann.snd (Ann.snd (Ann.snd (Ann.snd spec_l20Fill_an))))) (⟨mkE 70 0 [(0, .ptr 0 0), (1, .slc 1), (3, .dat (.int .i64) x1174), (10, .dat (.int .i64) x1249), (11, .dat (.int .i64) x1173)], [some (.box [.dat (.list (.int .u8)) x1176, .dat (.int .i64) x1248]), some (.seq (.int .i64) x1252)]⟩ : St) (spec_l20Fill_n4 (spec_l20Fill_fuel n) x1249 x1173 x1176 x1248 x1252) (fun (t : Int × (List Int)) => (Exit.normal, (⟨mkE 70 0 [(0, .ptr 0 0), (1, .slc 1), (3, .dat (.int .i64) x1174), (10, .dat (.int .i64) x1249)], [some (.box [.dat (.list (.int .u8)) x1176, .dat (.int .i64) t.1]), some (.seq (.int .i64) t.2)]⟩ : St))) := by
  unfold spec_l20Fill_n4
  exact Link.cast (by kernel_rfl) (by kernel_rfl) (link_block (id := 0) (spec_l20Fill_n3_l n x1174 x1249 x1173 x1176 x1248 x1252) (fun (t : Int × (List Int)) => (t.1, t.2)) (by
  rintro t K h
  · exact Eq.mp (by kernel_rfl) h))

theorem spec_l20Fill_n5_l (n : Nat) (x1174 : Int) (x1249 : Int) (x1176 : List Int) (x1265 : Int) (x1266 : List Int) : Link (spec_l20Fill_ctx n) LL (Code.fst (Code.snd (Code.snd (Code.snd (Code.snd (Code.snd (bodyOf Tryd.f88))))))) (Ann.fst (Ann.snd (Ann.snd (Ann.snd (Ann.snd (Ann.snd spec_l20Fill_an)))))) (⟨mkE 70 0 [(0, .ptr 0 0), (1, .slc 1), (3, .dat (.int .i64) x1174), (10, .dat (.int .i64) x1249)], [some (.box [.dat (.list (.int .u8)) x1176, .dat (.int .i64) x1265]), some (.seq (.int .i64) x1266)]⟩ : St) (spec_l20Fill_n5 (spec_l20Fill_fuel n) x1249) (fun (t : Int) => (Exit.normal, (⟨mkE 70 0 [(0, .ptr 0 0), (1, .slc 1), (3, .dat (.int .i64) x1174), (10, .dat (.int .i64) x1249), (11, .dat (.int .i64) t)], [some (.box [.dat (.list (.int .u8)) x1176, .dat (.int .i64) x1265]), some (.seq (.int .i64) x1266)]⟩ : St))) := by
  refine Link.of fun K h => ?_
  simp only [spec_l20Fill_n5, wpO_bind, wpO_cond, wpO_map, wpO_some] at h
  exact Awp.of (by kernel_rfl) h

theorem spec_l20Fill_n6_l (n : Nat) (x1174 : Int) (x1249 : Int) (x1291 : Int) (x1176 : List Int) (x1292 : Int) (x1293 : List Int) : Link (spec_l20Fill_ctx n) LL (Code.fst (Code.fst (Code.snd (Code.snd (Code.snd (Code.snd (Code.snd (Code.snd (bodyOf Tryd.f88))))))))) (Ann.fst (Ann.fst (Ann.snd (Ann.snd (Ann.snd (Ann.snd (Ann.snd (Ann.snd spec_l20Fill_an)))))))) (⟨mkE 70 0 [(0, .ptr 0 0), (1, .slc 1), (3, .dat (.int .i64) x1174), (10, .dat (.int .i64) x1249), (11, .dat (.int .i64) x1291)], [some (.box [.dat (.list (.int .u8)) x1176, .dat (.int .i64) x1292]), some (.seq (.int .i64) x1293)]⟩ : St) (spec_l20Fill_n6 (spec_l20Fill_fuel n) x1174 x1249 x1291 x1176 x1292 x1293) (Sum.elim (fun (t : Int × Int × (List Int)) => (Exit.normal, (⟨mkE 70 0 [(0, .ptr 0 0), (1, .slc 1), (3, .dat (.int .i64) x1174), (10, .dat (.int .i64) x1249), (11, .dat (.int .i64) t.1)], [some (.box [.dat (.list (.int .u8)) x1176, .dat (.int .i64) t.2.1]), some (.seq (.int .i64) t.2.2)]⟩ : St))) (fun (t : Int × (List Int)) => ((Exit.exit 2), (⟨mkE 70 0 [], [some (.box [.dat (.list (.int .u8)) x1176, .dat (.int .i64) t.1]), some (.seq (.int .i64) t.2)]⟩ : St)))) := by
  refine Link.of fun K h => ?_
  simp only [spec_l20Fill_n6, wpO_bind, wpO_cond, wpO_map, wpO_some] at h
  exact Awp.of (by kernel_rfl) h

theorem spec_l20Fill_n7_l (n : Nat) (x1174 : Int) (x1249 : Int) (x1278 : Int) (x1176 : List Int) (x1265 : Int) (x1266 : List Int) : Link (spec_l20Fill_ctx n) LL (Code.fst (Code.snd (Code.snd (Code.snd (Code.snd (Code.snd (Code.snd (bodyOf Tryd.f88)))))))) (Ann.fst (Ann.snd (Ann.snd (Ann.snd (Ann.snd (Ann.snd (Ann.snd spec_l20Fill_an))))))) (⟨mkE 70 0 [(0, .ptr 0 0), (1, .slc 1), (3, .dat (.int .i64) x1174), (10, .dat (.int .i64) x1249), (11, .dat (.int .i64) x1278)], [some (.box [.dat (.list (.int .u8)) x1176, .dat (.int .i64) x1265]), some (.seq (.int .i64) x1266)]⟩ : St) (spec_l20Fill_n7 (spec_l20Fill_fuel n) x1174 x1249 x1278 x1176 x1265 x1266) (fun (t : Int × (List Int)) => ((Exit.exit 2), (⟨mkE 70 0 [], [some (.box [.dat (.list (.int .u8)) x1176, .dat (.int .i64) t.1]), some (.seq (.int .i64) t.2)]⟩ : St))) := by
  unfold spec_l20Fill_n7
  exact Link.cast (by kernel_rfl) (by kernel_rfl) (link_loop (mk := fun (s : Int × Int × (List Int)) => (⟨mkE 70 0 [(0, .ptr 0 0), (1, .slc 1), (3, .dat (.int .i64) x1174), (10, .dat (.int .i64) x1249), (11, .dat (.int .i64) s.1)], [some (.box [.dat (.list (.int .u8)) x1176, .dat (.int .i64) s.2.1]), some (.seq (.int .i64) s.2.2)]⟩ : St)) (fin := (fun (t : Int × (List Int)) => ((Exit.exit 2), (⟨mkE 70 0 [], [some (.box [.dat (.list (.int .u8)) x1176, .dat (.int .i64) t.1]), some (.seq (.int .i64) t.2)]⟩ : St)))) (by
  rintro t f K h
  · exact h) (fun s => link_map (spec_l20Fill_n6_l n x1174 x1249 s.1 x1176 s.2.1 s.2.2) (Sum.elim (fun (t : Int × Int × (List Int)) => Sum.inl (t.1, t.2.1, t.2.2)) (fun (t : Int × (List Int)) => Sum.inr t)) (by
  rintro (t | t)
  · kernel_rfl
  · kernel_rfl)) (x1278, x1265, x1266))

theorem spec_l20Fill_n8_l (n : Nat) (x1174 : Int) (x1249 : Int) (x1278 : Int) (x1176 : List Int) (x1265 : Int) (x1266 : List Int) : Link (spec_l20Fill_ctx n) LL (Code.snd (Code.snd (Code.snd (Code.snd (Code.snd (Code.snd (bodyOf Tryd.f88))))))) (Ann.snd (Ann.snd (Ann.snd (Ann.snd (Ann.snd (Ann.snd spec_l20Fill_an)))))) (⟨mkE 70 0 [(0, .ptr 0 0), (1, .slc 1), (3, .dat (.int .i64) x1174), (10, .dat (.int .i64) x1249), (11, .dat (.int .i64) x1278)], [some (.box [.dat (.list (.int .u8)) x1176, .dat (.int .i64) x1265]), some (.seq (.int .i64) x1266)]⟩ : St) (spec_l20Fill_n8 (spec_l20Fill_fuel n) x1174 x1249 x1278 x1176 x1265 x1266) (fun (t : Int × (List Int)) => (Exit.normal, (⟨mkE 70 0 [], [some (.box [.dat (.list (.int .u8)) x1176, .dat (.int .i64) t.1]), some (.seq (.int .i64) t.2)]⟩ : St))) := by
  unfold spec_l20Fill_n8
  exact Link.cast (by kernel_rfl) (by kernel_rfl) (link_block (id := 2) (spec_l20Fill_n7_l n x1174 x1249 x1278 x1176 x1265 x1266) (fun (t : Int × (List Int)) => (t.1, t.2)) (by
  rintro t K h
  · exact Eq.mp (by kernel_rfl) h))

theorem spec_l20Fill_n9_l (n : Nat) (x1174 : Int) (x1249 : Int) (x1176 : List Int) (x1265 : Int) (x1266 : List Int) : Link (spec_l20Fill_ctx n) LL (Code.snd (Code.snd (Code.snd (Code.snd (Code.snd (bodyOf Tryd.f88)))))) (Ann.snd (Ann.snd (Ann.snd (Ann.snd (Ann.snd spec_l20Fill_an))))) (⟨mkE 70 0 [(0, .ptr 0 0), (1, .slc 1), (3, .dat (.int .i64) x1174), (10, .dat (.int .i64) x1249)], [some (.box [.dat (.list (.int .u8)) x1176, .dat (.int .i64) x1265]), some (.seq (.int .i64) x1266)]⟩ : St) (spec_l20Fill_n9 (spec_l20Fill_fuel n) x1174 x1249 x1176 x1265 x1266) (fun (t : Int × (List Int)) => (Exit.normal, (⟨mkE 70 0 [], [some (.box [.dat (.list (.int .u8)) x1176, .dat (.int .i64) t.1]), some (.seq (.int .i64) t.2)]⟩ : St))) := by
  unfold spec_l20Fill_n9
  exact Link.cast (by kernel_rfl) (by kernel_rfl) (link_seq (b := (Code.snd (Code.snd (Code.snd (Code.snd (Code.snd (Code.snd (bodyOf Tryd.f88)))))))) (y := (Ann.snd (Ann.snd (Ann.snd (Ann.snd (Ann.snd (Ann.snd spec_l20Fill_an))))))) (spec_l20Fill_n5_l n x1174 x1249 x1176 x1265 x1266) (fun (t : Int) => (spec_l20Fill_n8_l n x1174 x1249 t x1176 x1265 x1266)))

theorem spec_l20Fill_n10_l (n : Nat) (x1174 : Int) (x1249 : Int) (x1173 : Int) (x1176 : List Int) (x1248 : Int) (x1252 : List Int) : Link (spec_l20Fill_ctx n) LL (Code.snd (Code.snd (Code.snd (Code.snd (bodyOf Tryd.f88))))) (Ann.snd (Ann.snd (Ann.snd (Ann.snd spec_l20Fill_an)))) (⟨mkE 70 0 [(0, .ptr 0 0), (1, .slc 1), (3, .dat (.int .i64) x1174), (10, .dat (.int .i64) x1249), (11, .dat (.int .i64) x1173)], [some (.box [.dat (.list (.int .u8)) x1176, .dat (.int .i64) x1248]), some (.seq (.int .i64) x1252)]⟩ : St) (spec_l20Fill_n10 (spec_l20Fill_fuel n) x1174 x1249 x1173 x1176 x1248 x1252) (fun (t : Int × (List Int)) => (Exit.normal, (⟨mkE 70 0 [], [some (.box [.dat (.list (.int .u8)) x1176, .dat (.int .i64) t.1]), some (.seq (.int .i64) t.2)]⟩ : St))) := by
  unfold spec_l20Fill_n10
  exact Link.cast (by kernel_rfl) (by kernel_rfl) (link_seq (b := (Code.snd (Code.snd (Code.snd (Code.snd (Code.snd (bodyOf Tryd.f88))))))) (y := (Ann.snd (Ann.snd (Ann.snd (Ann.snd (Ann.snd spec_l20Fill_an)))))) (spec_l20Fill_n4_l n x1174 x1249 x1173 x1176 x1248 x1252) (fun (t : Int × (List Int)) => (spec_l20Fill_n9_l n x1174 x1249 x1176 t.1 t.2)))

theorem spec_l20Fill_n11_l (n : Nat) (x1173 : Int) (x1174 : Int) (x1175 : Int) (x1176 : List Int) (x1177 : Int) (x1178 : List Int) : Link (spec_l20Fill_ctx n) LL (bodyOf Tryd.f88) spec_l20Fill_an (⟨mkE 70 0 [(0, .ptr 0 0), (1, .slc 1), (2, .dat (.int .i64) x1173), (3, .dat (.int .i64) x1174), (4, .dat (.int .i64) x1175)], [some (.box [.dat (.list (.int .u8)) x1176, .dat (.int .i64) x1177]), some (.seq (.int .i64) x1178)]⟩ : St) (spec_l20Fill_n11 (spec_l20Fill_fuel n) x1173 x1174 x1175 x1176 x1177 x1178) (Sum.elim (fun (t : Int × (List Int)) => (Exit.normal, (⟨mkE 70 0 [], [some (.box [.dat (.list (.int .u8)) x1176, .dat (.int .i64) t.1]), some (.seq (.int .i64) t.2)]⟩ : St))) (fun (t : Int × (List Int)) => (Exit.ret, (⟨mkE 70 0 [], [some (.box [.dat (.list (.int .u8)) x1176, .dat (.int .i64) t.1]), some (.seq (.int .i64) t.2)]⟩ : St)))) := by
  unfold spec_l20Fill_n11
  exact Link.cast (by kernel_rfl) (by kernel_rfl) (link_group (c := (Code.fst (Code.snd (Code.snd (Code.snd (bodyOf Tryd.f88)))))) (a := (Ann.fst (Ann.snd (Ann.snd (Ann.snd spec_l20Fill_an))))) [(Code.fst (bodyOf Tryd.f88)), (Code.fst (Code.snd (bodyOf Tryd.f88))), (Code.fst (Code.snd (Code.snd (bodyOf Tryd.f88))))] [(Ann.fst spec_l20Fill_an), (Ann.fst (Ann.snd spec_l20Fill_an)), (Ann.fst (Ann.snd (Ann.snd spec_l20Fill_an)))] rfl (link_seq2 (b := (Code.snd (Code.snd (Code.snd (Code.snd (bodyOf Tryd.f88)))))) (y := (Ann.snd (Ann.snd (Ann.snd (Ann.snd spec_l20Fill_an))))) (spec_l20Fill_n1_l n x1173 x1174 x1175 x1176 x1177 x1178) (fun (t : Int × Int × (List Int)) => (link_map (spec_l20Fill_n10_l n x1174 t.1 x1173 x1176 t.2.1 t.2.2) (fun (u : Int × (List Int)) => (Sum.inl (u.1, u.2))) (by
  rintro t
  · kernel_rfl))) (fun (t : Int × (List Int)) => (Sum.inr t)) (by
  rintro t
  · kernel_rfl) (by
  rintro t f K h
  · exact h)))

theorem spec_l20Fill_e (n : Nat) (x1173 : Int) (x1174 : Int) (x1175 : Int) (x1176 : List Int) (x1177 : Int) (x1178 : List Int) {r : AV} {H' : Heap} (h : (Ans.mk _ (spec_l20Fill_fuel (n + 1) x1173 x1174 x1175 x1176 x1177 x1178) (fun (t : Int × (List Int)) => (.tup [], [some (.box [.dat (.list (.int .u8)) x1176, .dat (.int .i64) t.1]), some (.seq (.int .i64) t.2)]))).run = some (r, H')) : Awp (spec_l20Fill_ctx n) LL (bodyOf Tryd.f88) spec_l20Fill_an (⟨mkE 70 0 [(0, .ptr 0 0), (1, .slc 1), (2, .dat (.int .i64) x1173), (3, .dat (.int .i64) x1174), (4, .dat (.int .i64) x1175)], [some (.box [.dat (.list (.int .u8)) x1176, .dat (.int .i64) x1177]), some (.seq (.int .i64) x1178)]⟩ : St) (Ret (tlook tys) Tryd.f88.results.toList r H') :=
  ret_of (spec_l20Fill_n11_l n x1173 x1174 x1175 x1176 x1177 x1178) (Sum.elim (fun (t : Int × (List Int)) => (t.1, t.2)) (fun (t : Int × (List Int)) => t)) (by (show _ = _); kernel_rfl) (by
  rintro (t | t)
  · exact ret_mk [] (by kernel_rfl) (by kernel_rfl) (by kernel_rfl) (by kernel_rfl)
  · exact ret_mk [] (by kernel_rfl) (by kernel_rfl) (by kernel_rfl) (by kernel_rfl)) h

theorem spec_l20Fill_step (n : Nat) (h88 : Sound Tryd.prog 88 (F_spec_l20Fill_fuel n)) : Sound Tryd.prog 88 (F_spec_l20Fill_fuel (n + 1)) := by
  refine fn_sound' (C := spec_l20Fill_ctx n) (c := bodyOf Tryd.f88) (cok_of tys_ok (List.forall_mem_cons.2 ⟨spec_l20Rd_pick_sound, List.forall_mem_cons.2 ⟨h88, by simp⟩⟩) (List.forall_mem_cons.2 ⟨Tryd.call41, List.forall_mem_cons.2 ⟨Tryd.call88, by simp⟩⟩) (by kernel_rfl)) Tryd.func88 (by kernel_rfl) LL spec_l20Fill_an ?_
  intro avs H r H' h
  unfold F_spec_l20Fill_fuel at h
  split at h
  · refine Awp.cast ?_ ?_ ?_ (spec_l20Fill_e n _ _ _ _ _ _ h) <;> kernel_rfl
  · simp [Ans.no, Ans.run] at h

theorem spec_l20Fill_null : Sound Tryd.prog 88 (F_spec_l20Fill_fuel 0) := by
  intro avs H r H' h
  unfold F_spec_l20Fill_fuel at h
  split at h
  · simp [spec_l20Fill_fuel, spec_l20Fill_knot, Ans.run] at h
  · simp [Ans.no, Ans.run] at h

theorem spec_l20Fill_knot_all : ∀ n, Sound Tryd.prog 88 (F_spec_l20Fill_fuel n)
  | 0 => spec_l20Fill_null
  | n + 1 => by
    have h88 := spec_l20Fill_knot_all n
    exact spec_l20Fill_step n h88

def F_spec_l20Fill : Fun := fun avs H =>
  match avs, H with
  | [.ptr 0 0, .slc 1, .dat (.int .i64) x1173, .dat (.int .i64) x1174, .dat (.int .i64) x1175], [some (.box [.dat (.list (.int .u8)) x1176, .dat (.int .i64) x1177]), some (.seq (.int .i64) x1178)] => ⟨_, spec_l20Fill x1173 x1174 x1175 x1176 x1177 x1178, fun (t : Int × (List Int)) => (.tup [], [some (.box [.dat (.list (.int .u8)) x1176, .dat (.int .i64) t.1]), some (.seq (.int .i64) t.2)])⟩
  | _, _ => Ans.no

theorem spec_l20Fill_sound : Sound Tryd.prog 88 F_spec_l20Fill := by
  have e : F_spec_l20Fill = F_spec_l20Fill_fuel RR := by
    funext avs H
    unfold F_spec_l20Fill F_spec_l20Fill_fuel
    split <;> first | rfl | (simp only [spec_l20Fill])
  rw [e]
  exact (spec_l20Fill_knot_all RR)


/-! loop.example/headtrees/spec.l20Flat -/

def spec_l20Flat_an : Ann := (.seq (.leaf [0, 1]) (.seq (.seq (.leaf [0, 1, 9]) (.cond (.seq (.leaf [4]) (.leaf [4])) (.leaf [0]))) (.seq (.leaf [0, 5]) (.seq (.leaf [0, 5, 6]) (.seq (.leaf [6]) (.seq (.leaf [4]) (.leaf [4])))))))

noncomputable def spec_l20Flat_ctx : Ctx := ⟨tlook tys, olook [(41, F_spec_l20Rd_pick), (67, F_spec_l20Tree), (88, F_spec_l20Fill)], ioF, 1, false⟩

theorem spec_l20Flat_n1_l (x1126 : Int) (x1127 : List Int) (x1128 : Int) : Link spec_l20Flat_ctx LL (bodyOf Tryd.f70) spec_l20Flat_an (⟨mkE 23 0 [(0, .ptr 0 0), (1, .dat (.int .i64) x1126)], [some (.box [.dat (.list (.int .u8)) x1127, .dat (.int .i64) x1128])]⟩ : St) (spec_l20Flat_n1 x1126 x1127 x1128) (fun (t : Int × (List Int)) => (Exit.ret, (⟨mkE 23 0 [(4, .slc 1)], [some (.box [.dat (.list (.int .u8)) x1127, .dat (.int .i64) t.1]), some (.seq (.int .i64) t.2)]⟩ : St))) := by
  refine Link.of fun K h => ?_
  simp only [spec_l20Flat_n1, wpO_bind, wpO_cond, wpO_map, wpO_some] at h
  exact Awp.of (by kernel_rfl) h

theorem spec_l20Flat_e (x1126 : Int) (x1127 : List Int) (x1128 : Int) {r : AV} {H' : Heap} (h : (Ans.mk _ (spec_l20Flat x1126 x1127 x1128) (fun (t : Int × (List Int)) => (.slc 1, [some (.box [.dat (.list (.int .u8)) x1127, .dat (.int .i64) t.1]), some (.seq (.int .i64) t.2)]))).run = some (r, H')) : Awp spec_l20Flat_ctx LL (bodyOf Tryd.f70) spec_l20Flat_an (⟨mkE 23 0 [(0, .ptr 0 0), (1, .dat (.int .i64) x1126)], [some (.box [.dat (.list (.int .u8)) x1127, .dat (.int .i64) x1128])]⟩ : St) (Ret (tlook tys) Tryd.f70.results.toList r H') :=
  ret_of' (spec_l20Flat_n1_l x1126 x1127 x1128) (by unfold spec_l20Flat; kernel_rfl) (by
  intro t
  exact ret_mk [.slc 1] (by kernel_rfl) (by kernel_rfl) (by kernel_rfl) (by kernel_rfl)) h

def F_spec_l20Flat : Fun := fun avs H =>
  match avs, H with
  | [.ptr 0 0, .dat (.int .i64) x1126], [some (.box [.dat (.list (.int .u8)) x1127, .dat (.int .i64) x1128])] => ⟨_, spec_l20Flat x1126 x1127 x1128, fun (t : Int × (List Int)) => (.slc 1, [some (.box [.dat (.list (.int .u8)) x1127, .dat (.int .i64) t.1]), some (.seq (.int .i64) t.2)])⟩
  | _, _ => Ans.no

theorem spec_l20Flat_sound : Sound Tryd.prog 70 F_spec_l20Flat := by
  refine fn_sound' (C := spec_l20Flat_ctx) (c := bodyOf Tryd.f70) (cok_of tys_ok (List.forall_mem_cons.2 ⟨spec_l20Rd_pick_sound, List.forall_mem_cons.2 ⟨spec_l20Tree_sound, List.forall_mem_cons.2 ⟨spec_l20Fill_sound, by simp⟩⟩⟩) (List.forall_mem_cons.2 ⟨Tryd.call41, List.forall_mem_cons.2 ⟨Tryd.call67, List.forall_mem_cons.2 ⟨Tryd.call88, by simp⟩⟩⟩) (by kernel_rfl)) Tryd.func70 (by kernel_rfl) LL spec_l20Flat_an ?_
  intro avs H r H' h
  unfold F_spec_l20Flat at h
  split at h
  · refine Awp.cast ?_ ?_ ?_ (spec_l20Flat_e _ _ _ h) <;> kernel_rfl
  · simp [Ans.no, Ans.run] at h


/-! loop.example/headtrees/spec.l20Wild -/

def spec_l20Wild_an : Ann := (.seq (.leaf [0, 1]) (.seq (.leaf [0, 1, 5]) (.seq (.seq (.leaf [0, 1, 5, 17]) (.cond (.seq (.leaf [6]) (.seq (.leaf [4]) (.leaf [4]))) (.leaf [0, 1, 5]))) (.seq (.seq (.leaf [0, 1, 5, 30]) (.cond (.seq (.leaf [4]) (.leaf [4])) (.leaf [5]))) (.seq (.leaf [4]) (.leaf [4]))))))

noncomputable def spec_l20Wild_ctx : Ctx := ⟨tlook tys, olook [(67, F_spec_l20Tree), (41, F_spec_l20Rd_pick), (32, F_spec_TreeOk), (69, F_spec_l20Order), (68, F_spec_PutInOrder), (70, F_spec_l20Flat)], ioF, 1, false⟩

theorem spec_l20Wild_n1_l (x35 : Int) (x36 : List Int) (x37 : Int) : Link spec_l20Wild_ctx LL (bodyOf Tryd.f40) spec_l20Wild_an (⟨mkE 35 0 [(0, .ptr 0 0), (1, .dat (.int .i64) x35)], [some (.box [.dat (.list (.int .u8)) x36, .dat (.int .i64) x37])]⟩ : St) (spec_l20Wild_n1 x35 x36 x37) (fun (t : Int × (List Int)) => (Exit.ret, (⟨mkE 35 0 [(4, .slc 1)], [some (.box [.dat (.list (.int .u8)) x36, .dat (.int .i64) t.1]), some (.seq (.int .i64) t.2)]⟩ : St))) := by
  refine Link.of fun K h => ?_
  simp only [spec_l20Wild_n1, wpO_bind, wpO_cond, wpO_map, wpO_some] at h
  exact Awp.of (by kernel_rfl) h

theorem spec_l20Wild_e (x35 : Int) (x36 : List Int) (x37 : Int) {r : AV} {H' : Heap} (h : (Ans.mk _ (spec_l20Wild x35 x36 x37) (fun (t : Int × (List Int)) => (.slc 1, [some (.box [.dat (.list (.int .u8)) x36, .dat (.int .i64) t.1]), some (.seq (.int .i64) t.2)]))).run = some (r, H')) : Awp spec_l20Wild_ctx LL (bodyOf Tryd.f40) spec_l20Wild_an (⟨mkE 35 0 [(0, .ptr 0 0), (1, .dat (.int .i64) x35)], [some (.box [.dat (.list (.int .u8)) x36, .dat (.int .i64) x37])]⟩ : St) (Ret (tlook tys) Tryd.f40.results.toList r H') :=
  ret_of' (spec_l20Wild_n1_l x35 x36 x37) (by unfold spec_l20Wild; kernel_rfl) (by
  intro t
  exact ret_mk [.slc 1] (by kernel_rfl) (by kernel_rfl) (by kernel_rfl) (by kernel_rfl)) h

def F_spec_l20Wild : Fun := fun avs H =>
  match avs, H with
  | [.ptr 0 0, .dat (.int .i64) x35], [some (.box [.dat (.list (.int .u8)) x36, .dat (.int .i64) x37])] => ⟨_, spec_l20Wild x35 x36 x37, fun (t : Int × (List Int)) => (.slc 1, [some (.box [.dat (.list (.int .u8)) x36, .dat (.int .i64) t.1]), some (.seq (.int .i64) t.2)])⟩
  | _, _ => Ans.no

theorem spec_l20Wild_sound : Sound Tryd.prog 40 F_spec_l20Wild := by
  refine fn_sound' (C := spec_l20Wild_ctx) (c := bodyOf Tryd.f40) (cok_of tys_ok (List.forall_mem_cons.2 ⟨spec_l20Tree_sound, List.forall_mem_cons.2 ⟨spec_l20Rd_pick_sound, List.forall_mem_cons.2 ⟨spec_TreeOk_sound, List.forall_mem_cons.2 ⟨spec_l20Order_sound, List.forall_mem_cons.2 ⟨spec_PutInOrder_sound, List.forall_mem_cons.2 ⟨spec_l20Flat_sound, by simp⟩⟩⟩⟩⟩⟩) (List.forall_mem_cons.2 ⟨Tryd.call67, List.forall_mem_cons.2 ⟨Tryd.call41, List.forall_mem_cons.2 ⟨Tryd.call32, List.forall_mem_cons.2 ⟨Tryd.call69, List.forall_mem_cons.2 ⟨Tryd.call68, List.forall_mem_cons.2 ⟨Tryd.call70, by simp⟩⟩⟩⟩⟩⟩) (by kernel_rfl)) Tryd.func40 (by kernel_rfl) LL spec_l20Wild_an ?_
  intro avs H r H' h
  unfold F_spec_l20Wild at h
  split at h
  · refine Awp.cast ?_ ?_ ?_ (spec_l20Wild_e _ _ _ h) <;> kernel_rfl
  · simp [Ans.no, Ans.run] at h


/-! loop.example/headtrees/spec.DrawGapsOf -/

def spec_DrawGapsOf_an : Ann := (.seq (.leaf [0]) (.seq (.leaf [4]) (.seq (.leaf [4, 5]) (.seq (.leaf [2, 3]) (.leaf [2, 3])))))

noncomputable def spec_DrawGapsOf_ctx : Ctx := ⟨tlook tys, olook [(39, F_spec_l20Open), (40, F_spec_l20Wild), (41, F_spec_l20Rd_pick)], ioF, 0, false⟩

theorem spec_DrawGapsOf_n1_l (x10 : List Int) : Link spec_DrawGapsOf_ctx LL (bodyOf Tryd.f11) spec_DrawGapsOf_an (⟨mkE 16 0 [(0, .dat (.list (.int .u8)) x10)], []⟩ : St) (spec_DrawGapsOf_n1 x10) (fun (t : Int × (List Int)) => (Exit.ret, (⟨mkE 16 0 [(2, .slc 0), (3, .dat (.int .i64) t.1)], [some (.seq (.int .i64) t.2)]⟩ : St))) := by
  refine Link.of fun K h => ?_
  simp only [spec_DrawGapsOf_n1, wpO_bind, wpO_cond, wpO_map, wpO_some] at h
  exact Awp.of (by kernel_rfl) h

theorem spec_DrawGapsOf_e (x10 : List Int) {r : AV} {H' : Heap} (h : (Ans.mk _ (spec_DrawGapsOf x10) (fun (t : Int × (List Int)) => (.tup [.slc 0, .dat (.int .i64) t.1], [some (.seq (.int .i64) t.2)]))).run = some (r, H')) : Awp spec_DrawGapsOf_ctx LL (bodyOf Tryd.f11) spec_DrawGapsOf_an (⟨mkE 16 0 [(0, .dat (.list (.int .u8)) x10)], []⟩ : St) (Ret (tlook tys) Tryd.f11.results.toList r H') :=
  ret_of' (spec_DrawGapsOf_n1_l x10) (by unfold spec_DrawGapsOf; kernel_rfl) (by
  intro t
  exact ret_mk [.slc 0, .dat (.int .i64) t.1] (by kernel_rfl) (by kernel_rfl) (by kernel_rfl) (by kernel_rfl)) h

def F_spec_DrawGapsOf : Fun := fun avs H =>
  match avs, H with
  | [.dat (.list (.int .u8)) x10], [] => ⟨_, spec_DrawGapsOf x10, fun (t : Int × (List Int)) => (.tup [.slc 0, .dat (.int .i64) t.1], [some (.seq (.int .i64) t.2)])⟩
  | _, _ => Ans.no

theorem spec_DrawGapsOf_sound : Sound Tryd.prog 11 F_spec_DrawGapsOf := by
  refine fn_sound' (C := spec_DrawGapsOf_ctx) (c := bodyOf Tryd.f11) (cok_of tys_ok (List.forall_mem_cons.2 ⟨spec_l20Open_sound, List.forall_mem_cons.2 ⟨spec_l20Wild_sound, List.forall_mem_cons.2 ⟨spec_l20Rd_pick_sound, by simp⟩⟩⟩) (List.forall_mem_cons.2 ⟨Tryd.call39, List.forall_mem_cons.2 ⟨Tryd.call40, List.forall_mem_cons.2 ⟨Tryd.call41, by simp⟩⟩⟩) (by kernel_rfl)) Tryd.func11 (by kernel_rfl) LL spec_DrawGapsOf_an ?_
  intro avs H r H' h
  unfold F_spec_DrawGapsOf at h
  split at h
  · refine Awp.cast ?_ ?_ ?_ (spec_DrawGapsOf_e _ h) <;> kernel_rfl
  · simp [Ans.no, Ans.run] at h


/-! loop.example/headtrees/impl.oneRoot -/

def impl_oneRoot_an : Ann := (.seq (.leaf [0]) (.seq (.leaf [0, 3]) (.seq (.seq (.leaf [0, 3, 6, 7, 8]) (.block (.loop (.seq (.leaf [0, 3, 6, 7, 8, 9]) (.seq (.cond (.leaf [0, 3, 6, 7, 8]) (.leaf [3])) (.seq (.block (.seq (.leaf [0, 3, 5, 6, 7, 8]) (.seq (.seq (.leaf [0, 3, 5, 6, 7, 8, 19]) (.cond (.seq (.leaf [2]) (.leaf [2])) (.leaf [0, 3, 5, 6, 7, 8]))) (.seq (.leaf [0, 3, 6, 7, 8, 21]) (.cond (.leaf [0, 3, 6, 7, 8]) (.leaf [0, 3, 6, 7, 8])))))) (.leaf [0, 3, 6, 7, 8]))))))) (.seq (.leaf [2]) (.leaf [2])))))

noncomputable def impl_oneRoot_ctx : Ctx := ⟨tlook tys, olook [], ioF, 0, false⟩

theorem impl_oneRoot_n1_l (x1453 : List Int) : Link impl_oneRoot_ctx LL (Code.seq (Code.fst (bodyOf Tryd.f53)) (Code.fst (Code.snd (bodyOf Tryd.f53)))) (Ann.seq (Ann.fst impl_oneRoot_an) (Ann.fst (Ann.snd impl_oneRoot_an))) (⟨mkE 27 0 [(0, .dat (.list (.int .i64)) x1453)], []⟩ : St) (impl_oneRoot_n1) (fun (t : Unit) => (Exit.normal, (⟨mkE 27 0 [(0, .dat (.list (.int .i64)) x1453), (3, .dat (.int .i64) 0)], []⟩ : St))) := by
  refine Link.of fun K h => ?_
  simp only [impl_oneRoot_n1, wpO_bind, wpO_cond, wpO_map, wpO_some] at h
  exact Awp.of (by kernel_rfl) h

theorem impl_oneRoot_n2_l (x1453 : List Int) : Link impl_oneRoot_ctx LL (Code.fst (Code.fst (Code.snd (Code.snd (bodyOf Tryd.f53))))) (Ann.fst (Ann.fst (Ann.snd (Ann.snd impl_oneRoot_an)))) (⟨mkE 27 0 [(0, .dat (.list (.int .i64)) x1453), (3, .dat (.int .i64) 0)], []⟩ : St) (impl_oneRoot_n2 x1453) (fun (t : Int) => (Exit.normal, (⟨mkE 27 0 [(0, .dat (.list (.int .i64)) x1453), (3, .dat (.int .i64) 0), (6, .dat (.list (.int .i64)) x1453), (7, .dat (.int .i64) t), (8, .dat (.int .i64) 0)], []⟩ : St))) := by
  refine Link.of fun K h => ?_
  simp only [impl_oneRoot_n2, wpO_bind, wpO_cond, wpO_map, wpO_some] at h
  exact Awp.of (by kernel_rfl) h

theorem impl_oneRoot_n3_l (x1453 : List Int) (x1475 : Int) (x1454 : Int) (x1476 : Int) : Link impl_oneRoot_ctx LL (Code.fst (Code.fst (Code.snd (Code.fst (Code.snd (Code.snd (bodyOf Tryd.f53))))))) (Ann.fst (Ann.fst (Ann.snd (Ann.fst (Ann.snd (Ann.snd impl_oneRoot_an)))))) (⟨mkE 27 0 [(0, .dat (.list (.int .i64)) x1453), (3, .dat (.int .i64) x1475), (6, .dat (.list (.int .i64)) x1453), (7, .dat (.int .i64) x1454), (8, .dat (.int .i64) x1476)], []⟩ : St) (impl_oneRoot_n3 x1453 x1475 x1454 x1476) (Sum.elim (fun (t : Int × Int) => (Exit.normal, (⟨mkE 27 0 [(0, .dat (.list (.int .i64)) x1453), (3, .dat (.int .i64) t.1), (6, .dat (.list (.int .i64)) x1453), (7, .dat (.int .i64) x1454), (8, .dat (.int .i64) t.2)], []⟩ : St))) (Sum.elim (fun (t : Bool) => (Exit.ret, (⟨mkE 27 0 [(2, .dat .bool t)], []⟩ : St))) (fun (t : Int) => ((Exit.exit 0), (⟨mkE 27 0 [(3, .dat (.int .i64) t)], []⟩ : St))))) := by
  refine Link.of fun K h => ?_
  simp only [impl_oneRoot_n3, wpO_bind, wpO_cond, wpO_map, wpO_some] at h
  exact Awp.of (by kernel_rfl) h

theorem impl_oneRoot_n4_l (x1453 : List Int) (x1454 : Int) : Link impl_oneRoot_ctx LL (Code.fst (Code.snd (Code.fst (Code.snd (Code.snd (bodyOf Tryd.f53)))))) (Ann.fst (Ann.snd (Ann.fst (Ann.snd (Ann.snd impl_oneRoot_an))))) (⟨mkE 27 0 [(0, .dat (.list (.int .i64)) x1453), (3, .dat (.int .i64) 0), (6, .dat (.list (.int .i64)) x1453), (7, .dat (.int .i64) x1454), (8, .dat (.int .i64) 0)], []⟩ : St) (impl_oneRoot_n4 x1453 x1454) (Sum.elim (fun (t : Bool) => (Exit.ret, (⟨mkE 27 0 [(2, .dat .bool t)], []⟩ : St))) (fun (t : Int) => ((Exit.exit 0), (⟨mkE 27 0 [(3, .dat (.int .i64) t)], []⟩ : St)))) := by
  unfold impl_oneRoot_n4
  exact Link.cast (by kernel_rfl) (by kernel_rfl) (link_loop (mk := fun (s : Int × Int) => (⟨mkE 27 0 [(0, .dat (.list (.int .i64)) x1453), (3, .dat (.int .i64) s.1), (6, .dat (.list (.int .i64)) x1453), (7, .dat (.int .i64) x1454), (8, .dat (.int .i64) s.2)], []⟩ : St)) (fin := (Sum.elim (fun (t : Bool) => (Exit.ret, (⟨mkE 27 0 [(2, .dat .bool t)], []⟩ : St))) (fun (t : Int) => ((Exit.exit 0), (⟨mkE 27 0 [(3, .dat (.int .i64) t)], []⟩ : St))))) (by
  rintro (t | t) f K h
  · exact h
  · exact h) (fun s => link_map (impl_oneRoot_n3_l x1453 s.1 x1454 s.2) (Sum.elim (fun (t : Int × Int) => Sum.inl (t.1, t.2)) (Sum.elim (fun (t : Bool) => Sum.inr (Sum.inl t)) (fun (t : Int) => Sum.inr (Sum.inr t)))) (by
  rintro (t | t | t)
  · kernel_rfl
  · kernel_rfl
  · kernel_rfl)) (0, 0))

theorem impl_oneRoot_n5_l (x1453 : List Int) (x1454 : Int) : Link impl_oneRoot_ctx LL (Code.snd (Code.fst (Code.snd (Code.snd (bodyOf Tryd.f53))))) (Ann.snd (Ann.fst (Ann.snd (Ann.snd impl_oneRoot_an)))) (⟨mkE 27 0 [(0, .dat (.list (.int .i64)) x1453), (3, .dat (.int .i64) 0), (6, .dat (.list (.int .i64)) x1453), (7, .dat (.int .i64) x1454), (8, .dat (.int .i64) 0)], []⟩ : St) (impl_oneRoot_n5 x1453 x1454) (Sum.elim (fun (t : Int) => (Exit.normal, (⟨mkE 27 0 [(3, .dat (.int .i64) t)], []⟩ : St))) (fun (t : Bool) => (Exit.ret, (⟨mkE 27 0 [(2, .dat .bool t)], []⟩ : St)))) := by
  unfold impl_oneRoot_n5
  exact Link.cast (by kernel_rfl) (by kernel_rfl) (link_block (id := 0) (impl_oneRoot_n4_l x1453 x1454) (Sum.elim (fun (t : Bool) => (Sum.inr t)) (fun (t : Int) => (Sum.inl t))) (by
  rintro (t | t) K h
  · exact Eq.mp (by kernel_rfl) h
  · exact Eq.mp (by kernel_rfl) h))

theorem impl_oneRoot_n6_l (x1453 : List Int) : Link impl_oneRoot_ctx LL (Code.fst (Code.snd (Code.snd (bodyOf Tryd.f53)))) (Ann.fst (Ann.snd (Ann.snd impl_oneRoot_an))) (⟨mkE 27 0 [(0, .dat (.list (.int .i64)) x1453), (3, .dat (.int .i64) 0)], []⟩ : St) (impl_oneRoot_n6 x1453) (Sum.elim (fun (t : Int) => (Exit.normal, (⟨mkE 27 0 [(3, .dat (.int .i64) t)], []⟩ : St))) (fun (t : Bool) => (Exit.ret, (⟨mkE 27 0 [(2, .dat .bool t)], []⟩ : St)))) := by
  unfold impl_oneRoot_n6
  exact Link.cast (by kernel_rfl) (by kernel_rfl) (link_seq (b := (Code.snd (Code.fst (Code.snd (Code.snd (bodyOf Tryd.f53)))))) (y := (Ann.snd (Ann.fst (Ann.snd (Ann.snd impl_oneRoot_an))))) (impl_oneRoot_n2_l x1453) (fun (t : Int) => (impl_oneRoot_n5_l x1453 t)))

theorem impl_oneRoot_n7_l (x1475 : Int) : Link impl_oneRoot_ctx LL (Code.snd (Code.snd (Code.snd (bodyOf Tryd.f53)))) (Ann.snd (Ann.snd (Ann.snd impl_oneRoot_an))) (⟨mkE 27 0 [(3, .dat (.int .i64) x1475)], []⟩ : St) (impl_oneRoot_n7 x1475) (fun (t : Bool) => (Exit.ret, (⟨mkE 27 0 [(2, .dat .bool t)], []⟩ : St))) := by
  refine Link.of fun K h => ?_
  simp only [impl_oneRoot_n7, wpO_bind, wpO_cond, wpO_map, wpO_some] at h
  exact Awp.of (by kernel_rfl) h

theorem impl_oneRoot_n8_l (x1453 : List Int) : Link impl_oneRoot_ctx LL (Code.snd (Code.snd (bodyOf Tryd.f53))) (Ann.snd (Ann.snd impl_oneRoot_an)) (⟨mkE 27 0 [(0, .dat (.list (.int .i64)) x1453), (3, .dat (.int .i64) 0)], []⟩ : St) (impl_oneRoot_n8 x1453) (fun (t : Bool) => (Exit.ret, (⟨mkE 27 0 [(2, .dat .bool t)], []⟩ : St))) := by
  unfold impl_oneRoot_n8
  exact Link.cast (by kernel_rfl) (by kernel_rfl) (link_seq2 (b := (Code.snd (Code.snd (Code.snd (bodyOf Tryd.f53))))) (y := (Ann.snd (Ann.snd (Ann.snd impl_oneRoot_an)))) (impl_oneRoot_n6_l x1453) (fun (t : Int) => (impl_oneRoot_n7_l t)) (fun (t : Bool) => t) (by
  rintro t
  · kernel_rfl) (by
  rintro t f K h
  · exact h))

theorem impl_oneRoot_n9_l (x1453 : List Int) : Link impl_oneRoot_ctx LL (bodyOf Tryd.f53) impl_oneRoot_an (⟨mkE 27 0 [(0, .dat (.list (.int .i64)) x1453)], []⟩ : St) (impl_oneRoot_n9 x1453) (fun (t : Bool) => (Exit.ret, (⟨mkE 27 0 [(2, .dat .bool t)], []⟩ : St))) := by
  unfold impl_oneRoot_n9
  exact Link.cast (by kernel_rfl) (by kernel_rfl) (link_group (c := (Code.fst (Code.snd (bodyOf Tryd.f53)))) (a := (Ann.fst (Ann.snd impl_oneRoot_an))) [(Code.fst (bodyOf Tryd.f53))] [(Ann.fst impl_oneRoot_an)] rfl (link_seq (b := (Code.snd (Code.snd (bodyOf Tryd.f53)))) (y := (Ann.snd (Ann.snd impl_oneRoot_an))) (impl_oneRoot_n1_l x1453) (fun (t : Unit) => (impl_oneRoot_n8_l x1453))))

theorem impl_oneRoot_e (x1453 : List Int) {r : AV} {H' : Heap} (h : (Ans.mk _ (impl_oneRoot x1453) (fun (t : Bool) => (.dat .bool t, []))).run = some (r, H')) : Awp impl_oneRoot_ctx LL (bodyOf Tryd.f53) impl_oneRoot_an (⟨mkE 27 0 [(0, .dat (.list (.int .i64)) x1453)], []⟩ : St) (Ret (tlook tys) Tryd.f53.results.toList r H') :=
  ret_of' (impl_oneRoot_n9_l x1453) (by unfold impl_oneRoot; kernel_rfl) (by
  intro t
  exact ret_mk [.dat .bool t] (by kernel_rfl) (by kernel_rfl) (by kernel_rfl) (by kernel_rfl)) h

def F_impl_oneRoot : Fun := fun avs H =>
  match avs, H with
  | [.dat (.list (.int .i64)) x1453], [] => ⟨_, impl_oneRoot x1453, fun (t : Bool) => (.dat .bool t, [])⟩
  | _, _ => Ans.no

theorem impl_oneRoot_sound : Sound Tryd.prog 53 F_impl_oneRoot := by
  refine fn_sound' (C := impl_oneRoot_ctx) (c := bodyOf Tryd.f53) (cok_of tys_ok (by simp) (by simp) (by kernel_rfl)) Tryd.func53 (by kernel_rfl) LL impl_oneRoot_an ?_
  intro avs H r H' h
  unfold F_impl_oneRoot at h
  split at h
  · refine Awp.cast ?_ ?_ ?_ (impl_oneRoot_e _ h) <;> kernel_rfl
  · simp [Ans.no, Ans.run] at h


/-! (*loop.example/headtrees/impl.walker).up -/

def impl_walker_up_an : Ann := (.seq (.leaf [0]) (.seq (.draw [] [0, 1, 2, 3, 4, 5, 6, 7, 8, 9, 10, 11] [] [0, 3]) (.seq (.seq (.leaf [0, 3, 16]) (.cond (.seq (.leaf [2]) (.leaf [2])) (.leaf [0, 3]))) (.seq (.leaf [0]) (.seq (.leaf []) (.seq (.leaf [2]) (.leaf [2])))))))

noncomputable def impl_walker_up_ctx : Ctx := ⟨tlook tys, olook [], ioF, 1, false⟩

theorem impl_walker_up_n1_l (x1509 : List Int) (x1510 : Int) (x1511 : Int) : Link impl_walker_up_ctx LL (bodyOf Tryd.f50) impl_walker_up_an (⟨mkE 28 0 [(0, .ptr 0 0)], [some (.box [.dat (.list (.int .i64)) x1509, .dat (.int .i64) x1510, .dat (.int .i64) x1511])]⟩ : St) (impl_walker_up_n1 x1509 x1510 x1511) (fun (t : Bool × Int × Int) => (Exit.ret, (⟨mkE 28 0 [(2, .dat .bool t.1)], [some (.box [.dat (.list (.int .i64)) x1509, .dat (.int .i64) t.2.1, .dat (.int .i64) t.2.2])]⟩ : St))) := by
  refine Link.of fun K h => ?_
  simp only [impl_walker_up_n1, wpO_bind, wpO_cond, wpO_map, wpO_some] at h
  exact Awp.of (by kernel_rfl) h

theorem impl_walker_up_e (x1509 : List Int) (x1510 : Int) (x1511 : Int) {r : AV} {H' : Heap} (h : (Ans.mk _ (impl_walker_up x1509 x1510 x1511) (fun (t : Bool × Int × Int) => (.dat .bool t.1, [some (.box [.dat (.list (.int .i64)) x1509, .dat (.int .i64) t.2.1, .dat (.int .i64) t.2.2])]))).run = some (r, H')) : Awp impl_walker_up_ctx LL (bodyOf Tryd.f50) impl_walker_up_an (⟨mkE 28 0 [(0, .ptr 0 0)], [some (.box [.dat (.list (.int .i64)) x1509, .dat (.int .i64) x1510, .dat (.int .i64) x1511])]⟩ : St) (Ret (tlook tys) Tryd.f50.results.toList r H') :=
  ret_of' (impl_walker_up_n1_l x1509 x1510 x1511) (by unfold impl_walker_up; kernel_rfl) (by
  intro t
  exact ret_mk [.dat .bool t.1] (by kernel_rfl) (by kernel_rfl) (by kernel_rfl) (by kernel_rfl)) h

def F_impl_walker_up : Fun := fun avs H =>
  match avs, H with
  | [.ptr 0 0], [some (.box [.dat (.list (.int .i64)) x1509, .dat (.int .i64) x1510, .dat (.int .i64) x1511])] => ⟨_, impl_walker_up x1509 x1510 x1511, fun (t : Bool × Int × Int) => (.dat .bool t.1, [some (.box [.dat (.list (.int .i64)) x1509, .dat (.int .i64) t.2.1, .dat (.int .i64) t.2.2])])⟩
  | _, _ => Ans.no

theorem impl_walker_up_sound : Sound Tryd.prog 50 F_impl_walker_up := by
  refine fn_sound' (C := impl_walker_up_ctx) (c := bodyOf Tryd.f50) (cok_of tys_ok (by simp) (by simp) (by kernel_rfl)) Tryd.func50 (by kernel_rfl) LL impl_walker_up_an ?_
  intro avs H r H' h
  unfold F_impl_walker_up at h
  split at h
  · refine Awp.cast ?_ ?_ ?_ (impl_walker_up_e _ _ _ h) <;> kernel_rfl
  · simp [Ans.no, Ans.run] at h


/-! loop.example/headtrees/impl.stepsToRoot -/

def impl_stepsToRoot_an : Ann := (.seq (.leaf [0, 1]) (.seq (.leaf [0, 6]) (.seq (.block (.loop (.seq (.seq (.leaf [0, 6, 10]) (.cond (.leaf [0, 6]) (.leaf [6]))) (.block (.seq (.leaf [0, 6, 15]) (.cond (.seq (.leaf [4, 5]) (.leaf [4, 5])) (.leaf [0, 6]))))))) (.seq (.leaf [4, 5]) (.leaf [4, 5])))))

noncomputable def impl_stepsToRoot_ctx : Ctx := ⟨tlook tys, olook [(50, F_impl_walker_up)], ioF, 0, false⟩

theorem impl_stepsToRoot_n1_l (x1507 : List Int) (x1508 : Int) : Link impl_stepsToRoot_ctx LL (Code.seq (Code.fst (bodyOf Tryd.f54)) (Code.fst (Code.snd (bodyOf Tryd.f54)))) (Ann.seq (Ann.fst impl_stepsToRoot_an) (Ann.fst (Ann.snd impl_stepsToRoot_an))) (⟨mkE 18 0 [(0, .dat (.list (.int .i64)) x1507), (1, .dat (.int .i64) x1508)], []⟩ : St) (impl_stepsToRoot_n1) (fun (t : Unit) => (Exit.normal, (⟨mkE 18 0 [(0, .dat (.list (.int .i64)) x1507), (6, .ptr 0 0)], [some (.box [.dat (.list (.int .i64)) x1507, .dat (.int .i64) x1508, .dat (.int .i64) 0])]⟩ : St))) := by
  refine Link.of fun K h => ?_
  simp only [impl_stepsToRoot_n1, wpO_bind, wpO_cond, wpO_map, wpO_some] at h
  exact Awp.of (by kernel_rfl) h

theorem impl_stepsToRoot_n2_l (x1507 : List Int) (x1545 : Int) (x1546 : Int) : Link impl_stepsToRoot_ctx LL (Code.fst (Code.fst (Code.fst (Code.snd (Code.snd (bodyOf Tryd.f54)))))) (Ann.fst (Ann.fst (Ann.fst (Ann.snd (Ann.snd impl_stepsToRoot_an))))) (⟨mkE 18 0 [(0, .dat (.list (.int .i64)) x1507), (6, .ptr 0 0)], [some (.box [.dat (.list (.int .i64)) x1507, .dat (.int .i64) x1545, .dat (.int .i64) x1546])]⟩ : St) (impl_stepsToRoot_n2 x1507 x1545 x1546) (Sum.elim (fun (t : Int × Int) => (Exit.normal, (⟨mkE 18 0 [(0, .dat (.list (.int .i64)) x1507), (6, .ptr 0 0)], [some (.box [.dat (.list (.int .i64)) x1507, .dat (.int .i64) t.1, .dat (.int .i64) t.2])]⟩ : St))) (Sum.elim (fun (t : Int × Bool) => (Exit.ret, (⟨mkE 18 0 [(4, .dat (.int .i64) t.1), (5, .dat .bool t.2)], []⟩ : St))) (fun (t : Int × Int) => ((Exit.exit 0), (⟨mkE 18 0 [(6, .ptr 0 0)], [some (.box [.dat (.list (.int .i64)) x1507, .dat (.int .i64) t.1, .dat (.int .i64) t.2])]⟩ : St))))) := by
  refine Link.of fun K h => ?_
  simp only [impl_stepsToRoot_n2, wpO_bind, wpO_cond, wpO_map, wpO_some] at h
  exact Awp.of (by kernel_rfl) h

theorem impl_stepsToRoot_n3_l (x1507 : List Int) (x1508 : Int) : Link impl_stepsToRoot_ctx LL (Code.fst (Code.fst (Code.snd (Code.snd (bodyOf Tryd.f54))))) (Ann.fst (Ann.fst (Ann.snd (Ann.snd impl_stepsToRoot_an)))) (⟨mkE 18 0 [(0, .dat (.list (.int .i64)) x1507), (6, .ptr 0 0)], [some (.box [.dat (.list (.int .i64)) x1507, .dat (.int .i64) x1508, .dat (.int .i64) 0])]⟩ : St) (impl_stepsToRoot_n3 x1507 x1508) (Sum.elim (fun (t : Int × Bool) => (Exit.ret, (⟨mkE 18 0 [(4, .dat (.int .i64) t.1), (5, .dat .bool t.2)], []⟩ : St))) (fun (t : Int × Int) => ((Exit.exit 0), (⟨mkE 18 0 [(6, .ptr 0 0)], [some (.box [.dat (.list (.int .i64)) x1507, .dat (.int .i64) t.1, .dat (.int .i64) t.2])]⟩ : St)))) := by
  unfold impl_stepsToRoot_n3
  exact Link.cast (by kernel_rfl) (by kernel_rfl) (link_loop (mk := fun (s : Int × Int) => (⟨mkE 18 0 [(0, .dat (.list (.int .i64)) x1507), (6, .ptr 0 0)], [some (.box [.dat (.list (.int .i64)) x1507, .dat (.int .i64) s.1, .dat (.int .i64) s.2])]⟩ : St)) (fin := (Sum.elim (fun (t : Int × Bool) => (Exit.ret, (⟨mkE 18 0 [(4, .dat (.int .i64) t.1), (5, .dat .bool t.2)], []⟩ : St))) (fun (t : Int × Int) => ((Exit.exit 0), (⟨mkE 18 0 [(6, .ptr 0 0)], [some (.box [.dat (.list (.int .i64)) x1507, .dat (.int .i64) t.1, .dat (.int .i64) t.2])]⟩ : St))))) (by
  rintro (t | t) f K h
  · exact h
  · exact h) (fun s => link_map (impl_stepsToRoot_n2_l x1507 s.1 s.2) (Sum.elim (fun (t : Int × Int) => Sum.inl (t.1, t.2)) (Sum.elim (fun (t : Int × Bool) => Sum.inr (Sum.inl t)) (fun (t : Int × Int) => Sum.inr (Sum.inr t)))) (by
  rintro (t | t | t)
  · kernel_rfl
  · kernel_rfl
  · kernel_rfl)) (x1508, 0))

theorem impl_stepsToRoot_n4_l (x1507 : List Int) (x1508 : Int) : Link impl_stepsToRoot_ctx LL (Code.fst (Code.snd (Code.snd (bodyOf Tryd.f54)))) (Ann.fst (Ann.snd (Ann.snd impl_stepsToRoot_an))) (⟨mkE 18 0 [(0, .dat (.list (.int .i64)) x1507), (6, .ptr 0 0)], [some (.box [.dat (.list (.int .i64)) x1507, .dat (.int .i64) x1508, .dat (.int .i64) 0])]⟩ : St) (impl_stepsToRoot_n4 x1507 x1508) (Sum.elim (fun (t : Int × Int) => (Exit.normal, (⟨mkE 18 0 [(6, .ptr 0 0)], [some (.box [.dat (.list (.int .i64)) x1507, .dat (.int .i64) t.1, .dat (.int .i64) t.2])]⟩ : St))) (fun (t : Int × Bool) => (Exit.ret, (⟨mkE 18 0 [(4, .dat (.int .i64) t.1), (5, .dat .bool t.2)], []⟩ : St)))) := by
  unfold impl_stepsToRoot_n4
  exact Link.cast (by kernel_rfl) (by kernel_rfl) (link_block (id := 0) (impl_stepsToRoot_n3_l x1507 x1508) (Sum.elim (fun (t : Int × Bool) => (Sum.inr t)) (fun (t : Int × Int) => (Sum.inl (t.1, t.2)))) (by
  rintro (t | t) K h
  · exact Eq.mp (by kernel_rfl) h
  · exact Eq.mp (by kernel_rfl) h))

theorem impl_stepsToRoot_n5_l (x1507 : List Int) (x1553 : Int) (x1554 : Int) : Link impl_stepsToRoot_ctx LL (Code.snd (Code.snd (Code.snd (bodyOf Tryd.f54)))) (Ann.snd (Ann.snd (Ann.snd impl_stepsToRoot_an))) (⟨mkE 18 0 [(6, .ptr 0 0)], [some (.box [.dat (.list (.int .i64)) x1507, .dat (.int .i64) x1553, .dat (.int .i64) x1554])]⟩ : St) (impl_stepsToRoot_n5 x1554) (fun (t : Int × Bool) => (Exit.ret, (⟨mkE 18 0 [(4, .dat (.int .i64) t.1), (5, .dat .bool t.2)], []⟩ : St))) := by
  refine Link.of fun K h => ?_
  simp only [impl_stepsToRoot_n5, wpO_bind, wpO_cond, wpO_map, wpO_some] at h
  exact Awp.of (by kernel_rfl) h

theorem impl_stepsToRoot_n6_l (x1507 : List Int) (x1508 : Int) : Link impl_stepsToRoot_ctx LL (Code.snd (Code.snd (bodyOf Tryd.f54))) (Ann.snd (Ann.snd impl_stepsToRoot_an)) (⟨mkE 18 0 [(0, .dat (.list (.int .i64)) x1507), (6, .ptr 0 0)], [some (.box [.dat (.list (.int .i64)) x1507, .dat (.int .i64) x1508, .dat (.int .i64) 0])]⟩ : St) (impl_stepsToRoot_n6 x1507 x1508) (fun (t : Int × Bool) => (Exit.ret, (⟨mkE 18 0 [(4, .dat (.int .i64) t.1), (5, .dat .bool t.2)], []⟩ : St))) := by
  unfold impl_stepsToRoot_n6
  exact Link.cast (by kernel_rfl) (by kernel_rfl) (link_seq2 (b := (Code.snd (Code.snd (Code.snd (bodyOf Tryd.f54))))) (y := (Ann.snd (Ann.snd (Ann.snd impl_stepsToRoot_an)))) (impl_stepsToRoot_n4_l x1507 x1508) (fun (t : Int × Int) => (impl_stepsToRoot_n5_l x1507 t.1 t.2)) (fun (t : Int × Bool) => t) (by
  rintro t
  · kernel_rfl) (by
  rintro t f K h
  · exact h))

theorem impl_stepsToRoot_n7_l (x1507 : List Int) (x1508 : Int) : Link impl_stepsToRoot_ctx LL (bodyOf Tryd.f54) impl_stepsToRoot_an (⟨mkE 18 0 [(0, .dat (.list (.int .i64)) x1507), (1, .dat (.int .i64) x1508)], []⟩ : St) (impl_stepsToRoot_n7 x1507 x1508) (fun (t : Int × Bool) => (Exit.ret, (⟨mkE 18 0 [(4, .dat (.int .i64) t.1), (5, .dat .bool t.2)], []⟩ : St))) := by
  unfold impl_stepsToRoot_n7
  exact Link.cast (by kernel_rfl) (by kernel_rfl) (link_group (c := (Code.fst (Code.snd (bodyOf Tryd.f54)))) (a := (Ann.fst (Ann.snd impl_stepsToRoot_an))) [(Code.fst (bodyOf Tryd.f54))] [(Ann.fst impl_stepsToRoot_an)] rfl (link_seq (b := (Code.snd (Code.snd (bodyOf Tryd.f54)))) (y := (Ann.snd (Ann.snd impl_stepsToRoot_an))) (impl_stepsToRoot_n1_l x1507 x1508) (fun (t : Unit) => (impl_stepsToRoot_n6_l x1507 x1508))))

theorem impl_stepsToRoot_e (x1507 : List Int) (x1508 : Int) {r : AV} {H' : Heap} (h : (Ans.mk _ (impl_stepsToRoot x1507 x1508) (fun (t : Int × Bool) => (.tup [.dat (.int .i64) t.1, .dat .bool t.2], []))).run = some (r, H')) : Awp impl_stepsToRoot_ctx LL (bodyOf Tryd.f54) impl_stepsToRoot_an (⟨mkE 18 0 [(0, .dat (.list (.int .i64)) x1507), (1, .dat (.int .i64) x1508)], []⟩ : St) (Ret (tlook tys) Tryd.f54.results.toList r H') :=
  ret_of' (impl_stepsToRoot_n7_l x1507 x1508) (by unfold impl_stepsToRoot; kernel_rfl) (by
  intro t
  exact ret_mk [.dat (.int .i64) t.1, .dat .bool t.2] (by kernel_rfl) (by kernel_rfl) (by kernel_rfl) (by kernel_rfl)) h

def F_impl_stepsToRoot : Fun := fun avs H =>
  match avs, H with
  | [.dat (.list (.int .i64)) x1507, .dat (.int .i64) x1508], [] => ⟨_, impl_stepsToRoot x1507 x1508, fun (t : Int × Bool) => (.tup [.dat (.int .i64) t.1, .dat .bool t.2], [])⟩
  | _, _ => Ans.no

theorem impl_stepsToRoot_sound : Sound Tryd.prog 54 F_impl_stepsToRoot := by
  refine fn_sound' (C := impl_stepsToRoot_ctx) (c := bodyOf Tryd.f54) (cok_of tys_ok (List.forall_mem_cons.2 ⟨impl_walker_up_sound, by simp⟩) (List.forall_mem_cons.2 ⟨Tryd.call50, by simp⟩) (by kernel_rfl)) Tryd.func54 (by kernel_rfl) LL impl_stepsToRoot_an ?_
  intro avs H r H' h
  unfold F_impl_stepsToRoot at h
  split at h
  · refine Awp.cast ?_ ?_ ?_ (impl_stepsToRoot_e _ _ h) <;> kernel_rfl
  · simp [Ans.no, Ans.run] at h


/-! loop.example/headtrees/impl.TreeOk -/

def impl_TreeOk_an : Ann := (.seq (.leaf [0]) (.seq (.seq (.leaf [0, 18]) (.cond (.seq (.leaf [2]) (.leaf [2])) (.leaf [0]))) (.seq (.seq (.leaf [0, 20, 21]) (.block (.loop (.seq (.leaf [0, 20, 21, 22]) (.seq (.cond (.leaf [0, 20, 21]) (.leaf [])) (.seq (.block (.seq (.leaf [0, 3, 20, 21]) (.seq (.leaf [0, 5, 20, 21]) (.seq (.leaf [0, 20, 21, 32]) (.cond (.seq (.leaf [2]) (.leaf [2])) (.leaf [0, 20, 21])))))) (.leaf [0, 20, 21]))))))) (.seq (.leaf [2]) (.leaf [2])))))

noncomputable def impl_TreeOk_ctx : Ctx := ⟨tlook tys, olook [(53, F_impl_oneRoot), (54, F_impl_stepsToRoot)], ioF, 0, false⟩

theorem impl_TreeOk_n1_l (x1448 : List Int) : Link impl_TreeOk_ctx LL (Code.seq (Code.fst (bodyOf Tryd.f22)) (Code.fst (Code.snd (bodyOf Tryd.f22)))) (Ann.seq (Ann.fst impl_TreeOk_an) (Ann.fst (Ann.snd impl_TreeOk_an))) (⟨mkE 34 0 [(0, .dat (.list (.int .i64)) x1448)], []⟩ : St) (impl_TreeOk_n1 x1448) (Sum.elim (fun (t : Unit) => (Exit.normal, (⟨mkE 34 0 [(0, .dat (.list (.int .i64)) x1448)], []⟩ : St))) (fun (t : Bool) => (Exit.ret, (⟨mkE 34 0 [(2, .dat .bool t)], []⟩ : St)))) := by
  refine Link.of fun K h => ?_
  simp only [impl_TreeOk_n1, wpO_bind, wpO_cond, wpO_map, wpO_some] at h
  exact Awp.of (by kernel_rfl) h

theorem impl_TreeOk_n2_l (x1448 : List Int) : Link impl_TreeOk_ctx LL (Code.fst (Code.fst (Code.snd (Code.snd (bodyOf Tryd.f22))))) (Ann.fst (Ann.fst (Ann.snd (Ann.snd impl_TreeOk_an)))) (⟨mkE 34 0 [(0, .dat (.list (.int .i64)) x1448)], []⟩ : St) (impl_TreeOk_n2 x1448) (fun (t : Int) => (Exit.normal, (⟨mkE 34 0 [(0, .dat (.list (.int .i64)) x1448), (20, .dat (.int .i64) t), (21, .dat (.int .i64) 0)], []⟩ : St))) := by
  refine Link.of fun K h => ?_
  simp only [impl_TreeOk_n2, wpO_bind, wpO_cond, wpO_map, wpO_some] at h
  exact Awp.of (by kernel_rfl) h

theorem impl_TreeOk_n3_l (x1448 : List Int) (x1502 : Int) (x1570 : Int) : Link impl_TreeOk_ctx LL (Code.fst (Code.fst (Code.snd (Code.fst (Code.snd (Code.snd (bodyOf Tryd.f22))))))) (Ann.fst (Ann.fst (Ann.snd (Ann.fst (Ann.snd (Ann.snd impl_TreeOk_an)))))) (⟨mkE 34 0 [(0, .dat (.list (.int .i64)) x1448), (20, .dat (.int .i64) x1502), (21, .dat (.int .i64) x1570)], []⟩ : St) (impl_TreeOk_n3 x1448 x1502 x1570) (Sum.elim (fun (t : Int) => (Exit.normal, (⟨mkE 34 0 [(0, .dat (.list (.int .i64)) x1448), (20, .dat (.int .i64) x1502), (21, .dat (.int .i64) t)], []⟩ : St))) (Sum.elim (fun (t : Bool) => (Exit.ret, (⟨mkE 34 0 [(2, .dat .bool t)], []⟩ : St))) (fun (t : Unit) => ((Exit.exit 0), (⟨mkE 34 0 [], []⟩ : St))))) := by
  refine Link.of fun K h => ?_
  simp only [impl_TreeOk_n3, wpO_bind, wpO_cond, wpO_map, wpO_some] at h
  exact Awp.of (by kernel_rfl) h

theorem impl_TreeOk_n4_l (x1448 : List Int) (x1502 : Int) : Link impl_TreeOk_ctx LL (Code.fst (Code.snd (Code.fst (Code.snd (Code.snd (bodyOf Tryd.f22)))))) (Ann.fst (Ann.snd (Ann.fst (Ann.snd (Ann.snd impl_TreeOk_an))))) (⟨mkE 34 0 [(0, .dat (.list (.int .i64)) x1448), (20, .dat (.int .i64) x1502), (21, .dat (.int .i64) 0)], []⟩ : St) (impl_TreeOk_n4 x1448 x1502) (Sum.elim (fun (t : Bool) => (Exit.ret, (⟨mkE 34 0 [(2, .dat .bool t)], []⟩ : St))) (fun (t : Unit) => ((Exit.exit 0), (⟨mkE 34 0 [], []⟩ : St)))) := by
  unfold impl_TreeOk_n4
  exact Link.cast (by kernel_rfl) (by kernel_rfl) (link_loop (mk := fun (s : Int) => (⟨mkE 34 0 [(0, .dat (.list (.int .i64)) x1448), (20, .dat (.int .i64) x1502), (21, .dat (.int .i64) s)], []⟩ : St)) (fin := (Sum.elim (fun (t : Bool) => (Exit.ret, (⟨mkE 34 0 [(2, .dat .bool t)], []⟩ : St))) (fun (t : Unit) => ((Exit.exit 0), (⟨mkE 34 0 [], []⟩ : St))))) (by
  rintro (t | t) f K h
  · exact h
  · exact h) (fun s => link_map (impl_TreeOk_n3_l x1448 x1502 s) (Sum.elim (fun (t : Int) => Sum.inl t) (Sum.elim (fun (t : Bool) => Sum.inr (Sum.inl t)) (fun (t : Unit) => Sum.inr (Sum.inr t)))) (by
  rintro (t | t | t)
  · kernel_rfl
  · kernel_rfl
  · kernel_rfl)) 0)

theorem impl_TreeOk_n5_l (x1448 : List Int) (x1502 : Int) : Link impl_TreeOk_ctx LL (Code.snd (Code.fst (Code.snd (Code.snd (bodyOf Tryd.f22))))) (Ann.snd (Ann.fst (Ann.snd (Ann.snd impl_TreeOk_an)))) (⟨mkE 34 0 [(0, .dat (.list (.int .i64)) x1448), (20, .dat (.int .i64) x1502), (21, .dat (.int .i64) 0)], []⟩ : St) (impl_TreeOk_n5 x1448 x1502) (Sum.elim (fun (t : Unit) => (Exit.normal, (⟨mkE 34 0 [], []⟩ : St))) (fun (t : Bool) => (Exit.ret, (⟨mkE 34 0 [(2, .dat .bool t)], []⟩ : St)))) := by
  unfold impl_TreeOk_n5
  exact Link.cast (by kernel_rfl) (by kernel_rfl) (link_block (id := 0) (impl_TreeOk_n4_l x1448 x1502) (Sum.elim (fun (t : Bool) => (Sum.inr t)) (fun (t : Unit) => (Sum.inl ()))) (by
  rintro (t | t) K h
  · exact Eq.mp (by kernel_rfl) h
  · exact Eq.mp (by kernel_rfl) h))

theorem impl_TreeOk_n6_l (x1448 : List Int) : Link impl_TreeOk_ctx LL (Code.fst (Code.snd (Code.snd (bodyOf Tryd.f22)))) (Ann.fst (Ann.snd (Ann.snd impl_TreeOk_an))) (⟨mkE 34 0 [(0, .dat (.list (.int .i64)) x1448)], []⟩ : St) (impl_TreeOk_n6 x1448) (Sum.elim (fun (t : Unit) => (Exit.normal, (⟨mkE 34 0 [], []⟩ : St))) (fun (t : Bool) => (Exit.ret, (⟨mkE 34 0 [(2, .dat .bool t)], []⟩ : St)))) := by
  unfold impl_TreeOk_n6
  exact Link.cast (by kernel_rfl) (by kernel_rfl) (link_seq (b := (Code.snd (Code.fst (Code.snd (Code.snd (bodyOf Tryd.f22)))))) (y := (Ann.snd (Ann.fst (Ann.snd (Ann.snd impl_TreeOk_an))))) (impl_TreeOk_n2_l x1448) (fun (t : Int) => (impl_TreeOk_n5_l x1448 t)))

theorem impl_TreeOk_n7_l : Link impl_TreeOk_ctx LL (Code.snd (Code.snd (Code.snd (bodyOf Tryd.f22)))) (Ann.snd (Ann.snd (Ann.snd impl_TreeOk_an))) (⟨mkE 34 0 [], []⟩ : St) (impl_TreeOk_n7) (fun (t : Bool) => (Exit.ret, (⟨mkE 34 0 [(2, .dat .bool t)], []⟩ : St))) := by
  refine Link.of fun K h => ?_
  simp only [impl_TreeOk_n7, wpO_bind, wpO_cond, wpO_map, wpO_some] at h
  exact Awp.of (by kernel_rfl) h

theorem impl_TreeOk_n8_l (x1448 : List Int) : Link impl_TreeOk_ctx LL (Code.snd (Code.snd (bodyOf Tryd.f22))) (Ann.snd (Ann.snd impl_TreeOk_an)) (⟨mkE 34 0 [(0, .dat (.list (.int .i64)) x1448)], []⟩ : St) (impl_TreeOk_n8 x1448) (fun (t : Bool) => (Exit.ret, (⟨mkE 34 0 [(2, .dat .bool t)], []⟩ : St))) := by
  unfold impl_TreeOk_n8
  exact Link.cast (by kernel_rfl) (by kernel_rfl) (link_seq2 (b := (Code.snd (Code.snd (Code.snd (bodyOf Tryd.f22))))) (y := (Ann.snd (Ann.snd (Ann.snd impl_TreeOk_an)))) (impl_TreeOk_n6_l x1448) (fun (t : Unit) => (impl_TreeOk_n7_l)) (fun (t : Bool) => t) (by
  rintro t
  · kernel_rfl) (by
  rintro t f K h
  · exact h))

theorem impl_TreeOk_n9_l (x1448 : List Int) : Link impl_TreeOk_ctx LL (bodyOf Tryd.f22) impl_TreeOk_an (⟨mkE 34 0 [(0, .dat (.list (.int .i64)) x1448)], []⟩ : St) (impl_TreeOk_n9 x1448) (fun (t : Bool) => (Exit.ret, (⟨mkE 34 0 [(2, .dat .bool t)], []⟩ : St))) := by
  unfold impl_TreeOk_n9
  exact Link.cast (by kernel_rfl) (by kernel_rfl) (link_group (c := (Code.fst (Code.snd (bodyOf Tryd.f22)))) (a := (Ann.fst (Ann.snd impl_TreeOk_an))) [(Code.fst (bodyOf Tryd.f22))] [(Ann.fst impl_TreeOk_an)] rfl (link_seq2 (b := (Code.snd (Code.snd (bodyOf Tryd.f22)))) (y := (Ann.snd (Ann.snd impl_TreeOk_an))) (impl_TreeOk_n1_l x1448) (fun (t : Unit) => (impl_TreeOk_n8_l x1448)) (fun (t : Bool) => t) (by
  rintro t
  · kernel_rfl) (by
  rintro t f K h
  · exact h)))

theorem impl_TreeOk_e (x1448 : List Int) {r : AV} {H' : Heap} (h : (Ans.mk _ (impl_TreeOk x1448) (fun (t : Bool) => (.dat .bool t, []))).run = some (r, H')) : Awp impl_TreeOk_ctx LL (bodyOf Tryd.f22) impl_TreeOk_an (⟨mkE 34 0 [(0, .dat (.list (.int .i64)) x1448)], []⟩ : St) (Ret (tlook tys) Tryd.f22.results.toList r H') :=
  ret_of' (impl_TreeOk_n9_l x1448) (by unfold impl_TreeOk; kernel_rfl) (by
  intro t
  exact ret_mk [.dat .bool t] (by kernel_rfl) (by kernel_rfl) (by kernel_rfl) (by kernel_rfl)) h

def F_impl_TreeOk : Fun := fun avs H =>
  match avs, H with
  | [.dat (.list (.int .i64)) x1448], [] => ⟨_, impl_TreeOk x1448, fun (t : Bool) => (.dat .bool t, [])⟩
  | _, _ => Ans.no

theorem impl_TreeOk_sound : Sound Tryd.prog 22 F_impl_TreeOk := by
  refine fn_sound' (C := impl_TreeOk_ctx) (c := bodyOf Tryd.f22) (cok_of tys_ok (List.forall_mem_cons.2 ⟨impl_oneRoot_sound, List.forall_mem_cons.2 ⟨impl_stepsToRoot_sound, by simp⟩⟩) (List.forall_mem_cons.2 ⟨Tryd.call53, List.forall_mem_cons.2 ⟨Tryd.call54, by simp⟩⟩) (by kernel_rfl)) Tryd.func22 (by kernel_rfl) LL impl_TreeOk_an ?_
  intro avs H r H' h
  unfold F_impl_TreeOk at h
  split at h
  · refine Awp.cast ?_ ?_ ?_ (impl_TreeOk_e _ h) <;> kernel_rfl
  · simp [Ans.no, Ans.run] at h


/-! loop.example/headtrees/impl.wordOk -/

def impl_wordOk_an : Ann := (.seq (.leaf [0, 1]) (.seq (.leaf [4]) (.leaf [4])))

noncomputable def impl_wordOk_ctx : Ctx := ⟨tlook tys, olook [(22, F_impl_TreeOk)], ioF, 0, false⟩

theorem impl_wordOk_n1_l (x1446 : List Int) (x1447 : Int) : Link impl_wordOk_ctx LL (bodyOf Tryd.f42) impl_wordOk_an (⟨mkE 17 0 [(0, .dat (.list (.int .i64)) x1446), (1, .dat (.int .i64) x1447)], []⟩ : St) (impl_wordOk_n1 x1446 x1447) (fun (t : Bool) => (Exit.ret, (⟨mkE 17 0 [(4, .dat .bool t)], []⟩ : St))) := by
  refine Link.of fun K h => ?_
  simp only [impl_wordOk_n1, wpO_bind, wpO_cond, wpO_map, wpO_some] at h
  exact Awp.of (by kernel_rfl) h

theorem impl_wordOk_e (x1446 : List Int) (x1447 : Int) {r : AV} {H' : Heap} (h : (Ans.mk _ (impl_wordOk x1446 x1447) (fun (t : Bool) => (.dat .bool t, []))).run = some (r, H')) : Awp impl_wordOk_ctx LL (bodyOf Tryd.f42) impl_wordOk_an (⟨mkE 17 0 [(0, .dat (.list (.int .i64)) x1446), (1, .dat (.int .i64) x1447)], []⟩ : St) (Ret (tlook tys) Tryd.f42.results.toList r H') :=
  ret_of' (impl_wordOk_n1_l x1446 x1447) (by unfold impl_wordOk; kernel_rfl) (by
  intro t
  exact ret_mk [.dat .bool t] (by kernel_rfl) (by kernel_rfl) (by kernel_rfl) (by kernel_rfl)) h

def F_impl_wordOk : Fun := fun avs H =>
  match avs, H with
  | [.dat (.list (.int .i64)) x1446, .dat (.int .i64) x1447], [] => ⟨_, impl_wordOk x1446 x1447, fun (t : Bool) => (.dat .bool t, [])⟩
  | _, _ => Ans.no

theorem impl_wordOk_sound : Sound Tryd.prog 42 F_impl_wordOk := by
  refine fn_sound' (C := impl_wordOk_ctx) (c := bodyOf Tryd.f42) (cok_of tys_ok (List.forall_mem_cons.2 ⟨impl_TreeOk_sound, by simp⟩) (List.forall_mem_cons.2 ⟨Tryd.call22, by simp⟩) (by kernel_rfl)) Tryd.func42 (by kernel_rfl) LL impl_wordOk_an ?_
  intro avs H r H' h
  unfold F_impl_wordOk at h
  split at h
  · refine Awp.cast ?_ ?_ ?_ (impl_wordOk_e _ _ h) <;> kernel_rfl
  · simp [Ans.no, Ans.run] at h


/-! loop.example/headtrees/impl.RootOf -/

def impl_RootOf_an : Ann := (.seq (.leaf [0]) (.seq (.seq (.leaf [0, 6]) (.cond (.seq (.leaf [2]) (.leaf [2])) (.leaf [0]))) (.seq (.leaf [3]) (.seq (.block (.loop (.seq (.seq (.leaf [3, 9]) (.cond (.leaf [3]) (.leaf [3]))) (.block (.leaf [3]))))) (.seq (.leaf [2]) (.leaf [2]))))))

noncomputable def impl_RootOf_ctx : Ctx := ⟨tlook tys, olook [(22, F_impl_TreeOk), (50, F_impl_walker_up)], ioF, 0, false⟩

theorem impl_RootOf_n1_l (x1607 : List Int) : Link impl_RootOf_ctx LL (Code.seq (Code.fst (bodyOf Tryd.f16)) (Code.seq (Code.fst (Code.snd (bodyOf Tryd.f16))) (Code.fst (Code.snd (Code.snd (bodyOf Tryd.f16)))))) (Ann.seq (Ann.fst impl_RootOf_an) (Ann.seq (Ann.fst (Ann.snd impl_RootOf_an)) (Ann.fst (Ann.snd (Ann.snd impl_RootOf_an))))) (⟨mkE 12 0 [(0, .dat (.list (.int .i64)) x1607)], []⟩ : St) (impl_RootOf_n1 x1607) (Sum.elim (fun (t : Unit) => (Exit.normal, (⟨mkE 12 0 [(3, .ptr 0 0)], [some (.box [.dat (.list (.int .i64)) x1607, .dat (.int .i64) 1, .dat (.int .i64) 0])]⟩ : St))) (fun (t : Int) => (Exit.ret, (⟨mkE 12 0 [(2, .dat (.int .i64) t)], []⟩ : St)))) := by
  refine Link.of fun K h => ?_
  simp only [impl_RootOf_n1, wpO_bind, wpO_cond, wpO_map, wpO_some] at h
  exact Awp.of (by kernel_rfl) h

theorem impl_RootOf_n2_l (x1607 : List Int) (x1620 : Int) (x1621 : Int) : Link impl_RootOf_ctx LL (Code.fst (Code.fst (Code.fst (Code.snd (Code.snd (Code.snd (bodyOf Tryd.f16))))))) (Ann.fst (Ann.fst (Ann.fst (Ann.snd (Ann.snd (Ann.snd impl_RootOf_an)))))) (⟨mkE 12 0 [(3, .ptr 0 0)], [some (.box [.dat (.list (.int .i64)) x1607, .dat (.int .i64) x1620, .dat (.int .i64) x1621])]⟩ : St) (impl_RootOf_n2 x1607 x1620 x1621) (Sum.elim (fun (t : Int × Int) => (Exit.normal, (⟨mkE 12 0 [(3, .ptr 0 0)], [some (.box [.dat (.list (.int .i64)) x1607, .dat (.int .i64) t.1, .dat (.int .i64) t.2])]⟩ : St))) (fun (t : Int × Int) => ((Exit.exit 0), (⟨mkE 12 0 [(3, .ptr 0 0)], [some (.box [.dat (.list (.int .i64)) x1607, .dat (.int .i64) t.1, .dat (.int .i64) t.2])]⟩ : St)))) := by
  refine Link.of fun K h => ?_
  simp only [impl_RootOf_n2, wpO_bind, wpO_cond, wpO_map, wpO_some] at h
  exact Awp.of (by kernel_rfl) h

theorem impl_RootOf_n3_l (x1607 : List Int) : Link impl_RootOf_ctx LL (Code.fst (Code.fst (Code.snd (Code.snd (Code.snd (bodyOf Tryd.f16)))))) (Ann.fst (Ann.fst (Ann.snd (Ann.snd (Ann.snd impl_RootOf_an))))) (⟨mkE 12 0 [(3, .ptr 0 0)], [some (.box [.dat (.list (.int .i64)) x1607, .dat (.int .i64) 1, .dat (.int .i64) 0])]⟩ : St) (impl_RootOf_n3 x1607) (fun (t : Int × Int) => ((Exit.exit 0), (⟨mkE 12 0 [(3, .ptr 0 0)], [some (.box [.dat (.list (.int .i64)) x1607, .dat (.int .i64) t.1, .dat (.int .i64) t.2])]⟩ : St))) := by
  unfold impl_RootOf_n3
  exact Link.cast (by kernel_rfl) (by kernel_rfl) (link_loop (mk := fun (s : Int × Int) => (⟨mkE 12 0 [(3, .ptr 0 0)], [some (.box [.dat (.list (.int .i64)) x1607, .dat (.int .i64) s.1, .dat (.int .i64) s.2])]⟩ : St)) (fin := (fun (t : Int × Int) => ((Exit.exit 0), (⟨mkE 12 0 [(3, .ptr 0 0)], [some (.box [.dat (.list (.int .i64)) x1607, .dat (.int .i64) t.1, .dat (.int .i64) t.2])]⟩ : St)))) (by
  rintro t f K h
  · exact h) (fun s => link_map (impl_RootOf_n2_l x1607 s.1 s.2) (Sum.elim (fun (t : Int × Int) => Sum.inl (t.1, t.2)) (fun (t : Int × Int) => Sum.inr t)) (by
  rintro (t | t)
  · kernel_rfl
  · kernel_rfl)) (1, 0))

theorem impl_RootOf_n4_l (x1607 : List Int) : Link impl_RootOf_ctx LL (Code.fst (Code.snd (Code.snd (Code.snd (bodyOf Tryd.f16))))) (Ann.fst (Ann.snd (Ann.snd (Ann.snd impl_RootOf_an)))) (⟨mkE 12 0 [(3, .ptr 0 0)], [some (.box [.dat (.list (.int .i64)) x1607, .dat (.int .i64) 1, .dat (.int .i64) 0])]⟩ : St) (impl_RootOf_n4 x1607) (fun (t : Int × Int) => (Exit.normal, (⟨mkE 12 0 [(3, .ptr 0 0)], [some (.box [.dat (.list (.int .i64)) x1607, .dat (.int .i64) t.1, .dat (.int .i64) t.2])]⟩ : St))) := by
  unfold impl_RootOf_n4
  exact Link.cast (by kernel_rfl) (by kernel_rfl) (link_block (id := 0) (impl_RootOf_n3_l x1607) (fun (t : Int × Int) => (t.1, t.2)) (by
  rintro t K h
  · exact Eq.mp (by kernel_rfl) h))

theorem impl_RootOf_n5_l (x1607 : List Int) (x1628 : Int) (x1629 : Int) : Link impl_RootOf_ctx LL (Code.snd (Code.snd (Code.snd (Code.snd (bodyOf Tryd.f16))))) (Ann.snd (Ann.snd (Ann.snd (Ann.snd impl_RootOf_an)))) (⟨mkE 12 0 [(3, .ptr 0 0)], [some (.box [.dat (.list (.int .i64)) x1607, .dat (.int .i64) x1628, .dat (.int .i64) x1629])]⟩ : St) (impl_RootOf_n5 x1628) (fun (t : Int) => (Exit.ret, (⟨mkE 12 0 [(2, .dat (.int .i64) t)], []⟩ : St))) := by
  refine Link.of fun K h => ?_
  simp only [impl_RootOf_n5, wpO_bind, wpO_cond, wpO_map, wpO_some] at h
  exact Awp.of (by kernel_rfl) h

theorem impl_RootOf_n6_l (x1607 : List Int) : Link impl_RootOf_ctx LL (Code.snd (Code.snd (Code.snd (bodyOf Tryd.f16)))) (Ann.snd (Ann.snd (Ann.snd impl_RootOf_an))) (⟨mkE 12 0 [(3, .ptr 0 0)], [some (.box [.dat (.list (.int .i64)) x1607, .dat (.int .i64) 1, .dat (.int .i64) 0])]⟩ : St) (impl_RootOf_n6 x1607) (fun (t : Int) => (Exit.ret, (⟨mkE 12 0 [(2, .dat (.int .i64) t)], []⟩ : St))) := by
  unfold impl_RootOf_n6
  exact Link.cast (by kernel_rfl) (by kernel_rfl) (link_seq (b := (Code.snd (Code.snd (Code.snd (Code.snd (bodyOf Tryd.f16)))))) (y := (Ann.snd (Ann.snd (Ann.snd (Ann.snd impl_RootOf_an))))) (impl_RootOf_n4_l x1607) (fun (t : Int × Int) => (impl_RootOf_n5_l x1607 t.1 t.2)))

theorem impl_RootOf_n7_l (x1607 : List Int) : Link impl_RootOf_ctx LL (bodyOf Tryd.f16) impl_RootOf_an (⟨mkE 12 0 [(0, .dat (.list (.int .i64)) x1607)], []⟩ : St) (impl_RootOf_n7 x1607) (fun (t : Int) => (Exit.ret, (⟨mkE 12 0 [(2, .dat (.int .i64) t)], []⟩ : St))) := by
  unfold impl_RootOf_n7
  exact Link.cast (by kernel_rfl) (by kernel_rfl) (link_group (c := (Code.fst (Code.snd (Code.snd (bodyOf Tryd.f16))))) (a := (Ann.fst (Ann.snd (Ann.snd impl_RootOf_an)))) [(Code.fst (bodyOf Tryd.f16)), (Code.fst (Code.snd (bodyOf Tryd.f16)))] [(Ann.fst impl_RootOf_an), (Ann.fst (Ann.snd impl_RootOf_an))] rfl (link_seq2 (b := (Code.snd (Code.snd (Code.snd (bodyOf Tryd.f16))))) (y := (Ann.snd (Ann.snd (Ann.snd impl_RootOf_an)))) (impl_RootOf_n1_l x1607) (fun (t : Unit) => (impl_RootOf_n6_l x1607)) (fun (t : Int) => t) (by
  rintro t
  · kernel_rfl) (by
  rintro t f K h
  · exact h)))

theorem impl_RootOf_e (x1607 : List Int) {r : AV} {H' : Heap} (h : (Ans.mk _ (impl_RootOf x1607) (fun (t : Int) => (.dat (.int .i64) t, []))).run = some (r, H')) : Awp impl_RootOf_ctx LL (bodyOf Tryd.f16) impl_RootOf_an (⟨mkE 12 0 [(0, .dat (.list (.int .i64)) x1607)], []⟩ : St) (Ret (tlook tys) Tryd.f16.results.toList r H') :=
  ret_of' (impl_RootOf_n7_l x1607) (by unfold impl_RootOf; kernel_rfl) (by
  intro t
  exact ret_mk [.dat (.int .i64) t] (by kernel_rfl) (by kernel_rfl) (by kernel_rfl) (by kernel_rfl)) h

def F_impl_RootOf : Fun := fun avs H =>
  match avs, H with
  | [.dat (.list (.int .i64)) x1607], [] => ⟨_, impl_RootOf x1607, fun (t : Int) => (.dat (.int .i64) t, [])⟩
  | _, _ => Ans.no

theorem impl_RootOf_sound : Sound Tryd.prog 16 F_impl_RootOf := by
  refine fn_sound' (C := impl_RootOf_ctx) (c := bodyOf Tryd.f16) (cok_of tys_ok (List.forall_mem_cons.2 ⟨impl_TreeOk_sound, List.forall_mem_cons.2 ⟨impl_walker_up_sound, by simp⟩⟩) (List.forall_mem_cons.2 ⟨Tryd.call22, List.forall_mem_cons.2 ⟨Tryd.call50, by simp⟩⟩) (by kernel_rfl)) Tryd.func16 (by kernel_rfl) LL impl_RootOf_an ?_
  intro avs H r H' h
  unfold F_impl_RootOf at h
  split at h
  · refine Awp.cast ?_ ?_ ?_ (impl_RootOf_e _ h) <;> kernel_rfl
  · simp [Ans.no, Ans.run] at h


/-! loop.example/headtrees/impl.only -/

def impl_only_an : Ann := (.seq (.leaf [0]) (.seq (.leaf [2]) (.leaf [2])))

noncomputable def impl_only_ctx : Ctx := ⟨tlook tys, olook [], ioF, 0, false⟩

theorem impl_only_n1_l (x1635 : Int) : Link impl_only_ctx LL (bodyOf Tryd.f62) impl_only_an (⟨mkE 6 0 [(0, .dat (.int .i64) x1635)], []⟩ : St) (impl_only_n1 x1635) (fun (t : Int) => (Exit.ret, (⟨mkE 6 0 [(2, .dat (.int .u64) t)], []⟩ : St))) := by
  refine Link.of fun K h => ?_
  simp only [impl_only_n1, wpO_bind, wpO_cond, wpO_map, wpO_some] at h
  exact Awp.of (by kernel_rfl) h

theorem impl_only_e (x1635 : Int) {r : AV} {H' : Heap} (h : (Ans.mk _ (impl_only x1635) (fun (t : Int) => (.dat (.int .u64) t, []))).run = some (r, H')) : Awp impl_only_ctx LL (bodyOf Tryd.f62) impl_only_an (⟨mkE 6 0 [(0, .dat (.int .i64) x1635)], []⟩ : St) (Ret (tlook tys) Tryd.f62.results.toList r H') :=
  ret_of' (impl_only_n1_l x1635) (by unfold impl_only; kernel_rfl) (by
  intro t
  exact ret_mk [.dat (.int .u64) t] (by kernel_rfl) (by kernel_rfl) (by kernel_rfl) (by kernel_rfl)) h

def F_impl_only : Fun := fun avs H =>
  match avs, H with
  | [.dat (.int .i64) x1635], [] => ⟨_, impl_only x1635, fun (t : Int) => (.dat (.int .u64) t, [])⟩
  | _, _ => Ans.no

theorem impl_only_sound : Sound Tryd.prog 62 F_impl_only := by
  refine fn_sound' (C := impl_only_ctx) (c := bodyOf Tryd.f62) (cok_of tys_ok (by simp) (by simp) (by kernel_rfl)) Tryd.func62 (by kernel_rfl) LL impl_only_an ?_
  intro avs H r H' h
  unfold F_impl_only at h
  split at h
  · refine Awp.cast ?_ ?_ ?_ (impl_only_e _ h) <;> kernel_rfl
  · simp [Ans.no, Ans.run] at h


/-! loop.example/headtrees/impl.dependents -/

def impl_dependents_an : Ann := (.seq (.leaf [0, 1]) (.seq (.leaf [0, 1, 5]) (.seq (.seq (.leaf [0, 1, 5, 8, 9]) (.block (.loop (.seq (.leaf [0, 1, 5, 8, 9, 10]) (.seq (.cond (.leaf [0, 1, 5, 8, 9]) (.leaf [5])) (.seq (.block (.seq (.leaf [0, 1, 5, 6, 8, 9]) (.seq (.leaf [0, 1, 5, 6, 8, 9, 17]) (.cond (.leaf [0, 1, 5, 8, 9]) (.leaf [0, 1, 5, 8, 9]))))) (.leaf [0, 1, 5, 8, 9]))))))) (.seq (.leaf [4]) (.leaf [4])))))

noncomputable def impl_dependents_ctx : Ctx := ⟨tlook tys, olook [(62, F_impl_only)], ioF, 0, false⟩

theorem impl_dependents_n1_l (x1641 : List Int) (x1642 : Int) : Link impl_dependents_ctx LL (Code.seq (Code.fst (bodyOf Tryd.f48)) (Code.fst (Code.snd (bodyOf Tryd.f48)))) (Ann.seq (Ann.fst impl_dependents_an) (Ann.fst (Ann.snd impl_dependents_an))) (⟨mkE 25 0 [(0, .dat (.list (.int .i64)) x1641), (1, .dat (.int .i64) x1642)], []⟩ : St) (impl_dependents_n1) (fun (t : Unit) => (Exit.normal, (⟨mkE 25 0 [(0, .dat (.list (.int .i64)) x1641), (1, .dat (.int .i64) x1642), (5, .dat (.int .u64) 0)], []⟩ : St))) := by
  refine Link.of fun K h => ?_
  simp only [impl_dependents_n1, wpO_bind, wpO_cond, wpO_map, wpO_some] at h
  exact Awp.of (by kernel_rfl) h

theorem impl_dependents_n2_l (x1641 : List Int) (x1642 : Int) : Link impl_dependents_ctx LL (Code.fst (Code.fst (Code.snd (Code.snd (bodyOf Tryd.f48))))) (Ann.fst (Ann.fst (Ann.snd (Ann.snd impl_dependents_an)))) (⟨mkE 25 0 [(0, .dat (.list (.int .i64)) x1641), (1, .dat (.int .i64) x1642), (5, .dat (.int .u64) 0)], []⟩ : St) (impl_dependents_n2 x1641) (fun (t : Int) => (Exit.normal, (⟨mkE 25 0 [(0, .dat (.list (.int .i64)) x1641), (1, .dat (.int .i64) x1642), (5, .dat (.int .u64) 0), (8, .dat (.int .i64) t), (9, .dat (.int .i64) 0)], []⟩ : St))) := by
  refine Link.of fun K h => ?_
  simp only [impl_dependents_n2, wpO_bind, wpO_cond, wpO_map, wpO_some] at h
  exact Awp.of (by kernel_rfl) h

theorem impl_dependents_n3_l (x1641 : List Int) (x1642 : Int) (x1662 : Int) (x1643 : Int) (x1663 : Int) : Link impl_dependents_ctx LL (Code.fst (Code.fst (Code.snd (Code.fst (Code.snd (Code.snd (bodyOf Tryd.f48))))))) (Ann.fst (Ann.fst (Ann.snd (Ann.fst (Ann.snd (Ann.snd impl_dependents_an)))))) (⟨mkE 25 0 [(0, .dat (.list (.int .i64)) x1641), (1, .dat (.int .i64) x1642), (5, .dat (.int .u64) x1662), (8, .dat (.int .i64) x1643), (9, .dat (.int .i64) x1663)], []⟩ : St) (impl_dependents_n3 x1641 x1642 x1662 x1643 x1663) (Sum.elim (fun (t : Int × Int) => (Exit.normal, (⟨mkE 25 0 [(0, .dat (.list (.int .i64)) x1641), (1, .dat (.int .i64) x1642), (5, .dat (.int .u64) t.1), (8, .dat (.int .i64) x1643), (9, .dat (.int .i64) t.2)], []⟩ : St))) (fun (t : Int) => ((Exit.exit 0), (⟨mkE 25 0 [(5, .dat (.int .u64) t)], []⟩ : St)))) := by
  refine Link.of fun K h => ?_
  simp only [impl_dependents_n3, wpO_bind, wpO_cond, wpO_map, wpO_some] at h
  exact Awp.of (by kernel_rfl) h

theorem impl_dependents_n4_l (x1641 : List Int) (x1642 : Int) (x1643 : Int) : Link impl_dependents_ctx LL (Code.fst (Code.snd (Code.fst (Code.snd (Code.snd (bodyOf Tryd.f48)))))) (Ann.fst (Ann.snd (Ann.fst (Ann.snd (Ann.snd impl_dependents_an))))) (⟨mkE 25 0 [(0, .dat (.list (.int .i64)) x1641), (1, .dat (.int .i64) x1642), (5, .dat (.int .u64) 0), (8, .dat (.int .i64) x1643), (9, .dat (.int .i64) 0)], []⟩ : St) (impl_dependents_n4 x1641 x1642 x1643) (fun (t : Int) => ((Exit.exit 0), (⟨mkE 25 0 [(5, .dat (.int .u64) t)], []⟩ : St))) := by
  unfold impl_dependents_n4
  exact Link.cast (by kernel_rfl) (by kernel_rfl) (link_loop (mk := fun (s : Int × Int) => (⟨mkE 25 0 [(0, .dat (.list (.int .i64)) x1641), (1, .dat (.int .i64) x1642), (5, .dat (.int .u64) s.1), (8, .dat (.int .i64) x1643), (9, .dat (.int .i64) s.2)], []⟩ : St)) (fin := (fun (t : Int) => ((Exit.exit 0), (⟨mkE 25 0 [(5, .dat (.int .u64) t)], []⟩ : St)))) (by
  rintro t f K h
  · exact h) (fun s => link_map (impl_dependents_n3_l x1641 x1642 s.1 x1643 s.2) (Sum.elim (fun (t : Int × Int) => Sum.inl (t.1, t.2)) (fun (t : Int) => Sum.inr t)) (by
  rintro (t | t)
  · kernel_rfl
  · kernel_rfl)) (0, 0))

theorem impl_dependents_n5_l (x1641 : List Int) (x1642 : Int) (x1643 : Int) : Link impl_dependents_ctx LL (Code.snd (Code.fst (Code.snd (Code.snd (bodyOf Tryd.f48))))) (Ann.snd (Ann.fst (Ann.snd (Ann.snd impl_dependents_an)))) (⟨mkE 25 0 [(0, .dat (.list (.int .i64)) x1641), (1, .dat (.int .i64) x1642), (5, .dat (.int .u64) 0), (8, .dat (.int .i64) x1643), (9, .dat (.int .i64) 0)], []⟩ : St) (impl_dependents_n5 x1641 x1642 x1643) (fun (t : Int) => (Exit.normal, (⟨mkE 25 0 [(5, .dat (.int .u64) t)], []⟩ : St))) := by
  unfold impl_dependents_n5
  exact Link.cast (by kernel_rfl) (by kernel_rfl) (link_block (id := 0) (impl_dependents_n4_l x1641 x1642 x1643) (fun (t : Int) => t) (by
  rintro t K h
  · exact Eq.mp (by kernel_rfl) h))

theorem impl_dependents_n6_l (x1641 : List Int) (x1642 : Int) : Link impl_dependents_ctx LL (Code.fst (Code.snd (Code.snd (bodyOf Tryd.f48)))) (Ann.fst (Ann.snd (Ann.snd impl_dependents_an))) (⟨mkE 25 0 [(0, .dat (.list (.int .i64)) x1641), (1, .dat (.int .i64) x1642), (5, .dat (.int .u64) 0)], []⟩ : St) (impl_dependents_n6 x1641 x1642) (fun (t : Int) => (Exit.normal, (⟨mkE 25 0 [(5, .dat (.int .u64) t)], []⟩ : St))) := by
  unfold impl_dependents_n6
  exact Link.cast (by kernel_rfl) (by kernel_rfl) (link_seq (b := (Code.snd (Code.fst (Code.snd (Code.snd (bodyOf Tryd.f48)))))) (y := (Ann.snd (Ann.fst (Ann.snd (Ann.snd impl_dependents_an))))) (impl_dependents_n2_l x1641 x1642) (fun (t : Int) => (impl_dependents_n5_l x1641 x1642 t)))

theorem impl_dependents_n7_l (x1662 : Int) : Link impl_dependents_ctx LL (Code.snd (Code.snd (Code.snd (bodyOf Tryd.f48)))) (Ann.snd (Ann.snd (Ann.snd impl_dependents_an))) (⟨mkE 25 0 [(5, .dat (.int .u64) x1662)], []⟩ : St) (impl_dependents_n7 x1662) (fun (t : Int) => (Exit.ret, (⟨mkE 25 0 [(4, .dat (.int .u64) t)], []⟩ : St))) := by
  refine Link.of fun K h => ?_
  simp only [impl_dependents_n7, wpO_bind, wpO_cond, wpO_map, wpO_some] at h
  exact Awp.of (by kernel_rfl) h

theorem impl_dependents_n8_l (x1641 : List Int) (x1642 : Int) : Link impl_dependents_ctx LL (Code.snd (Code.snd (bodyOf Tryd.f48))) (Ann.snd (Ann.snd impl_dependents_an)) (⟨mkE 25 0 [(0, .dat (.list (.int .i64)) x1641), (1, .dat (.int .i64) x1642), (5, .dat (.int .u64) 0)], []⟩ : St) (impl_dependents_n8 x1641 x1642) (fun (t : Int) => (Exit.ret, (⟨mkE 25 0 [(4, .dat (.int .u64) t)], []⟩ : St))) := by
  unfold impl_dependents_n8
  exact Link.cast (by kernel_rfl) (by kernel_rfl) (link_seq (b := (Code.snd (Code.snd (Code.snd (bodyOf Tryd.f48))))) (y := (Ann.snd (Ann.snd (Ann.snd impl_dependents_an)))) (impl_dependents_n6_l x1641 x1642) (fun (t : Int) => (impl_dependents_n7_l t)))

theorem impl_dependents_n9_l (x1641 : List Int) (x1642 : Int) : Link impl_dependents_ctx LL (bodyOf Tryd.f48) impl_dependents_an (⟨mkE 25 0 [(0, .dat (.list (.int .i64)) x1641), (1, .dat (.int .i64) x1642)], []⟩ : St) (impl_dependents_n9 x1641 x1642) (fun (t : Int) => (Exit.ret, (⟨mkE 25 0 [(4, .dat (.int .u64) t)], []⟩ : St))) := by
  unfold impl_dependents_n9
  exact Link.cast (by kernel_rfl) (by kernel_rfl) (link_group (c := (Code.fst (Code.snd (bodyOf Tryd.f48)))) (a := (Ann.fst (Ann.snd impl_dependents_an))) [(Code.fst (bodyOf Tryd.f48))] [(Ann.fst impl_dependents_an)] rfl (link_seq (b := (Code.snd (Code.snd (bodyOf Tryd.f48)))) (y := (Ann.snd (Ann.snd impl_dependents_an))) (impl_dependents_n1_l x1641 x1642) (fun (t : Unit) => (impl_dependents_n8_l x1641 x1642))))

theorem impl_dependents_e (x1641 : List Int) (x1642 : Int) {r : AV} {H' : Heap} (h : (Ans.mk _ (impl_dependents x1641 x1642) (fun (t : Int) => (.dat (.int .u64) t, []))).run = some (r, H')) : Awp impl_dependents_ctx LL (bodyOf Tryd.f48) impl_dependents_an (⟨mkE 25 0 [(0, .dat (.list (.int .i64)) x1641), (1, .dat (.int .i64) x1642)], []⟩ : St) (Ret (tlook tys) Tryd.f48.results.toList r H') :=
  ret_of' (impl_dependents_n9_l x1641 x1642) (by unfold impl_dependents; kernel_rfl) (by
  intro t
  exact ret_mk [.dat (.int .u64) t] (by kernel_rfl) (by kernel_rfl) (by kernel_rfl) (by kernel_rfl)) h

def F_impl_dependents : Fun := fun avs H =>
  match avs, H with
  | [.dat (.list (.int .i64)) x1641, .dat (.int .i64) x1642], [] => ⟨_, impl_dependents x1641 x1642, fun (t : Int) => (.dat (.int .u64) t, [])⟩
  | _, _ => Ans.no

theorem impl_dependents_sound : Sound Tryd.prog 48 F_impl_dependents := by
  refine fn_sound' (C := impl_dependents_ctx) (c := bodyOf Tryd.f48) (cok_of tys_ok (List.forall_mem_cons.2 ⟨impl_only_sound, by simp⟩) (List.forall_mem_cons.2 ⟨Tryd.call62, by simp⟩) (by kernel_rfl)) Tryd.func48 (by kernel_rfl) LL impl_dependents_an ?_
  intro avs H r H' h
  unfold F_impl_dependents at h
  split at h
  · refine Awp.cast ?_ ?_ ?_ (impl_dependents_e _ _ h) <;> kernel_rfl
  · simp [Ans.no, Ans.run] at h


/-! math/bits.OnesCount64 -/

def math_bits_OnesCount64_an : Ann := (.seq (.leaf [0]) (.seq (.leaf [0]) (.seq (.leaf [0]) (.seq (.leaf [0]) (.seq (.leaf [0]) (.seq (.leaf [0]) (.seq (.leaf [0]) (.seq (.leaf [2]) (.leaf [2])))))))))

noncomputable def math_bits_OnesCount64_ctx : Ctx := ⟨tlook tys, olook [], ioF, 0, false⟩

theorem math_bits_OnesCount64_n1_l (x1686 : Int) : Link math_bits_OnesCount64_ctx LL (Code.seq (Code.fst (bodyOf Tryd.f93)) (Code.fst (Code.snd (bodyOf Tryd.f93)))) (Ann.seq (Ann.fst math_bits_OnesCount64_an) (Ann.fst (Ann.snd math_bits_OnesCount64_an))) (⟨mkE 35 0 [(0, .dat (.int .u64) x1686)], []⟩ : St) (math_bits_OnesCount64_n1 x1686) (fun (t : Int) => (Exit.normal, (⟨mkE 35 0 [(0, .dat (.int .u64) t)], []⟩ : St))) := by
  refine Link.of fun K h => ?_
  simp only [math_bits_OnesCount64_n1, wpO_bind, wpO_cond, wpO_map, wpO_some] at h
  exact Awp.of (by kernel_rfl) h

theorem math_bits_OnesCount64_n2_l (x1691 : Int) : Link math_bits_OnesCount64_ctx LL (Code.fst (Code.snd (Code.snd (bodyOf Tryd.f93)))) (Ann.fst (Ann.snd (Ann.snd math_bits_OnesCount64_an))) (⟨mkE 35 0 [(0, .dat (.int .u64) x1691)], []⟩ : St) (math_bits_OnesCount64_n2 x1691) (fun (t : Int) => (Exit.normal, (⟨mkE 35 0 [(0, .dat (.int .u64) t)], []⟩ : St))) := by
  refine Link.of fun K h => ?_
  simp only [math_bits_OnesCount64_n2, wpO_bind, wpO_cond, wpO_map, wpO_some] at h
  exact Awp.of (by kernel_rfl) h

theorem math_bits_OnesCount64_n3_l (x1708 : Int) : Link math_bits_OnesCount64_ctx LL (Code.fst (Code.snd (Code.snd (Code.snd (bodyOf Tryd.f93))))) (Ann.fst (Ann.snd (Ann.snd (Ann.snd math_bits_OnesCount64_an)))) (⟨mkE 35 0 [(0, .dat (.int .u64) x1708)], []⟩ : St) (math_bits_OnesCount64_n3 x1708) (fun (t : Int) => (Exit.normal, (⟨mkE 35 0 [(0, .dat (.int .u64) t)], []⟩ : St))) := by
  refine Link.of fun K h => ?_
  simp only [math_bits_OnesCount64_n3, wpO_bind, wpO_cond, wpO_map, wpO_some] at h
  exact Awp.of (by kernel_rfl) h

theorem math_bits_OnesCount64_n4_l (x1715 : Int) : Link math_bits_OnesCount64_ctx LL (Code.fst (Code.snd (Code.snd (Code.snd (Code.snd (bodyOf Tryd.f93)))))) (Ann.fst (Ann.snd (Ann.snd (Ann.snd (Ann.snd math_bits_OnesCount64_an))))) (⟨mkE 35 0 [(0, .dat (.int .u64) x1715)], []⟩ : St) (math_bits_OnesCount64_n4 x1715) (fun (t : Int) => (Exit.normal, (⟨mkE 35 0 [(0, .dat (.int .u64) t)], []⟩ : St))) := by
  refine Link.of fun K h => ?_
  simp only [math_bits_OnesCount64_n4, wpO_bind, wpO_cond, wpO_map, wpO_some] at h
  exact Awp.of (by kernel_rfl) h

theorem math_bits_OnesCount64_n5_l (x1719 : Int) : Link math_bits_OnesCount64_ctx LL (Code.fst (Code.snd (Code.snd (Code.snd (Code.snd (Code.snd (bodyOf Tryd.f93))))))) (Ann.fst (Ann.snd (Ann.snd (Ann.snd (Ann.snd (Ann.snd math_bits_OnesCount64_an)))))) (⟨mkE 35 0 [(0, .dat (.int .u64) x1719)], []⟩ : St) (math_bits_OnesCount64_n5 x1719) (fun (t : Int) => (Exit.normal, (⟨mkE 35 0 [(0, .dat (.int .u64) t)], []⟩ : St))) := by
  refine Link.of fun K h => ?_
  simp only [math_bits_OnesCount64_n5, wpO_bind, wpO_cond, wpO_map, wpO_some] at h
  exact Awp.of (by kernel_rfl) h

theorem math_bits_OnesCount64_n6_l (x1724 : Int) : Link math_bits_OnesCount64_ctx LL (Code.fst (Code.snd (Code.snd (Code.snd (Code.snd (Code.snd (Code.snd (bodyOf Tryd.f93)))))))) (Ann.fst (Ann.snd (Ann.snd (Ann.snd (Ann.snd (Ann.snd (Ann.snd math_bits_OnesCount64_an))))))) (⟨mkE 35 0 [(0, .dat (.int .u64) x1724)], []⟩ : St) (math_bits_OnesCount64_n6 x1724) (fun (t : Int) => (Exit.normal, (⟨mkE 35 0 [(0, .dat (.int .u64) t)], []⟩ : St))) := by
  refine Link.of fun K h => ?_
  simp only [math_bits_OnesCount64_n6, wpO_bind, wpO_cond, wpO_map, wpO_some] at h
  exact Awp.of (by kernel_rfl) h

theorem math_bits_OnesCount64_n7_l (x1729 : Int) : Link math_bits_OnesCount64_ctx LL (Code.fst (Code.snd (Code.snd (Code.snd (Code.snd (Code.snd (Code.snd (Code.snd (bodyOf Tryd.f93))))))))) (Ann.fst (Ann.snd (Ann.snd (Ann.snd (Ann.snd (Ann.snd (Ann.snd (Ann.snd math_bits_OnesCount64_an)))))))) (⟨mkE 35 0 [(0, .dat (.int .u64) x1729)], []⟩ : St) (math_bits_OnesCount64_n7 x1729) (fun (t : Int) => (Exit.normal, (⟨mkE 35 0 [(2, .dat (.int .i64) t)], []⟩ : St))) := by
  refine Link.of fun K h => ?_
  simp only [math_bits_OnesCount64_n7, wpO_bind, wpO_cond, wpO_map, wpO_some] at h
  exact Awp.of (by kernel_rfl) h

theorem math_bits_OnesCount64_n8_l (x1734 : Int) : Link math_bits_OnesCount64_ctx LL (Code.snd (Code.snd (Code.snd (Code.snd (Code.snd (Code.snd (Code.snd (Code.snd (bodyOf Tryd.f93))))))))) (Ann.snd (Ann.snd (Ann.snd (Ann.snd (Ann.snd (Ann.snd (Ann.snd (Ann.snd math_bits_OnesCount64_an)))))))) (⟨mkE 35 0 [(2, .dat (.int .i64) x1734)], []⟩ : St) (math_bits_OnesCount64_n8 x1734) (fun (t : Int) => (Exit.ret, (⟨mkE 35 0 [(2, .dat (.int .i64) t)], []⟩ : St))) := by
  refine Link.of fun K h => ?_
  simp only [math_bits_OnesCount64_n8, wpO_bind, wpO_cond, wpO_map, wpO_some] at h
  exact Awp.of (by kernel_rfl) h

theorem math_bits_OnesCount64_n9_l (x1729 : Int) : Link math_bits_OnesCount64_ctx LL (Code.snd (Code.snd (Code.snd (Code.snd (Code.snd (Code.snd (Code.snd (bodyOf Tryd.f93)))))))) (Ann.snd (Ann.snd (Ann.snd (Ann.snd (Ann.snd (Ann.snd (Ann.snd math_bits_OnesCount64_an))))))) (⟨mkE 35 0 [(0, .dat (.int .u64) x1729)], []⟩ : St) (math_bits_OnesCount64_n9 x1729) (fun (t : Int) => (Exit.ret, (⟨mkE 35 0 [(2, .dat (.int .i64) t)], []⟩ : St))) := by
  unfold math_bits_OnesCount64_n9
  exact Link.cast (by kernel_rfl) (by kernel_rfl) (link_seq (b := (Code.snd (Code.snd (Code.snd (Code.snd (Code.snd (Code.snd (Code.snd (Code.snd (bodyOf Tryd.f93)))))))))) (y := (Ann.snd (Ann.snd (Ann.snd (Ann.snd (Ann.snd (Ann.snd (Ann.snd (Ann.snd math_bits_OnesCount64_an))))))))) (math_bits_OnesCount64_n7_l x1729) (fun (t : Int) => (math_bits_OnesCount64_n8_l t)))

theorem math_bits_OnesCount64_n10_l (x1724 : Int) : Link math_bits_OnesCount64_ctx LL (Code.snd (Code.snd (Code.snd (Code.snd (Code.snd (Code.snd (bodyOf Tryd.f93))))))) (Ann.snd (Ann.snd (Ann.snd (Ann.snd (Ann.snd (Ann.snd math_bits_OnesCount64_an)))))) (⟨mkE 35 0 [(0, .dat (.int .u64) x1724)], []⟩ : St) (math_bits_OnesCount64_n10 x1724) (fun (t : Int) => (Exit.ret, (⟨mkE 35 0 [(2, .dat (.int .i64) t)], []⟩ : St))) := by
  unfold math_bits_OnesCount64_n10
  exact Link.cast (by kernel_rfl) (by kernel_rfl) (link_seq (b := (Code.snd (Code.snd (Code.snd (Code.snd (Code.snd (Code.snd (Code.snd (bodyOf Tryd.f93))))))))) (y := (Ann.snd (Ann.snd (Ann.snd (Ann.snd (Ann.snd (Ann.snd (Ann.snd math_bits_OnesCount64_an)))))))) (math_bits_OnesCount64_n6_l x1724) (fun (t : Int) => (math_bits_OnesCount64_n9_l t)))

theorem math_bits_OnesCount64_n11_l (x1719 : Int) : Link math_bits_OnesCount64_ctx LL (Code.snd (Code.snd (Code.snd (Code.snd (Code.snd (bodyOf Tryd.f93)))))) (Ann.snd (Ann.snd (Ann.snd (Ann.snd (Ann.snd math_bits_OnesCount64_an))))) (⟨mkE 35 0 [(0, .dat (.int .u64) x1719)], []⟩ : St) (math_bits_OnesCount64_n11 x1719) (fun (t : Int) => (Exit.ret, (⟨mkE 35 0 [(2, .dat (.int .i64) t)], []⟩ : St))) := by
  unfold math_bits_OnesCount64_n11
  exact Link.cast (by kernel_rfl) (by kernel_rfl) (link_seq (b := (Code.snd (Code.snd (Code.snd (Code.snd (Code.snd (Code.snd (bodyOf Tryd.f93)))))))) (y := (Ann.snd (Ann.snd (Ann.snd (Ann.snd (Ann.snd (Ann.snd math_bits_OnesCount64_an))))))) (math_bits_OnesCount64_n5_l x1719) (fun (t : Int) => (math_bits_OnesCount64_n10_l t)))

theorem math_bits_OnesCount64_n12_l (x1715 : Int) : Link math_bits_OnesCount64_ctx LL (Code.snd (Code.snd (Code.snd (Code.snd (bodyOf Tryd.f93))))) (Ann.snd (Ann.snd (Ann.snd (Ann.snd math_bits_OnesCount64_an)))) (⟨mkE 35 0 [(0, .dat (.int .u64) x1715)], []⟩ : St) (math_bits_OnesCount64_n12 x1715) (fun (t : Int) => (Exit.ret, (⟨mkE 35 0 [(2, .dat (.int .i64) t)], []⟩ : St))) := by
  unfold math_bits_OnesCount64_n12
  exact Link.cast (by kernel_rfl) (by kernel_rfl) (link_seq (b := (Code.snd (Code.snd (Code.snd (Code.snd (Code.snd (bodyOf Tryd.f93))))))) (y := (Ann.snd (Ann.snd (Ann.snd (Ann.snd (Ann.snd math_bits_OnesCount64_an)))))) (math_bits_OnesCount64_n4_l x1715) (fun (t : Int) => (math_bits_OnesCount64_n11_l t)))

theorem math_bits_OnesCount64_n13_l (x1708 : Int) : Link math_bits_OnesCount64_ctx LL (Code.snd (Code.snd (Code.snd (bodyOf Tryd.f93)))) (Ann.snd (Ann.snd (Ann.snd math_bits_OnesCount64_an))) (⟨mkE 35 0 [(0, .dat (.int .u64) x1708)], []⟩ : St) (math_bits_OnesCount64_n13 x1708) (fun (t : Int) => (Exit.ret, (⟨mkE 35 0 [(2, .dat (.int .i64) t)], []⟩ : St))) := by
  unfold math_bits_OnesCount64_n13
  exact Link.cast (by kernel_rfl) (by kernel_rfl) (link_seq (b := (Code.snd (Code.snd (Code.snd (Code.snd (bodyOf Tryd.f93)))))) (y := (Ann.snd (Ann.snd (Ann.snd (Ann.snd math_bits_OnesCount64_an))))) (math_bits_OnesCount64_n3_l x1708) (fun (t : Int) => (math_bits_OnesCount64_n12_l t)))

theorem math_bits_OnesCount64_n14_l (x1691 : Int) : Link math_bits_OnesCount64_ctx LL (Code.snd (Code.snd (bodyOf Tryd.f93))) (Ann.snd (Ann.snd math_bits_OnesCount64_an)) (⟨mkE 35 0 [(0, .dat (.int .u64) x1691)], []⟩ : St) (math_bits_OnesCount64_n14 x1691) (fun (t : Int) => (Exit.ret, (⟨mkE 35 0 [(2, .dat (.int .i64) t)], []⟩ : St))) := by
  unfold math_bits_OnesCount64_n14
  exact Link.cast (by kernel_rfl) (by kernel_rfl) (link_seq (b := (Code.snd (Code.snd (Code.snd (bodyOf Tryd.f93))))) (y := (Ann.snd (Ann.snd (Ann.snd math_bits_OnesCount64_an)))) (math_bits_OnesCount64_n2_l x1691) (fun (t : Int) => (math_bits_OnesCount64_n13_l t)))

theorem math_bits_OnesCount64_n15_l (x1686 : Int) : Link math_bits_OnesCount64_ctx LL (bodyOf Tryd.f93) math_bits_OnesCount64_an (⟨mkE 35 0 [(0, .dat (.int .u64) x1686)], []⟩ : St) (math_bits_OnesCount64_n15 x1686) (fun (t : Int) => (Exit.ret, (⟨mkE 35 0 [(2, .dat (.int .i64) t)], []⟩ : St))) := by
  unfold math_bits_OnesCount64_n15
  exact Link.cast (by kernel_rfl) (by kernel_rfl) (link_group (c := (Code.fst (Code.snd (bodyOf Tryd.f93)))) (a := (Ann.fst (Ann.snd math_bits_OnesCount64_an))) [(Code.fst (bodyOf Tryd.f93))] [(Ann.fst math_bits_OnesCount64_an)] rfl (link_seq (b := (Code.snd (Code.snd (bodyOf Tryd.f93)))) (y := (Ann.snd (Ann.snd math_bits_OnesCount64_an))) (math_bits_OnesCount64_n1_l x1686) (fun (t : Int) => (math_bits_OnesCount64_n14_l t))))

theorem math_bits_OnesCount64_e (x1686 : Int) {r : AV} {H' : Heap} (h : (Ans.mk _ (math_bits_OnesCount64 x1686) (fun (t : Int) => (.dat (.int .i64) t, []))).run = some (r, H')) : Awp math_bits_OnesCount64_ctx LL (bodyOf Tryd.f93) math_bits_OnesCount64_an (⟨mkE 35 0 [(0, .dat (.int .u64) x1686)], []⟩ : St) (Ret (tlook tys) Tryd.f93.results.toList r H') :=
  ret_of' (math_bits_OnesCount64_n15_l x1686) (by unfold math_bits_OnesCount64; kernel_rfl) (by
  intro t
  exact ret_mk [.dat (.int .i64) t] (by kernel_rfl) (by kernel_rfl) (by kernel_rfl) (by kernel_rfl)) h

def F_math_bits_OnesCount64 : Fun := fun avs H =>
  match avs, H with
  | [.dat (.int .u64) x1686], [] => ⟨_, math_bits_OnesCount64 x1686, fun (t : Int) => (.dat (.int .i64) t, [])⟩
  | _, _ => Ans.no

theorem math_bits_OnesCount64_sound : Sound Tryd.prog 93 F_math_bits_OnesCount64 := by
  refine fn_sound' (C := math_bits_OnesCount64_ctx) (c := bodyOf Tryd.f93) (cok_of tys_ok (by simp) (by simp) (by kernel_rfl)) Tryd.func93 (by kernel_rfl) LL math_bits_OnesCount64_an ?_
  intro avs H r H' h
  unfold F_math_bits_OnesCount64 at h
  split at h
  · refine Awp.cast ?_ ?_ ?_ (math_bits_OnesCount64_e _ h) <;> kernel_rfl
  · simp [Ans.no, Ans.run] at h


/-! math/bits.OnesCount -/

def math_bits_OnesCount_an : Ann := (.seq (.leaf [0]) (.seq (.cond (.seq (.leaf [2]) (.leaf [2])) (.leaf [0])) (.seq (.leaf [2]) (.leaf [2]))))

noncomputable def math_bits_OnesCount_ctx : Ctx := ⟨tlook tys, olook [(93, F_math_bits_OnesCount64)], ioF, 0, false⟩

theorem math_bits_OnesCount_n1_l (x1685 : Int) : Link math_bits_OnesCount_ctx LL (bodyOf Tryd.f89) math_bits_OnesCount_an (⟨mkE 8 0 [(0, .dat (.int .u64) x1685)], []⟩ : St) (math_bits_OnesCount_n1 x1685) (fun (t : Int) => (Exit.ret, (⟨mkE 8 0 [(2, .dat (.int .i64) t)], []⟩ : St))) := by
  refine Link.of fun K h => ?_
  simp only [math_bits_OnesCount_n1, wpO_bind, wpO_cond, wpO_map, wpO_some] at h
  exact Awp.of (by kernel_rfl) h

theorem math_bits_OnesCount_e (x1685 : Int) {r : AV} {H' : Heap} (h : (Ans.mk _ (math_bits_OnesCount x1685) (fun (t : Int) => (.dat (.int .i64) t, []))).run = some (r, H')) : Awp math_bits_OnesCount_ctx LL (bodyOf Tryd.f89) math_bits_OnesCount_an (⟨mkE 8 0 [(0, .dat (.int .u64) x1685)], []⟩ : St) (Ret (tlook tys) Tryd.f89.results.toList r H') :=
  ret_of' (math_bits_OnesCount_n1_l x1685) (by unfold math_bits_OnesCount; kernel_rfl) (by
  intro t
  exact ret_mk [.dat (.int .i64) t] (by kernel_rfl) (by kernel_rfl) (by kernel_rfl) (by kernel_rfl)) h

def F_math_bits_OnesCount : Fun := fun avs H =>
  match avs, H with
  | [.dat (.int .u64) x1685], [] => ⟨_, math_bits_OnesCount x1685, fun (t : Int) => (.dat (.int .i64) t, [])⟩
  | _, _ => Ans.no

theorem math_bits_OnesCount_sound : Sound Tryd.prog 89 F_math_bits_OnesCount := by
  refine fn_sound' (C := math_bits_OnesCount_ctx) (c := bodyOf Tryd.f89) (cok_of tys_ok (List.forall_mem_cons.2 ⟨math_bits_OnesCount64_sound, by simp⟩) (List.forall_mem_cons.2 ⟨Tryd.call93, by simp⟩) (by kernel_rfl)) Tryd.func89 (by kernel_rfl) LL math_bits_OnesCount_an ?_
  intro avs H r H' h
  unfold F_math_bits_OnesCount at h
  split at h
  · refine Awp.cast ?_ ?_ ?_ (math_bits_OnesCount_e _ h) <;> kernel_rfl
  · simp [Ans.no, Ans.run] at h


/-! (loop.example/headtrees/impl.wordSet).count -/

def impl_wordSet_count_an : Ann := (.seq (.leaf [0]) (.seq (.leaf [2]) (.leaf [2])))

noncomputable def impl_wordSet_count_ctx : Ctx := ⟨tlook tys, olook [(89, F_math_bits_OnesCount)], ioF, 0, false⟩

theorem impl_wordSet_count_n1_l (x1684 : Int) : Link impl_wordSet_count_ctx LL (bodyOf Tryd.f72) impl_wordSet_count_an (⟨mkE 5 0 [(0, .dat (.int .u64) x1684)], []⟩ : St) (impl_wordSet_count_n1 x1684) (fun (t : Int) => (Exit.ret, (⟨mkE 5 0 [(2, .dat (.int .i64) t)], []⟩ : St))) := by
  refine Link.of fun K h => ?_
  simp only [impl_wordSet_count_n1, wpO_bind, wpO_cond, wpO_map, wpO_some] at h
  exact Awp.of (by kernel_rfl) h

theorem impl_wordSet_count_e (x1684 : Int) {r : AV} {H' : Heap} (h : (Ans.mk _ (impl_wordSet_count x1684) (fun (t : Int) => (.dat (.int .i64) t, []))).run = some (r, H')) : Awp impl_wordSet_count_ctx LL (bodyOf Tryd.f72) impl_wordSet_count_an (⟨mkE 5 0 [(0, .dat (.int .u64) x1684)], []⟩ : St) (Ret (tlook tys) Tryd.f72.results.toList r H') :=
  ret_of' (impl_wordSet_count_n1_l x1684) (by unfold impl_wordSet_count; kernel_rfl) (by
  intro t
  exact ret_mk [.dat (.int .i64) t] (by kernel_rfl) (by kernel_rfl) (by kernel_rfl) (by kernel_rfl)) h

def F_impl_wordSet_count : Fun := fun avs H =>
  match avs, H with
  | [.dat (.int .u64) x1684], [] => ⟨_, impl_wordSet_count x1684, fun (t : Int) => (.dat (.int .i64) t, [])⟩
  | _, _ => Ans.no

theorem impl_wordSet_count_sound : Sound Tryd.prog 72 F_impl_wordSet_count := by
  refine fn_sound' (C := impl_wordSet_count_ctx) (c := bodyOf Tryd.f72) (cok_of tys_ok (List.forall_mem_cons.2 ⟨math_bits_OnesCount_sound, by simp⟩) (List.forall_mem_cons.2 ⟨Tryd.call89, by simp⟩) (by kernel_rfl)) Tryd.func72 (by kernel_rfl) LL impl_wordSet_count_an ?_
  intro avs H r H' h
  unfold F_impl_wordSet_count at h
  split at h
  · refine Awp.cast ?_ ?_ ?_ (impl_wordSet_count_e _ h) <;> kernel_rfl
  · simp [Ans.no, Ans.run] at h


/-! math/bits.TrailingZeros64 -/

def math_bits_TrailingZeros64_an : Ann := (.seq (.leaf [0]) (.seq (.seq (.leaf [0, 4]) (.cond (.seq (.leaf [2]) (.leaf [2])) (.leaf [0]))) (.seq (.leaf [2]) (.leaf [2]))))

noncomputable def math_bits_TrailingZeros64_ctx : Ctx := ⟨tlook tys, olook [], ioF, 0, false⟩

theorem math_bits_TrailingZeros64_n1_l (x1745 : Int) : Link math_bits_TrailingZeros64_ctx LL (bodyOf Tryd.f91) math_bits_TrailingZeros64_an (⟨mkE 14 0 [(0, .dat (.int .u64) x1745)], []⟩ : St) (math_bits_TrailingZeros64_n1 x1745) (fun (t : Int) => (Exit.ret, (⟨mkE 14 0 [(2, .dat (.int .i64) t)], []⟩ : St))) := by
  refine Link.of fun K h => ?_
  simp only [math_bits_TrailingZeros64_n1, wpO_bind, wpO_cond, wpO_map, wpO_some] at h
  exact Awp.of (by kernel_rfl) h

theorem math_bits_TrailingZeros64_e (x1745 : Int) {r : AV} {H' : Heap} (h : (Ans.mk _ (math_bits_TrailingZeros64 x1745) (fun (t : Int) => (.dat (.int .i64) t, []))).run = some (r, H')) : Awp math_bits_TrailingZeros64_ctx LL (bodyOf Tryd.f91) math_bits_TrailingZeros64_an (⟨mkE 14 0 [(0, .dat (.int .u64) x1745)], []⟩ : St) (Ret (tlook tys) Tryd.f91.results.toList r H') :=
  ret_of' (math_bits_TrailingZeros64_n1_l x1745) (by unfold math_bits_TrailingZeros64; kernel_rfl) (by
  intro t
  exact ret_mk [.dat (.int .i64) t] (by kernel_rfl) (by kernel_rfl) (by kernel_rfl) (by kernel_rfl)) h

def F_math_bits_TrailingZeros64 : Fun := fun avs H =>
  match avs, H with
  | [.dat (.int .u64) x1745], [] => ⟨_, math_bits_TrailingZeros64 x1745, fun (t : Int) => (.dat (.int .i64) t, [])⟩
  | _, _ => Ans.no

theorem math_bits_TrailingZeros64_sound : Sound Tryd.prog 91 F_math_bits_TrailingZeros64 := by
  refine fn_sound' (C := math_bits_TrailingZeros64_ctx) (c := bodyOf Tryd.f91) (cok_of tys_ok (by simp) (by simp) (by kernel_rfl)) Tryd.func91 (by kernel_rfl) LL math_bits_TrailingZeros64_an ?_
  intro avs H r H' h
  unfold F_math_bits_TrailingZeros64 at h
  split at h
  · refine Awp.cast ?_ ?_ ?_ (math_bits_TrailingZeros64_e _ h) <;> kernel_rfl
  · simp [Ans.no, Ans.run] at h


/-! math/bits.TrailingZeros -/

def math_bits_TrailingZeros_an : Ann := (.seq (.leaf [0]) (.seq (.cond (.seq (.leaf [2]) (.leaf [2])) (.leaf [0])) (.seq (.leaf [2]) (.leaf [2]))))

noncomputable def math_bits_TrailingZeros_ctx : Ctx := ⟨tlook tys, olook [(91, F_math_bits_TrailingZeros64)], ioF, 0, false⟩

theorem math_bits_TrailingZeros_n1_l (x1744 : Int) : Link math_bits_TrailingZeros_ctx LL (bodyOf Tryd.f73) math_bits_TrailingZeros_an (⟨mkE 8 0 [(0, .dat (.int .u64) x1744)], []⟩ : St) (math_bits_TrailingZeros_n1 x1744) (fun (t : Int) => (Exit.ret, (⟨mkE 8 0 [(2, .dat (.int .i64) t)], []⟩ : St))) := by
  refine Link.of fun K h => ?_
  simp only [math_bits_TrailingZeros_n1, wpO_bind, wpO_cond, wpO_map, wpO_some] at h
  exact Awp.of (by kernel_rfl) h

theorem math_bits_TrailingZeros_e (x1744 : Int) {r : AV} {H' : Heap} (h : (Ans.mk _ (math_bits_TrailingZeros x1744) (fun (t : Int) => (.dat (.int .i64) t, []))).run = some (r, H')) : Awp math_bits_TrailingZeros_ctx LL (bodyOf Tryd.f73) math_bits_TrailingZeros_an (⟨mkE 8 0 [(0, .dat (.int .u64) x1744)], []⟩ : St) (Ret (tlook tys) Tryd.f73.results.toList r H') :=
  ret_of' (math_bits_TrailingZeros_n1_l x1744) (by unfold math_bits_TrailingZeros; kernel_rfl) (by
  intro t
  exact ret_mk [.dat (.int .i64) t] (by kernel_rfl) (by kernel_rfl) (by kernel_rfl) (by kernel_rfl)) h

def F_math_bits_TrailingZeros : Fun := fun avs H =>
  match avs, H with
  | [.dat (.int .u64) x1744], [] => ⟨_, math_bits_TrailingZeros x1744, fun (t : Int) => (.dat (.int .i64) t, [])⟩
  | _, _ => Ans.no

theorem math_bits_TrailingZeros_sound : Sound Tryd.prog 73 F_math_bits_TrailingZeros := by
  refine fn_sound' (C := math_bits_TrailingZeros_ctx) (c := bodyOf Tryd.f73) (cok_of tys_ok (List.forall_mem_cons.2 ⟨math_bits_TrailingZeros64_sound, by simp⟩) (List.forall_mem_cons.2 ⟨Tryd.call91, by simp⟩) (by kernel_rfl)) Tryd.func73 (by kernel_rfl) LL math_bits_TrailingZeros_an ?_
  intro avs H r H' h
  unfold F_math_bits_TrailingZeros at h
  split at h
  · refine Awp.cast ?_ ?_ ?_ (math_bits_TrailingZeros_e _ h) <;> kernel_rfl
  · simp [Ans.no, Ans.run] at h


/-! (loop.example/headtrees/impl.wordSet).list -/

def impl_wordSet_list_an : Ann := (.seq (.leaf [0]) (.seq (.leaf [0, 3]) (.seq (.seq (.leaf [3, 4]) (.block (.loop (.seq (.seq (.leaf [3, 4, 10]) (.cond (.leaf [3, 4]) (.leaf [3]))) (.seq (.block (.leaf [3, 4])) (.leaf [3, 4])))))) (.seq (.leaf [2]) (.leaf [2])))))

noncomputable def impl_wordSet_list_ctx : Ctx := ⟨tlook tys, olook [(72, F_impl_wordSet_count), (73, F_math_bits_TrailingZeros)], ioF, 0, false⟩

theorem impl_wordSet_list_n1_l (x1683 : Int) : Link impl_wordSet_list_ctx LL (Code.seq (Code.fst (bodyOf Tryd.f49)) (Code.fst (Code.snd (bodyOf Tryd.f49)))) (Ann.seq (Ann.fst impl_wordSet_list_an) (Ann.fst (Ann.snd impl_wordSet_list_an))) (⟨mkE 22 0 [(0, .dat (.int .u64) x1683)], []⟩ : St) (impl_wordSet_list_n1 x1683) (fun (t : (List Int)) => (Exit.normal, (⟨mkE 22 0 [(0, .dat (.int .u64) x1683), (3, .slc 0)], [some (.seq (.int .i64) t)]⟩ : St))) := by
  refine Link.of fun K h => ?_
  simp only [impl_wordSet_list_n1, wpO_bind, wpO_cond, wpO_map, wpO_some] at h
  exact Awp.of (by kernel_rfl) h

theorem impl_wordSet_list_n2_l (x1683 : Int) (x1741 : List Int) : Link impl_wordSet_list_ctx LL (Code.fst (Code.fst (Code.snd (Code.snd (bodyOf Tryd.f49))))) (Ann.fst (Ann.fst (Ann.snd (Ann.snd impl_wordSet_list_an)))) (⟨mkE 22 0 [(0, .dat (.int .u64) x1683), (3, .slc 0)], [some (.seq (.int .i64) x1741)]⟩ : St) (impl_wordSet_list_n2) (fun (t : Unit) => (Exit.normal, (⟨mkE 22 0 [(3, .slc 0), (4, .dat (.int .u64) x1683)], [some (.seq (.int .i64) x1741)]⟩ : St))) := by
  refine Link.of fun K h => ?_
  simp only [impl_wordSet_list_n2, wpO_bind, wpO_cond, wpO_map, wpO_some] at h
  exact Awp.of (by kernel_rfl) h

theorem impl_wordSet_list_n3_l (x1784 : Int) (x1785 : List Int) : Link impl_wordSet_list_ctx LL (Code.fst (Code.fst (Code.snd (Code.fst (Code.snd (Code.snd (bodyOf Tryd.f49))))))) (Ann.fst (Ann.fst (Ann.snd (Ann.fst (Ann.snd (Ann.snd impl_wordSet_list_an)))))) (⟨mkE 22 0 [(3, .slc 0), (4, .dat (.int .u64) x1784)], [some (.seq (.int .i64) x1785)]⟩ : St) (impl_wordSet_list_n3 x1784 x1785) (Sum.elim (fun (t : Int × (List Int)) => (Exit.normal, (⟨mkE 22 0 [(3, .slc 0), (4, .dat (.int .u64) t.1)], [some (.seq (.int .i64) t.2)]⟩ : St))) (fun (t : (List Int)) => ((Exit.exit 0), (⟨mkE 22 0 [(3, .slc 0)], [some (.seq (.int .i64) t)]⟩ : St)))) := by
  refine Link.of fun K h => ?_
  simp only [impl_wordSet_list_n3, wpO_bind, wpO_cond, wpO_map, wpO_some] at h
  exact Awp.of (by kernel_rfl) h

theorem impl_wordSet_list_n4_l (x1683 : Int) (x1741 : List Int) : Link impl_wordSet_list_ctx LL (Code.fst (Code.snd (Code.fst (Code.snd (Code.snd (bodyOf Tryd.f49)))))) (Ann.fst (Ann.snd (Ann.fst (Ann.snd (Ann.snd impl_wordSet_list_an))))) (⟨mkE 22 0 [(3, .slc 0), (4, .dat (.int .u64) x1683)], [some (.seq (.int .i64) x1741)]⟩ : St) (impl_wordSet_list_n4 x1683 x1741) (fun (t : (List Int)) => ((Exit.exit 0), (⟨mkE 22 0 [(3, .slc 0)], [some (.seq (.int .i64) t)]⟩ : St))) := by
  unfold impl_wordSet_list_n4
  exact Link.cast (by kernel_rfl) (by kernel_rfl) (link_loop (mk := fun (s : Int × (List Int)) => (⟨mkE 22 0 [(3, .slc 0), (4, .dat (.int .u64) s.1)], [some (.seq (.int .i64) s.2)]⟩ : St)) (fin := (fun (t : (List Int)) => ((Exit.exit 0), (⟨mkE 22 0 [(3, .slc 0)], [some (.seq (.int .i64) t)]⟩ : St)))) (by
  rintro t f K h
  · exact h) (fun s => link_map (impl_wordSet_list_n3_l s.1 s.2) (Sum.elim (fun (t : Int × (List Int)) => Sum.inl (t.1, t.2)) (fun (t : (List Int)) => Sum.inr t)) (by
  rintro (t | t)
  · kernel_rfl
  · kernel_rfl)) (x1683, x1741))

theorem impl_wordSet_list_n5_l (x1683 : Int) (x1741 : List Int) : Link impl_wordSet_list_ctx LL (Code.snd (Code.fst (Code.snd (Code.snd (bodyOf Tryd.f49))))) (Ann.snd (Ann.fst (Ann.snd (Ann.snd impl_wordSet_list_an)))) (⟨mkE 22 0 [(3, .slc 0), (4, .dat (.int .u64) x1683)], [some (.seq (.int .i64) x1741)]⟩ : St) (impl_wordSet_list_n5 x1683 x1741) (fun (t : (List Int)) => (Exit.normal, (⟨mkE 22 0 [(3, .slc 0)], [some (.seq (.int .i64) t)]⟩ : St))) := by
  unfold impl_wordSet_list_n5
  exact Link.cast (by kernel_rfl) (by kernel_rfl) (link_block (id := 0) (impl_wordSet_list_n4_l x1683 x1741) (fun (t : (List Int)) => t) (by
  rintro t K h
  · exact Eq.mp (by kernel_rfl) h))

theorem impl_wordSet_list_n6_l (x1683 : Int) (x1741 : List Int) : Link impl_wordSet_list_ctx LL (Code.fst (Code.snd (Code.snd (bodyOf Tryd.f49)))) (Ann.fst (Ann.snd (Ann.snd impl_wordSet_list_an))) (⟨mkE 22 0 [(0, .dat (.int .u64) x1683), (3, .slc 0)], [some (.seq (.int .i64) x1741)]⟩ : St) (impl_wordSet_list_n6 x1683 x1741) (fun (t : (List Int)) => (Exit.normal, (⟨mkE 22 0 [(3, .slc 0)], [some (.seq (.int .i64) t)]⟩ : St))) := by
  unfold impl_wordSet_list_n6
  exact Link.cast (by kernel_rfl) (by kernel_rfl) (link_seq (b := (Code.snd (Code.fst (Code.snd (Code.snd (bodyOf Tryd.f49)))))) (y := (Ann.snd (Ann.fst (Ann.snd (Ann.snd impl_wordSet_list_an))))) (impl_wordSet_list_n2_l x1683 x1741) (fun (t : Unit) => (impl_wordSet_list_n5_l x1683 x1741)))

theorem impl_wordSet_list_n7_l (x1785 : List Int) : Link impl_wordSet_list_ctx LL (Code.snd (Code.snd (Code.snd (bodyOf Tryd.f49)))) (Ann.snd (Ann.snd (Ann.snd impl_wordSet_list_an))) (⟨mkE 22 0 [(3, .slc 0)], [some (.seq (.int .i64) x1785)]⟩ : St) (impl_wordSet_list_n7 x1785) (fun (t : (List Int)) => (Exit.ret, (⟨mkE 22 0 [(2, .slc 0)], [some (.seq (.int .i64) t)]⟩ : St))) := by
  refine Link.of fun K h => ?_
  simp only [impl_wordSet_list_n7, wpO_bind, wpO_cond, wpO_map, wpO_some] at h
  exact Awp.of (by kernel_rfl) h

theorem impl_wordSet_list_n8_l (x1683 : Int) (x1741 : List Int) : Link impl_wordSet_list_ctx LL (Code.snd (Code.snd (bodyOf Tryd.f49))) (Ann.snd (Ann.snd impl_wordSet_list_an)) (⟨mkE 22 0 [(0, .dat (.int .u64) x1683), (3, .slc 0)], [some (.seq (.int .i64) x1741)]⟩ : St) (impl_wordSet_list_n8 x1683 x1741) (fun (t : (List Int)) => (Exit.ret, (⟨mkE 22 0 [(2, .slc 0)], [some (.seq (.int .i64) t)]⟩ : St))) := by
  unfold impl_wordSet_list_n8
  exact Link.cast (by kernel_rfl) (by kernel_rfl) (link_seq (b := (Code.snd (Code.snd (Code.snd (bodyOf Tryd.f49))))) (y := (Ann.snd (Ann.snd (Ann.snd impl_wordSet_list_an)))) (impl_wordSet_list_n6_l x1683 x1741) (fun (t : (List Int)) => (impl_wordSet_list_n7_l t)))

theorem impl_wordSet_list_n9_l (x1683 : Int) : Link impl_wordSet_list_ctx LL (bodyOf Tryd.f49) impl_wordSet_list_an (⟨mkE 22 0 [(0, .dat (.int .u64) x1683)], []⟩ : St) (impl_wordSet_list_n9 x1683) (fun (t : (List Int)) => (Exit.ret, (⟨mkE 22 0 [(2, .slc 0)], [some (.seq (.int .i64) t)]⟩ : St))) := by
  unfold impl_wordSet_list_n9
  exact Link.cast (by kernel_rfl) (by kernel_rfl) (link_group (c := (Code.fst (Code.snd (bodyOf Tryd.f49)))) (a := (Ann.fst (Ann.snd impl_wordSet_list_an))) [(Code.fst (bodyOf Tryd.f49))] [(Ann.fst impl_wordSet_list_an)] rfl (link_seq (b := (Code.snd (Code.snd (bodyOf Tryd.f49)))) (y := (Ann.snd (Ann.snd impl_wordSet_list_an))) (impl_wordSet_list_n1_l x1683) (fun (t : (List Int)) => (impl_wordSet_list_n8_l x1683 t))))

theorem impl_wordSet_list_e (x1683 : Int) {r : AV} {H' : Heap} (h : (Ans.mk _ (impl_wordSet_list x1683) (fun (t : (List Int)) => (.slc 0, [some (.seq (.int .i64) t)]))).run = some (r, H')) : Awp impl_wordSet_list_ctx LL (bodyOf Tryd.f49) impl_wordSet_list_an (⟨mkE 22 0 [(0, .dat (.int .u64) x1683)], []⟩ : St) (Ret (tlook tys) Tryd.f49.results.toList r H') :=
  ret_of' (impl_wordSet_list_n9_l x1683) (by unfold impl_wordSet_list; kernel_rfl) (by
  intro t
  exact ret_mk [.slc 0] (by kernel_rfl) (by kernel_rfl) (by kernel_rfl) (by kernel_rfl)) h

def F_impl_wordSet_list : Fun := fun avs H =>
  match avs, H with
  | [.dat (.int .u64) x1683], [] => ⟨_, impl_wordSet_list x1683, fun (t : (List Int)) => (.slc 0, [some (.seq (.int .i64) t)])⟩
  | _, _ => Ans.no

theorem impl_wordSet_list_sound : Sound Tryd.prog 49 F_impl_wordSet_list := by
  refine fn_sound' (C := impl_wordSet_list_ctx) (c := bodyOf Tryd.f49) (cok_of tys_ok (List.forall_mem_cons.2 ⟨impl_wordSet_count_sound, List.forall_mem_cons.2 ⟨math_bits_TrailingZeros_sound, by simp⟩⟩) (List.forall_mem_cons.2 ⟨Tryd.call72, List.forall_mem_cons.2 ⟨Tryd.call73, by simp⟩⟩) (by kernel_rfl)) Tryd.func49 (by kernel_rfl) LL impl_wordSet_list_an ?_
  intro avs H r H' h
  unfold F_impl_wordSet_list at h
  split at h
  · refine Awp.cast ?_ ?_ ?_ (impl_wordSet_list_e _ h) <;> kernel_rfl
  · simp [Ans.no, Ans.run] at h


/-! loop.example/headtrees/impl.fillYields -/

def impl_fillYields_an : Ann := (.seq (.leaf [0, 1, 2]) (.seq (.leaf [0, 1, 2, 7]) (.seq (.seq (.leaf [0, 1, 2, 7, 15, 16, 17]) (.block (.loop (.seq (.leaf [0, 1, 2, 7, 15, 16, 17, 18]) (.seq (.cond (.leaf [0, 1, 2, 7, 15, 16, 17]) (.leaf [0, 2, 7])) (.seq (.block (.seq (.leaf [0, 1, 2, 7, 9, 15, 16, 17]) (.leaf [0, 1, 2, 7, 15, 16, 17]))) (.leaf [0, 1, 2, 7, 15, 16, 17]))))))) (.seq (.leaf [7]) (.seq (.leaf [6]) (.leaf [6]))))))

def F_impl_fillYields_fuel (n : Nat) : Fun := fun avs H =>
  match avs, H with
  | [.slc 0, .dat (.list (.int .i64)) x1632, .dat (.int .i64) x1633], [some (.seq (.int .u64) x1634)] => ⟨_, impl_fillYields_fuel n x1632 x1633 x1634, fun (t : Int × (List Int)) => (.dat (.int .u64) t.1, [some (.seq (.int .u64) t.2)])⟩
  | _, _ => Ans.no

noncomputable def impl_fillYields_ctx (n : Nat) : Ctx := ⟨tlook tys, olook [(62, F_impl_only), (48, F_impl_dependents), (49, F_impl_wordSet_list), (71, F_impl_fillYields_fuel n)], ioF, 1, false⟩

theorem impl_fillYields_n1_l (n : Nat) (x1632 : List Int) (x1633 : Int) (x1634 : List Int) : Link (impl_fillYields_ctx n) LL (Code.seq (Code.fst (bodyOf Tryd.f71)) (Code.fst (Code.snd (bodyOf Tryd.f71)))) (Ann.seq (Ann.fst impl_fillYields_an) (Ann.fst (Ann.snd impl_fillYields_an))) (⟨mkE 34 0 [(0, .slc 0), (1, .dat (.list (.int .i64)) x1632), (2, .dat (.int .i64) x1633)], [some (.seq (.int .u64) x1634)]⟩ : St) (impl_fillYields_n1 (impl_fillYields_fuel n) x1633) (fun (t : Int) => (Exit.normal, (⟨mkE 34 0 [(0, .slc 0), (1, .dat (.list (.int .i64)) x1632), (2, .dat (.int .i64) x1633), (7, .dat (.int .u64) t)], [some (.seq (.int .u64) x1634)]⟩ : St))) := by
  refine Link.of fun K h => ?_
  simp only [impl_fillYields_n1, wpO_bind, wpO_cond, wpO_map, wpO_some] at h
  exact Awp.of (by kernel_rfl) h

theorem impl_fillYields_n2_l (n : Nat) (x1632 : List Int) (x1633 : Int) (x1819 : Int) (x1634 : List Int) : Link (impl_fillYields_ctx n) LL (Code.fst (Code.fst (Code.snd (Code.snd (bodyOf Tryd.f71))))) (Ann.fst (Ann.fst (Ann.snd (Ann.snd impl_fillYields_an)))) (⟨mkE 34 0 [(0, .slc 0), (1, .dat (.list (.int .i64)) x1632), (2, .dat (.int .i64) x1633), (7, .dat (.int .u64) x1819)], [some (.seq (.int .u64) x1634)]⟩ : St) (impl_fillYields_n2 (impl_fillYields_fuel n) x1632 x1633) (fun (t : Int × (List Int)) => (Exit.normal, (⟨mkE 34 0 [(0, .slc 0), (1, .dat (.list (.int .i64)) x1632), (2, .dat (.int .i64) x1633), (7, .dat (.int .u64) x1819), (15, .slc 1), (16, .dat (.int .i64) t.1), (17, .dat (.int .i64) 0)], [some (.seq (.int .u64) x1634), some (.seq (.int .i64) t.2)]⟩ : St))) := by
  refine Link.of fun K h => ?_
  simp only [impl_fillYields_n2, wpO_bind, wpO_cond, wpO_map, wpO_some] at h
  exact Awp.of (by kernel_rfl) h

theorem impl_fillYields_n3_l (n : Nat) (x1632 : List Int) (x1633 : Int) (x1840 : Int) (x1822 : Int) (x1841 : Int) (x1842 : List Int) (x1821 : List Int) : Link (impl_fillYields_ctx n) LL (Code.fst (Code.fst (Code.snd (Code.fst (Code.snd (Code.snd (bodyOf Tryd.f71))))))) (Ann.fst (Ann.fst (Ann.snd (Ann.fst (Ann.snd (Ann.snd impl_fillYields_an)))))) (⟨mkE 34 0 [(0, .slc 0), (1, .dat (.list (.int .i64)) x1632), (2, .dat (.int .i64) x1633), (7, .dat (.int .u64) x1840), (15, .slc 1), (16, .dat (.int .i64) x1822), (17, .dat (.int .i64) x1841)], [some (.seq (.int .u64) x1842), some (.seq (.int .i64) x1821)]⟩ : St) (impl_fillYields_n3 (impl_fillYields_fuel n) x1632 x1840 x1822 x1841 x1842 x1821) (Sum.elim (fun (t : Int × Int × (List Int)) => (Exit.normal, (⟨mkE 34 0 [(0, .slc 0), (1, .dat (.list (.int .i64)) x1632), (2, .dat (.int .i64) x1633), (7, .dat (.int .u64) t.1), (15, .slc 1), (16, .dat (.int .i64) x1822), (17, .dat (.int .i64) t.2.1)], [some (.seq (.int .u64) t.2.2), some (.seq (.int .i64) x1821)]⟩ : St))) (fun (t : Int × (List Int)) => ((Exit.exit 0), (⟨mkE 34 0 [(0, .slc 0), (2, .dat (.int .i64) x1633), (7, .dat (.int .u64) t.1)], [some (.seq (.int .u64) t.2)]⟩ : St)))) := by
  refine Link.of fun K h => ?_
  simp only [impl_fillYields_n3, wpO_bind, wpO_cond, wpO_map, wpO_some] at h
  exact Awp.of (by kernel_rfl) h

theorem impl_fillYields_n4_l (n : Nat) (x1632 : List Int) (x1633 : Int) (x1819 : Int) (x1822 : Int) (x1634 : List Int) (x1821 : List Int) : Link (impl_fillYields_ctx n) LL (Code.fst (Code.snd (Code.fst (Code.snd (Code.snd (bodyOf Tryd.f71)))))) (Ann.fst (Ann.snd (Ann.fst (Ann.snd (Ann.snd impl_fillYields_an))))) (⟨mkE 34 0 [(0, .slc 0), (1, .dat (.list (.int .i64)) x1632), (2, .dat (.int .i64) x1633), (7, .dat (.int .u64) x1819), (15, .slc 1), (16, .dat (.int .i64) x1822), (17, .dat (.int .i64) 0)], [some (.seq (.int .u64) x1634), some (.seq (.int .i64) x1821)]⟩ : St) (impl_fillYields_n4 (impl_fillYields_fuel n) x1632 x1819 x1822 x1634 x1821) (fun (t : Int × (List Int)) => ((Exit.exit 0), (⟨mkE 34 0 [(0, .slc 0), (2, .dat (.int .i64) x1633), (7, .dat (.int .u64) t.1)], [some (.seq (.int .u64) t.2)]⟩ : St))) := by
  unfold impl_fillYields_n4
  exact Link.cast (by kernel_rfl) (by kernel_rfl) (link_loop (mk := fun (s : Int × Int × (List Int)) => (⟨mkE 34 0 [(0, .slc 0), (1, .dat (.list (.int .i64)) x1632), (2, .dat (.int .i64) x1633), (7, .dat (.int .u64) s.1), (15, .slc 1), (16, .dat (.int .i64) x1822), (17, .dat (.int .i64) s.2.1)], [some (.seq (.int .u64) s.2.2), some (.seq (.int .i64) x1821)]⟩ : St)) (fin := (fun (t : Int × (List Int)) => ((Exit.exit 0), (⟨mkE 34 0 [(0, .slc 0), (2, .dat (.int .i64) x1633), (7, .dat (.int .u64) t.1)], [some (.seq (.int .u64) t.2)]⟩ : St)))) (by
  rintro t f K h
  · exact h) (fun s => link_map (impl_fillYields_n3_l n x1632 x1633 s.1 x1822 s.2.1 s.2.2 x1821) (Sum.elim (fun (t : Int × Int × (List Int)) => Sum.inl (t.1, t.2.1, t.2.2)) (fun (t : Int × (List Int)) => Sum.inr t)) (by
  rintro (t | t)
  · kernel_rfl
  · kernel_rfl)) (x1819, 0, x1634))

theorem impl_fillYields_n5_l (n : Nat) (x1632 : List Int) (x1633 : Int) (x1819 : Int) (x1822 : Int) (x1634 : List Int) (x1821 : List Int) : Link (impl_fillYields_ctx n) LL (Code.snd (Code.fst (Code.snd (Code.snd (bodyOf Tryd.f71))))) (Ann.snd (Ann.fst (Ann.snd (Ann.snd impl_fillYields_an)))) (⟨mkE 34 0 [(0, .slc 0), (1, .dat (.list (.int .i64)) x1632), (2, .dat (.int .i64) x1633), (7, .dat (.int .u64) x1819), (15, .slc 1), (16, .dat (.int .i64) x1822), (17, .dat (.int .i64) 0)], [some (.seq (.int .u64) x1634), some (.seq (.int .i64) x1821)]⟩ : St) (impl_fillYields_n5 (impl_fillYields_fuel n) x1632 x1819 x1822 x1634 x1821) (fun (t : Int × (List Int)) => (Exit.normal, (⟨mkE 34 0 [(0, .slc 0), (2, .dat (.int .i64) x1633), (7, .dat (.int .u64) t.1)], [some (.seq (.int .u64) t.2)]⟩ : St))) := by
  unfold impl_fillYields_n5
  exact Link.cast (by kernel_rfl) (by kernel_rfl) (link_block (id := 0) (impl_fillYields_n4_l n x1632 x1633 x1819 x1822 x1634 x1821) (fun (t : Int × (List Int)) => (t.1, t.2)) (by
  rintro t K h
  · exact Eq.mp (by kernel_rfl) h))

theorem impl_fillYields_n6_l (n : Nat) (x1632 : List Int) (x1633 : Int) (x1819 : Int) (x1634 : List Int) : Link (impl_fillYields_ctx n) LL (Code.fst (Code.snd (Code.snd (bodyOf Tryd.f71)))) (Ann.fst (Ann.snd (Ann.snd impl_fillYields_an))) (⟨mkE 34 0 [(0, .slc 0), (1, .dat (.list (.int .i64)) x1632), (2, .dat (.int .i64) x1633), (7, .dat (.int .u64) x1819)], [some (.seq (.int .u64) x1634)]⟩ : St) (impl_fillYields_n6 (impl_fillYields_fuel n) x1632 x1633 x1819 x1634) (fun (t : Int × (List Int)) => (Exit.normal, (⟨mkE 34 0 [(0, .slc 0), (2, .dat (.int .i64) x1633), (7, .dat (.int .u64) t.1)], [some (.seq (.int .u64) t.2)]⟩ : St))) := by
  unfold impl_fillYields_n6
  exact Link.cast (by kernel_rfl) (by kernel_rfl) (link_seq (b := (Code.snd (Code.fst (Code.snd (Code.snd (bodyOf Tryd.f71)))))) (y := (Ann.snd (Ann.fst (Ann.snd (Ann.snd impl_fillYields_an))))) (impl_fillYields_n2_l n x1632 x1633 x1819 x1634) (fun (t : Int × (List Int)) => (impl_fillYields_n5_l n x1632 x1633 x1819 t.1 x1634 t.2)))

theorem impl_fillYields_n7_l (n : Nat) (x1633 : Int) (x1840 : Int) (x1842 : List Int) : Link (impl_fillYields_ctx n) LL (Code.snd (Code.snd (Code.snd (bodyOf Tryd.f71)))) (Ann.snd (Ann.snd (Ann.snd impl_fillYields_an))) (⟨mkE 34 0 [(0, .slc 0), (2, .dat (.int .i64) x1633), (7, .dat (.int .u64) x1840)], [some (.seq (.int .u64) x1842)]⟩ : St) (impl_fillYields_n7 (impl_fillYields_fuel n) x1633 x1840 x1842) (fun (t : Int × (List Int)) => (Exit.ret, (⟨mkE 34 0 [(6, .dat (.int .u64) t.1)], [some (.seq (.int .u64) t.2)]⟩ : St))) := by
  refine Link.of fun K h => ?_
  simp only [impl_fillYields_n7, wpO_bind, wpO_cond, wpO_map, wpO_some] at h
  exact Awp.of (by kernel_rfl) h

theorem impl_fillYields_n8_l (n : Nat) (x1632 : List Int) (x1633 : Int) (x1819 : Int) (x1634 : List Int) : Link (impl_fillYields_ctx n) LL (Code.snd (Code.snd (bodyOf Tryd.f71))) (Ann.snd (Ann.snd impl_fillYields_an)) (⟨mkE 34 0 [(0, .slc 0), (1, .dat (.list (.int .i64)) x1632), (2, .dat (.int .i64) x1633), (7, .dat (.int .u64) x1819)], [some (.seq (.int .u64) x1634)]⟩ : St) (impl_fillYields_n8 (impl_fillYields_fuel n) x1632 x1633 x1819 x1634) (fun (t : Int × (List Int)) => (Exit.ret, (⟨mkE 34 0 [(6, .dat (.int .u64) t.1)], [some (.seq (.int .u64) t.2)]⟩ : St))) := by
  unfold impl_fillYields_n8
  exact Link.cast (by kernel_rfl) (by kernel_rfl) (link_seq (b := (Code.snd (Code.snd (Code.snd (bodyOf Tryd.f71))))) (y := (Ann.snd (Ann.snd (Ann.snd impl_fillYields_an)))) (impl_fillYields_n6_l n x1632 x1633 x1819 x1634) (fun (t : Int × (List Int)) => (impl_fillYields_n7_l n x1633 t.1 t.2)))

theorem impl_fillYields_n9_l (n : Nat) (x1632 : List Int) (x1633 : Int) (x1634 : List Int) : Link (impl_fillYields_ctx n) LL (bodyOf Tryd.f71) impl_fillYields_an (⟨mkE 34 0 [(0, .slc 0), (1, .dat (.list (.int .i64)) x1632), (2, .dat (.int .i64) x1633)], [some (.seq (.int .u64) x1634)]⟩ : St) (impl_fillYields_n9 (impl_fillYields_fuel n) x1632 x1633 x1634) (fun (t : Int × (List Int)) => (Exit.ret, (⟨mkE 34 0 [(6, .dat (.int .u64) t.1)], [some (.seq (.int .u64) t.2)]⟩ : St))) := by
  unfold impl_fillYields_n9
  exact Link.cast (by kernel_rfl) (by kernel_rfl) (link_group (c := (Code.fst (Code.snd (bodyOf Tryd.f71)))) (a := (Ann.fst (Ann.snd impl_fillYields_an))) [(Code.fst (bodyOf Tryd.f71))] [(Ann.fst impl_fillYields_an)] rfl (link_seq (b := (Code.snd (Code.snd (bodyOf Tryd.f71)))) (y := (Ann.snd (Ann.snd impl_fillYields_an))) (impl_fillYields_n1_l n x1632 x1633 x1634) (fun (t : Int) => (impl_fillYields_n8_l n x1632 x1633 t x1634))))

theorem impl_fillYields_e (n : Nat) (x1632 : List Int) (x1633 : Int) (x1634 : List Int) {r : AV} {H' : Heap} (h : (Ans.mk _ (impl_fillYields_fuel (n + 1) x1632 x1633 x1634) (fun (t : Int × (List Int)) => (.dat (.int .u64) t.1, [some (.seq (.int .u64) t.2)]))).run = some (r, H')) : Awp (impl_fillYields_ctx n) LL (bodyOf Tryd.f71) impl_fillYields_an (⟨mkE 34 0 [(0, .slc 0), (1, .dat (.list (.int .i64)) x1632), (2, .dat (.int .i64) x1633)], [some (.seq (.int .u64) x1634)]⟩ : St) (Ret (tlook tys) Tryd.f71.results.toList r H') :=
  ret_of' (impl_fillYields_n9_l n x1632 x1633 x1634) (by (show _ = _); kernel_rfl) (by
  intro t
  exact ret_mk [.dat (.int .u64) t.1] (by kernel_rfl) (by kernel_rfl) (by kernel_rfl) (by kernel_rfl)) h

theorem impl_fillYields_step (n : Nat) (h71 : Sound Tryd.prog 71 (F_impl_fillYields_fuel n)) : Sound Tryd.prog 71 (F_impl_fillYields_fuel (n + 1)) := by
  refine fn_sound' (C := impl_fillYields_ctx n) (c := bodyOf Tryd.f71) (cok_of tys_ok (List.forall_mem_cons.2 ⟨impl_only_sound, List.forall_mem_cons.2 ⟨impl_dependents_sound, List.forall_mem_cons.2 ⟨impl_wordSet_list_sound, List.forall_mem_cons.2 ⟨h71, by simp⟩⟩⟩⟩) (List.forall_mem_cons.2 ⟨Tryd.call62, List.forall_mem_cons.2 ⟨Tryd.call48, List.forall_mem_cons.2 ⟨Tryd.call49, List.forall_mem_cons.2 ⟨Tryd.call71, by simp⟩⟩⟩⟩) (by kernel_rfl)) Tryd.func71 (by kernel_rfl) LL impl_fillYields_an ?_
  intro avs H r H' h
  unfold F_impl_fillYields_fuel at h
  split at h
  · refine Awp.cast ?_ ?_ ?_ (impl_fillYields_e n _ _ _ h) <;> kernel_rfl
  · simp [Ans.no, Ans.run] at h

theorem impl_fillYields_null : Sound Tryd.prog 71 (F_impl_fillYields_fuel 0) := by
  intro avs H r H' h
  unfold F_impl_fillYields_fuel at h
  split at h
  · simp [impl_fillYields_fuel, impl_fillYields_knot, Ans.run] at h
  · simp [Ans.no, Ans.run] at h

theorem impl_fillYields_knot_all : ∀ n, Sound Tryd.prog 71 (F_impl_fillYields_fuel n)
  | 0 => impl_fillYields_null
  | n + 1 => by
    have h71 := impl_fillYields_knot_all n
    exact impl_fillYields_step n h71

def F_impl_fillYields : Fun := fun avs H =>
  match avs, H with
  | [.slc 0, .dat (.list (.int .i64)) x1632, .dat (.int .i64) x1633], [some (.seq (.int .u64) x1634)] => ⟨_, impl_fillYields x1632 x1633 x1634, fun (t : Int × (List Int)) => (.dat (.int .u64) t.1, [some (.seq (.int .u64) t.2)])⟩
  | _, _ => Ans.no

theorem impl_fillYields_sound : Sound Tryd.prog 71 F_impl_fillYields := by
  have e : F_impl_fillYields = F_impl_fillYields_fuel RR := by
    funext avs H
    unfold F_impl_fillYields F_impl_fillYields_fuel
    split <;> first | rfl | (simp only [impl_fillYields])
  rw [e]
  exact (impl_fillYields_knot_all RR)


/-! loop.example/headtrees/impl.yieldsOf -/

def impl_yieldsOf_an : Ann := (.seq (.leaf [0]) (.seq (.leaf [0, 3]) (.seq (.leaf [3]) (.seq (.leaf [2]) (.leaf [2])))))

noncomputable def impl_yieldsOf_ctx : Ctx := ⟨tlook tys, olook [(16, F_impl_RootOf), (71, F_impl_fillYields)], ioF, 0, false⟩

theorem impl_yieldsOf_n1_l (x1600 : List Int) : Link impl_yieldsOf_ctx LL (bodyOf Tryd.f43) impl_yieldsOf_an (⟨mkE 13 0 [(0, .dat (.list (.int .i64)) x1600)], []⟩ : St) (impl_yieldsOf_n1 x1600) (fun (t : (List Int)) => (Exit.ret, (⟨mkE 13 0 [(2, .slc 0)], [some (.seq (.int .u64) t)]⟩ : St))) := by
  refine Link.of fun K h => ?_
  simp only [impl_yieldsOf_n1, wpO_bind, wpO_cond, wpO_map, wpO_some] at h
  exact Awp.of (by kernel_rfl) h

theorem impl_yieldsOf_e (x1600 : List Int) {r : AV} {H' : Heap} (h : (Ans.mk _ (impl_yieldsOf x1600) (fun (t : (List Int)) => (.slc 0, [some (.seq (.int .u64) t)]))).run = some (r, H')) : Awp impl_yieldsOf_ctx LL (bodyOf Tryd.f43) impl_yieldsOf_an (⟨mkE 13 0 [(0, .dat (.list (.int .i64)) x1600)], []⟩ : St) (Ret (tlook tys) Tryd.f43.results.toList r H') :=
  ret_of' (impl_yieldsOf_n1_l x1600) (by unfold impl_yieldsOf; kernel_rfl) (by
  intro t
  exact ret_mk [.slc 0] (by kernel_rfl) (by kernel_rfl) (by kernel_rfl) (by kernel_rfl)) h

def F_impl_yieldsOf : Fun := fun avs H =>
  match avs, H with
  | [.dat (.list (.int .i64)) x1600], [] => ⟨_, impl_yieldsOf x1600, fun (t : (List Int)) => (.slc 0, [some (.seq (.int .u64) t)])⟩
  | _, _ => Ans.no

theorem impl_yieldsOf_sound : Sound Tryd.prog 43 F_impl_yieldsOf := by
  refine fn_sound' (C := impl_yieldsOf_ctx) (c := bodyOf Tryd.f43) (cok_of tys_ok (List.forall_mem_cons.2 ⟨impl_RootOf_sound, List.forall_mem_cons.2 ⟨impl_fillYields_sound, by simp⟩⟩) (List.forall_mem_cons.2 ⟨Tryd.call16, List.forall_mem_cons.2 ⟨Tryd.call71, by simp⟩⟩) (by kernel_rfl)) Tryd.func43 (by kernel_rfl) LL impl_yieldsOf_an ?_
  intro avs H r H' h
  unfold F_impl_yieldsOf at h
  split at h
  · refine Awp.cast ?_ ?_ ?_ (impl_yieldsOf_e _ h) <;> kernel_rfl
  · simp [Ans.no, Ans.run] at h


/-! (loop.example/headtrees/impl.wordSet).begins -/

def impl_wordSet_begins_an : Ann := (.seq (.leaf [0]) (.seq (.leaf [2]) (.leaf [2])))

noncomputable def impl_wordSet_begins_ctx : Ctx := ⟨tlook tys, olook [], ioF, 0, false⟩

theorem impl_wordSet_begins_n1_l (x1891 : Int) : Link impl_wordSet_begins_ctx LL (bodyOf Tryd.f65) impl_wordSet_begins_an (⟨mkE 7 0 [(0, .dat (.int .u64) x1891)], []⟩ : St) (impl_wordSet_begins_n1 x1891) (fun (t : Int) => (Exit.ret, (⟨mkE 7 0 [(2, .dat (.int .u64) t)], []⟩ : St))) := by
  refine Link.of fun K h => ?_
  simp only [impl_wordSet_begins_n1, wpO_bind, wpO_cond, wpO_map, wpO_some] at h
  exact Awp.of (by kernel_rfl) h

theorem impl_wordSet_begins_e (x1891 : Int) {r : AV} {H' : Heap} (h : (Ans.mk _ (impl_wordSet_begins x1891) (fun (t : Int) => (.dat (.int .u64) t, []))).run = some (r, H')) : Awp impl_wordSet_begins_ctx LL (bodyOf Tryd.f65) impl_wordSet_begins_an (⟨mkE 7 0 [(0, .dat (.int .u64) x1891)], []⟩ : St) (Ret (tlook tys) Tryd.f65.results.toList r H') :=
  ret_of' (impl_wordSet_begins_n1_l x1891) (by unfold impl_wordSet_begins; kernel_rfl) (by
  intro t
  exact ret_mk [.dat (.int .u64) t] (by kernel_rfl) (by kernel_rfl) (by kernel_rfl) (by kernel_rfl)) h

def F_impl_wordSet_begins : Fun := fun avs H =>
  match avs, H with
  | [.dat (.int .u64) x1891], [] => ⟨_, impl_wordSet_begins x1891, fun (t : Int) => (.dat (.int .u64) t, [])⟩
  | _, _ => Ans.no

theorem impl_wordSet_begins_sound : Sound Tryd.prog 65 F_impl_wordSet_begins := by
  refine fn_sound' (C := impl_wordSet_begins_ctx) (c := bodyOf Tryd.f65) (cok_of tys_ok (by simp) (by simp) (by kernel_rfl)) Tryd.func65 (by kernel_rfl) LL impl_wordSet_begins_an ?_
  intro avs H r H' h
  unfold F_impl_wordSet_begins at h
  split at h
  · refine Awp.cast ?_ ?_ ?_ (impl_wordSet_begins_e _ h) <;> kernel_rfl
  · simp [Ans.no, Ans.run] at h


/-! (loop.example/headtrees/impl.wordSet).gaps -/

def impl_wordSet_gaps_an : Ann := (.seq (.leaf [0]) (.seq (.leaf [2]) (.leaf [2])))

noncomputable def impl_wordSet_gaps_ctx : Ctx := ⟨tlook tys, olook [(65, F_impl_wordSet_begins), (72, F_impl_wordSet_count)], ioF, 0, false⟩

theorem impl_wordSet_gaps_n1_l (x1890 : Int) : Link impl_wordSet_gaps_ctx LL (bodyOf Tryd.f44) impl_wordSet_gaps_an (⟨mkE 7 0 [(0, .dat (.int .u64) x1890)], []⟩ : St) (impl_wordSet_gaps_n1 x1890) (fun (t : Int) => (Exit.ret, (⟨mkE 7 0 [(2, .dat (.int .i64) t)], []⟩ : St))) := by
  refine Link.of fun K h => ?_
  simp only [impl_wordSet_gaps_n1, wpO_bind, wpO_cond, wpO_map, wpO_some] at h
  exact Awp.of (by kernel_rfl) h

theorem impl_wordSet_gaps_e (x1890 : Int) {r : AV} {H' : Heap} (h : (Ans.mk _ (impl_wordSet_gaps x1890) (fun (t : Int) => (.dat (.int .i64) t, []))).run = some (r, H')) : Awp impl_wordSet_gaps_ctx LL (bodyOf Tryd.f44) impl_wordSet_gaps_an (⟨mkE 7 0 [(0, .dat (.int .u64) x1890)], []⟩ : St) (Ret (tlook tys) Tryd.f44.results.toList r H') :=
  ret_of' (impl_wordSet_gaps_n1_l x1890) (by unfold impl_wordSet_gaps; kernel_rfl) (by
  intro t
  exact ret_mk [.dat (.int .i64) t] (by kernel_rfl) (by kernel_rfl) (by kernel_rfl) (by kernel_rfl)) h

def F_impl_wordSet_gaps : Fun := fun avs H =>
  match avs, H with
  | [.dat (.int .u64) x1890], [] => ⟨_, impl_wordSet_gaps x1890, fun (t : Int) => (.dat (.int .i64) t, [])⟩
  | _, _ => Ans.no

theorem impl_wordSet_gaps_sound : Sound Tryd.prog 44 F_impl_wordSet_gaps := by
  refine fn_sound' (C := impl_wordSet_gaps_ctx) (c := bodyOf Tryd.f44) (cok_of tys_ok (List.forall_mem_cons.2 ⟨impl_wordSet_begins_sound, List.forall_mem_cons.2 ⟨impl_wordSet_count_sound, by simp⟩⟩) (List.forall_mem_cons.2 ⟨Tryd.call65, List.forall_mem_cons.2 ⟨Tryd.call72, by simp⟩⟩) (by kernel_rfl)) Tryd.func44 (by kernel_rfl) LL impl_wordSet_gaps_an ?_
  intro avs H r H' h
  unfold F_impl_wordSet_gaps at h
  split at h
  · refine Awp.cast ?_ ?_ ?_ (impl_wordSet_gaps_e _ h) <;> kernel_rfl
  · simp [Ans.no, Ans.run] at h


/-! loop.example/headtrees/impl.GapsOf -/

def impl_GapsOf_an : Ann := (.seq (.leaf [0, 1]) (.seq (.seq (.leaf [0, 1, 8]) (.cond (.seq (.leaf [4]) (.leaf [4])) (.leaf [0, 1]))) (.seq (.leaf [4]) (.leaf [4]))))

noncomputable def impl_GapsOf_ctx : Ctx := ⟨tlook tys, olook [(42, F_impl_wordOk), (43, F_impl_yieldsOf), (44, F_impl_wordSet_gaps)], ioF, 0, false⟩

theorem impl_GapsOf_n1_l (x1444 : List Int) (x1445 : Int) : Link impl_GapsOf_ctx LL (bodyOf Tryd.f12) impl_GapsOf_an (⟨mkE 16 0 [(0, .dat (.list (.int .i64)) x1444), (1, .dat (.int .i64) x1445)], []⟩ : St) (impl_GapsOf_n1 x1444 x1445) (fun (t : Int) => (Exit.ret, (⟨mkE 16 0 [(4, .dat (.int .i64) t)], []⟩ : St))) := by
  refine Link.of fun K h => ?_
  simp only [impl_GapsOf_n1, wpO_bind, wpO_cond, wpO_map, wpO_some] at h
  exact Awp.of (by kernel_rfl) h

theorem impl_GapsOf_e (x1444 : List Int) (x1445 : Int) {r : AV} {H' : Heap} (h : (Ans.mk _ (impl_GapsOf x1444 x1445) (fun (t : Int) => (.dat (.int .i64) t, []))).run = some (r, H')) : Awp impl_GapsOf_ctx LL (bodyOf Tryd.f12) impl_GapsOf_an (⟨mkE 16 0 [(0, .dat (.list (.int .i64)) x1444), (1, .dat (.int .i64) x1445)], []⟩ : St) (Ret (tlook tys) Tryd.f12.results.toList r H') :=
  ret_of' (impl_GapsOf_n1_l x1444 x1445) (by unfold impl_GapsOf; kernel_rfl) (by
  intro t
  exact ret_mk [.dat (.int .i64) t] (by kernel_rfl) (by kernel_rfl) (by kernel_rfl) (by kernel_rfl)) h

def F_impl_GapsOf : Fun := fun avs H =>
  match avs, H with
  | [.dat (.list (.int .i64)) x1444, .dat (.int .i64) x1445], [] => ⟨_, impl_GapsOf x1444 x1445, fun (t : Int) => (.dat (.int .i64) t, [])⟩
  | _, _ => Ans.no

theorem impl_GapsOf_sound : Sound Tryd.prog 12 F_impl_GapsOf := by
  refine fn_sound' (C := impl_GapsOf_ctx) (c := bodyOf Tryd.f12) (cok_of tys_ok (List.forall_mem_cons.2 ⟨impl_wordOk_sound, List.forall_mem_cons.2 ⟨impl_yieldsOf_sound, List.forall_mem_cons.2 ⟨impl_wordSet_gaps_sound, by simp⟩⟩⟩) (List.forall_mem_cons.2 ⟨Tryd.call42, List.forall_mem_cons.2 ⟨Tryd.call43, List.forall_mem_cons.2 ⟨Tryd.call44, by simp⟩⟩⟩) (by kernel_rfl)) Tryd.func12 (by kernel_rfl) LL impl_GapsOf_an ?_
  intro avs H r H' h
  unfold F_impl_GapsOf at h
  split at h
  · refine Awp.cast ?_ ?_ ?_ (impl_GapsOf_e _ _ h) <;> kernel_rfl
  · simp [Ans.no, Ans.run] at h


/-! loop.example/headtrees/spec.l2Yield -/

def spec_l2Yield_an : Ann := (.seq (.leaf [0, 1]) (.seq (.leaf [0, 1, 5]) (.seq (.seq (.leaf [0, 1, 5, 6]) (.block (.loop (.seq (.seq (.leaf [0, 1, 5, 6, 13]) (.cond (.leaf [0, 1, 5, 6]) (.leaf [5]))) (.seq (.block (.seq (.leaf [0, 1, 5, 6, 21]) (.cond (.leaf [0, 1, 5, 6]) (.leaf [0, 1, 5, 6])))) (.leaf [0, 1, 5, 6])))))) (.seq (.leaf [4]) (.leaf [4])))))

def F_spec_l2Yield_fuel (n : Nat) : Fun := fun avs H =>
  match avs, H with
  | [.dat (.list (.int .i64)) x1930, .dat (.int .i64) x1931], [] => ⟨_, spec_l2Yield_fuel n x1930 x1931, fun (t : Int) => (.dat (.int .i64) t, [])⟩
  | _, _ => Ans.no

noncomputable def spec_l2Yield_ctx (n : Nat) : Ctx := ⟨tlook tys, olook [(47, F_spec_l2Yield_fuel n)], ioF, 0, false⟩

theorem spec_l2Yield_n1_l (n : Nat) (x1930 : List Int) (x1931 : Int) : Link (spec_l2Yield_ctx n) LL (Code.seq (Code.fst (bodyOf Tryd.f47)) (Code.fst (Code.snd (bodyOf Tryd.f47)))) (Ann.seq (Ann.fst spec_l2Yield_an) (Ann.fst (Ann.snd spec_l2Yield_an))) (⟨mkE 29 0 [(0, .dat (.list (.int .i64)) x1930), (1, .dat (.int .i64) x1931)], []⟩ : St) (spec_l2Yield_n1 (spec_l2Yield_fuel n) x1931) (fun (t : Int) => (Exit.normal, (⟨mkE 29 0 [(0, .dat (.list (.int .i64)) x1930), (1, .dat (.int .i64) x1931), (5, .dat (.int .i64) t)], []⟩ : St))) := by
  refine Link.of fun K h => ?_
  simp only [spec_l2Yield_n1, wpO_bind, wpO_cond, wpO_map, wpO_some] at h
  exact Awp.of (by kernel_rfl) h

theorem spec_l2Yield_n2_l (n : Nat) (x1930 : List Int) (x1931 : Int) (x1962 : Int) : Link (spec_l2Yield_ctx n) LL (Code.fst (Code.fst (Code.snd (Code.snd (bodyOf Tryd.f47))))) (Ann.fst (Ann.fst (Ann.snd (Ann.snd spec_l2Yield_an)))) (⟨mkE 29 0 [(0, .dat (.list (.int .i64)) x1930), (1, .dat (.int .i64) x1931), (5, .dat (.int .i64) x1962)], []⟩ : St) (spec_l2Yield_n2 (spec_l2Yield_fuel n)) (fun (t : Unit) => (Exit.normal, (⟨mkE 29 0 [(0, .dat (.list (.int .i64)) x1930), (1, .dat (.int .i64) x1931), (5, .dat (.int .i64) x1962), (6, .dat (.int .i64) 0)], []⟩ : St))) := by
  refine Link.of fun K h => ?_
  simp only [spec_l2Yield_n2, wpO_bind, wpO_cond, wpO_map, wpO_some] at h
  exact Awp.of (by kernel_rfl) h

theorem spec_l2Yield_n3_l (n : Nat) (x1930 : List Int) (x1931 : Int) (x1983 : Int) (x1984 : Int) : Link (spec_l2Yield_ctx n) LL (Code.fst (Code.fst (Code.snd (Code.fst (Code.snd (Code.snd (bodyOf Tryd.f47))))))) (Ann.fst (Ann.fst (Ann.snd (Ann.fst (Ann.snd (Ann.snd spec_l2Yield_an)))))) (⟨mkE 29 0 [(0, .dat (.list (.int .i64)) x1930), (1, .dat (.int .i64) x1931), (5, .dat (.int .i64) x1983), (6, .dat (.int .i64) x1984)], []⟩ : St) (spec_l2Yield_n3 (spec_l2Yield_fuel n) x1930 x1931 x1983 x1984) (Sum.elim (fun (t : Int × Int) => (Exit.normal, (⟨mkE 29 0 [(0, .dat (.list (.int .i64)) x1930), (1, .dat (.int .i64) x1931), (5, .dat (.int .i64) t.1), (6, .dat (.int .i64) t.2)], []⟩ : St))) (fun (t : Int) => ((Exit.exit 0), (⟨mkE 29 0 [(5, .dat (.int .i64) t)], []⟩ : St)))) := by
  refine Link.of fun K h => ?_
  simp only [spec_l2Yield_n3, wpO_bind, wpO_cond, wpO_map, wpO_some] at h
  exact Awp.of (by kernel_rfl) h

theorem spec_l2Yield_n4_l (n : Nat) (x1930 : List Int) (x1931 : Int) (x1962 : Int) : Link (spec_l2Yield_ctx n) LL (Code.fst (Code.snd (Code.fst (Code.snd (Code.snd (bodyOf Tryd.f47)))))) (Ann.fst (Ann.snd (Ann.fst (Ann.snd (Ann.snd spec_l2Yield_an))))) (⟨mkE 29 0 [(0, .dat (.list (.int .i64)) x1930), (1, .dat (.int .i64) x1931), (5, .dat (.int .i64) x1962), (6, .dat (.int .i64) 0)], []⟩ : St) (spec_l2Yield_n4 (spec_l2Yield_fuel n) x1930 x1931 x1962) (fun (t : Int) => ((Exit.exit 0), (⟨mkE 29 0 [(5, .dat (.int .i64) t)], []⟩ : St))) := by
  unfold spec_l2Yield_n4
  exact Link.cast (by kernel_rfl) (by kernel_rfl) (link_loop (mk := fun (s : Int × Int) => (⟨mkE 29 0 [(0, .dat (.list (.int .i64)) x1930), (1, .dat (.int .i64) x1931), (5, .dat (.int .i64) s.1), (6, .dat (.int .i64) s.2)], []⟩ : St)) (fin := (fun (t : Int) => ((Exit.exit 0), (⟨mkE 29 0 [(5, .dat (.int .i64) t)], []⟩ : St)))) (by
  rintro t f K h
  · exact h) (fun s => link_map (spec_l2Yield_n3_l n x1930 x1931 s.1 s.2) (Sum.elim (fun (t : Int × Int) => Sum.inl (t.1, t.2)) (fun (t : Int) => Sum.inr t)) (by
  rintro (t | t)
  · kernel_rfl
  · kernel_rfl)) (x1962, 0))

theorem spec_l2Yield_n5_l (n : Nat) (x1930 : List Int) (x1931 : Int) (x1962 : Int) : Link (spec_l2Yield_ctx n) LL (Code.snd (Code.fst (Code.snd (Code.snd (bodyOf Tryd.f47))))) (Ann.snd (Ann.fst (Ann.snd (Ann.snd spec_l2Yield_an)))) (⟨mkE 29 0 [(0, .dat (.list (.int .i64)) x1930), (1, .dat (.int .i64) x1931), (5, .dat (.int .i64) x1962), (6, .dat (.int .i64) 0)], []⟩ : St) (spec_l2Yield_n5 (spec_l2Yield_fuel n) x1930 x1931 x1962) (fun (t : Int) => (Exit.normal, (⟨mkE 29 0 [(5, .dat (.int .i64) t)], []⟩ : St))) := by
  unfold spec_l2Yield_n5
  exact Link.cast (by kernel_rfl) (by kernel_rfl) (link_block (id := 0) (spec_l2Yield_n4_l n x1930 x1931 x1962) (fun (t : Int) => t) (by
  rintro t K h
  · exact Eq.mp (by kernel_rfl) h))

theorem spec_l2Yield_n6_l (n : Nat) (x1930 : List Int) (x1931 : Int) (x1962 : Int) : Link (spec_l2Yield_ctx n) LL (Code.fst (Code.snd (Code.snd (bodyOf Tryd.f47)))) (Ann.fst (Ann.snd (Ann.snd spec_l2Yield_an))) (⟨mkE 29 0 [(0, .dat (.list (.int .i64)) x1930), (1, .dat (.int .i64) x1931), (5, .dat (.int .i64) x1962)], []⟩ : St) (spec_l2Yield_n6 (spec_l2Yield_fuel n) x1930 x1931 x1962) (fun (t : Int) => (Exit.normal, (⟨mkE 29 0 [(5, .dat (.int .i64) t)], []⟩ : St))) := by
  unfold spec_l2Yield_n6
  exact Link.cast (by kernel_rfl) (by kernel_rfl) (link_seq (b := (Code.snd (Code.fst (Code.snd (Code.snd (bodyOf Tryd.f47)))))) (y := (Ann.snd (Ann.fst (Ann.snd (Ann.snd spec_l2Yield_an))))) (spec_l2Yield_n2_l n x1930 x1931 x1962) (fun (t : Unit) => (spec_l2Yield_n5_l n x1930 x1931 x1962)))

theorem spec_l2Yield_n7_l (n : Nat) (x1983 : Int) : Link (spec_l2Yield_ctx n) LL (Code.snd (Code.snd (Code.snd (bodyOf Tryd.f47)))) (Ann.snd (Ann.snd (Ann.snd spec_l2Yield_an))) (⟨mkE 29 0 [(5, .dat (.int .i64) x1983)], []⟩ : St) (spec_l2Yield_n7 (spec_l2Yield_fuel n) x1983) (fun (t : Int) => (Exit.ret, (⟨mkE 29 0 [(4, .dat (.int .i64) t)], []⟩ : St))) := by
  refine Link.of fun K h => ?_
  simp only [spec_l2Yield_n7, wpO_bind, wpO_cond, wpO_map, wpO_some] at h
  exact Awp.of (by kernel_rfl) h

theorem spec_l2Yield_n8_l (n : Nat) (x1930 : List Int) (x1931 : Int) (x1962 : Int) : Link (spec_l2Yield_ctx n) LL (Code.snd (Code.snd (bodyOf Tryd.f47))) (Ann.snd (Ann.snd spec_l2Yield_an)) (⟨mkE 29 0 [(0, .dat (.list (.int .i64)) x1930), (1, .dat (.int .i64) x1931), (5, .dat (.int .i64) x1962)], []⟩ : St) (spec_l2Yield_n8 (spec_l2Yield_fuel n) x1930 x1931 x1962) (fun (t : Int) => (Exit.ret, (⟨mkE 29 0 [(4, .dat (.int .i64) t)], []⟩ : St))) := by
  unfold spec_l2Yield_n8
  exact Link.cast (by kernel_rfl) (by kernel_rfl) (link_seq (b := (Code.snd (Code.snd (Code.snd (bodyOf Tryd.f47))))) (y := (Ann.snd (Ann.snd (Ann.snd spec_l2Yield_an)))) (spec_l2Yield_n6_l n x1930 x1931 x1962) (fun (t : Int) => (spec_l2Yield_n7_l n t)))

theorem spec_l2Yield_n9_l (n : Nat) (x1930 : List Int) (x1931 : Int) : Link (spec_l2Yield_ctx n) LL (bodyOf Tryd.f47) spec_l2Yield_an (⟨mkE 29 0 [(0, .dat (.list (.int .i64)) x1930), (1, .dat (.int .i64) x1931)], []⟩ : St) (spec_l2Yield_n9 (spec_l2Yield_fuel n) x1930 x1931) (fun (t : Int) => (Exit.ret, (⟨mkE 29 0 [(4, .dat (.int .i64) t)], []⟩ : St))) := by
  unfold spec_l2Yield_n9
  exact Link.cast (by kernel_rfl) (by kernel_rfl) (link_group (c := (Code.fst (Code.snd (bodyOf Tryd.f47)))) (a := (Ann.fst (Ann.snd spec_l2Yield_an))) [(Code.fst (bodyOf Tryd.f47))] [(Ann.fst spec_l2Yield_an)] rfl (link_seq (b := (Code.snd (Code.snd (bodyOf Tryd.f47)))) (y := (Ann.snd (Ann.snd spec_l2Yield_an))) (spec_l2Yield_n1_l n x1930 x1931) (fun (t : Int) => (spec_l2Yield_n8_l n x1930 x1931 t))))

theorem spec_l2Yield_e (n : Nat) (x1930 : List Int) (x1931 : Int) {r : AV} {H' : Heap} (h : (Ans.mk _ (spec_l2Yield_fuel (n + 1) x1930 x1931) (fun (t : Int) => (.dat (.int .i64) t, []))).run = some (r, H')) : Awp (spec_l2Yield_ctx n) LL (bodyOf Tryd.f47) spec_l2Yield_an (⟨mkE 29 0 [(0, .dat (.list (.int .i64)) x1930), (1, .dat (.int .i64) x1931)], []⟩ : St) (Ret (tlook tys) Tryd.f47.results.toList r H') :=
  ret_of' (spec_l2Yield_n9_l n x1930 x1931) (by (show _ = _); kernel_rfl) (by
  intro t
  exact ret_mk [.dat (.int .i64) t] (by kernel_rfl) (by kernel_rfl) (by kernel_rfl) (by kernel_rfl)) h

theorem spec_l2Yield_step (n : Nat) (h47 : Sound Tryd.prog 47 (F_spec_l2Yield_fuel n)) : Sound Tryd.prog 47 (F_spec_l2Yield_fuel (n + 1)) := by
  refine fn_sound' (C := spec_l2Yield_ctx n) (c := bodyOf Tryd.f47) (cok_of tys_ok (List.forall_mem_cons.2 ⟨h47, by simp⟩) (List.forall_mem_cons.2 ⟨Tryd.call47, by simp⟩) (by kernel_rfl)) Tryd.func47 (by kernel_rfl) LL spec_l2Yield_an ?_
  intro avs H r H' h
  unfold F_spec_l2Yield_fuel at h
  split at h
  · refine Awp.cast ?_ ?_ ?_ (spec_l2Yield_e n _ _ h) <;> kernel_rfl
  · simp [Ans.no, Ans.run] at h

theorem spec_l2Yield_null : Sound Tryd.prog 47 (F_spec_l2Yield_fuel 0) := by
  intro avs H r H' h
  unfold F_spec_l2Yield_fuel at h
  split at h
  · simp [spec_l2Yield_fuel, spec_l2Yield_knot, Ans.run] at h
  · simp [Ans.no, Ans.run] at h

theorem spec_l2Yield_knot_all : ∀ n, Sound Tryd.prog 47 (F_spec_l2Yield_fuel n)
  | 0 => spec_l2Yield_null
  | n + 1 => by
    have h47 := spec_l2Yield_knot_all n
    exact spec_l2Yield_step n h47

def F_spec_l2Yield : Fun := fun avs H =>
  match avs, H with
  | [.dat (.list (.int .i64)) x1930, .dat (.int .i64) x1931], [] => ⟨_, spec_l2Yield x1930 x1931, fun (t : Int) => (.dat (.int .i64) t, [])⟩
  | _, _ => Ans.no

theorem spec_l2Yield_sound : Sound Tryd.prog 47 F_spec_l2Yield := by
  have e : F_spec_l2Yield = F_spec_l2Yield_fuel RR := by
    funext avs H
    unfold F_spec_l2Yield F_spec_l2Yield_fuel
    split <;> first | rfl | (simp only [spec_l2Yield])
  rw [e]
  exact (spec_l2Yield_knot_all RR)


/-! loop.example/headtrees/spec.l5Rows -/

def spec_l5Rows_an : Ann := (.seq (.leaf [0]) (.seq (.leaf [0, 3]) (.seq (.block (.loop (.seq (.seq (.leaf [0, 3, 5]) (.cond (.leaf [0, 3]) (.leaf [3]))) (.seq (.block (.seq (.leaf [0, 3, 10]) (.cond (.leaf [0, 3]) (.leaf [0, 3])))) (.leaf [0, 3]))))) (.seq (.leaf [2]) (.leaf [2])))))

noncomputable def spec_l5Rows_ctx : Ctx := ⟨tlook tys, olook [], ioF, 0, false⟩

theorem spec_l5Rows_n1_l (x2006 : Int) : Link spec_l5Rows_ctx LL (Code.seq (Code.fst (bodyOf Tryd.f46)) (Code.fst (Code.snd (bodyOf Tryd.f46)))) (Ann.seq (Ann.fst spec_l5Rows_an) (Ann.fst (Ann.snd spec_l5Rows_an))) (⟨mkE 14 0 [(0, .dat (.int .i64) x2006)], []⟩ : St) (spec_l5Rows_n1) (fun (t : Unit) => (Exit.normal, (⟨mkE 14 0 [(0, .dat (.int .i64) x2006), (3, .dat (.int .i64) 0)], []⟩ : St))) := by
  refine Link.of fun K h => ?_
  simp only [spec_l5Rows_n1, wpO_bind, wpO_cond, wpO_map, wpO_some] at h
  exact Awp.of (by kernel_rfl) h

theorem spec_l5Rows_n2_l (x2020 : Int) (x2021 : Int) : Link spec_l5Rows_ctx LL (Code.fst (Code.fst (Code.fst (Code.snd (Code.snd (bodyOf Tryd.f46)))))) (Ann.fst (Ann.fst (Ann.fst (Ann.snd (Ann.snd spec_l5Rows_an))))) (⟨mkE 14 0 [(0, .dat (.int .i64) x2020), (3, .dat (.int .i64) x2021)], []⟩ : St) (spec_l5Rows_n2 x2020 x2021) (Sum.elim (fun (t : Int × Int) => (Exit.normal, (⟨mkE 14 0 [(0, .dat (.int .i64) t.1), (3, .dat (.int .i64) t.2)], []⟩ : St))) (fun (t : Int) => ((Exit.exit 0), (⟨mkE 14 0 [(3, .dat (.int .i64) t)], []⟩ : St)))) := by
  refine Link.of fun K h => ?_
  simp only [spec_l5Rows_n2, wpO_bind, wpO_cond, wpO_map, wpO_some] at h
  exact Awp.of (by kernel_rfl) h

theorem spec_l5Rows_n3_l (x2006 : Int) : Link spec_l5Rows_ctx LL (Code.fst (Code.fst (Code.snd (Code.snd (bodyOf Tryd.f46))))) (Ann.fst (Ann.fst (Ann.snd (Ann.snd spec_l5Rows_an)))) (⟨mkE 14 0 [(0, .dat (.int .i64) x2006), (3, .dat (.int .i64) 0)], []⟩ : St) (spec_l5Rows_n3 x2006) (fun (t : Int) => ((Exit.exit 0), (⟨mkE 14 0 [(3, .dat (.int .i64) t)], []⟩ : St))) := by
  unfold spec_l5Rows_n3
  exact Link.cast (by kernel_rfl) (by kernel_rfl) (link_loop (mk := fun (s : Int × Int) => (⟨mkE 14 0 [(0, .dat (.int .i64) s.1), (3, .dat (.int .i64) s.2)], []⟩ : St)) (fin := (fun (t : Int) => ((Exit.exit 0), (⟨mkE 14 0 [(3, .dat (.int .i64) t)], []⟩ : St)))) (by
  rintro t f K h
  · exact h) (fun s => link_map (spec_l5Rows_n2_l s.1 s.2) (Sum.elim (fun (t : Int × Int) => Sum.inl (t.1, t.2)) (fun (t : Int) => Sum.inr t)) (by
  rintro (t | t)
  · kernel_rfl
  · kernel_rfl)) (x2006, 0))

theorem spec_l5Rows_n4_l (x2006 : Int) : Link spec_l5Rows_ctx LL (Code.fst (Code.snd (Code.snd (bodyOf Tryd.f46)))) (Ann.fst (Ann.snd (Ann.snd spec_l5Rows_an))) (⟨mkE 14 0 [(0, .dat (.int .i64) x2006), (3, .dat (.int .i64) 0)], []⟩ : St) (spec_l5Rows_n4 x2006) (fun (t : Int) => (Exit.normal, (⟨mkE 14 0 [(3, .dat (.int .i64) t)], []⟩ : St))) := by
  unfold spec_l5Rows_n4
  exact Link.cast (by kernel_rfl) (by kernel_rfl) (link_block (id := 0) (spec_l5Rows_n3_l x2006) (fun (t : Int) => t) (by
  rintro t K h
  · exact Eq.mp (by kernel_rfl) h))

theorem spec_l5Rows_n5_l (x2021 : Int) : Link spec_l5Rows_ctx LL (Code.snd (Code.snd (Code.snd (bodyOf Tryd.f46)))) (Ann.snd (Ann.snd (Ann.snd spec_l5Rows_an))) (⟨mkE 14 0 [(3, .dat (.int .i64) x2021)], []⟩ : St) (spec_l5Rows_n5 x2021) (fun (t : Int) => (Exit.ret, (⟨mkE 14 0 [(2, .dat (.int .i64) t)], []⟩ : St))) := by
  refine Link.of fun K h => ?_
  simp only [spec_l5Rows_n5, wpO_bind, wpO_cond, wpO_map, wpO_some] at h
  exact Awp.of (by kernel_rfl) h

theorem spec_l5Rows_n6_l (x2006 : Int) : Link spec_l5Rows_ctx LL (Code.snd (Code.snd (bodyOf Tryd.f46))) (Ann.snd (Ann.snd spec_l5Rows_an)) (⟨mkE 14 0 [(0, .dat (.int .i64) x2006), (3, .dat (.int .i64) 0)], []⟩ : St) (spec_l5Rows_n6 x2006) (fun (t : Int) => (Exit.ret, (⟨mkE 14 0 [(2, .dat (.int .i64) t)], []⟩ : St))) := by
  unfold spec_l5Rows_n6
  exact Link.cast (by kernel_rfl) (by kernel_rfl) (link_seq (b := (Code.snd (Code.snd (Code.snd (bodyOf Tryd.f46))))) (y := (Ann.snd (Ann.snd (Ann.snd spec_l5Rows_an)))) (spec_l5Rows_n4_l x2006) (fun (t : Int) => (spec_l5Rows_n5_l t)))

theorem spec_l5Rows_n7_l (x2006 : Int) : Link spec_l5Rows_ctx LL (bodyOf Tryd.f46) spec_l5Rows_an (⟨mkE 14 0 [(0, .dat (.int .i64) x2006)], []⟩ : St) (spec_l5Rows_n7 x2006) (fun (t : Int) => (Exit.ret, (⟨mkE 14 0 [(2, .dat (.int .i64) t)], []⟩ : St))) := by
  unfold spec_l5Rows_n7
  exact Link.cast (by kernel_rfl) (by kernel_rfl) (link_group (c := (Code.fst (Code.snd (bodyOf Tryd.f46)))) (a := (Ann.fst (Ann.snd spec_l5Rows_an))) [(Code.fst (bodyOf Tryd.f46))] [(Ann.fst spec_l5Rows_an)] rfl (link_seq (b := (Code.snd (Code.snd (bodyOf Tryd.f46)))) (y := (Ann.snd (Ann.snd spec_l5Rows_an))) (spec_l5Rows_n1_l x2006) (fun (t : Unit) => (spec_l5Rows_n6_l x2006))))

theorem spec_l5Rows_e (x2006 : Int) {r : AV} {H' : Heap} (h : (Ans.mk _ (spec_l5Rows x2006) (fun (t : Int) => (.dat (.int .i64) t, []))).run = some (r, H')) : Awp spec_l5Rows_ctx LL (bodyOf Tryd.f46) spec_l5Rows_an (⟨mkE 14 0 [(0, .dat (.int .i64) x2006)], []⟩ : St) (Ret (tlook tys) Tryd.f46.results.toList r H') :=
  ret_of' (spec_l5Rows_n7_l x2006) (by unfold spec_l5Rows; kernel_rfl) (by
  intro t
  exact ret_mk [.dat (.int .i64) t] (by kernel_rfl) (by kernel_rfl) (by kernel_rfl) (by kernel_rfl)) h

def F_spec_l5Rows : Fun := fun avs H =>
  match avs, H with
  | [.dat (.int .i64) x2006], [] => ⟨_, spec_l5Rows x2006, fun (t : Int) => (.dat (.int .i64) t, [])⟩
  | _, _ => Ans.no

theorem spec_l5Rows_sound : Sound Tryd.prog 46 F_spec_l5Rows := by
  refine fn_sound' (C := spec_l5Rows_ctx) (c := bodyOf Tryd.f46) (cok_of tys_ok (by simp) (by simp) (by kernel_rfl)) Tryd.func46 (by kernel_rfl) LL spec_l5Rows_an ?_
  intro avs H r H' h
  unfold F_spec_l5Rows at h
  split at h
  · refine Awp.cast ?_ ?_ ?_ (spec_l5Rows_e _ h) <;> kernel_rfl
  · simp [Ans.no, Ans.run] at h


/-! loop.example/headtrees/spec.GapsOf -/

def spec_GapsOf_an : Ann := (.seq (.leaf [0, 1]) (.seq (.seq (.leaf [0, 1, 14]) (.cond (.seq (.leaf [4]) (.leaf [4])) (.leaf [0, 1]))) (.seq (.leaf [4]) (.leaf [4]))))

noncomputable def spec_GapsOf_ctx : Ctx := ⟨tlook tys, olook [(32, F_spec_TreeOk), (45, F_spec_l1In), (47, F_spec_l2Yield), (46, F_spec_l5Rows)], ioF, 0, false⟩

theorem spec_GapsOf_n1_l (x1918 : List Int) (x1919 : Int) : Link spec_GapsOf_ctx LL (bodyOf Tryd.f13) spec_GapsOf_an (⟨mkE 20 0 [(0, .dat (.list (.int .i64)) x1918), (1, .dat (.int .i64) x1919)], []⟩ : St) (spec_GapsOf_n1 x1918 x1919) (fun (t : Int) => (Exit.ret, (⟨mkE 20 0 [(4, .dat (.int .i64) t)], []⟩ : St))) := by
  refine Link.of fun K h => ?_
  simp only [spec_GapsOf_n1, wpO_bind, wpO_cond, wpO_map, wpO_some] at h
  exact Awp.of (by kernel_rfl) h

theorem spec_GapsOf_e (x1918 : List Int) (x1919 : Int) {r : AV} {H' : Heap} (h : (Ans.mk _ (spec_GapsOf x1918 x1919) (fun (t : Int) => (.dat (.int .i64) t, []))).run = some (r, H')) : Awp spec_GapsOf_ctx LL (bodyOf Tryd.f13) spec_GapsOf_an (⟨mkE 20 0 [(0, .dat (.list (.int .i64)) x1918), (1, .dat (.int .i64) x1919)], []⟩ : St) (Ret (tlook tys) Tryd.f13.results.toList r H') :=
  ret_of' (spec_GapsOf_n1_l x1918 x1919) (by unfold spec_GapsOf; kernel_rfl) (by
  intro t
  exact ret_mk [.dat (.int .i64) t] (by kernel_rfl) (by kernel_rfl) (by kernel_rfl) (by kernel_rfl)) h

def F_spec_GapsOf : Fun := fun avs H =>
  match avs, H with
  | [.dat (.list (.int .i64)) x1918, .dat (.int .i64) x1919], [] => ⟨_, spec_GapsOf x1918 x1919, fun (t : Int) => (.dat (.int .i64) t, [])⟩
  | _, _ => Ans.no

theorem spec_GapsOf_sound : Sound Tryd.prog 13 F_spec_GapsOf := by
  refine fn_sound' (C := spec_GapsOf_ctx) (c := bodyOf Tryd.f13) (cok_of tys_ok (List.forall_mem_cons.2 ⟨spec_TreeOk_sound, List.forall_mem_cons.2 ⟨spec_l1In_sound, List.forall_mem_cons.2 ⟨spec_l2Yield_sound, List.forall_mem_cons.2 ⟨spec_l5Rows_sound, by simp⟩⟩⟩⟩) (List.forall_mem_cons.2 ⟨Tryd.call32, List.forall_mem_cons.2 ⟨Tryd.call45, List.forall_mem_cons.2 ⟨Tryd.call47, List.forall_mem_cons.2 ⟨Tryd.call46, by simp⟩⟩⟩⟩) (by kernel_rfl)) Tryd.func13 (by kernel_rfl) LL spec_GapsOf_an ?_
  intro avs H r H' h
  unfold F_spec_GapsOf at h
  split at h
  · refine Awp.cast ?_ ?_ ?_ (spec_GapsOf_e _ _ h) <;> kernel_rfl
  · simp [Ans.no, Ans.run] at h


end Go.Rv
