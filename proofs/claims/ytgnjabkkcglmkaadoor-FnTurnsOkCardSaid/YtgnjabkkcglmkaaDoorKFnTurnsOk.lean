/-
  The checked code answers as the plain functions do; written by program. Conditions: none.
-/
import Derived.Test.YtgnjabkkcglmkaaDoorKFnTurnsOka
set_option linter.unusedVariables false
set_option linter.unusedSimpArgs false
set_option maxRecDepth 100000
namespace Go.Rv
open Go.Proofs
/-! loop.example/headtrees/spec.DrawTurnsOk -/

def spec_DrawTurnsOk_an : Ann := (.seq (.leaf [0]) (.seq (.leaf [5]) (.seq (.leaf [5, 6]) (.seq (.seq (.leaf [5, 6, 14]) (.cond (.seq (.leaf [5, 7]) (.seq (.leafF [⟨4, 17, false, none⟩, ⟨4, 18, false, none⟩, ⟨4, 19, false, none⟩, ⟨4, 20, false, none⟩] [5, 6, 7]) (.seq (.leaf [5, 6, 7, 27]) (.cond (.seq (.draw [1, 5] [0, 1, 2, 3, 4, 5, 6, 7, 8, 9, 10, 11] [] [2, 3, 4]) (.leaf [2, 3, 4])) (.leaf [5, 6]))))) (.leaf [5, 6]))) (.seq (.leaf [2, 3, 4]) (.leafF [⟨0, 2, false, none⟩] [2, 3, 4]))))))

noncomputable def spec_DrawTurnsOk_ctx : Ctx := ⟨tlook tys, olook [(39, F_spec_l20Open), (40, F_spec_l20Wild), (41, F_spec_l20Rd_pick)], ioF, 0, false⟩

theorem spec_DrawTurnsOk_n1_l (x2914 : List Int) : Link spec_DrawTurnsOk_ctx LL (bodyOf Tryd.f25) spec_DrawTurnsOk_an (⟨mkE 49 0 [(0, .dat (.list (.int .u8)) x2914)], []⟩ : St) (spec_DrawTurnsOk_n1 x2914) (fun (t : (List Int) × Int × Int) => (Exit.ret, (⟨mkE 49 0 [(2, .dat (.list (.int .i64)) t.1), (3, .dat (.int .i64) t.2.1), (4, .dat (.int .i64) t.2.2)], []⟩ : St))) := by
  refine Link.of fun K h => ?_
  simp only [spec_DrawTurnsOk_n1, wpO_bind, wpO_cond, wpO_map, wpO_some] at h
  exact Awp.of (by kernel_rfl) h

theorem spec_DrawTurnsOk_e (x2914 : List Int) {r : AV} {H' : Heap} (h : (Ans.mk _ (spec_DrawTurnsOk x2914) (fun (t : (List Int) × Int × Int) => (.tup [.dat (.list (.int .i64)) t.1, .dat (.int .i64) t.2.1, .dat (.int .i64) t.2.2], []))).run = some (r, H')) : Awp spec_DrawTurnsOk_ctx LL (bodyOf Tryd.f25) spec_DrawTurnsOk_an (⟨mkE 49 0 [(0, .dat (.list (.int .u8)) x2914)], []⟩ : St) (Ret (tlook tys) Tryd.f25.results.toList r H') :=
  ret_of' (spec_DrawTurnsOk_n1_l x2914) (by unfold spec_DrawTurnsOk; kernel_rfl) (by
  intro t
  exact ret_mk [.dat (.list (.int .i64)) t.1, .dat (.int .i64) t.2.1, .dat (.int .i64) t.2.2] (by kernel_rfl) (by kernel_rfl) (by kernel_rfl) (by kernel_rfl)) h

def F_spec_DrawTurnsOk : Fun := fun avs H =>
  match avs, H with
  | [.dat (.list (.int .u8)) x2914], [] => ⟨_, spec_DrawTurnsOk x2914, fun (t : (List Int) × Int × Int) => (.tup [.dat (.list (.int .i64)) t.1, .dat (.int .i64) t.2.1, .dat (.int .i64) t.2.2], [])⟩
  | _, _ => Ans.no

theorem spec_DrawTurnsOk_sound : Sound Tryd.prog 25 F_spec_DrawTurnsOk := by
  refine fn_sound' (C := spec_DrawTurnsOk_ctx) (c := bodyOf Tryd.f25) (cok_of tys_ok (List.forall_mem_cons.2 ⟨spec_l20Open_sound, List.forall_mem_cons.2 ⟨spec_l20Wild_sound, List.forall_mem_cons.2 ⟨spec_l20Rd_pick_sound, by simp⟩⟩⟩) (List.forall_mem_cons.2 ⟨Tryd.call39, List.forall_mem_cons.2 ⟨Tryd.call40, List.forall_mem_cons.2 ⟨Tryd.call41, by simp⟩⟩⟩) (by kernel_rfl)) Tryd.func25 (by kernel_rfl) LL spec_DrawTurnsOk_an ?_
  intro avs H r H' h
  unfold F_spec_DrawTurnsOk at h
  split at h
  · refine Awp.cast ?_ ?_ ?_ (spec_DrawTurnsOk_e _ h) <;> kernel_rfl
  · simp [Ans.no, Ans.run] at h


/-! loop.example/headtrees/impl.CrossOk -/

def impl_CrossOk_an : Ann := (.seq (.leaf [0, 1, 2, 3]) (.seq (.leaf [2, 3, 9, 10]) (.seq (.leaf [9, 10, 11, 12]) (.seq (.leaf [8]) (.leaf [8])))))

noncomputable def impl_CrossOk_ctx : Ctx := ⟨tlook tys, olook [(78, F_impl_arcBetween), (58, F_impl_arc_crosses)], ioF, 0, false⟩

theorem impl_CrossOk_n1_l (x3365 : Int) (x3366 : Int) (x3367 : Int) (x3368 : Int) : Link impl_CrossOk_ctx LL (bodyOf Tryd.f84) impl_CrossOk_an (⟨mkE 34 0 [(0, .dat (.int .i64) x3365), (1, .dat (.int .i64) x3366), (2, .dat (.int .i64) x3367), (3, .dat (.int .i64) x3368)], []⟩ : St) (impl_CrossOk_n1 x3365 x3366 x3367 x3368) (fun (t : Bool) => (Exit.ret, (⟨mkE 34 0 [(8, .dat .bool t)], []⟩ : St))) := by
  refine Link.of fun K h => ?_
  simp only [impl_CrossOk_n1, wpO_bind, wpO_cond, wpO_map, wpO_some] at h
  exact Awp.of (by kernel_rfl) h

theorem impl_CrossOk_e (x3365 : Int) (x3366 : Int) (x3367 : Int) (x3368 : Int) {r : AV} {H' : Heap} (h : (Ans.mk _ (impl_CrossOk x3365 x3366 x3367 x3368) (fun (t : Bool) => (.dat .bool t, []))).run = some (r, H')) : Awp impl_CrossOk_ctx LL (bodyOf Tryd.f84) impl_CrossOk_an (⟨mkE 34 0 [(0, .dat (.int .i64) x3365), (1, .dat (.int .i64) x3366), (2, .dat (.int .i64) x3367), (3, .dat (.int .i64) x3368)], []⟩ : St) (Ret (tlook tys) Tryd.f84.results.toList r H') :=
  ret_of' (impl_CrossOk_n1_l x3365 x3366 x3367 x3368) (by unfold impl_CrossOk; kernel_rfl) (by
  intro t
  exact ret_mk [.dat .bool t] (by kernel_rfl) (by kernel_rfl) (by kernel_rfl) (by kernel_rfl)) h

def F_impl_CrossOk : Fun := fun avs H =>
  match avs, H with
  | [.dat (.int .i64) x3365, .dat (.int .i64) x3366, .dat (.int .i64) x3367, .dat (.int .i64) x3368], [] => ⟨_, impl_CrossOk x3365 x3366 x3367 x3368, fun (t : Bool) => (.dat .bool t, [])⟩
  | _, _ => Ans.no

theorem impl_CrossOk_sound : Sound Tryd.prog 84 F_impl_CrossOk := by
  refine fn_sound' (C := impl_CrossOk_ctx) (c := bodyOf Tryd.f84) (cok_of tys_ok (List.forall_mem_cons.2 ⟨impl_arcBetween_sound, List.forall_mem_cons.2 ⟨impl_arc_crosses_sound, by simp⟩⟩) (List.forall_mem_cons.2 ⟨Tryd.call78, List.forall_mem_cons.2 ⟨Tryd.call58, by simp⟩⟩) (by kernel_rfl)) Tryd.func84 (by kernel_rfl) LL impl_CrossOk_an ?_
  intro avs H r H' h
  unfold F_impl_CrossOk at h
  split at h
  · refine Awp.cast ?_ ?_ ?_ (impl_CrossOk_e _ _ _ _ h) <;> kernel_rfl
  · simp [Ans.no, Ans.run] at h


/-! loop.example/headtrees/impl.goByTurns$1$1 -/

def impl_goByTurns_1_1_an : Ann := (.seq (.leaf [0, 1, 2, 3]) (.seq (.leaf [6]) (.leaf [6])))

noncomputable def impl_goByTurns_1_1_ctx : Ctx := ⟨tlook tys, olook [(84, F_impl_CrossOk)], ioF, 2, false⟩

theorem impl_goByTurns_1_1_n1_l (x3361 : Int) (x3362 : Int) (x3363 : Int) (x3364 : Int) : Link impl_goByTurns_1_1_ctx LL (bodyOf Tryd.f83) impl_goByTurns_1_1_an (⟨mkE 12 0 [(0, .dat (.int .i64) x3361), (1, .dat (.int .i64) x3362), (2, .ptr 0 0), (3, .ptr 1 0)], [some (.box [.dat (.int .i64) x3363]), some (.box [.dat (.int .i64) x3364])]⟩ : St) (impl_goByTurns_1_1_n1 x3361 x3362 x3363 x3364) (fun (t : Bool) => (Exit.ret, (⟨mkE 12 0 [(6, .dat .bool t)], [some (.box [.dat (.int .i64) x3363]), some (.box [.dat (.int .i64) x3364])]⟩ : St))) := by
  refine Link.of fun K h => ?_
  simp only [impl_goByTurns_1_1_n1, wpO_bind, wpO_cond, wpO_map, wpO_some] at h
  exact Awp.of (by kernel_rfl) h

theorem impl_goByTurns_1_1_e (x3361 : Int) (x3362 : Int) (x3363 : Int) (x3364 : Int) {r : AV} {H' : Heap} (h : (Ans.mk _ (impl_goByTurns_1_1 x3361 x3362 x3363 x3364) (fun (t : Bool) => (.dat .bool t, [some (.box [.dat (.int .i64) x3363]), some (.box [.dat (.int .i64) x3364])]))).run = some (r, H')) : Awp impl_goByTurns_1_1_ctx LL (bodyOf Tryd.f83) impl_goByTurns_1_1_an (⟨mkE 12 0 [(0, .dat (.int .i64) x3361), (1, .dat (.int .i64) x3362), (2, .ptr 0 0), (3, .ptr 1 0)], [some (.box [.dat (.int .i64) x3363]), some (.box [.dat (.int .i64) x3364])]⟩ : St) (Ret (tlook tys) Tryd.f83.results.toList r H') :=
  ret_of' (impl_goByTurns_1_1_n1_l x3361 x3362 x3363 x3364) (by unfold impl_goByTurns_1_1; kernel_rfl) (by
  intro t
  exact ret_mk [.dat .bool t] (by kernel_rfl) (by kernel_rfl) (by kernel_rfl) (by kernel_rfl)) h

def F_impl_goByTurns_1_1 : Fun := fun avs H =>
  match avs, H with
  | [.dat (.int .i64) x3361, .dat (.int .i64) x3362, .ptr 0 0, .ptr 1 0], [some (.box [.dat (.int .i64) x3363]), some (.box [.dat (.int .i64) x3364])] => ⟨_, impl_goByTurns_1_1 x3361 x3362 x3363 x3364, fun (t : Bool) => (.dat .bool t, [some (.box [.dat (.int .i64) x3363]), some (.box [.dat (.int .i64) x3364])])⟩
  | _, _ => Ans.no

theorem impl_goByTurns_1_1_sound : Sound Tryd.prog 83 F_impl_goByTurns_1_1 := by
  refine fn_sound' (C := impl_goByTurns_1_1_ctx) (c := bodyOf Tryd.f83) (cok_of tys_ok (List.forall_mem_cons.2 ⟨impl_CrossOk_sound, by simp⟩) (List.forall_mem_cons.2 ⟨Tryd.call84, by simp⟩) (by kernel_rfl)) Tryd.func83 (by kernel_rfl) LL impl_goByTurns_1_1_an ?_
  intro avs H r H' h
  unfold F_impl_goByTurns_1_1 at h
  split at h
  · refine Awp.cast ?_ ?_ ?_ (impl_goByTurns_1_1_e _ _ _ _ h) <;> kernel_rfl
  · simp [Ans.no, Ans.run] at h


/-! loop.example/headtrees/impl.countPairs[int] (impl_countPairs_int_v2) -/

def impl_countPairs_int_v2_an : Ann := (.seq (.leaf [0, 1]) (.seq (.leaf [0, 1, 5]) (.seq (.seq (.leaf [0, 1, 5, 10, 11, 12]) (.block (.loop (.seq (.leaf [0, 1, 5, 10, 11, 12, 13]) (.seq (.cond (.leaf [0, 1, 5, 10, 11, 12]) (.leaf [5])) (.seq (.block (.seq (.leaf [0, 1, 5, 6, 7, 10, 11, 12]) (.seq (.leaf [0, 1, 5, 7, 10, 11, 12, 20, 21, 22]) (.block (.loop (.seq (.leaf [0, 1, 5, 7, 10, 11, 12, 20, 21, 22, 23]) (.seq (.cond (.leaf [0, 1, 5, 7, 10, 11, 12, 20, 21, 22]) (.leaf [0, 1, 5, 10, 11, 12])) (.seq (.block (.seq (.leaf [0, 1, 5, 7, 9, 10, 11, 12, 20, 21, 22]) (.seq (.leaf [0, 1, 5, 7, 10, 11, 12, 20, 21, 22, 29]) (.cond (.leaf [0, 1, 5, 7, 10, 11, 12, 20, 21, 22]) (.leaf [0, 1, 5, 7, 10, 11, 12, 20, 21, 22]))))) (.leaf [0, 1, 5, 7, 10, 11, 12, 20, 21, 22]))))))))) (.leaf [0, 1, 5, 10, 11, 12]))))))) (.seq (.leaf [4]) (.leaf [4])))))

noncomputable def impl_countPairs_int_v2_ctx : Ctx := ⟨tlook tys, olook [(83, F_impl_goByTurns_1_1)], ioF, 2, false⟩

theorem impl_countPairs_int_v2_n1_l (x3344 : List Int) (x3345 : Int) (x3346 : Int) : Link impl_countPairs_int_v2_ctx LL (Code.seq (Code.fst (bodyOf Tryd.f81)) (Code.fst (Code.snd (bodyOf Tryd.f81)))) (Ann.seq (Ann.fst impl_countPairs_int_v2_an) (Ann.fst (Ann.snd impl_countPairs_int_v2_an))) (⟨mkE 35 0 [(0, .dat (.list (.int .i64)) x3344), (1, .fn 83 [] [.ptr 0 0, .ptr 1 0])], [some (.box [.dat (.int .i64) x3345]), some (.box [.dat (.int .i64) x3346])]⟩ : St) (impl_countPairs_int_v2_n1) (fun (t : Unit) => (Exit.normal, (⟨mkE 35 0 [(0, .dat (.list (.int .i64)) x3344), (1, .fn 83 [] [.ptr 0 0, .ptr 1 0]), (5, .dat (.int .i64) 0)], [some (.box [.dat (.int .i64) x3345]), some (.box [.dat (.int .i64) x3346])]⟩ : St))) := by
  refine Link.of fun K h => ?_
  simp only [impl_countPairs_int_v2_n1, wpO_bind, wpO_cond, wpO_map, wpO_some] at h
  exact Awp.of (by kernel_rfl) h

theorem impl_countPairs_int_v2_n2_l (x3344 : List Int) (x3345 : Int) (x3346 : Int) : Link impl_countPairs_int_v2_ctx LL (Code.fst (Code.fst (Code.snd (Code.snd (bodyOf Tryd.f81))))) (Ann.fst (Ann.fst (Ann.snd (Ann.snd impl_countPairs_int_v2_an)))) (⟨mkE 35 0 [(0, .dat (.list (.int .i64)) x3344), (1, .fn 83 [] [.ptr 0 0, .ptr 1 0]), (5, .dat (.int .i64) 0)], [some (.box [.dat (.int .i64) x3345]), some (.box [.dat (.int .i64) x3346])]⟩ : St) (impl_countPairs_int_v2_n2 x3344) (fun (t : Int) => (Exit.normal, (⟨mkE 35 0 [(0, .dat (.list (.int .i64)) x3344), (1, .fn 83 [] [.ptr 0 0, .ptr 1 0]), (5, .dat (.int .i64) 0), (10, .dat (.list (.int .i64)) x3344), (11, .dat (.int .i64) t), (12, .dat (.int .i64) 0)], [some (.box [.dat (.int .i64) x3345]), some (.box [.dat (.int .i64) x3346])]⟩ : St))) := by
  refine Link.of fun K h => ?_
  simp only [impl_countPairs_int_v2_n2, wpO_bind, wpO_cond, wpO_map, wpO_some] at h
  exact Awp.of (by kernel_rfl) h

theorem impl_countPairs_int_v2_n3_l (x3344 : List Int) (x3429 : Int) (x3347 : Int) (x3430 : Int) (x3345 : Int) (x3346 : Int) : Link impl_countPairs_int_v2_ctx LL (Code.seq (Code.fst (Code.fst (Code.fst (Code.snd (Code.fst (Code.snd (Code.snd (bodyOf Tryd.f81)))))))) (Code.fst (Code.snd (Code.fst (Code.fst (Code.snd (Code.fst (Code.snd (Code.snd (bodyOf Tryd.f81)))))))))) (Ann.seq (Ann.fst (Ann.fst (Ann.fst (Ann.snd (Ann.fst (Ann.snd (Ann.snd impl_countPairs_int_v2_an))))))) (Ann.fst (Ann.snd (Ann.fst (Ann.fst (Ann.snd (Ann.fst (Ann.snd (Ann.snd impl_countPairs_int_v2_an))))))))) (⟨mkE 35 0 [(0, .dat (.list (.int .i64)) x3344), (1, .fn 83 [] [.ptr 0 0, .ptr 1 0]), (5, .dat (.int .i64) x3429), (10, .dat (.list (.int .i64)) x3344), (11, .dat (.int .i64) x3347), (12, .dat (.int .i64) x3430)], [some (.box [.dat (.int .i64) x3345]), some (.box [.dat (.int .i64) x3346])]⟩ : St) (impl_countPairs_int_v2_n3 x3429 x3347 x3430) (Sum.elim (fun (t : Unit) => (Exit.normal, (⟨mkE 35 0 [(0, .dat (.list (.int .i64)) x3344), (1, .fn 83 [] [.ptr 0 0, .ptr 1 0]), (5, .dat (.int .i64) x3429), (10, .dat (.list (.int .i64)) x3344), (11, .dat (.int .i64) x3347), (12, .dat (.int .i64) x3430)], [some (.box [.dat (.int .i64) x3345]), some (.box [.dat (.int .i64) x3346])]⟩ : St))) (fun (t : Int) => ((Exit.exit 0), (⟨mkE 35 0 [(5, .dat (.int .i64) t)], [some (.box [.dat (.int .i64) x3345]), some (.box [.dat (.int .i64) x3346])]⟩ : St)))) := by
  refine Link.of fun K h => ?_
  simp only [impl_countPairs_int_v2_n3, wpO_bind, wpO_cond, wpO_map, wpO_some] at h
  exact Awp.of (by kernel_rfl) h

theorem impl_countPairs_int_v2_n4_l (x3344 : List Int) (x3429 : Int) (x3347 : Int) (x3430 : Int) (x3345 : Int) (x3346 : Int) : Link impl_countPairs_int_v2_ctx LL (Code.seq (Code.fst (Code.fst (Code.fst (Code.snd (Code.snd (Code.fst (Code.fst (Code.snd (Code.fst (Code.snd (Code.snd (bodyOf Tryd.f81)))))))))))) (Code.fst (Code.snd (Code.fst (Code.fst (Code.snd (Code.snd (Code.fst (Code.fst (Code.snd (Code.fst (Code.snd (Code.snd (bodyOf Tryd.f81)))))))))))))) (Ann.seq (Ann.fst (Ann.fst (Ann.fst (Ann.snd (Ann.snd (Ann.fst (Ann.fst (Ann.snd (Ann.fst (Ann.snd (Ann.snd impl_countPairs_int_v2_an))))))))))) (Ann.fst (Ann.snd (Ann.fst (Ann.fst (Ann.snd (Ann.snd (Ann.fst (Ann.fst (Ann.snd (Ann.fst (Ann.snd (Ann.snd impl_countPairs_int_v2_an))))))))))))) (⟨mkE 35 0 [(0, .dat (.list (.int .i64)) x3344), (1, .fn 83 [] [.ptr 0 0, .ptr 1 0]), (5, .dat (.int .i64) x3429), (10, .dat (.list (.int .i64)) x3344), (11, .dat (.int .i64) x3347), (12, .dat (.int .i64) x3430)], [some (.box [.dat (.int .i64) x3345]), some (.box [.dat (.int .i64) x3346])]⟩ : St) (impl_countPairs_int_v2_n4 x3344 x3430) (fun (t : Int × (List Int) × Int) => (Exit.normal, (⟨mkE 35 0 [(0, .dat (.list (.int .i64)) x3344), (1, .fn 83 [] [.ptr 0 0, .ptr 1 0]), (5, .dat (.int .i64) x3429), (7, .dat (.int .i64) t.1), (10, .dat (.list (.int .i64)) x3344), (11, .dat (.int .i64) x3347), (12, .dat (.int .i64) x3430), (20, .dat (.list (.int .i64)) t.2.1), (21, .dat (.int .i64) t.2.2), (22, .dat (.int .i64) 0)], [some (.box [.dat (.int .i64) x3345]), some (.box [.dat (.int .i64) x3346])]⟩ : St))) := by
  refine Link.of fun K h => ?_
  simp only [impl_countPairs_int_v2_n4, wpO_bind, wpO_cond, wpO_map, wpO_some] at h
  exact Awp.of (by kernel_rfl) h

theorem impl_countPairs_int_v2_n5_l (x3344 : List Int) (x3454 : Int) (x3434 : Int) (x3347 : Int) (x3430 : Int) (x3438 : List Int) (x3439 : Int) (x3455 : Int) (x3345 : Int) (x3346 : Int) : Link impl_countPairs_int_v2_ctx LL (Code.fst (Code.fst (Code.snd (Code.snd (Code.fst (Code.fst (Code.snd (Code.snd (Code.fst (Code.fst (Code.snd (Code.fst (Code.snd (Code.snd (bodyOf Tryd.f81))))))))))))))) (Ann.fst (Ann.fst (Ann.snd (Ann.snd (Ann.fst (Ann.fst (Ann.snd (Ann.snd (Ann.fst (Ann.fst (Ann.snd (Ann.fst (Ann.snd (Ann.snd impl_countPairs_int_v2_an)))))))))))))) (⟨mkE 35 0 [(0, .dat (.list (.int .i64)) x3344), (1, .fn 83 [] [.ptr 0 0, .ptr 1 0]), (5, .dat (.int .i64) x3454), (7, .dat (.int .i64) x3434), (10, .dat (.list (.int .i64)) x3344), (11, .dat (.int .i64) x3347), (12, .dat (.int .i64) x3430), (20, .dat (.list (.int .i64)) x3438), (21, .dat (.int .i64) x3439), (22, .dat (.int .i64) x3455)], [some (.box [.dat (.int .i64) x3345]), some (.box [.dat (.int .i64) x3346])]⟩ : St) (impl_countPairs_int_v2_n5 x3454 x3434 x3438 x3439 x3455 x3345 x3346) (Sum.elim (fun (t : Int × Int) => (Exit.normal, (⟨mkE 35 0 [(0, .dat (.list (.int .i64)) x3344), (1, .fn 83 [] [.ptr 0 0, .ptr 1 0]), (5, .dat (.int .i64) t.1), (7, .dat (.int .i64) x3434), (10, .dat (.list (.int .i64)) x3344), (11, .dat (.int .i64) x3347), (12, .dat (.int .i64) x3430), (20, .dat (.list (.int .i64)) x3438), (21, .dat (.int .i64) x3439), (22, .dat (.int .i64) t.2)], [some (.box [.dat (.int .i64) x3345]), some (.box [.dat (.int .i64) x3346])]⟩ : St))) (fun (t : Int) => ((Exit.exit 2), (⟨mkE 35 0 [(0, .dat (.list (.int .i64)) x3344), (1, .fn 83 [] [.ptr 0 0, .ptr 1 0]), (5, .dat (.int .i64) t), (10, .dat (.list (.int .i64)) x3344), (11, .dat (.int .i64) x3347), (12, .dat (.int .i64) x3430)], [some (.box [.dat (.int .i64) x3345]), some (.box [.dat (.int .i64) x3346])]⟩ : St)))) := by
  refine Link.of fun K h => ?_
  simp only [impl_countPairs_int_v2_n5, wpO_bind, wpO_cond, wpO_map, wpO_some] at h
  exact Awp.of (by kernel_rfl) h

theorem impl_countPairs_int_v2_n6_l (x3344 : List Int) (x3429 : Int) (x3434 : Int) (x3347 : Int) (x3430 : Int) (x3438 : List Int) (x3439 : Int) (x3345 : Int) (x3346 : Int) : Link impl_countPairs_int_v2_ctx LL (Code.fst (Code.snd (Code.snd (Code.fst (Code.fst (Code.snd (Code.snd (Code.fst (Code.fst (Code.snd (Code.fst (Code.snd (Code.snd (bodyOf Tryd.f81)))))))))))))) (Ann.fst (Ann.snd (Ann.snd (Ann.fst (Ann.fst (Ann.snd (Ann.snd (Ann.fst (Ann.fst (Ann.snd (Ann.fst (Ann.snd (Ann.snd impl_countPairs_int_v2_an))))))))))))) (⟨mkE 35 0 [(0, .dat (.list (.int .i64)) x3344), (1, .fn 83 [] [.ptr 0 0, .ptr 1 0]), (5, .dat (.int .i64) x3429), (7, .dat (.int .i64) x3434), (10, .dat (.list (.int .i64)) x3344), (11, .dat (.int .i64) x3347), (12, .dat (.int .i64) x3430), (20, .dat (.list (.int .i64)) x3438), (21, .dat (.int .i64) x3439), (22, .dat (.int .i64) 0)], [some (.box [.dat (.int .i64) x3345]), some (.box [.dat (.int .i64) x3346])]⟩ : St) (impl_countPairs_int_v2_n6 x3429 x3434 x3438 x3439 x3345 x3346) (fun (t : Int) => ((Exit.exit 2), (⟨mkE 35 0 [(0, .dat (.list (.int .i64)) x3344), (1, .fn 83 [] [.ptr 0 0, .ptr 1 0]), (5, .dat (.int .i64) t), (10, .dat (.list (.int .i64)) x3344), (11, .dat (.int .i64) x3347), (12, .dat (.int .i64) x3430)], [some (.box [.dat (.int .i64) x3345]), some (.box [.dat (.int .i64) x3346])]⟩ : St))) := by
  unfold impl_countPairs_int_v2_n6
  exact Link.cast (by kernel_rfl) (by kernel_rfl) (link_loop (mk := fun (s : Int × Int) => (⟨mkE 35 0 [(0, .dat (.list (.int .i64)) x3344), (1, .fn 83 [] [.ptr 0 0, .ptr 1 0]), (5, .dat (.int .i64) s.1), (7, .dat (.int .i64) x3434), (10, .dat (.list (.int .i64)) x3344), (11, .dat (.int .i64) x3347), (12, .dat (.int .i64) x3430), (20, .dat (.list (.int .i64)) x3438), (21, .dat (.int .i64) x3439), (22, .dat (.int .i64) s.2)], [some (.box [.dat (.int .i64) x3345]), some (.box [.dat (.int .i64) x3346])]⟩ : St)) (fin := (fun (t : Int) => ((Exit.exit 2), (⟨mkE 35 0 [(0, .dat (.list (.int .i64)) x3344), (1, .fn 83 [] [.ptr 0 0, .ptr 1 0]), (5, .dat (.int .i64) t), (10, .dat (.list (.int .i64)) x3344), (11, .dat (.int .i64) x3347), (12, .dat (.int .i64) x3430)], [some (.box [.dat (.int .i64) x3345]), some (.box [.dat (.int .i64) x3346])]⟩ : St)))) (by
  rintro t f K h
  · exact h) (fun s => link_map (impl_countPairs_int_v2_n5_l x3344 s.1 x3434 x3347 x3430 x3438 x3439 s.2 x3345 x3346) (Sum.elim (fun (t : Int × Int) => Sum.inl (t.1, t.2)) (fun (t : Int) => Sum.inr t)) (by
  rintro (t | t)
  · kernel_rfl
  · kernel_rfl)) (x3429, 0))

theorem impl_countPairs_int_v2_n7_l (x3344 : List Int) (x3429 : Int) (x3434 : Int) (x3347 : Int) (x3430 : Int) (x3438 : List Int) (x3439 : Int) (x3345 : Int) (x3346 : Int) : Link impl_countPairs_int_v2_ctx LL (Code.snd (Code.snd (Code.fst (Code.fst (Code.snd (Code.snd (Code.fst (Code.fst (Code.snd (Code.fst (Code.snd (Code.snd (bodyOf Tryd.f81))))))))))))) (Ann.snd (Ann.snd (Ann.fst (Ann.fst (Ann.snd (Ann.snd (Ann.fst (Ann.fst (Ann.snd (Ann.fst (Ann.snd (Ann.snd impl_countPairs_int_v2_an)))))))))))) (⟨mkE 35 0 [(0, .dat (.list (.int .i64)) x3344), (1, .fn 83 [] [.ptr 0 0, .ptr 1 0]), (5, .dat (.int .i64) x3429), (7, .dat (.int .i64) x3434), (10, .dat (.list (.int .i64)) x3344), (11, .dat (.int .i64) x3347), (12, .dat (.int .i64) x3430), (20, .dat (.list (.int .i64)) x3438), (21, .dat (.int .i64) x3439), (22, .dat (.int .i64) 0)], [some (.box [.dat (.int .i64) x3345]), some (.box [.dat (.int .i64) x3346])]⟩ : St) (impl_countPairs_int_v2_n7 x3429 x3434 x3438 x3439 x3345 x3346) (fun (t : Int) => (Exit.normal, (⟨mkE 35 0 [(0, .dat (.list (.int .i64)) x3344), (1, .fn 83 [] [.ptr 0 0, .ptr 1 0]), (5, .dat (.int .i64) t), (10, .dat (.list (.int .i64)) x3344), (11, .dat (.int .i64) x3347), (12, .dat (.int .i64) x3430)], [some (.box [.dat (.int .i64) x3345]), some (.box [.dat (.int .i64) x3346])]⟩ : St))) := by
  unfold impl_countPairs_int_v2_n7
  exact Link.cast (by kernel_rfl) (by kernel_rfl) (link_block (id := 2) (impl_countPairs_int_v2_n6_l x3344 x3429 x3434 x3347 x3430 x3438 x3439 x3345 x3346) (fun (t : Int) => t) (by
  rintro t K h
  · exact Eq.mp (by kernel_rfl) h))

theorem impl_countPairs_int_v2_n8_l (x3344 : List Int) (x3429 : Int) (x3347 : Int) (x3430 : Int) (x3345 : Int) (x3346 : Int) : Link impl_countPairs_int_v2_ctx LL (Code.fst (Code.fst (Code.snd (Code.snd (Code.fst (Code.fst (Code.snd (Code.fst (Code.snd (Code.snd (bodyOf Tryd.f81))))))))))) (Ann.fst (Ann.fst (Ann.snd (Ann.snd (Ann.fst (Ann.fst (Ann.snd (Ann.fst (Ann.snd (Ann.snd impl_countPairs_int_v2_an)))))))))) (⟨mkE 35 0 [(0, .dat (.list (.int .i64)) x3344), (1, .fn 83 [] [.ptr 0 0, .ptr 1 0]), (5, .dat (.int .i64) x3429), (10, .dat (.list (.int .i64)) x3344), (11, .dat (.int .i64) x3347), (12, .dat (.int .i64) x3430)], [some (.box [.dat (.int .i64) x3345]), some (.box [.dat (.int .i64) x3346])]⟩ : St) (impl_countPairs_int_v2_n8 x3344 x3429 x3430 x3345 x3346) (fun (t : Int) => (Exit.normal, (⟨mkE 35 0 [(0, .dat (.list (.int .i64)) x3344), (1, .fn 83 [] [.ptr 0 0, .ptr 1 0]), (5, .dat (.int .i64) t), (10, .dat (.list (.int .i64)) x3344), (11, .dat (.int .i64) x3347), (12, .dat (.int .i64) x3430)], [some (.box [.dat (.int .i64) x3345]), some (.box [.dat (.int .i64) x3346])]⟩ : St))) := by
  unfold impl_countPairs_int_v2_n8
  exact Link.cast (by kernel_rfl) (by kernel_rfl) (link_group (c := (Code.fst (Code.snd (Code.fst (Code.fst (Code.snd (Code.snd (Code.fst (Code.fst (Code.snd (Code.fst (Code.snd (Code.snd (bodyOf Tryd.f81)))))))))))))) (a := (Ann.fst (Ann.snd (Ann.fst (Ann.fst (Ann.snd (Ann.snd (Ann.fst (Ann.fst (Ann.snd (Ann.fst (Ann.snd (Ann.snd impl_countPairs_int_v2_an))))))))))))) [(Code.fst (Code.fst (Code.fst (Code.snd (Code.snd (Code.fst (Code.fst (Code.snd (Code.fst (Code.snd (Code.snd (bodyOf Tryd.f81))))))))))))] [(Ann.fst (Ann.fst (Ann.fst (Ann.snd (Ann.snd (Ann.fst (Ann.fst (Ann.snd (Ann.fst (Ann.snd (Ann.snd impl_countPairs_int_v2_an)))))))))))] rfl (link_seq (b := (Code.snd (Code.snd (Code.fst (Code.fst (Code.snd (Code.snd (Code.fst (Code.fst (Code.snd (Code.fst (Code.snd (Code.snd (bodyOf Tryd.f81)))))))))))))) (y := (Ann.snd (Ann.snd (Ann.fst (Ann.fst (Ann.snd (Ann.snd (Ann.fst (Ann.fst (Ann.snd (Ann.fst (Ann.snd (Ann.snd impl_countPairs_int_v2_an))))))))))))) (impl_countPairs_int_v2_n4_l x3344 x3429 x3347 x3430 x3345 x3346) (fun (t : Int × (List Int) × Int) => (impl_countPairs_int_v2_n7_l x3344 x3429 t.1 x3347 x3430 t.2.1 t.2.2 x3345 x3346))))

theorem impl_countPairs_int_v2_n9_l (x3344 : List Int) (x3429 : Int) (x3347 : Int) (x3430 : Int) (x3345 : Int) (x3346 : Int) : Link impl_countPairs_int_v2_ctx LL (Code.fst (Code.snd (Code.snd (Code.fst (Code.fst (Code.snd (Code.fst (Code.snd (Code.snd (bodyOf Tryd.f81)))))))))) (Ann.fst (Ann.snd (Ann.snd (Ann.fst (Ann.fst (Ann.snd (Ann.fst (Ann.snd (Ann.snd impl_countPairs_int_v2_an))))))))) (⟨mkE 35 0 [(0, .dat (.list (.int .i64)) x3344), (1, .fn 83 [] [.ptr 0 0, .ptr 1 0]), (5, .dat (.int .i64) x3429), (10, .dat (.list (.int .i64)) x3344), (11, .dat (.int .i64) x3347), (12, .dat (.int .i64) x3430)], [some (.box [.dat (.int .i64) x3345]), some (.box [.dat (.int .i64) x3346])]⟩ : St) (impl_countPairs_int_v2_n9 x3344 x3429 x3430 x3345 x3346) (fun (t : Int) => (Exit.normal, (⟨mkE 35 0 [(0, .dat (.list (.int .i64)) x3344), (1, .fn 83 [] [.ptr 0 0, .ptr 1 0]), (5, .dat (.int .i64) t), (10, .dat (.list (.int .i64)) x3344), (11, .dat (.int .i64) x3347), (12, .dat (.int .i64) x3430)], [some (.box [.dat (.int .i64) x3345]), some (.box [.dat (.int .i64) x3346])]⟩ : St))) := by
  unfold impl_countPairs_int_v2_n9
  exact Link.cast (by kernel_rfl) (by kernel_rfl) (link_block (id := 1) (impl_countPairs_int_v2_n8_l x3344 x3429 x3347 x3430 x3345 x3346) (fun (t : Int) => t) (by
  rintro t K h
  · exact Eq.mp (by kernel_rfl) h))

theorem impl_countPairs_int_v2_n10_l (x3344 : List Int) (x3454 : Int) (x3347 : Int) (x3430 : Int) (x3345 : Int) (x3346 : Int) : Link impl_countPairs_int_v2_ctx LL (Code.snd (Code.snd (Code.snd (Code.fst (Code.fst (Code.snd (Code.fst (Code.snd (Code.snd (bodyOf Tryd.f81)))))))))) (Ann.snd (Ann.snd (Ann.snd (Ann.fst (Ann.fst (Ann.snd (Ann.fst (Ann.snd (Ann.snd impl_countPairs_int_v2_an))))))))) (⟨mkE 35 0 [(0, .dat (.list (.int .i64)) x3344), (1, .fn 83 [] [.ptr 0 0, .ptr 1 0]), (5, .dat (.int .i64) x3454), (10, .dat (.list (.int .i64)) x3344), (11, .dat (.int .i64) x3347), (12, .dat (.int .i64) x3430)], [some (.box [.dat (.int .i64) x3345]), some (.box [.dat (.int .i64) x3346])]⟩ : St) (impl_countPairs_int_v2_n10 x3430) (fun (t : Int) => (Exit.normal, (⟨mkE 35 0 [(0, .dat (.list (.int .i64)) x3344), (1, .fn 83 [] [.ptr 0 0, .ptr 1 0]), (5, .dat (.int .i64) x3454), (10, .dat (.list (.int .i64)) x3344), (11, .dat (.int .i64) x3347), (12, .dat (.int .i64) t)], [some (.box [.dat (.int .i64) x3345]), some (.box [.dat (.int .i64) x3346])]⟩ : St))) := by
  refine Link.of fun K h => ?_
  simp only [impl_countPairs_int_v2_n10, wpO_bind, wpO_cond, wpO_map, wpO_some] at h
  exact Awp.of (by kernel_rfl) h

theorem impl_countPairs_int_v2_n11_l (x3344 : List Int) (x3429 : Int) (x3347 : Int) (x3430 : Int) (x3345 : Int) (x3346 : Int) : Link impl_countPairs_int_v2_ctx LL (Code.snd (Code.snd (Code.fst (Code.fst (Code.snd (Code.fst (Code.snd (Code.snd (bodyOf Tryd.f81))))))))) (Ann.snd (Ann.snd (Ann.fst (Ann.fst (Ann.snd (Ann.fst (Ann.snd (Ann.snd impl_countPairs_int_v2_an)))))))) (⟨mkE 35 0 [(0, .dat (.list (.int .i64)) x3344), (1, .fn 83 [] [.ptr 0 0, .ptr 1 0]), (5, .dat (.int .i64) x3429), (10, .dat (.list (.int .i64)) x3344), (11, .dat (.int .i64) x3347), (12, .dat (.int .i64) x3430)], [some (.box [.dat (.int .i64) x3345]), some (.box [.dat (.int .i64) x3346])]⟩ : St) (impl_countPairs_int_v2_n11 x3344 x3429 x3430 x3345 x3346) (fun (t : Int × Int) => (Exit.normal, (⟨mkE 35 0 [(0, .dat (.list (.int .i64)) x3344), (1, .fn 83 [] [.ptr 0 0, .ptr 1 0]), (5, .dat (.int .i64) t.1), (10, .dat (.list (.int .i64)) x3344), (11, .dat (.int .i64) x3347), (12, .dat (.int .i64) t.2)], [some (.box [.dat (.int .i64) x3345]), some (.box [.dat (.int .i64) x3346])]⟩ : St))) := by
  unfold impl_countPairs_int_v2_n11
  exact Link.cast (by kernel_rfl) (by kernel_rfl) (link_seq (b := (Code.snd (Code.snd (Code.snd (Code.fst (Code.fst (Code.snd (Code.fst (Code.snd (Code.snd (bodyOf Tryd.f81))))))))))) (y := (Ann.snd (Ann.snd (Ann.snd (Ann.fst (Ann.fst (Ann.snd (Ann.fst (Ann.snd (Ann.snd impl_countPairs_int_v2_an)))))))))) (impl_countPairs_int_v2_n9_l x3344 x3429 x3347 x3430 x3345 x3346) (fun (t : Int) => (link_map (impl_countPairs_int_v2_n10_l x3344 t x3347 x3430 x3345 x3346) (fun (u : Int) => (t, u)) (by
  rintro t
  · kernel_rfl))))

theorem impl_countPairs_int_v2_n12_l (x3344 : List Int) (x3429 : Int) (x3347 : Int) (x3430 : Int) (x3345 : Int) (x3346 : Int) : Link impl_countPairs_int_v2_ctx LL (Code.fst (Code.fst (Code.snd (Code.fst (Code.snd (Code.snd (bodyOf Tryd.f81))))))) (Ann.fst (Ann.fst (Ann.snd (Ann.fst (Ann.snd (Ann.snd impl_countPairs_int_v2_an)))))) (⟨mkE 35 0 [(0, .dat (.list (.int .i64)) x3344), (1, .fn 83 [] [.ptr 0 0, .ptr 1 0]), (5, .dat (.int .i64) x3429), (10, .dat (.list (.int .i64)) x3344), (11, .dat (.int .i64) x3347), (12, .dat (.int .i64) x3430)], [some (.box [.dat (.int .i64) x3345]), some (.box [.dat (.int .i64) x3346])]⟩ : St) (impl_countPairs_int_v2_n12 x3344 x3429 x3347 x3430 x3345 x3346) (Sum.elim (fun (t : Int × Int) => (Exit.normal, (⟨mkE 35 0 [(0, .dat (.list (.int .i64)) x3344), (1, .fn 83 [] [.ptr 0 0, .ptr 1 0]), (5, .dat (.int .i64) t.1), (10, .dat (.list (.int .i64)) x3344), (11, .dat (.int .i64) x3347), (12, .dat (.int .i64) t.2)], [some (.box [.dat (.int .i64) x3345]), some (.box [.dat (.int .i64) x3346])]⟩ : St))) (fun (t : Int) => ((Exit.exit 0), (⟨mkE 35 0 [(5, .dat (.int .i64) t)], [some (.box [.dat (.int .i64) x3345]), some (.box [.dat (.int .i64) x3346])]⟩ : St)))) := by
  unfold impl_countPairs_int_v2_n12
  exact Link.cast (by kernel_rfl) (by kernel_rfl) (link_group (c := (Code.fst (Code.snd (Code.fst (Code.fst (Code.snd (Code.fst (Code.snd (Code.snd (bodyOf Tryd.f81)))))))))) (a := (Ann.fst (Ann.snd (Ann.fst (Ann.fst (Ann.snd (Ann.fst (Ann.snd (Ann.snd impl_countPairs_int_v2_an))))))))) [(Code.fst (Code.fst (Code.fst (Code.snd (Code.fst (Code.snd (Code.snd (bodyOf Tryd.f81))))))))] [(Ann.fst (Ann.fst (Ann.fst (Ann.snd (Ann.fst (Ann.snd (Ann.snd impl_countPairs_int_v2_an)))))))] rfl (link_seq2 (b := (Code.snd (Code.snd (Code.fst (Code.fst (Code.snd (Code.fst (Code.snd (Code.snd (bodyOf Tryd.f81)))))))))) (y := (Ann.snd (Ann.snd (Ann.fst (Ann.fst (Ann.snd (Ann.fst (Ann.snd (Ann.snd impl_countPairs_int_v2_an))))))))) (impl_countPairs_int_v2_n3_l x3344 x3429 x3347 x3430 x3345 x3346) (fun (t : Unit) => (link_map (impl_countPairs_int_v2_n11_l x3344 x3429 x3347 x3430 x3345 x3346) (fun (t : Int × Int) => (Sum.inl (t.1, t.2))) (by
  rintro t
  · kernel_rfl))) (fun (t : Int) => (Sum.inr t)) (by
  rintro t
  · kernel_rfl) (by
  rintro t f K h
  · exact h)))

theorem impl_countPairs_int_v2_n13_l (x3344 : List Int) (x3347 : Int) (x3345 : Int) (x3346 : Int) : Link impl_countPairs_int_v2_ctx LL (Code.fst (Code.snd (Code.fst (Code.snd (Code.snd (bodyOf Tryd.f81)))))) (Ann.fst (Ann.snd (Ann.fst (Ann.snd (Ann.snd impl_countPairs_int_v2_an))))) (⟨mkE 35 0 [(0, .dat (.list (.int .i64)) x3344), (1, .fn 83 [] [.ptr 0 0, .ptr 1 0]), (5, .dat (.int .i64) 0), (10, .dat (.list (.int .i64)) x3344), (11, .dat (.int .i64) x3347), (12, .dat (.int .i64) 0)], [some (.box [.dat (.int .i64) x3345]), some (.box [.dat (.int .i64) x3346])]⟩ : St) (impl_countPairs_int_v2_n13 x3344 x3347 x3345 x3346) (fun (t : Int) => ((Exit.exit 0), (⟨mkE 35 0 [(5, .dat (.int .i64) t)], [some (.box [.dat (.int .i64) x3345]), some (.box [.dat (.int .i64) x3346])]⟩ : St))) := by
  unfold impl_countPairs_int_v2_n13
  exact Link.cast (by kernel_rfl) (by kernel_rfl) (link_loop (mk := fun (s : Int × Int) => (⟨mkE 35 0 [(0, .dat (.list (.int .i64)) x3344), (1, .fn 83 [] [.ptr 0 0, .ptr 1 0]), (5, .dat (.int .i64) s.1), (10, .dat (.list (.int .i64)) x3344), (11, .dat (.int .i64) x3347), (12, .dat (.int .i64) s.2)], [some (.box [.dat (.int .i64) x3345]), some (.box [.dat (.int .i64) x3346])]⟩ : St)) (fin := (fun (t : Int) => ((Exit.exit 0), (⟨mkE 35 0 [(5, .dat (.int .i64) t)], [some (.box [.dat (.int .i64) x3345]), some (.box [.dat (.int .i64) x3346])]⟩ : St)))) (by
  rintro t f K h
  · exact h) (fun s => link_map (impl_countPairs_int_v2_n12_l x3344 s.1 x3347 s.2 x3345 x3346) (Sum.elim (fun (t : Int × Int) => Sum.inl (t.1, t.2)) (fun (t : Int) => Sum.inr t)) (by
  rintro (t | t)
  · kernel_rfl
  · kernel_rfl)) (0, 0))

theorem impl_countPairs_int_v2_n14_l (x3344 : List Int) (x3347 : Int) (x3345 : Int) (x3346 : Int) : Link impl_countPairs_int_v2_ctx LL (Code.snd (Code.fst (Code.snd (Code.snd (bodyOf Tryd.f81))))) (Ann.snd (Ann.fst (Ann.snd (Ann.snd impl_countPairs_int_v2_an)))) (⟨mkE 35 0 [(0, .dat (.list (.int .i64)) x3344), (1, .fn 83 [] [.ptr 0 0, .ptr 1 0]), (5, .dat (.int .i64) 0), (10, .dat (.list (.int .i64)) x3344), (11, .dat (.int .i64) x3347), (12, .dat (.int .i64) 0)], [some (.box [.dat (.int .i64) x3345]), some (.box [.dat (.int .i64) x3346])]⟩ : St) (impl_countPairs_int_v2_n14 x3344 x3347 x3345 x3346) (fun (t : Int) => (Exit.normal, (⟨mkE 35 0 [(5, .dat (.int .i64) t)], [some (.box [.dat (.int .i64) x3345]), some (.box [.dat (.int .i64) x3346])]⟩ : St))) := by
  unfold impl_countPairs_int_v2_n14
  exact Link.cast (by kernel_rfl) (by kernel_rfl) (link_block (id := 0) (impl_countPairs_int_v2_n13_l x3344 x3347 x3345 x3346) (fun (t : Int) => t) (by
  rintro t K h
  · exact Eq.mp (by kernel_rfl) h))

theorem impl_countPairs_int_v2_n15_l (x3344 : List Int) (x3345 : Int) (x3346 : Int) : Link impl_countPairs_int_v2_ctx LL (Code.fst (Code.snd (Code.snd (bodyOf Tryd.f81)))) (Ann.fst (Ann.snd (Ann.snd impl_countPairs_int_v2_an))) (⟨mkE 35 0 [(0, .dat (.list (.int .i64)) x3344), (1, .fn 83 [] [.ptr 0 0, .ptr 1 0]), (5, .dat (.int .i64) 0)], [some (.box [.dat (.int .i64) x3345]), some (.box [.dat (.int .i64) x3346])]⟩ : St) (impl_countPairs_int_v2_n15 x3344 x3345 x3346) (fun (t : Int) => (Exit.normal, (⟨mkE 35 0 [(5, .dat (.int .i64) t)], [some (.box [.dat (.int .i64) x3345]), some (.box [.dat (.int .i64) x3346])]⟩ : St))) := by
  unfold impl_countPairs_int_v2_n15
  exact Link.cast (by kernel_rfl) (by kernel_rfl) (link_seq (b := (Code.snd (Code.fst (Code.snd (Code.snd (bodyOf Tryd.f81)))))) (y := (Ann.snd (Ann.fst (Ann.snd (Ann.snd impl_countPairs_int_v2_an))))) (impl_countPairs_int_v2_n2_l x3344 x3345 x3346) (fun (t : Int) => (impl_countPairs_int_v2_n14_l x3344 t x3345 x3346)))

theorem impl_countPairs_int_v2_n16_l (x3429 : Int) (x3345 : Int) (x3346 : Int) : Link impl_countPairs_int_v2_ctx LL (Code.snd (Code.snd (Code.snd (bodyOf Tryd.f81)))) (Ann.snd (Ann.snd (Ann.snd impl_countPairs_int_v2_an))) (⟨mkE 35 0 [(5, .dat (.int .i64) x3429)], [some (.box [.dat (.int .i64) x3345]), some (.box [.dat (.int .i64) x3346])]⟩ : St) (impl_countPairs_int_v2_n16 x3429) (fun (t : Int) => (Exit.ret, (⟨mkE 35 0 [(4, .dat (.int .i64) t)], [some (.box [.dat (.int .i64) x3345]), some (.box [.dat (.int .i64) x3346])]⟩ : St))) := by
  refine Link.of fun K h => ?_
  simp only [impl_countPairs_int_v2_n16, wpO_bind, wpO_cond, wpO_map, wpO_some] at h
  exact Awp.of (by kernel_rfl) h

theorem impl_countPairs_int_v2_n17_l (x3344 : List Int) (x3345 : Int) (x3346 : Int) : Link impl_countPairs_int_v2_ctx LL (Code.snd (Code.snd (bodyOf Tryd.f81))) (Ann.snd (Ann.snd impl_countPairs_int_v2_an)) (⟨mkE 35 0 [(0, .dat (.list (.int .i64)) x3344), (1, .fn 83 [] [.ptr 0 0, .ptr 1 0]), (5, .dat (.int .i64) 0)], [some (.box [.dat (.int .i64) x3345]), some (.box [.dat (.int .i64) x3346])]⟩ : St) (impl_countPairs_int_v2_n17 x3344 x3345 x3346) (fun (t : Int) => (Exit.ret, (⟨mkE 35 0 [(4, .dat (.int .i64) t)], [some (.box [.dat (.int .i64) x3345]), some (.box [.dat (.int .i64) x3346])]⟩ : St))) := by
  unfold impl_countPairs_int_v2_n17
  exact Link.cast (by kernel_rfl) (by kernel_rfl) (link_seq (b := (Code.snd (Code.snd (Code.snd (bodyOf Tryd.f81))))) (y := (Ann.snd (Ann.snd (Ann.snd impl_countPairs_int_v2_an)))) (impl_countPairs_int_v2_n15_l x3344 x3345 x3346) (fun (t : Int) => (impl_countPairs_int_v2_n16_l t x3345 x3346)))

theorem impl_countPairs_int_v2_n18_l (x3344 : List Int) (x3345 : Int) (x3346 : Int) : Link impl_countPairs_int_v2_ctx LL (bodyOf Tryd.f81) impl_countPairs_int_v2_an (⟨mkE 35 0 [(0, .dat (.list (.int .i64)) x3344), (1, .fn 83 [] [.ptr 0 0, .ptr 1 0])], [some (.box [.dat (.int .i64) x3345]), some (.box [.dat (.int .i64) x3346])]⟩ : St) (impl_countPairs_int_v2_n18 x3344 x3345 x3346) (fun (t : Int) => (Exit.ret, (⟨mkE 35 0 [(4, .dat (.int .i64) t)], [some (.box [.dat (.int .i64) x3345]), some (.box [.dat (.int .i64) x3346])]⟩ : St))) := by
  unfold impl_countPairs_int_v2_n18
  exact Link.cast (by kernel_rfl) (by kernel_rfl) (link_group (c := (Code.fst (Code.snd (bodyOf Tryd.f81)))) (a := (Ann.fst (Ann.snd impl_countPairs_int_v2_an))) [(Code.fst (bodyOf Tryd.f81))] [(Ann.fst impl_countPairs_int_v2_an)] rfl (link_seq (b := (Code.snd (Code.snd (bodyOf Tryd.f81)))) (y := (Ann.snd (Ann.snd impl_countPairs_int_v2_an))) (impl_countPairs_int_v2_n1_l x3344 x3345 x3346) (fun (t : Unit) => (impl_countPairs_int_v2_n17_l x3344 x3345 x3346))))

theorem impl_countPairs_int_v2_e (x3344 : List Int) (x3345 : Int) (x3346 : Int) {r : AV} {H' : Heap} (h : (Ans.mk _ (impl_countPairs_int_v2 x3344 x3345 x3346) (fun (t : Int) => (.dat (.int .i64) t, [some (.box [.dat (.int .i64) x3345]), some (.box [.dat (.int .i64) x3346])]))).run = some (r, H')) : Awp impl_countPairs_int_v2_ctx LL (bodyOf Tryd.f81) impl_countPairs_int_v2_an (⟨mkE 35 0 [(0, .dat (.list (.int .i64)) x3344), (1, .fn 83 [] [.ptr 0 0, .ptr 1 0])], [some (.box [.dat (.int .i64) x3345]), some (.box [.dat (.int .i64) x3346])]⟩ : St) (Ret (tlook tys) Tryd.f81.results.toList r H') :=
  ret_of' (impl_countPairs_int_v2_n18_l x3344 x3345 x3346) (by unfold impl_countPairs_int_v2; kernel_rfl) (by
  intro t
  exact ret_mk [.dat (.int .i64) t] (by kernel_rfl) (by kernel_rfl) (by kernel_rfl) (by kernel_rfl)) h

def F_impl_countPairs_int_v2 : Fun := fun avs H =>
  match avs, H with
  | [.dat (.list (.int .i64)) x3344, .fn 83 [] [.ptr 0 0, .ptr 1 0]], [some (.box [.dat (.int .i64) x3345]), some (.box [.dat (.int .i64) x3346])] => ⟨_, impl_countPairs_int_v2 x3344 x3345 x3346, fun (t : Int) => (.dat (.int .i64) t, [some (.box [.dat (.int .i64) x3345]), some (.box [.dat (.int .i64) x3346])])⟩
  | _, _ => Ans.no

theorem impl_countPairs_int_v2_sound : Sound Tryd.prog 81 F_impl_countPairs_int_v2 := by
  refine fn_sound' (C := impl_countPairs_int_v2_ctx) (c := bodyOf Tryd.f81) (cok_of tys_ok (List.forall_mem_cons.2 ⟨impl_goByTurns_1_1_sound, by simp⟩) (List.forall_mem_cons.2 ⟨Tryd.call83, by simp⟩) (by kernel_rfl)) Tryd.func81 (by kernel_rfl) LL impl_countPairs_int_v2_an ?_
  intro avs H r H' h
  unfold F_impl_countPairs_int_v2 at h
  split at h
  · refine Awp.cast ?_ ?_ ?_ (impl_countPairs_int_v2_e _ _ _ h) <;> kernel_rfl
  · simp [Ans.no, Ans.run] at h


/-! loop.example/headtrees/impl.goByTurns$1 -/

def impl_goByTurns_1_an : Ann := (.seq (.leaf [2, 3, 4]) (.seq (.leaf [5]) (.leaf [5])))

noncomputable def impl_goByTurns_1_ctx : Ctx := ⟨tlook tys, olook [(81, F_impl_countPairs_int_v2)], ioF, 2, false⟩

theorem impl_goByTurns_1_n1_l (x3341 : Int) (x3342 : Int) (x3343 : List Int) : Link impl_goByTurns_1_ctx LL (bodyOf Tryd.f82) impl_goByTurns_1_an (⟨mkE 10 0 [(0, .dat (.int .i64) x3341), (1, .dat (.int .i64) x3342), (2, .ptr 0 0)], [some (.box [.slc 1]), some (.seq (.int .i64) x3343)]⟩ : St) (impl_goByTurns_1_n1 x3341 x3342 x3343) (fun (t : Bool) => (Exit.ret, (⟨mkE 10 0 [(5, .dat .bool t)], [some (.box [.slc 1]), some (.seq (.int .i64) x3343)]⟩ : St))) := by
  refine Link.of fun K h => ?_
  simp only [impl_goByTurns_1_n1, wpO_bind, wpO_cond, wpO_map, wpO_some] at h
  exact Awp.of (by kernel_rfl) h

theorem impl_goByTurns_1_e (x3341 : Int) (x3342 : Int) (x3343 : List Int) {r : AV} {H' : Heap} (h : (Ans.mk _ (impl_goByTurns_1 x3341 x3342 x3343) (fun (t : Bool) => (.dat .bool t, [some (.box [.slc 1]), some (.seq (.int .i64) x3343)]))).run = some (r, H')) : Awp impl_goByTurns_1_ctx LL (bodyOf Tryd.f82) impl_goByTurns_1_an (⟨mkE 10 0 [(0, .dat (.int .i64) x3341), (1, .dat (.int .i64) x3342), (2, .ptr 0 0)], [some (.box [.slc 1]), some (.seq (.int .i64) x3343)]⟩ : St) (Ret (tlook tys) Tryd.f82.results.toList r H') :=
  ret_of' (impl_goByTurns_1_n1_l x3341 x3342 x3343) (by unfold impl_goByTurns_1; kernel_rfl) (by
  intro t
  exact ret_mk [.dat .bool t] (by kernel_rfl) (by kernel_rfl) (by kernel_rfl) (by kernel_rfl)) h

def F_impl_goByTurns_1 : Fun := fun avs H =>
  match avs, H with
  | [.dat (.int .i64) x3341, .dat (.int .i64) x3342, .ptr 0 0], [some (.box [.slc 1]), some (.seq (.int .i64) x3343)] => ⟨_, impl_goByTurns_1 x3341 x3342 x3343, fun (t : Bool) => (.dat .bool t, [some (.box [.slc 1]), some (.seq (.int .i64) x3343)])⟩
  | _, _ => Ans.no

theorem impl_goByTurns_1_sound : Sound Tryd.prog 82 F_impl_goByTurns_1 := by
  refine fn_sound' (C := impl_goByTurns_1_ctx) (c := bodyOf Tryd.f82) (cok_of tys_ok (List.forall_mem_cons.2 ⟨impl_countPairs_int_v2_sound, by simp⟩) (List.forall_mem_cons.2 ⟨Tryd.call81, by simp⟩) (by kernel_rfl)) Tryd.func82 (by kernel_rfl) LL impl_goByTurns_1_an ?_
  intro avs H r H' h
  unfold F_impl_goByTurns_1 at h
  split at h
  · refine Awp.cast ?_ ?_ ?_ (impl_goByTurns_1_e _ _ _ h) <;> kernel_rfl
  · simp [Ans.no, Ans.run] at h


/-! loop.example/headtrees/impl.countPairs[int] -/

def impl_countPairs_int_an : Ann := (.seq (.leaf [0, 1]) (.seq (.leaf [0, 1, 5]) (.seq (.seq (.leaf [0, 1, 5, 10, 11, 12]) (.block (.loop (.seq (.leaf [0, 1, 5, 10, 11, 12, 13]) (.seq (.cond (.leaf [0, 1, 5, 10, 11, 12]) (.leaf [5])) (.seq (.block (.seq (.leaf [0, 1, 5, 6, 7, 10, 11, 12]) (.seq (.leaf [0, 1, 5, 7, 10, 11, 12, 20, 21, 22]) (.block (.loop (.seq (.leaf [0, 1, 5, 7, 10, 11, 12, 20, 21, 22, 23]) (.seq (.cond (.leaf [0, 1, 5, 7, 10, 11, 12, 20, 21, 22]) (.leaf [0, 1, 5, 10, 11, 12])) (.seq (.block (.seq (.leaf [0, 1, 5, 7, 9, 10, 11, 12, 20, 21, 22]) (.seq (.leaf [0, 1, 5, 7, 10, 11, 12, 20, 21, 22, 29]) (.cond (.leaf [0, 1, 5, 7, 10, 11, 12, 20, 21, 22]) (.leaf [0, 1, 5, 7, 10, 11, 12, 20, 21, 22]))))) (.leaf [0, 1, 5, 7, 10, 11, 12, 20, 21, 22]))))))))) (.leaf [0, 1, 5, 10, 11, 12]))))))) (.seq (.leaf [4]) (.leaf [4])))))

noncomputable def impl_countPairs_int_ctx : Ctx := ⟨tlook tys, olook [(82, F_impl_goByTurns_1)], ioF, 2, false⟩

theorem impl_countPairs_int_n1_l (x3325 : List Int) (x3326 : List Int) : Link impl_countPairs_int_ctx LL (Code.seq (Code.fst (bodyOf Tryd.f81)) (Code.fst (Code.snd (bodyOf Tryd.f81)))) (Ann.seq (Ann.fst impl_countPairs_int_an) (Ann.fst (Ann.snd impl_countPairs_int_an))) (⟨mkE 35 0 [(0, .dat (.list (.int .i64)) x3325), (1, .fn 82 [] [.ptr 0 0])], [some (.box [.slc 1]), some (.seq (.int .i64) x3326)]⟩ : St) (impl_countPairs_int_n1) (fun (t : Unit) => (Exit.normal, (⟨mkE 35 0 [(0, .dat (.list (.int .i64)) x3325), (1, .fn 82 [] [.ptr 0 0]), (5, .dat (.int .i64) 0)], [some (.box [.slc 1]), some (.seq (.int .i64) x3326)]⟩ : St))) := by
  refine Link.of fun K h => ?_
  simp only [impl_countPairs_int_n1, wpO_bind, wpO_cond, wpO_map, wpO_some] at h
  exact Awp.of (by kernel_rfl) h

theorem impl_countPairs_int_n2_l (x3325 : List Int) (x3326 : List Int) : Link impl_countPairs_int_ctx LL (Code.fst (Code.fst (Code.snd (Code.snd (bodyOf Tryd.f81))))) (Ann.fst (Ann.fst (Ann.snd (Ann.snd impl_countPairs_int_an)))) (⟨mkE 35 0 [(0, .dat (.list (.int .i64)) x3325), (1, .fn 82 [] [.ptr 0 0]), (5, .dat (.int .i64) 0)], [some (.box [.slc 1]), some (.seq (.int .i64) x3326)]⟩ : St) (impl_countPairs_int_n2 x3325) (fun (t : Int) => (Exit.normal, (⟨mkE 35 0 [(0, .dat (.list (.int .i64)) x3325), (1, .fn 82 [] [.ptr 0 0]), (5, .dat (.int .i64) 0), (10, .dat (.list (.int .i64)) x3325), (11, .dat (.int .i64) t), (12, .dat (.int .i64) 0)], [some (.box [.slc 1]), some (.seq (.int .i64) x3326)]⟩ : St))) := by
  refine Link.of fun K h => ?_
  simp only [impl_countPairs_int_n2, wpO_bind, wpO_cond, wpO_map, wpO_some] at h
  exact Awp.of (by kernel_rfl) h

theorem impl_countPairs_int_n3_l (x3325 : List Int) (x3502 : Int) (x3327 : Int) (x3503 : Int) (x3326 : List Int) : Link impl_countPairs_int_ctx LL (Code.seq (Code.fst (Code.fst (Code.fst (Code.snd (Code.fst (Code.snd (Code.snd (bodyOf Tryd.f81)))))))) (Code.fst (Code.snd (Code.fst (Code.fst (Code.snd (Code.fst (Code.snd (Code.snd (bodyOf Tryd.f81)))))))))) (Ann.seq (Ann.fst (Ann.fst (Ann.fst (Ann.snd (Ann.fst (Ann.snd (Ann.snd impl_countPairs_int_an))))))) (Ann.fst (Ann.snd (Ann.fst (Ann.fst (Ann.snd (Ann.fst (Ann.snd (Ann.snd impl_countPairs_int_an))))))))) (⟨mkE 35 0 [(0, .dat (.list (.int .i64)) x3325), (1, .fn 82 [] [.ptr 0 0]), (5, .dat (.int .i64) x3502), (10, .dat (.list (.int .i64)) x3325), (11, .dat (.int .i64) x3327), (12, .dat (.int .i64) x3503)], [some (.box [.slc 1]), some (.seq (.int .i64) x3326)]⟩ : St) (impl_countPairs_int_n3 x3502 x3327 x3503) (Sum.elim (fun (t : Unit) => (Exit.normal, (⟨mkE 35 0 [(0, .dat (.list (.int .i64)) x3325), (1, .fn 82 [] [.ptr 0 0]), (5, .dat (.int .i64) x3502), (10, .dat (.list (.int .i64)) x3325), (11, .dat (.int .i64) x3327), (12, .dat (.int .i64) x3503)], [some (.box [.slc 1]), some (.seq (.int .i64) x3326)]⟩ : St))) (fun (t : Int) => ((Exit.exit 0), (⟨mkE 35 0 [(5, .dat (.int .i64) t)], [some (.box [.slc 1]), some (.seq (.int .i64) x3326)]⟩ : St)))) := by
  refine Link.of fun K h => ?_
  simp only [impl_countPairs_int_n3, wpO_bind, wpO_cond, wpO_map, wpO_some] at h
  exact Awp.of (by kernel_rfl) h

theorem impl_countPairs_int_n4_l (x3325 : List Int) (x3502 : Int) (x3327 : Int) (x3503 : Int) (x3326 : List Int) : Link impl_countPairs_int_ctx LL (Code.seq (Code.fst (Code.fst (Code.fst (Code.snd (Code.snd (Code.fst (Code.fst (Code.snd (Code.fst (Code.snd (Code.snd (bodyOf Tryd.f81)))))))))))) (Code.fst (Code.snd (Code.fst (Code.fst (Code.snd (Code.snd (Code.fst (Code.fst (Code.snd (Code.fst (Code.snd (Code.snd (bodyOf Tryd.f81)))))))))))))) (Ann.seq (Ann.fst (Ann.fst (Ann.fst (Ann.snd (Ann.snd (Ann.fst (Ann.fst (Ann.snd (Ann.fst (Ann.snd (Ann.snd impl_countPairs_int_an))))))))))) (Ann.fst (Ann.snd (Ann.fst (Ann.fst (Ann.snd (Ann.snd (Ann.fst (Ann.fst (Ann.snd (Ann.fst (Ann.snd (Ann.snd impl_countPairs_int_an))))))))))))) (⟨mkE 35 0 [(0, .dat (.list (.int .i64)) x3325), (1, .fn 82 [] [.ptr 0 0]), (5, .dat (.int .i64) x3502), (10, .dat (.list (.int .i64)) x3325), (11, .dat (.int .i64) x3327), (12, .dat (.int .i64) x3503)], [some (.box [.slc 1]), some (.seq (.int .i64) x3326)]⟩ : St) (impl_countPairs_int_n4 x3325 x3503) (fun (t : Int × (List Int) × Int) => (Exit.normal, (⟨mkE 35 0 [(0, .dat (.list (.int .i64)) x3325), (1, .fn 82 [] [.ptr 0 0]), (5, .dat (.int .i64) x3502), (7, .dat (.int .i64) t.1), (10, .dat (.list (.int .i64)) x3325), (11, .dat (.int .i64) x3327), (12, .dat (.int .i64) x3503), (20, .dat (.list (.int .i64)) t.2.1), (21, .dat (.int .i64) t.2.2), (22, .dat (.int .i64) 0)], [some (.box [.slc 1]), some (.seq (.int .i64) x3326)]⟩ : St))) := by
  refine Link.of fun K h => ?_
  simp only [impl_countPairs_int_n4, wpO_bind, wpO_cond, wpO_map, wpO_some] at h
  exact Awp.of (by kernel_rfl) h

theorem impl_countPairs_int_n5_l (x3325 : List Int) (x3527 : Int) (x3507 : Int) (x3327 : Int) (x3503 : Int) (x3511 : List Int) (x3512 : Int) (x3528 : Int) (x3326 : List Int) : Link impl_countPairs_int_ctx LL (Code.fst (Code.fst (Code.snd (Code.snd (Code.fst (Code.fst (Code.snd (Code.snd (Code.fst (Code.fst (Code.snd (Code.fst (Code.snd (Code.snd (bodyOf Tryd.f81))))))))))))))) (Ann.fst (Ann.fst (Ann.snd (Ann.snd (Ann.fst (Ann.fst (Ann.snd (Ann.snd (Ann.fst (Ann.fst (Ann.snd (Ann.fst (Ann.snd (Ann.snd impl_countPairs_int_an)))))))))))))) (⟨mkE 35 0 [(0, .dat (.list (.int .i64)) x3325), (1, .fn 82 [] [.ptr 0 0]), (5, .dat (.int .i64) x3527), (7, .dat (.int .i64) x3507), (10, .dat (.list (.int .i64)) x3325), (11, .dat (.int .i64) x3327), (12, .dat (.int .i64) x3503), (20, .dat (.list (.int .i64)) x3511), (21, .dat (.int .i64) x3512), (22, .dat (.int .i64) x3528)], [some (.box [.slc 1]), some (.seq (.int .i64) x3326)]⟩ : St) (impl_countPairs_int_n5 x3527 x3507 x3511 x3512 x3528 x3326) (Sum.elim (fun (t : Int × Int) => (Exit.normal, (⟨mkE 35 0 [(0, .dat (.list (.int .i64)) x3325), (1, .fn 82 [] [.ptr 0 0]), (5, .dat (.int .i64) t.1), (7, .dat (.int .i64) x3507), (10, .dat (.list (.int .i64)) x3325), (11, .dat (.int .i64) x3327), (12, .dat (.int .i64) x3503), (20, .dat (.list (.int .i64)) x3511), (21, .dat (.int .i64) x3512), (22, .dat (.int .i64) t.2)], [some (.box [.slc 1]), some (.seq (.int .i64) x3326)]⟩ : St))) (fun (t : Int) => ((Exit.exit 2), (⟨mkE 35 0 [(0, .dat (.list (.int .i64)) x3325), (1, .fn 82 [] [.ptr 0 0]), (5, .dat (.int .i64) t), (10, .dat (.list (.int .i64)) x3325), (11, .dat (.int .i64) x3327), (12, .dat (.int .i64) x3503)], [some (.box [.slc 1]), some (.seq (.int .i64) x3326)]⟩ : St)))) := by
  refine Link.of fun K h => ?_
  simp only [impl_countPairs_int_n5, wpO_bind, wpO_cond, wpO_map, wpO_some] at h
  exact Awp.of (by kernel_rfl) h

theorem impl_countPairs_int_n6_l (x3325 : List Int) (x3502 : Int) (x3507 : Int) (x3327 : Int) (x3503 : Int) (x3511 : List Int) (x3512 : Int) (x3326 : List Int) : Link impl_countPairs_int_ctx LL (Code.fst (Code.snd (Code.snd (Code.fst (Code.fst (Code.snd (Code.snd (Code.fst (Code.fst (Code.snd (Code.fst (Code.snd (Code.snd (bodyOf Tryd.f81)))))))))))))) (Ann.fst (Ann.snd (Ann.snd (Ann.fst (Ann.fst (Ann.snd (Ann.snd (Ann.fst (Ann.fst (Ann.snd (Ann.fst (Ann.snd (Ann.snd impl_countPairs_int_an))))))))))))) (⟨mkE 35 0 [(0, .dat (.list (.int .i64)) x3325), (1, .fn 82 [] [.ptr 0 0]), (5, .dat (.int .i64) x3502), (7, .dat (.int .i64) x3507), (10, .dat (.list (.int .i64)) x3325), (11, .dat (.int .i64) x3327), (12, .dat (.int .i64) x3503), (20, .dat (.list (.int .i64)) x3511), (21, .dat (.int .i64) x3512), (22, .dat (.int .i64) 0)], [some (.box [.slc 1]), some (.seq (.int .i64) x3326)]⟩ : St) (impl_countPairs_int_n6 x3502 x3507 x3511 x3512 x3326) (fun (t : Int) => ((Exit.exit 2), (⟨mkE 35 0 [(0, .dat (.list (.int .i64)) x3325), (1, .fn 82 [] [.ptr 0 0]), (5, .dat (.int .i64) t), (10, .dat (.list (.int .i64)) x3325), (11, .dat (.int .i64) x3327), (12, .dat (.int .i64) x3503)], [some (.box [.slc 1]), some (.seq (.int .i64) x3326)]⟩ : St))) := by
  unfold impl_countPairs_int_n6
  exact Link.cast (by kernel_rfl) (by kernel_rfl) (link_loop (mk := fun (s : Int × Int) => (⟨mkE 35 0 [(0, .dat (.list (.int .i64)) x3325), (1, .fn 82 [] [.ptr 0 0]), (5, .dat (.int .i64) s.1), (7, .dat (.int .i64) x3507), (10, .dat (.list (.int .i64)) x3325), (11, .dat (.int .i64) x3327), (12, .dat (.int .i64) x3503), (20, .dat (.list (.int .i64)) x3511), (21, .dat (.int .i64) x3512), (22, .dat (.int .i64) s.2)], [some (.box [.slc 1]), some (.seq (.int .i64) x3326)]⟩ : St)) (fin := (fun (t : Int) => ((Exit.exit 2), (⟨mkE 35 0 [(0, .dat (.list (.int .i64)) x3325), (1, .fn 82 [] [.ptr 0 0]), (5, .dat (.int .i64) t), (10, .dat (.list (.int .i64)) x3325), (11, .dat (.int .i64) x3327), (12, .dat (.int .i64) x3503)], [some (.box [.slc 1]), some (.seq (.int .i64) x3326)]⟩ : St)))) (by
  rintro t f K h
  · exact h) (fun s => link_map (impl_countPairs_int_n5_l x3325 s.1 x3507 x3327 x3503 x3511 x3512 s.2 x3326) (Sum.elim (fun (t : Int × Int) => Sum.inl (t.1, t.2)) (fun (t : Int) => Sum.inr t)) (by
  rintro (t | t)
  · kernel_rfl
  · kernel_rfl)) (x3502, 0))

theorem impl_countPairs_int_n7_l (x3325 : List Int) (x3502 : Int) (x3507 : Int) (x3327 : Int) (x3503 : Int) (x3511 : List Int) (x3512 : Int) (x3326 : List Int) : Link impl_countPairs_int_ctx LL (Code.snd (Code.snd (Code.fst (Code.fst (Code.snd (Code.snd (Code.fst (Code.fst (Code.snd (Code.fst (Code.snd (Code.snd (bodyOf Tryd.f81))))))))))))) (Ann.snd (Ann.snd (Ann.fst (Ann.fst (Ann.snd (Ann.snd (Ann.fst (Ann.fst (Ann.snd (Ann.fst (Ann.snd (Ann.snd impl_countPairs_int_an)))))))))))) (⟨mkE 35 0 [(0, .dat (.list (.int .i64)) x3325), (1, .fn 82 [] [.ptr 0 0]), (5, .dat (.int .i64) x3502), (7, .dat (.int .i64) x3507), (10, .dat (.list (.int .i64)) x3325), (11, .dat (.int .i64) x3327), (12, .dat (.int .i64) x3503), (20, .dat (.list (.int .i64)) x3511), (21, .dat (.int .i64) x3512), (22, .dat (.int .i64) 0)], [some (.box [.slc 1]), some (.seq (.int .i64) x3326)]⟩ : St) (impl_countPairs_int_n7 x3502 x3507 x3511 x3512 x3326) (fun (t : Int) => (Exit.normal, (⟨mkE 35 0 [(0, .dat (.list (.int .i64)) x3325), (1, .fn 82 [] [.ptr 0 0]), (5, .dat (.int .i64) t), (10, .dat (.list (.int .i64)) x3325), (11, .dat (.int .i64) x3327), (12, .dat (.int .i64) x3503)], [some (.box [.slc 1]), some (.seq (.int .i64) x3326)]⟩ : St))) := by
  unfold impl_countPairs_int_n7
  exact Link.cast (by kernel_rfl) (by kernel_rfl) (link_block (id := 2) (impl_countPairs_int_n6_l x3325 x3502 x3507 x3327 x3503 x3511 x3512 x3326) (fun (t : Int) => t) (by
  rintro t K h
  · exact Eq.mp (by kernel_rfl) h))

theorem impl_countPairs_int_n8_l (x3325 : List Int) (x3502 : Int) (x3327 : Int) (x3503 : Int) (x3326 : List Int) : Link impl_countPairs_int_ctx LL (Code.fst (Code.fst (Code.snd (Code.snd (Code.fst (Code.fst (Code.snd (Code.fst (Code.snd (Code.snd (bodyOf Tryd.f81))))))))))) (Ann.fst (Ann.fst (Ann.snd (Ann.snd (Ann.fst (Ann.fst (Ann.snd (Ann.fst (Ann.snd (Ann.snd impl_countPairs_int_an)))))))))) (⟨mkE 35 0 [(0, .dat (.list (.int .i64)) x3325), (1, .fn 82 [] [.ptr 0 0]), (5, .dat (.int .i64) x3502), (10, .dat (.list (.int .i64)) x3325), (11, .dat (.int .i64) x3327), (12, .dat (.int .i64) x3503)], [some (.box [.slc 1]), some (.seq (.int .i64) x3326)]⟩ : St) (impl_countPairs_int_n8 x3325 x3502 x3503 x3326) (fun (t : Int) => (Exit.normal, (⟨mkE 35 0 [(0, .dat (.list (.int .i64)) x3325), (1, .fn 82 [] [.ptr 0 0]), (5, .dat (.int .i64) t), (10, .dat (.list (.int .i64)) x3325), (11, .dat (.int .i64) x3327), (12, .dat (.int .i64) x3503)], [some (.box [.slc 1]), some (.seq (.int .i64) x3326)]⟩ : St))) := by
  unfold impl_countPairs_int_n8
  exact Link.cast (by kernel_rfl) (by kernel_rfl) (link_group (c := (Code.fst (Code.snd (Code.fst (Code.fst (Code.snd (Code.snd (Code.fst (Code.fst (Code.snd (Code.fst (Code.snd (Code.snd (bodyOf Tryd.f81)))))))))))))) (a := (Ann.fst (Ann.snd (Ann.fst (Ann.fst (Ann.snd (Ann.snd (Ann.fst (Ann.fst (Ann.snd (Ann.fst (Ann.snd (Ann.snd impl_countPairs_int_an))))))))))))) [(Code.fst (Code.fst (Code.fst (Code.snd (Code.snd (Code.fst (Code.fst (Code.snd (Code.fst (Code.snd (Code.snd (bodyOf Tryd.f81))))))))))))] [(Ann.fst (Ann.fst (Ann.fst (Ann.snd (Ann.snd (Ann.fst (Ann.fst (Ann.snd (Ann.fst (Ann.snd (Ann.snd impl_countPairs_int_an)))))))))))] rfl (link_seq (b := (Code.snd (Code.snd (Code.fst (Code.fst (Code.snd (Code.snd (Code.fst (Code.fst (Code.snd (Code.fst (Code.snd (Code.snd (bodyOf Tryd.f81)))))))))))))) (y := (Ann.snd (Ann.snd (Ann.fst (Ann.fst (Ann.snd (Ann.snd (Ann.fst (Ann.fst (Ann.snd (Ann.fst (Ann.snd (Ann.snd impl_countPairs_int_an))))))))))))) (impl_countPairs_int_n4_l x3325 x3502 x3327 x3503 x3326) (fun (t : Int × (List Int) × Int) => (impl_countPairs_int_n7_l x3325 x3502 t.1 x3327 x3503 t.2.1 t.2.2 x3326))))

theorem impl_countPairs_int_n9_l (x3325 : List Int) (x3502 : Int) (x3327 : Int) (x3503 : Int) (x3326 : List Int) : Link impl_countPairs_int_ctx LL (Code.fst (Code.snd (Code.snd (Code.fst (Code.fst (Code.snd (Code.fst (Code.snd (Code.snd (bodyOf Tryd.f81)))))))))) (Ann.fst (Ann.snd (Ann.snd (Ann.fst (Ann.fst (Ann.snd (Ann.fst (Ann.snd (Ann.snd impl_countPairs_int_an))))))))) (⟨mkE 35 0 [(0, .dat (.list (.int .i64)) x3325), (1, .fn 82 [] [.ptr 0 0]), (5, .dat (.int .i64) x3502), (10, .dat (.list (.int .i64)) x3325), (11, .dat (.int .i64) x3327), (12, .dat (.int .i64) x3503)], [some (.box [.slc 1]), some (.seq (.int .i64) x3326)]⟩ : St) (impl_countPairs_int_n9 x3325 x3502 x3503 x3326) (fun (t : Int) => (Exit.normal, (⟨mkE 35 0 [(0, .dat (.list (.int .i64)) x3325), (1, .fn 82 [] [.ptr 0 0]), (5, .dat (.int .i64) t), (10, .dat (.list (.int .i64)) x3325), (11, .dat (.int .i64) x3327), (12, .dat (.int .i64) x3503)], [some (.box [.slc 1]), some (.seq (.int .i64) x3326)]⟩ : St))) := by
  unfold impl_countPairs_int_n9
  exact Link.cast (by kernel_rfl) (by kernel_rfl) (link_block (id := 1) (impl_countPairs_int_n8_l x3325 x3502 x3327 x3503 x3326) (fun (t : Int) => t) (by
  rintro t K h
  · exact Eq.mp (by kernel_rfl) h))

theorem impl_countPairs_int_n10_l (x3325 : List Int) (x3527 : Int) (x3327 : Int) (x3503 : Int) (x3326 : List Int) : Link impl_countPairs_int_ctx LL (Code.snd (Code.snd (Code.snd (Code.fst (Code.fst (Code.snd (Code.fst (Code.snd (Code.snd (bodyOf Tryd.f81)))))))))) (Ann.snd (Ann.snd (Ann.snd (Ann.fst (Ann.fst (Ann.snd (Ann.fst (Ann.snd (Ann.snd impl_countPairs_int_an))))))))) (⟨mkE 35 0 [(0, .dat (.list (.int .i64)) x3325), (1, .fn 82 [] [.ptr 0 0]), (5, .dat (.int .i64) x3527), (10, .dat (.list (.int .i64)) x3325), (11, .dat (.int .i64) x3327), (12, .dat (.int .i64) x3503)], [some (.box [.slc 1]), some (.seq (.int .i64) x3326)]⟩ : St) (impl_countPairs_int_n10 x3503) (fun (t : Int) => (Exit.normal, (⟨mkE 35 0 [(0, .dat (.list (.int .i64)) x3325), (1, .fn 82 [] [.ptr 0 0]), (5, .dat (.int .i64) x3527), (10, .dat (.list (.int .i64)) x3325), (11, .dat (.int .i64) x3327), (12, .dat (.int .i64) t)], [some (.box [.slc 1]), some (.seq (.int .i64) x3326)]⟩ : St))) := by
  refine Link.of fun K h => ?_
  simp only [impl_countPairs_int_n10, wpO_bind, wpO_cond, wpO_map, wpO_some] at h
  exact Awp.of (by kernel_rfl) h

theorem impl_countPairs_int_n11_l (x3325 : List Int) (x3502 : Int) (x3327 : Int) (x3503 : Int) (x3326 : List Int) : Link impl_countPairs_int_ctx LL (Code.snd (Code.snd (Code.fst (Code.fst (Code.snd (Code.fst (Code.snd (Code.snd (bodyOf Tryd.f81))))))))) (Ann.snd (Ann.snd (Ann.fst (Ann.fst (Ann.snd (Ann.fst (Ann.snd (Ann.snd impl_countPairs_int_an)))))))) (⟨mkE 35 0 [(0, .dat (.list (.int .i64)) x3325), (1, .fn 82 [] [.ptr 0 0]), (5, .dat (.int .i64) x3502), (10, .dat (.list (.int .i64)) x3325), (11, .dat (.int .i64) x3327), (12, .dat (.int .i64) x3503)], [some (.box [.slc 1]), some (.seq (.int .i64) x3326)]⟩ : St) (impl_countPairs_int_n11 x3325 x3502 x3503 x3326) (fun (t : Int × Int) => (Exit.normal, (⟨mkE 35 0 [(0, .dat (.list (.int .i64)) x3325), (1, .fn 82 [] [.ptr 0 0]), (5, .dat (.int .i64) t.1), (10, .dat (.list (.int .i64)) x3325), (11, .dat (.int .i64) x3327), (12, .dat (.int .i64) t.2)], [some (.box [.slc 1]), some (.seq (.int .i64) x3326)]⟩ : St))) := by
  unfold impl_countPairs_int_n11
  exact Link.cast (by kernel_rfl) (by kernel_rfl) (link_seq (b := (Code.snd (Code.snd (Code.snd (Code.fst (Code.fst (Code.snd (Code.fst (Code.snd (Code.snd (bodyOf Tryd.f81))))))))))) (y := (Ann.snd (Ann.snd (Ann.snd (Ann.fst (Ann.fst (Ann.snd (Ann.fst (Ann.snd (Ann.snd impl_countPairs_int_an)))))))))) (impl_countPairs_int_n9_l x3325 x3502 x3327 x3503 x3326) (fun (t : Int) => (link_map (impl_countPairs_int_n10_l x3325 t x3327 x3503 x3326) (fun (u : Int) => (t, u)) (by
  rintro t
  · kernel_rfl))))

theorem impl_countPairs_int_n12_l (x3325 : List Int) (x3502 : Int) (x3327 : Int) (x3503 : Int) (x3326 : List Int) : Link impl_countPairs_int_ctx LL (Code.fst (Code.fst (Code.snd (Code.fst (Code.snd (Code.snd (bodyOf Tryd.f81))))))) (Ann.fst (Ann.fst (Ann.snd (Ann.fst (Ann.snd (Ann.snd impl_countPairs_int_an)))))) (⟨mkE 35 0 [(0, .dat (.list (.int .i64)) x3325), (1, .fn 82 [] [.ptr 0 0]), (5, .dat (.int .i64) x3502), (10, .dat (.list (.int .i64)) x3325), (11, .dat (.int .i64) x3327), (12, .dat (.int .i64) x3503)], [some (.box [.slc 1]), some (.seq (.int .i64) x3326)]⟩ : St) (impl_countPairs_int_n12 x3325 x3502 x3327 x3503 x3326) (Sum.elim (fun (t : Int × Int) => (Exit.normal, (⟨mkE 35 0 [(0, .dat (.list (.int .i64)) x3325), (1, .fn 82 [] [.ptr 0 0]), (5, .dat (.int .i64) t.1), (10, .dat (.list (.int .i64)) x3325), (11, .dat (.int .i64) x3327), (12, .dat (.int .i64) t.2)], [some (.box [.slc 1]), some (.seq (.int .i64) x3326)]⟩ : St))) (fun (t : Int) => ((Exit.exit 0), (⟨mkE 35 0 [(5, .dat (.int .i64) t)], [some (.box [.slc 1]), some (.seq (.int .i64) x3326)]⟩ : St)))) := by
  unfold impl_countPairs_int_n12
  exact Link.cast (by kernel_rfl) (by kernel_rfl) (link_group (c := (Code.fst (Code.snd (Code.fst (Code.fst (Code.snd (Code.fst (Code.snd (Code.snd (bodyOf Tryd.f81)))))))))) (a := (Ann.fst (Ann.snd (Ann.fst (Ann.fst (Ann.snd (Ann.fst (Ann.snd (Ann.snd impl_countPairs_int_an))))))))) [(Code.fst (Code.fst (Code.fst (Code.snd (Code.fst (Code.snd (Code.snd (bodyOf Tryd.f81))))))))] [(Ann.fst (Ann.fst (Ann.fst (Ann.snd (Ann.fst (Ann.snd (Ann.snd impl_countPairs_int_an)))))))] rfl (link_seq2 (b := (Code.snd (Code.snd (Code.fst (Code.fst (Code.snd (Code.fst (Code.snd (Code.snd (bodyOf Tryd.f81)))))))))) (y := (Ann.snd (Ann.snd (Ann.fst (Ann.fst (Ann.snd (Ann.fst (Ann.snd (Ann.snd impl_countPairs_int_an))))))))) (impl_countPairs_int_n3_l x3325 x3502 x3327 x3503 x3326) (fun (t : Unit) => (link_map (impl_countPairs_int_n11_l x3325 x3502 x3327 x3503 x3326) (fun (t : Int × Int) => (Sum.inl (t.1, t.2))) (by
  rintro t
  · kernel_rfl))) (fun (t : Int) => (Sum.inr t)) (by
  rintro t
  · kernel_rfl) (by
  rintro t f K h
  · exact h)))

theorem impl_countPairs_int_n13_l (x3325 : List Int) (x3327 : Int) (x3326 : List Int) : Link impl_countPairs_int_ctx LL (Code.fst (Code.snd (Code.fst (Code.snd (Code.snd (bodyOf Tryd.f81)))))) (Ann.fst (Ann.snd (Ann.fst (Ann.snd (Ann.snd impl_countPairs_int_an))))) (⟨mkE 35 0 [(0, .dat (.list (.int .i64)) x3325), (1, .fn 82 [] [.ptr 0 0]), (5, .dat (.int .i64) 0), (10, .dat (.list (.int .i64)) x3325), (11, .dat (.int .i64) x3327), (12, .dat (.int .i64) 0)], [some (.box [.slc 1]), some (.seq (.int .i64) x3326)]⟩ : St) (impl_countPairs_int_n13 x3325 x3327 x3326) (fun (t : Int) => ((Exit.exit 0), (⟨mkE 35 0 [(5, .dat (.int .i64) t)], [some (.box [.slc 1]), some (.seq (.int .i64) x3326)]⟩ : St))) := by
  unfold impl_countPairs_int_n13
  exact Link.cast (by kernel_rfl) (by kernel_rfl) (link_loop (mk := fun (s : Int × Int) => (⟨mkE 35 0 [(0, .dat (.list (.int .i64)) x3325), (1, .fn 82 [] [.ptr 0 0]), (5, .dat (.int .i64) s.1), (10, .dat (.list (.int .i64)) x3325), (11, .dat (.int .i64) x3327), (12, .dat (.int .i64) s.2)], [some (.box [.slc 1]), some (.seq (.int .i64) x3326)]⟩ : St)) (fin := (fun (t : Int) => ((Exit.exit 0), (⟨mkE 35 0 [(5, .dat (.int .i64) t)], [some (.box [.slc 1]), some (.seq (.int .i64) x3326)]⟩ : St)))) (by
  rintro t f K h
  · exact h) (fun s => link_map (impl_countPairs_int_n12_l x3325 s.1 x3327 s.2 x3326) (Sum.elim (fun (t : Int × Int) => Sum.inl (t.1, t.2)) (fun (t : Int) => Sum.inr t)) (by
  rintro (t | t)
  · kernel_rfl
  · kernel_rfl)) (0, 0))

theorem impl_countPairs_int_n14_l (x3325 : List Int) (x3327 : Int) (x3326 : List Int) : Link impl_countPairs_int_ctx LL (Code.snd (Code.fst (Code.snd (Code.snd (bodyOf Tryd.f81))))) (Ann.snd (Ann.fst (Ann.snd (Ann.snd impl_countPairs_int_an)))) (⟨mkE 35 0 [(0, .dat (.list (.int .i64)) x3325), (1, .fn 82 [] [.ptr 0 0]), (5, .dat (.int .i64) 0), (10, .dat (.list (.int .i64)) x3325), (11, .dat (.int .i64) x3327), (12, .dat (.int .i64) 0)], [some (.box [.slc 1]), some (.seq (.int .i64) x3326)]⟩ : St) (impl_countPairs_int_n14 x3325 x3327 x3326) (fun (t : Int) => (Exit.normal, (⟨mkE 35 0 [(5, .dat (.int .i64) t)], [some (.box [.slc 1]), some (.seq (.int .i64) x3326)]⟩ : St))) := by
  unfold impl_countPairs_int_n14
  exact Link.cast (by kernel_rfl) (by kernel_rfl) (link_block (id := 0) (impl_countPairs_int_n13_l x3325 x3327 x3326) (fun (t : Int) => t) (by
  rintro t K h
  · exact Eq.mp (by kernel_rfl) h))

theorem impl_countPairs_int_n15_l (x3325 : List Int) (x3326 : List Int) : Link impl_countPairs_int_ctx LL (Code.fst (Code.snd (Code.snd (bodyOf Tryd.f81)))) (Ann.fst (Ann.snd (Ann.snd impl_countPairs_int_an))) (⟨mkE 35 0 [(0, .dat (.list (.int .i64)) x3325), (1, .fn 82 [] [.ptr 0 0]), (5, .dat (.int .i64) 0)], [some (.box [.slc 1]), some (.seq (.int .i64) x3326)]⟩ : St) (impl_countPairs_int_n15 x3325 x3326) (fun (t : Int) => (Exit.normal, (⟨mkE 35 0 [(5, .dat (.int .i64) t)], [some (.box [.slc 1]), some (.seq (.int .i64) x3326)]⟩ : St))) := by
  unfold impl_countPairs_int_n15
  exact Link.cast (by kernel_rfl) (by kernel_rfl) (link_seq (b := (Code.snd (Code.fst (Code.snd (Code.snd (bodyOf Tryd.f81)))))) (y := (Ann.snd (Ann.fst (Ann.snd (Ann.snd impl_countPairs_int_an))))) (impl_countPairs_int_n2_l x3325 x3326) (fun (t : Int) => (impl_countPairs_int_n14_l x3325 t x3326)))

theorem impl_countPairs_int_n16_l (x3502 : Int) (x3326 : List Int) : Link impl_countPairs_int_ctx LL (Code.snd (Code.snd (Code.snd (bodyOf Tryd.f81)))) (Ann.snd (Ann.snd (Ann.snd impl_countPairs_int_an))) (⟨mkE 35 0 [(5, .dat (.int .i64) x3502)], [some (.box [.slc 1]), some (.seq (.int .i64) x3326)]⟩ : St) (impl_countPairs_int_n16 x3502) (fun (t : Int) => (Exit.ret, (⟨mkE 35 0 [(4, .dat (.int .i64) t)], [some (.box [.slc 1]), some (.seq (.int .i64) x3326)]⟩ : St))) := by
  refine Link.of fun K h => ?_
  simp only [impl_countPairs_int_n16, wpO_bind, wpO_cond, wpO_map, wpO_some] at h
  exact Awp.of (by kernel_rfl) h

theorem impl_countPairs_int_n17_l (x3325 : List Int) (x3326 : List Int) : Link impl_countPairs_int_ctx LL (Code.snd (Code.snd (bodyOf Tryd.f81))) (Ann.snd (Ann.snd impl_countPairs_int_an)) (⟨mkE 35 0 [(0, .dat (.list (.int .i64)) x3325), (1, .fn 82 [] [.ptr 0 0]), (5, .dat (.int .i64) 0)], [some (.box [.slc 1]), some (.seq (.int .i64) x3326)]⟩ : St) (impl_countPairs_int_n17 x3325 x3326) (fun (t : Int) => (Exit.ret, (⟨mkE 35 0 [(4, .dat (.int .i64) t)], [some (.box [.slc 1]), some (.seq (.int .i64) x3326)]⟩ : St))) := by
  unfold impl_countPairs_int_n17
  exact Link.cast (by kernel_rfl) (by kernel_rfl) (link_seq (b := (Code.snd (Code.snd (Code.snd (bodyOf Tryd.f81))))) (y := (Ann.snd (Ann.snd (Ann.snd impl_countPairs_int_an)))) (impl_countPairs_int_n15_l x3325 x3326) (fun (t : Int) => (impl_countPairs_int_n16_l t x3326)))

theorem impl_countPairs_int_n18_l (x3325 : List Int) (x3326 : List Int) : Link impl_countPairs_int_ctx LL (bodyOf Tryd.f81) impl_countPairs_int_an (⟨mkE 35 0 [(0, .dat (.list (.int .i64)) x3325), (1, .fn 82 [] [.ptr 0 0])], [some (.box [.slc 1]), some (.seq (.int .i64) x3326)]⟩ : St) (impl_countPairs_int_n18 x3325 x3326) (fun (t : Int) => (Exit.ret, (⟨mkE 35 0 [(4, .dat (.int .i64) t)], [some (.box [.slc 1]), some (.seq (.int .i64) x3326)]⟩ : St))) := by
  unfold impl_countPairs_int_n18
  exact Link.cast (by kernel_rfl) (by kernel_rfl) (link_group (c := (Code.fst (Code.snd (bodyOf Tryd.f81)))) (a := (Ann.fst (Ann.snd impl_countPairs_int_an))) [(Code.fst (bodyOf Tryd.f81))] [(Ann.fst impl_countPairs_int_an)] rfl (link_seq (b := (Code.snd (Code.snd (bodyOf Tryd.f81)))) (y := (Ann.snd (Ann.snd impl_countPairs_int_an))) (impl_countPairs_int_n1_l x3325 x3326) (fun (t : Unit) => (impl_countPairs_int_n17_l x3325 x3326))))

theorem impl_countPairs_int_e (x3325 : List Int) (x3326 : List Int) {r : AV} {H' : Heap} (h : (Ans.mk _ (impl_countPairs_int x3325 x3326) (fun (t : Int) => (.dat (.int .i64) t, [some (.box [.slc 1]), some (.seq (.int .i64) x3326)]))).run = some (r, H')) : Awp impl_countPairs_int_ctx LL (bodyOf Tryd.f81) impl_countPairs_int_an (⟨mkE 35 0 [(0, .dat (.list (.int .i64)) x3325), (1, .fn 82 [] [.ptr 0 0])], [some (.box [.slc 1]), some (.seq (.int .i64) x3326)]⟩ : St) (Ret (tlook tys) Tryd.f81.results.toList r H') :=
  ret_of' (impl_countPairs_int_n18_l x3325 x3326) (by unfold impl_countPairs_int; kernel_rfl) (by
  intro t
  exact ret_mk [.dat (.int .i64) t] (by kernel_rfl) (by kernel_rfl) (by kernel_rfl) (by kernel_rfl)) h

def F_impl_countPairs_int : Fun := fun avs H =>
  match avs, H with
  | [.dat (.list (.int .i64)) x3325, .fn 82 [] [.ptr 0 0]], [some (.box [.slc 1]), some (.seq (.int .i64) x3326)] => ⟨_, impl_countPairs_int x3325 x3326, fun (t : Int) => (.dat (.int .i64) t, [some (.box [.slc 1]), some (.seq (.int .i64) x3326)])⟩
  | _, _ => Ans.no

theorem impl_countPairs_int_sound : Sound Tryd.prog 81 F_impl_countPairs_int := by
  refine fn_sound' (C := impl_countPairs_int_ctx) (c := bodyOf Tryd.f81) (cok_of tys_ok (List.forall_mem_cons.2 ⟨impl_goByTurns_1_sound, by simp⟩) (List.forall_mem_cons.2 ⟨Tryd.call82, by simp⟩) (by kernel_rfl)) Tryd.func81 (by kernel_rfl) LL impl_countPairs_int_an ?_
  intro avs H r H' h
  unfold F_impl_countPairs_int at h
  split at h
  · refine Awp.cast ?_ ?_ ?_ (impl_countPairs_int_e _ _ h) <;> kernel_rfl
  · simp [Ans.no, Ans.run] at h


/-! loop.example/headtrees/impl.goByTurns -/

def impl_goByTurns_an : Ann := (.seq (.leaf [0, 1]) (.seq (.seq (.leaf [0, 1, 10]) (.cond (.seq (.leaf [4]) (.leaf [4])) (.leaf [0, 1]))) (.seq (.leaf [0, 5]) (.seq (.leaf [6]) (.seq (.leaf [4]) (.leaf [4]))))))

noncomputable def impl_goByTurns_ctx : Ctx := ⟨tlook tys, olook [(49, F_impl_wordSet_list), (81, F_impl_countPairs_int)], ioF, 0, false⟩

theorem impl_goByTurns_n1_l (x3314 : Int) (x3315 : Int) : Link impl_goByTurns_ctx LL (bodyOf Tryd.f59) impl_goByTurns_an (⟨mkE 19 0 [(0, .dat (.int .u64) x3314), (1, .dat (.int .u64) x3315)], []⟩ : St) (impl_goByTurns_n1 x3314 x3315) (fun (t : Bool) => (Exit.ret, (⟨mkE 19 0 [(4, .dat .bool t)], []⟩ : St))) := by
  refine Link.of fun K h => ?_
  simp only [impl_goByTurns_n1, wpO_bind, wpO_cond, wpO_map, wpO_some] at h
  exact Awp.of (by kernel_rfl) h

theorem impl_goByTurns_e (x3314 : Int) (x3315 : Int) {r : AV} {H' : Heap} (h : (Ans.mk _ (impl_goByTurns x3314 x3315) (fun (t : Bool) => (.dat .bool t, []))).run = some (r, H')) : Awp impl_goByTurns_ctx LL (bodyOf Tryd.f59) impl_goByTurns_an (⟨mkE 19 0 [(0, .dat (.int .u64) x3314), (1, .dat (.int .u64) x3315)], []⟩ : St) (Ret (tlook tys) Tryd.f59.results.toList r H') :=
  ret_of' (impl_goByTurns_n1_l x3314 x3315) (by unfold impl_goByTurns; kernel_rfl) (by
  intro t
  exact ret_mk [.dat .bool t] (by kernel_rfl) (by kernel_rfl) (by kernel_rfl) (by kernel_rfl)) h

def F_impl_goByTurns : Fun := fun avs H =>
  match avs, H with
  | [.dat (.int .u64) x3314, .dat (.int .u64) x3315], [] => ⟨_, impl_goByTurns x3314 x3315, fun (t : Bool) => (.dat .bool t, [])⟩
  | _, _ => Ans.no

theorem impl_goByTurns_sound : Sound Tryd.prog 59 F_impl_goByTurns := by
  refine fn_sound' (C := impl_goByTurns_ctx) (c := bodyOf Tryd.f59) (cok_of tys_ok (List.forall_mem_cons.2 ⟨impl_wordSet_list_sound, List.forall_mem_cons.2 ⟨impl_countPairs_int_sound, by simp⟩⟩) (List.forall_mem_cons.2 ⟨Tryd.call49, List.forall_mem_cons.2 ⟨Tryd.call81, by simp⟩⟩) (by kernel_rfl)) Tryd.func59 (by kernel_rfl) LL impl_goByTurns_an ?_
  intro avs H r H' h
  unfold F_impl_goByTurns at h
  split at h
  · refine Awp.cast ?_ ?_ ?_ (impl_goByTurns_e _ _ h) <;> kernel_rfl
  · simp [Ans.no, Ans.run] at h


/-! loop.example/headtrees/impl.TurnsOk -/

def impl_TurnsOk_an : Ann := (.seq (.leaf [0, 1, 2]) (.seq (.seq (.leaf [0, 1, 2, 17]) (.cond (.seq (.leaf [6]) (.leaf [6])) (.leaf [0, 1, 2]))) (.seq (.leaf [1, 2, 7]) (.seq (.draw [10] [0, 1, 2, 3, 4, 5, 6, 7, 8, 9, 10, 11] [] [6]) (.leaf [6])))))

noncomputable def impl_TurnsOk_ctx : Ctx := ⟨tlook tys, olook [(42, F_impl_wordOk), (43, F_impl_yieldsOf), (59, F_impl_goByTurns)], ioF, 0, false⟩

theorem impl_TurnsOk_n1_l (x3291 : List Int) (x3292 : Int) (x3293 : Int) : Link impl_TurnsOk_ctx LL (bodyOf Tryd.f26) impl_TurnsOk_an (⟨mkE 31 0 [(0, .dat (.list (.int .i64)) x3291), (1, .dat (.int .i64) x3292), (2, .dat (.int .i64) x3293)], []⟩ : St) (impl_TurnsOk_n1 x3291 x3292 x3293) (fun (t : Bool) => (Exit.ret, (⟨mkE 31 0 [(6, .dat .bool t)], []⟩ : St))) := by
  refine Link.of fun K h => ?_
  simp only [impl_TurnsOk_n1, wpO_bind, wpO_cond, wpO_map, wpO_some] at h
  exact Awp.of (by kernel_rfl) h

theorem impl_TurnsOk_e (x3291 : List Int) (x3292 : Int) (x3293 : Int) {r : AV} {H' : Heap} (h : (Ans.mk _ (impl_TurnsOk x3291 x3292 x3293) (fun (t : Bool) => (.dat .bool t, []))).run = some (r, H')) : Awp impl_TurnsOk_ctx LL (bodyOf Tryd.f26) impl_TurnsOk_an (⟨mkE 31 0 [(0, .dat (.list (.int .i64)) x3291), (1, .dat (.int .i64) x3292), (2, .dat (.int .i64) x3293)], []⟩ : St) (Ret (tlook tys) Tryd.f26.results.toList r H') :=
  ret_of' (impl_TurnsOk_n1_l x3291 x3292 x3293) (by unfold impl_TurnsOk; kernel_rfl) (by
  intro t
  exact ret_mk [.dat .bool t] (by kernel_rfl) (by kernel_rfl) (by kernel_rfl) (by kernel_rfl)) h

def F_impl_TurnsOk : Fun := fun avs H =>
  match avs, H with
  | [.dat (.list (.int .i64)) x3291, .dat (.int .i64) x3292, .dat (.int .i64) x3293], [] => ⟨_, impl_TurnsOk x3291 x3292 x3293, fun (t : Bool) => (.dat .bool t, [])⟩
  | _, _ => Ans.no

theorem impl_TurnsOk_sound : Sound Tryd.prog 26 F_impl_TurnsOk := by
  refine fn_sound' (C := impl_TurnsOk_ctx) (c := bodyOf Tryd.f26) (cok_of tys_ok (List.forall_mem_cons.2 ⟨impl_wordOk_sound, List.forall_mem_cons.2 ⟨impl_yieldsOf_sound, List.forall_mem_cons.2 ⟨impl_goByTurns_sound, by simp⟩⟩⟩) (List.forall_mem_cons.2 ⟨Tryd.call42, List.forall_mem_cons.2 ⟨Tryd.call43, List.forall_mem_cons.2 ⟨Tryd.call59, by simp⟩⟩⟩) (by kernel_rfl)) Tryd.func26 (by kernel_rfl) LL impl_TurnsOk_an ?_
  intro avs H r H' h
  unfold F_impl_TurnsOk at h
  split at h
  · refine Awp.cast ?_ ?_ ?_ (impl_TurnsOk_e _ _ _ h) <;> kernel_rfl
  · simp [Ans.no, Ans.run] at h


/-! loop.example/headtrees/spec.l5Turns -/

def spec_l5Turns_an : Ann := (.seq (.leaf [0, 1]) (.seq (.leaf [0, 1, 5]) (.seq (.leaf [0, 1, 5, 6]) (.seq (.seq (.leaf [0, 1, 5, 6, 7]) (.block (.loop (.seq (.seq (.leaf [0, 1, 5, 6, 7, 10]) (.cond (.leaf [0, 1, 5, 6, 7]) (.leaf [6]))) (.seq (.block (.seq (.draw [] [0, 1, 2, 3, 4, 5, 6, 7, 8, 9, 10] [] [0, 1, 5, 6, 7, 8]) (.seq (.leaf [0, 1, 5, 6, 7, 8, 29]) (.cond (.seq (.leaf [0, 1, 6, 7, 8]) (.leaf [0, 1, 5, 6, 7])) (.leaf [0, 1, 5, 6, 7]))))) (.leaf [0, 1, 5, 6, 7])))))) (.seq (.leaf [4]) (.leaf [4]))))))

noncomputable def spec_l5Turns_ctx : Ctx := ⟨tlook tys, olook [], ioF, 0, false⟩

theorem spec_l5Turns_n1_l (x3622 : Int) (x3623 : Int) : Link spec_l5Turns_ctx LL (Code.seq (Code.fst (bodyOf Tryd.f60)) (Code.seq (Code.fst (Code.snd (bodyOf Tryd.f60))) (Code.fst (Code.snd (Code.snd (bodyOf Tryd.f60)))))) (Ann.seq (Ann.fst spec_l5Turns_an) (Ann.seq (Ann.fst (Ann.snd spec_l5Turns_an)) (Ann.fst (Ann.snd (Ann.snd spec_l5Turns_an))))) (⟨mkE 35 0 [(0, .dat (.int .i64) x3622), (1, .dat (.int .i64) x3623)], []⟩ : St) (spec_l5Turns_n1) (fun (t : Unit) => (Exit.normal, (⟨mkE 35 0 [(0, .dat (.int .i64) x3622), (1, .dat (.int .i64) x3623), (5, .dat (.int .i64) 0), (6, .dat (.int .i64) 0)], []⟩ : St))) := by
  refine Link.of fun K h => ?_
  simp only [spec_l5Turns_n1, wpO_bind, wpO_cond, wpO_map, wpO_some] at h
  exact Awp.of (by kernel_rfl) h

theorem spec_l5Turns_n2_l (x3622 : Int) (x3623 : Int) : Link spec_l5Turns_ctx LL (Code.fst (Code.fst (Code.snd (Code.snd (Code.snd (bodyOf Tryd.f60)))))) (Ann.fst (Ann.fst (Ann.snd (Ann.snd (Ann.snd spec_l5Turns_an))))) (⟨mkE 35 0 [(0, .dat (.int .i64) x3622), (1, .dat (.int .i64) x3623), (5, .dat (.int .i64) 0), (6, .dat (.int .i64) 0)], []⟩ : St) (spec_l5Turns_n2) (fun (t : Unit) => (Exit.normal, (⟨mkE 35 0 [(0, .dat (.int .i64) x3622), (1, .dat (.int .i64) x3623), (5, .dat (.int .i64) 0), (6, .dat (.int .i64) 0), (7, .dat (.int .i64) 0)], []⟩ : St))) := by
  refine Link.of fun K h => ?_
  simp only [spec_l5Turns_n2, wpO_bind, wpO_cond, wpO_map, wpO_some] at h
  exact Awp.of (by kernel_rfl) h

theorem spec_l5Turns_n3_l (x3622 : Int) (x3623 : Int) (x3651 : Int) (x3652 : Int) (x3653 : Int) : Link spec_l5Turns_ctx LL (Code.fst (Code.fst (Code.snd (Code.fst (Code.snd (Code.snd (Code.snd (bodyOf Tryd.f60)))))))) (Ann.fst (Ann.fst (Ann.snd (Ann.fst (Ann.snd (Ann.snd (Ann.snd spec_l5Turns_an))))))) (⟨mkE 35 0 [(0, .dat (.int .i64) x3622), (1, .dat (.int .i64) x3623), (5, .dat (.int .i64) x3651), (6, .dat (.int .i64) x3652), (7, .dat (.int .i64) x3653)], []⟩ : St) (spec_l5Turns_n3 x3622 x3623 x3651 x3652 x3653) (Sum.elim (fun (t : Int × Int × Int) => (Exit.normal, (⟨mkE 35 0 [(0, .dat (.int .i64) x3622), (1, .dat (.int .i64) x3623), (5, .dat (.int .i64) t.1), (6, .dat (.int .i64) t.2.1), (7, .dat (.int .i64) t.2.2)], []⟩ : St))) (fun (t : Int) => ((Exit.exit 0), (⟨mkE 35 0 [(6, .dat (.int .i64) t)], []⟩ : St)))) := by
  refine Link.of fun K h => ?_
  simp only [spec_l5Turns_n3, wpO_bind, wpO_cond, wpO_map, wpO_some] at h
  exact Awp.of (by kernel_rfl) h

theorem spec_l5Turns_n4_l (x3622 : Int) (x3623 : Int) : Link spec_l5Turns_ctx LL (Code.fst (Code.snd (Code.fst (Code.snd (Code.snd (Code.snd (bodyOf Tryd.f60))))))) (Ann.fst (Ann.snd (Ann.fst (Ann.snd (Ann.snd (Ann.snd spec_l5Turns_an)))))) (⟨mkE 35 0 [(0, .dat (.int .i64) x3622), (1, .dat (.int .i64) x3623), (5, .dat (.int .i64) 0), (6, .dat (.int .i64) 0), (7, .dat (.int .i64) 0)], []⟩ : St) (spec_l5Turns_n4 x3622 x3623) (fun (t : Int) => ((Exit.exit 0), (⟨mkE 35 0 [(6, .dat (.int .i64) t)], []⟩ : St))) := by
  unfold spec_l5Turns_n4
  exact Link.cast (by kernel_rfl) (by kernel_rfl) (link_loop (mk := fun (s : Int × Int × Int) => (⟨mkE 35 0 [(0, .dat (.int .i64) x3622), (1, .dat (.int .i64) x3623), (5, .dat (.int .i64) s.1), (6, .dat (.int .i64) s.2.1), (7, .dat (.int .i64) s.2.2)], []⟩ : St)) (fin := (fun (t : Int) => ((Exit.exit 0), (⟨mkE 35 0 [(6, .dat (.int .i64) t)], []⟩ : St)))) (by
  rintro t f K h
  · exact h) (fun s => link_map (spec_l5Turns_n3_l x3622 x3623 s.1 s.2.1 s.2.2) (Sum.elim (fun (t : Int × Int × Int) => Sum.inl (t.1, t.2.1, t.2.2)) (fun (t : Int) => Sum.inr t)) (by
  rintro (t | t)
  · kernel_rfl
  · kernel_rfl)) (0, 0, 0))

theorem spec_l5Turns_n5_l (x3622 : Int) (x3623 : Int) : Link spec_l5Turns_ctx LL (Code.snd (Code.fst (Code.snd (Code.snd (Code.snd (bodyOf Tryd.f60)))))) (Ann.snd (Ann.fst (Ann.snd (Ann.snd (Ann.snd spec_l5Turns_an))))) (⟨mkE 35 0 [(0, .dat (.int .i64) x3622), (1, .dat (.int .i64) x3623), (5, .dat (.int .i64) 0), (6, .dat (.int .i64) 0), (7, .dat (.int .i64) 0)], []⟩ : St) (spec_l5Turns_n5 x3622 x3623) (fun (t : Int) => (Exit.normal, (⟨mkE 35 0 [(6, .dat (.int .i64) t)], []⟩ : St))) := by
  unfold spec_l5Turns_n5
  exact Link.cast (by kernel_rfl) (by kernel_rfl) (link_block (id := 0) (spec_l5Turns_n4_l x3622 x3623) (fun (t : Int) => t) (by
  rintro t K h
  · exact Eq.mp (by kernel_rfl) h))

theorem spec_l5Turns_n6_l (x3622 : Int) (x3623 : Int) : Link spec_l5Turns_ctx LL (Code.fst (Code.snd (Code.snd (Code.snd (bodyOf Tryd.f60))))) (Ann.fst (Ann.snd (Ann.snd (Ann.snd spec_l5Turns_an)))) (⟨mkE 35 0 [(0, .dat (.int .i64) x3622), (1, .dat (.int .i64) x3623), (5, .dat (.int .i64) 0), (6, .dat (.int .i64) 0)], []⟩ : St) (spec_l5Turns_n6 x3622 x3623) (fun (t : Int) => (Exit.normal, (⟨mkE 35 0 [(6, .dat (.int .i64) t)], []⟩ : St))) := by
  unfold spec_l5Turns_n6
  exact Link.cast (by kernel_rfl) (by kernel_rfl) (link_seq (b := (Code.snd (Code.fst (Code.snd (Code.snd (Code.snd (bodyOf Tryd.f60))))))) (y := (Ann.snd (Ann.fst (Ann.snd (Ann.snd (Ann.snd spec_l5Turns_an)))))) (spec_l5Turns_n2_l x3622 x3623) (fun (t : Unit) => (spec_l5Turns_n5_l x3622 x3623)))

theorem spec_l5Turns_n7_l (x3652 : Int) : Link spec_l5Turns_ctx LL (Code.snd (Code.snd (Code.snd (Code.snd (bodyOf Tryd.f60))))) (Ann.snd (Ann.snd (Ann.snd (Ann.snd spec_l5Turns_an)))) (⟨mkE 35 0 [(6, .dat (.int .i64) x3652)], []⟩ : St) (spec_l5Turns_n7 x3652) (fun (t : Bool) => (Exit.ret, (⟨mkE 35 0 [(4, .dat .bool t)], []⟩ : St))) := by
  refine Link.of fun K h => ?_
  simp only [spec_l5Turns_n7, wpO_bind, wpO_cond, wpO_map, wpO_some] at h
  exact Awp.of (by kernel_rfl) h

theorem spec_l5Turns_n8_l (x3622 : Int) (x3623 : Int) : Link spec_l5Turns_ctx LL (Code.snd (Code.snd (Code.snd (bodyOf Tryd.f60)))) (Ann.snd (Ann.snd (Ann.snd spec_l5Turns_an))) (⟨mkE 35 0 [(0, .dat (.int .i64) x3622), (1, .dat (.int .i64) x3623), (5, .dat (.int .i64) 0), (6, .dat (.int .i64) 0)], []⟩ : St) (spec_l5Turns_n8 x3622 x3623) (fun (t : Bool) => (Exit.ret, (⟨mkE 35 0 [(4, .dat .bool t)], []⟩ : St))) := by
  unfold spec_l5Turns_n8
  exact Link.cast (by kernel_rfl) (by kernel_rfl) (link_seq (b := (Code.snd (Code.snd (Code.snd (Code.snd (bodyOf Tryd.f60)))))) (y := (Ann.snd (Ann.snd (Ann.snd (Ann.snd spec_l5Turns_an))))) (spec_l5Turns_n6_l x3622 x3623) (fun (t : Int) => (spec_l5Turns_n7_l t)))

theorem spec_l5Turns_n9_l (x3622 : Int) (x3623 : Int) : Link spec_l5Turns_ctx LL (bodyOf Tryd.f60) spec_l5Turns_an (⟨mkE 35 0 [(0, .dat (.int .i64) x3622), (1, .dat (.int .i64) x3623)], []⟩ : St) (spec_l5Turns_n9 x3622 x3623) (fun (t : Bool) => (Exit.ret, (⟨mkE 35 0 [(4, .dat .bool t)], []⟩ : St))) := by
  unfold spec_l5Turns_n9
  exact Link.cast (by kernel_rfl) (by kernel_rfl) (link_group (c := (Code.fst (Code.snd (Code.snd (bodyOf Tryd.f60))))) (a := (Ann.fst (Ann.snd (Ann.snd spec_l5Turns_an)))) [(Code.fst (bodyOf Tryd.f60)), (Code.fst (Code.snd (bodyOf Tryd.f60)))] [(Ann.fst spec_l5Turns_an), (Ann.fst (Ann.snd spec_l5Turns_an))] rfl (link_seq (b := (Code.snd (Code.snd (Code.snd (bodyOf Tryd.f60))))) (y := (Ann.snd (Ann.snd (Ann.snd spec_l5Turns_an)))) (spec_l5Turns_n1_l x3622 x3623) (fun (t : Unit) => (spec_l5Turns_n8_l x3622 x3623))))

theorem spec_l5Turns_e (x3622 : Int) (x3623 : Int) {r : AV} {H' : Heap} (h : (Ans.mk _ (spec_l5Turns x3622 x3623) (fun (t : Bool) => (.dat .bool t, []))).run = some (r, H')) : Awp spec_l5Turns_ctx LL (bodyOf Tryd.f60) spec_l5Turns_an (⟨mkE 35 0 [(0, .dat (.int .i64) x3622), (1, .dat (.int .i64) x3623)], []⟩ : St) (Ret (tlook tys) Tryd.f60.results.toList r H') :=
  ret_of' (spec_l5Turns_n9_l x3622 x3623) (by unfold spec_l5Turns; kernel_rfl) (by
  intro t
  exact ret_mk [.dat .bool t] (by kernel_rfl) (by kernel_rfl) (by kernel_rfl) (by kernel_rfl)) h

def F_spec_l5Turns : Fun := fun avs H =>
  match avs, H with
  | [.dat (.int .i64) x3622, .dat (.int .i64) x3623], [] => ⟨_, spec_l5Turns x3622 x3623, fun (t : Bool) => (.dat .bool t, [])⟩
  | _, _ => Ans.no

theorem spec_l5Turns_sound : Sound Tryd.prog 60 F_spec_l5Turns := by
  refine fn_sound' (C := spec_l5Turns_ctx) (c := bodyOf Tryd.f60) (cok_of tys_ok (by simp) (by simp) (by kernel_rfl)) Tryd.func60 (by kernel_rfl) LL spec_l5Turns_an ?_
  intro avs H r H' h
  unfold F_spec_l5Turns at h
  split at h
  · refine Awp.cast ?_ ?_ ?_ (spec_l5Turns_e _ _ h) <;> kernel_rfl
  · simp [Ans.no, Ans.run] at h


/-! loop.example/headtrees/spec.TurnsOk -/

def spec_TurnsOk_an : Ann := (.seq (.leaf [0, 1, 2]) (.seq (.seq (.leaf [0, 1, 2, 25]) (.cond (.seq (.leaf [6]) (.leaf [6])) (.leaf [0, 1, 2]))) (.seq (.leaf [0, 2, 7]) (.seq (.leaf [7, 8]) (.seq (.leaf [6]) (.leaf [6]))))))

noncomputable def spec_TurnsOk_ctx : Ctx := ⟨tlook tys, olook [(32, F_spec_TreeOk), (45, F_spec_l1In), (47, F_spec_l2Yield), (60, F_spec_l5Turns)], ioF, 0, false⟩

theorem spec_TurnsOk_n1_l (x3580 : List Int) (x3581 : Int) (x3582 : Int) : Link spec_TurnsOk_ctx LL (bodyOf Tryd.f27) spec_TurnsOk_an (⟨mkE 41 0 [(0, .dat (.list (.int .i64)) x3580), (1, .dat (.int .i64) x3581), (2, .dat (.int .i64) x3582)], []⟩ : St) (spec_TurnsOk_n1 x3580 x3581 x3582) (fun (t : Bool) => (Exit.ret, (⟨mkE 41 0 [(6, .dat .bool t)], []⟩ : St))) := by
  refine Link.of fun K h => ?_
  simp only [spec_TurnsOk_n1, wpO_bind, wpO_cond, wpO_map, wpO_some] at h
  exact Awp.of (by kernel_rfl) h

theorem spec_TurnsOk_e (x3580 : List Int) (x3581 : Int) (x3582 : Int) {r : AV} {H' : Heap} (h : (Ans.mk _ (spec_TurnsOk x3580 x3581 x3582) (fun (t : Bool) => (.dat .bool t, []))).run = some (r, H')) : Awp spec_TurnsOk_ctx LL (bodyOf Tryd.f27) spec_TurnsOk_an (⟨mkE 41 0 [(0, .dat (.list (.int .i64)) x3580), (1, .dat (.int .i64) x3581), (2, .dat (.int .i64) x3582)], []⟩ : St) (Ret (tlook tys) Tryd.f27.results.toList r H') :=
  ret_of' (spec_TurnsOk_n1_l x3580 x3581 x3582) (by unfold spec_TurnsOk; kernel_rfl) (by
  intro t
  exact ret_mk [.dat .bool t] (by kernel_rfl) (by kernel_rfl) (by kernel_rfl) (by kernel_rfl)) h

def F_spec_TurnsOk : Fun := fun avs H =>
  match avs, H with
  | [.dat (.list (.int .i64)) x3580, .dat (.int .i64) x3581, .dat (.int .i64) x3582], [] => ⟨_, spec_TurnsOk x3580 x3581 x3582, fun (t : Bool) => (.dat .bool t, [])⟩
  | _, _ => Ans.no

theorem spec_TurnsOk_sound : Sound Tryd.prog 27 F_spec_TurnsOk := by
  refine fn_sound' (C := spec_TurnsOk_ctx) (c := bodyOf Tryd.f27) (cok_of tys_ok (List.forall_mem_cons.2 ⟨spec_TreeOk_sound, List.forall_mem_cons.2 ⟨spec_l1In_sound, List.forall_mem_cons.2 ⟨spec_l2Yield_sound, List.forall_mem_cons.2 ⟨spec_l5Turns_sound, by simp⟩⟩⟩⟩) (List.forall_mem_cons.2 ⟨Tryd.call32, List.forall_mem_cons.2 ⟨Tryd.call45, List.forall_mem_cons.2 ⟨Tryd.call47, List.forall_mem_cons.2 ⟨Tryd.call60, by simp⟩⟩⟩⟩) (by kernel_rfl)) Tryd.func27 (by kernel_rfl) LL spec_TurnsOk_an ?_
  intro avs H r H' h
  unfold F_spec_TurnsOk at h
  split at h
  · refine Awp.cast ?_ ?_ ?_ (spec_TurnsOk_e _ _ _ h) <;> kernel_rfl
  · simp [Ans.no, Ans.run] at h


/-! (loop.example/headtrees/impl.wordSet).hasAll -/

def impl_wordSet_hasAll_an : Ann := (.seq (.leaf [0, 1]) (.seq (.leaf [4]) (.leaf [4])))

noncomputable def impl_wordSet_hasAll_ctx : Ctx := ⟨tlook tys, olook [], ioF, 0, false⟩

theorem impl_wordSet_hasAll_n1_l (x3729 : Int) (x3730 : Int) : Link impl_wordSet_hasAll_ctx LL (bodyOf Tryd.f61) impl_wordSet_hasAll_an (⟨mkE 10 0 [(0, .dat (.int .u64) x3729), (1, .dat (.int .u64) x3730)], []⟩ : St) (impl_wordSet_hasAll_n1 x3729 x3730) (fun (t : Bool) => (Exit.ret, (⟨mkE 10 0 [(4, .dat .bool t)], []⟩ : St))) := by
  refine Link.of fun K h => ?_
  simp only [impl_wordSet_hasAll_n1, wpO_bind, wpO_cond, wpO_map, wpO_some] at h
  exact Awp.of (by kernel_rfl) h

theorem impl_wordSet_hasAll_e (x3729 : Int) (x3730 : Int) {r : AV} {H' : Heap} (h : (Ans.mk _ (impl_wordSet_hasAll x3729 x3730) (fun (t : Bool) => (.dat .bool t, []))).run = some (r, H')) : Awp impl_wordSet_hasAll_ctx LL (bodyOf Tryd.f61) impl_wordSet_hasAll_an (⟨mkE 10 0 [(0, .dat (.int .u64) x3729), (1, .dat (.int .u64) x3730)], []⟩ : St) (Ret (tlook tys) Tryd.f61.results.toList r H') :=
  ret_of' (impl_wordSet_hasAll_n1_l x3729 x3730) (by unfold impl_wordSet_hasAll; kernel_rfl) (by
  intro t
  exact ret_mk [.dat .bool t] (by kernel_rfl) (by kernel_rfl) (by kernel_rfl) (by kernel_rfl)) h

def F_impl_wordSet_hasAll : Fun := fun avs H =>
  match avs, H with
  | [.dat (.int .u64) x3729, .dat (.int .u64) x3730], [] => ⟨_, impl_wordSet_hasAll x3729 x3730, fun (t : Bool) => (.dat .bool t, [])⟩
  | _, _ => Ans.no

theorem impl_wordSet_hasAll_sound : Sound Tryd.prog 61 F_impl_wordSet_hasAll := by
  refine fn_sound' (C := impl_wordSet_hasAll_ctx) (c := bodyOf Tryd.f61) (cok_of tys_ok (by simp) (by simp) (by kernel_rfl)) Tryd.func61 (by kernel_rfl) LL impl_wordSet_hasAll_an ?_
  intro avs H r H' h
  unfold F_impl_wordSet_hasAll at h
  split at h
  · refine Awp.cast ?_ ?_ ?_ (impl_wordSet_hasAll_e _ _ h) <;> kernel_rfl
  · simp [Ans.no, Ans.run] at h


/-! loop.example/headtrees/impl.UnderOk -/

def impl_UnderOk_an : Ann := (.seq (.leaf [0, 1, 2]) (.seq (.seq (.leaf [0, 1, 2, 16]) (.cond (.seq (.leaf [6]) (.leaf [6])) (.leaf [0, 1, 2]))) (.seq (.draw [1, 7, 8] [0, 2, 3, 6, 1, 4, 5, 7, 8, 9] [] [6]) (.leaf [6]))))

noncomputable def impl_UnderOk_ctx : Ctx := ⟨tlook tys, olook [(42, F_impl_wordOk), (43, F_impl_yieldsOf), (62, F_impl_only), (61, F_impl_wordSet_hasAll)], ioF, 0, false⟩

theorem impl_UnderOk_n1_l (x3713 : List Int) (x3714 : Int) (x3715 : Int) : Link impl_UnderOk_ctx LL (bodyOf Tryd.f28) impl_UnderOk_an (⟨mkE 26 0 [(0, .dat (.list (.int .i64)) x3713), (1, .dat (.int .i64) x3714), (2, .dat (.int .i64) x3715)], []⟩ : St) (impl_UnderOk_n1 x3713 x3714 x3715) (fun (t : Bool) => (Exit.ret, (⟨mkE 26 0 [(6, .dat .bool t)], []⟩ : St))) := by
  refine Link.of fun K h => ?_
  simp only [impl_UnderOk_n1, wpO_bind, wpO_cond, wpO_map, wpO_some] at h
  exact Awp.of (by kernel_rfl) h

theorem impl_UnderOk_e (x3713 : List Int) (x3714 : Int) (x3715 : Int) {r : AV} {H' : Heap} (h : (Ans.mk _ (impl_UnderOk x3713 x3714 x3715) (fun (t : Bool) => (.dat .bool t, []))).run = some (r, H')) : Awp impl_UnderOk_ctx LL (bodyOf Tryd.f28) impl_UnderOk_an (⟨mkE 26 0 [(0, .dat (.list (.int .i64)) x3713), (1, .dat (.int .i64) x3714), (2, .dat (.int .i64) x3715)], []⟩ : St) (Ret (tlook tys) Tryd.f28.results.toList r H') :=
  ret_of' (impl_UnderOk_n1_l x3713 x3714 x3715) (by unfold impl_UnderOk; kernel_rfl) (by
  intro t
  exact ret_mk [.dat .bool t] (by kernel_rfl) (by kernel_rfl) (by kernel_rfl) (by kernel_rfl)) h

def F_impl_UnderOk : Fun := fun avs H =>
  match avs, H with
  | [.dat (.list (.int .i64)) x3713, .dat (.int .i64) x3714, .dat (.int .i64) x3715], [] => ⟨_, impl_UnderOk x3713 x3714 x3715, fun (t : Bool) => (.dat .bool t, [])⟩
  | _, _ => Ans.no

theorem impl_UnderOk_sound : Sound Tryd.prog 28 F_impl_UnderOk := by
  refine fn_sound' (C := impl_UnderOk_ctx) (c := bodyOf Tryd.f28) (cok_of tys_ok (List.forall_mem_cons.2 ⟨impl_wordOk_sound, List.forall_mem_cons.2 ⟨impl_yieldsOf_sound, List.forall_mem_cons.2 ⟨impl_only_sound, List.forall_mem_cons.2 ⟨impl_wordSet_hasAll_sound, by simp⟩⟩⟩⟩) (List.forall_mem_cons.2 ⟨Tryd.call42, List.forall_mem_cons.2 ⟨Tryd.call43, List.forall_mem_cons.2 ⟨Tryd.call62, List.forall_mem_cons.2 ⟨Tryd.call61, by simp⟩⟩⟩⟩) (by kernel_rfl)) Tryd.func28 (by kernel_rfl) LL impl_UnderOk_an ?_
  intro avs H r H' h
  unfold F_impl_UnderOk at h
  split at h
  · refine Awp.cast ?_ ?_ ?_ (impl_UnderOk_e _ _ _ h) <;> kernel_rfl
  · simp [Ans.no, Ans.run] at h


/-! loop.example/headtrees/laws.FnTurnsOk -/

def laws_FnTurnsOk_an : Ann := (.seq (.leaf [0]) (.seq (.seq (.leaf [0, 9]) (.cond (.seq (.leaf [2]) (.leaf [2])) (.leaf [0]))) (.seq (.leaf [3, 4, 5]) (.seq (.leaf [3, 4, 5, 6]) (.seq (.seq (.leaf [3, 4, 5, 6, 25]) (.cond (.seq (.leaf [2]) (.leaf [2])) (.leaf [3, 4, 5, 6]))) (.seq (.leaf [2]) (.leaf [2])))))))

noncomputable def laws_FnTurnsOk_ctx : Ctx := ⟨tlook tys, olook [(25, F_spec_DrawTurnsOk), (26, F_impl_TurnsOk), (27, F_spec_TurnsOk), (14, F_laws_alive), (28, F_impl_UnderOk), (12, F_impl_GapsOf)], ioF, 0, false⟩

theorem laws_FnTurnsOk_n1_l (x2909 : List Int) : Link laws_FnTurnsOk_ctx LL (bodyOf Tryd.f5) laws_FnTurnsOk_an (⟨mkE 65 0 [(0, .dat (.list (.int .u8)) x2909)], []⟩ : St) (laws_FnTurnsOk_n1 x2909) (fun (t : Bool) => (Exit.ret, (⟨mkE 65 0 [(2, .dat .bool t)], []⟩ : St))) := by
  refine Link.of fun K h => ?_
  simp only [laws_FnTurnsOk_n1, wpO_bind, wpO_cond, wpO_map, wpO_some] at h
  exact Awp.of (by kernel_rfl) h

theorem laws_FnTurnsOk_e (x2909 : List Int) {r : AV} {H' : Heap} (h : (Ans.mk _ (laws_FnTurnsOk x2909) (fun (t : Bool) => (.dat .bool t, []))).run = some (r, H')) : Awp laws_FnTurnsOk_ctx LL (bodyOf Tryd.f5) laws_FnTurnsOk_an (⟨mkE 65 0 [(0, .dat (.list (.int .u8)) x2909)], []⟩ : St) (Ret (tlook tys) Tryd.f5.results.toList r H') :=
  ret_of' (laws_FnTurnsOk_n1_l x2909) (by unfold laws_FnTurnsOk; kernel_rfl) (by
  intro t
  exact ret_mk [.dat .bool t] (by kernel_rfl) (by kernel_rfl) (by kernel_rfl) (by kernel_rfl)) h

def F_laws_FnTurnsOk : Fun := fun avs H =>
  match avs, H with
  | [.dat (.list (.int .u8)) x2909], [] => ⟨_, laws_FnTurnsOk x2909, fun (t : Bool) => (.dat .bool t, [])⟩
  | _, _ => Ans.no

theorem laws_FnTurnsOk_sound : Sound Tryd.prog 5 F_laws_FnTurnsOk := by
  refine fn_sound' (C := laws_FnTurnsOk_ctx) (c := bodyOf Tryd.f5) (cok_of tys_ok (List.forall_mem_cons.2 ⟨spec_DrawTurnsOk_sound, List.forall_mem_cons.2 ⟨impl_TurnsOk_sound, List.forall_mem_cons.2 ⟨spec_TurnsOk_sound, List.forall_mem_cons.2 ⟨laws_alive_sound, List.forall_mem_cons.2 ⟨impl_UnderOk_sound, List.forall_mem_cons.2 ⟨impl_GapsOf_sound, by simp⟩⟩⟩⟩⟩⟩) (List.forall_mem_cons.2 ⟨Tryd.call25, List.forall_mem_cons.2 ⟨Tryd.call26, List.forall_mem_cons.2 ⟨Tryd.call27, List.forall_mem_cons.2 ⟨Tryd.call14, List.forall_mem_cons.2 ⟨Tryd.call28, List.forall_mem_cons.2 ⟨Tryd.call12, by simp⟩⟩⟩⟩⟩⟩) (by kernel_rfl)) Tryd.func5 (by kernel_rfl) LL laws_FnTurnsOk_an ?_
  intro avs H r H' h
  unfold F_laws_FnTurnsOk at h
  split at h
  · refine Awp.cast ?_ ?_ ?_ (laws_FnTurnsOk_e _ h) <;> kernel_rfl
  · simp [Ans.no, Ans.run] at h


end Go.Rv
