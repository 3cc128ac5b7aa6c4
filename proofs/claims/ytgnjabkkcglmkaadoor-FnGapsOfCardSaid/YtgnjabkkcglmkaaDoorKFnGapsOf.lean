/-
  The checked code answers as the plain functions do; written by program. Conditions: none.
-/
import Derived.Test.YtgnjabkkcglmkaaDoorKFnGapsOfa
set_option linter.unusedVariables false
set_option linter.unusedSimpArgs false
set_option maxRecDepth 100000
namespace Go.Rv
open Go.Proofs
/-! loop.example/headtrees/laws.alive -/

def laws_alive_an : Ann := (.seq (.leaf []) (.seq (.leaf [0]) (.leaf [0])))

noncomputable def laws_alive_ctx : Ctx := ⟨tlook tys, olook [(22, F_impl_TreeOk)], ioF, 0, false⟩

theorem laws_alive_n1_l : Link laws_alive_ctx LL (bodyOf Tryd.f14) laws_alive_an (⟨mkE 8 0 [], []⟩ : St) (laws_alive_n1) (fun (t : Bool) => (Exit.ret, (⟨mkE 8 0 [(0, .dat .bool t)], []⟩ : St))) := by
  refine Link.of fun K h => ?_
  simp only [laws_alive_n1, wpO_bind, wpO_cond, wpO_map, wpO_some] at h
  exact Awp.of (by kernel_rfl) h

theorem laws_alive_e {r : AV} {H' : Heap} (h : (Ans.mk _ (laws_alive) (fun (t : Bool) => (.dat .bool t, []))).run = some (r, H')) : Awp laws_alive_ctx LL (bodyOf Tryd.f14) laws_alive_an (⟨mkE 8 0 [], []⟩ : St) (Ret (tlook tys) Tryd.f14.results.toList r H') :=
  ret_of' (laws_alive_n1_l) (by unfold laws_alive; kernel_rfl) (by
  intro t
  exact ret_mk [.dat .bool t] (by kernel_rfl) (by kernel_rfl) (by kernel_rfl) (by kernel_rfl)) h

def F_laws_alive : Fun := fun avs H =>
  match avs, H with
  | [], [] => ⟨_, laws_alive, fun (t : Bool) => (.dat .bool t, [])⟩
  | _, _ => Ans.no

theorem laws_alive_sound : Sound Tryd.prog 14 F_laws_alive := by
  refine fn_sound' (C := laws_alive_ctx) (c := bodyOf Tryd.f14) (cok_of tys_ok (List.forall_mem_cons.2 ⟨impl_TreeOk_sound, by simp⟩) (List.forall_mem_cons.2 ⟨Tryd.call22, by simp⟩) (by kernel_rfl)) Tryd.func14 (by kernel_rfl) LL laws_alive_an ?_
  intro avs H r H' h
  unfold F_laws_alive at h
  split at h
  · refine Awp.cast ?_ ?_ ?_ (laws_alive_e h) <;> kernel_rfl
  · simp [Ans.no, Ans.run] at h


/-! loop.example/headtrees/impl.DependsOf -/

def impl_DependsOf_an : Ann := (.seq (.leaf [0, 1]) (.seq (.seq (.leaf [0, 1, 17]) (.cond (.seq (.leaf [4]) (.leaf [4])) (.leaf [0, 1]))) (.seq (.leaf [4]) (.leaf [4]))))

noncomputable def impl_DependsOf_ctx : Ctx := ⟨tlook tys, olook [(22, F_impl_TreeOk), (48, F_impl_dependents), (49, F_impl_wordSet_list)], ioF, 0, false⟩

theorem impl_DependsOf_n1_l (x2081 : List Int) (x2082 : Int) : Link impl_DependsOf_ctx LL (bodyOf Tryd.f15) impl_DependsOf_an (⟨mkE 22 0 [(0, .dat (.list (.int .i64)) x2081), (1, .dat (.int .i64) x2082)], []⟩ : St) (impl_DependsOf_n1 x2081 x2082) (fun (t : (List Int)) => (Exit.ret, (⟨mkE 22 0 [(4, .slc 0)], [some (.seq (.int .i64) t)]⟩ : St))) := by
  refine Link.of fun K h => ?_
  simp only [impl_DependsOf_n1, wpO_bind, wpO_cond, wpO_map, wpO_some] at h
  exact Awp.of (by kernel_rfl) h

theorem impl_DependsOf_e (x2081 : List Int) (x2082 : Int) {r : AV} {H' : Heap} (h : (Ans.mk _ (impl_DependsOf x2081 x2082) (fun (t : (List Int)) => (.slc 0, [some (.seq (.int .i64) t)]))).run = some (r, H')) : Awp impl_DependsOf_ctx LL (bodyOf Tryd.f15) impl_DependsOf_an (⟨mkE 22 0 [(0, .dat (.list (.int .i64)) x2081), (1, .dat (.int .i64) x2082)], []⟩ : St) (Ret (tlook tys) Tryd.f15.results.toList r H') :=
  ret_of' (impl_DependsOf_n1_l x2081 x2082) (by unfold impl_DependsOf; kernel_rfl) (by
  intro t
  exact ret_mk [.slc 0] (by kernel_rfl) (by kernel_rfl) (by kernel_rfl) (by kernel_rfl)) h

def F_impl_DependsOf : Fun := fun avs H =>
  match avs, H with
  | [.dat (.list (.int .i64)) x2081, .dat (.int .i64) x2082], [] => ⟨_, impl_DependsOf x2081 x2082, fun (t : (List Int)) => (.slc 0, [some (.seq (.int .i64) t)])⟩
  | _, _ => Ans.no

theorem impl_DependsOf_sound : Sound Tryd.prog 15 F_impl_DependsOf := by
  refine fn_sound' (C := impl_DependsOf_ctx) (c := bodyOf Tryd.f15) (cok_of tys_ok (List.forall_mem_cons.2 ⟨impl_TreeOk_sound, List.forall_mem_cons.2 ⟨impl_dependents_sound, List.forall_mem_cons.2 ⟨impl_wordSet_list_sound, by simp⟩⟩⟩) (List.forall_mem_cons.2 ⟨Tryd.call22, List.forall_mem_cons.2 ⟨Tryd.call48, List.forall_mem_cons.2 ⟨Tryd.call49, by simp⟩⟩⟩) (by kernel_rfl)) Tryd.func15 (by kernel_rfl) LL impl_DependsOf_an ?_
  intro avs H r H' h
  unfold F_impl_DependsOf at h
  split at h
  · refine Awp.cast ?_ ?_ ?_ (impl_DependsOf_e _ _ h) <;> kernel_rfl
  · simp [Ans.no, Ans.run] at h


/-! loop.example/headtrees/impl.YieldOf -/

def impl_YieldOf_an : Ann := (.seq (.leaf [0, 1]) (.seq (.seq (.leaf [0, 1, 8]) (.cond (.seq (.leaf [4]) (.leaf [4])) (.leaf [0, 1]))) (.seq (.leaf [4]) (.leaf [4]))))

noncomputable def impl_YieldOf_ctx : Ctx := ⟨tlook tys, olook [(42, F_impl_wordOk), (43, F_impl_yieldsOf), (49, F_impl_wordSet_list)], ioF, 0, false⟩

theorem impl_YieldOf_n1_l (x2122 : List Int) (x2123 : Int) : Link impl_YieldOf_ctx LL (bodyOf Tryd.f17) impl_YieldOf_an (⟨mkE 16 0 [(0, .dat (.list (.int .i64)) x2122), (1, .dat (.int .i64) x2123)], []⟩ : St) (impl_YieldOf_n1 x2122 x2123) (fun (t : (List Int)) => (Exit.ret, (⟨mkE 16 0 [(4, .slc 0)], [some (.seq (.int .i64) t)]⟩ : St))) := by
  refine Link.of fun K h => ?_
  simp only [impl_YieldOf_n1, wpO_bind, wpO_cond, wpO_map, wpO_some] at h
  exact Awp.of (by kernel_rfl) h

theorem impl_YieldOf_e (x2122 : List Int) (x2123 : Int) {r : AV} {H' : Heap} (h : (Ans.mk _ (impl_YieldOf x2122 x2123) (fun (t : (List Int)) => (.slc 0, [some (.seq (.int .i64) t)]))).run = some (r, H')) : Awp impl_YieldOf_ctx LL (bodyOf Tryd.f17) impl_YieldOf_an (⟨mkE 16 0 [(0, .dat (.list (.int .i64)) x2122), (1, .dat (.int .i64) x2123)], []⟩ : St) (Ret (tlook tys) Tryd.f17.results.toList r H') :=
  ret_of' (impl_YieldOf_n1_l x2122 x2123) (by unfold impl_YieldOf; kernel_rfl) (by
  intro t
  exact ret_mk [.slc 0] (by kernel_rfl) (by kernel_rfl) (by kernel_rfl) (by kernel_rfl)) h

def F_impl_YieldOf : Fun := fun avs H =>
  match avs, H with
  | [.dat (.list (.int .i64)) x2122, .dat (.int .i64) x2123], [] => ⟨_, impl_YieldOf x2122 x2123, fun (t : (List Int)) => (.slc 0, [some (.seq (.int .i64) t)])⟩
  | _, _ => Ans.no

theorem impl_YieldOf_sound : Sound Tryd.prog 17 F_impl_YieldOf := by
  refine fn_sound' (C := impl_YieldOf_ctx) (c := bodyOf Tryd.f17) (cok_of tys_ok (List.forall_mem_cons.2 ⟨impl_wordOk_sound, List.forall_mem_cons.2 ⟨impl_yieldsOf_sound, List.forall_mem_cons.2 ⟨impl_wordSet_list_sound, by simp⟩⟩⟩) (List.forall_mem_cons.2 ⟨Tryd.call42, List.forall_mem_cons.2 ⟨Tryd.call43, List.forall_mem_cons.2 ⟨Tryd.call49, by simp⟩⟩⟩) (by kernel_rfl)) Tryd.func17 (by kernel_rfl) LL impl_YieldOf_an ?_
  intro avs H r H' h
  unfold F_impl_YieldOf at h
  split at h
  · refine Awp.cast ?_ ?_ ?_ (impl_YieldOf_e _ _ h) <;> kernel_rfl
  · simp [Ans.no, Ans.run] at h


/-! loop.example/headtrees/impl.lastToFirst -/

def impl_lastToFirst_an : Ann := (.seq (.leaf [0]) (.seq (.leaf [0, 3]) (.seq (.seq (.leaf [0, 3, 8, 9]) (.block (.loop (.seq (.leaf [0, 3, 8, 9, 10]) (.seq (.cond (.leaf [0, 3, 8, 9]) (.leaf [3])) (.seq (.block (.seq (.leaf [0, 3, 4, 8, 9]) (.leaf [0, 3, 8, 9]))) (.leaf [0, 3, 8, 9]))))))) (.seq (.leaf [2]) (.leaf [2])))))

noncomputable def impl_lastToFirst_ctx : Ctx := ⟨tlook tys, olook [], ioF, 0, false⟩

theorem impl_lastToFirst_n1_l (x2151 : Int) : Link impl_lastToFirst_ctx LL (Code.seq (Code.fst (bodyOf Tryd.f52)) (Code.fst (Code.snd (bodyOf Tryd.f52)))) (Ann.seq (Ann.fst impl_lastToFirst_an) (Ann.fst (Ann.snd impl_lastToFirst_an))) (⟨mkE 20 0 [(0, .dat (.int .i64) x2151)], []⟩ : St) (impl_lastToFirst_n1 x2151) (fun (t : (List Int)) => (Exit.normal, (⟨mkE 20 0 [(0, .dat (.int .i64) x2151), (3, .slc 0)], [some (.seq (.int .i64) t)]⟩ : St))) := by
  refine Link.of fun K h => ?_
  simp only [impl_lastToFirst_n1, wpO_bind, wpO_cond, wpO_map, wpO_some] at h
  exact Awp.of (by kernel_rfl) h

theorem impl_lastToFirst_n2_l (x2151 : Int) (x2153 : List Int) : Link impl_lastToFirst_ctx LL (Code.fst (Code.fst (Code.snd (Code.snd (bodyOf Tryd.f52))))) (Ann.fst (Ann.fst (Ann.snd (Ann.snd impl_lastToFirst_an)))) (⟨mkE 20 0 [(0, .dat (.int .i64) x2151), (3, .slc 0)], [some (.seq (.int .i64) x2153)]⟩ : St) (impl_lastToFirst_n2 x2153) (fun (t : Int) => (Exit.normal, (⟨mkE 20 0 [(0, .dat (.int .i64) x2151), (3, .slc 0), (8, .dat (.int .i64) t), (9, .dat (.int .i64) 0)], [some (.seq (.int .i64) x2153)]⟩ : St))) := by
  refine Link.of fun K h => ?_
  simp only [impl_lastToFirst_n2, wpO_bind, wpO_cond, wpO_map, wpO_some] at h
  exact Awp.of (by kernel_rfl) h

theorem impl_lastToFirst_n3_l (x2151 : Int) (x2154 : Int) (x2166 : Int) (x2167 : List Int) : Link impl_lastToFirst_ctx LL (Code.fst (Code.fst (Code.snd (Code.fst (Code.snd (Code.snd (bodyOf Tryd.f52))))))) (Ann.fst (Ann.fst (Ann.snd (Ann.fst (Ann.snd (Ann.snd impl_lastToFirst_an)))))) (⟨mkE 20 0 [(0, .dat (.int .i64) x2151), (3, .slc 0), (8, .dat (.int .i64) x2154), (9, .dat (.int .i64) x2166)], [some (.seq (.int .i64) x2167)]⟩ : St) (impl_lastToFirst_n3 x2151 x2154 x2166 x2167) (Sum.elim (fun (t : Int × (List Int)) => (Exit.normal, (⟨mkE 20 0 [(0, .dat (.int .i64) x2151), (3, .slc 0), (8, .dat (.int .i64) x2154), (9, .dat (.int .i64) t.1)], [some (.seq (.int .i64) t.2)]⟩ : St))) (fun (t : (List Int)) => ((Exit.exit 0), (⟨mkE 20 0 [(3, .slc 0)], [some (.seq (.int .i64) t)]⟩ : St)))) := by
  refine Link.of fun K h => ?_
  simp only [impl_lastToFirst_n3, wpO_bind, wpO_cond, wpO_map, wpO_some] at h
  exact Awp.of (by kernel_rfl) h

theorem impl_lastToFirst_n4_l (x2151 : Int) (x2154 : Int) (x2153 : List Int) : Link impl_lastToFirst_ctx LL (Code.fst (Code.snd (Code.fst (Code.snd (Code.snd (bodyOf Tryd.f52)))))) (Ann.fst (Ann.snd (Ann.fst (Ann.snd (Ann.snd impl_lastToFirst_an))))) (⟨mkE 20 0 [(0, .dat (.int .i64) x2151), (3, .slc 0), (8, .dat (.int .i64) x2154), (9, .dat (.int .i64) 0)], [some (.seq (.int .i64) x2153)]⟩ : St) (impl_lastToFirst_n4 x2151 x2154 x2153) (fun (t : (List Int)) => ((Exit.exit 0), (⟨mkE 20 0 [(3, .slc 0)], [some (.seq (.int .i64) t)]⟩ : St))) := by
  unfold impl_lastToFirst_n4
  exact Link.cast (by kernel_rfl) (by kernel_rfl) (link_loop (mk := fun (s : Int × (List Int)) => (⟨mkE 20 0 [(0, .dat (.int .i64) x2151), (3, .slc 0), (8, .dat (.int .i64) x2154), (9, .dat (.int .i64) s.1)], [some (.seq (.int .i64) s.2)]⟩ : St)) (fin := (fun (t : (List Int)) => ((Exit.exit 0), (⟨mkE 20 0 [(3, .slc 0)], [some (.seq (.int .i64) t)]⟩ : St)))) (by
  rintro t f K h
  · exact h) (fun s => link_map (impl_lastToFirst_n3_l x2151 x2154 s.1 s.2) (Sum.elim (fun (t : Int × (List Int)) => Sum.inl (t.1, t.2)) (fun (t : (List Int)) => Sum.inr t)) (by
  rintro (t | t)
  · kernel_rfl
  · kernel_rfl)) (0, x2153))

theorem impl_lastToFirst_n5_l (x2151 : Int) (x2154 : Int) (x2153 : List Int) : Link impl_lastToFirst_ctx LL (Code.snd (Code.fst (Code.snd (Code.snd (bodyOf Tryd.f52))))) (Ann.snd (Ann.fst (Ann.snd (Ann.snd impl_lastToFirst_an)))) (⟨mkE 20 0 [(0, .dat (.int .i64) x2151), (3, .slc 0), (8, .dat (.int .i64) x2154), (9, .dat (.int .i64) 0)], [some (.seq (.int .i64) x2153)]⟩ : St) (impl_lastToFirst_n5 x2151 x2154 x2153) (fun (t : (List Int)) => (Exit.normal, (⟨mkE 20 0 [(3, .slc 0)], [some (.seq (.int .i64) t)]⟩ : St))) := by
  unfold impl_lastToFirst_n5
  exact Link.cast (by kernel_rfl) (by kernel_rfl) (link_block (id := 0) (impl_lastToFirst_n4_l x2151 x2154 x2153) (fun (t : (List Int)) => t) (by
  rintro t K h
  · exact Eq.mp (by kernel_rfl) h))

theorem impl_lastToFirst_n6_l (x2151 : Int) (x2153 : List Int) : Link impl_lastToFirst_ctx LL (Code.fst (Code.snd (Code.snd (bodyOf Tryd.f52)))) (Ann.fst (Ann.snd (Ann.snd impl_lastToFirst_an))) (⟨mkE 20 0 [(0, .dat (.int .i64) x2151), (3, .slc 0)], [some (.seq (.int .i64) x2153)]⟩ : St) (impl_lastToFirst_n6 x2151 x2153) (fun (t : (List Int)) => (Exit.normal, (⟨mkE 20 0 [(3, .slc 0)], [some (.seq (.int .i64) t)]⟩ : St))) := by
  unfold impl_lastToFirst_n6
  exact Link.cast (by kernel_rfl) (by kernel_rfl) (link_seq (b := (Code.snd (Code.fst (Code.snd (Code.snd (bodyOf Tryd.f52)))))) (y := (Ann.snd (Ann.fst (Ann.snd (Ann.snd impl_lastToFirst_an))))) (impl_lastToFirst_n2_l x2151 x2153) (fun (t : Int) => (impl_lastToFirst_n5_l x2151 t x2153)))

theorem impl_lastToFirst_n7_l (x2167 : List Int) : Link impl_lastToFirst_ctx LL (Code.snd (Code.snd (Code.snd (bodyOf Tryd.f52)))) (Ann.snd (Ann.snd (Ann.snd impl_lastToFirst_an))) (⟨mkE 20 0 [(3, .slc 0)], [some (.seq (.int .i64) x2167)]⟩ : St) (impl_lastToFirst_n7 x2167) (fun (t : (List Int)) => (Exit.ret, (⟨mkE 20 0 [(2, .slc 0)], [some (.seq (.int .i64) t)]⟩ : St))) := by
  refine Link.of fun K h => ?_
  simp only [impl_lastToFirst_n7, wpO_bind, wpO_cond, wpO_map, wpO_some] at h
  exact Awp.of (by kernel_rfl) h

theorem impl_lastToFirst_n8_l (x2151 : Int) (x2153 : List Int) : Link impl_lastToFirst_ctx LL (Code.snd (Code.snd (bodyOf Tryd.f52))) (Ann.snd (Ann.snd impl_lastToFirst_an)) (⟨mkE 20 0 [(0, .dat (.int .i64) x2151), (3, .slc 0)], [some (.seq (.int .i64) x2153)]⟩ : St) (impl_lastToFirst_n8 x2151 x2153) (fun (t : (List Int)) => (Exit.ret, (⟨mkE 20 0 [(2, .slc 0)], [some (.seq (.int .i64) t)]⟩ : St))) := by
  unfold impl_lastToFirst_n8
  exact Link.cast (by kernel_rfl) (by kernel_rfl) (link_seq (b := (Code.snd (Code.snd (Code.snd (bodyOf Tryd.f52))))) (y := (Ann.snd (Ann.snd (Ann.snd impl_lastToFirst_an)))) (impl_lastToFirst_n6_l x2151 x2153) (fun (t : (List Int)) => (impl_lastToFirst_n7_l t)))

theorem impl_lastToFirst_n9_l (x2151 : Int) : Link impl_lastToFirst_ctx LL (bodyOf Tryd.f52) impl_lastToFirst_an (⟨mkE 20 0 [(0, .dat (.int .i64) x2151)], []⟩ : St) (impl_lastToFirst_n9 x2151) (fun (t : (List Int)) => (Exit.ret, (⟨mkE 20 0 [(2, .slc 0)], [some (.seq (.int .i64) t)]⟩ : St))) := by
  unfold impl_lastToFirst_n9
  exact Link.cast (by kernel_rfl) (by kernel_rfl) (link_group (c := (Code.fst (Code.snd (bodyOf Tryd.f52)))) (a := (Ann.fst (Ann.snd impl_lastToFirst_an))) [(Code.fst (bodyOf Tryd.f52))] [(Ann.fst impl_lastToFirst_an)] rfl (link_seq (b := (Code.snd (Code.snd (bodyOf Tryd.f52)))) (y := (Ann.snd (Ann.snd impl_lastToFirst_an))) (impl_lastToFirst_n1_l x2151) (fun (t : (List Int)) => (impl_lastToFirst_n8_l x2151 t))))

theorem impl_lastToFirst_e (x2151 : Int) {r : AV} {H' : Heap} (h : (Ans.mk _ (impl_lastToFirst x2151) (fun (t : (List Int)) => (.slc 0, [some (.seq (.int .i64) t)]))).run = some (r, H')) : Awp impl_lastToFirst_ctx LL (bodyOf Tryd.f52) impl_lastToFirst_an (⟨mkE 20 0 [(0, .dat (.int .i64) x2151)], []⟩ : St) (Ret (tlook tys) Tryd.f52.results.toList r H') :=
  ret_of' (impl_lastToFirst_n9_l x2151) (by unfold impl_lastToFirst; kernel_rfl) (by
  intro t
  exact ret_mk [.slc 0] (by kernel_rfl) (by kernel_rfl) (by kernel_rfl) (by kernel_rfl)) h

def F_impl_lastToFirst : Fun := fun avs H =>
  match avs, H with
  | [.dat (.int .i64) x2151], [] => ⟨_, impl_lastToFirst x2151, fun (t : (List Int)) => (.slc 0, [some (.seq (.int .i64) t)])⟩
  | _, _ => Ans.no

theorem impl_lastToFirst_sound : Sound Tryd.prog 52 F_impl_lastToFirst := by
  refine fn_sound' (C := impl_lastToFirst_ctx) (c := bodyOf Tryd.f52) (cok_of tys_ok (by simp) (by simp) (by kernel_rfl)) Tryd.func52 (by kernel_rfl) LL impl_lastToFirst_an ?_
  intro avs H r H' h
  unfold F_impl_lastToFirst at h
  split at h
  · refine Awp.cast ?_ ?_ ?_ (impl_lastToFirst_e _ h) <;> kernel_rfl
  · simp [Ans.no, Ans.run] at h


/-! loop.example/headtrees/impl.OrderOk -/

def impl_OrderOk_an : Ann := (.seq (.leaf [0, 1]) (.seq (.seq (.leaf [0, 1, 19]) (.cond (.seq (.leaf [4]) (.leaf [4])) (.leaf [0, 1]))) (.seq (.leaf [0, 1, 5]) (.seq (.seq (.leaf [1, 5, 20, 21, 22]) (.block (.loop (.seq (.leaf [1, 5, 20, 21, 22, 23]) (.seq (.cond (.leaf [1, 5, 20, 21, 22]) (.leaf [])) (.seq (.block (.seq (.leaf [1, 5, 7, 20, 21, 22]) (.seq (.seq (.leaf [1, 5, 7, 20, 21, 22, 37]) (.cond (.seq (.leaf [4]) (.leaf [4])) (.leaf [1, 5, 7, 20, 21, 22]))) (.leaf [1, 5, 20, 21, 22])))) (.leaf [1, 5, 20, 21, 22]))))))) (.seq (.leaf [4]) (.leaf [4]))))))

noncomputable def impl_OrderOk_ctx : Ctx := ⟨tlook tys, olook [], ioF, 0, false⟩

theorem impl_OrderOk_n1_l (x2185 : List Int) (x2186 : Int) : Link impl_OrderOk_ctx LL (Code.seq (Code.fst (bodyOf Tryd.f74)) (Code.seq (Code.fst (Code.snd (bodyOf Tryd.f74))) (Code.fst (Code.snd (Code.snd (bodyOf Tryd.f74)))))) (Ann.seq (Ann.fst impl_OrderOk_an) (Ann.seq (Ann.fst (Ann.snd impl_OrderOk_an)) (Ann.fst (Ann.snd (Ann.snd impl_OrderOk_an))))) (⟨mkE 41 0 [(0, .dat (.list (.int .i64)) x2185), (1, .dat (.int .i64) x2186)], []⟩ : St) (impl_OrderOk_n1 x2185 x2186) (Sum.elim (fun (t : Unit) => (Exit.normal, (⟨mkE 41 0 [(0, .dat (.list (.int .i64)) x2185), (1, .dat (.int .i64) x2186), (5, .ptr 0 0)], [some (.seq .bool (List.replicate 9 false))]⟩ : St))) (fun (t : Bool) => (Exit.ret, (⟨mkE 41 0 [(4, .dat .bool t)], []⟩ : St)))) := by
  refine Link.of fun K h => ?_
  simp only [impl_OrderOk_n1, wpO_bind, wpO_cond, wpO_map, wpO_some] at h
  exact Awp.of (by kernel_rfl) h

theorem impl_OrderOk_n2_l (x2185 : List Int) (x2186 : Int) : Link impl_OrderOk_ctx LL (Code.fst (Code.fst (Code.snd (Code.snd (Code.snd (bodyOf Tryd.f74)))))) (Ann.fst (Ann.fst (Ann.snd (Ann.snd (Ann.snd impl_OrderOk_an))))) (⟨mkE 41 0 [(0, .dat (.list (.int .i64)) x2185), (1, .dat (.int .i64) x2186), (5, .ptr 0 0)], [some (.seq .bool (List.replicate 9 false))]⟩ : St) (impl_OrderOk_n2 x2185) (fun (t : Int) => (Exit.normal, (⟨mkE 41 0 [(1, .dat (.int .i64) x2186), (5, .ptr 0 0), (20, .dat (.list (.int .i64)) x2185), (21, .dat (.int .i64) t), (22, .dat (.int .i64) 0)], [some (.seq .bool (List.replicate 9 false))]⟩ : St))) := by
  refine Link.of fun K h => ?_
  simp only [impl_OrderOk_n2, wpO_bind, wpO_cond, wpO_map, wpO_some] at h
  exact Awp.of (by kernel_rfl) h

theorem impl_OrderOk_n3_l (x2186 : Int) (x2185 : List Int) (x2196 : Int) (x2220 : Int) (x2221 : List Bool) : Link impl_OrderOk_ctx LL (Code.fst (Code.fst (Code.snd (Code.fst (Code.snd (Code.snd (Code.snd (bodyOf Tryd.f74)))))))) (Ann.fst (Ann.fst (Ann.snd (Ann.fst (Ann.snd (Ann.snd (Ann.snd impl_OrderOk_an))))))) (⟨mkE 41 0 [(1, .dat (.int .i64) x2186), (5, .ptr 0 0), (20, .dat (.list (.int .i64)) x2185), (21, .dat (.int .i64) x2196), (22, .dat (.int .i64) x2220)], [some (.seq .bool x2221)]⟩ : St) (impl_OrderOk_n3 x2186 x2185 x2196 x2220 x2221) (Sum.elim (fun (t : Int × (List Bool)) => (Exit.normal, (⟨mkE 41 0 [(1, .dat (.int .i64) x2186), (5, .ptr 0 0), (20, .dat (.list (.int .i64)) x2185), (21, .dat (.int .i64) x2196), (22, .dat (.int .i64) t.1)], [some (.seq .bool t.2)]⟩ : St))) (Sum.elim (fun (t : Bool) => (Exit.ret, (⟨mkE 41 0 [(4, .dat .bool t)], []⟩ : St))) (fun (t : Unit) => ((Exit.exit 0), (⟨mkE 41 0 [], []⟩ : St))))) := by
  refine Link.of fun K h => ?_
  simp only [impl_OrderOk_n3, wpO_bind, wpO_cond, wpO_map, wpO_some] at h
  exact Awp.of (by kernel_rfl) h

theorem impl_OrderOk_n4_l (x2186 : Int) (x2185 : List Int) (x2196 : Int) : Link impl_OrderOk_ctx LL (Code.fst (Code.snd (Code.fst (Code.snd (Code.snd (Code.snd (bodyOf Tryd.f74))))))) (Ann.fst (Ann.snd (Ann.fst (Ann.snd (Ann.snd (Ann.snd impl_OrderOk_an)))))) (⟨mkE 41 0 [(1, .dat (.int .i64) x2186), (5, .ptr 0 0), (20, .dat (.list (.int .i64)) x2185), (21, .dat (.int .i64) x2196), (22, .dat (.int .i64) 0)], [some (.seq .bool (List.replicate 9 false))]⟩ : St) (impl_OrderOk_n4 x2186 x2185 x2196) (Sum.elim (fun (t : Bool) => (Exit.ret, (⟨mkE 41 0 [(4, .dat .bool t)], []⟩ : St))) (fun (t : Unit) => ((Exit.exit 0), (⟨mkE 41 0 [], []⟩ : St)))) := by
  unfold impl_OrderOk_n4
  exact Link.cast (by kernel_rfl) (by kernel_rfl) (link_loop (mk := fun (s : Int × (List Bool)) => (⟨mkE 41 0 [(1, .dat (.int .i64) x2186), (5, .ptr 0 0), (20, .dat (.list (.int .i64)) x2185), (21, .dat (.int .i64) x2196), (22, .dat (.int .i64) s.1)], [some (.seq .bool s.2)]⟩ : St)) (fin := (Sum.elim (fun (t : Bool) => (Exit.ret, (⟨mkE 41 0 [(4, .dat .bool t)], []⟩ : St))) (fun (t : Unit) => ((Exit.exit 0), (⟨mkE 41 0 [], []⟩ : St))))) (by
  rintro (t | t) f K h
  · exact h
  · exact h) (fun s => link_map (impl_OrderOk_n3_l x2186 x2185 x2196 s.1 s.2) (Sum.elim (fun (t : Int × (List Bool)) => Sum.inl (t.1, t.2)) (Sum.elim (fun (t : Bool) => Sum.inr (Sum.inl t)) (fun (t : Unit) => Sum.inr (Sum.inr t)))) (by
  rintro (t | t | t)
  · kernel_rfl
  · kernel_rfl
  · kernel_rfl)) (0, (List.replicate 9 false)))

theorem impl_OrderOk_n5_l (x2186 : Int) (x2185 : List Int) (x2196 : Int) : Link impl_OrderOk_ctx LL (Code.snd (Code.fst (Code.snd (Code.snd (Code.snd (bodyOf Tryd.f74)))))) (Ann.snd (Ann.fst (Ann.snd (Ann.snd (Ann.snd impl_OrderOk_an))))) (⟨mkE 41 0 [(1, .dat (.int .i64) x2186), (5, .ptr 0 0), (20, .dat (.list (.int .i64)) x2185), (21, .dat (.int .i64) x2196), (22, .dat (.int .i64) 0)], [some (.seq .bool (List.replicate 9 false))]⟩ : St) (impl_OrderOk_n5 x2186 x2185 x2196) (Sum.elim (fun (t : Unit) => (Exit.normal, (⟨mkE 41 0 [], []⟩ : St))) (fun (t : Bool) => (Exit.ret, (⟨mkE 41 0 [(4, .dat .bool t)], []⟩ : St)))) := by
  unfold impl_OrderOk_n5
  exact Link.cast (by kernel_rfl) (by kernel_rfl) (link_block (id := 0) (impl_OrderOk_n4_l x2186 x2185 x2196) (Sum.elim (fun (t : Bool) => (Sum.inr t)) (fun (t : Unit) => (Sum.inl ()))) (by
  rintro (t | t) K h
  · exact Eq.mp (by kernel_rfl) h
  · exact Eq.mp (by kernel_rfl) h))

theorem impl_OrderOk_n6_l (x2185 : List Int) (x2186 : Int) : Link impl_OrderOk_ctx LL (Code.fst (Code.snd (Code.snd (Code.snd (bodyOf Tryd.f74))))) (Ann.fst (Ann.snd (Ann.snd (Ann.snd impl_OrderOk_an)))) (⟨mkE 41 0 [(0, .dat (.list (.int .i64)) x2185), (1, .dat (.int .i64) x2186), (5, .ptr 0 0)], [some (.seq .bool (List.replicate 9 false))]⟩ : St) (impl_OrderOk_n6 x2185 x2186) (Sum.elim (fun (t : Unit) => (Exit.normal, (⟨mkE 41 0 [], []⟩ : St))) (fun (t : Bool) => (Exit.ret, (⟨mkE 41 0 [(4, .dat .bool t)], []⟩ : St)))) := by
  unfold impl_OrderOk_n6
  exact Link.cast (by kernel_rfl) (by kernel_rfl) (link_seq (b := (Code.snd (Code.fst (Code.snd (Code.snd (Code.snd (bodyOf Tryd.f74))))))) (y := (Ann.snd (Ann.fst (Ann.snd (Ann.snd (Ann.snd impl_OrderOk_an)))))) (impl_OrderOk_n2_l x2185 x2186) (fun (t : Int) => (impl_OrderOk_n5_l x2186 x2185 t)))

theorem impl_OrderOk_n7_l : Link impl_OrderOk_ctx LL (Code.snd (Code.snd (Code.snd (Code.snd (bodyOf Tryd.f74))))) (Ann.snd (Ann.snd (Ann.snd (Ann.snd impl_OrderOk_an)))) (⟨mkE 41 0 [], []⟩ : St) (impl_OrderOk_n7) (fun (t : Bool) => (Exit.ret, (⟨mkE 41 0 [(4, .dat .bool t)], []⟩ : St))) := by
  refine Link.of fun K h => ?_
  simp only [impl_OrderOk_n7, wpO_bind, wpO_cond, wpO_map, wpO_some] at h
  exact Awp.of (by kernel_rfl) h

theorem impl_OrderOk_n8_l (x2185 : List Int) (x2186 : Int) : Link impl_OrderOk_ctx LL (Code.snd (Code.snd (Code.snd (bodyOf Tryd.f74)))) (Ann.snd (Ann.snd (Ann.snd impl_OrderOk_an))) (⟨mkE 41 0 [(0, .dat (.list (.int .i64)) x2185), (1, .dat (.int .i64) x2186), (5, .ptr 0 0)], [some (.seq .bool (List.replicate 9 false))]⟩ : St) (impl_OrderOk_n8 x2185 x2186) (fun (t : Bool) => (Exit.ret, (⟨mkE 41 0 [(4, .dat .bool t)], []⟩ : St))) := by
  unfold impl_OrderOk_n8
  exact Link.cast (by kernel_rfl) (by kernel_rfl) (link_seq2 (b := (Code.snd (Code.snd (Code.snd (Code.snd (bodyOf Tryd.f74)))))) (y := (Ann.snd (Ann.snd (Ann.snd (Ann.snd impl_OrderOk_an))))) (impl_OrderOk_n6_l x2185 x2186) (fun (t : Unit) => (impl_OrderOk_n7_l)) (fun (t : Bool) => t) (by
  rintro t
  · kernel_rfl) (by
  rintro t f K h
  · exact h))

theorem impl_OrderOk_n9_l (x2185 : List Int) (x2186 : Int) : Link impl_OrderOk_ctx LL (bodyOf Tryd.f74) impl_OrderOk_an (⟨mkE 41 0 [(0, .dat (.list (.int .i64)) x2185), (1, .dat (.int .i64) x2186)], []⟩ : St) (impl_OrderOk_n9 x2185 x2186) (fun (t : Bool) => (Exit.ret, (⟨mkE 41 0 [(4, .dat .bool t)], []⟩ : St))) := by
  unfold impl_OrderOk_n9
  exact Link.cast (by kernel_rfl) (by kernel_rfl) (link_group (c := (Code.fst (Code.snd (Code.snd (bodyOf Tryd.f74))))) (a := (Ann.fst (Ann.snd (Ann.snd impl_OrderOk_an)))) [(Code.fst (bodyOf Tryd.f74)), (Code.fst (Code.snd (bodyOf Tryd.f74)))] [(Ann.fst impl_OrderOk_an), (Ann.fst (Ann.snd impl_OrderOk_an))] rfl (link_seq2 (b := (Code.snd (Code.snd (Code.snd (bodyOf Tryd.f74))))) (y := (Ann.snd (Ann.snd (Ann.snd impl_OrderOk_an)))) (impl_OrderOk_n1_l x2185 x2186) (fun (t : Unit) => (impl_OrderOk_n8_l x2185 x2186)) (fun (t : Bool) => t) (by
  rintro t
  · kernel_rfl) (by
  rintro t f K h
  · exact h)))

theorem impl_OrderOk_e (x2185 : List Int) (x2186 : Int) {r : AV} {H' : Heap} (h : (Ans.mk _ (impl_OrderOk x2185 x2186) (fun (t : Bool) => (.dat .bool t, []))).run = some (r, H')) : Awp impl_OrderOk_ctx LL (bodyOf Tryd.f74) impl_OrderOk_an (⟨mkE 41 0 [(0, .dat (.list (.int .i64)) x2185), (1, .dat (.int .i64) x2186)], []⟩ : St) (Ret (tlook tys) Tryd.f74.results.toList r H') :=
  ret_of' (impl_OrderOk_n9_l x2185 x2186) (by unfold impl_OrderOk; kernel_rfl) (by
  intro t
  exact ret_mk [.dat .bool t] (by kernel_rfl) (by kernel_rfl) (by kernel_rfl) (by kernel_rfl)) h

def F_impl_OrderOk : Fun := fun avs H =>
  match avs, H with
  | [.dat (.list (.int .i64)) x2185, .dat (.int .i64) x2186], [] => ⟨_, impl_OrderOk x2185 x2186, fun (t : Bool) => (.dat .bool t, [])⟩
  | _, _ => Ans.no

theorem impl_OrderOk_sound : Sound Tryd.prog 74 F_impl_OrderOk := by
  refine fn_sound' (C := impl_OrderOk_ctx) (c := bodyOf Tryd.f74) (cok_of tys_ok (by simp) (by simp) (by kernel_rfl)) Tryd.func74 (by kernel_rfl) LL impl_OrderOk_an ?_
  intro avs H r H' h
  unfold F_impl_OrderOk at h
  split at h
  · refine Awp.cast ?_ ?_ ?_ (impl_OrderOk_e _ _ h) <;> kernel_rfl
  · simp [Ans.no, Ans.run] at h


/-! loop.example/headtrees/impl.placesIn -/

def impl_placesIn_an : Ann := (.seq (.leaf [0]) (.seq (.leaf [0, 3]) (.seq (.seq (.leaf [3, 10, 11, 12]) (.block (.loop (.seq (.leaf [3, 10, 11, 12, 13]) (.seq (.cond (.leaf [3, 10, 11, 12]) (.leaf [3])) (.seq (.block (.seq (.leaf [3, 4, 5, 10, 11, 12]) (.leaf [3, 10, 11, 12]))) (.leaf [3, 10, 11, 12]))))))) (.seq (.leaf [2]) (.leaf [2])))))

noncomputable def impl_placesIn_ctx : Ctx := ⟨tlook tys, olook [], ioF, 0, false⟩

theorem impl_placesIn_n1_l (x2253 : List Int) : Link impl_placesIn_ctx LL (Code.seq (Code.fst (bodyOf Tryd.f75)) (Code.fst (Code.snd (bodyOf Tryd.f75)))) (Ann.seq (Ann.fst impl_placesIn_an) (Ann.fst (Ann.snd impl_placesIn_an))) (⟨mkE 24 0 [(0, .dat (.list (.int .i64)) x2253)], []⟩ : St) (impl_placesIn_n1 x2253) (fun (t : (List Int)) => (Exit.normal, (⟨mkE 24 0 [(0, .dat (.list (.int .i64)) x2253), (3, .slc 0)], [some (.seq (.int .i64) t)]⟩ : St))) := by
  refine Link.of fun K h => ?_
  simp only [impl_placesIn_n1, wpO_bind, wpO_cond, wpO_map, wpO_some] at h
  exact Awp.of (by kernel_rfl) h

theorem impl_placesIn_n2_l (x2253 : List Int) (x2257 : List Int) : Link impl_placesIn_ctx LL (Code.fst (Code.fst (Code.snd (Code.snd (bodyOf Tryd.f75))))) (Ann.fst (Ann.fst (Ann.snd (Ann.snd impl_placesIn_an)))) (⟨mkE 24 0 [(0, .dat (.list (.int .i64)) x2253), (3, .slc 0)], [some (.seq (.int .i64) x2257)]⟩ : St) (impl_placesIn_n2 x2253) (fun (t : Int) => (Exit.normal, (⟨mkE 24 0 [(3, .slc 0), (10, .dat (.list (.int .i64)) x2253), (11, .dat (.int .i64) t), (12, .dat (.int .i64) 0)], [some (.seq (.int .i64) x2257)]⟩ : St))) := by
  refine Link.of fun K h => ?_
  simp only [impl_placesIn_n2, wpO_bind, wpO_cond, wpO_map, wpO_some] at h
  exact Awp.of (by kernel_rfl) h

theorem impl_placesIn_n3_l (x2253 : List Int) (x2258 : Int) (x2272 : Int) (x2273 : List Int) : Link impl_placesIn_ctx LL (Code.fst (Code.fst (Code.snd (Code.fst (Code.snd (Code.snd (bodyOf Tryd.f75))))))) (Ann.fst (Ann.fst (Ann.snd (Ann.fst (Ann.snd (Ann.snd impl_placesIn_an)))))) (⟨mkE 24 0 [(3, .slc 0), (10, .dat (.list (.int .i64)) x2253), (11, .dat (.int .i64) x2258), (12, .dat (.int .i64) x2272)], [some (.seq (.int .i64) x2273)]⟩ : St) (impl_placesIn_n3 x2253 x2258 x2272 x2273) (Sum.elim (fun (t : Int × (List Int)) => (Exit.normal, (⟨mkE 24 0 [(3, .slc 0), (10, .dat (.list (.int .i64)) x2253), (11, .dat (.int .i64) x2258), (12, .dat (.int .i64) t.1)], [some (.seq (.int .i64) t.2)]⟩ : St))) (fun (t : (List Int)) => ((Exit.exit 0), (⟨mkE 24 0 [(3, .slc 0)], [some (.seq (.int .i64) t)]⟩ : St)))) := by
  refine Link.of fun K h => ?_
  simp only [impl_placesIn_n3, wpO_bind, wpO_cond, wpO_map, wpO_some] at h
  exact Awp.of (by kernel_rfl) h

theorem impl_placesIn_n4_l (x2253 : List Int) (x2258 : Int) (x2257 : List Int) : Link impl_placesIn_ctx LL (Code.fst (Code.snd (Code.fst (Code.snd (Code.snd (bodyOf Tryd.f75)))))) (Ann.fst (Ann.snd (Ann.fst (Ann.snd (Ann.snd impl_placesIn_an))))) (⟨mkE 24 0 [(3, .slc 0), (10, .dat (.list (.int .i64)) x2253), (11, .dat (.int .i64) x2258), (12, .dat (.int .i64) 0)], [some (.seq (.int .i64) x2257)]⟩ : St) (impl_placesIn_n4 x2253 x2258 x2257) (fun (t : (List Int)) => ((Exit.exit 0), (⟨mkE 24 0 [(3, .slc 0)], [some (.seq (.int .i64) t)]⟩ : St))) := by
  unfold impl_placesIn_n4
  exact Link.cast (by kernel_rfl) (by kernel_rfl) (link_loop (mk := fun (s : Int × (List Int)) => (⟨mkE 24 0 [(3, .slc 0), (10, .dat (.list (.int .i64)) x2253), (11, .dat (.int .i64) x2258), (12, .dat (.int .i64) s.1)], [some (.seq (.int .i64) s.2)]⟩ : St)) (fin := (fun (t : (List Int)) => ((Exit.exit 0), (⟨mkE 24 0 [(3, .slc 0)], [some (.seq (.int .i64) t)]⟩ : St)))) (by
  rintro t f K h
  · exact h) (fun s => link_map (impl_placesIn_n3_l x2253 x2258 s.1 s.2) (Sum.elim (fun (t : Int × (List Int)) => Sum.inl (t.1, t.2)) (fun (t : (List Int)) => Sum.inr t)) (by
  rintro (t | t)
  · kernel_rfl
  · kernel_rfl)) (0, x2257))

theorem impl_placesIn_n5_l (x2253 : List Int) (x2258 : Int) (x2257 : List Int) : Link impl_placesIn_ctx LL (Code.snd (Code.fst (Code.snd (Code.snd (bodyOf Tryd.f75))))) (Ann.snd (Ann.fst (Ann.snd (Ann.snd impl_placesIn_an)))) (⟨mkE 24 0 [(3, .slc 0), (10, .dat (.list (.int .i64)) x2253), (11, .dat (.int .i64) x2258), (12, .dat (.int .i64) 0)], [some (.seq (.int .i64) x2257)]⟩ : St) (impl_placesIn_n5 x2253 x2258 x2257) (fun (t : (List Int)) => (Exit.normal, (⟨mkE 24 0 [(3, .slc 0)], [some (.seq (.int .i64) t)]⟩ : St))) := by
  unfold impl_placesIn_n5
  exact Link.cast (by kernel_rfl) (by kernel_rfl) (link_block (id := 0) (impl_placesIn_n4_l x2253 x2258 x2257) (fun (t : (List Int)) => t) (by
  rintro t K h
  · exact Eq.mp (by kernel_rfl) h))

theorem impl_placesIn_n6_l (x2253 : List Int) (x2257 : List Int) : Link impl_placesIn_ctx LL (Code.fst (Code.snd (Code.snd (bodyOf Tryd.f75)))) (Ann.fst (Ann.snd (Ann.snd impl_placesIn_an))) (⟨mkE 24 0 [(0, .dat (.list (.int .i64)) x2253), (3, .slc 0)], [some (.seq (.int .i64) x2257)]⟩ : St) (impl_placesIn_n6 x2253 x2257) (fun (t : (List Int)) => (Exit.normal, (⟨mkE 24 0 [(3, .slc 0)], [some (.seq (.int .i64) t)]⟩ : St))) := by
  unfold impl_placesIn_n6
  exact Link.cast (by kernel_rfl) (by kernel_rfl) (link_seq (b := (Code.snd (Code.fst (Code.snd (Code.snd (bodyOf Tryd.f75)))))) (y := (Ann.snd (Ann.fst (Ann.snd (Ann.snd impl_placesIn_an))))) (impl_placesIn_n2_l x2253 x2257) (fun (t : Int) => (impl_placesIn_n5_l x2253 t x2257)))

theorem impl_placesIn_n7_l (x2273 : List Int) : Link impl_placesIn_ctx LL (Code.snd (Code.snd (Code.snd (bodyOf Tryd.f75)))) (Ann.snd (Ann.snd (Ann.snd impl_placesIn_an))) (⟨mkE 24 0 [(3, .slc 0)], [some (.seq (.int .i64) x2273)]⟩ : St) (impl_placesIn_n7 x2273) (fun (t : (List Int)) => (Exit.ret, (⟨mkE 24 0 [(2, .slc 0)], [some (.seq (.int .i64) t)]⟩ : St))) := by
  refine Link.of fun K h => ?_
  simp only [impl_placesIn_n7, wpO_bind, wpO_cond, wpO_map, wpO_some] at h
  exact Awp.of (by kernel_rfl) h

theorem impl_placesIn_n8_l (x2253 : List Int) (x2257 : List Int) : Link impl_placesIn_ctx LL (Code.snd (Code.snd (bodyOf Tryd.f75))) (Ann.snd (Ann.snd impl_placesIn_an)) (⟨mkE 24 0 [(0, .dat (.list (.int .i64)) x2253), (3, .slc 0)], [some (.seq (.int .i64) x2257)]⟩ : St) (impl_placesIn_n8 x2253 x2257) (fun (t : (List Int)) => (Exit.ret, (⟨mkE 24 0 [(2, .slc 0)], [some (.seq (.int .i64) t)]⟩ : St))) := by
  unfold impl_placesIn_n8
  exact Link.cast (by kernel_rfl) (by kernel_rfl) (link_seq (b := (Code.snd (Code.snd (Code.snd (bodyOf Tryd.f75))))) (y := (Ann.snd (Ann.snd (Ann.snd impl_placesIn_an)))) (impl_placesIn_n6_l x2253 x2257) (fun (t : (List Int)) => (impl_placesIn_n7_l t)))

theorem impl_placesIn_n9_l (x2253 : List Int) : Link impl_placesIn_ctx LL (bodyOf Tryd.f75) impl_placesIn_an (⟨mkE 24 0 [(0, .dat (.list (.int .i64)) x2253)], []⟩ : St) (impl_placesIn_n9 x2253) (fun (t : (List Int)) => (Exit.ret, (⟨mkE 24 0 [(2, .slc 0)], [some (.seq (.int .i64) t)]⟩ : St))) := by
  unfold impl_placesIn_n9
  exact Link.cast (by kernel_rfl) (by kernel_rfl) (link_group (c := (Code.fst (Code.snd (bodyOf Tryd.f75)))) (a := (Ann.fst (Ann.snd impl_placesIn_an))) [(Code.fst (bodyOf Tryd.f75))] [(Ann.fst impl_placesIn_an)] rfl (link_seq (b := (Code.snd (Code.snd (bodyOf Tryd.f75)))) (y := (Ann.snd (Ann.snd impl_placesIn_an))) (impl_placesIn_n1_l x2253) (fun (t : (List Int)) => (impl_placesIn_n8_l x2253 t))))

theorem impl_placesIn_e (x2253 : List Int) {r : AV} {H' : Heap} (h : (Ans.mk _ (impl_placesIn x2253) (fun (t : (List Int)) => (.slc 0, [some (.seq (.int .i64) t)]))).run = some (r, H')) : Awp impl_placesIn_ctx LL (bodyOf Tryd.f75) impl_placesIn_an (⟨mkE 24 0 [(0, .dat (.list (.int .i64)) x2253)], []⟩ : St) (Ret (tlook tys) Tryd.f75.results.toList r H') :=
  ret_of' (impl_placesIn_n9_l x2253) (by unfold impl_placesIn; kernel_rfl) (by
  intro t
  exact ret_mk [.slc 0] (by kernel_rfl) (by kernel_rfl) (by kernel_rfl) (by kernel_rfl)) h

def F_impl_placesIn : Fun := fun avs H =>
  match avs, H with
  | [.dat (.list (.int .i64)) x2253], [] => ⟨_, impl_placesIn x2253, fun (t : (List Int)) => (.slc 0, [some (.seq (.int .i64) t)])⟩
  | _, _ => Ans.no

theorem impl_placesIn_sound : Sound Tryd.prog 75 F_impl_placesIn := by
  refine fn_sound' (C := impl_placesIn_ctx) (c := bodyOf Tryd.f75) (cok_of tys_ok (by simp) (by simp) (by kernel_rfl)) Tryd.func75 (by kernel_rfl) LL impl_placesIn_an ?_
  intro avs H r H' h
  unfold F_impl_placesIn at h
  split at h
  · refine Awp.cast ?_ ?_ ?_ (impl_placesIn_e _ h) <;> kernel_rfl
  · simp [Ans.no, Ans.run] at h


/-! loop.example/headtrees/impl.PutInOrder$1 -/

def impl_PutInOrder_1_an : Ann := (.seq (.leaf [0, 1]) (.seq (.leaf [3]) (.leaf [3])))

noncomputable def impl_PutInOrder_1_ctx : Ctx := ⟨tlook tys, olook [], ioF, 2, false⟩

theorem impl_PutInOrder_1_n1_l (x2307 : Int) (x2308 : List Int) : Link impl_PutInOrder_1_ctx LL (bodyOf Tryd.f77) impl_PutInOrder_1_an (⟨mkE 8 0 [(0, .dat (.int .i64) x2307), (1, .ptr 0 0)], [some (.box [.slc 1]), some (.seq (.int .i64) x2308)]⟩ : St) (impl_PutInOrder_1_n1 x2307 x2308) (fun (t : Int) => (Exit.ret, (⟨mkE 8 0 [(3, .dat (.int .i64) t)], [some (.box [.slc 1]), some (.seq (.int .i64) x2308)]⟩ : St))) := by
  refine Link.of fun K h => ?_
  simp only [impl_PutInOrder_1_n1, wpO_bind, wpO_cond, wpO_map, wpO_some] at h
  exact Awp.of (by kernel_rfl) h

theorem impl_PutInOrder_1_e (x2307 : Int) (x2308 : List Int) {r : AV} {H' : Heap} (h : (Ans.mk _ (impl_PutInOrder_1 x2307 x2308) (fun (t : Int) => (.dat (.int .i64) t, [some (.box [.slc 1]), some (.seq (.int .i64) x2308)]))).run = some (r, H')) : Awp impl_PutInOrder_1_ctx LL (bodyOf Tryd.f77) impl_PutInOrder_1_an (⟨mkE 8 0 [(0, .dat (.int .i64) x2307), (1, .ptr 0 0)], [some (.box [.slc 1]), some (.seq (.int .i64) x2308)]⟩ : St) (Ret (tlook tys) Tryd.f77.results.toList r H') :=
  ret_of' (impl_PutInOrder_1_n1_l x2307 x2308) (by unfold impl_PutInOrder_1; kernel_rfl) (by
  intro t
  exact ret_mk [.dat (.int .i64) t] (by kernel_rfl) (by kernel_rfl) (by kernel_rfl) (by kernel_rfl)) h

def F_impl_PutInOrder_1 : Fun := fun avs H =>
  match avs, H with
  | [.dat (.int .i64) x2307, .ptr 0 0], [some (.box [.slc 1]), some (.seq (.int .i64) x2308)] => ⟨_, impl_PutInOrder_1 x2307 x2308, fun (t : Int) => (.dat (.int .i64) t, [some (.box [.slc 1]), some (.seq (.int .i64) x2308)])⟩
  | _, _ => Ans.no

theorem impl_PutInOrder_1_sound : Sound Tryd.prog 77 F_impl_PutInOrder_1 := by
  refine fn_sound' (C := impl_PutInOrder_1_ctx) (c := bodyOf Tryd.f77) (cok_of tys_ok (by simp) (by simp) (by kernel_rfl)) Tryd.func77 (by kernel_rfl) LL impl_PutInOrder_1_an ?_
  intro avs H r H' h
  unfold F_impl_PutInOrder_1 at h
  split at h
  · refine Awp.cast ?_ ?_ ?_ (impl_PutInOrder_1_e _ _ h) <;> kernel_rfl
  · simp [Ans.no, Ans.run] at h


/-! loop.example/headtrees/impl.renamed[int] -/

def impl_renamed_int_an : Ann := (.seq (.leaf [0, 1, 2]) (.seq (.leaf [0, 1, 2, 7]) (.seq (.seq (.leaf [0, 2, 7, 13, 14, 15]) (.block (.loop (.seq (.leaf [0, 2, 7, 13, 14, 15, 16]) (.seq (.cond (.leaf [0, 2, 7, 13, 14, 15]) (.leaf [7])) (.seq (.block (.seq (.leaf [0, 2, 7, 8, 9, 13, 14, 15]) (.leaf [0, 2, 7, 13, 14, 15]))) (.leaf [0, 2, 7, 13, 14, 15]))))))) (.seq (.leaf [6]) (.leaf [6])))))

noncomputable def impl_renamed_int_ctx : Ctx := ⟨tlook tys, olook [(77, F_impl_PutInOrder_1)], ioF, 2, false⟩

theorem impl_renamed_int_n1_l (x2294 : List Int) (x2295 : List Int) (x2296 : List Int) : Link impl_renamed_int_ctx LL (Code.seq (Code.fst (bodyOf Tryd.f76)) (Code.fst (Code.snd (bodyOf Tryd.f76)))) (Ann.seq (Ann.fst impl_renamed_int_an) (Ann.fst (Ann.snd impl_renamed_int_an))) (⟨mkE 32 0 [(0, .dat (.list (.int .i64)) x2294), (1, .dat (.list (.int .i64)) x2295), (2, .fn 77 [] [.ptr 0 0])], [some (.box [.slc 1]), some (.seq (.int .i64) x2296)]⟩ : St) (impl_renamed_int_n1 x2295) (fun (t : (List Int)) => (Exit.normal, (⟨mkE 32 0 [(0, .dat (.list (.int .i64)) x2294), (1, .dat (.list (.int .i64)) x2295), (2, .fn 77 [] [.ptr 0 0]), (7, .slc 2)], [some (.box [.slc 1]), some (.seq (.int .i64) x2296), some (.seq (.int .i64) t)]⟩ : St))) := by
  refine Link.of fun K h => ?_
  simp only [impl_renamed_int_n1, wpO_bind, wpO_cond, wpO_map, wpO_some] at h
  exact Awp.of (by kernel_rfl) h

theorem impl_renamed_int_n2_l (x2294 : List Int) (x2295 : List Int) (x2296 : List Int) (x2299 : List Int) : Link impl_renamed_int_ctx LL (Code.fst (Code.fst (Code.snd (Code.snd (bodyOf Tryd.f76))))) (Ann.fst (Ann.fst (Ann.snd (Ann.snd impl_renamed_int_an)))) (⟨mkE 32 0 [(0, .dat (.list (.int .i64)) x2294), (1, .dat (.list (.int .i64)) x2295), (2, .fn 77 [] [.ptr 0 0]), (7, .slc 2)], [some (.box [.slc 1]), some (.seq (.int .i64) x2296), some (.seq (.int .i64) x2299)]⟩ : St) (impl_renamed_int_n2 x2295) (fun (t : Int) => (Exit.normal, (⟨mkE 32 0 [(0, .dat (.list (.int .i64)) x2294), (2, .fn 77 [] [.ptr 0 0]), (7, .slc 2), (13, .dat (.list (.int .i64)) x2295), (14, .dat (.int .i64) t), (15, .dat (.int .i64) 0)], [some (.box [.slc 1]), some (.seq (.int .i64) x2296), some (.seq (.int .i64) x2299)]⟩ : St))) := by
  refine Link.of fun K h => ?_
  simp only [impl_renamed_int_n2, wpO_bind, wpO_cond, wpO_map, wpO_some] at h
  exact Awp.of (by kernel_rfl) h

theorem impl_renamed_int_n3_l (x2294 : List Int) (x2295 : List Int) (x2300 : Int) (x2324 : Int) (x2296 : List Int) (x2325 : List Int) : Link impl_renamed_int_ctx LL (Code.fst (Code.fst (Code.snd (Code.fst (Code.snd (Code.snd (bodyOf Tryd.f76))))))) (Ann.fst (Ann.fst (Ann.snd (Ann.fst (Ann.snd (Ann.snd impl_renamed_int_an)))))) (⟨mkE 32 0 [(0, .dat (.list (.int .i64)) x2294), (2, .fn 77 [] [.ptr 0 0]), (7, .slc 2), (13, .dat (.list (.int .i64)) x2295), (14, .dat (.int .i64) x2300), (15, .dat (.int .i64) x2324)], [some (.box [.slc 1]), some (.seq (.int .i64) x2296), some (.seq (.int .i64) x2325)]⟩ : St) (impl_renamed_int_n3 x2294 x2295 x2300 x2324 x2296 x2325) (Sum.elim (fun (t : Int × (List Int)) => (Exit.normal, (⟨mkE 32 0 [(0, .dat (.list (.int .i64)) x2294), (2, .fn 77 [] [.ptr 0 0]), (7, .slc 2), (13, .dat (.list (.int .i64)) x2295), (14, .dat (.int .i64) x2300), (15, .dat (.int .i64) t.1)], [some (.box [.slc 1]), some (.seq (.int .i64) x2296), some (.seq (.int .i64) t.2)]⟩ : St))) (fun (t : (List Int)) => ((Exit.exit 0), (⟨mkE 32 0 [(7, .slc 2)], [some (.box [.slc 1]), some (.seq (.int .i64) x2296), some (.seq (.int .i64) t)]⟩ : St)))) := by
  refine Link.of fun K h => ?_
  simp only [impl_renamed_int_n3, wpO_bind, wpO_cond, wpO_map, wpO_some] at h
  exact Awp.of (by kernel_rfl) h

theorem impl_renamed_int_n4_l (x2294 : List Int) (x2295 : List Int) (x2300 : Int) (x2296 : List Int) (x2299 : List Int) : Link impl_renamed_int_ctx LL (Code.fst (Code.snd (Code.fst (Code.snd (Code.snd (bodyOf Tryd.f76)))))) (Ann.fst (Ann.snd (Ann.fst (Ann.snd (Ann.snd impl_renamed_int_an))))) (⟨mkE 32 0 [(0, .dat (.list (.int .i64)) x2294), (2, .fn 77 [] [.ptr 0 0]), (7, .slc 2), (13, .dat (.list (.int .i64)) x2295), (14, .dat (.int .i64) x2300), (15, .dat (.int .i64) 0)], [some (.box [.slc 1]), some (.seq (.int .i64) x2296), some (.seq (.int .i64) x2299)]⟩ : St) (impl_renamed_int_n4 x2294 x2295 x2300 x2296 x2299) (fun (t : (List Int)) => ((Exit.exit 0), (⟨mkE 32 0 [(7, .slc 2)], [some (.box [.slc 1]), some (.seq (.int .i64) x2296), some (.seq (.int .i64) t)]⟩ : St))) := by
  unfold impl_renamed_int_n4
  exact Link.cast (by kernel_rfl) (by kernel_rfl) (link_loop (mk := fun (s : Int × (List Int)) => (⟨mkE 32 0 [(0, .dat (.list (.int .i64)) x2294), (2, .fn 77 [] [.ptr 0 0]), (7, .slc 2), (13, .dat (.list (.int .i64)) x2295), (14, .dat (.int .i64) x2300), (15, .dat (.int .i64) s.1)], [some (.box [.slc 1]), some (.seq (.int .i64) x2296), some (.seq (.int .i64) s.2)]⟩ : St)) (fin := (fun (t : (List Int)) => ((Exit.exit 0), (⟨mkE 32 0 [(7, .slc 2)], [some (.box [.slc 1]), some (.seq (.int .i64) x2296), some (.seq (.int .i64) t)]⟩ : St)))) (by
  rintro t f K h
  · exact h) (fun s => link_map (impl_renamed_int_n3_l x2294 x2295 x2300 s.1 x2296 s.2) (Sum.elim (fun (t : Int × (List Int)) => Sum.inl (t.1, t.2)) (fun (t : (List Int)) => Sum.inr t)) (by
  rintro (t | t)
  · kernel_rfl
  · kernel_rfl)) (0, x2299))

theorem impl_renamed_int_n5_l (x2294 : List Int) (x2295 : List Int) (x2300 : Int) (x2296 : List Int) (x2299 : List Int) : Link impl_renamed_int_ctx LL (Code.snd (Code.fst (Code.snd (Code.snd (bodyOf Tryd.f76))))) (Ann.snd (Ann.fst (Ann.snd (Ann.snd impl_renamed_int_an)))) (⟨mkE 32 0 [(0, .dat (.list (.int .i64)) x2294), (2, .fn 77 [] [.ptr 0 0]), (7, .slc 2), (13, .dat (.list (.int .i64)) x2295), (14, .dat (.int .i64) x2300), (15, .dat (.int .i64) 0)], [some (.box [.slc 1]), some (.seq (.int .i64) x2296), some (.seq (.int .i64) x2299)]⟩ : St) (impl_renamed_int_n5 x2294 x2295 x2300 x2296 x2299) (fun (t : (List Int)) => (Exit.normal, (⟨mkE 32 0 [(7, .slc 2)], [some (.box [.slc 1]), some (.seq (.int .i64) x2296), some (.seq (.int .i64) t)]⟩ : St))) := by
  unfold impl_renamed_int_n5
  exact Link.cast (by kernel_rfl) (by kernel_rfl) (link_block (id := 0) (impl_renamed_int_n4_l x2294 x2295 x2300 x2296 x2299) (fun (t : (List Int)) => t) (by
  rintro t K h
  · exact Eq.mp (by kernel_rfl) h))

theorem impl_renamed_int_n6_l (x2294 : List Int) (x2295 : List Int) (x2296 : List Int) (x2299 : List Int) : Link impl_renamed_int_ctx LL (Code.fst (Code.snd (Code.snd (bodyOf Tryd.f76)))) (Ann.fst (Ann.snd (Ann.snd impl_renamed_int_an))) (⟨mkE 32 0 [(0, .dat (.list (.int .i64)) x2294), (1, .dat (.list (.int .i64)) x2295), (2, .fn 77 [] [.ptr 0 0]), (7, .slc 2)], [some (.box [.slc 1]), some (.seq (.int .i64) x2296), some (.seq (.int .i64) x2299)]⟩ : St) (impl_renamed_int_n6 x2294 x2295 x2296 x2299) (fun (t : (List Int)) => (Exit.normal, (⟨mkE 32 0 [(7, .slc 2)], [some (.box [.slc 1]), some (.seq (.int .i64) x2296), some (.seq (.int .i64) t)]⟩ : St))) := by
  unfold impl_renamed_int_n6
  exact Link.cast (by kernel_rfl) (by kernel_rfl) (link_seq (b := (Code.snd (Code.fst (Code.snd (Code.snd (bodyOf Tryd.f76)))))) (y := (Ann.snd (Ann.fst (Ann.snd (Ann.snd impl_renamed_int_an))))) (impl_renamed_int_n2_l x2294 x2295 x2296 x2299) (fun (t : Int) => (impl_renamed_int_n5_l x2294 x2295 t x2296 x2299)))

theorem impl_renamed_int_n7_l (x2296 : List Int) (x2325 : List Int) : Link impl_renamed_int_ctx LL (Code.snd (Code.snd (Code.snd (bodyOf Tryd.f76)))) (Ann.snd (Ann.snd (Ann.snd impl_renamed_int_an))) (⟨mkE 32 0 [(7, .slc 2)], [some (.box [.slc 1]), some (.seq (.int .i64) x2296), some (.seq (.int .i64) x2325)]⟩ : St) (impl_renamed_int_n7 x2325) (fun (t : (List Int)) => (Exit.ret, (⟨mkE 32 0 [(6, .slc 2)], [some (.box [.slc 1]), some (.seq (.int .i64) x2296), some (.seq (.int .i64) t)]⟩ : St))) := by
  refine Link.of fun K h => ?_
  simp only [impl_renamed_int_n7, wpO_bind, wpO_cond, wpO_map, wpO_some] at h
  exact Awp.of (by kernel_rfl) h

theorem impl_renamed_int_n8_l (x2294 : List Int) (x2295 : List Int) (x2296 : List Int) (x2299 : List Int) : Link impl_renamed_int_ctx LL (Code.snd (Code.snd (bodyOf Tryd.f76))) (Ann.snd (Ann.snd impl_renamed_int_an)) (⟨mkE 32 0 [(0, .dat (.list (.int .i64)) x2294), (1, .dat (.list (.int .i64)) x2295), (2, .fn 77 [] [.ptr 0 0]), (7, .slc 2)], [some (.box [.slc 1]), some (.seq (.int .i64) x2296), some (.seq (.int .i64) x2299)]⟩ : St) (impl_renamed_int_n8 x2294 x2295 x2296 x2299) (fun (t : (List Int)) => (Exit.ret, (⟨mkE 32 0 [(6, .slc 2)], [some (.box [.slc 1]), some (.seq (.int .i64) x2296), some (.seq (.int .i64) t)]⟩ : St))) := by
  unfold impl_renamed_int_n8
  exact Link.cast (by kernel_rfl) (by kernel_rfl) (link_seq (b := (Code.snd (Code.snd (Code.snd (bodyOf Tryd.f76))))) (y := (Ann.snd (Ann.snd (Ann.snd impl_renamed_int_an)))) (impl_renamed_int_n6_l x2294 x2295 x2296 x2299) (fun (t : (List Int)) => (impl_renamed_int_n7_l x2296 t)))

theorem impl_renamed_int_n9_l (x2294 : List Int) (x2295 : List Int) (x2296 : List Int) : Link impl_renamed_int_ctx LL (bodyOf Tryd.f76) impl_renamed_int_an (⟨mkE 32 0 [(0, .dat (.list (.int .i64)) x2294), (1, .dat (.list (.int .i64)) x2295), (2, .fn 77 [] [.ptr 0 0])], [some (.box [.slc 1]), some (.seq (.int .i64) x2296)]⟩ : St) (impl_renamed_int_n9 x2294 x2295 x2296) (fun (t : (List Int)) => (Exit.ret, (⟨mkE 32 0 [(6, .slc 2)], [some (.box [.slc 1]), some (.seq (.int .i64) x2296), some (.seq (.int .i64) t)]⟩ : St))) := by
  unfold impl_renamed_int_n9
  exact Link.cast (by kernel_rfl) (by kernel_rfl) (link_group (c := (Code.fst (Code.snd (bodyOf Tryd.f76)))) (a := (Ann.fst (Ann.snd impl_renamed_int_an))) [(Code.fst (bodyOf Tryd.f76))] [(Ann.fst impl_renamed_int_an)] rfl (link_seq (b := (Code.snd (Code.snd (bodyOf Tryd.f76)))) (y := (Ann.snd (Ann.snd impl_renamed_int_an))) (impl_renamed_int_n1_l x2294 x2295 x2296) (fun (t : (List Int)) => (impl_renamed_int_n8_l x2294 x2295 x2296 t))))

theorem impl_renamed_int_e (x2294 : List Int) (x2295 : List Int) (x2296 : List Int) {r : AV} {H' : Heap} (h : (Ans.mk _ (impl_renamed_int x2294 x2295 x2296) (fun (t : (List Int)) => (.slc 2, [some (.box [.slc 1]), some (.seq (.int .i64) x2296), some (.seq (.int .i64) t)]))).run = some (r, H')) : Awp impl_renamed_int_ctx LL (bodyOf Tryd.f76) impl_renamed_int_an (⟨mkE 32 0 [(0, .dat (.list (.int .i64)) x2294), (1, .dat (.list (.int .i64)) x2295), (2, .fn 77 [] [.ptr 0 0])], [some (.box [.slc 1]), some (.seq (.int .i64) x2296)]⟩ : St) (Ret (tlook tys) Tryd.f76.results.toList r H') :=
  ret_of' (impl_renamed_int_n9_l x2294 x2295 x2296) (by unfold impl_renamed_int; kernel_rfl) (by
  intro t
  exact ret_mk [.slc 2] (by kernel_rfl) (by kernel_rfl) (by kernel_rfl) (by kernel_rfl)) h

def F_impl_renamed_int : Fun := fun avs H =>
  match avs, H with
  | [.dat (.list (.int .i64)) x2294, .dat (.list (.int .i64)) x2295, .fn 77 [] [.ptr 0 0]], [some (.box [.slc 1]), some (.seq (.int .i64) x2296)] => ⟨_, impl_renamed_int x2294 x2295 x2296, fun (t : (List Int)) => (.slc 2, [some (.box [.slc 1]), some (.seq (.int .i64) x2296), some (.seq (.int .i64) t)])⟩
  | _, _ => Ans.no

theorem impl_renamed_int_sound : Sound Tryd.prog 76 F_impl_renamed_int := by
  refine fn_sound' (C := impl_renamed_int_ctx) (c := bodyOf Tryd.f76) (cok_of tys_ok (List.forall_mem_cons.2 ⟨impl_PutInOrder_1_sound, by simp⟩) (List.forall_mem_cons.2 ⟨Tryd.call77, by simp⟩) (by kernel_rfl)) Tryd.func76 (by kernel_rfl) LL impl_renamed_int_an ?_
  intro avs H r H' h
  unfold F_impl_renamed_int at h
  split at h
  · refine Awp.cast ?_ ?_ ?_ (impl_renamed_int_e _ _ _ h) <;> kernel_rfl
  · simp [Ans.no, Ans.run] at h


/-! loop.example/headtrees/impl.PutInOrder -/

def impl_PutInOrder_an : Ann := (.seq (.leaf [0, 1]) (.seq (.seq (.leaf [0, 1, 16]) (.cond (.seq (.leaf [4, 5]) (.leaf [4, 5])) (.leaf [0, 1]))) (.seq (.leaf [0, 1, 6]) (.seq (.leaf [4, 5]) (.leaf [4, 5])))))

noncomputable def impl_PutInOrder_ctx : Ctx := ⟨tlook tys, olook [(22, F_impl_TreeOk), (74, F_impl_OrderOk), (75, F_impl_placesIn), (76, F_impl_renamed_int)], ioF, 0, false⟩

theorem impl_PutInOrder_n1_l (x2180 : List Int) (x2181 : List Int) : Link impl_PutInOrder_ctx LL (bodyOf Tryd.f51) impl_PutInOrder_an (⟨mkE 23 0 [(0, .dat (.list (.int .i64)) x2180), (1, .dat (.list (.int .i64)) x2181)], []⟩ : St) (impl_PutInOrder_n1 x2180 x2181) (fun (t : Bool × (List Int)) => (Exit.ret, (⟨mkE 23 0 [(4, .slc 0), (5, .dat .bool t.1)], [some (.seq (.int .i64) t.2)]⟩ : St))) := by
  refine Link.of fun K h => ?_
  simp only [impl_PutInOrder_n1, wpO_bind, wpO_cond, wpO_map, wpO_some] at h
  exact Awp.of (by kernel_rfl) h

theorem impl_PutInOrder_e (x2180 : List Int) (x2181 : List Int) {r : AV} {H' : Heap} (h : (Ans.mk _ (impl_PutInOrder x2180 x2181) (fun (t : Bool × (List Int)) => (.tup [.slc 0, .dat .bool t.1], [some (.seq (.int .i64) t.2)]))).run = some (r, H')) : Awp impl_PutInOrder_ctx LL (bodyOf Tryd.f51) impl_PutInOrder_an (⟨mkE 23 0 [(0, .dat (.list (.int .i64)) x2180), (1, .dat (.list (.int .i64)) x2181)], []⟩ : St) (Ret (tlook tys) Tryd.f51.results.toList r H') :=
  ret_of' (impl_PutInOrder_n1_l x2180 x2181) (by unfold impl_PutInOrder; kernel_rfl) (by
  intro t
  exact ret_mk [.slc 0, .dat .bool t.1] (by kernel_rfl) (by kernel_rfl) (by kernel_rfl) (by kernel_rfl)) h

def F_impl_PutInOrder : Fun := fun avs H =>
  match avs, H with
  | [.dat (.list (.int .i64)) x2180, .dat (.list (.int .i64)) x2181], [] => ⟨_, impl_PutInOrder x2180 x2181, fun (t : Bool × (List Int)) => (.tup [.slc 0, .dat .bool t.1], [some (.seq (.int .i64) t.2)])⟩
  | _, _ => Ans.no

theorem impl_PutInOrder_sound : Sound Tryd.prog 51 F_impl_PutInOrder := by
  refine fn_sound' (C := impl_PutInOrder_ctx) (c := bodyOf Tryd.f51) (cok_of tys_ok (List.forall_mem_cons.2 ⟨impl_TreeOk_sound, List.forall_mem_cons.2 ⟨impl_OrderOk_sound, List.forall_mem_cons.2 ⟨impl_placesIn_sound, List.forall_mem_cons.2 ⟨impl_renamed_int_sound, by simp⟩⟩⟩⟩) (List.forall_mem_cons.2 ⟨Tryd.call22, List.forall_mem_cons.2 ⟨Tryd.call74, List.forall_mem_cons.2 ⟨Tryd.call75, List.forall_mem_cons.2 ⟨Tryd.call76, by simp⟩⟩⟩⟩) (by kernel_rfl)) Tryd.func51 (by kernel_rfl) LL impl_PutInOrder_an ?_
  intro avs H r H' h
  unfold F_impl_PutInOrder at h
  split at h
  · refine Awp.cast ?_ ?_ ?_ (impl_PutInOrder_e _ _ h) <;> kernel_rfl
  · simp [Ans.no, Ans.run] at h


/-! loop.example/headtrees/impl.BackOf -/

def impl_BackOf_an : Ann := (.seq (.leaf [0]) (.seq (.seq (.leaf [0, 7]) (.cond (.seq (.leaf [2]) (.leaf [2])) (.leaf [0]))) (.seq (.leaf [3]) (.seq (.leaf [2]) (.leaf [2])))))

noncomputable def impl_BackOf_ctx : Ctx := ⟨tlook tys, olook [(22, F_impl_TreeOk), (52, F_impl_lastToFirst), (51, F_impl_PutInOrder)], ioF, 0, false⟩

theorem impl_BackOf_n1_l (x2145 : List Int) : Link impl_BackOf_ctx LL (bodyOf Tryd.f18) impl_BackOf_an (⟨mkE 17 0 [(0, .dat (.list (.int .i64)) x2145)], []⟩ : St) (impl_BackOf_n1 x2145) (fun (t : (List Int)) => (Exit.ret, (⟨mkE 17 0 [(2, .slc 0)], [some (.seq (.int .i64) t)]⟩ : St))) := by
  refine Link.of fun K h => ?_
  simp only [impl_BackOf_n1, wpO_bind, wpO_cond, wpO_map, wpO_some] at h
  exact Awp.of (by kernel_rfl) h

theorem impl_BackOf_e (x2145 : List Int) {r : AV} {H' : Heap} (h : (Ans.mk _ (impl_BackOf x2145) (fun (t : (List Int)) => (.slc 0, [some (.seq (.int .i64) t)]))).run = some (r, H')) : Awp impl_BackOf_ctx LL (bodyOf Tryd.f18) impl_BackOf_an (⟨mkE 17 0 [(0, .dat (.list (.int .i64)) x2145)], []⟩ : St) (Ret (tlook tys) Tryd.f18.results.toList r H') :=
  ret_of' (impl_BackOf_n1_l x2145) (by unfold impl_BackOf; kernel_rfl) (by
  intro t
  exact ret_mk [.slc 0] (by kernel_rfl) (by kernel_rfl) (by kernel_rfl) (by kernel_rfl)) h

def F_impl_BackOf : Fun := fun avs H =>
  match avs, H with
  | [.dat (.list (.int .i64)) x2145], [] => ⟨_, impl_BackOf x2145, fun (t : (List Int)) => (.slc 0, [some (.seq (.int .i64) t)])⟩
  | _, _ => Ans.no

theorem impl_BackOf_sound : Sound Tryd.prog 18 F_impl_BackOf := by
  refine fn_sound' (C := impl_BackOf_ctx) (c := bodyOf Tryd.f18) (cok_of tys_ok (List.forall_mem_cons.2 ⟨impl_TreeOk_sound, List.forall_mem_cons.2 ⟨impl_lastToFirst_sound, List.forall_mem_cons.2 ⟨impl_PutInOrder_sound, by simp⟩⟩⟩) (List.forall_mem_cons.2 ⟨Tryd.call22, List.forall_mem_cons.2 ⟨Tryd.call52, List.forall_mem_cons.2 ⟨Tryd.call51, by simp⟩⟩⟩) (by kernel_rfl)) Tryd.func18 (by kernel_rfl) LL impl_BackOf_an ?_
  intro avs H r H' h
  unfold F_impl_BackOf at h
  split at h
  · refine Awp.cast ?_ ?_ ?_ (impl_BackOf_e _ h) <;> kernel_rfl
  · simp [Ans.no, Ans.run] at h


/-! loop.example/headtrees/laws.FnGapsOf -/

def laws_FnGapsOf_an : Ann := (.seq (.leaf [0]) (.seq (.seq (.leaf [0, 9]) (.cond (.seq (.leaf [2]) (.leaf [2])) (.leaf [0]))) (.seq (.leaf [3, 4]) (.seq (.leaf [3, 4, 5]) (.seq (.seq (.leaf [3, 4, 5, 22]) (.cond (.seq (.leaf [2]) (.leaf [2])) (.leaf [3, 4, 5]))) (.seq (.seq (.leaf [3, 4, 5, 24]) (.cond (.seq (.leaf [2]) (.leaf [2])) (.leaf [3, 4, 5]))) (.seq (.leaf [3, 4, 5, 6]) (.seq (.leaf [2]) (.leaf [2])))))))))

noncomputable def laws_FnGapsOf_ctx : Ctx := ⟨tlook tys, olook [(11, F_spec_DrawGapsOf), (12, F_impl_GapsOf), (13, F_spec_GapsOf), (14, F_laws_alive), (15, F_impl_DependsOf), (16, F_impl_RootOf), (17, F_impl_YieldOf), (18, F_impl_BackOf)], ioF, 0, false⟩

theorem laws_FnGapsOf_n1_l (x2 : List Int) : Link laws_FnGapsOf_ctx LL (bodyOf Tryd.f3) laws_FnGapsOf_an (⟨mkE 67 0 [(0, .dat (.list (.int .u8)) x2)], []⟩ : St) (laws_FnGapsOf_n1 x2) (fun (t : Bool) => (Exit.ret, (⟨mkE 67 0 [(2, .dat .bool t)], []⟩ : St))) := by
  refine Link.of fun K h => ?_
  simp only [laws_FnGapsOf_n1, wpO_bind, wpO_cond, wpO_map, wpO_some] at h
  exact Awp.of (by kernel_rfl) h

theorem laws_FnGapsOf_e (x2 : List Int) {r : AV} {H' : Heap} (h : (Ans.mk _ (laws_FnGapsOf x2) (fun (t : Bool) => (.dat .bool t, []))).run = some (r, H')) : Awp laws_FnGapsOf_ctx LL (bodyOf Tryd.f3) laws_FnGapsOf_an (⟨mkE 67 0 [(0, .dat (.list (.int .u8)) x2)], []⟩ : St) (Ret (tlook tys) Tryd.f3.results.toList r H') :=
  ret_of' (laws_FnGapsOf_n1_l x2) (by unfold laws_FnGapsOf; kernel_rfl) (by
  intro t
  exact ret_mk [.dat .bool t] (by kernel_rfl) (by kernel_rfl) (by kernel_rfl) (by kernel_rfl)) h

def F_laws_FnGapsOf : Fun := fun avs H =>
  match avs, H with
  | [.dat (.list (.int .u8)) x2], [] => ⟨_, laws_FnGapsOf x2, fun (t : Bool) => (.dat .bool t, [])⟩
  | _, _ => Ans.no

theorem laws_FnGapsOf_sound : Sound Tryd.prog 3 F_laws_FnGapsOf := by
  refine fn_sound' (C := laws_FnGapsOf_ctx) (c := bodyOf Tryd.f3) (cok_of tys_ok (List.forall_mem_cons.2 ⟨spec_DrawGapsOf_sound, List.forall_mem_cons.2 ⟨impl_GapsOf_sound, List.forall_mem_cons.2 ⟨spec_GapsOf_sound, List.forall_mem_cons.2 ⟨laws_alive_sound, List.forall_mem_cons.2 ⟨impl_DependsOf_sound, List.forall_mem_cons.2 ⟨impl_RootOf_sound, List.forall_mem_cons.2 ⟨impl_YieldOf_sound, List.forall_mem_cons.2 ⟨impl_BackOf_sound, by simp⟩⟩⟩⟩⟩⟩⟩⟩) (List.forall_mem_cons.2 ⟨Tryd.call11, List.forall_mem_cons.2 ⟨Tryd.call12, List.forall_mem_cons.2 ⟨Tryd.call13, List.forall_mem_cons.2 ⟨Tryd.call14, List.forall_mem_cons.2 ⟨Tryd.call15, List.forall_mem_cons.2 ⟨Tryd.call16, List.forall_mem_cons.2 ⟨Tryd.call17, List.forall_mem_cons.2 ⟨Tryd.call18, by simp⟩⟩⟩⟩⟩⟩⟩⟩) (by kernel_rfl)) Tryd.func3 (by kernel_rfl) LL laws_FnGapsOf_an ?_
  intro avs H r H' h
  unfold F_laws_FnGapsOf at h
  split at h
  · refine Awp.cast ?_ ?_ ?_ (laws_FnGapsOf_e _ h) <;> kernel_rfl
  · simp [Ans.no, Ans.run] at h


end Go.Rv
