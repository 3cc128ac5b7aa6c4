/-
  The checked code answers as the plain functions do; written by program. Conditions: none.
-/
import Derived.Test.YtgnjabkkcglmkaaDoorKFnNestedOka
set_option linter.unusedVariables false
set_option linter.unusedSimpArgs false
set_option maxRecDepth 100000
namespace Go.Rv
open Go.Proofs
/-! loop.example/headtrees/impl.OrderOk -/

def impl_OrderOk_an : Ann := (.seq (.leaf [0, 1]) (.seq (.seq (.leaf [0, 1, 19]) (.cond (.seq (.leaf [4]) (.leaf [4])) (.leaf [0, 1]))) (.seq (.leaf [0, 1, 5]) (.seq (.seq (.leaf [1, 5, 20, 21, 22]) (.block (.loop (.seq (.leaf [1, 5, 20, 21, 22, 23]) (.seq (.cond (.leaf [1, 5, 20, 21, 22]) (.leaf [])) (.seq (.block (.seq (.leaf [1, 5, 7, 20, 21, 22]) (.seq (.seq (.leaf [1, 5, 7, 20, 21, 22, 37]) (.cond (.seq (.leaf [4]) (.leaf [4])) (.leaf [1, 5, 7, 20, 21, 22]))) (.leaf [1, 5, 20, 21, 22])))) (.leaf [1, 5, 20, 21, 22]))))))) (.seq (.leaf [4]) (.leaf [4]))))))

noncomputable def impl_OrderOk_ctx : Ctx := ⟨tlook tys, olook [], ioF, 0, false⟩

theorem impl_OrderOk_n1_l (x2185 : List Int) (x2186 : Int) : Link impl_OrderOk_ctx LL (Code.seq (Code.fst (bodyOf Tryd.f74)) (Code.seq (Code.fst (Code.snd (bodyOf Tryd.f74))) (Code.fst (Code.snd (Code.snd (bodyOf Tryd.f74)))))) (Ann.seq (Ann.fst impl_OrderOk_an) (Ann.seq (Ann.fst (Ann.snd impl_OrderOk_an)) (Ann.fst (Ann.snd (Ann.snd impl_OrderOk_an))))) (⟨mkE 41 0 [(0, .dat (.list (.int .i64)) x2185), (1, .dat (.int .i64) x2186)], []⟩ : St) (impl_OrderOk_n1 x2185 x2186) (Sum.elim (fun (t : Unit) => (Exit.normal, (⟨mkE 41 0 [(0, .dat (.list (.int .i64)) x2185), (1, .dat (.int .i64) x2186), (5, .ptr 0 0)], [some (.seq .bool (List.replicate 9 false))]⟩ : St))) (fun (t : Bool) => (Exit.ret, (⟨mkE 41 0 [(4, .dat .bool t)], []⟩ : St)))) := by
  refine Link.of fun K h => ?_
  simp only [impl_OrderOk_n1, wpO_bind, wpO_cond, wpO_map, wpO_some] at h
  exact Awp.of (by kernel_rfl) h

theorem impl_OrderOk_n2_l (x2185 : List Int) (x2186 : Int) : Link impl_OrderOk_ctx LL (Code.fst (Code.fst (Code.snd (Code.snd (Code.snd (bodyOf Tryd.f74)))))) (Ann.fst (Ann.fst (Ann.snd (Ann.snd (Ann.snd impl_OrderOk_an))))) (⟨mkE 41 0 [(0, .dat (.list (.int .i64)) x2185), (1, .dat (.int .i64) x2186), (5, .ptr 0 0)], [some (.seq .bool (List.replicate 9 false))]⟩ : St) (impl_OrderOk_n2 x2185) (fun (t : Int) => (Exit.normal, (⟨mkE 41 0 [(1, .dat (.int .i64) x2186), (5, .ptr 0 0), (20, .dat (.list (.int .i64)) x2185), (21, .dat (.int .i64) t), (22, .dat (.int .i64) 0)], [some (.seq .bool (List.replicate 9 false))]⟩ : St))) := by
  refine Link.of fun K h => ?_
  simp only [impl_OrderOk_n2, wpO_bind, wpO_cond, wpO_map, wpO_some] at h
  exact Awp.of (by kernel_rfl) h

theorem impl_OrderOk_n3_l (x2186 : Int) (x2185 : List Int) (x2196 : Int) (x2220 : Int) (x2221 : List Bool) : Link impl_OrderOk_ctx LL (Code.fst (Code.fst (Code.snd (Code.fst (Code.snd (Code.snd (Code.snd (bodyOf Tryd.f74)))))))) (Ann.fst (Ann.fst (Ann.snd (Ann.fst (Ann.snd (Ann.snd (Ann.snd impl_OrderOk_an))))))) (⟨mkE 41 0 [(1, .dat (.int .i64) x2186), (5, .ptr 0 0), (20, .dat (.list (.int .i64)) x2185), (21, .dat (.int .i64) x2196), (22, .dat (.int .i64) x2220)], [some (.seq .bool x2221)]⟩ : St) (impl_OrderOk_n3 x2186 x2185 x2196 x2220 x2221) (Sum.elim (fun (t : Int × (List Bool)) => (Exit.normal, (⟨mkE 41 0 [(1, .dat (.int .i64) x2186), (5, .ptr 0 0), (20, .dat (.list (.int .i64)) x2185), (21, .dat (.int .i64) x2196), (22, .dat (.int .i64) t.1)], [some (.seq .bool t.2)]⟩ : St))) (Sum.elim (fun (t : Bool) => (Exit.ret, (⟨mkE 41 0 [(4, .dat .bool t)], []⟩ : St))) (fun (t : Unit) => ((Exit.exit 0), (⟨mkE 41 0 [], []⟩ : St))))) := by
  refine Link.of fun K h => ?_
  simp only [impl_OrderOk_n3, wpO_bind, wpO_cond, wpO_map, wpO_some] at h
  exact Awp.of (by kernel_rfl) h

theorem impl_OrderOk_n4_l (x2186 : Int) (x2185 : List Int) (x2196 : Int) : Link impl_OrderOk_ctx LL (Code.fst (Code.snd (Code.fst (Code.snd (Code.snd (Code.snd (bodyOf Tryd.f74))))))) (Ann.fst (Ann.snd (Ann.fst (Ann.snd (Ann.snd (Ann.snd impl_OrderOk_an)))))) (⟨mkE 41 0 [(1, .dat (.int .i64) x2186), (5, .ptr 0 0), (20, .dat (.list (.int .i64)) x2185), (21, .dat (.int .i64) x2196), (22, .dat (.int .i64) 0)], [some (.seq .bool (List.replicate 9 false))]⟩ : St) (impl_OrderOk_n4 x2186 x2185 x2196) (Sum.elim (fun (t : Bool) => (Exit.ret, (⟨mkE 41 0 [(4, .dat .bool t)], []⟩ : St))) (fun (t : Unit) => ((Exit.exit 0), (⟨mkE 41 0 [], []⟩ : St)))) := by
  unfold impl_OrderOk_n4
  exact Link.cast (by kernel_rfl) (by kernel_rfl) (link_loop (mk := fun (s : Int × (List Bool)) => (⟨mkE 41 0 [(1, .dat (.int .i64) x2186), (5, .ptr 0 0), (20, .dat (.list (.int .i64)) x2185), (21, .dat (.int .i64) x2196), (22, .dat (.int .i64) s.1)], [some (.seq .bool s.2)]⟩ : St)) (fin := (Sum.elim (fun (t : Bool) => (Exit.ret, (⟨mkE 41 0 [(4, .dat .bool t)], []⟩ : St))) (fun (t : Unit) => ((Exit.exit 0), (⟨mkE 41 0 [], []⟩ : St))))) (by
  rintro (t | t) f K h
  · exact h
  · exact h) (fun s => link_map (impl_OrderOk_n3_l x2186 x2185 x2196 s.1 s.2) (Sum.elim (fun (t : Int × (List Bool)) => Sum.inl (t.1, t.2)) (Sum.elim (fun (t : Bool) => Sum.inr (Sum.inl t)) (fun (t : Unit) => Sum.inr (Sum.inr t)))) (by
  rintro (t | t | t)
  · kernel_rfl
  · kernel_rfl
  · kernel_rfl)) (0, (List.replicate 9 false)))

theorem impl_OrderOk_n5_l (x2186 : Int) (x2185 : List Int) (x2196 : Int) : Link impl_OrderOk_ctx LL (Code.snd (Code.fst (Code.snd (Code.snd (Code.snd (bodyOf Tryd.f74)))))) (Ann.snd (Ann.fst (Ann.snd (Ann.snd (Ann.snd impl_OrderOk_an))))) (⟨mkE 41 0 [(1, .dat (.int .i64) x2186), (5, .ptr 0 0), (20, .dat (.list (.int .i64)) x2185), (21, .dat (.int .i64) x2196), (22, .dat (.int .i64) 0)], [some (.seq .bool (List.replicate 9 false))]⟩ : St) (impl_OrderOk_n5 x2186 x2185 x2196) (Sum.elim (fun (t : Unit) => (Exit.normal, (⟨mkE 41 0 [], []⟩ : St))) (fun (t : Bool) => (Exit.ret, (⟨mkE 41 0 [(4, .dat .bool t)], []⟩ : St)))) := by
  unfold impl_OrderOk_n5
  exact Link.cast (by kernel_rfl) (by kernel_rfl) (link_block (id := 0) (impl_OrderOk_n4_l x2186 x2185 x2196) (Sum.elim (fun (t : Bool) => (Sum.inr t)) (fun (t : Unit) => (Sum.inl ()))) (by
  rintro (t | t) K h
  · exact Eq.mp (by kernel_rfl) h
  · exact Eq.mp (by kernel_rfl) h))

theorem impl_OrderOk_n6_l (x2185 : List Int) (x2186 : Int) : Link impl_OrderOk_ctx LL (Code.fst (Code.snd (Code.snd (Code.snd (bodyOf Tryd.f74))))) (Ann.fst (Ann.snd (Ann.snd (Ann.snd impl_OrderOk_an)))) (⟨mkE 41 0 [(0, .dat (.list (.int .i64)) x2185), (1, .dat (.int .i64) x2186), (5, .ptr 0 0)], [some (.seq .bool (List.replicate 9 false))]⟩ : St) (impl_OrderOk_n6 x2185 x2186) (Sum.elim (fun (t : Unit) => (Exit.normal, (⟨mkE 41 0 [], []⟩ : St))) (fun (t : Bool) => (Exit.ret, (⟨mkE 41 0 [(4, .dat .bool t)], []⟩ : St)))) := by
  unfold impl_OrderOk_n6
  exact Link.cast (by kernel_rfl) (by kernel_rfl) (link_seq (b := (Code.snd (Code.fst (Code.snd (Code.snd (Code.snd (bodyOf Tryd.f74))))))) (y := (Ann.snd (Ann.fst (Ann.snd (Ann.snd (Ann.snd impl_OrderOk_an)))))) (impl_OrderOk_n2_l x2185 x2186) (fun (t : Int) => (impl_OrderOk_n5_l x2186 x2185 t)))

theorem impl_OrderOk_n7_l : Link impl_OrderOk_ctx LL (Code.snd (Code.snd (Code.snd (Code.snd (bodyOf Tryd.f74))))) (Ann.snd (Ann.snd (Ann.snd (Ann.snd impl_OrderOk_an)))) (⟨mkE 41 0 [], []⟩ : St) (impl_OrderOk_n7) (fun (t : Bool) => (Exit.ret, (⟨mkE 41 0 [(4, .dat .bool t)], []⟩ : St))) := by
  refine Link.of fun K h => ?_
  simp only [impl_OrderOk_n7, wpO_bind, wpO_cond, wpO_map, wpO_some] at h
  exact Awp.of (by kernel_rfl) h

theorem impl_OrderOk_n8_l (x2185 : List Int) (x2186 : Int) : Link impl_OrderOk_ctx LL (Code.snd (Code.snd (Code.snd (bodyOf Tryd.f74)))) (Ann.snd (Ann.snd (Ann.snd impl_OrderOk_an))) (⟨mkE 41 0 [(0, .dat (.list (.int .i64)) x2185), (1, .dat (.int .i64) x2186), (5, .ptr 0 0)], [some (.seq .bool (List.replicate 9 false))]⟩ : St) (impl_OrderOk_n8 x2185 x2186) (fun (t : Bool) => (Exit.ret, (⟨mkE 41 0 [(4, .dat .bool t)], []⟩ : St))) := by
  unfold impl_OrderOk_n8
  exact Link.cast (by kernel_rfl) (by kernel_rfl) (link_seq2 (b := (Code.snd (Code.snd (Code.snd (Code.snd (bodyOf Tryd.f74)))))) (y := (Ann.snd (Ann.snd (Ann.snd (Ann.snd impl_OrderOk_an))))) (impl_OrderOk_n6_l x2185 x2186) (fun (t : Unit) => (impl_OrderOk_n7_l)) (fun (t : Bool) => t) (by
  rintro t
  · kernel_rfl) (by
  rintro t f K h
  · exact h))

theorem impl_OrderOk_n9_l (x2185 : List Int) (x2186 : Int) : Link impl_OrderOk_ctx LL (bodyOf Tryd.f74) impl_OrderOk_an (⟨mkE 41 0 [(0, .dat (.list (.int .i64)) x2185), (1, .dat (.int .i64) x2186)], []⟩ : St) (impl_OrderOk_n9 x2185 x2186) (fun (t : Bool) => (Exit.ret, (⟨mkE 41 0 [(4, .dat .bool t)], []⟩ : St))) := by
  unfold impl_OrderOk_n9
  exact Link.cast (by kernel_rfl) (by kernel_rfl) (link_group (c := (Code.fst (Code.snd (Code.snd (bodyOf Tryd.f74))))) (a := (Ann.fst (Ann.snd (Ann.snd impl_OrderOk_an)))) [(Code.fst (bodyOf Tryd.f74)), (Code.fst (Code.snd (bodyOf Tryd.f74)))] [(Ann.fst impl_OrderOk_an), (Ann.fst (Ann.snd impl_OrderOk_an))] rfl (link_seq2 (b := (Code.snd (Code.snd (Code.snd (bodyOf Tryd.f74))))) (y := (Ann.snd (Ann.snd (Ann.snd impl_OrderOk_an)))) (impl_OrderOk_n1_l x2185 x2186) (fun (t : Unit) => (impl_OrderOk_n8_l x2185 x2186)) (fun (t : Bool) => t) (by
  rintro t
  · kernel_rfl) (by
  rintro t f K h
  · exact h)))

theorem impl_OrderOk_e (x2185 : List Int) (x2186 : Int) {r : AV} {H' : Heap} (h : (Ans.mk _ (impl_OrderOk x2185 x2186) (fun (t : Bool) => (.dat .bool t, []))).run = some (r, H')) : Awp impl_OrderOk_ctx LL (bodyOf Tryd.f74) impl_OrderOk_an (⟨mkE 41 0 [(0, .dat (.list (.int .i64)) x2185), (1, .dat (.int .i64) x2186)], []⟩ : St) (Ret (tlook tys) Tryd.f74.results.toList r H') :=
  ret_of' (impl_OrderOk_n9_l x2185 x2186) (by unfold impl_OrderOk; kernel_rfl) (by
  intro t
  exact ret_mk [.dat .bool t] (by kernel_rfl) (by kernel_rfl) (by kernel_rfl) (by kernel_rfl)) h

def F_impl_OrderOk : Fun := fun avs H =>
  match avs, H with
  | [.dat (.list (.int .i64)) x2185, .dat (.int .i64) x2186], [] => ⟨_, impl_OrderOk x2185 x2186, fun (t : Bool) => (.dat .bool t, [])⟩
  | _, _ => Ans.no

theorem impl_OrderOk_sound : Sound Tryd.prog 74 F_impl_OrderOk := by
  refine fn_sound' (C := impl_OrderOk_ctx) (c := bodyOf Tryd.f74) (cok_of tys_ok (by simp) (by simp) (by kernel_rfl)) Tryd.func74 (by kernel_rfl) LL impl_OrderOk_an ?_
  intro avs H r H' h
  unfold F_impl_OrderOk at h
  split at h
  · refine Awp.cast ?_ ?_ ?_ (impl_OrderOk_e _ _ h) <;> kernel_rfl
  · simp [Ans.no, Ans.run] at h


/-! loop.example/headtrees/impl.placesIn -/

def impl_placesIn_an : Ann := (.seq (.leaf [0]) (.seq (.leaf [0, 3]) (.seq (.seq (.leaf [3, 10, 11, 12]) (.block (.loop (.seq (.leaf [3, 10, 11, 12, 13]) (.seq (.cond (.leaf [3, 10, 11, 12]) (.leaf [3])) (.seq (.block (.seq (.leaf [3, 4, 5, 10, 11, 12]) (.leaf [3, 10, 11, 12]))) (.leaf [3, 10, 11, 12]))))))) (.seq (.leaf [2]) (.leaf [2])))))

noncomputable def impl_placesIn_ctx : Ctx := ⟨tlook tys, olook [], ioF, 0, false⟩

theorem impl_placesIn_n1_l (x2253 : List Int) : Link impl_placesIn_ctx LL (Code.seq (Code.fst (bodyOf Tryd.f75)) (Code.fst (Code.snd (bodyOf Tryd.f75)))) (Ann.seq (Ann.fst impl_placesIn_an) (Ann.fst (Ann.snd impl_placesIn_an))) (⟨mkE 24 0 [(0, .dat (.list (.int .i64)) x2253)], []⟩ : St) (impl_placesIn_n1 x2253) (fun (t : (List Int)) => (Exit.normal, (⟨mkE 24 0 [(0, .dat (.list (.int .i64)) x2253), (3, .slc 0)], [some (.seq (.int .i64) t)]⟩ : St))) := by
  refine Link.of fun K h => ?_
  simp only [impl_placesIn_n1, wpO_bind, wpO_cond, wpO_map, wpO_some] at h
  exact Awp.of (by kernel_rfl) h

theorem impl_placesIn_n2_l (x2253 : List Int) (x2257 : List Int) : Link impl_placesIn_ctx LL (Code.fst (Code.fst (Code.snd (Code.snd (bodyOf Tryd.f75))))) (Ann.fst (Ann.fst (Ann.snd (Ann.snd impl_placesIn_an)))) (⟨mkE 24 0 [(0, .dat (.list (.int .i64)) x2253), (3, .slc 0)], [some (.seq (.int .i64) x2257)]⟩ : St) (impl_placesIn_n2 x2253) (fun (t : Int) => (Exit.normal, (⟨mkE 24 0 [(3, .slc 0), (10, .dat (.list (.int .i64)) x2253), (11, .dat (.int .i64) t), (12, .dat (.int .i64) 0)], [some (.seq (.int .i64) x2257)]⟩ : St))) := by
  refine Link.of fun K h => ?_
  simp only [impl_placesIn_n2, wpO_bind, wpO_cond, wpO_map, wpO_some] at h
  exact Awp.of (by kernel_rfl) h

theorem impl_placesIn_n3_l (x2253 : List Int) (x2258 : Int) (x2272 : Int) (x2273 : List Int) : Link impl_placesIn_ctx LL (Code.fst (Code.fst (Code.snd (Code.fst (Code.snd (Code.snd (bodyOf Tryd.f75))))))) (Ann.fst (Ann.fst (Ann.snd (Ann.fst (Ann.snd (Ann.snd impl_placesIn_an)))))) (⟨mkE 24 0 [(3, .slc 0), (10, .dat (.list (.int .i64)) x2253), (11, .dat (.int .i64) x2258), (12, .dat (.int .i64) x2272)], [some (.seq (.int .i64) x2273)]⟩ : St) (impl_placesIn_n3 x2253 x2258 x2272 x2273) (Sum.elim (fun (t : Int × (List Int)) => (Exit.normal, (⟨mkE 24 0 [(3, .slc 0), (10, .dat (.list (.int .i64)) x2253), (11, .dat (.int .i64) x2258), (12, .dat (.int .i64) t.1)], [some (.seq (.int .i64) t.2)]⟩ : St))) (fun (t : (List Int)) => ((Exit.exit 0), (⟨mkE 24 0 [(3, .slc 0)], [some (.seq (.int .i64) t)]⟩ : St)))) := by
  refine Link.of fun K h => ?_
  simp only [impl_placesIn_n3, wpO_bind, wpO_cond, wpO_map, wpO_some] at h
  exact Awp.of (by kernel_rfl) h

theorem impl_placesIn_n4_l (x2253 : List Int) (x2258 : Int) (x2257 : List Int) : Link impl_placesIn_ctx LL (Code.fst (Code.snd (Code.fst (Code.snd (Code.snd (bodyOf Tryd.f75)))))) (Ann.fst (Ann.snd (Ann.fst (Ann.snd (Ann.snd impl_placesIn_an))))) (⟨mkE 24 0 [(3, .slc 0), (10, .dat (.list (.int .i64)) x2253), (11, .dat (.int .i64) x2258), (12, .dat (.int .i64) 0)], [some (.seq (.int .i64) x2257)]⟩ : St) (impl_placesIn_n4 x2253 x2258 x2257) (fun (t : (List Int)) => ((Exit.exit 0), (⟨mkE 24 0 [(3, .slc 0)], [some (.seq (.int .i64) t)]⟩ : St))) := by
  unfold impl_placesIn_n4
  exact Link.cast (by kernel_rfl) (by kernel_rfl) (link_loop (mk := fun (s : Int × (List Int)) => (⟨mkE 24 0 [(3, .slc 0), (10, .dat (.list (.int .i64)) x2253), (11, .dat (.int .i64) x2258), (12, .dat (.int .i64) s.1)], [some (.seq (.int .i64) s.2)]⟩ : St)) (fin := (fun (t : (List Int)) => ((Exit.exit 0), (⟨mkE 24 0 [(3, .slc 0)], [some (.seq (.int .i64) t)]⟩ : St)))) (by
  rintro t f K h
  · exact h) (fun s => link_map (impl_placesIn_n3_l x2253 x2258 s.1 s.2) (Sum.elim (fun (t : Int × (List Int)) => Sum.inl (t.1, t.2)) (fun (t : (List Int)) => Sum.inr t)) (by
  rintro (t | t)
  · kernel_rfl
  · kernel_rfl)) (0, x2257))

theorem impl_placesIn_n5_l (x2253 : List Int) (x2258 : Int) (x2257 : List Int) : Link impl_placesIn_ctx LL (Code.snd (Code.fst (Code.snd (Code.snd (bodyOf Tryd.f75))))) (Ann.snd (Ann.fst (Ann.snd (Ann.snd impl_placesIn_an)))) (⟨mkE 24 0 [(3, .slc 0), (10, .dat (.list (.int .i64)) x2253), (11, .dat (.int .i64) x2258), (12, .dat (.int .i64) 0)], [some (.seq (.int .i64) x2257)]⟩ : St) (impl_placesIn_n5 x2253 x2258 x2257) (fun (t : (List Int)) => (Exit.normal, (⟨mkE 24 0 [(3, .slc 0)], [some (.seq (.int .i64) t)]⟩ : St))) := by
  unfold impl_placesIn_n5
  exact Link.cast (by kernel_rfl) (by kernel_rfl) (link_block (id := 0) (impl_placesIn_n4_l x2253 x2258 x2257) (fun (t : (List Int)) => t) (by
  rintro t K h
  · exact Eq.mp (by kernel_rfl) h))

theorem impl_placesIn_n6_l (x2253 : List Int) (x2257 : List Int) : Link impl_placesIn_ctx LL (Code.fst (Code.snd (Code.snd (bodyOf Tryd.f75)))) (Ann.fst (Ann.snd (Ann.snd impl_placesIn_an))) (⟨mkE 24 0 [(0, .dat (.list (.int .i64)) x2253), (3, .slc 0)], [some (.seq (.int .i64) x2257)]⟩ : St) (impl_placesIn_n6 x2253 x2257) (fun (t : (List Int)) => (Exit.normal, (⟨mkE 24 0 [(3, .slc 0)], [some (.seq (.int .i64) t)]⟩ : St))) := by
  unfold impl_placesIn_n6
  exact Link.cast (by kernel_rfl) (by kernel_rfl) (link_seq (b := (Code.snd (Code.fst (Code.snd (Code.snd (bodyOf Tryd.f75)))))) (y := (Ann.snd (Ann.fst (Ann.snd (Ann.snd impl_placesIn_an))))) (impl_placesIn_n2_l x2253 x2257) (fun (t : Int) => (impl_placesIn_n5_l x2253 t x2257)))

theorem impl_placesIn_n7_l (x2273 : List Int) : Link impl_placesIn_ctx LL (Code.snd (Code.snd (Code.snd (bodyOf Tryd.f75)))) (Ann.snd (Ann.snd (Ann.snd impl_placesIn_an))) (⟨mkE 24 0 [(3, .slc 0)], [some (.seq (.int .i64) x2273)]⟩ : St) (impl_placesIn_n7 x2273) (fun (t : (List Int)) => (Exit.ret, (⟨mkE 24 0 [(2, .slc 0)], [some (.seq (.int .i64) t)]⟩ : St))) := by
  refine Link.of fun K h => ?_
  simp only [impl_placesIn_n7, wpO_bind, wpO_cond, wpO_map, wpO_some] at h
  exact Awp.of (by kernel_rfl) h

theorem impl_placesIn_n8_l (x2253 : List Int) (x2257 : List Int) : Link impl_placesIn_ctx LL (Code.snd (Code.snd (bodyOf Tryd.f75))) (Ann.snd (Ann.snd impl_placesIn_an)) (⟨mkE 24 0 [(0, .dat (.list (.int .i64)) x2253), (3, .slc 0)], [some (.seq (.int .i64) x2257)]⟩ : St) (impl_placesIn_n8 x2253 x2257) (fun (t : (List Int)) => (Exit.ret, (⟨mkE 24 0 [(2, .slc 0)], [some (.seq (.int .i64) t)]⟩ : St))) := by
  unfold impl_placesIn_n8
  exact Link.cast (by kernel_rfl) (by kernel_rfl) (link_seq (b := (Code.snd (Code.snd (Code.snd (bodyOf Tryd.f75))))) (y := (Ann.snd (Ann.snd (Ann.snd impl_placesIn_an)))) (impl_placesIn_n6_l x2253 x2257) (fun (t : (List Int)) => (impl_placesIn_n7_l t)))

theorem impl_placesIn_n9_l (x2253 : List Int) : Link impl_placesIn_ctx LL (bodyOf Tryd.f75) impl_placesIn_an (⟨mkE 24 0 [(0, .dat (.list (.int .i64)) x2253)], []⟩ : St) (impl_placesIn_n9 x2253) (fun (t : (List Int)) => (Exit.ret, (⟨mkE 24 0 [(2, .slc 0)], [some (.seq (.int .i64) t)]⟩ : St))) := by
  unfold impl_placesIn_n9
  exact Link.cast (by kernel_rfl) (by kernel_rfl) (link_group (c := (Code.fst (Code.snd (bodyOf Tryd.f75)))) (a := (Ann.fst (Ann.snd impl_placesIn_an))) [(Code.fst (bodyOf Tryd.f75))] [(Ann.fst impl_placesIn_an)] rfl (link_seq (b := (Code.snd (Code.snd (bodyOf Tryd.f75)))) (y := (Ann.snd (Ann.snd impl_placesIn_an))) (impl_placesIn_n1_l x2253) (fun (t : (List Int)) => (impl_placesIn_n8_l x2253 t))))

theorem impl_placesIn_e (x2253 : List Int) {r : AV} {H' : Heap} (h : (Ans.mk _ (impl_placesIn x2253) (fun (t : (List Int)) => (.slc 0, [some (.seq (.int .i64) t)]))).run = some (r, H')) : Awp impl_placesIn_ctx LL (bodyOf Tryd.f75) impl_placesIn_an (⟨mkE 24 0 [(0, .dat (.list (.int .i64)) x2253)], []⟩ : St) (Ret (tlook tys) Tryd.f75.results.toList r H') :=
  ret_of' (impl_placesIn_n9_l x2253) (by unfold impl_placesIn; kernel_rfl) (by
  intro t
  exact ret_mk [.slc 0] (by kernel_rfl) (by kernel_rfl) (by kernel_rfl) (by kernel_rfl)) h

def F_impl_placesIn : Fun := fun avs H =>
  match avs, H with
  | [.dat (.list (.int .i64)) x2253], [] => ⟨_, impl_placesIn x2253, fun (t : (List Int)) => (.slc 0, [some (.seq (.int .i64) t)])⟩
  | _, _ => Ans.no

theorem impl_placesIn_sound : Sound Tryd.prog 75 F_impl_placesIn := by
  refine fn_sound' (C := impl_placesIn_ctx) (c := bodyOf Tryd.f75) (cok_of tys_ok (by simp) (by simp) (by kernel_rfl)) Tryd.func75 (by kernel_rfl) LL impl_placesIn_an ?_
  intro avs H r H' h
  unfold F_impl_placesIn at h
  split at h
  · refine Awp.cast ?_ ?_ ?_ (impl_placesIn_e _ h) <;> kernel_rfl
  · simp [Ans.no, Ans.run] at h


/-! loop.example/headtrees/impl.PutInOrder$1 -/

def impl_PutInOrder_1_an : Ann := (.seq (.leaf [0, 1]) (.seq (.leaf [3]) (.leaf [3])))

noncomputable def impl_PutInOrder_1_ctx : Ctx := ⟨tlook tys, olook [], ioF, 2, false⟩

theorem impl_PutInOrder_1_n1_l (x2307 : Int) (x2308 : List Int) : Link impl_PutInOrder_1_ctx LL (bodyOf Tryd.f77) impl_PutInOrder_1_an (⟨mkE 8 0 [(0, .dat (.int .i64) x2307), (1, .ptr 0 0)], [some (.box [.slc 1]), some (.seq (.int .i64) x2308)]⟩ : St) (impl_PutInOrder_1_n1 x2307 x2308) (fun (t : Int) => (Exit.ret, (⟨mkE 8 0 [(3, .dat (.int .i64) t)], [some (.box [.slc 1]), some (.seq (.int .i64) x2308)]⟩ : St))) := by
  refine Link.of fun K h => ?_
  simp only [impl_PutInOrder_1_n1, wpO_bind, wpO_cond, wpO_map, wpO_some] at h
  exact Awp.of (by kernel_rfl) h

theorem impl_PutInOrder_1_e (x2307 : Int) (x2308 : List Int) {r : AV} {H' : Heap} (h : (Ans.mk _ (impl_PutInOrder_1 x2307 x2308) (fun (t : Int) => (.dat (.int .i64) t, [some (.box [.slc 1]), some (.seq (.int .i64) x2308)]))).run = some (r, H')) : Awp impl_PutInOrder_1_ctx LL (bodyOf Tryd.f77) impl_PutInOrder_1_an (⟨mkE 8 0 [(0, .dat (.int .i64) x2307), (1, .ptr 0 0)], [some (.box [.slc 1]), some (.seq (.int .i64) x2308)]⟩ : St) (Ret (tlook tys) Tryd.f77.results.toList r H') :=
  ret_of' (impl_PutInOrder_1_n1_l x2307 x2308) (by unfold impl_PutInOrder_1; kernel_rfl) (by
  intro t
  exact ret_mk [.dat (.int .i64) t] (by kernel_rfl) (by kernel_rfl) (by kernel_rfl) (by kernel_rfl)) h

def F_impl_PutInOrder_1 : Fun := fun avs H =>
  match avs, H with
  | [.dat (.int .i64) x2307, .ptr 0 0], [some (.box [.slc 1]), some (.seq (.int .i64) x2308)] => ⟨_, impl_PutInOrder_1 x2307 x2308, fun (t : Int) => (.dat (.int .i64) t, [some (.box [.slc 1]), some (.seq (.int .i64) x2308)])⟩
  | _, _ => Ans.no

theorem impl_PutInOrder_1_sound : Sound Tryd.prog 77 F_impl_PutInOrder_1 := by
  refine fn_sound' (C := impl_PutInOrder_1_ctx) (c := bodyOf Tryd.f77) (cok_of tys_ok (by simp) (by simp) (by kernel_rfl)) Tryd.func77 (by kernel_rfl) LL impl_PutInOrder_1_an ?_
  intro avs H r H' h
  unfold F_impl_PutInOrder_1 at h
  split at h
  · refine Awp.cast ?_ ?_ ?_ (impl_PutInOrder_1_e _ _ h) <;> kernel_rfl
  · simp [Ans.no, Ans.run] at h


/-! loop.example/headtrees/impl.renamed[int] -/

def impl_renamed_int_an : Ann := (.seq (.leaf [0, 1, 2]) (.seq (.leaf [0, 1, 2, 7]) (.seq (.seq (.leaf [0, 2, 7, 13, 14, 15]) (.block (.loop (.seq (.leaf [0, 2, 7, 13, 14, 15, 16]) (.seq (.cond (.leaf [0, 2, 7, 13, 14, 15]) (.leaf [7])) (.seq (.block (.seq (.leaf [0, 2, 7, 8, 9, 13, 14, 15]) (.leaf [0, 2, 7, 13, 14, 15]))) (.leaf [0, 2, 7, 13, 14, 15]))))))) (.seq (.leaf [6]) (.leaf [6])))))

noncomputable def impl_renamed_int_ctx : Ctx := ⟨tlook tys, olook [(77, F_impl_PutInOrder_1)], ioF, 2, false⟩

theorem impl_renamed_int_n1_l (x2294 : List Int) (x2295 : List Int) (x2296 : List Int) : Link impl_renamed_int_ctx LL (Code.seq (Code.fst (bodyOf Tryd.f76)) (Code.fst (Code.snd (bodyOf Tryd.f76)))) (Ann.seq (Ann.fst impl_renamed_int_an) (Ann.fst (Ann.snd impl_renamed_int_an))) (⟨mkE 32 0 [(0, .dat (.list (.int .i64)) x2294), (1, .dat (.list (.int .i64)) x2295), (2, .fn 77 [] [.ptr 0 0])], [some (.box [.slc 1]), some (.seq (.int .i64) x2296)]⟩ : St) (impl_renamed_int_n1 x2295) (fun (t : (List Int)) => (Exit.normal, (⟨mkE 32 0 [(0, .dat (.list (.int .i64)) x2294), (1, .dat (.list (.int .i64)) x2295), (2, .fn 77 [] [.ptr 0 0]), (7, .slc 2)], [some (.box [.slc 1]), some (.seq (.int .i64) x2296), some (.seq (.int .i64) t)]⟩ : St))) := by
  refine Link.of fun K h => ?_
  simp only [impl_renamed_int_n1, wpO_bind, wpO_cond, wpO_map, wpO_some] at h
  exact Awp.of (by kernel_rfl) h

theorem impl_renamed_int_n2_l (x2294 : List Int) (x2295 : List Int) (x2296 : List Int) (x2299 : List Int) : Link impl_renamed_int_ctx LL (Code.fst (Code.fst (Code.snd (Code.snd (bodyOf Tryd.f76))))) (Ann.fst (Ann.fst (Ann.snd (Ann.snd impl_renamed_int_an)))) (⟨mkE 32 0 [(0, .dat (.list (.int .i64)) x2294), (1, .dat (.list (.int .i64)) x2295), (2, .fn 77 [] [.ptr 0 0]), (7, .slc 2)], [some (.box [.slc 1]), some (.seq (.int .i64) x2296), some (.seq (.int .i64) x2299)]⟩ : St) (impl_renamed_int_n2 x2295) (fun (t : Int) => (Exit.normal, (⟨mkE 32 0 [(0, .dat (.list (.int .i64)) x2294), (2, .fn 77 [] [.ptr 0 0]), (7, .slc 2), (13, .dat (.list (.int .i64)) x2295), (14, .dat (.int .i64) t), (15, .dat (.int .i64) 0)], [some (.box [.slc 1]), some (.seq (.int .i64) x2296), some (.seq (.int .i64) x2299)]⟩ : St))) := by
  refine Link.of fun K h => ?_
  simp only [impl_renamed_int_n2, wpO_bind, wpO_cond, wpO_map, wpO_some] at h
  exact Awp.of (by kernel_rfl) h

theorem impl_renamed_int_n3_l (x2294 : List Int) (x2295 : List Int) (x2300 : Int) (x2324 : Int) (x2296 : List Int) (x2325 : List Int) : Link impl_renamed_int_ctx LL (Code.fst (Code.fst (Code.snd (Code.fst (Code.snd (Code.snd (bodyOf Tryd.f76))))))) (Ann.fst (Ann.fst (Ann.snd (Ann.fst (Ann.snd (Ann.snd impl_renamed_int_an)))))) (⟨mkE 32 0 [(0, .dat (.list (.int .i64)) x2294), (2, .fn 77 [] [.ptr 0 0]), (7, .slc 2), (13, .dat (.list (.int .i64)) x2295), (14, .dat (.int .i64) x2300), (15, .dat (.int .i64) x2324)], [some (.box [.slc 1]), some (.seq (.int .i64) x2296), some (.seq (.int .i64) x2325)]⟩ : St) (impl_renamed_int_n3 x2294 x2295 x2300 x2324 x2296 x2325) (Sum.elim (fun (t : Int × (List Int)) => (Exit.normal, (⟨mkE 32 0 [(0, .dat (.list (.int .i64)) x2294), (2, .fn 77 [] [.ptr 0 0]), (7, .slc 2), (13, .dat (.list (.int .i64)) x2295), (14, .dat (.int .i64) x2300), (15, .dat (.int .i64) t.1)], [some (.box [.slc 1]), some (.seq (.int .i64) x2296), some (.seq (.int .i64) t.2)]⟩ : St))) (fun (t : (List Int)) => ((Exit.exit 0), (⟨mkE 32 0 [(7, .slc 2)], [some (.box [.slc 1]), some (.seq (.int .i64) x2296), some (.seq (.int .i64) t)]⟩ : St)))) := by
  refine Link.of fun K h => ?_
  simp only [impl_renamed_int_n3, wpO_bind, wpO_cond, wpO_map, wpO_some] at h
  exact Awp.of (by kernel_rfl) h

theorem impl_renamed_int_n4_l (x2294 : List Int) (x2295 : List Int) (x2300 : Int) (x2296 : List Int) (x2299 : List Int) : Link impl_renamed_int_ctx LL (Code.fst (Code.snd (Code.fst (Code.snd (Code.snd (bodyOf Tryd.f76)))))) (Ann.fst (Ann.snd (Ann.fst (Ann.snd (Ann.snd impl_renamed_int_an))))) (⟨mkE 32 0 [(0, .dat (.list (.int .i64)) x2294), (2, .fn 77 [] [.ptr 0 0]), (7, .slc 2), (13, .dat (.list (.int .i64)) x2295), (14, .dat (.int .i64) x2300), (15, .dat (.int .i64) 0)], [some (.box [.slc 1]), some (.seq (.int .i64) x2296), some (.seq (.int .i64) x2299)]⟩ : St) (impl_renamed_int_n4 x2294 x2295 x2300 x2296 x2299) (fun (t : (List Int)) => ((Exit.exit 0), (⟨mkE 32 0 [(7, .slc 2)], [some (.box [.slc 1]), some (.seq (.int .i64) x2296), some (.seq (.int .i64) t)]⟩ : St))) := by
  unfold impl_renamed_int_n4
  exact Link.cast (by kernel_rfl) (by kernel_rfl) (link_loop (mk := fun (s : Int × (List Int)) => (⟨mkE 32 0 [(0, .dat (.list (.int .i64)) x2294), (2, .fn 77 [] [.ptr 0 0]), (7, .slc 2), (13, .dat (.list (.int .i64)) x2295), (14, .dat (.int .i64) x2300), (15, .dat (.int .i64) s.1)], [some (.box [.slc 1]), some (.seq (.int .i64) x2296), some (.seq (.int .i64) s.2)]⟩ : St)) (fin := (fun (t : (List Int)) => ((Exit.exit 0), (⟨mkE 32 0 [(7, .slc 2)], [some (.box [.slc 1]), some (.seq (.int .i64) x2296), some (.seq (.int .i64) t)]⟩ : St)))) (by
  rintro t f K h
  · exact h) (fun s => link_map (impl_renamed_int_n3_l x2294 x2295 x2300 s.1 x2296 s.2) (Sum.elim (fun (t : Int × (List Int)) => Sum.inl (t.1, t.2)) (fun (t : (List Int)) => Sum.inr t)) (by
  rintro (t | t)
  · kernel_rfl
  · kernel_rfl)) (0, x2299))

theorem impl_renamed_int_n5_l (x2294 : List Int) (x2295 : List Int) (x2300 : Int) (x2296 : List Int) (x2299 : List Int) : Link impl_renamed_int_ctx LL (Code.snd (Code.fst (Code.snd (Code.snd (bodyOf Tryd.f76))))) (Ann.snd (Ann.fst (Ann.snd (Ann.snd impl_renamed_int_an)))) (⟨mkE 32 0 [(0, .dat (.list (.int .i64)) x2294), (2, .fn 77 [] [.ptr 0 0]), (7, .slc 2), (13, .dat (.list (.int .i64)) x2295), (14, .dat (.int .i64) x2300), (15, .dat (.int .i64) 0)], [some (.box [.slc 1]), some (.seq (.int .i64) x2296), some (.seq (.int .i64) x2299)]⟩ : St) (impl_renamed_int_n5 x2294 x2295 x2300 x2296 x2299) (fun (t : (List Int)) => (Exit.normal, (⟨mkE 32 0 [(7, .slc 2)], [some (.box [.slc 1]), some (.seq (.int .i64) x2296), some (.seq (.int .i64) t)]⟩ : St))) := by
  unfold impl_renamed_int_n5
  exact Link.cast (by kernel_rfl) (by kernel_rfl) (link_block (id := 0) (impl_renamed_int_n4_l x2294 x2295 x2300 x2296 x2299) (fun (t : (List Int)) => t) (by
  rintro t K h
  · exact Eq.mp (by kernel_rfl) h))

theorem impl_renamed_int_n6_l (x2294 : List Int) (x2295 : List Int) (x2296 : List Int) (x2299 : List Int) : Link impl_renamed_int_ctx LL (Code.fst (Code.snd (Code.snd (bodyOf Tryd.f76)))) (Ann.fst (Ann.snd (Ann.snd impl_renamed_int_an))) (⟨mkE 32 0 [(0, .dat (.list (.int .i64)) x2294), (1, .dat (.list (.int .i64)) x2295), (2, .fn 77 [] [.ptr 0 0]), (7, .slc 2)], [some (.box [.slc 1]), some (.seq (.int .i64) x2296), some (.seq (.int .i64) x2299)]⟩ : St) (impl_renamed_int_n6 x2294 x2295 x2296 x2299) (fun (t : (List Int)) => (Exit.normal, (⟨mkE 32 0 [(7, .slc 2)], [some (.box [.slc 1]), some (.seq (.int .i64) x2296), some (.seq (.int .i64) t)]⟩ : St))) := by
  unfold impl_renamed_int_n6
  exact Link.cast (by kernel_rfl) (by kernel_rfl) (link_seq (b := (Code.snd (Code.fst (Code.snd (Code.snd (bodyOf Tryd.f76)))))) (y := (Ann.snd (Ann.fst (Ann.snd (Ann.snd impl_renamed_int_an))))) (impl_renamed_int_n2_l x2294 x2295 x2296 x2299) (fun (t : Int) => (impl_renamed_int_n5_l x2294 x2295 t x2296 x2299)))

theorem impl_renamed_int_n7_l (x2296 : List Int) (x2325 : List Int) : Link impl_renamed_int_ctx LL (Code.snd (Code.snd (Code.snd (bodyOf Tryd.f76)))) (Ann.snd (Ann.snd (Ann.snd impl_renamed_int_an))) (⟨mkE 32 0 [(7, .slc 2)], [some (.box [.slc 1]), some (.seq (.int .i64) x2296), some (.seq (.int .i64) x2325)]⟩ : St) (impl_renamed_int_n7 x2325) (fun (t : (List Int)) => (Exit.ret, (⟨mkE 32 0 [(6, .slc 2)], [some (.box [.slc 1]), some (.seq (.int .i64) x2296), some (.seq (.int .i64) t)]⟩ : St))) := by
  refine Link.of fun K h => ?_
  simp only [impl_renamed_int_n7, wpO_bind, wpO_cond, wpO_map, wpO_some] at h
  exact Awp.of (by kernel_rfl) h

theorem impl_renamed_int_n8_l (x2294 : List Int) (x2295 : List Int) (x2296 : List Int) (x2299 : List Int) : Link impl_renamed_int_ctx LL (Code.snd (Code.snd (bodyOf Tryd.f76))) (Ann.snd (Ann.snd impl_renamed_int_an)) (⟨mkE 32 0 [(0, .dat (.list (.int .i64)) x2294), (1, .dat (.list (.int .i64)) x2295), (2, .fn 77 [] [.ptr 0 0]), (7, .slc 2)], [some (.box [.slc 1]), some (.seq (.int .i64) x2296), some (.seq (.int .i64) x2299)]⟩ : St) (impl_renamed_int_n8 x2294 x2295 x2296 x2299) (fun (t : (List Int)) => (Exit.ret, (⟨mkE 32 0 [(6, .slc 2)], [some (.box [.slc 1]), some (.seq (.int .i64) x2296), some (.seq (.int .i64) t)]⟩ : St))) := by
  unfold impl_renamed_int_n8
  exact Link.cast (by kernel_rfl) (by kernel_rfl) (link_seq (b := (Code.snd (Code.snd (Code.snd (bodyOf Tryd.f76))))) (y := (Ann.snd (Ann.snd (Ann.snd impl_renamed_int_an)))) (impl_renamed_int_n6_l x2294 x2295 x2296 x2299) (fun (t : (List Int)) => (impl_renamed_int_n7_l x2296 t)))

theorem impl_renamed_int_n9_l (x2294 : List Int) (x2295 : List Int) (x2296 : List Int) : Link impl_renamed_int_ctx LL (bodyOf Tryd.f76) impl_renamed_int_an (⟨mkE 32 0 [(0, .dat (.list (.int .i64)) x2294), (1, .dat (.list (.int .i64)) x2295), (2, .fn 77 [] [.ptr 0 0])], [some (.box [.slc 1]), some (.seq (.int .i64) x2296)]⟩ : St) (impl_renamed_int_n9 x2294 x2295 x2296) (fun (t : (List Int)) => (Exit.ret, (⟨mkE 32 0 [(6, .slc 2)], [some (.box [.slc 1]), some (.seq (.int .i64) x2296), some (.seq (.int .i64) t)]⟩ : St))) := by
  unfold impl_renamed_int_n9
  exact Link.cast (by kernel_rfl) (by kernel_rfl) (link_group (c := (Code.fst (Code.snd (bodyOf Tryd.f76)))) (a := (Ann.fst (Ann.snd impl_renamed_int_an))) [(Code.fst (bodyOf Tryd.f76))] [(Ann.fst impl_renamed_int_an)] rfl (link_seq (b := (Code.snd (Code.snd (bodyOf Tryd.f76)))) (y := (Ann.snd (Ann.snd impl_renamed_int_an))) (impl_renamed_int_n1_l x2294 x2295 x2296) (fun (t : (List Int)) => (impl_renamed_int_n8_l x2294 x2295 x2296 t))))

theorem impl_renamed_int_e (x2294 : List Int) (x2295 : List Int) (x2296 : List Int) {r : AV} {H' : Heap} (h : (Ans.mk _ (impl_renamed_int x2294 x2295 x2296) (fun (t : (List Int)) => (.slc 2, [some (.box [.slc 1]), some (.seq (.int .i64) x2296), some (.seq (.int .i64) t)]))).run = some (r, H')) : Awp impl_renamed_int_ctx LL (bodyOf Tryd.f76) impl_renamed_int_an (⟨mkE 32 0 [(0, .dat (.list (.int .i64)) x2294), (1, .dat (.list (.int .i64)) x2295), (2, .fn 77 [] [.ptr 0 0])], [some (.box [.slc 1]), some (.seq (.int .i64) x2296)]⟩ : St) (Ret (tlook tys) Tryd.f76.results.toList r H') :=
  ret_of' (impl_renamed_int_n9_l x2294 x2295 x2296) (by unfold impl_renamed_int; kernel_rfl) (by
  intro t
  exact ret_mk [.slc 2] (by kernel_rfl) (by kernel_rfl) (by kernel_rfl) (by kernel_rfl)) h

def F_impl_renamed_int : Fun := fun avs H =>
  match avs, H with
  | [.dat (.list (.int .i64)) x2294, .dat (.list (.int .i64)) x2295, .fn 77 [] [.ptr 0 0]], [some (.box [.slc 1]), some (.seq (.int .i64) x2296)] => ⟨_, impl_renamed_int x2294 x2295 x2296, fun (t : (List Int)) => (.slc 2, [some (.box [.slc 1]), some (.seq (.int .i64) x2296), some (.seq (.int .i64) t)])⟩
  | _, _ => Ans.no

theorem impl_renamed_int_sound : Sound Tryd.prog 76 F_impl_renamed_int := by
  refine fn_sound' (C := impl_renamed_int_ctx) (c := bodyOf Tryd.f76) (cok_of tys_ok (List.forall_mem_cons.2 ⟨impl_PutInOrder_1_sound, by simp⟩) (List.forall_mem_cons.2 ⟨Tryd.call77, by simp⟩) (by kernel_rfl)) Tryd.func76 (by kernel_rfl) LL impl_renamed_int_an ?_
  intro avs H r H' h
  unfold F_impl_renamed_int at h
  split at h
  · refine Awp.cast ?_ ?_ ?_ (impl_renamed_int_e _ _ _ h) <;> kernel_rfl
  · simp [Ans.no, Ans.run] at h


/-! loop.example/headtrees/impl.PutInOrder -/

def impl_PutInOrder_an : Ann := (.seq (.leaf [0, 1]) (.seq (.seq (.leaf [0, 1, 16]) (.cond (.seq (.leaf [4, 5]) (.leaf [4, 5])) (.leaf [0, 1]))) (.seq (.leaf [0, 1, 6]) (.seq (.leaf [4, 5]) (.leaf [4, 5])))))

noncomputable def impl_PutInOrder_ctx : Ctx := ⟨tlook tys, olook [(22, F_impl_TreeOk), (74, F_impl_OrderOk), (75, F_impl_placesIn), (76, F_impl_renamed_int)], ioF, 0, false⟩

theorem impl_PutInOrder_n1_l (x2180 : List Int) (x2181 : List Int) : Link impl_PutInOrder_ctx LL (bodyOf Tryd.f51) impl_PutInOrder_an (⟨mkE 23 0 [(0, .dat (.list (.int .i64)) x2180), (1, .dat (.list (.int .i64)) x2181)], []⟩ : St) (impl_PutInOrder_n1 x2180 x2181) (fun (t : Bool × (List Int)) => (Exit.ret, (⟨mkE 23 0 [(4, .slc 0), (5, .dat .bool t.1)], [some (.seq (.int .i64) t.2)]⟩ : St))) := by
  refine Link.of fun K h => ?_
  simp only [impl_PutInOrder_n1, wpO_bind, wpO_cond, wpO_map, wpO_some] at h
  exact Awp.of (by kernel_rfl) h

theorem impl_PutInOrder_e (x2180 : List Int) (x2181 : List Int) {r : AV} {H' : Heap} (h : (Ans.mk _ (impl_PutInOrder x2180 x2181) (fun (t : Bool × (List Int)) => (.tup [.slc 0, .dat .bool t.1], [some (.seq (.int .i64) t.2)]))).run = some (r, H')) : Awp impl_PutInOrder_ctx LL (bodyOf Tryd.f51) impl_PutInOrder_an (⟨mkE 23 0 [(0, .dat (.list (.int .i64)) x2180), (1, .dat (.list (.int .i64)) x2181)], []⟩ : St) (Ret (tlook tys) Tryd.f51.results.toList r H') :=
  ret_of' (impl_PutInOrder_n1_l x2180 x2181) (by unfold impl_PutInOrder; kernel_rfl) (by
  intro t
  exact ret_mk [.slc 0, .dat .bool t.1] (by kernel_rfl) (by kernel_rfl) (by kernel_rfl) (by kernel_rfl)) h

def F_impl_PutInOrder : Fun := fun avs H =>
  match avs, H with
  | [.dat (.list (.int .i64)) x2180, .dat (.list (.int .i64)) x2181], [] => ⟨_, impl_PutInOrder x2180 x2181, fun (t : Bool × (List Int)) => (.tup [.slc 0, .dat .bool t.1], [some (.seq (.int .i64) t.2)])⟩
  | _, _ => Ans.no

theorem impl_PutInOrder_sound : Sound Tryd.prog 51 F_impl_PutInOrder := by
  refine fn_sound' (C := impl_PutInOrder_ctx) (c := bodyOf Tryd.f51) (cok_of tys_ok (List.forall_mem_cons.2 ⟨impl_TreeOk_sound, List.forall_mem_cons.2 ⟨impl_OrderOk_sound, List.forall_mem_cons.2 ⟨impl_placesIn_sound, List.forall_mem_cons.2 ⟨impl_renamed_int_sound, by simp⟩⟩⟩⟩) (List.forall_mem_cons.2 ⟨Tryd.call22, List.forall_mem_cons.2 ⟨Tryd.call74, List.forall_mem_cons.2 ⟨Tryd.call75, List.forall_mem_cons.2 ⟨Tryd.call76, by simp⟩⟩⟩⟩) (by kernel_rfl)) Tryd.func51 (by kernel_rfl) LL impl_PutInOrder_an ?_
  intro avs H r H' h
  unfold F_impl_PutInOrder at h
  split at h
  · refine Awp.cast ?_ ?_ ?_ (impl_PutInOrder_e _ _ h) <;> kernel_rfl
  · simp [Ans.no, Ans.run] at h


/-! loop.example/headtrees/impl.BackOf -/

def impl_BackOf_an : Ann := (.seq (.leaf [0]) (.seq (.seq (.leaf [0, 7]) (.cond (.seq (.leaf [2]) (.leaf [2])) (.leaf [0]))) (.seq (.leaf [3]) (.seq (.leaf [2]) (.leaf [2])))))

noncomputable def impl_BackOf_ctx : Ctx := ⟨tlook tys, olook [(22, F_impl_TreeOk), (52, F_impl_lastToFirst), (51, F_impl_PutInOrder)], ioF, 0, false⟩

theorem impl_BackOf_n1_l (x2145 : List Int) : Link impl_BackOf_ctx LL (bodyOf Tryd.f18) impl_BackOf_an (⟨mkE 17 0 [(0, .dat (.list (.int .i64)) x2145)], []⟩ : St) (impl_BackOf_n1 x2145) (fun (t : (List Int)) => (Exit.ret, (⟨mkE 17 0 [(2, .slc 0)], [some (.seq (.int .i64) t)]⟩ : St))) := by
  refine Link.of fun K h => ?_
  simp only [impl_BackOf_n1, wpO_bind, wpO_cond, wpO_map, wpO_some] at h
  exact Awp.of (by kernel_rfl) h

theorem impl_BackOf_e (x2145 : List Int) {r : AV} {H' : Heap} (h : (Ans.mk _ (impl_BackOf x2145) (fun (t : (List Int)) => (.slc 0, [some (.seq (.int .i64) t)]))).run = some (r, H')) : Awp impl_BackOf_ctx LL (bodyOf Tryd.f18) impl_BackOf_an (⟨mkE 17 0 [(0, .dat (.list (.int .i64)) x2145)], []⟩ : St) (Ret (tlook tys) Tryd.f18.results.toList r H') :=
  ret_of' (impl_BackOf_n1_l x2145) (by unfold impl_BackOf; kernel_rfl) (by
  intro t
  exact ret_mk [.slc 0] (by kernel_rfl) (by kernel_rfl) (by kernel_rfl) (by kernel_rfl)) h

def F_impl_BackOf : Fun := fun avs H =>
  match avs, H with
  | [.dat (.list (.int .i64)) x2145], [] => ⟨_, impl_BackOf x2145, fun (t : (List Int)) => (.slc 0, [some (.seq (.int .i64) t)])⟩
  | _, _ => Ans.no

theorem impl_BackOf_sound : Sound Tryd.prog 18 F_impl_BackOf := by
  refine fn_sound' (C := impl_BackOf_ctx) (c := bodyOf Tryd.f18) (cok_of tys_ok (List.forall_mem_cons.2 ⟨impl_TreeOk_sound, List.forall_mem_cons.2 ⟨impl_lastToFirst_sound, List.forall_mem_cons.2 ⟨impl_PutInOrder_sound, by simp⟩⟩⟩) (List.forall_mem_cons.2 ⟨Tryd.call22, List.forall_mem_cons.2 ⟨Tryd.call52, List.forall_mem_cons.2 ⟨Tryd.call51, by simp⟩⟩⟩) (by kernel_rfl)) Tryd.func18 (by kernel_rfl) LL impl_BackOf_an ?_
  intro avs H r H' h
  unfold F_impl_BackOf at h
  split at h
  · refine Awp.cast ?_ ?_ ?_ (impl_BackOf_e _ h) <;> kernel_rfl
  · simp [Ans.no, Ans.run] at h


/-! (loop.example/headtrees/impl.wordSet).isRow -/

def impl_wordSet_isRow_an : Ann := (.seq (.leaf [0]) (.seq (.leaf [0, 3]) (.seq (.leaf [2]) (.leaf [2]))))

noncomputable def impl_wordSet_isRow_ctx : Ctx := ⟨tlook tys, olook [], ioF, 0, false⟩

theorem impl_wordSet_isRow_n1_l (x2581 : Int) : Link impl_wordSet_isRow_ctx LL (bodyOf Tryd.f55) impl_wordSet_isRow_an (⟨mkE 14 0 [(0, .dat (.int .u64) x2581)], []⟩ : St) (impl_wordSet_isRow_n1 x2581) (fun (t : Bool) => (Exit.ret, (⟨mkE 14 0 [(2, .dat .bool t)], []⟩ : St))) := by
  refine Link.of fun K h => ?_
  simp only [impl_wordSet_isRow_n1, wpO_bind, wpO_cond, wpO_map, wpO_some] at h
  exact Awp.of (by kernel_rfl) h

theorem impl_wordSet_isRow_e (x2581 : Int) {r : AV} {H' : Heap} (h : (Ans.mk _ (impl_wordSet_isRow x2581) (fun (t : Bool) => (.dat .bool t, []))).run = some (r, H')) : Awp impl_wordSet_isRow_ctx LL (bodyOf Tryd.f55) impl_wordSet_isRow_an (⟨mkE 14 0 [(0, .dat (.int .u64) x2581)], []⟩ : St) (Ret (tlook tys) Tryd.f55.results.toList r H') :=
  ret_of' (impl_wordSet_isRow_n1_l x2581) (by unfold impl_wordSet_isRow; kernel_rfl) (by
  intro t
  exact ret_mk [.dat .bool t] (by kernel_rfl) (by kernel_rfl) (by kernel_rfl) (by kernel_rfl)) h

def F_impl_wordSet_isRow : Fun := fun avs H =>
  match avs, H with
  | [.dat (.int .u64) x2581], [] => ⟨_, impl_wordSet_isRow x2581, fun (t : Bool) => (.dat .bool t, [])⟩
  | _, _ => Ans.no

theorem impl_wordSet_isRow_sound : Sound Tryd.prog 55 F_impl_wordSet_isRow := by
  refine fn_sound' (C := impl_wordSet_isRow_ctx) (c := bodyOf Tryd.f55) (cok_of tys_ok (by simp) (by simp) (by kernel_rfl)) Tryd.func55 (by kernel_rfl) LL impl_wordSet_isRow_an ?_
  intro avs H r H' h
  unfold F_impl_wordSet_isRow at h
  split at h
  · refine Awp.cast ?_ ?_ ?_ (impl_wordSet_isRow_e _ h) <;> kernel_rfl
  · simp [Ans.no, Ans.run] at h


/-! loop.example/headtrees/impl.FlatOk -/

def impl_FlatOk_an : Ann := (.seq (.leaf [0]) (.seq (.seq (.leaf [0, 7]) (.cond (.seq (.leaf [2]) (.leaf [2])) (.leaf [0]))) (.seq (.seq (.leaf [9, 10, 11]) (.block (.loop (.seq (.leaf [9, 10, 11, 12]) (.seq (.cond (.leaf [9, 10, 11]) (.leaf [])) (.seq (.block (.seq (.leaf [4, 9, 10, 11]) (.seq (.leaf [9, 10, 11, 17]) (.cond (.seq (.leaf [2]) (.leaf [2])) (.leaf [9, 10, 11]))))) (.leaf [9, 10, 11]))))))) (.seq (.leaf [2]) (.leaf [2])))))

noncomputable def impl_FlatOk_ctx : Ctx := ⟨tlook tys, olook [(22, F_impl_TreeOk), (43, F_impl_yieldsOf), (55, F_impl_wordSet_isRow)], ioF, 0, false⟩

theorem impl_FlatOk_n1_l (x2571 : List Int) : Link impl_FlatOk_ctx LL (Code.seq (Code.fst (bodyOf Tryd.f23)) (Code.fst (Code.snd (bodyOf Tryd.f23)))) (Ann.seq (Ann.fst impl_FlatOk_an) (Ann.fst (Ann.snd impl_FlatOk_an))) (⟨mkE 19 0 [(0, .dat (.list (.int .i64)) x2571)], []⟩ : St) (impl_FlatOk_n1 x2571) (Sum.elim (fun (t : Unit) => (Exit.normal, (⟨mkE 19 0 [(0, .dat (.list (.int .i64)) x2571)], []⟩ : St))) (fun (t : Bool) => (Exit.ret, (⟨mkE 19 0 [(2, .dat .bool t)], []⟩ : St)))) := by
  refine Link.of fun K h => ?_
  simp only [impl_FlatOk_n1, wpO_bind, wpO_cond, wpO_map, wpO_some] at h
  exact Awp.of (by kernel_rfl) h

theorem impl_FlatOk_n2_l (x2571 : List Int) : Link impl_FlatOk_ctx LL (Code.fst (Code.fst (Code.snd (Code.snd (bodyOf Tryd.f23))))) (Ann.fst (Ann.fst (Ann.snd (Ann.snd impl_FlatOk_an)))) (⟨mkE 19 0 [(0, .dat (.list (.int .i64)) x2571)], []⟩ : St) (impl_FlatOk_n2 x2571) (fun (t : Int × (List Int)) => (Exit.normal, (⟨mkE 19 0 [(9, .slc 0), (10, .dat (.int .i64) t.1), (11, .dat (.int .i64) 0)], [some (.seq (.int .u64) t.2)]⟩ : St))) := by
  refine Link.of fun K h => ?_
  simp only [impl_FlatOk_n2, wpO_bind, wpO_cond, wpO_map, wpO_some] at h
  exact Awp.of (by kernel_rfl) h

theorem impl_FlatOk_n3_l (x2575 : Int) (x2602 : Int) (x2574 : List Int) : Link impl_FlatOk_ctx LL (Code.fst (Code.fst (Code.snd (Code.fst (Code.snd (Code.snd (bodyOf Tryd.f23))))))) (Ann.fst (Ann.fst (Ann.snd (Ann.fst (Ann.snd (Ann.snd impl_FlatOk_an)))))) (⟨mkE 19 0 [(9, .slc 0), (10, .dat (.int .i64) x2575), (11, .dat (.int .i64) x2602)], [some (.seq (.int .u64) x2574)]⟩ : St) (impl_FlatOk_n3 x2575 x2602 x2574) (Sum.elim (fun (t : Int) => (Exit.normal, (⟨mkE 19 0 [(9, .slc 0), (10, .dat (.int .i64) x2575), (11, .dat (.int .i64) t)], [some (.seq (.int .u64) x2574)]⟩ : St))) (Sum.elim (fun (t : Bool) => (Exit.ret, (⟨mkE 19 0 [(2, .dat .bool t)], []⟩ : St))) (fun (t : Unit) => ((Exit.exit 0), (⟨mkE 19 0 [], []⟩ : St))))) := by
  refine Link.of fun K h => ?_
  simp only [impl_FlatOk_n3, wpO_bind, wpO_cond, wpO_map, wpO_some] at h
  exact Awp.of (by kernel_rfl) h

theorem impl_FlatOk_n4_l (x2575 : Int) (x2574 : List Int) : Link impl_FlatOk_ctx LL (Code.fst (Code.snd (Code.fst (Code.snd (Code.snd (bodyOf Tryd.f23)))))) (Ann.fst (Ann.snd (Ann.fst (Ann.snd (Ann.snd impl_FlatOk_an))))) (⟨mkE 19 0 [(9, .slc 0), (10, .dat (.int .i64) x2575), (11, .dat (.int .i64) 0)], [some (.seq (.int .u64) x2574)]⟩ : St) (impl_FlatOk_n4 x2575 x2574) (Sum.elim (fun (t : Bool) => (Exit.ret, (⟨mkE 19 0 [(2, .dat .bool t)], []⟩ : St))) (fun (t : Unit) => ((Exit.exit 0), (⟨mkE 19 0 [], []⟩ : St)))) := by
  unfold impl_FlatOk_n4
  exact Link.cast (by kernel_rfl) (by kernel_rfl) (link_loop (mk := fun (s : Int) => (⟨mkE 19 0 [(9, .slc 0), (10, .dat (.int .i64) x2575), (11, .dat (.int .i64) s)], [some (.seq (.int .u64) x2574)]⟩ : St)) (fin := (Sum.elim (fun (t : Bool) => (Exit.ret, (⟨mkE 19 0 [(2, .dat .bool t)], []⟩ : St))) (fun (t : Unit) => ((Exit.exit 0), (⟨mkE 19 0 [], []⟩ : St))))) (by
  rintro (t | t) f K h
  · exact h
  · exact h) (fun s => link_map (impl_FlatOk_n3_l x2575 s x2574) (Sum.elim (fun (t : Int) => Sum.inl t) (Sum.elim (fun (t : Bool) => Sum.inr (Sum.inl t)) (fun (t : Unit) => Sum.inr (Sum.inr t)))) (by
  rintro (t | t | t)
  · kernel_rfl
  · kernel_rfl
  · kernel_rfl)) 0)

theorem impl_FlatOk_n5_l (x2575 : Int) (x2574 : List Int) : Link impl_FlatOk_ctx LL (Code.snd (Code.fst (Code.snd (Code.snd (bodyOf Tryd.f23))))) (Ann.snd (Ann.fst (Ann.snd (Ann.snd impl_FlatOk_an)))) (⟨mkE 19 0 [(9, .slc 0), (10, .dat (.int .i64) x2575), (11, .dat (.int .i64) 0)], [some (.seq (.int .u64) x2574)]⟩ : St) (impl_FlatOk_n5 x2575 x2574) (Sum.elim (fun (t : Unit) => (Exit.normal, (⟨mkE 19 0 [], []⟩ : St))) (fun (t : Bool) => (Exit.ret, (⟨mkE 19 0 [(2, .dat .bool t)], []⟩ : St)))) := by
  unfold impl_FlatOk_n5
  exact Link.cast (by kernel_rfl) (by kernel_rfl) (link_block (id := 0) (impl_FlatOk_n4_l x2575 x2574) (Sum.elim (fun (t : Bool) => (Sum.inr t)) (fun (t : Unit) => (Sum.inl ()))) (by
  rintro (t | t) K h
  · exact Eq.mp (by kernel_rfl) h
  · exact Eq.mp (by kernel_rfl) h))

theorem impl_FlatOk_n6_l (x2571 : List Int) : Link impl_FlatOk_ctx LL (Code.fst (Code.snd (Code.snd (bodyOf Tryd.f23)))) (Ann.fst (Ann.snd (Ann.snd impl_FlatOk_an))) (⟨mkE 19 0 [(0, .dat (.list (.int .i64)) x2571)], []⟩ : St) (impl_FlatOk_n6 x2571) (Sum.elim (fun (t : Unit) => (Exit.normal, (⟨mkE 19 0 [], []⟩ : St))) (fun (t : Bool) => (Exit.ret, (⟨mkE 19 0 [(2, .dat .bool t)], []⟩ : St)))) := by
  unfold impl_FlatOk_n6
  exact Link.cast (by kernel_rfl) (by kernel_rfl) (link_seq (b := (Code.snd (Code.fst (Code.snd (Code.snd (bodyOf Tryd.f23)))))) (y := (Ann.snd (Ann.fst (Ann.snd (Ann.snd impl_FlatOk_an))))) (impl_FlatOk_n2_l x2571) (fun (t : Int × (List Int)) => (impl_FlatOk_n5_l t.1 t.2)))

theorem impl_FlatOk_n7_l : Link impl_FlatOk_ctx LL (Code.snd (Code.snd (Code.snd (bodyOf Tryd.f23)))) (Ann.snd (Ann.snd (Ann.snd impl_FlatOk_an))) (⟨mkE 19 0 [], []⟩ : St) (impl_FlatOk_n7) (fun (t : Bool) => (Exit.ret, (⟨mkE 19 0 [(2, .dat .bool t)], []⟩ : St))) := by
  refine Link.of fun K h => ?_
  simp only [impl_FlatOk_n7, wpO_bind, wpO_cond, wpO_map, wpO_some] at h
  exact Awp.of (by kernel_rfl) h

theorem impl_FlatOk_n8_l (x2571 : List Int) : Link impl_FlatOk_ctx LL (Code.snd (Code.snd (bodyOf Tryd.f23))) (Ann.snd (Ann.snd impl_FlatOk_an)) (⟨mkE 19 0 [(0, .dat (.list (.int .i64)) x2571)], []⟩ : St) (impl_FlatOk_n8 x2571) (fun (t : Bool) => (Exit.ret, (⟨mkE 19 0 [(2, .dat .bool t)], []⟩ : St))) := by
  unfold impl_FlatOk_n8
  exact Link.cast (by kernel_rfl) (by kernel_rfl) (link_seq2 (b := (Code.snd (Code.snd (Code.snd (bodyOf Tryd.f23))))) (y := (Ann.snd (Ann.snd (Ann.snd impl_FlatOk_an)))) (impl_FlatOk_n6_l x2571) (fun (t : Unit) => (impl_FlatOk_n7_l)) (fun (t : Bool) => t) (by
  rintro t
  · kernel_rfl) (by
  rintro t f K h
  · exact h))

theorem impl_FlatOk_n9_l (x2571 : List Int) : Link impl_FlatOk_ctx LL (bodyOf Tryd.f23) impl_FlatOk_an (⟨mkE 19 0 [(0, .dat (.list (.int .i64)) x2571)], []⟩ : St) (impl_FlatOk_n9 x2571) (fun (t : Bool) => (Exit.ret, (⟨mkE 19 0 [(2, .dat .bool t)], []⟩ : St))) := by
  unfold impl_FlatOk_n9
  exact Link.cast (by kernel_rfl) (by kernel_rfl) (link_group (c := (Code.fst (Code.snd (bodyOf Tryd.f23)))) (a := (Ann.fst (Ann.snd impl_FlatOk_an))) [(Code.fst (bodyOf Tryd.f23))] [(Ann.fst impl_FlatOk_an)] rfl (link_seq2 (b := (Code.snd (Code.snd (bodyOf Tryd.f23)))) (y := (Ann.snd (Ann.snd impl_FlatOk_an))) (impl_FlatOk_n1_l x2571) (fun (t : Unit) => (impl_FlatOk_n8_l x2571)) (fun (t : Bool) => t) (by
  rintro t
  · kernel_rfl) (by
  rintro t f K h
  · exact h)))

theorem impl_FlatOk_e (x2571 : List Int) {r : AV} {H' : Heap} (h : (Ans.mk _ (impl_FlatOk x2571) (fun (t : Bool) => (.dat .bool t, []))).run = some (r, H')) : Awp impl_FlatOk_ctx LL (bodyOf Tryd.f23) impl_FlatOk_an (⟨mkE 19 0 [(0, .dat (.list (.int .i64)) x2571)], []⟩ : St) (Ret (tlook tys) Tryd.f23.results.toList r H') :=
  ret_of' (impl_FlatOk_n9_l x2571) (by unfold impl_FlatOk; kernel_rfl) (by
  intro t
  exact ret_mk [.dat .bool t] (by kernel_rfl) (by kernel_rfl) (by kernel_rfl) (by kernel_rfl)) h

def F_impl_FlatOk : Fun := fun avs H =>
  match avs, H with
  | [.dat (.list (.int .i64)) x2571], [] => ⟨_, impl_FlatOk x2571, fun (t : Bool) => (.dat .bool t, [])⟩
  | _, _ => Ans.no

theorem impl_FlatOk_sound : Sound Tryd.prog 23 F_impl_FlatOk := by
  refine fn_sound' (C := impl_FlatOk_ctx) (c := bodyOf Tryd.f23) (cok_of tys_ok (List.forall_mem_cons.2 ⟨impl_TreeOk_sound, List.forall_mem_cons.2 ⟨impl_yieldsOf_sound, List.forall_mem_cons.2 ⟨impl_wordSet_isRow_sound, by simp⟩⟩⟩) (List.forall_mem_cons.2 ⟨Tryd.call22, List.forall_mem_cons.2 ⟨Tryd.call43, List.forall_mem_cons.2 ⟨Tryd.call55, by simp⟩⟩⟩) (by kernel_rfl)) Tryd.func23 (by kernel_rfl) LL impl_FlatOk_an ?_
  intro avs H r H' h
  unfold F_impl_FlatOk at h
  split at h
  · refine Awp.cast ?_ ?_ ?_ (impl_FlatOk_e _ h) <;> kernel_rfl
  · simp [Ans.no, Ans.run] at h


/-! loop.example/headtrees/impl.arcBetween -/

def impl_arcBetween_an : Ann := (.seq (.leaf [0, 1, 4]) (.seq (.seq (.leaf [0, 1, 4, 16]) (.cond (.seq (.leaf [4, 5]) (.leaf [4, 5])) (.leaf [0, 1, 4]))) (.seq (.leaf [4, 5]) (.leaf [4, 5]))))

noncomputable def impl_arcBetween_ctx : Ctx := ⟨tlook tys, olook [], ioF, 0, false⟩

theorem impl_arcBetween_n1_l (x2635 : Int) (x2636 : Int) : Link impl_arcBetween_ctx LL (bodyOf Tryd.f78) impl_arcBetween_an (⟨mkE 25 0 [(0, .dat (.int .i64) x2635), (1, .dat (.int .i64) x2636)], []⟩ : St) (impl_arcBetween_n1 x2635 x2636) (fun (t : Bool × Int × Int) => (Exit.ret, (⟨mkE 25 0 [(4, .ptr 0 0), (5, .dat .bool t.1)], [some (.box [.dat (.int .i64) t.2.1, .dat (.int .i64) t.2.2])]⟩ : St))) := by
  refine Link.of fun K h => ?_
  simp only [impl_arcBetween_n1, wpO_bind, wpO_cond, wpO_map, wpO_some] at h
  exact Awp.of (by kernel_rfl) h

theorem impl_arcBetween_e (x2635 : Int) (x2636 : Int) {r : AV} {H' : Heap} (h : (Ans.mk _ (impl_arcBetween x2635 x2636) (fun (t : Bool × Int × Int) => (.tup [.agg [.dat (.int .i64) t.2.1, .dat (.int .i64) t.2.2], .dat .bool t.1], [some (.box [.dat (.int .i64) t.2.1, .dat (.int .i64) t.2.2])]))).run = some (r, H')) : Awp impl_arcBetween_ctx LL (bodyOf Tryd.f78) impl_arcBetween_an (⟨mkE 25 0 [(0, .dat (.int .i64) x2635), (1, .dat (.int .i64) x2636)], []⟩ : St) (Ret (tlook tys) Tryd.f78.results.toList r H') :=
  ret_of' (impl_arcBetween_n1_l x2635 x2636) (by unfold impl_arcBetween; kernel_rfl) (by
  intro t
  exact ret_mk [.agg [.dat (.int .i64) t.2.1, .dat (.int .i64) t.2.2], .dat .bool t.1] (by kernel_rfl) (by kernel_rfl) (by kernel_rfl) (by kernel_rfl)) h

def F_impl_arcBetween : Fun := fun avs H =>
  match avs, H with
  | [.dat (.int .i64) x2635, .dat (.int .i64) x2636], [] => ⟨_, impl_arcBetween x2635 x2636, fun (t : Bool × Int × Int) => (.tup [.agg [.dat (.int .i64) t.2.1, .dat (.int .i64) t.2.2], .dat .bool t.1], [some (.box [.dat (.int .i64) t.2.1, .dat (.int .i64) t.2.2])])⟩
  | _, _ => Ans.no

theorem impl_arcBetween_sound : Sound Tryd.prog 78 F_impl_arcBetween := by
  refine fn_sound' (C := impl_arcBetween_ctx) (c := bodyOf Tryd.f78) (cok_of tys_ok (by simp) (by simp) (by kernel_rfl)) Tryd.func78 (by kernel_rfl) LL impl_arcBetween_an ?_
  intro avs H r H' h
  unfold F_impl_arcBetween at h
  split at h
  · refine Awp.cast ?_ ?_ ?_ (impl_arcBetween_e _ _ h) <;> kernel_rfl
  · simp [Ans.no, Ans.run] at h


/-! loop.example/headtrees/impl.arcsOf -/

def impl_arcsOf_an : Ann := (.seq (.leaf [0]) (.seq (.leaf [0, 3]) (.seq (.seq (.leaf [3, 11, 12, 13]) (.block (.loop (.seq (.leaf [3, 11, 12, 13, 14]) (.seq (.cond (.leaf [3, 11, 12, 13]) (.leaf [3])) (.seq (.block (.seq (.leaf [3, 4, 5, 11, 12, 13]) (.seq (.leaf [3, 6, 7, 11, 12, 13]) (.seq (.leaf [3, 6, 11, 12, 13, 25]) (.cond (.leaf [3, 11, 12, 13]) (.leaf [3, 11, 12, 13])))))) (.leaf [3, 11, 12, 13]))))))) (.seq (.leaf [2]) (.leaf [2])))))

noncomputable def impl_arcsOf_ctx : Ctx := ⟨tlook tys, olook [(78, F_impl_arcBetween)], ioF, 0, false⟩

theorem impl_arcsOf_n1_l (x2624 : List Int) : Link impl_arcsOf_ctx LL (Code.seq (Code.fst (bodyOf Tryd.f57)) (Code.fst (Code.snd (bodyOf Tryd.f57)))) (Ann.seq (Ann.fst impl_arcsOf_an) (Ann.fst (Ann.snd impl_arcsOf_an))) (⟨mkE 32 0 [(0, .dat (.list (.int .i64)) x2624)], []⟩ : St) (impl_arcsOf_n1 x2624) (fun (t : (List (Int × Int × Unit))) => (Exit.normal, (⟨mkE 32 0 [(0, .dat (.list (.int .i64)) x2624), (3, .slc 0)], [some (.seq (.pair (.int .i64) (.pair (.int .i64) .unit)) t)]⟩ : St))) := by
  refine Link.of fun K h => ?_
  simp only [impl_arcsOf_n1, wpO_bind, wpO_cond, wpO_map, wpO_some] at h
  exact Awp.of (by kernel_rfl) h

theorem impl_arcsOf_n2_l (x2624 : List Int) (x2628 : List (Int × Int × Unit)) : Link impl_arcsOf_ctx LL (Code.fst (Code.fst (Code.snd (Code.snd (bodyOf Tryd.f57))))) (Ann.fst (Ann.fst (Ann.snd (Ann.snd impl_arcsOf_an)))) (⟨mkE 32 0 [(0, .dat (.list (.int .i64)) x2624), (3, .slc 0)], [some (.seq (.pair (.int .i64) (.pair (.int .i64) .unit)) x2628)]⟩ : St) (impl_arcsOf_n2 x2624) (fun (t : Int) => (Exit.normal, (⟨mkE 32 0 [(3, .slc 0), (11, .dat (.list (.int .i64)) x2624), (12, .dat (.int .i64) t), (13, .dat (.int .i64) 0)], [some (.seq (.pair (.int .i64) (.pair (.int .i64) .unit)) x2628)]⟩ : St))) := by
  refine Link.of fun K h => ?_
  simp only [impl_arcsOf_n2, wpO_bind, wpO_cond, wpO_map, wpO_some] at h
  exact Awp.of (by kernel_rfl) h

theorem impl_arcsOf_n3_l (x2624 : List Int) (x2629 : Int) (x2681 : Int) (x2682 : List (Int × Int × Unit)) : Link impl_arcsOf_ctx LL (Code.fst (Code.fst (Code.snd (Code.fst (Code.snd (Code.snd (bodyOf Tryd.f57))))))) (Ann.fst (Ann.fst (Ann.snd (Ann.fst (Ann.snd (Ann.snd impl_arcsOf_an)))))) (⟨mkE 32 0 [(3, .slc 0), (11, .dat (.list (.int .i64)) x2624), (12, .dat (.int .i64) x2629), (13, .dat (.int .i64) x2681)], [some (.seq (.pair (.int .i64) (.pair (.int .i64) .unit)) x2682)]⟩ : St) (impl_arcsOf_n3 x2624 x2629 x2681 x2682) (Sum.elim (fun (t : Int × (List (Int × Int × Unit))) => (Exit.normal, (⟨mkE 32 0 [(3, .slc 0), (11, .dat (.list (.int .i64)) x2624), (12, .dat (.int .i64) x2629), (13, .dat (.int .i64) t.1)], [some (.seq (.pair (.int .i64) (.pair (.int .i64) .unit)) t.2)]⟩ : St))) (fun (t : (List (Int × Int × Unit))) => ((Exit.exit 0), (⟨mkE 32 0 [(3, .slc 0)], [some (.seq (.pair (.int .i64) (.pair (.int .i64) .unit)) t)]⟩ : St)))) := by
  refine Link.of fun K h => ?_
  simp only [impl_arcsOf_n3, wpO_bind, wpO_cond, wpO_map, wpO_some] at h
  exact Awp.of (by kernel_rfl) h

theorem impl_arcsOf_n4_l (x2624 : List Int) (x2629 : Int) (x2628 : List (Int × Int × Unit)) : Link impl_arcsOf_ctx LL (Code.fst (Code.snd (Code.fst (Code.snd (Code.snd (bodyOf Tryd.f57)))))) (Ann.fst (Ann.snd (Ann.fst (Ann.snd (Ann.snd impl_arcsOf_an))))) (⟨mkE 32 0 [(3, .slc 0), (11, .dat (.list (.int .i64)) x2624), (12, .dat (.int .i64) x2629), (13, .dat (.int .i64) 0)], [some (.seq (.pair (.int .i64) (.pair (.int .i64) .unit)) x2628)]⟩ : St) (impl_arcsOf_n4 x2624 x2629 x2628) (fun (t : (List (Int × Int × Unit))) => ((Exit.exit 0), (⟨mkE 32 0 [(3, .slc 0)], [some (.seq (.pair (.int .i64) (.pair (.int .i64) .unit)) t)]⟩ : St))) := by
  unfold impl_arcsOf_n4
  exact Link.cast (by kernel_rfl) (by kernel_rfl) (link_loop (mk := fun (s : Int × (List (Int × Int × Unit))) => (⟨mkE 32 0 [(3, .slc 0), (11, .dat (.list (.int .i64)) x2624), (12, .dat (.int .i64) x2629), (13, .dat (.int .i64) s.1)], [some (.seq (.pair (.int .i64) (.pair (.int .i64) .unit)) s.2)]⟩ : St)) (fin := (fun (t : (List (Int × Int × Unit))) => ((Exit.exit 0), (⟨mkE 32 0 [(3, .slc 0)], [some (.seq (.pair (.int .i64) (.pair (.int .i64) .unit)) t)]⟩ : St)))) (by
  rintro t f K h
  · exact h) (fun s => link_map (impl_arcsOf_n3_l x2624 x2629 s.1 s.2) (Sum.elim (fun (t : Int × (List (Int × Int × Unit))) => Sum.inl (t.1, t.2)) (fun (t : (List (Int × Int × Unit))) => Sum.inr t)) (by
  rintro (t | t)
  · kernel_rfl
  · kernel_rfl)) (0, x2628))

theorem impl_arcsOf_n5_l (x2624 : List Int) (x2629 : Int) (x2628 : List (Int × Int × Unit)) : Link impl_arcsOf_ctx LL (Code.snd (Code.fst (Code.snd (Code.snd (bodyOf Tryd.f57))))) (Ann.snd (Ann.fst (Ann.snd (Ann.snd impl_arcsOf_an)))) (⟨mkE 32 0 [(3, .slc 0), (11, .dat (.list (.int .i64)) x2624), (12, .dat (.int .i64) x2629), (13, .dat (.int .i64) 0)], [some (.seq (.pair (.int .i64) (.pair (.int .i64) .unit)) x2628)]⟩ : St) (impl_arcsOf_n5 x2624 x2629 x2628) (fun (t : (List (Int × Int × Unit))) => (Exit.normal, (⟨mkE 32 0 [(3, .slc 0)], [some (.seq (.pair (.int .i64) (.pair (.int .i64) .unit)) t)]⟩ : St))) := by
  unfold impl_arcsOf_n5
  exact Link.cast (by kernel_rfl) (by kernel_rfl) (link_block (id := 0) (impl_arcsOf_n4_l x2624 x2629 x2628) (fun (t : (List (Int × Int × Unit))) => t) (by
  rintro t K h
  · exact Eq.mp (by kernel_rfl) h))

theorem impl_arcsOf_n6_l (x2624 : List Int) (x2628 : List (Int × Int × Unit)) : Link impl_arcsOf_ctx LL (Code.fst (Code.snd (Code.snd (bodyOf Tryd.f57)))) (Ann.fst (Ann.snd (Ann.snd impl_arcsOf_an))) (⟨mkE 32 0 [(0, .dat (.list (.int .i64)) x2624), (3, .slc 0)], [some (.seq (.pair (.int .i64) (.pair (.int .i64) .unit)) x2628)]⟩ : St) (impl_arcsOf_n6 x2624 x2628) (fun (t : (List (Int × Int × Unit))) => (Exit.normal, (⟨mkE 32 0 [(3, .slc 0)], [some (.seq (.pair (.int .i64) (.pair (.int .i64) .unit)) t)]⟩ : St))) := by
  unfold impl_arcsOf_n6
  exact Link.cast (by kernel_rfl) (by kernel_rfl) (link_seq (b := (Code.snd (Code.fst (Code.snd (Code.snd (bodyOf Tryd.f57)))))) (y := (Ann.snd (Ann.fst (Ann.snd (Ann.snd impl_arcsOf_an))))) (impl_arcsOf_n2_l x2624 x2628) (fun (t : Int) => (impl_arcsOf_n5_l x2624 t x2628)))

theorem impl_arcsOf_n7_l (x2682 : List (Int × Int × Unit)) : Link impl_arcsOf_ctx LL (Code.snd (Code.snd (Code.snd (bodyOf Tryd.f57)))) (Ann.snd (Ann.snd (Ann.snd impl_arcsOf_an))) (⟨mkE 32 0 [(3, .slc 0)], [some (.seq (.pair (.int .i64) (.pair (.int .i64) .unit)) x2682)]⟩ : St) (impl_arcsOf_n7 x2682) (fun (t : (List (Int × Int × Unit))) => (Exit.ret, (⟨mkE 32 0 [(2, .slc 0)], [some (.seq (.pair (.int .i64) (.pair (.int .i64) .unit)) t)]⟩ : St))) := by
  refine Link.of fun K h => ?_
  simp only [impl_arcsOf_n7, wpO_bind, wpO_cond, wpO_map, wpO_some] at h
  exact Awp.of (by kernel_rfl) h

theorem impl_arcsOf_n8_l (x2624 : List Int) (x2628 : List (Int × Int × Unit)) : Link impl_arcsOf_ctx LL (Code.snd (Code.snd (bodyOf Tryd.f57))) (Ann.snd (Ann.snd impl_arcsOf_an)) (⟨mkE 32 0 [(0, .dat (.list (.int .i64)) x2624), (3, .slc 0)], [some (.seq (.pair (.int .i64) (.pair (.int .i64) .unit)) x2628)]⟩ : St) (impl_arcsOf_n8 x2624 x2628) (fun (t : (List (Int × Int × Unit))) => (Exit.ret, (⟨mkE 32 0 [(2, .slc 0)], [some (.seq (.pair (.int .i64) (.pair (.int .i64) .unit)) t)]⟩ : St))) := by
  unfold impl_arcsOf_n8
  exact Link.cast (by kernel_rfl) (by kernel_rfl) (link_seq (b := (Code.snd (Code.snd (Code.snd (bodyOf Tryd.f57))))) (y := (Ann.snd (Ann.snd (Ann.snd impl_arcsOf_an)))) (impl_arcsOf_n6_l x2624 x2628) (fun (t : (List (Int × Int × Unit))) => (impl_arcsOf_n7_l t)))

theorem impl_arcsOf_n9_l (x2624 : List Int) : Link impl_arcsOf_ctx LL (bodyOf Tryd.f57) impl_arcsOf_an (⟨mkE 32 0 [(0, .dat (.list (.int .i64)) x2624)], []⟩ : St) (impl_arcsOf_n9 x2624) (fun (t : (List (Int × Int × Unit))) => (Exit.ret, (⟨mkE 32 0 [(2, .slc 0)], [some (.seq (.pair (.int .i64) (.pair (.int .i64) .unit)) t)]⟩ : St))) := by
  unfold impl_arcsOf_n9
  exact Link.cast (by kernel_rfl) (by kernel_rfl) (link_group (c := (Code.fst (Code.snd (bodyOf Tryd.f57)))) (a := (Ann.fst (Ann.snd impl_arcsOf_an))) [(Code.fst (bodyOf Tryd.f57))] [(Ann.fst impl_arcsOf_an)] rfl (link_seq (b := (Code.snd (Code.snd (bodyOf Tryd.f57)))) (y := (Ann.snd (Ann.snd impl_arcsOf_an))) (impl_arcsOf_n1_l x2624) (fun (t : (List (Int × Int × Unit))) => (impl_arcsOf_n8_l x2624 t))))

theorem impl_arcsOf_e (x2624 : List Int) {r : AV} {H' : Heap} (h : (Ans.mk _ (impl_arcsOf x2624) (fun (t : (List (Int × Int × Unit))) => (.slc 0, [some (.seq (.pair (.int .i64) (.pair (.int .i64) .unit)) t)]))).run = some (r, H')) : Awp impl_arcsOf_ctx LL (bodyOf Tryd.f57) impl_arcsOf_an (⟨mkE 32 0 [(0, .dat (.list (.int .i64)) x2624)], []⟩ : St) (Ret (tlook tys) Tryd.f57.results.toList r H') :=
  ret_of' (impl_arcsOf_n9_l x2624) (by unfold impl_arcsOf; kernel_rfl) (by
  intro t
  exact ret_mk [.slc 0] (by kernel_rfl) (by kernel_rfl) (by kernel_rfl) (by kernel_rfl)) h

def F_impl_arcsOf : Fun := fun avs H =>
  match avs, H with
  | [.dat (.list (.int .i64)) x2624], [] => ⟨_, impl_arcsOf x2624, fun (t : (List (Int × Int × Unit))) => (.slc 0, [some (.seq (.pair (.int .i64) (.pair (.int .i64) .unit)) t)])⟩
  | _, _ => Ans.no

theorem impl_arcsOf_sound : Sound Tryd.prog 57 F_impl_arcsOf := by
  refine fn_sound' (C := impl_arcsOf_ctx) (c := bodyOf Tryd.f57) (cok_of tys_ok (List.forall_mem_cons.2 ⟨impl_arcBetween_sound, by simp⟩) (List.forall_mem_cons.2 ⟨Tryd.call78, by simp⟩) (by kernel_rfl)) Tryd.func57 (by kernel_rfl) LL impl_arcsOf_an ?_
  intro avs H r H' h
  unfold F_impl_arcsOf at h
  split at h
  · refine Awp.cast ?_ ?_ ?_ (impl_arcsOf_e _ h) <;> kernel_rfl
  · simp [Ans.no, Ans.run] at h


/-! (loop.example/headtrees/impl.arc).covers -/

def impl_arc_covers_an : Ann := (.seq (.leaf [1, 2]) (.seq (.leaf [4]) (.leaf [4])))

noncomputable def impl_arc_covers_ctx : Ctx := ⟨tlook tys, olook [], ioF, 0, false⟩

theorem impl_arc_covers_n1_l (x2747 : Int) (x2748 : Int) (x2749 : Int) : Link impl_arc_covers_ctx LL (bodyOf Tryd.f79) impl_arc_covers_an (⟨mkE 15 0 [(0, .agg [.dat (.int .i64) x2747, .dat (.int .i64) x2748]), (1, .dat (.int .i64) x2749)], []⟩ : St) (impl_arc_covers_n1 x2747 x2748 x2749) (fun (t : Bool) => (Exit.ret, (⟨mkE 15 0 [(4, .dat .bool t)], []⟩ : St))) := by
  refine Link.of fun K h => ?_
  simp only [impl_arc_covers_n1, wpO_bind, wpO_cond, wpO_map, wpO_some] at h
  exact Awp.of (by kernel_rfl) h

theorem impl_arc_covers_e (x2747 : Int) (x2748 : Int) (x2749 : Int) {r : AV} {H' : Heap} (h : (Ans.mk _ (impl_arc_covers x2747 x2748 x2749) (fun (t : Bool) => (.dat .bool t, []))).run = some (r, H')) : Awp impl_arc_covers_ctx LL (bodyOf Tryd.f79) impl_arc_covers_an (⟨mkE 15 0 [(0, .agg [.dat (.int .i64) x2747, .dat (.int .i64) x2748]), (1, .dat (.int .i64) x2749)], []⟩ : St) (Ret (tlook tys) Tryd.f79.results.toList r H') :=
  ret_of' (impl_arc_covers_n1_l x2747 x2748 x2749) (by unfold impl_arc_covers; kernel_rfl) (by
  intro t
  exact ret_mk [.dat .bool t] (by kernel_rfl) (by kernel_rfl) (by kernel_rfl) (by kernel_rfl)) h

def F_impl_arc_covers : Fun := fun avs H =>
  match avs, H with
  | [.agg [.dat (.int .i64) x2747, .dat (.int .i64) x2748], .dat (.int .i64) x2749], [] => ⟨_, impl_arc_covers x2747 x2748 x2749, fun (t : Bool) => (.dat .bool t, [])⟩
  | _, _ => Ans.no

theorem impl_arc_covers_sound : Sound Tryd.prog 79 F_impl_arc_covers := by
  refine fn_sound' (C := impl_arc_covers_ctx) (c := bodyOf Tryd.f79) (cok_of tys_ok (by simp) (by simp) (by kernel_rfl)) Tryd.func79 (by kernel_rfl) LL impl_arc_covers_an ?_
  intro avs H r H' h
  unfold F_impl_arc_covers at h
  split at h
  · refine Awp.cast ?_ ?_ ?_ (impl_arc_covers_e _ _ _ h) <;> kernel_rfl
  · simp [Ans.no, Ans.run] at h


/-! (loop.example/headtrees/impl.arc).leavesOut -/

def impl_arc_leavesOut_an : Ann := (.seq (.leaf [1, 2]) (.seq (.leaf [4]) (.leaf [4])))

noncomputable def impl_arc_leavesOut_ctx : Ctx := ⟨tlook tys, olook [], ioF, 0, false⟩

theorem impl_arc_leavesOut_n1_l (x2756 : Int) (x2757 : Int) (x2758 : Int) : Link impl_arc_leavesOut_ctx LL (bodyOf Tryd.f80) impl_arc_leavesOut_an (⟨mkE 15 0 [(0, .agg [.dat (.int .i64) x2756, .dat (.int .i64) x2757]), (1, .dat (.int .i64) x2758)], []⟩ : St) (impl_arc_leavesOut_n1 x2756 x2757 x2758) (fun (t : Bool) => (Exit.ret, (⟨mkE 15 0 [(4, .dat .bool t)], []⟩ : St))) := by
  refine Link.of fun K h => ?_
  simp only [impl_arc_leavesOut_n1, wpO_bind, wpO_cond, wpO_map, wpO_some] at h
  exact Awp.of (by kernel_rfl) h

theorem impl_arc_leavesOut_e (x2756 : Int) (x2757 : Int) (x2758 : Int) {r : AV} {H' : Heap} (h : (Ans.mk _ (impl_arc_leavesOut x2756 x2757 x2758) (fun (t : Bool) => (.dat .bool t, []))).run = some (r, H')) : Awp impl_arc_leavesOut_ctx LL (bodyOf Tryd.f80) impl_arc_leavesOut_an (⟨mkE 15 0 [(0, .agg [.dat (.int .i64) x2756, .dat (.int .i64) x2757]), (1, .dat (.int .i64) x2758)], []⟩ : St) (Ret (tlook tys) Tryd.f80.results.toList r H') :=
  ret_of' (impl_arc_leavesOut_n1_l x2756 x2757 x2758) (by unfold impl_arc_leavesOut; kernel_rfl) (by
  intro t
  exact ret_mk [.dat .bool t] (by kernel_rfl) (by kernel_rfl) (by kernel_rfl) (by kernel_rfl)) h

def F_impl_arc_leavesOut : Fun := fun avs H =>
  match avs, H with
  | [.agg [.dat (.int .i64) x2756, .dat (.int .i64) x2757], .dat (.int .i64) x2758], [] => ⟨_, impl_arc_leavesOut x2756 x2757 x2758, fun (t : Bool) => (.dat .bool t, [])⟩
  | _, _ => Ans.no

theorem impl_arc_leavesOut_sound : Sound Tryd.prog 80 F_impl_arc_leavesOut := by
  refine fn_sound' (C := impl_arc_leavesOut_ctx) (c := bodyOf Tryd.f80) (cok_of tys_ok (by simp) (by simp) (by kernel_rfl)) Tryd.func80 (by kernel_rfl) LL impl_arc_leavesOut_an ?_
  intro avs H r H' h
  unfold F_impl_arc_leavesOut at h
  split at h
  · refine Awp.cast ?_ ?_ ?_ (impl_arc_leavesOut_e _ _ _ h) <;> kernel_rfl
  · simp [Ans.no, Ans.run] at h


/-! (loop.example/headtrees/impl.arc).crosses -/

def impl_arc_crosses_an : Ann := (.seq (.leaf [2, 3]) (.seq (.leaf [4]) (.leaf [4])))

noncomputable def impl_arc_crosses_ctx : Ctx := ⟨tlook tys, olook [(79, F_impl_arc_covers), (80, F_impl_arc_leavesOut)], ioF, 0, false⟩

theorem impl_arc_crosses_n1_l (x2743 : Int) (x2744 : Int) (x2745 : Int) (x2746 : Int) : Link impl_arc_crosses_ctx LL (bodyOf Tryd.f58) impl_arc_crosses_an (⟨mkE 27 0 [(0, .agg [.dat (.int .i64) x2743, .dat (.int .i64) x2744]), (1, .agg [.dat (.int .i64) x2745, .dat (.int .i64) x2746])], []⟩ : St) (impl_arc_crosses_n1 x2743 x2744 x2745 x2746) (fun (t : Bool) => (Exit.ret, (⟨mkE 27 0 [(4, .dat .bool t)], []⟩ : St))) := by
  refine Link.of fun K h => ?_
  simp only [impl_arc_crosses_n1, wpO_bind, wpO_cond, wpO_map, wpO_some] at h
  exact Awp.of (by kernel_rfl) h

theorem impl_arc_crosses_e (x2743 : Int) (x2744 : Int) (x2745 : Int) (x2746 : Int) {r : AV} {H' : Heap} (h : (Ans.mk _ (impl_arc_crosses x2743 x2744 x2745 x2746) (fun (t : Bool) => (.dat .bool t, []))).run = some (r, H')) : Awp impl_arc_crosses_ctx LL (bodyOf Tryd.f58) impl_arc_crosses_an (⟨mkE 27 0 [(0, .agg [.dat (.int .i64) x2743, .dat (.int .i64) x2744]), (1, .agg [.dat (.int .i64) x2745, .dat (.int .i64) x2746])], []⟩ : St) (Ret (tlook tys) Tryd.f58.results.toList r H') :=
  ret_of' (impl_arc_crosses_n1_l x2743 x2744 x2745 x2746) (by unfold impl_arc_crosses; kernel_rfl) (by
  intro t
  exact ret_mk [.dat .bool t] (by kernel_rfl) (by kernel_rfl) (by kernel_rfl) (by kernel_rfl)) h

def F_impl_arc_crosses : Fun := fun avs H =>
  match avs, H with
  | [.agg [.dat (.int .i64) x2743, .dat (.int .i64) x2744], .agg [.dat (.int .i64) x2745, .dat (.int .i64) x2746]], [] => ⟨_, impl_arc_crosses x2743 x2744 x2745 x2746, fun (t : Bool) => (.dat .bool t, [])⟩
  | _, _ => Ans.no

theorem impl_arc_crosses_sound : Sound Tryd.prog 58 F_impl_arc_crosses := by
  refine fn_sound' (C := impl_arc_crosses_ctx) (c := bodyOf Tryd.f58) (cok_of tys_ok (List.forall_mem_cons.2 ⟨impl_arc_covers_sound, List.forall_mem_cons.2 ⟨impl_arc_leavesOut_sound, by simp⟩⟩) (List.forall_mem_cons.2 ⟨Tryd.call79, List.forall_mem_cons.2 ⟨Tryd.call80, by simp⟩⟩) (by kernel_rfl)) Tryd.func58 (by kernel_rfl) LL impl_arc_crosses_an ?_
  intro avs H r H' h
  unfold F_impl_arc_crosses at h
  split at h
  · refine Awp.cast ?_ ?_ ?_ (impl_arc_crosses_e _ _ _ _ h) <;> kernel_rfl
  · simp [Ans.no, Ans.run] at h


/-! loop.example/headtrees/impl.countPairs[loop.example/headtrees/impl.arc] -/

def impl_countPairs_impl_arc_an : Ann := (.seq (.leaf [0, 1]) (.seq (.leaf [0, 1, 5]) (.seq (.seq (.leaf [0, 1, 5, 10, 11, 12]) (.block (.loop (.seq (.leaf [0, 1, 5, 10, 11, 12, 13]) (.seq (.cond (.leaf [0, 1, 5, 10, 11, 12]) (.leaf [5])) (.seq (.block (.seq (.leaf [0, 1, 5, 6, 7, 10, 11, 12]) (.seq (.leaf [0, 1, 5, 7, 10, 11, 12, 20, 21, 22]) (.block (.loop (.seq (.leaf [0, 1, 5, 7, 10, 11, 12, 20, 21, 22, 23]) (.seq (.cond (.leaf [0, 1, 5, 7, 10, 11, 12, 20, 21, 22]) (.leaf [0, 1, 5, 10, 11, 12])) (.seq (.block (.seq (.leaf [0, 1, 5, 7, 9, 10, 11, 12, 20, 21, 22]) (.seq (.leaf [0, 1, 5, 7, 10, 11, 12, 20, 21, 22, 29]) (.cond (.leaf [0, 1, 5, 7, 10, 11, 12, 20, 21, 22]) (.leaf [0, 1, 5, 7, 10, 11, 12, 20, 21, 22]))))) (.leaf [0, 1, 5, 7, 10, 11, 12, 20, 21, 22]))))))))) (.leaf [0, 1, 5, 10, 11, 12]))))))) (.seq (.leaf [4]) (.leaf [4])))))

noncomputable def impl_countPairs_impl_arc_ctx : Ctx := ⟨tlook tys, olook [(58, F_impl_arc_crosses)], ioF, 0, false⟩

theorem impl_countPairs_impl_arc_n1_l (x2716 : List (Int × Int × Unit)) : Link impl_countPairs_impl_arc_ctx LL (Code.seq (Code.fst (bodyOf Tryd.f56)) (Code.fst (Code.snd (bodyOf Tryd.f56)))) (Ann.seq (Ann.fst impl_countPairs_impl_arc_an) (Ann.fst (Ann.snd impl_countPairs_impl_arc_an))) (⟨mkE 35 0 [(0, .dat (.list (.pair (.int .i64) (.pair (.int .i64) .unit))) x2716), (1, .fn 58 [] [])], []⟩ : St) (impl_countPairs_impl_arc_n1) (fun (t : Unit) => (Exit.normal, (⟨mkE 35 0 [(0, .dat (.list (.pair (.int .i64) (.pair (.int .i64) .unit))) x2716), (1, .fn 58 [] []), (5, .dat (.int .i64) 0)], []⟩ : St))) := by
  refine Link.of fun K h => ?_
  simp only [impl_countPairs_impl_arc_n1, wpO_bind, wpO_cond, wpO_map, wpO_some] at h
  exact Awp.of (by kernel_rfl) h

theorem impl_countPairs_impl_arc_n2_l (x2716 : List (Int × Int × Unit)) : Link impl_countPairs_impl_arc_ctx LL (Code.fst (Code.fst (Code.snd (Code.snd (bodyOf Tryd.f56))))) (Ann.fst (Ann.fst (Ann.snd (Ann.snd impl_countPairs_impl_arc_an)))) (⟨mkE 35 0 [(0, .dat (.list (.pair (.int .i64) (.pair (.int .i64) .unit))) x2716), (1, .fn 58 [] []), (5, .dat (.int .i64) 0)], []⟩ : St) (impl_countPairs_impl_arc_n2 x2716) (fun (t : Int) => (Exit.normal, (⟨mkE 35 0 [(0, .dat (.list (.pair (.int .i64) (.pair (.int .i64) .unit))) x2716), (1, .fn 58 [] []), (5, .dat (.int .i64) 0), (10, .dat (.list (.pair (.int .i64) (.pair (.int .i64) .unit))) x2716), (11, .dat (.int .i64) t), (12, .dat (.int .i64) 0)], []⟩ : St))) := by
  refine Link.of fun K h => ?_
  simp only [impl_countPairs_impl_arc_n2, wpO_bind, wpO_cond, wpO_map, wpO_some] at h
  exact Awp.of (by kernel_rfl) h

theorem impl_countPairs_impl_arc_n3_l (x2716 : List (Int × Int × Unit)) (x2815 : Int) (x2717 : Int) (x2816 : Int) : Link impl_countPairs_impl_arc_ctx LL (Code.seq (Code.fst (Code.fst (Code.fst (Code.snd (Code.fst (Code.snd (Code.snd (bodyOf Tryd.f56)))))))) (Code.fst (Code.snd (Code.fst (Code.fst (Code.snd (Code.fst (Code.snd (Code.snd (bodyOf Tryd.f56)))))))))) (Ann.seq (Ann.fst (Ann.fst (Ann.fst (Ann.snd (Ann.fst (Ann.snd (Ann.snd impl_countPairs_impl_arc_an))))))) (Ann.fst (Ann.snd (Ann.fst (Ann.fst (Ann.snd (Ann.fst (Ann.snd (Ann.snd impl_countPairs_impl_arc_an))))))))) (⟨mkE 35 0 [(0, .dat (.list (.pair (.int .i64) (.pair (.int .i64) .unit))) x2716), (1, .fn 58 [] []), (5, .dat (.int .i64) x2815), (10, .dat (.list (.pair (.int .i64) (.pair (.int .i64) .unit))) x2716), (11, .dat (.int .i64) x2717), (12, .dat (.int .i64) x2816)], []⟩ : St) (impl_countPairs_impl_arc_n3 x2815 x2717 x2816) (Sum.elim (fun (t : Unit) => (Exit.normal, (⟨mkE 35 0 [(0, .dat (.list (.pair (.int .i64) (.pair (.int .i64) .unit))) x2716), (1, .fn 58 [] []), (5, .dat (.int .i64) x2815), (10, .dat (.list (.pair (.int .i64) (.pair (.int .i64) .unit))) x2716), (11, .dat (.int .i64) x2717), (12, .dat (.int .i64) x2816)], []⟩ : St))) (fun (t : Int) => ((Exit.exit 0), (⟨mkE 35 0 [(5, .dat (.int .i64) t)], []⟩ : St)))) := by
  refine Link.of fun K h => ?_
  simp only [impl_countPairs_impl_arc_n3, wpO_bind, wpO_cond, wpO_map, wpO_some] at h
  exact Awp.of (by kernel_rfl) h

theorem impl_countPairs_impl_arc_n4_l (x2716 : List (Int × Int × Unit)) (x2815 : Int) (x2717 : Int) (x2816 : Int) : Link impl_countPairs_impl_arc_ctx LL (Code.seq (Code.fst (Code.fst (Code.fst (Code.snd (Code.snd (Code.fst (Code.fst (Code.snd (Code.fst (Code.snd (Code.snd (bodyOf Tryd.f56)))))))))))) (Code.fst (Code.snd (Code.fst (Code.fst (Code.snd (Code.snd (Code.fst (Code.fst (Code.snd (Code.fst (Code.snd (Code.snd (bodyOf Tryd.f56)))))))))))))) (Ann.seq (Ann.fst (Ann.fst (Ann.fst (Ann.snd (Ann.snd (Ann.fst (Ann.fst (Ann.snd (Ann.fst (Ann.snd (Ann.snd impl_countPairs_impl_arc_an))))))))))) (Ann.fst (Ann.snd (Ann.fst (Ann.fst (Ann.snd (Ann.snd (Ann.fst (Ann.fst (Ann.snd (Ann.fst (Ann.snd (Ann.snd impl_countPairs_impl_arc_an))))))))))))) (⟨mkE 35 0 [(0, .dat (.list (.pair (.int .i64) (.pair (.int .i64) .unit))) x2716), (1, .fn 58 [] []), (5, .dat (.int .i64) x2815), (10, .dat (.list (.pair (.int .i64) (.pair (.int .i64) .unit))) x2716), (11, .dat (.int .i64) x2717), (12, .dat (.int .i64) x2816)], []⟩ : St) (impl_countPairs_impl_arc_n4 x2716 x2816) (fun (t : (List (Int × Int × Unit)) × Int × Int × Int) => (Exit.normal, (⟨mkE 35 0 [(0, .dat (.list (.pair (.int .i64) (.pair (.int .i64) .unit))) x2716), (1, .fn 58 [] []), (5, .dat (.int .i64) x2815), (7, .ptr 0 0), (10, .dat (.list (.pair (.int .i64) (.pair (.int .i64) .unit))) x2716), (11, .dat (.int .i64) x2717), (12, .dat (.int .i64) x2816), (20, .dat (.list (.pair (.int .i64) (.pair (.int .i64) .unit))) t.1), (21, .dat (.int .i64) t.2.1), (22, .dat (.int .i64) 0)], [some (.box [.dat (.int .i64) t.2.2.1, .dat (.int .i64) t.2.2.2])]⟩ : St))) := by
  refine Link.of fun K h => ?_
  simp only [impl_countPairs_impl_arc_n4, wpO_bind, wpO_cond, wpO_map, wpO_some] at h
  exact Awp.of (by kernel_rfl) h

theorem impl_countPairs_impl_arc_n5_l (x2716 : List (Int × Int × Unit)) (x2856 : Int) (x2717 : Int) (x2816 : Int) (x2832 : List (Int × Int × Unit)) (x2833 : Int) (x2857 : Int) (x2825 : Int) (x2827 : Int) : Link impl_countPairs_impl_arc_ctx LL (Code.fst (Code.fst (Code.snd (Code.snd (Code.fst (Code.fst (Code.snd (Code.snd (Code.fst (Code.fst (Code.snd (Code.fst (Code.snd (Code.snd (bodyOf Tryd.f56))))))))))))))) (Ann.fst (Ann.fst (Ann.snd (Ann.snd (Ann.fst (Ann.fst (Ann.snd (Ann.snd (Ann.fst (Ann.fst (Ann.snd (Ann.fst (Ann.snd (Ann.snd impl_countPairs_impl_arc_an)))))))))))))) (⟨mkE 35 0 [(0, .dat (.list (.pair (.int .i64) (.pair (.int .i64) .unit))) x2716), (1, .fn 58 [] []), (5, .dat (.int .i64) x2856), (7, .ptr 0 0), (10, .dat (.list (.pair (.int .i64) (.pair (.int .i64) .unit))) x2716), (11, .dat (.int .i64) x2717), (12, .dat (.int .i64) x2816), (20, .dat (.list (.pair (.int .i64) (.pair (.int .i64) .unit))) x2832), (21, .dat (.int .i64) x2833), (22, .dat (.int .i64) x2857)], [some (.box [.dat (.int .i64) x2825, .dat (.int .i64) x2827])]⟩ : St) (impl_countPairs_impl_arc_n5 x2856 x2832 x2833 x2857 x2825 x2827) (Sum.elim (fun (t : Int × Int) => (Exit.normal, (⟨mkE 35 0 [(0, .dat (.list (.pair (.int .i64) (.pair (.int .i64) .unit))) x2716), (1, .fn 58 [] []), (5, .dat (.int .i64) t.1), (7, .ptr 0 0), (10, .dat (.list (.pair (.int .i64) (.pair (.int .i64) .unit))) x2716), (11, .dat (.int .i64) x2717), (12, .dat (.int .i64) x2816), (20, .dat (.list (.pair (.int .i64) (.pair (.int .i64) .unit))) x2832), (21, .dat (.int .i64) x2833), (22, .dat (.int .i64) t.2)], [some (.box [.dat (.int .i64) x2825, .dat (.int .i64) x2827])]⟩ : St))) (fun (t : Int) => ((Exit.exit 2), (⟨mkE 35 0 [(0, .dat (.list (.pair (.int .i64) (.pair (.int .i64) .unit))) x2716), (1, .fn 58 [] []), (5, .dat (.int .i64) t), (10, .dat (.list (.pair (.int .i64) (.pair (.int .i64) .unit))) x2716), (11, .dat (.int .i64) x2717), (12, .dat (.int .i64) x2816)], []⟩ : St)))) := by
  refine Link.of fun K h => ?_
  simp only [impl_countPairs_impl_arc_n5, wpO_bind, wpO_cond, wpO_map, wpO_some] at h
  exact Awp.of (by kernel_rfl) h

theorem impl_countPairs_impl_arc_n6_l (x2716 : List (Int × Int × Unit)) (x2815 : Int) (x2717 : Int) (x2816 : Int) (x2832 : List (Int × Int × Unit)) (x2833 : Int) (x2825 : Int) (x2827 : Int) : Link impl_countPairs_impl_arc_ctx LL (Code.fst (Code.snd (Code.snd (Code.fst (Code.fst (Code.snd (Code.snd (Code.fst (Code.fst (Code.snd (Code.fst (Code.snd (Code.snd (bodyOf Tryd.f56)))))))))))))) (Ann.fst (Ann.snd (Ann.snd (Ann.fst (Ann.fst (Ann.snd (Ann.snd (Ann.fst (Ann.fst (Ann.snd (Ann.fst (Ann.snd (Ann.snd impl_countPairs_impl_arc_an))))))))))))) (⟨mkE 35 0 [(0, .dat (.list (.pair (.int .i64) (.pair (.int .i64) .unit))) x2716), (1, .fn 58 [] []), (5, .dat (.int .i64) x2815), (7, .ptr 0 0), (10, .dat (.list (.pair (.int .i64) (.pair (.int .i64) .unit))) x2716), (11, .dat (.int .i64) x2717), (12, .dat (.int .i64) x2816), (20, .dat (.list (.pair (.int .i64) (.pair (.int .i64) .unit))) x2832), (21, .dat (.int .i64) x2833), (22, .dat (.int .i64) 0)], [some (.box [.dat (.int .i64) x2825, .dat (.int .i64) x2827])]⟩ : St) (impl_countPairs_impl_arc_n6 x2815 x2832 x2833 x2825 x2827) (fun (t : Int) => ((Exit.exit 2), (⟨mkE 35 0 [(0, .dat (.list (.pair (.int .i64) (.pair (.int .i64) .unit))) x2716), (1, .fn 58 [] []), (5, .dat (.int .i64) t), (10, .dat (.list (.pair (.int .i64) (.pair (.int .i64) .unit))) x2716), (11, .dat (.int .i64) x2717), (12, .dat (.int .i64) x2816)], []⟩ : St))) := by
  unfold impl_countPairs_impl_arc_n6
  exact Link.cast (by kernel_rfl) (by kernel_rfl) (link_loop (mk := fun (s : Int × Int) => (⟨mkE 35 0 [(0, .dat (.list (.pair (.int .i64) (.pair (.int .i64) .unit))) x2716), (1, .fn 58 [] []), (5, .dat (.int .i64) s.1), (7, .ptr 0 0), (10, .dat (.list (.pair (.int .i64) (.pair (.int .i64) .unit))) x2716), (11, .dat (.int .i64) x2717), (12, .dat (.int .i64) x2816), (20, .dat (.list (.pair (.int .i64) (.pair (.int .i64) .unit))) x2832), (21, .dat (.int .i64) x2833), (22, .dat (.int .i64) s.2)], [some (.box [.dat (.int .i64) x2825, .dat (.int .i64) x2827])]⟩ : St)) (fin := (fun (t : Int) => ((Exit.exit 2), (⟨mkE 35 0 [(0, .dat (.list (.pair (.int .i64) (.pair (.int .i64) .unit))) x2716), (1, .fn 58 [] []), (5, .dat (.int .i64) t), (10, .dat (.list (.pair (.int .i64) (.pair (.int .i64) .unit))) x2716), (11, .dat (.int .i64) x2717), (12, .dat (.int .i64) x2816)], []⟩ : St)))) (by
  rintro t f K h
  · exact h) (fun s => link_map (impl_countPairs_impl_arc_n5_l x2716 s.1 x2717 x2816 x2832 x2833 s.2 x2825 x2827) (Sum.elim (fun (t : Int × Int) => Sum.inl (t.1, t.2)) (fun (t : Int) => Sum.inr t)) (by
  rintro (t | t)
  · kernel_rfl
  · kernel_rfl)) (x2815, 0))

theorem impl_countPairs_impl_arc_n7_l (x2716 : List (Int × Int × Unit)) (x2815 : Int) (x2717 : Int) (x2816 : Int) (x2832 : List (Int × Int × Unit)) (x2833 : Int) (x2825 : Int) (x2827 : Int) : Link impl_countPairs_impl_arc_ctx LL (Code.snd (Code.snd (Code.fst (Code.fst (Code.snd (Code.snd (Code.fst (Code.fst (Code.snd (Code.fst (Code.snd (Code.snd (bodyOf Tryd.f56))))))))))))) (Ann.snd (Ann.snd (Ann.fst (Ann.fst (Ann.snd (Ann.snd (Ann.fst (Ann.fst (Ann.snd (Ann.fst (Ann.snd (Ann.snd impl_countPairs_impl_arc_an)))))))))))) (⟨mkE 35 0 [(0, .dat (.list (.pair (.int .i64) (.pair (.int .i64) .unit))) x2716), (1, .fn 58 [] []), (5, .dat (.int .i64) x2815), (7, .ptr 0 0), (10, .dat (.list (.pair (.int .i64) (.pair (.int .i64) .unit))) x2716), (11, .dat (.int .i64) x2717), (12, .dat (.int .i64) x2816), (20, .dat (.list (.pair (.int .i64) (.pair (.int .i64) .unit))) x2832), (21, .dat (.int .i64) x2833), (22, .dat (.int .i64) 0)], [some (.box [.dat (.int .i64) x2825, .dat (.int .i64) x2827])]⟩ : St) (impl_countPairs_impl_arc_n7 x2815 x2832 x2833 x2825 x2827) (fun (t : Int) => (Exit.normal, (⟨mkE 35 0 [(0, .dat (.list (.pair (.int .i64) (.pair (.int .i64) .unit))) x2716), (1, .fn 58 [] []), (5, .dat (.int .i64) t), (10, .dat (.list (.pair (.int .i64) (.pair (.int .i64) .unit))) x2716), (11, .dat (.int .i64) x2717), (12, .dat (.int .i64) x2816)], []⟩ : St))) := by
  unfold impl_countPairs_impl_arc_n7
  exact Link.cast (by kernel_rfl) (by kernel_rfl) (link_block (id := 2) (impl_countPairs_impl_arc_n6_l x2716 x2815 x2717 x2816 x2832 x2833 x2825 x2827) (fun (t : Int) => t) (by
  rintro t K h
  · exact Eq.mp (by kernel_rfl) h))

theorem impl_countPairs_impl_arc_n8_l (x2716 : List (Int × Int × Unit)) (x2815 : Int) (x2717 : Int) (x2816 : Int) : Link impl_countPairs_impl_arc_ctx LL (Code.fst (Code.fst (Code.snd (Code.snd (Code.fst (Code.fst (Code.snd (Code.fst (Code.snd (Code.snd (bodyOf Tryd.f56))))))))))) (Ann.fst (Ann.fst (Ann.snd (Ann.snd (Ann.fst (Ann.fst (Ann.snd (Ann.fst (Ann.snd (Ann.snd impl_countPairs_impl_arc_an)))))))))) (⟨mkE 35 0 [(0, .dat (.list (.pair (.int .i64) (.pair (.int .i64) .unit))) x2716), (1, .fn 58 [] []), (5, .dat (.int .i64) x2815), (10, .dat (.list (.pair (.int .i64) (.pair (.int .i64) .unit))) x2716), (11, .dat (.int .i64) x2717), (12, .dat (.int .i64) x2816)], []⟩ : St) (impl_countPairs_impl_arc_n8 x2716 x2815 x2816) (fun (t : Int) => (Exit.normal, (⟨mkE 35 0 [(0, .dat (.list (.pair (.int .i64) (.pair (.int .i64) .unit))) x2716), (1, .fn 58 [] []), (5, .dat (.int .i64) t), (10, .dat (.list (.pair (.int .i64) (.pair (.int .i64) .unit))) x2716), (11, .dat (.int .i64) x2717), (12, .dat (.int .i64) x2816)], []⟩ : St))) := by
  unfold impl_countPairs_impl_arc_n8
  exact Link.cast (by kernel_rfl) (by kernel_rfl) (link_group (c := (Code.fst (Code.snd (Code.fst (Code.fst (Code.snd (Code.snd (Code.fst (Code.fst (Code.snd (Code.fst (Code.snd (Code.snd (bodyOf Tryd.f56)))))))))))))) (a := (Ann.fst (Ann.snd (Ann.fst (Ann.fst (Ann.snd (Ann.snd (Ann.fst (Ann.fst (Ann.snd (Ann.fst (Ann.snd (Ann.snd impl_countPairs_impl_arc_an))))))))))))) [(Code.fst (Code.fst (Code.fst (Code.snd (Code.snd (Code.fst (Code.fst (Code.snd (Code.fst (Code.snd (Code.snd (bodyOf Tryd.f56))))))))))))] [(Ann.fst (Ann.fst (Ann.fst (Ann.snd (Ann.snd (Ann.fst (Ann.fst (Ann.snd (Ann.fst (Ann.snd (Ann.snd impl_countPairs_impl_arc_an)))))))))))] rfl (link_seq (b := (Code.snd (Code.snd (Code.fst (Code.fst (Code.snd (Code.snd (Code.fst (Code.fst (Code.snd (Code.fst (Code.snd (Code.snd (bodyOf Tryd.f56)))))))))))))) (y := (Ann.snd (Ann.snd (Ann.fst (Ann.fst (Ann.snd (Ann.snd (Ann.fst (Ann.fst (Ann.snd (Ann.fst (Ann.snd (Ann.snd impl_countPairs_impl_arc_an))))))))))))) (impl_countPairs_impl_arc_n4_l x2716 x2815 x2717 x2816) (fun (t : (List (Int × Int × Unit)) × Int × Int × Int) => (impl_countPairs_impl_arc_n7_l x2716 x2815 x2717 x2816 t.1 t.2.1 t.2.2.1 t.2.2.2))))

theorem impl_countPairs_impl_arc_n9_l (x2716 : List (Int × Int × Unit)) (x2815 : Int) (x2717 : Int) (x2816 : Int) : Link impl_countPairs_impl_arc_ctx LL (Code.fst (Code.snd (Code.snd (Code.fst (Code.fst (Code.snd (Code.fst (Code.snd (Code.snd (bodyOf Tryd.f56)))))))))) (Ann.fst (Ann.snd (Ann.snd (Ann.fst (Ann.fst (Ann.snd (Ann.fst (Ann.snd (Ann.snd impl_countPairs_impl_arc_an))))))))) (⟨mkE 35 0 [(0, .dat (.list (.pair (.int .i64) (.pair (.int .i64) .unit))) x2716), (1, .fn 58 [] []), (5, .dat (.int .i64) x2815), (10, .dat (.list (.pair (.int .i64) (.pair (.int .i64) .unit))) x2716), (11, .dat (.int .i64) x2717), (12, .dat (.int .i64) x2816)], []⟩ : St) (impl_countPairs_impl_arc_n9 x2716 x2815 x2816) (fun (t : Int) => (Exit.normal, (⟨mkE 35 0 [(0, .dat (.list (.pair (.int .i64) (.pair (.int .i64) .unit))) x2716), (1, .fn 58 [] []), (5, .dat (.int .i64) t), (10, .dat (.list (.pair (.int .i64) (.pair (.int .i64) .unit))) x2716), (11, .dat (.int .i64) x2717), (12, .dat (.int .i64) x2816)], []⟩ : St))) := by
  unfold impl_countPairs_impl_arc_n9
  exact Link.cast (by kernel_rfl) (by kernel_rfl) (link_block (id := 1) (impl_countPairs_impl_arc_n8_l x2716 x2815 x2717 x2816) (fun (t : Int) => t) (by
  rintro t K h
  · exact Eq.mp (by kernel_rfl) h))

theorem impl_countPairs_impl_arc_n10_l (x2716 : List (Int × Int × Unit)) (x2856 : Int) (x2717 : Int) (x2816 : Int) : Link impl_countPairs_impl_arc_ctx LL (Code.snd (Code.snd (Code.snd (Code.fst (Code.fst (Code.snd (Code.fst (Code.snd (Code.snd (bodyOf Tryd.f56)))))))))) (Ann.snd (Ann.snd (Ann.snd (Ann.fst (Ann.fst (Ann.snd (Ann.fst (Ann.snd (Ann.snd impl_countPairs_impl_arc_an))))))))) (⟨mkE 35 0 [(0, .dat (.list (.pair (.int .i64) (.pair (.int .i64) .unit))) x2716), (1, .fn 58 [] []), (5, .dat (.int .i64) x2856), (10, .dat (.list (.pair (.int .i64) (.pair (.int .i64) .unit))) x2716), (11, .dat (.int .i64) x2717), (12, .dat (.int .i64) x2816)], []⟩ : St) (impl_countPairs_impl_arc_n10 x2816) (fun (t : Int) => (Exit.normal, (⟨mkE 35 0 [(0, .dat (.list (.pair (.int .i64) (.pair (.int .i64) .unit))) x2716), (1, .fn 58 [] []), (5, .dat (.int .i64) x2856), (10, .dat (.list (.pair (.int .i64) (.pair (.int .i64) .unit))) x2716), (11, .dat (.int .i64) x2717), (12, .dat (.int .i64) t)], []⟩ : St))) := by
  refine Link.of fun K h => ?_
  simp only [impl_countPairs_impl_arc_n10, wpO_bind, wpO_cond, wpO_map, wpO_some] at h
  exact Awp.of (by kernel_rfl) h

theorem impl_countPairs_impl_arc_n11_l (x2716 : List (Int × Int × Unit)) (x2815 : Int) (x2717 : Int) (x2816 : Int) : Link impl_countPairs_impl_arc_ctx LL (Code.snd (Code.snd (Code.fst (Code.fst (Code.snd (Code.fst (Code.snd (Code.snd (bodyOf Tryd.f56))))))))) (Ann.snd (Ann.snd (Ann.fst (Ann.fst (Ann.snd (Ann.fst (Ann.snd (Ann.snd impl_countPairs_impl_arc_an)))))))) (⟨mkE 35 0 [(0, .dat (.list (.pair (.int .i64) (.pair (.int .i64) .unit))) x2716), (1, .fn 58 [] []), (5, .dat (.int .i64) x2815), (10, .dat (.list (.pair (.int .i64) (.pair (.int .i64) .unit))) x2716), (11, .dat (.int .i64) x2717), (12, .dat (.int .i64) x2816)], []⟩ : St) (impl_countPairs_impl_arc_n11 x2716 x2815 x2816) (fun (t : Int × Int) => (Exit.normal, (⟨mkE 35 0 [(0, .dat (.list (.pair (.int .i64) (.pair (.int .i64) .unit))) x2716), (1, .fn 58 [] []), (5, .dat (.int .i64) t.1), (10, .dat (.list (.pair (.int .i64) (.pair (.int .i64) .unit))) x2716), (11, .dat (.int .i64) x2717), (12, .dat (.int .i64) t.2)], []⟩ : St))) := by
  unfold impl_countPairs_impl_arc_n11
  exact Link.cast (by kernel_rfl) (by kernel_rfl) (link_seq (b := (Code.snd (Code.snd (Code.snd (Code.fst (Code.fst (Code.snd (Code.fst (Code.snd (Code.snd (bodyOf Tryd.f56))))))))))) (y := (Ann.snd (Ann.snd (Ann.snd (Ann.fst (Ann.fst (Ann.snd (Ann.fst (Ann.snd (Ann.snd impl_countPairs_impl_arc_an)))))))))) (impl_countPairs_impl_arc_n9_l x2716 x2815 x2717 x2816) (fun (t : Int) => (link_map (impl_countPairs_impl_arc_n10_l x2716 t x2717 x2816) (fun (u : Int) => (t, u)) (by
  rintro t
  · kernel_rfl))))

theorem impl_countPairs_impl_arc_n12_l (x2716 : List (Int × Int × Unit)) (x2815 : Int) (x2717 : Int) (x2816 : Int) : Link impl_countPairs_impl_arc_ctx LL (Code.fst (Code.fst (Code.snd (Code.fst (Code.snd (Code.snd (bodyOf Tryd.f56))))))) (Ann.fst (Ann.fst (Ann.snd (Ann.fst (Ann.snd (Ann.snd impl_countPairs_impl_arc_an)))))) (⟨mkE 35 0 [(0, .dat (.list (.pair (.int .i64) (.pair (.int .i64) .unit))) x2716), (1, .fn 58 [] []), (5, .dat (.int .i64) x2815), (10, .dat (.list (.pair (.int .i64) (.pair (.int .i64) .unit))) x2716), (11, .dat (.int .i64) x2717), (12, .dat (.int .i64) x2816)], []⟩ : St) (impl_countPairs_impl_arc_n12 x2716 x2815 x2717 x2816) (Sum.elim (fun (t : Int × Int) => (Exit.normal, (⟨mkE 35 0 [(0, .dat (.list (.pair (.int .i64) (.pair (.int .i64) .unit))) x2716), (1, .fn 58 [] []), (5, .dat (.int .i64) t.1), (10, .dat (.list (.pair (.int .i64) (.pair (.int .i64) .unit))) x2716), (11, .dat (.int .i64) x2717), (12, .dat (.int .i64) t.2)], []⟩ : St))) (fun (t : Int) => ((Exit.exit 0), (⟨mkE 35 0 [(5, .dat (.int .i64) t)], []⟩ : St)))) := by
  unfold impl_countPairs_impl_arc_n12
  exact Link.cast (by kernel_rfl) (by kernel_rfl) (link_group (c := (Code.fst (Code.snd (Code.fst (Code.fst (Code.snd (Code.fst (Code.snd (Code.snd (bodyOf Tryd.f56)))))))))) (a := (Ann.fst (Ann.snd (Ann.fst (Ann.fst (Ann.snd (Ann.fst (Ann.snd (Ann.snd impl_countPairs_impl_arc_an))))))))) [(Code.fst (Code.fst (Code.fst (Code.snd (Code.fst (Code.snd (Code.snd (bodyOf Tryd.f56))))))))] [(Ann.fst (Ann.fst (Ann.fst (Ann.snd (Ann.fst (Ann.snd (Ann.snd impl_countPairs_impl_arc_an)))))))] rfl (link_seq2 (b := (Code.snd (Code.snd (Code.fst (Code.fst (Code.snd (Code.fst (Code.snd (Code.snd (bodyOf Tryd.f56)))))))))) (y := (Ann.snd (Ann.snd (Ann.fst (Ann.fst (Ann.snd (Ann.fst (Ann.snd (Ann.snd impl_countPairs_impl_arc_an))))))))) (impl_countPairs_impl_arc_n3_l x2716 x2815 x2717 x2816) (fun (t : Unit) => (link_map (impl_countPairs_impl_arc_n11_l x2716 x2815 x2717 x2816) (fun (t : Int × Int) => (Sum.inl (t.1, t.2))) (by
  rintro t
  · kernel_rfl))) (fun (t : Int) => (Sum.inr t)) (by
  rintro t
  · kernel_rfl) (by
  rintro t f K h
  · exact h)))

theorem impl_countPairs_impl_arc_n13_l (x2716 : List (Int × Int × Unit)) (x2717 : Int) : Link impl_countPairs_impl_arc_ctx LL (Code.fst (Code.snd (Code.fst (Code.snd (Code.snd (bodyOf Tryd.f56)))))) (Ann.fst (Ann.snd (Ann.fst (Ann.snd (Ann.snd impl_countPairs_impl_arc_an))))) (⟨mkE 35 0 [(0, .dat (.list (.pair (.int .i64) (.pair (.int .i64) .unit))) x2716), (1, .fn 58 [] []), (5, .dat (.int .i64) 0), (10, .dat (.list (.pair (.int .i64) (.pair (.int .i64) .unit))) x2716), (11, .dat (.int .i64) x2717), (12, .dat (.int .i64) 0)], []⟩ : St) (impl_countPairs_impl_arc_n13 x2716 x2717) (fun (t : Int) => ((Exit.exit 0), (⟨mkE 35 0 [(5, .dat (.int .i64) t)], []⟩ : St))) := by
  unfold impl_countPairs_impl_arc_n13
  exact Link.cast (by kernel_rfl) (by kernel_rfl) (link_loop (mk := fun (s : Int × Int) => (⟨mkE 35 0 [(0, .dat (.list (.pair (.int .i64) (.pair (.int .i64) .unit))) x2716), (1, .fn 58 [] []), (5, .dat (.int .i64) s.1), (10, .dat (.list (.pair (.int .i64) (.pair (.int .i64) .unit))) x2716), (11, .dat (.int .i64) x2717), (12, .dat (.int .i64) s.2)], []⟩ : St)) (fin := (fun (t : Int) => ((Exit.exit 0), (⟨mkE 35 0 [(5, .dat (.int .i64) t)], []⟩ : St)))) (by
  rintro t f K h
  · exact h) (fun s => link_map (impl_countPairs_impl_arc_n12_l x2716 s.1 x2717 s.2) (Sum.elim (fun (t : Int × Int) => Sum.inl (t.1, t.2)) (fun (t : Int) => Sum.inr t)) (by
  rintro (t | t)
  · kernel_rfl
  · kernel_rfl)) (0, 0))

theorem impl_countPairs_impl_arc_n14_l (x2716 : List (Int × Int × Unit)) (x2717 : Int) : Link impl_countPairs_impl_arc_ctx LL (Code.snd (Code.fst (Code.snd (Code.snd (bodyOf Tryd.f56))))) (Ann.snd (Ann.fst (Ann.snd (Ann.snd impl_countPairs_impl_arc_an)))) (⟨mkE 35 0 [(0, .dat (.list (.pair (.int .i64) (.pair (.int .i64) .unit))) x2716), (1, .fn 58 [] []), (5, .dat (.int .i64) 0), (10, .dat (.list (.pair (.int .i64) (.pair (.int .i64) .unit))) x2716), (11, .dat (.int .i64) x2717), (12, .dat (.int .i64) 0)], []⟩ : St) (impl_countPairs_impl_arc_n14 x2716 x2717) (fun (t : Int) => (Exit.normal, (⟨mkE 35 0 [(5, .dat (.int .i64) t)], []⟩ : St))) := by
  unfold impl_countPairs_impl_arc_n14
  exact Link.cast (by kernel_rfl) (by kernel_rfl) (link_block (id := 0) (impl_countPairs_impl_arc_n13_l x2716 x2717) (fun (t : Int) => t) (by
  rintro t K h
  · exact Eq.mp (by kernel_rfl) h))

theorem impl_countPairs_impl_arc_n15_l (x2716 : List (Int × Int × Unit)) : Link impl_countPairs_impl_arc_ctx LL (Code.fst (Code.snd (Code.snd (bodyOf Tryd.f56)))) (Ann.fst (Ann.snd (Ann.snd impl_countPairs_impl_arc_an))) (⟨mkE 35 0 [(0, .dat (.list (.pair (.int .i64) (.pair (.int .i64) .unit))) x2716), (1, .fn 58 [] []), (5, .dat (.int .i64) 0)], []⟩ : St) (impl_countPairs_impl_arc_n15 x2716) (fun (t : Int) => (Exit.normal, (⟨mkE 35 0 [(5, .dat (.int .i64) t)], []⟩ : St))) := by
  unfold impl_countPairs_impl_arc_n15
  exact Link.cast (by kernel_rfl) (by kernel_rfl) (link_seq (b := (Code.snd (Code.fst (Code.snd (Code.snd (bodyOf Tryd.f56)))))) (y := (Ann.snd (Ann.fst (Ann.snd (Ann.snd impl_countPairs_impl_arc_an))))) (impl_countPairs_impl_arc_n2_l x2716) (fun (t : Int) => (impl_countPairs_impl_arc_n14_l x2716 t)))

theorem impl_countPairs_impl_arc_n16_l (x2815 : Int) : Link impl_countPairs_impl_arc_ctx LL (Code.snd (Code.snd (Code.snd (bodyOf Tryd.f56)))) (Ann.snd (Ann.snd (Ann.snd impl_countPairs_impl_arc_an))) (⟨mkE 35 0 [(5, .dat (.int .i64) x2815)], []⟩ : St) (impl_countPairs_impl_arc_n16 x2815) (fun (t : Int) => (Exit.ret, (⟨mkE 35 0 [(4, .dat (.int .i64) t)], []⟩ : St))) := by
  refine Link.of fun K h => ?_
  simp only [impl_countPairs_impl_arc_n16, wpO_bind, wpO_cond, wpO_map, wpO_some] at h
  exact Awp.of (by kernel_rfl) h

theorem impl_countPairs_impl_arc_n17_l (x2716 : List (Int × Int × Unit)) : Link impl_countPairs_impl_arc_ctx LL (Code.snd (Code.snd (bodyOf Tryd.f56))) (Ann.snd (Ann.snd impl_countPairs_impl_arc_an)) (⟨mkE 35 0 [(0, .dat (.list (.pair (.int .i64) (.pair (.int .i64) .unit))) x2716), (1, .fn 58 [] []), (5, .dat (.int .i64) 0)], []⟩ : St) (impl_countPairs_impl_arc_n17 x2716) (fun (t : Int) => (Exit.ret, (⟨mkE 35 0 [(4, .dat (.int .i64) t)], []⟩ : St))) := by
  unfold impl_countPairs_impl_arc_n17
  exact Link.cast (by kernel_rfl) (by kernel_rfl) (link_seq (b := (Code.snd (Code.snd (Code.snd (bodyOf Tryd.f56))))) (y := (Ann.snd (Ann.snd (Ann.snd impl_countPairs_impl_arc_an)))) (impl_countPairs_impl_arc_n15_l x2716) (fun (t : Int) => (impl_countPairs_impl_arc_n16_l t)))

theorem impl_countPairs_impl_arc_n18_l (x2716 : List (Int × Int × Unit)) : Link impl_countPairs_impl_arc_ctx LL (bodyOf Tryd.f56) impl_countPairs_impl_arc_an (⟨mkE 35 0 [(0, .dat (.list (.pair (.int .i64) (.pair (.int .i64) .unit))) x2716), (1, .fn 58 [] [])], []⟩ : St) (impl_countPairs_impl_arc_n18 x2716) (fun (t : Int) => (Exit.ret, (⟨mkE 35 0 [(4, .dat (.int .i64) t)], []⟩ : St))) := by
  unfold impl_countPairs_impl_arc_n18
  exact Link.cast (by kernel_rfl) (by kernel_rfl) (link_group (c := (Code.fst (Code.snd (bodyOf Tryd.f56)))) (a := (Ann.fst (Ann.snd impl_countPairs_impl_arc_an))) [(Code.fst (bodyOf Tryd.f56))] [(Ann.fst impl_countPairs_impl_arc_an)] rfl (link_seq (b := (Code.snd (Code.snd (bodyOf Tryd.f56)))) (y := (Ann.snd (Ann.snd impl_countPairs_impl_arc_an))) (impl_countPairs_impl_arc_n1_l x2716) (fun (t : Unit) => (impl_countPairs_impl_arc_n17_l x2716))))

theorem impl_countPairs_impl_arc_e (x2716 : List (Int × Int × Unit)) {r : AV} {H' : Heap} (h : (Ans.mk _ (impl_countPairs_impl_arc x2716) (fun (t : Int) => (.dat (.int .i64) t, []))).run = some (r, H')) : Awp impl_countPairs_impl_arc_ctx LL (bodyOf Tryd.f56) impl_countPairs_impl_arc_an (⟨mkE 35 0 [(0, .dat (.list (.pair (.int .i64) (.pair (.int .i64) .unit))) x2716), (1, .fn 58 [] [])], []⟩ : St) (Ret (tlook tys) Tryd.f56.results.toList r H') :=
  ret_of' (impl_countPairs_impl_arc_n18_l x2716) (by unfold impl_countPairs_impl_arc; kernel_rfl) (by
  intro t
  exact ret_mk [.dat (.int .i64) t] (by kernel_rfl) (by kernel_rfl) (by kernel_rfl) (by kernel_rfl)) h

def F_impl_countPairs_impl_arc : Fun := fun avs H =>
  match avs, H with
  | [.dat (.list (.pair (.int .i64) (.pair (.int .i64) .unit))) x2716, .fn 58 [] []], [] => ⟨_, impl_countPairs_impl_arc x2716, fun (t : Int) => (.dat (.int .i64) t, [])⟩
  | _, _ => Ans.no

theorem impl_countPairs_impl_arc_sound : Sound Tryd.prog 56 F_impl_countPairs_impl_arc := by
  refine fn_sound' (C := impl_countPairs_impl_arc_ctx) (c := bodyOf Tryd.f56) (cok_of tys_ok (List.forall_mem_cons.2 ⟨impl_arc_crosses_sound, by simp⟩) (List.forall_mem_cons.2 ⟨Tryd.call58, by simp⟩) (by kernel_rfl)) Tryd.func56 (by kernel_rfl) LL impl_countPairs_impl_arc_an ?_
  intro avs H r H' h
  unfold F_impl_countPairs_impl_arc at h
  split at h
  · refine Awp.cast ?_ ?_ ?_ (impl_countPairs_impl_arc_e _ h) <;> kernel_rfl
  · simp [Ans.no, Ans.run] at h


/-! loop.example/headtrees/impl.CrossingsOf -/

def impl_CrossingsOf_an : Ann := (.seq (.leaf [0]) (.seq (.seq (.leaf [0, 5]) (.cond (.seq (.leaf [2]) (.leaf [2])) (.leaf [0]))) (.seq (.leaf [2]) (.leaf [2]))))

noncomputable def impl_CrossingsOf_ctx : Ctx := ⟨tlook tys, olook [(22, F_impl_TreeOk), (57, F_impl_arcsOf), (56, F_impl_countPairs_impl_arc)], ioF, 0, false⟩

theorem impl_CrossingsOf_n1_l (x2619 : List Int) : Link impl_CrossingsOf_ctx LL (bodyOf Tryd.f24) impl_CrossingsOf_an (⟨mkE 9 0 [(0, .dat (.list (.int .i64)) x2619)], []⟩ : St) (impl_CrossingsOf_n1 x2619) (fun (t : Int) => (Exit.ret, (⟨mkE 9 0 [(2, .dat (.int .i64) t)], []⟩ : St))) := by
  refine Link.of fun K h => ?_
  simp only [impl_CrossingsOf_n1, wpO_bind, wpO_cond, wpO_map, wpO_some] at h
  exact Awp.of (by kernel_rfl) h

theorem impl_CrossingsOf_e (x2619 : List Int) {r : AV} {H' : Heap} (h : (Ans.mk _ (impl_CrossingsOf x2619) (fun (t : Int) => (.dat (.int .i64) t, []))).run = some (r, H')) : Awp impl_CrossingsOf_ctx LL (bodyOf Tryd.f24) impl_CrossingsOf_an (⟨mkE 9 0 [(0, .dat (.list (.int .i64)) x2619)], []⟩ : St) (Ret (tlook tys) Tryd.f24.results.toList r H') :=
  ret_of' (impl_CrossingsOf_n1_l x2619) (by unfold impl_CrossingsOf; kernel_rfl) (by
  intro t
  exact ret_mk [.dat (.int .i64) t] (by kernel_rfl) (by kernel_rfl) (by kernel_rfl) (by kernel_rfl)) h

def F_impl_CrossingsOf : Fun := fun avs H =>
  match avs, H with
  | [.dat (.list (.int .i64)) x2619], [] => ⟨_, impl_CrossingsOf x2619, fun (t : Int) => (.dat (.int .i64) t, [])⟩
  | _, _ => Ans.no

theorem impl_CrossingsOf_sound : Sound Tryd.prog 24 F_impl_CrossingsOf := by
  refine fn_sound' (C := impl_CrossingsOf_ctx) (c := bodyOf Tryd.f24) (cok_of tys_ok (List.forall_mem_cons.2 ⟨impl_TreeOk_sound, List.forall_mem_cons.2 ⟨impl_arcsOf_sound, List.forall_mem_cons.2 ⟨impl_countPairs_impl_arc_sound, by simp⟩⟩⟩) (List.forall_mem_cons.2 ⟨Tryd.call22, List.forall_mem_cons.2 ⟨Tryd.call57, List.forall_mem_cons.2 ⟨Tryd.call56, by simp⟩⟩⟩) (by kernel_rfl)) Tryd.func24 (by kernel_rfl) LL impl_CrossingsOf_an ?_
  intro avs H r H' h
  unfold F_impl_CrossingsOf at h
  split at h
  · refine Awp.cast ?_ ?_ ?_ (impl_CrossingsOf_e _ h) <;> kernel_rfl
  · simp [Ans.no, Ans.run] at h


/-! loop.example/headtrees/impl.CrossOk -/

def impl_CrossOk_an : Ann := (.seq (.leaf [0, 1, 2, 3]) (.seq (.leaf [2, 3, 9, 10]) (.seq (.leaf [9, 10, 11, 12]) (.seq (.leaf [8]) (.leaf [8])))))

noncomputable def impl_CrossOk_ctx : Ctx := ⟨tlook tys, olook [(78, F_impl_arcBetween), (58, F_impl_arc_crosses)], ioF, 0, false⟩

theorem impl_CrossOk_n1_l (x3365 : Int) (x3366 : Int) (x3367 : Int) (x3368 : Int) : Link impl_CrossOk_ctx LL (bodyOf Tryd.f84) impl_CrossOk_an (⟨mkE 34 0 [(0, .dat (.int .i64) x3365), (1, .dat (.int .i64) x3366), (2, .dat (.int .i64) x3367), (3, .dat (.int .i64) x3368)], []⟩ : St) (impl_CrossOk_n1 x3365 x3366 x3367 x3368) (fun (t : Bool) => (Exit.ret, (⟨mkE 34 0 [(8, .dat .bool t)], []⟩ : St))) := by
  refine Link.of fun K h => ?_
  simp only [impl_CrossOk_n1, wpO_bind, wpO_cond, wpO_map, wpO_some] at h
  exact Awp.of (by kernel_rfl) h

theorem impl_CrossOk_e (x3365 : Int) (x3366 : Int) (x3367 : Int) (x3368 : Int) {r : AV} {H' : Heap} (h : (Ans.mk _ (impl_CrossOk x3365 x3366 x3367 x3368) (fun (t : Bool) => (.dat .bool t, []))).run = some (r, H')) : Awp impl_CrossOk_ctx LL (bodyOf Tryd.f84) impl_CrossOk_an (⟨mkE 34 0 [(0, .dat (.int .i64) x3365), (1, .dat (.int .i64) x3366), (2, .dat (.int .i64) x3367), (3, .dat (.int .i64) x3368)], []⟩ : St) (Ret (tlook tys) Tryd.f84.results.toList r H') :=
  ret_of' (impl_CrossOk_n1_l x3365 x3366 x3367 x3368) (by unfold impl_CrossOk; kernel_rfl) (by
  intro t
  exact ret_mk [.dat .bool t] (by kernel_rfl) (by kernel_rfl) (by kernel_rfl) (by kernel_rfl)) h

def F_impl_CrossOk : Fun := fun avs H =>
  match avs, H with
  | [.dat (.int .i64) x3365, .dat (.int .i64) x3366, .dat (.int .i64) x3367, .dat (.int .i64) x3368], [] => ⟨_, impl_CrossOk x3365 x3366 x3367 x3368, fun (t : Bool) => (.dat .bool t, [])⟩
  | _, _ => Ans.no

theorem impl_CrossOk_sound : Sound Tryd.prog 84 F_impl_CrossOk := by
  refine fn_sound' (C := impl_CrossOk_ctx) (c := bodyOf Tryd.f84) (cok_of tys_ok (List.forall_mem_cons.2 ⟨impl_arcBetween_sound, List.forall_mem_cons.2 ⟨impl_arc_crosses_sound, by simp⟩⟩) (List.forall_mem_cons.2 ⟨Tryd.call78, List.forall_mem_cons.2 ⟨Tryd.call58, by simp⟩⟩) (by kernel_rfl)) Tryd.func84 (by kernel_rfl) LL impl_CrossOk_an ?_
  intro avs H r H' h
  unfold F_impl_CrossOk at h
  split at h
  · refine Awp.cast ?_ ?_ ?_ (impl_CrossOk_e _ _ _ _ h) <;> kernel_rfl
  · simp [Ans.no, Ans.run] at h


/-! loop.example/headtrees/impl.goByTurns$1$1 -/

def impl_goByTurns_1_1_an : Ann := (.seq (.leaf [0, 1, 2, 3]) (.seq (.leaf [6]) (.leaf [6])))

noncomputable def impl_goByTurns_1_1_ctx : Ctx := ⟨tlook tys, olook [(84, F_impl_CrossOk)], ioF, 2, false⟩

theorem impl_goByTurns_1_1_n1_l (x3361 : Int) (x3362 : Int) (x3363 : Int) (x3364 : Int) : Link impl_goByTurns_1_1_ctx LL (bodyOf Tryd.f83) impl_goByTurns_1_1_an (⟨mkE 12 0 [(0, .dat (.int .i64) x3361), (1, .dat (.int .i64) x3362), (2, .ptr 0 0), (3, .ptr 1 0)], [some (.box [.dat (.int .i64) x3363]), some (.box [.dat (.int .i64) x3364])]⟩ : St) (impl_goByTurns_1_1_n1 x3361 x3362 x3363 x3364) (fun (t : Bool) => (Exit.ret, (⟨mkE 12 0 [(6, .dat .bool t)], [some (.box [.dat (.int .i64) x3363]), some (.box [.dat (.int .i64) x3364])]⟩ : St))) := by
  refine Link.of fun K h => ?_
  simp only [impl_goByTurns_1_1_n1, wpO_bind, wpO_cond, wpO_map, wpO_some] at h
  exact Awp.of (by kernel_rfl) h

theorem impl_goByTurns_1_1_e (x3361 : Int) (x3362 : Int) (x3363 : Int) (x3364 : Int) {r : AV} {H' : Heap} (h : (Ans.mk _ (impl_goByTurns_1_1 x3361 x3362 x3363 x3364) (fun (t : Bool) => (.dat .bool t, [some (.box [.dat (.int .i64) x3363]), some (.box [.dat (.int .i64) x3364])]))).run = some (r, H')) : Awp impl_goByTurns_1_1_ctx LL (bodyOf Tryd.f83) impl_goByTurns_1_1_an (⟨mkE 12 0 [(0, .dat (.int .i64) x3361), (1, .dat (.int .i64) x3362), (2, .ptr 0 0), (3, .ptr 1 0)], [some (.box [.dat (.int .i64) x3363]), some (.box [.dat (.int .i64) x3364])]⟩ : St) (Ret (tlook tys) Tryd.f83.results.toList r H') :=
  ret_of' (impl_goByTurns_1_1_n1_l x3361 x3362 x3363 x3364) (by unfold impl_goByTurns_1_1; kernel_rfl) (by
  intro t
  exact ret_mk [.dat .bool t] (by kernel_rfl) (by kernel_rfl) (by kernel_rfl) (by kernel_rfl)) h

def F_impl_goByTurns_1_1 : Fun := fun avs H =>
  match avs, H with
  | [.dat (.int .i64) x3361, .dat (.int .i64) x3362, .ptr 0 0, .ptr 1 0], [some (.box [.dat (.int .i64) x3363]), some (.box [.dat (.int .i64) x3364])] => ⟨_, impl_goByTurns_1_1 x3361 x3362 x3363 x3364, fun (t : Bool) => (.dat .bool t, [some (.box [.dat (.int .i64) x3363]), some (.box [.dat (.int .i64) x3364])])⟩
  | _, _ => Ans.no

theorem impl_goByTurns_1_1_sound : Sound Tryd.prog 83 F_impl_goByTurns_1_1 := by
  refine fn_sound' (C := impl_goByTurns_1_1_ctx) (c := bodyOf Tryd.f83) (cok_of tys_ok (List.forall_mem_cons.2 ⟨impl_CrossOk_sound, by simp⟩) (List.forall_mem_cons.2 ⟨Tryd.call84, by simp⟩) (by kernel_rfl)) Tryd.func83 (by kernel_rfl) LL impl_goByTurns_1_1_an ?_
  intro avs H r H' h
  unfold F_impl_goByTurns_1_1 at h
  split at h
  · refine Awp.cast ?_ ?_ ?_ (impl_goByTurns_1_1_e _ _ _ _ h) <;> kernel_rfl
  · simp [Ans.no, Ans.run] at h


/-! loop.example/headtrees/impl.countPairs[int] (impl_countPairs_int_v2) -/

def impl_countPairs_int_v2_an : Ann := (.seq (.leaf [0, 1]) (.seq (.leaf [0, 1, 5]) (.seq (.seq (.leaf [0, 1, 5, 10, 11, 12]) (.block (.loop (.seq (.leaf [0, 1, 5, 10, 11, 12, 13]) (.seq (.cond (.leaf [0, 1, 5, 10, 11, 12]) (.leaf [5])) (.seq (.block (.seq (.leaf [0, 1, 5, 6, 7, 10, 11, 12]) (.seq (.leaf [0, 1, 5, 7, 10, 11, 12, 20, 21, 22]) (.block (.loop (.seq (.leaf [0, 1, 5, 7, 10, 11, 12, 20, 21, 22, 23]) (.seq (.cond (.leaf [0, 1, 5, 7, 10, 11, 12, 20, 21, 22]) (.leaf [0, 1, 5, 10, 11, 12])) (.seq (.block (.seq (.leaf [0, 1, 5, 7, 9, 10, 11, 12, 20, 21, 22]) (.seq (.leaf [0, 1, 5, 7, 10, 11, 12, 20, 21, 22, 29]) (.cond (.leaf [0, 1, 5, 7, 10, 11, 12, 20, 21, 22]) (.leaf [0, 1, 5, 7, 10, 11, 12, 20, 21, 22]))))) (.leaf [0, 1, 5, 7, 10, 11, 12, 20, 21, 22]))))))))) (.leaf [0, 1, 5, 10, 11, 12]))))))) (.seq (.leaf [4]) (.leaf [4])))))

noncomputable def impl_countPairs_int_v2_ctx : Ctx := ⟨tlook tys, olook [(83, F_impl_goByTurns_1_1)], ioF, 2, false⟩

theorem impl_countPairs_int_v2_n1_l (x3344 : List Int) (x3345 : Int) (x3346 : Int) : Link impl_countPairs_int_v2_ctx LL (Code.seq (Code.fst (bodyOf Tryd.f81)) (Code.fst (Code.snd (bodyOf Tryd.f81)))) (Ann.seq (Ann.fst impl_countPairs_int_v2_an) (Ann.fst (Ann.snd impl_countPairs_int_v2_an))) (⟨mkE 35 0 [(0, .dat (.list (.int .i64)) x3344), (1, .fn 83 [] [.ptr 0 0, .ptr 1 0])], [some (.box [.dat (.int .i64) x3345]), some (.box [.dat (.int .i64) x3346])]⟩ : St) (impl_countPairs_int_v2_n1) (fun (t : Unit) => (Exit.normal, (⟨mkE 35 0 [(0, .dat (.list (.int .i64)) x3344), (1, .fn 83 [] [.ptr 0 0, .ptr 1 0]), (5, .dat (.int .i64) 0)], [some (.box [.dat (.int .i64) x3345]), some (.box [.dat (.int .i64) x3346])]⟩ : St))) := by
  refine Link.of fun K h => ?_
  simp only [impl_countPairs_int_v2_n1, wpO_bind, wpO_cond, wpO_map, wpO_some] at h
  exact Awp.of (by kernel_rfl) h

theorem impl_countPairs_int_v2_n2_l (x3344 : List Int) (x3345 : Int) (x3346 : Int) : Link impl_countPairs_int_v2_ctx LL (Code.fst (Code.fst (Code.snd (Code.snd (bodyOf Tryd.f81))))) (Ann.fst (Ann.fst (Ann.snd (Ann.snd impl_countPairs_int_v2_an)))) (⟨mkE 35 0 [(0, .dat (.list (.int .i64)) x3344), (1, .fn 83 [] [.ptr 0 0, .ptr 1 0]), (5, .dat (.int .i64) 0)], [some (.box [.dat (.int .i64) x3345]), some (.box [.dat (.int .i64) x3346])]⟩ : St) (impl_countPairs_int_v2_n2 x3344) (fun (t : Int) => (Exit.normal, (⟨mkE 35 0 [(0, .dat (.list (.int .i64)) x3344), (1, .fn 83 [] [.ptr 0 0, .ptr 1 0]), (5, .dat (.int .i64) 0), (10, .dat (.list (.int .i64)) x3344), (11, .dat (.int .i64) t), (12, .dat (.int .i64) 0)], [some (.box [.dat (.int .i64) x3345]), some (.box [.dat (.int .i64) x3346])]⟩ : St))) := by
  refine Link.of fun K h => ?_
  simp only [impl_countPairs_int_v2_n2, wpO_bind, wpO_cond, wpO_map, wpO_some] at h
  exact Awp.of (by kernel_rfl) h

theorem impl_countPairs_int_v2_n3_l (x3344 : List Int) (x3429 : Int) (x3347 : Int) (x3430 : Int) (x3345 : Int) (x3346 : Int) : Link impl_countPairs_int_v2_ctx LL (Code.seq (Code.fst (Code.fst (Code.fst (Code.snd (Code.fst (Code.snd (Code.snd (bodyOf Tryd.f81)))))))) (Code.fst (Code.snd (Code.fst (Code.fst (Code.snd (Code.fst (Code.snd (Code.snd (bodyOf Tryd.f81)))))))))) (Ann.seq (Ann.fst (Ann.fst (Ann.fst (Ann.snd (Ann.fst (Ann.snd (Ann.snd impl_countPairs_int_v2_an))))))) (Ann.fst (Ann.snd (Ann.fst (Ann.fst (Ann.snd (Ann.fst (Ann.snd (Ann.snd impl_countPairs_int_v2_an))))))))) (⟨mkE 35 0 [(0, .dat (.list (.int .i64)) x3344), (1, .fn 83 [] [.ptr 0 0, .ptr 1 0]), (5, .dat (.int .i64) x3429), (10, .dat (.list (.int .i64)) x3344), (11, .dat (.int .i64) x3347), (12, .dat (.int .i64) x3430)], [some (.box [.dat (.int .i64) x3345]), some (.box [.dat (.int .i64) x3346])]⟩ : St) (impl_countPairs_int_v2_n3 x3429 x3347 x3430) (Sum.elim (fun (t : Unit) => (Exit.normal, (⟨mkE 35 0 [(0, .dat (.list (.int .i64)) x3344), (1, .fn 83 [] [.ptr 0 0, .ptr 1 0]), (5, .dat (.int .i64) x3429), (10, .dat (.list (.int .i64)) x3344), (11, .dat (.int .i64) x3347), (12, .dat (.int .i64) x3430)], [some (.box [.dat (.int .i64) x3345]), some (.box [.dat (.int .i64) x3346])]⟩ : St))) (fun (t : Int) => ((Exit.exit 0), (⟨mkE 35 0 [(5, .dat (.int .i64) t)], [some (.box [.dat (.int .i64) x3345]), some (.box [.dat (.int .i64) x3346])]⟩ : St)))) := by
  refine Link.of fun K h => ?_
  simp only [impl_countPairs_int_v2_n3, wpO_bind, wpO_cond, wpO_map, wpO_some] at h
  exact Awp.of (by kernel_rfl) h

theorem impl_countPairs_int_v2_n4_l (x3344 : List Int) (x3429 : Int) (x3347 : Int) (x3430 : Int) (x3345 : Int) (x3346 : Int) : Link impl_countPairs_int_v2_ctx LL (Code.seq (Code.fst (Code.fst (Code.fst (Code.snd (Code.snd (Code.fst (Code.fst (Code.snd (Code.fst (Code.snd (Code.snd (bodyOf Tryd.f81)))))))))))) (Code.fst (Code.snd (Code.fst (Code.fst (Code.snd (Code.snd (Code.fst (Code.fst (Code.snd (Code.fst (Code.snd (Code.snd (bodyOf Tryd.f81)))))))))))))) (Ann.seq (Ann.fst (Ann.fst (Ann.fst (Ann.snd (Ann.snd (Ann.fst (Ann.fst (Ann.snd (Ann.fst (Ann.snd (Ann.snd impl_countPairs_int_v2_an))))))))))) (Ann.fst (Ann.snd (Ann.fst (Ann.fst (Ann.snd (Ann.snd (Ann.fst (Ann.fst (Ann.snd (Ann.fst (Ann.snd (Ann.snd impl_countPairs_int_v2_an))))))))))))) (⟨mkE 35 0 [(0, .dat (.list (.int .i64)) x3344), (1, .fn 83 [] [.ptr 0 0, .ptr 1 0]), (5, .dat (.int .i64) x3429), (10, .dat (.list (.int .i64)) x3344), (11, .dat (.int .i64) x3347), (12, .dat (.int .i64) x3430)], [some (.box [.dat (.int .i64) x3345]), some (.box [.dat (.int .i64) x3346])]⟩ : St) (impl_countPairs_int_v2_n4 x3344 x3430) (fun (t : Int × (List Int) × Int) => (Exit.normal, (⟨mkE 35 0 [(0, .dat (.list (.int .i64)) x3344), (1, .fn 83 [] [.ptr 0 0, .ptr 1 0]), (5, .dat (.int .i64) x3429), (7, .dat (.int .i64) t.1), (10, .dat (.list (.int .i64)) x3344), (11, .dat (.int .i64) x3347), (12, .dat (.int .i64) x3430), (20, .dat (.list (.int .i64)) t.2.1), (21, .dat (.int .i64) t.2.2), (22, .dat (.int .i64) 0)], [some (.box [.dat (.int .i64) x3345]), some (.box [.dat (.int .i64) x3346])]⟩ : St))) := by
  refine Link.of fun K h => ?_
  simp only [impl_countPairs_int_v2_n4, wpO_bind, wpO_cond, wpO_map, wpO_some] at h
  exact Awp.of (by kernel_rfl) h

theorem impl_countPairs_int_v2_n5_l (x3344 : List Int) (x3454 : Int) (x3434 : Int) (x3347 : Int) (x3430 : Int) (x3438 : List Int) (x3439 : Int) (x3455 : Int) (x3345 : Int) (x3346 : Int) : Link impl_countPairs_int_v2_ctx LL (Code.fst (Code.fst (Code.snd (Code.snd (Code.fst (Code.fst (Code.snd (Code.snd (Code.fst (Code.fst (Code.snd (Code.fst (Code.snd (Code.snd (bodyOf Tryd.f81))))))))))))))) (Ann.fst (Ann.fst (Ann.snd (Ann.snd (Ann.fst (Ann.fst (Ann.snd (Ann.snd (Ann.fst (Ann.fst (Ann.snd (Ann.fst (Ann.snd (Ann.snd impl_countPairs_int_v2_an)))))))))))))) (⟨mkE 35 0 [(0, .dat (.list (.int .i64)) x3344), (1, .fn 83 [] [.ptr 0 0, .ptr 1 0]), (5, .dat (.int .i64) x3454), (7, .dat (.int .i64) x3434), (10, .dat (.list (.int .i64)) x3344), (11, .dat (.int .i64) x3347), (12, .dat (.int .i64) x3430), (20, .dat (.list (.int .i64)) x3438), (21, .dat (.int .i64) x3439), (22, .dat (.int .i64) x3455)], [some (.box [.dat (.int .i64) x3345]), some (.box [.dat (.int .i64) x3346])]⟩ : St) (impl_countPairs_int_v2_n5 x3454 x3434 x3438 x3439 x3455 x3345 x3346) (Sum.elim (fun (t : Int × Int) => (Exit.normal, (⟨mkE 35 0 [(0, .dat (.list (.int .i64)) x3344), (1, .fn 83 [] [.ptr 0 0, .ptr 1 0]), (5, .dat (.int .i64) t.1), (7, .dat (.int .i64) x3434), (10, .dat (.list (.int .i64)) x3344), (11, .dat (.int .i64) x3347), (12, .dat (.int .i64) x3430), (20, .dat (.list (.int .i64)) x3438), (21, .dat (.int .i64) x3439), (22, .dat (.int .i64) t.2)], [some (.box [.dat (.int .i64) x3345]), some (.box [.dat (.int .i64) x3346])]⟩ : St))) (fun (t : Int) => ((Exit.exit 2), (⟨mkE 35 0 [(0, .dat (.list (.int .i64)) x3344), (1, .fn 83 [] [.ptr 0 0, .ptr 1 0]), (5, .dat (.int .i64) t), (10, .dat (.list (.int .i64)) x3344), (11, .dat (.int .i64) x3347), (12, .dat (.int .i64) x3430)], [some (.box [.dat (.int .i64) x3345]), some (.box [.dat (.int .i64) x3346])]⟩ : St)))) := by
  refine Link.of fun K h => ?_
  simp only [impl_countPairs_int_v2_n5, wpO_bind, wpO_cond, wpO_map, wpO_some] at h
  exact Awp.of (by kernel_rfl) h

theorem impl_countPairs_int_v2_n6_l (x3344 : List Int) (x3429 : Int) (x3434 : Int) (x3347 : Int) (x3430 : Int) (x3438 : List Int) (x3439 : Int) (x3345 : Int) (x3346 : Int) : Link impl_countPairs_int_v2_ctx LL (Code.fst (Code.snd (Code.snd (Code.fst (Code.fst (Code.snd (Code.snd (Code.fst (Code.fst (Code.snd (Code.fst (Code.snd (Code.snd (bodyOf Tryd.f81)))))))))))))) (Ann.fst (Ann.snd (Ann.snd (Ann.fst (Ann.fst (Ann.snd (Ann.snd (Ann.fst (Ann.fst (Ann.snd (Ann.fst (Ann.snd (Ann.snd impl_countPairs_int_v2_an))))))))))))) (⟨mkE 35 0 [(0, .dat (.list (.int .i64)) x3344), (1, .fn 83 [] [.ptr 0 0, .ptr 1 0]), (5, .dat (.int .i64) x3429), (7, .dat (.int .i64) x3434), (10, .dat (.list (.int .i64)) x3344), (11, .dat (.int .i64) x3347), (12, .dat (.int .i64) x3430), (20, .dat (.list (.int .i64)) x3438), (21, .dat (.int .i64) x3439), (22, .dat (.int .i64) 0)], [some (.box [.dat (.int .i64) x3345]), some (.box [.dat (.int .i64) x3346])]⟩ : St) (impl_countPairs_int_v2_n6 x3429 x3434 x3438 x3439 x3345 x3346) (fun (t : Int) => ((Exit.exit 2), (⟨mkE 35 0 [(0, .dat (.list (.int .i64)) x3344), (1, .fn 83 [] [.ptr 0 0, .ptr 1 0]), (5, .dat (.int .i64) t), (10, .dat (.list (.int .i64)) x3344), (11, .dat (.int .i64) x3347), (12, .dat (.int .i64) x3430)], [some (.box [.dat (.int .i64) x3345]), some (.box [.dat (.int .i64) x3346])]⟩ : St))) := by
  unfold impl_countPairs_int_v2_n6
  exact Link.cast (by kernel_rfl) (by kernel_rfl) (link_loop (mk := fun (s : Int × Int) => (⟨mkE 35 0 [(0, .dat (.list (.int .i64)) x3344), (1, .fn 83 [] [.ptr 0 0, .ptr 1 0]), (5, .dat (.int .i64) s.1), (7, .dat (.int .i64) x3434), (10, .dat (.list (.int .i64)) x3344), (11, .dat (.int .i64) x3347), (12, .dat (.int .i64) x3430), (20, .dat (.list (.int .i64)) x3438), (21, .dat (.int .i64) x3439), (22, .dat (.int .i64) s.2)], [some (.box [.dat (.int .i64) x3345]), some (.box [.dat (.int .i64) x3346])]⟩ : St)) (fin := (fun (t : Int) => ((Exit.exit 2), (⟨mkE 35 0 [(0, .dat (.list (.int .i64)) x3344), (1, .fn 83 [] [.ptr 0 0, .ptr 1 0]), (5, .dat (.int .i64) t), (10, .dat (.list (.int .i64)) x3344), (11, .dat (.int .i64) x3347), (12, .dat (.int .i64) x3430)], [some (.box [.dat (.int .i64) x3345]), some (.box [.dat (.int .i64) x3346])]⟩ : St)))) (by
  rintro t f K h
  · exact h) (fun s => link_map (impl_countPairs_int_v2_n5_l x3344 s.1 x3434 x3347 x3430 x3438 x3439 s.2 x3345 x3346) (Sum.elim (fun (t : Int × Int) => Sum.inl (t.1, t.2)) (fun (t : Int) => Sum.inr t)) (by
  rintro (t | t)
  · kernel_rfl
  · kernel_rfl)) (x3429, 0))

theorem impl_countPairs_int_v2_n7_l (x3344 : List Int) (x3429 : Int) (x3434 : Int) (x3347 : Int) (x3430 : Int) (x3438 : List Int) (x3439 : Int) (x3345 : Int) (x3346 : Int) : Link impl_countPairs_int_v2_ctx LL (Code.snd (Code.snd (Code.fst (Code.fst (Code.snd (Code.snd (Code.fst (Code.fst (Code.snd (Code.fst (Code.snd (Code.snd (bodyOf Tryd.f81))))))))))))) (Ann.snd (Ann.snd (Ann.fst (Ann.fst (Ann.snd (Ann.snd (Ann.fst (Ann.fst (Ann.snd (Ann.fst (Ann.snd (Ann.snd impl_countPairs_int_v2_an)))))))))))) (⟨mkE 35 0 [(0, .dat (.list (.int .i64)) x3344), (1, .fn 83 [] [.ptr 0 0, .ptr 1 0]), (5, .dat (.int .i64) x3429), (7, .dat (.int .i64) x3434), (10, .dat (.list (.int .i64)) x3344), (11, .dat (.int .i64) x3347), (12, .dat (.int .i64) x3430), (20, .dat (.list (.int .i64)) x3438), (21, .dat (.int .i64) x3439), (22, .dat (.int .i64) 0)], [some (.box [.dat (.int .i64) x3345]), some (.box [.dat (.int .i64) x3346])]⟩ : St) (impl_countPairs_int_v2_n7 x3429 x3434 x3438 x3439 x3345 x3346) (fun (t : Int) => (Exit.normal, (⟨mkE 35 0 [(0, .dat (.list (.int .i64)) x3344), (1, .fn 83 [] [.ptr 0 0, .ptr 1 0]), (5, .dat (.int .i64) t), (10, .dat (.list (.int .i64)) x3344), (11, .dat (.int .i64) x3347), (12, .dat (.int .i64) x3430)], [some (.box [.dat (.int .i64) x3345]), some (.box [.dat (.int .i64) x3346])]⟩ : St))) := by
  unfold impl_countPairs_int_v2_n7
  exact Link.cast (by kernel_rfl) (by kernel_rfl) (link_block (id := 2) (impl_countPairs_int_v2_n6_l x3344 x3429 x3434 x3347 x3430 x3438 x3439 x3345 x3346) (fun (t : Int) => t) (by
  rintro t K h
  · exact Eq.mp (by kernel_rfl) h))

theorem impl_countPairs_int_v2_n8_l (x3344 : List Int) (x3429 : Int) (x3347 : Int) (x3430 : Int) (x3345 : Int) (x3346 : Int) : Link impl_countPairs_int_v2_ctx LL (Code.fst (Code.fst (Code.snd (Code.snd (Code.fst (Code.fst (Code.snd (Code.fst (Code.snd (Code.snd (bodyOf Tryd.f81))))))))))) (Ann.fst (Ann.fst (Ann.snd (Ann.snd (Ann.fst (Ann.fst (Ann.snd (Ann.fst (Ann.snd (Ann.snd impl_countPairs_int_v2_an)))))))))) (⟨mkE 35 0 [(0, .dat (.list (.int .i64)) x3344), (1, .fn 83 [] [.ptr 0 0, .ptr 1 0]), (5, .dat (.int .i64) x3429), (10, .dat (.list (.int .i64)) x3344), (11, .dat (.int .i64) x3347), (12, .dat (.int .i64) x3430)], [some (.box [.dat (.int .i64) x3345]), some (.box [.dat (.int .i64) x3346])]⟩ : St) (impl_countPairs_int_v2_n8 x3344 x3429 x3430 x3345 x3346) (fun (t : Int) => (Exit.normal, (⟨mkE 35 0 [(0, .dat (.list (.int .i64)) x3344), (1, .fn 83 [] [.ptr 0 0, .ptr 1 0]), (5, .dat (.int .i64) t), (10, .dat (.list (.int .i64)) x3344), (11, .dat (.int .i64) x3347), (12, .dat (.int .i64) x3430)], [some (.box [.dat (.int .i64) x3345]), some (.box [.dat (.int .i64) x3346])]⟩ : St))) := by
  unfold impl_countPairs_int_v2_n8
  exact Link.cast (by kernel_rfl) (by kernel_rfl) (link_group (c := (Code.fst (Code.snd (Code.fst (Code.fst (Code.snd (Code.snd (Code.fst (Code.fst (Code.snd (Code.fst (Code.snd (Code.snd (bodyOf Tryd.f81)))))))))))))) (a := (Ann.fst (Ann.snd (Ann.fst (Ann.fst (Ann.snd (Ann.snd (Ann.fst (Ann.fst (Ann.snd (Ann.fst (Ann.snd (Ann.snd impl_countPairs_int_v2_an))))))))))))) [(Code.fst (Code.fst (Code.fst (Code.snd (Code.snd (Code.fst (Code.fst (Code.snd (Code.fst (Code.snd (Code.snd (bodyOf Tryd.f81))))))))))))] [(Ann.fst (Ann.fst (Ann.fst (Ann.snd (Ann.snd (Ann.fst (Ann.fst (Ann.snd (Ann.fst (Ann.snd (Ann.snd impl_countPairs_int_v2_an)))))))))))] rfl (link_seq (b := (Code.snd (Code.snd (Code.fst (Code.fst (Code.snd (Code.snd (Code.fst (Code.fst (Code.snd (Code.fst (Code.snd (Code.snd (bodyOf Tryd.f81)))))))))))))) (y := (Ann.snd (Ann.snd (Ann.fst (Ann.fst (Ann.snd (Ann.snd (Ann.fst (Ann.fst (Ann.snd (Ann.fst (Ann.snd (Ann.snd impl_countPairs_int_v2_an))))))))))))) (impl_countPairs_int_v2_n4_l x3344 x3429 x3347 x3430 x3345 x3346) (fun (t : Int × (List Int) × Int) => (impl_countPairs_int_v2_n7_l x3344 x3429 t.1 x3347 x3430 t.2.1 t.2.2 x3345 x3346))))

theorem impl_countPairs_int_v2_n9_l (x3344 : List Int) (x3429 : Int) (x3347 : Int) (x3430 : Int) (x3345 : Int) (x3346 : Int) : Link impl_countPairs_int_v2_ctx LL (Code.fst (Code.snd (Code.snd (Code.fst (Code.fst (Code.snd (Code.fst (Code.snd (Code.snd (bodyOf Tryd.f81)))))))))) (Ann.fst (Ann.snd (Ann.snd (Ann.fst (Ann.fst (Ann.snd (Ann.fst (Ann.snd (Ann.snd impl_countPairs_int_v2_an))))))))) (⟨mkE 35 0 [(0, .dat (.list (.int .i64)) x3344), (1, .fn 83 [] [.ptr 0 0, .ptr 1 0]), (5, .dat (.int .i64) x3429), (10, .dat (.list (.int .i64)) x3344), (11, .dat (.int .i64) x3347), (12, .dat (.int .i64) x3430)], [some (.box [.dat (.int .i64) x3345]), some (.box [.dat (.int .i64) x3346])]⟩ : St) (impl_countPairs_int_v2_n9 x3344 x3429 x3430 x3345 x3346) (fun (t : Int) => (Exit.normal, (⟨mkE 35 0 [(0, .dat (.list (.int .i64)) x3344), (1, .fn 83 [] [.ptr 0 0, .ptr 1 0]), (5, .dat (.int .i64) t), (10, .dat (.list (.int .i64)) x3344), (11, .dat (.int .i64) x3347), (12, .dat (.int .i64) x3430)], [some (.box [.dat (.int .i64) x3345]), some (.box [.dat (.int .i64) x3346])]⟩ : St))) := by
  unfold impl_countPairs_int_v2_n9
  exact Link.cast (by kernel_rfl) (by kernel_rfl) (link_block (id := 1) (impl_countPairs_int_v2_n8_l x3344 x3429 x3347 x3430 x3345 x3346) (fun (t : Int) => t) (by
  rintro t K h
  · exact Eq.mp (by kernel_rfl) h))

theorem impl_countPairs_int_v2_n10_l (x3344 : List Int) (x3454 : Int) (x3347 : Int) (x3430 : Int) (x3345 : Int) (x3346 : Int) : Link impl_countPairs_int_v2_ctx LL (Code.snd (Code.snd (Code.snd (Code.fst (Code.fst (Code.snd (Code.fst (Code.snd (Code.snd (bodyOf Tryd.f81)))))))))) (Ann.snd (Ann.snd (Ann.snd (Ann.fst (Ann.fst (Ann.snd (Ann.fst (Ann.snd (Ann.snd impl_countPairs_int_v2_an))))))))) (⟨mkE 35 0 [(0, .dat (.list (.int .i64)) x3344), (1, .fn 83 [] [.ptr 0 0, .ptr 1 0]), (5, .dat (.int .i64) x3454), (10, .dat (.list (.int .i64)) x3344), (11, .dat (.int .i64) x3347), (12, .dat (.int .i64) x3430)], [some (.box [.dat (.int .i64) x3345]), some (.box [.dat (.int .i64) x3346])]⟩ : St) (impl_countPairs_int_v2_n10 x3430) (fun (t : Int) => (Exit.normal, (⟨mkE 35 0 [(0, .dat (.list (.int .i64)) x3344), (1, .fn 83 [] [.ptr 0 0, .ptr 1 0]), (5, .dat (.int .i64) x3454), (10, .dat (.list (.int .i64)) x3344), (11, .dat (.int .i64) x3347), (12, .dat (.int .i64) t)], [some (.box [.dat (.int .i64) x3345]), some (.box [.dat (.int .i64) x3346])]⟩ : St))) := by
  refine Link.of fun K h => ?_
  simp only [impl_countPairs_int_v2_n10, wpO_bind, wpO_cond, wpO_map, wpO_some] at h
  exact Awp.of (by kernel_rfl) h

theorem impl_countPairs_int_v2_n11_l (x3344 : List Int) (x3429 : Int) (x3347 : Int) (x3430 : Int) (x3345 : Int) (x3346 : Int) : Link impl_countPairs_int_v2_ctx LL (Code.snd (Code.snd (Code.fst (Code.fst (Code.snd (Code.fst (Code.snd (Code.snd (bodyOf Tryd.f81))))))))) (Ann.snd (Ann.snd (Ann.fst (Ann.fst (Ann.snd (Ann.fst (Ann.snd (Ann.snd impl_countPairs_int_v2_an)))))))) (⟨mkE 35 0 [(0, .dat (.list (.int .i64)) x3344), (1, .fn 83 [] [.ptr 0 0, .ptr 1 0]), (5, .dat (.int .i64) x3429), (10, .dat (.list (.int .i64)) x3344), (11, .dat (.int .i64) x3347), (12, .dat (.int .i64) x3430)], [some (.box [.dat (.int .i64) x3345]), some (.box [.dat (.int .i64) x3346])]⟩ : St) (impl_countPairs_int_v2_n11 x3344 x3429 x3430 x3345 x3346) (fun (t : Int × Int) => (Exit.normal, (⟨mkE 35 0 [(0, .dat (.list (.int .i64)) x3344), (1, .fn 83 [] [.ptr 0 0, .ptr 1 0]), (5, .dat (.int .i64) t.1), (10, .dat (.list (.int .i64)) x3344), (11, .dat (.int .i64) x3347), (12, .dat (.int .i64) t.2)], [some (.box [.dat (.int .i64) x3345]), some (.box [.dat (.int .i64) x3346])]⟩ : St))) := by
  unfold impl_countPairs_int_v2_n11
  exact Link.cast (by kernel_rfl) (by kernel_rfl) (link_seq (b := (Code.snd (Code.snd (Code.snd (Code.fst (Code.fst (Code.snd (Code.fst (Code.snd (Code.snd (bodyOf Tryd.f81))))))))))) (y := (Ann.snd (Ann.snd (Ann.snd (Ann.fst (Ann.fst (Ann.snd (Ann.fst (Ann.snd (Ann.snd impl_countPairs_int_v2_an)))))))))) (impl_countPairs_int_v2_n9_l x3344 x3429 x3347 x3430 x3345 x3346) (fun (t : Int) => (link_map (impl_countPairs_int_v2_n10_l x3344 t x3347 x3430 x3345 x3346) (fun (u : Int) => (t, u)) (by
  rintro t
  · kernel_rfl))))

theorem impl_countPairs_int_v2_n12_l (x3344 : List Int) (x3429 : Int) (x3347 : Int) (x3430 : Int) (x3345 : Int) (x3346 : Int) : Link impl_countPairs_int_v2_ctx LL (Code.fst (Code.fst (Code.snd (Code.fst (Code.snd (Code.snd (bodyOf Tryd.f81))))))) (Ann.fst (Ann.fst (Ann.snd (Ann.fst (Ann.snd (Ann.snd impl_countPairs_int_v2_an)))))) (⟨mkE 35 0 [(0, .dat (.list (.int .i64)) x3344), (1, .fn 83 [] [.ptr 0 0, .ptr 1 0]), (5, .dat (.int .i64) x3429), (10, .dat (.list (.int .i64)) x3344), (11, .dat (.int .i64) x3347), (12, .dat (.int .i64) x3430)], [some (.box [.dat (.int .i64) x3345]), some (.box [.dat (.int .i64) x3346])]⟩ : St) (impl_countPairs_int_v2_n12 x3344 x3429 x3347 x3430 x3345 x3346) (Sum.elim (fun (t : Int × Int) => (Exit.normal, (⟨mkE 35 0 [(0, .dat (.list (.int .i64)) x3344), (1, .fn 83 [] [.ptr 0 0, .ptr 1 0]), (5, .dat (.int .i64) t.1), (10, .dat (.list (.int .i64)) x3344), (11, .dat (.int .i64) x3347), (12, .dat (.int .i64) t.2)], [some (.box [.dat (.int .i64) x3345]), some (.box [.dat (.int .i64) x3346])]⟩ : St))) (fun (t : Int) => ((Exit.exit 0), (⟨mkE 35 0 [(5, .dat (.int .i64) t)], [some (.box [.dat (.int .i64) x3345]), some (.box [.dat (.int .i64) x3346])]⟩ : St)))) := by
  unfold impl_countPairs_int_v2_n12
  exact Link.cast (by kernel_rfl) (by kernel_rfl) (link_group (c := (Code.fst (Code.snd (Code.fst (Code.fst (Code.snd (Code.fst (Code.snd (Code.snd (bodyOf Tryd.f81)))))))))) (a := (Ann.fst (Ann.snd (Ann.fst (Ann.fst (Ann.snd (Ann.fst (Ann.snd (Ann.snd impl_countPairs_int_v2_an))))))))) [(Code.fst (Code.fst (Code.fst (Code.snd (Code.fst (Code.snd (Code.snd (bodyOf Tryd.f81))))))))] [(Ann.fst (Ann.fst (Ann.fst (Ann.snd (Ann.fst (Ann.snd (Ann.snd impl_countPairs_int_v2_an)))))))] rfl (link_seq2 (b := (Code.snd (Code.snd (Code.fst (Code.fst (Code.snd (Code.fst (Code.snd (Code.snd (bodyOf Tryd.f81)))))))))) (y := (Ann.snd (Ann.snd (Ann.fst (Ann.fst (Ann.snd (Ann.fst (Ann.snd (Ann.snd impl_countPairs_int_v2_an))))))))) (impl_countPairs_int_v2_n3_l x3344 x3429 x3347 x3430 x3345 x3346) (fun (t : Unit) => (link_map (impl_countPairs_int_v2_n11_l x3344 x3429 x3347 x3430 x3345 x3346) (fun (t : Int × Int) => (Sum.inl (t.1, t.2))) (by
  rintro t
  · kernel_rfl))) (fun (t : Int) => (Sum.inr t)) (by
  rintro t
  · kernel_rfl) (by
  rintro t f K h
  · exact h)))

theorem impl_countPairs_int_v2_n13_l (x3344 : List Int) (x3347 : Int) (x3345 : Int) (x3346 : Int) : Link impl_countPairs_int_v2_ctx LL (Code.fst (Code.snd (Code.fst (Code.snd (Code.snd (bodyOf Tryd.f81)))))) (Ann.fst (Ann.snd (Ann.fst (Ann.snd (Ann.snd impl_countPairs_int_v2_an))))) (⟨mkE 35 0 [(0, .dat (.list (.int .i64)) x3344), (1, .fn 83 [] [.ptr 0 0, .ptr 1 0]), (5, .dat (.int .i64) 0), (10, .dat (.list (.int .i64)) x3344), (11, .dat (.int .i64) x3347), (12, .dat (.int .i64) 0)], [some (.box [.dat (.int .i64) x3345]), some (.box [.dat (.int .i64) x3346])]⟩ : St) (impl_countPairs_int_v2_n13 x3344 x3347 x3345 x3346) (fun (t : Int) => ((Exit.exit 0), (⟨mkE 35 0 [(5, .dat (.int .i64) t)], [some (.box [.dat (.int .i64) x3345]), some (.box [.dat (.int .i64) x3346])]⟩ : St))) := by
  unfold impl_countPairs_int_v2_n13
  exact Link.cast (by kernel_rfl) (by kernel_rfl) (link_loop (mk := fun (s : Int × Int) => (⟨mkE 35 0 [(0, .dat (.list (.int .i64)) x3344), (1, .fn 83 [] [.ptr 0 0, .ptr 1 0]), (5, .dat (.int .i64) s.1), (10, .dat (.list (.int .i64)) x3344), (11, .dat (.int .i64) x3347), (12, .dat (.int .i64) s.2)], [some (.box [.dat (.int .i64) x3345]), some (.box [.dat (.int .i64) x3346])]⟩ : St)) (fin := (fun (t : Int) => ((Exit.exit 0), (⟨mkE 35 0 [(5, .dat (.int .i64) t)], [some (.box [.dat (.int .i64) x3345]), some (.box [.dat (.int .i64) x3346])]⟩ : St)))) (by
  rintro t f K h
  · exact h) (fun s => link_map (impl_countPairs_int_v2_n12_l x3344 s.1 x3347 s.2 x3345 x3346) (Sum.elim (fun (t : Int × Int) => Sum.inl (t.1, t.2)) (fun (t : Int) => Sum.inr t)) (by
  rintro (t | t)
  · kernel_rfl
  · kernel_rfl)) (0, 0))

theorem impl_countPairs_int_v2_n14_l (x3344 : List Int) (x3347 : Int) (x3345 : Int) (x3346 : Int) : Link impl_countPairs_int_v2_ctx LL (Code.snd (Code.fst (Code.snd (Code.snd (bodyOf Tryd.f81))))) (Ann.snd (Ann.fst (Ann.snd (Ann.snd impl_countPairs_int_v2_an)))) (⟨mkE 35 0 [(0, .dat (.list (.int .i64)) x3344), (1, .fn 83 [] [.ptr 0 0, .ptr 1 0]), (5, .dat (.int .i64) 0), (10, .dat (.list (.int .i64)) x3344), (11, .dat (.int .i64) x3347), (12, .dat (.int .i64) 0)], [some (.box [.dat (.int .i64) x3345]), some (.box [.dat (.int .i64) x3346])]⟩ : St) (impl_countPairs_int_v2_n14 x3344 x3347 x3345 x3346) (fun (t : Int) => (Exit.normal, (⟨mkE 35 0 [(5, .dat (.int .i64) t)], [some (.box [.dat (.int .i64) x3345]), some (.box [.dat (.int .i64) x3346])]⟩ : St))) := by
  unfold impl_countPairs_int_v2_n14
  exact Link.cast (by kernel_rfl) (by kernel_rfl) (link_block (id := 0) (impl_countPairs_int_v2_n13_l x3344 x3347 x3345 x3346) (fun (t : Int) => t) (by
  rintro t K h
  · exact Eq.mp (by kernel_rfl) h))

theorem impl_countPairs_int_v2_n15_l (x3344 : List Int) (x3345 : Int) (x3346 : Int) : Link impl_countPairs_int_v2_ctx LL (Code.fst (Code.snd (Code.snd (bodyOf Tryd.f81)))) (Ann.fst (Ann.snd (Ann.snd impl_countPairs_int_v2_an))) (⟨mkE 35 0 [(0, .dat (.list (.int .i64)) x3344), (1, .fn 83 [] [.ptr 0 0, .ptr 1 0]), (5, .dat (.int .i64) 0)], [some (.box [.dat (.int .i64) x3345]), some (.box [.dat (.int .i64) x3346])]⟩ : St) (impl_countPairs_int_v2_n15 x3344 x3345 x3346) (fun (t : Int) => (Exit.normal, (⟨mkE 35 0 [(5, .dat (.int .i64) t)], [some (.box [.dat (.int .i64) x3345]), some (.box [.dat (.int .i64) x3346])]⟩ : St))) := by
  unfold impl_countPairs_int_v2_n15
  exact Link.cast (by kernel_rfl) (by kernel_rfl) (link_seq (b := (Code.snd (Code.fst (Code.snd (Code.snd (bodyOf Tryd.f81)))))) (y := (Ann.snd (Ann.fst (Ann.snd (Ann.snd impl_countPairs_int_v2_an))))) (impl_countPairs_int_v2_n2_l x3344 x3345 x3346) (fun (t : Int) => (impl_countPairs_int_v2_n14_l x3344 t x3345 x3346)))

theorem impl_countPairs_int_v2_n16_l (x3429 : Int) (x3345 : Int) (x3346 : Int) : Link impl_countPairs_int_v2_ctx LL (Code.snd (Code.snd (Code.snd (bodyOf Tryd.f81)))) (Ann.snd (Ann.snd (Ann.snd impl_countPairs_int_v2_an))) (⟨mkE 35 0 [(5, .dat (.int .i64) x3429)], [some (.box [.dat (.int .i64) x3345]), some (.box [.dat (.int .i64) x3346])]⟩ : St) (impl_countPairs_int_v2_n16 x3429) (fun (t : Int) => (Exit.ret, (⟨mkE 35 0 [(4, .dat (.int .i64) t)], [some (.box [.dat (.int .i64) x3345]), some (.box [.dat (.int .i64) x3346])]⟩ : St))) := by
  refine Link.of fun K h => ?_
  simp only [impl_countPairs_int_v2_n16, wpO_bind, wpO_cond, wpO_map, wpO_some] at h
  exact Awp.of (by kernel_rfl) h

theorem impl_countPairs_int_v2_n17_l (x3344 : List Int) (x3345 : Int) (x3346 : Int) : Link impl_countPairs_int_v2_ctx LL (Code.snd (Code.snd (bodyOf Tryd.f81))) (Ann.snd (Ann.snd impl_countPairs_int_v2_an)) (⟨mkE 35 0 [(0, .dat (.list (.int .i64)) x3344), (1, .fn 83 [] [.ptr 0 0, .ptr 1 0]), (5, .dat (.int .i64) 0)], [some (.box [.dat (.int .i64) x3345]), some (.box [.dat (.int .i64) x3346])]⟩ : St) (impl_countPairs_int_v2_n17 x3344 x3345 x3346) (fun (t : Int) => (Exit.ret, (⟨mkE 35 0 [(4, .dat (.int .i64) t)], [some (.box [.dat (.int .i64) x3345]), some (.box [.dat (.int .i64) x3346])]⟩ : St))) := by
  unfold impl_countPairs_int_v2_n17
  exact Link.cast (by kernel_rfl) (by kernel_rfl) (link_seq (b := (Code.snd (Code.snd (Code.snd (bodyOf Tryd.f81))))) (y := (Ann.snd (Ann.snd (Ann.snd impl_countPairs_int_v2_an)))) (impl_countPairs_int_v2_n15_l x3344 x3345 x3346) (fun (t : Int) => (impl_countPairs_int_v2_n16_l t x3345 x3346)))

theorem impl_countPairs_int_v2_n18_l (x3344 : List Int) (x3345 : Int) (x3346 : Int) : Link impl_countPairs_int_v2_ctx LL (bodyOf Tryd.f81) impl_countPairs_int_v2_an (⟨mkE 35 0 [(0, .dat (.list (.int .i64)) x3344), (1, .fn 83 [] [.ptr 0 0, .ptr 1 0])], [some (.box [.dat (.int .i64) x3345]), some (.box [.dat (.int .i64) x3346])]⟩ : St) (impl_countPairs_int_v2_n18 x3344 x3345 x3346) (fun (t : Int) => (Exit.ret, (⟨mkE 35 0 [(4, .dat (.int .i64) t)], [some (.box [.dat (.int .i64) x3345]), some (.box [.dat (.int .i64) x3346])]⟩ : St))) := by
  unfold impl_countPairs_int_v2_n18
  exact Link.cast (by kernel_rfl) (by kernel_rfl) (link_group (c := (Code.fst (Code.snd (bodyOf Tryd.f81)))) (a := (Ann.fst (Ann.snd impl_countPairs_int_v2_an))) [(Code.fst (bodyOf Tryd.f81))] [(Ann.fst impl_countPairs_int_v2_an)] rfl (link_seq (b := (Code.snd (Code.snd (bodyOf Tryd.f81)))) (y := (Ann.snd (Ann.snd impl_countPairs_int_v2_an))) (impl_countPairs_int_v2_n1_l x3344 x3345 x3346) (fun (t : Unit) => (impl_countPairs_int_v2_n17_l x3344 x3345 x3346))))

theorem impl_countPairs_int_v2_e (x3344 : List Int) (x3345 : Int) (x3346 : Int) {r : AV} {H' : Heap} (h : (Ans.mk _ (impl_countPairs_int_v2 x3344 x3345 x3346) (fun (t : Int) => (.dat (.int .i64) t, [some (.box [.dat (.int .i64) x3345]), some (.box [.dat (.int .i64) x3346])]))).run = some (r, H')) : Awp impl_countPairs_int_v2_ctx LL (bodyOf Tryd.f81) impl_countPairs_int_v2_an (⟨mkE 35 0 [(0, .dat (.list (.int .i64)) x3344), (1, .fn 83 [] [.ptr 0 0, .ptr 1 0])], [some (.box [.dat (.int .i64) x3345]), some (.box [.dat (.int .i64) x3346])]⟩ : St) (Ret (tlook tys) Tryd.f81.results.toList r H') :=
  ret_of' (impl_countPairs_int_v2_n18_l x3344 x3345 x3346) (by unfold impl_countPairs_int_v2; kernel_rfl) (by
  intro t
  exact ret_mk [.dat (.int .i64) t] (by kernel_rfl) (by kernel_rfl) (by kernel_rfl) (by kernel_rfl)) h

def F_impl_countPairs_int_v2 : Fun := fun avs H =>
  match avs, H with
  | [.dat (.list (.int .i64)) x3344, .fn 83 [] [.ptr 0 0, .ptr 1 0]], [some (.box [.dat (.int .i64) x3345]), some (.box [.dat (.int .i64) x3346])] => ⟨_, impl_countPairs_int_v2 x3344 x3345 x3346, fun (t : Int) => (.dat (.int .i64) t, [some (.box [.dat (.int .i64) x3345]), some (.box [.dat (.int .i64) x3346])])⟩
  | _, _ => Ans.no

theorem impl_countPairs_int_v2_sound : Sound Tryd.prog 81 F_impl_countPairs_int_v2 := by
  refine fn_sound' (C := impl_countPairs_int_v2_ctx) (c := bodyOf Tryd.f81) (cok_of tys_ok (List.forall_mem_cons.2 ⟨impl_goByTurns_1_1_sound, by simp⟩) (List.forall_mem_cons.2 ⟨Tryd.call83, by simp⟩) (by kernel_rfl)) Tryd.func81 (by kernel_rfl) LL impl_countPairs_int_v2_an ?_
  intro avs H r H' h
  unfold F_impl_countPairs_int_v2 at h
  split at h
  · refine Awp.cast ?_ ?_ ?_ (impl_countPairs_int_v2_e _ _ _ h) <;> kernel_rfl
  · simp [Ans.no, Ans.run] at h


/-! loop.example/headtrees/impl.goByTurns$1 -/

def impl_goByTurns_1_an : Ann := (.seq (.leaf [2, 3, 4]) (.seq (.leaf [5]) (.leaf [5])))

noncomputable def impl_goByTurns_1_ctx : Ctx := ⟨tlook tys, olook [(81, F_impl_countPairs_int_v2)], ioF, 2, false⟩

theorem impl_goByTurns_1_n1_l (x3341 : Int) (x3342 : Int) (x3343 : List Int) : Link impl_goByTurns_1_ctx LL (bodyOf Tryd.f82) impl_goByTurns_1_an (⟨mkE 10 0 [(0, .dat (.int .i64) x3341), (1, .dat (.int .i64) x3342), (2, .ptr 0 0)], [some (.box [.slc 1]), some (.seq (.int .i64) x3343)]⟩ : St) (impl_goByTurns_1_n1 x3341 x3342 x3343) (fun (t : Bool) => (Exit.ret, (⟨mkE 10 0 [(5, .dat .bool t)], [some (.box [.slc 1]), some (.seq (.int .i64) x3343)]⟩ : St))) := by
  refine Link.of fun K h => ?_
  simp only [impl_goByTurns_1_n1, wpO_bind, wpO_cond, wpO_map, wpO_some] at h
  exact Awp.of (by kernel_rfl) h

theorem impl_goByTurns_1_e (x3341 : Int) (x3342 : Int) (x3343 : List Int) {r : AV} {H' : Heap} (h : (Ans.mk _ (impl_goByTurns_1 x3341 x3342 x3343) (fun (t : Bool) => (.dat .bool t, [some (.box [.slc 1]), some (.seq (.int .i64) x3343)]))).run = some (r, H')) : Awp impl_goByTurns_1_ctx LL (bodyOf Tryd.f82) impl_goByTurns_1_an (⟨mkE 10 0 [(0, .dat (.int .i64) x3341), (1, .dat (.int .i64) x3342), (2, .ptr 0 0)], [some (.box [.slc 1]), some (.seq (.int .i64) x3343)]⟩ : St) (Ret (tlook tys) Tryd.f82.results.toList r H') :=
  ret_of' (impl_goByTurns_1_n1_l x3341 x3342 x3343) (by unfold impl_goByTurns_1; kernel_rfl) (by
  intro t
  exact ret_mk [.dat .bool t] (by kernel_rfl) (by kernel_rfl) (by kernel_rfl) (by kernel_rfl)) h

def F_impl_goByTurns_1 : Fun := fun avs H =>
  match avs, H with
  | [.dat (.int .i64) x3341, .dat (.int .i64) x3342, .ptr 0 0], [some (.box [.slc 1]), some (.seq (.int .i64) x3343)] => ⟨_, impl_goByTurns_1 x3341 x3342 x3343, fun (t : Bool) => (.dat .bool t, [some (.box [.slc 1]), some (.seq (.int .i64) x3343)])⟩
  | _, _ => Ans.no

theorem impl_goByTurns_1_sound : Sound Tryd.prog 82 F_impl_goByTurns_1 := by
  refine fn_sound' (C := impl_goByTurns_1_ctx) (c := bodyOf Tryd.f82) (cok_of tys_ok (List.forall_mem_cons.2 ⟨impl_countPairs_int_v2_sound, by simp⟩) (List.forall_mem_cons.2 ⟨Tryd.call81, by simp⟩) (by kernel_rfl)) Tryd.func82 (by kernel_rfl) LL impl_goByTurns_1_an ?_
  intro avs H r H' h
  unfold F_impl_goByTurns_1 at h
  split at h
  · refine Awp.cast ?_ ?_ ?_ (impl_goByTurns_1_e _ _ _ h) <;> kernel_rfl
  · simp [Ans.no, Ans.run] at h


/-! loop.example/headtrees/impl.countPairs[int] -/

def impl_countPairs_int_an : Ann := (.seq (.leaf [0, 1]) (.seq (.leaf [0, 1, 5]) (.seq (.seq (.leaf [0, 1, 5, 10, 11, 12]) (.block (.loop (.seq (.leaf [0, 1, 5, 10, 11, 12, 13]) (.seq (.cond (.leaf [0, 1, 5, 10, 11, 12]) (.leaf [5])) (.seq (.block (.seq (.leaf [0, 1, 5, 6, 7, 10, 11, 12]) (.seq (.leaf [0, 1, 5, 7, 10, 11, 12, 20, 21, 22]) (.block (.loop (.seq (.leaf [0, 1, 5, 7, 10, 11, 12, 20, 21, 22, 23]) (.seq (.cond (.leaf [0, 1, 5, 7, 10, 11, 12, 20, 21, 22]) (.leaf [0, 1, 5, 10, 11, 12])) (.seq (.block (.seq (.leaf [0, 1, 5, 7, 9, 10, 11, 12, 20, 21, 22]) (.seq (.leaf [0, 1, 5, 7, 10, 11, 12, 20, 21, 22, 29]) (.cond (.leaf [0, 1, 5, 7, 10, 11, 12, 20, 21, 22]) (.leaf [0, 1, 5, 7, 10, 11, 12, 20, 21, 22]))))) (.leaf [0, 1, 5, 7, 10, 11, 12, 20, 21, 22]))))))))) (.leaf [0, 1, 5, 10, 11, 12]))))))) (.seq (.leaf [4]) (.leaf [4])))))

noncomputable def impl_countPairs_int_ctx : Ctx := ⟨tlook tys, olook [(82, F_impl_goByTurns_1)], ioF, 2, false⟩

theorem impl_countPairs_int_n1_l (x3325 : List Int) (x3326 : List Int) : Link impl_countPairs_int_ctx LL (Code.seq (Code.fst (bodyOf Tryd.f81)) (Code.fst (Code.snd (bodyOf Tryd.f81)))) (Ann.seq (Ann.fst impl_countPairs_int_an) (Ann.fst (Ann.snd impl_countPairs_int_an))) (⟨mkE 35 0 [(0, .dat (.list (.int .i64)) x3325), (1, .fn 82 [] [.ptr 0 0])], [some (.box [.slc 1]), some (.seq (.int .i64) x3326)]⟩ : St) (impl_countPairs_int_n1) (fun (t : Unit) => (Exit.normal, (⟨mkE 35 0 [(0, .dat (.list (.int .i64)) x3325), (1, .fn 82 [] [.ptr 0 0]), (5, .dat (.int .i64) 0)], [some (.box [.slc 1]), some (.seq (.int .i64) x3326)]⟩ : St))) := by
  refine Link.of fun K h => ?_
  simp only [impl_countPairs_int_n1, wpO_bind, wpO_cond, wpO_map, wpO_some] at h
  exact Awp.of (by kernel_rfl) h

theorem impl_countPairs_int_n2_l (x3325 : List Int) (x3326 : List Int) : Link impl_countPairs_int_ctx LL (Code.fst (Code.fst (Code.snd (Code.snd (bodyOf Tryd.f81))))) (Ann.fst (Ann.fst (Ann.snd (Ann.snd impl_countPairs_int_an)))) (⟨mkE 35 0 [(0, .dat (.list (.int .i64)) x3325), (1, .fn 82 [] [.ptr 0 0]), (5, .dat (.int .i64) 0)], [some (.box [.slc 1]), some (.seq (.int .i64) x3326)]⟩ : St) (impl_countPairs_int_n2 x3325) (fun (t : Int) => (Exit.normal, (⟨mkE 35 0 [(0, .dat (.list (.int .i64)) x3325), (1, .fn 82 [] [.ptr 0 0]), (5, .dat (.int .i64) 0), (10, .dat (.list (.int .i64)) x3325), (11, .dat (.int .i64) t), (12, .dat (.int .i64) 0)], [some (.box [.slc 1]), some (.seq (.int .i64) x3326)]⟩ : St))) := by
  refine Link.of fun K h => ?_
  simp only [impl_countPairs_int_n2, wpO_bind, wpO_cond, wpO_map, wpO_some] at h
  exact Awp.of (by kernel_rfl) h

theorem impl_countPairs_int_n3_l (x3325 : List Int) (x3502 : Int) (x3327 : Int) (x3503 : Int) (x3326 : List Int) : Link impl_countPairs_int_ctx LL (Code.seq (Code.fst (Code.fst (Code.fst (Code.snd (Code.fst (Code.snd (Code.snd (bodyOf Tryd.f81)))))))) (Code.fst (Code.snd (Code.fst (Code.fst (Code.snd (Code.fst (Code.snd (Code.snd (bodyOf Tryd.f81)))))))))) (Ann.seq (Ann.fst (Ann.fst (Ann.fst (Ann.snd (Ann.fst (Ann.snd (Ann.snd impl_countPairs_int_an))))))) (Ann.fst (Ann.snd (Ann.fst (Ann.fst (Ann.snd (Ann.fst (Ann.snd (Ann.snd impl_countPairs_int_an))))))))) (⟨mkE 35 0 [(0, .dat (.list (.int .i64)) x3325), (1, .fn 82 [] [.ptr 0 0]), (5, .dat (.int .i64) x3502), (10, .dat (.list (.int .i64)) x3325), (11, .dat (.int .i64) x3327), (12, .dat (.int .i64) x3503)], [some (.box [.slc 1]), some (.seq (.int .i64) x3326)]⟩ : St) (impl_countPairs_int_n3 x3502 x3327 x3503) (Sum.elim (fun (t : Unit) => (Exit.normal, (⟨mkE 35 0 [(0, .dat (.list (.int .i64)) x3325), (1, .fn 82 [] [.ptr 0 0]), (5, .dat (.int .i64) x3502), (10, .dat (.list (.int .i64)) x3325), (11, .dat (.int .i64) x3327), (12, .dat (.int .i64) x3503)], [some (.box [.slc 1]), some (.seq (.int .i64) x3326)]⟩ : St))) (fun (t : Int) => ((Exit.exit 0), (⟨mkE 35 0 [(5, .dat (.int .i64) t)], [some (.box [.slc 1]), some (.seq (.int .i64) x3326)]⟩ : St)))) := by
  refine Link.of fun K h => ?_
  simp only [impl_countPairs_int_n3, wpO_bind, wpO_cond, wpO_map, wpO_some] at h
  exact Awp.of (by kernel_rfl) h

theorem impl_countPairs_int_n4_l (x3325 : List Int) (x3502 : Int) (x3327 : Int) (x3503 : Int) (x3326 : List Int) : Link impl_countPairs_int_ctx LL (Code.seq (Code.fst (Code.fst (Code.fst (Code.snd (Code.snd (Code.fst (Code.fst (Code.snd (Code.fst (Code.snd (Code.snd (bodyOf Tryd.f81)))))))))))) (Code.fst (Code.snd (Code.fst (Code.fst (Code.snd (Code.snd (Code.fst (Code.fst (Code.snd (Code.fst (Code.snd (Code.snd (bodyOf Tryd.f81)))))))))))))) (Ann.seq (Ann.fst (Ann.fst (Ann.fst (Ann.snd (Ann.snd (Ann.fst (Ann.fst (Ann.snd (Ann.fst (Ann.snd (Ann.snd impl_countPairs_int_an))))))))))) (Ann.fst (Ann.snd (Ann.fst (Ann.fst (Ann.snd (Ann.snd (Ann.fst (Ann.fst (Ann.snd (Ann.fst (Ann.snd (Ann.snd impl_countPairs_int_an))))))))))))) (⟨mkE 35 0 [(0, .dat (.list (.int .i64)) x3325), (1, .fn 82 [] [.ptr 0 0]), (5, .dat (.int .i64) x3502), (10, .dat (.list (.int .i64)) x3325), (11, .dat (.int .i64) x3327), (12, .dat (.int .i64) x3503)], [some (.box [.slc 1]), some (.seq (.int .i64) x3326)]⟩ : St) (impl_countPairs_int_n4 x3325 x3503) (fun (t : Int × (List Int) × Int) => (Exit.normal, (⟨mkE 35 0 [(0, .dat (.list (.int .i64)) x3325), (1, .fn 82 [] [.ptr 0 0]), (5, .dat (.int .i64) x3502), (7, .dat (.int .i64) t.1), (10, .dat (.list (.int .i64)) x3325), (11, .dat (.int .i64) x3327), (12, .dat (.int .i64) x3503), (20, .dat (.list (.int .i64)) t.2.1), (21, .dat (.int .i64) t.2.2), (22, .dat (.int .i64) 0)], [some (.box [.slc 1]), some (.seq (.int .i64) x3326)]⟩ : St))) := by
  refine Link.of fun K h => ?_
  simp only [impl_countPairs_int_n4, wpO_bind, wpO_cond, wpO_map, wpO_some] at h
  exact Awp.of (by kernel_rfl) h

theorem impl_countPairs_int_n5_l (x3325 : List Int) (x3527 : Int) (x3507 : Int) (x3327 : Int) (x3503 : Int) (x3511 : List Int) (x3512 : Int) (x3528 : Int) (x3326 : List Int) : Link impl_countPairs_int_ctx LL (Code.fst (Code.fst (Code.snd (Code.snd (Code.fst (Code.fst (Code.snd (Code.snd (Code.fst (Code.fst (Code.snd (Code.fst (Code.snd (Code.snd (bodyOf Tryd.f81))))))))))))))) (Ann.fst (Ann.fst (Ann.snd (Ann.snd (Ann.fst (Ann.fst (Ann.snd (Ann.snd (Ann.fst (Ann.fst (Ann.snd (Ann.fst (Ann.snd (Ann.snd impl_countPairs_int_an)))))))))))))) (⟨mkE 35 0 [(0, .dat (.list (.int .i64)) x3325), (1, .fn 82 [] [.ptr 0 0]), (5, .dat (.int .i64) x3527), (7, .dat (.int .i64) x3507), (10, .dat (.list (.int .i64)) x3325), (11, .dat (.int .i64) x3327), (12, .dat (.int .i64) x3503), (20, .dat (.list (.int .i64)) x3511), (21, .dat (.int .i64) x3512), (22, .dat (.int .i64) x3528)], [some (.box [.slc 1]), some (.seq (.int .i64) x3326)]⟩ : St) (impl_countPairs_int_n5 x3527 x3507 x3511 x3512 x3528 x3326) (Sum.elim (fun (t : Int × Int) => (Exit.normal, (⟨mkE 35 0 [(0, .dat (.list (.int .i64)) x3325), (1, .fn 82 [] [.ptr 0 0]), (5, .dat (.int .i64) t.1), (7, .dat (.int .i64) x3507), (10, .dat (.list (.int .i64)) x3325), (11, .dat (.int .i64) x3327), (12, .dat (.int .i64) x3503), (20, .dat (.list (.int .i64)) x3511), (21, .dat (.int .i64) x3512), (22, .dat (.int .i64) t.2)], [some (.box [.slc 1]), some (.seq (.int .i64) x3326)]⟩ : St))) (fun (t : Int) => ((Exit.exit 2), (⟨mkE 35 0 [(0, .dat (.list (.int .i64)) x3325), (1, .fn 82 [] [.ptr 0 0]), (5, .dat (.int .i64) t), (10, .dat (.list (.int .i64)) x3325), (11, .dat (.int .i64) x3327), (12, .dat (.int .i64) x3503)], [some (.box [.slc 1]), some (.seq (.int .i64) x3326)]⟩ : St)))) := by
  refine Link.of fun K h => ?_
  simp only [impl_countPairs_int_n5, wpO_bind, wpO_cond, wpO_map, wpO_some] at h
  exact Awp.of (by kernel_rfl) h

theorem impl_countPairs_int_n6_l (x3325 : List Int) (x3502 : Int) (x3507 : Int) (x3327 : Int) (x3503 : Int) (x3511 : List Int) (x3512 : Int) (x3326 : List Int) : Link impl_countPairs_int_ctx LL (Code.fst (Code.snd (Code.snd (Code.fst (Code.fst (Code.snd (Code.snd (Code.fst (Code.fst (Code.snd (Code.fst (Code.snd (Code.snd (bodyOf Tryd.f81)))))))))))))) (Ann.fst (Ann.snd (Ann.snd (Ann.fst (Ann.fst (Ann.snd (Ann.snd (Ann.fst (Ann.fst (Ann.snd (Ann.fst (Ann.snd (Ann.snd impl_countPairs_int_an))))))))))))) (⟨mkE 35 0 [(0, .dat (.list (.int .i64)) x3325), (1, .fn 82 [] [.ptr 0 0]), (5, .dat (.int .i64) x3502), (7, .dat (.int .i64) x3507), (10, .dat (.list (.int .i64)) x3325), (11, .dat (.int .i64) x3327), (12, .dat (.int .i64) x3503), (20, .dat (.list (.int .i64)) x3511), (21, .dat (.int .i64) x3512), (22, .dat (.int .i64) 0)], [some (.box [.slc 1]), some (.seq (.int .i64) x3326)]⟩ : St) (impl_countPairs_int_n6 x3502 x3507 x3511 x3512 x3326) (fun (t : Int) => ((Exit.exit 2), (⟨mkE 35 0 [(0, .dat (.list (.int .i64)) x3325), (1, .fn 82 [] [.ptr 0 0]), (5, .dat (.int .i64) t), (10, .dat (.list (.int .i64)) x3325), (11, .dat (.int .i64) x3327), (12, .dat (.int .i64) x3503)], [some (.box [.slc 1]), some (.seq (.int .i64) x3326)]⟩ : St))) := by
  unfold impl_countPairs_int_n6
  exact Link.cast (by kernel_rfl) (by kernel_rfl) (link_loop (mk := fun (s : Int × Int) => (⟨mkE 35 0 [(0, .dat (.list (.int .i64)) x3325), (1, .fn 82 [] [.ptr 0 0]), (5, .dat (.int .i64) s.1), (7, .dat (.int .i64) x3507), (10, .dat (.list (.int .i64)) x3325), (11, .dat (.int .i64) x3327), (12, .dat (.int .i64) x3503), (20, .dat (.list (.int .i64)) x3511), (21, .dat (.int .i64) x3512), (22, .dat (.int .i64) s.2)], [some (.box [.slc 1]), some (.seq (.int .i64) x3326)]⟩ : St)) (fin := (fun (t : Int) => ((Exit.exit 2), (⟨mkE 35 0 [(0, .dat (.list (.int .i64)) x3325), (1, .fn 82 [] [.ptr 0 0]), (5, .dat (.int .i64) t), (10, .dat (.list (.int .i64)) x3325), (11, .dat (.int .i64) x3327), (12, .dat (.int .i64) x3503)], [some (.box [.slc 1]), some (.seq (.int .i64) x3326)]⟩ : St)))) (by
  rintro t f K h
  · exact h) (fun s => link_map (impl_countPairs_int_n5_l x3325 s.1 x3507 x3327 x3503 x3511 x3512 s.2 x3326) (Sum.elim (fun (t : Int × Int) => Sum.inl (t.1, t.2)) (fun (t : Int) => Sum.inr t)) (by
  rintro (t | t)
  · kernel_rfl
  · kernel_rfl)) (x3502, 0))

theorem impl_countPairs_int_n7_l (x3325 : List Int) (x3502 : Int) (x3507 : Int) (x3327 : Int) (x3503 : Int) (x3511 : List Int) (x3512 : Int) (x3326 : List Int) : Link impl_countPairs_int_ctx LL (Code.snd (Code.snd (Code.fst (Code.fst (Code.snd (Code.snd (Code.fst (Code.fst (Code.snd (Code.fst (Code.snd (Code.snd (bodyOf Tryd.f81))))))))))))) (Ann.snd (Ann.snd (Ann.fst (Ann.fst (Ann.snd (Ann.snd (Ann.fst (Ann.fst (Ann.snd (Ann.fst (Ann.snd (Ann.snd impl_countPairs_int_an)))))))))))) (⟨mkE 35 0 [(0, .dat (.list (.int .i64)) x3325), (1, .fn 82 [] [.ptr 0 0]), (5, .dat (.int .i64) x3502), (7, .dat (.int .i64) x3507), (10, .dat (.list (.int .i64)) x3325), (11, .dat (.int .i64) x3327), (12, .dat (.int .i64) x3503), (20, .dat (.list (.int .i64)) x3511), (21, .dat (.int .i64) x3512), (22, .dat (.int .i64) 0)], [some (.box [.slc 1]), some (.seq (.int .i64) x3326)]⟩ : St) (impl_countPairs_int_n7 x3502 x3507 x3511 x3512 x3326) (fun (t : Int) => (Exit.normal, (⟨mkE 35 0 [(0, .dat (.list (.int .i64)) x3325), (1, .fn 82 [] [.ptr 0 0]), (5, .dat (.int .i64) t), (10, .dat (.list (.int .i64)) x3325), (11, .dat (.int .i64) x3327), (12, .dat (.int .i64) x3503)], [some (.box [.slc 1]), some (.seq (.int .i64) x3326)]⟩ : St))) := by
  unfold impl_countPairs_int_n7
  exact Link.cast (by kernel_rfl) (by kernel_rfl) (link_block (id := 2) (impl_countPairs_int_n6_l x3325 x3502 x3507 x3327 x3503 x3511 x3512 x3326) (fun (t : Int) => t) (by
  rintro t K h
  · exact Eq.mp (by kernel_rfl) h))

theorem impl_countPairs_int_n8_l (x3325 : List Int) (x3502 : Int) (x3327 : Int) (x3503 : Int) (x3326 : List Int) : Link impl_countPairs_int_ctx LL (Code.fst (Code.fst (Code.snd (Code.snd (Code.fst (Code.fst (Code.snd (Code.fst (Code.snd (Code.snd (bodyOf Tryd.f81))))))))))) (Ann.fst (Ann.fst (Ann.snd (Ann.snd (Ann.fst (Ann.fst (Ann.snd (Ann.fst (Ann.snd (Ann.snd impl_countPairs_int_an)))))))))) (⟨mkE 35 0 [(0, .dat (.list (.int .i64)) x3325), (1, .fn 82 [] [.ptr 0 0]), (5, .dat (.int .i64) x3502), (10, .dat (.list (.int .i64)) x3325), (11, .dat (.int .i64) x3327), (12, .dat (.int .i64) x3503)], [some (.box [.slc 1]), some (.seq (.int .i64) x3326)]⟩ : St) (impl_countPairs_int_n8 x3325 x3502 x3503 x3326) (fun (t : Int) => (Exit.normal, (⟨mkE 35 0 [(0, .dat (.list (.int .i64)) x3325), (1, .fn 82 [] [.ptr 0 0]), (5, .dat (.int .i64) t), (10, .dat (.list (.int .i64)) x3325), (11, .dat (.int .i64) x3327), (12, .dat (.int .i64) x3503)], [some (.box [.slc 1]), some (.seq (.int .i64) x3326)]⟩ : St))) := by
  unfold impl_countPairs_int_n8
  exact Link.cast (by kernel_rfl) (by kernel_rfl) (link_group (c := (Code.fst (Code.snd (Code.fst (Code.fst (Code.snd (Code.snd (Code.fst (Code.fst (Code.snd (Code.fst (Code.snd (Code.snd (bodyOf Tryd.f81)))))))))))))) (a := (Ann.fst (Ann.snd (Ann.fst (Ann.fst (Ann.snd (Ann.snd (Ann.fst (Ann.fst (Ann.snd (Ann.fst (Ann.snd (Ann.snd impl_countPairs_int_an))))))))))))) [(Code.fst (Code.fst (Code.fst (Code.snd (Code.snd (Code.fst (Code.fst (Code.snd (Code.fst (Code.snd (Code.snd (bodyOf Tryd.f81))))))))))))] [(Ann.fst (Ann.fst (Ann.fst (Ann.snd (Ann.snd (Ann.fst (Ann.fst (Ann.snd (Ann.fst (Ann.snd (Ann.snd impl_countPairs_int_an)))))))))))] rfl (link_seq (b := (Code.snd (Code.snd (Code.fst (Code.fst (Code.snd (Code.snd (Code.fst (Code.fst (Code.snd (Code.fst (Code.snd (Code.snd (bodyOf Tryd.f81)))))))))))))) (y := (Ann.snd (Ann.snd (Ann.fst (Ann.fst (Ann.snd (Ann.snd (Ann.fst (Ann.fst (Ann.snd (Ann.fst (Ann.snd (Ann.snd impl_countPairs_int_an))))))))))))) (impl_countPairs_int_n4_l x3325 x3502 x3327 x3503 x3326) (fun (t : Int × (List Int) × Int) => (impl_countPairs_int_n7_l x3325 x3502 t.1 x3327 x3503 t.2.1 t.2.2 x3326))))

theorem impl_countPairs_int_n9_l (x3325 : List Int) (x3502 : Int) (x3327 : Int) (x3503 : Int) (x3326 : List Int) : Link impl_countPairs_int_ctx LL (Code.fst (Code.snd (Code.snd (Code.fst (Code.fst (Code.snd (Code.fst (Code.snd (Code.snd (bodyOf Tryd.f81)))))))))) (Ann.fst (Ann.snd (Ann.snd (Ann.fst (Ann.fst (Ann.snd (Ann.fst (Ann.snd (Ann.snd impl_countPairs_int_an))))))))) (⟨mkE 35 0 [(0, .dat (.list (.int .i64)) x3325), (1, .fn 82 [] [.ptr 0 0]), (5, .dat (.int .i64) x3502), (10, .dat (.list (.int .i64)) x3325), (11, .dat (.int .i64) x3327), (12, .dat (.int .i64) x3503)], [some (.box [.slc 1]), some (.seq (.int .i64) x3326)]⟩ : St) (impl_countPairs_int_n9 x3325 x3502 x3503 x3326) (fun (t : Int) => (Exit.normal, (⟨mkE 35 0 [(0, .dat (.list (.int .i64)) x3325), (1, .fn 82 [] [.ptr 0 0]), (5, .dat (.int .i64) t), (10, .dat (.list (.int .i64)) x3325), (11, .dat (.int .i64) x3327), (12, .dat (.int .i64) x3503)], [some (.box [.slc 1]), some (.seq (.int .i64) x3326)]⟩ : St))) := by
  unfold impl_countPairs_int_n9
  exact Link.cast (by kernel_rfl) (by kernel_rfl) (link_block (id := 1) (impl_countPairs_int_n8_l x3325 x3502 x3327 x3503 x3326) (fun (t : Int) => t) (by
  rintro t K h
  · exact Eq.mp (by kernel_rfl) h))

theorem impl_countPairs_int_n10_l (x3325 : List Int) (x3527 : Int) (x3327 : Int) (x3503 : Int) (x3326 : List Int) : Link impl_countPairs_int_ctx LL (Code.snd (Code.snd (Code.snd (Code.fst (Code.fst (Code.snd (Code.fst (Code.snd (Code.snd (bodyOf Tryd.f81)))))))))) (Ann.snd (Ann.snd (Ann.snd (Ann.fst (Ann.fst (Ann.snd (Ann.fst (Ann.snd (Ann.snd impl_countPairs_int_an))))))))) (⟨mkE 35 0 [(0, .dat (.list (.int .i64)) x3325), (1, .fn 82 [] [.ptr 0 0]), (5, .dat (.int .i64) x3527), (10, .dat (.list (.int .i64)) x3325), (11, .dat (.int .i64) x3327), (12, .dat (.int .i64) x3503)], [some (.box [.slc 1]), some (.seq (.int .i64) x3326)]⟩ : St) (impl_countPairs_int_n10 x3503) (fun (t : Int) => (Exit.normal, (⟨mkE 35 0 [(0, .dat (.list (.int .i64)) x3325), (1, .fn 82 [] [.ptr 0 0]), (5, .dat (.int .i64) x3527), (10, .dat (.list (.int .i64)) x3325), (11, .dat (.int .i64) x3327), (12, .dat (.int .i64) t)], [some (.box [.slc 1]), some (.seq (.int .i64) x3326)]⟩ : St))) := by
  refine Link.of fun K h => ?_
  simp only [impl_countPairs_int_n10, wpO_bind, wpO_cond, wpO_map, wpO_some] at h
  exact Awp.of (by kernel_rfl) h

theorem impl_countPairs_int_n11_l (x3325 : List Int) (x3502 : Int) (x3327 : Int) (x3503 : Int) (x3326 : List Int) : Link impl_countPairs_int_ctx LL (Code.snd (Code.snd (Code.fst (Code.fst (Code.snd (Code.fst (Code.snd (Code.snd (bodyOf Tryd.f81))))))))) (Ann.snd (Ann.snd (Ann.fst (Ann.fst (Ann.snd (Ann.fst (Ann.snd (Ann.snd impl_countPairs_int_an)))))))) (⟨mkE 35 0 [(0, .dat (.list (.int .i64)) x3325), (1, .fn 82 [] [.ptr 0 0]), (5, .dat (.int .i64) x3502), (10, .dat (.list (.int .i64)) x3325), (11, .dat (.int .i64) x3327), (12, .dat (.int .i64) x3503)], [some (.box [.slc 1]), some (.seq (.int .i64) x3326)]⟩ : St) (impl_countPairs_int_n11 x3325 x3502 x3503 x3326) (fun (t : Int × Int) => (Exit.normal, (⟨mkE 35 0 [(0, .dat (.list (.int .i64)) x3325), (1, .fn 82 [] [.ptr 0 0]), (5, .dat (.int .i64) t.1), (10, .dat (.list (.int .i64)) x3325), (11, .dat (.int .i64) x3327), (12, .dat (.int .i64) t.2)], [some (.box [.slc 1]), some (.seq (.int .i64) x3326)]⟩ : St))) := by
  unfold impl_countPairs_int_n11
  exact Link.cast (by kernel_rfl) (by kernel_rfl) (link_seq (b := (Code.snd (Code.snd (Code.snd (Code.fst (Code.fst (Code.snd (Code.fst (Code.snd (Code.snd (bodyOf Tryd.f81))))))))))) (y := (Ann.snd (Ann.snd (Ann.snd (Ann.fst (Ann.fst (Ann.snd (Ann.fst (Ann.snd (Ann.snd impl_countPairs_int_an)))))))))) (impl_countPairs_int_n9_l x3325 x3502 x3327 x3503 x3326) (fun (t : Int) => (link_map (impl_countPairs_int_n10_l x3325 t x3327 x3503 x3326) (fun (u : Int) => (t, u)) (by
  rintro t
  · kernel_rfl))))

theorem impl_countPairs_int_n12_l (x3325 : List Int) (x3502 : Int) (x3327 : Int) (x3503 : Int) (x3326 : List Int) : Link impl_countPairs_int_ctx LL (Code.fst (Code.fst (Code.snd (Code.fst (Code.snd (Code.snd (bodyOf Tryd.f81))))))) (Ann.fst (Ann.fst (Ann.snd (Ann.fst (Ann.snd (Ann.snd impl_countPairs_int_an)))))) (⟨mkE 35 0 [(0, .dat (.list (.int .i64)) x3325), (1, .fn 82 [] [.ptr 0 0]), (5, .dat (.int .i64) x3502), (10, .dat (.list (.int .i64)) x3325), (11, .dat (.int .i64) x3327), (12, .dat (.int .i64) x3503)], [some (.box [.slc 1]), some (.seq (.int .i64) x3326)]⟩ : St) (impl_countPairs_int_n12 x3325 x3502 x3327 x3503 x3326) (Sum.elim (fun (t : Int × Int) => (Exit.normal, (⟨mkE 35 0 [(0, .dat (.list (.int .i64)) x3325), (1, .fn 82 [] [.ptr 0 0]), (5, .dat (.int .i64) t.1), (10, .dat (.list (.int .i64)) x3325), (11, .dat (.int .i64) x3327), (12, .dat (.int .i64) t.2)], [some (.box [.slc 1]), some (.seq (.int .i64) x3326)]⟩ : St))) (fun (t : Int) => ((Exit.exit 0), (⟨mkE 35 0 [(5, .dat (.int .i64) t)], [some (.box [.slc 1]), some (.seq (.int .i64) x3326)]⟩ : St)))) := by
  unfold impl_countPairs_int_n12
  exact Link.cast (by kernel_rfl) (by kernel_rfl) (link_group (c := (Code.fst (Code.snd (Code.fst (Code.fst (Code.snd (Code.fst (Code.snd (Code.snd (bodyOf Tryd.f81)))))))))) (a := (Ann.fst (Ann.snd (Ann.fst (Ann.fst (Ann.snd (Ann.fst (Ann.snd (Ann.snd impl_countPairs_int_an))))))))) [(Code.fst (Code.fst (Code.fst (Code.snd (Code.fst (Code.snd (Code.snd (bodyOf Tryd.f81))))))))] [(Ann.fst (Ann.fst (Ann.fst (Ann.snd (Ann.fst (Ann.snd (Ann.snd impl_countPairs_int_an)))))))] rfl (link_seq2 (b := (Code.snd (Code.snd (Code.fst (Code.fst (Code.snd (Code.fst (Code.snd (Code.snd (bodyOf Tryd.f81)))))))))) (y := (Ann.snd (Ann.snd (Ann.fst (Ann.fst (Ann.snd (Ann.fst (Ann.snd (Ann.snd impl_countPairs_int_an))))))))) (impl_countPairs_int_n3_l x3325 x3502 x3327 x3503 x3326) (fun (t : Unit) => (link_map (impl_countPairs_int_n11_l x3325 x3502 x3327 x3503 x3326) (fun (t : Int × Int) => (Sum.inl (t.1, t.2))) (by
  rintro t
  · kernel_rfl))) (fun (t : Int) => (Sum.inr t)) (by
  rintro t
  · kernel_rfl) (by
  rintro t f K h
  · exact h)))

theorem impl_countPairs_int_n13_l (x3325 : List Int) (x3327 : Int) (x3326 : List Int) : Link impl_countPairs_int_ctx LL (Code.fst (Code.snd (Code.fst (Code.snd (Code.snd (bodyOf Tryd.f81)))))) (Ann.fst (Ann.snd (Ann.fst (Ann.snd (Ann.snd impl_countPairs_int_an))))) (⟨mkE 35 0 [(0, .dat (.list (.int .i64)) x3325), (1, .fn 82 [] [.ptr 0 0]), (5, .dat (.int .i64) 0), (10, .dat (.list (.int .i64)) x3325), (11, .dat (.int .i64) x3327), (12, .dat (.int .i64) 0)], [some (.box [.slc 1]), some (.seq (.int .i64) x3326)]⟩ : St) (impl_countPairs_int_n13 x3325 x3327 x3326) (fun (t : Int) => ((Exit.exit 0), (⟨mkE 35 0 [(5, .dat (.int .i64) t)], [some (.box [.slc 1]), some (.seq (.int .i64) x3326)]⟩ : St))) := by
  unfold impl_countPairs_int_n13
  exact Link.cast (by kernel_rfl) (by kernel_rfl) (link_loop (mk := fun (s : Int × Int) => (⟨mkE 35 0 [(0, .dat (.list (.int .i64)) x3325), (1, .fn 82 [] [.ptr 0 0]), (5, .dat (.int .i64) s.1), (10, .dat (.list (.int .i64)) x3325), (11, .dat (.int .i64) x3327), (12, .dat (.int .i64) s.2)], [some (.box [.slc 1]), some (.seq (.int .i64) x3326)]⟩ : St)) (fin := (fun (t : Int) => ((Exit.exit 0), (⟨mkE 35 0 [(5, .dat (.int .i64) t)], [some (.box [.slc 1]), some (.seq (.int .i64) x3326)]⟩ : St)))) (by
  rintro t f K h
  · exact h) (fun s => link_map (impl_countPairs_int_n12_l x3325 s.1 x3327 s.2 x3326) (Sum.elim (fun (t : Int × Int) => Sum.inl (t.1, t.2)) (fun (t : Int) => Sum.inr t)) (by
  rintro (t | t)
  · kernel_rfl
  · kernel_rfl)) (0, 0))

theorem impl_countPairs_int_n14_l (x3325 : List Int) (x3327 : Int) (x3326 : List Int) : Link impl_countPairs_int_ctx LL (Code.snd (Code.fst (Code.snd (Code.snd (bodyOf Tryd.f81))))) (Ann.snd (Ann.fst (Ann.snd (Ann.snd impl_countPairs_int_an)))) (⟨mkE 35 0 [(0, .dat (.list (.int .i64)) x3325), (1, .fn 82 [] [.ptr 0 0]), (5, .dat (.int .i64) 0), (10, .dat (.list (.int .i64)) x3325), (11, .dat (.int .i64) x3327), (12, .dat (.int .i64) 0)], [some (.box [.slc 1]), some (.seq (.int .i64) x3326)]⟩ : St) (impl_countPairs_int_n14 x3325 x3327 x3326) (fun (t : Int) => (Exit.normal, (⟨mkE 35 0 [(5, .dat (.int .i64) t)], [some (.box [.slc 1]), some (.seq (.int .i64) x3326)]⟩ : St))) := by
  unfold impl_countPairs_int_n14
  exact Link.cast (by kernel_rfl) (by kernel_rfl) (link_block (id := 0) (impl_countPairs_int_n13_l x3325 x3327 x3326) (fun (t : Int) => t) (by
  rintro t K h
  · exact Eq.mp (by kernel_rfl) h))

theorem impl_countPairs_int_n15_l (x3325 : List Int) (x3326 : List Int) : Link impl_countPairs_int_ctx LL (Code.fst (Code.snd (Code.snd (bodyOf Tryd.f81)))) (Ann.fst (Ann.snd (Ann.snd impl_countPairs_int_an))) (⟨mkE 35 0 [(0, .dat (.list (.int .i64)) x3325), (1, .fn 82 [] [.ptr 0 0]), (5, .dat (.int .i64) 0)], [some (.box [.slc 1]), some (.seq (.int .i64) x3326)]⟩ : St) (impl_countPairs_int_n15 x3325 x3326) (fun (t : Int) => (Exit.normal, (⟨mkE 35 0 [(5, .dat (.int .i64) t)], [some (.box [.slc 1]), some (.seq (.int .i64) x3326)]⟩ : St))) := by
  unfold impl_countPairs_int_n15
  exact Link.cast (by kernel_rfl) (by kernel_rfl) (link_seq (b := (Code.snd (Code.fst (Code.snd (Code.snd (bodyOf Tryd.f81)))))) (y := (Ann.snd (Ann.fst (Ann.snd (Ann.snd impl_countPairs_int_an))))) (impl_countPairs_int_n2_l x3325 x3326) (fun (t : Int) => (impl_countPairs_int_n14_l x3325 t x3326)))

theorem impl_countPairs_int_n16_l (x3502 : Int) (x3326 : List Int) : Link impl_countPairs_int_ctx LL (Code.snd (Code.snd (Code.snd (bodyOf Tryd.f81)))) (Ann.snd (Ann.snd (Ann.snd impl_countPairs_int_an))) (⟨mkE 35 0 [(5, .dat (.int .i64) x3502)], [some (.box [.slc 1]), some (.seq (.int .i64) x3326)]⟩ : St) (impl_countPairs_int_n16 x3502) (fun (t : Int) => (Exit.ret, (⟨mkE 35 0 [(4, .dat (.int .i64) t)], [some (.box [.slc 1]), some (.seq (.int .i64) x3326)]⟩ : St))) := by
  refine Link.of fun K h => ?_
  simp only [impl_countPairs_int_n16, wpO_bind, wpO_cond, wpO_map, wpO_some] at h
  exact Awp.of (by kernel_rfl) h

theorem impl_countPairs_int_n17_l (x3325 : List Int) (x3326 : List Int) : Link impl_countPairs_int_ctx LL (Code.snd (Code.snd (bodyOf Tryd.f81))) (Ann.snd (Ann.snd impl_countPairs_int_an)) (⟨mkE 35 0 [(0, .dat (.list (.int .i64)) x3325), (1, .fn 82 [] [.ptr 0 0]), (5, .dat (.int .i64) 0)], [some (.box [.slc 1]), some (.seq (.int .i64) x3326)]⟩ : St) (impl_countPairs_int_n17 x3325 x3326) (fun (t : Int) => (Exit.ret, (⟨mkE 35 0 [(4, .dat (.int .i64) t)], [some (.box [.slc 1]), some (.seq (.int .i64) x3326)]⟩ : St))) := by
  unfold impl_countPairs_int_n17
  exact Link.cast (by kernel_rfl) (by kernel_rfl) (link_seq (b := (Code.snd (Code.snd (Code.snd (bodyOf Tryd.f81))))) (y := (Ann.snd (Ann.snd (Ann.snd impl_countPairs_int_an)))) (impl_countPairs_int_n15_l x3325 x3326) (fun (t : Int) => (impl_countPairs_int_n16_l t x3326)))

theorem impl_countPairs_int_n18_l (x3325 : List Int) (x3326 : List Int) : Link impl_countPairs_int_ctx LL (bodyOf Tryd.f81) impl_countPairs_int_an (⟨mkE 35 0 [(0, .dat (.list (.int .i64)) x3325), (1, .fn 82 [] [.ptr 0 0])], [some (.box [.slc 1]), some (.seq (.int .i64) x3326)]⟩ : St) (impl_countPairs_int_n18 x3325 x3326) (fun (t : Int) => (Exit.ret, (⟨mkE 35 0 [(4, .dat (.int .i64) t)], [some (.box [.slc 1]), some (.seq (.int .i64) x3326)]⟩ : St))) := by
  unfold impl_countPairs_int_n18
  exact Link.cast (by kernel_rfl) (by kernel_rfl) (link_group (c := (Code.fst (Code.snd (bodyOf Tryd.f81)))) (a := (Ann.fst (Ann.snd impl_countPairs_int_an))) [(Code.fst (bodyOf Tryd.f81))] [(Ann.fst impl_countPairs_int_an)] rfl (link_seq (b := (Code.snd (Code.snd (bodyOf Tryd.f81)))) (y := (Ann.snd (Ann.snd impl_countPairs_int_an))) (impl_countPairs_int_n1_l x3325 x3326) (fun (t : Unit) => (impl_countPairs_int_n17_l x3325 x3326))))

theorem impl_countPairs_int_e (x3325 : List Int) (x3326 : List Int) {r : AV} {H' : Heap} (h : (Ans.mk _ (impl_countPairs_int x3325 x3326) (fun (t : Int) => (.dat (.int .i64) t, [some (.box [.slc 1]), some (.seq (.int .i64) x3326)]))).run = some (r, H')) : Awp impl_countPairs_int_ctx LL (bodyOf Tryd.f81) impl_countPairs_int_an (⟨mkE 35 0 [(0, .dat (.list (.int .i64)) x3325), (1, .fn 82 [] [.ptr 0 0])], [some (.box [.slc 1]), some (.seq (.int .i64) x3326)]⟩ : St) (Ret (tlook tys) Tryd.f81.results.toList r H') :=
  ret_of' (impl_countPairs_int_n18_l x3325 x3326) (by unfold impl_countPairs_int; kernel_rfl) (by
  intro t
  exact ret_mk [.dat (.int .i64) t] (by kernel_rfl) (by kernel_rfl) (by kernel_rfl) (by kernel_rfl)) h

def F_impl_countPairs_int : Fun := fun avs H =>
  match avs, H with
  | [.dat (.list (.int .i64)) x3325, .fn 82 [] [.ptr 0 0]], [some (.box [.slc 1]), some (.seq (.int .i64) x3326)] => ⟨_, impl_countPairs_int x3325 x3326, fun (t : Int) => (.dat (.int .i64) t, [some (.box [.slc 1]), some (.seq (.int .i64) x3326)])⟩
  | _, _ => Ans.no

theorem impl_countPairs_int_sound : Sound Tryd.prog 81 F_impl_countPairs_int := by
  refine fn_sound' (C := impl_countPairs_int_ctx) (c := bodyOf Tryd.f81) (cok_of tys_ok (List.forall_mem_cons.2 ⟨impl_goByTurns_1_sound, by simp⟩) (List.forall_mem_cons.2 ⟨Tryd.call82, by simp⟩) (by kernel_rfl)) Tryd.func81 (by kernel_rfl) LL impl_countPairs_int_an ?_
  intro avs H r H' h
  unfold F_impl_countPairs_int at h
  split at h
  · refine Awp.cast ?_ ?_ ?_ (impl_countPairs_int_e _ _ h) <;> kernel_rfl
  · simp [Ans.no, Ans.run] at h


/-! loop.example/headtrees/impl.goByTurns -/

def impl_goByTurns_an : Ann := (.seq (.leaf [0, 1]) (.seq (.seq (.leaf [0, 1, 10]) (.cond (.seq (.leaf [4]) (.leaf [4])) (.leaf [0, 1]))) (.seq (.leaf [0, 5]) (.seq (.leaf [6]) (.seq (.leaf [4]) (.leaf [4]))))))

noncomputable def impl_goByTurns_ctx : Ctx := ⟨tlook tys, olook [(49, F_impl_wordSet_list), (81, F_impl_countPairs_int)], ioF, 0, false⟩

theorem impl_goByTurns_n1_l (x3314 : Int) (x3315 : Int) : Link impl_goByTurns_ctx LL (bodyOf Tryd.f59) impl_goByTurns_an (⟨mkE 19 0 [(0, .dat (.int .u64) x3314), (1, .dat (.int .u64) x3315)], []⟩ : St) (impl_goByTurns_n1 x3314 x3315) (fun (t : Bool) => (Exit.ret, (⟨mkE 19 0 [(4, .dat .bool t)], []⟩ : St))) := by
  refine Link.of fun K h => ?_
  simp only [impl_goByTurns_n1, wpO_bind, wpO_cond, wpO_map, wpO_some] at h
  exact Awp.of (by kernel_rfl) h

theorem impl_goByTurns_e (x3314 : Int) (x3315 : Int) {r : AV} {H' : Heap} (h : (Ans.mk _ (impl_goByTurns x3314 x3315) (fun (t : Bool) => (.dat .bool t, []))).run = some (r, H')) : Awp impl_goByTurns_ctx LL (bodyOf Tryd.f59) impl_goByTurns_an (⟨mkE 19 0 [(0, .dat (.int .u64) x3314), (1, .dat (.int .u64) x3315)], []⟩ : St) (Ret (tlook tys) Tryd.f59.results.toList r H') :=
  ret_of' (impl_goByTurns_n1_l x3314 x3315) (by unfold impl_goByTurns; kernel_rfl) (by
  intro t
  exact ret_mk [.dat .bool t] (by kernel_rfl) (by kernel_rfl) (by kernel_rfl) (by kernel_rfl)) h

def F_impl_goByTurns : Fun := fun avs H =>
  match avs, H with
  | [.dat (.int .u64) x3314, .dat (.int .u64) x3315], [] => ⟨_, impl_goByTurns x3314 x3315, fun (t : Bool) => (.dat .bool t, [])⟩
  | _, _ => Ans.no

theorem impl_goByTurns_sound : Sound Tryd.prog 59 F_impl_goByTurns := by
  refine fn_sound' (C := impl_goByTurns_ctx) (c := bodyOf Tryd.f59) (cok_of tys_ok (List.forall_mem_cons.2 ⟨impl_wordSet_list_sound, List.forall_mem_cons.2 ⟨impl_countPairs_int_sound, by simp⟩⟩) (List.forall_mem_cons.2 ⟨Tryd.call49, List.forall_mem_cons.2 ⟨Tryd.call81, by simp⟩⟩) (by kernel_rfl)) Tryd.func59 (by kernel_rfl) LL impl_goByTurns_an ?_
  intro avs H r H' h
  unfold F_impl_goByTurns at h
  split at h
  · refine Awp.cast ?_ ?_ ?_ (impl_goByTurns_e _ _ h) <;> kernel_rfl
  · simp [Ans.no, Ans.run] at h


/-! loop.example/headtrees/spec.l5Turns -/

def spec_l5Turns_an : Ann := (.seq (.leaf [0, 1]) (.seq (.leaf [0, 1, 5]) (.seq (.leaf [0, 1, 5, 6]) (.seq (.seq (.leaf [0, 1, 5, 6, 7]) (.block (.loop (.seq (.seq (.leaf [0, 1, 5, 6, 7, 10]) (.cond (.leaf [0, 1, 5, 6, 7]) (.leaf [6]))) (.seq (.block (.seq (.draw [] [0, 1, 2, 3, 4, 5, 6, 7, 8, 9, 10] [] [0, 1, 5, 6, 7, 8]) (.seq (.leaf [0, 1, 5, 6, 7, 8, 29]) (.cond (.seq (.leaf [0, 1, 6, 7, 8]) (.leaf [0, 1, 5, 6, 7])) (.leaf [0, 1, 5, 6, 7]))))) (.leaf [0, 1, 5, 6, 7])))))) (.seq (.leaf [4]) (.leaf [4]))))))

noncomputable def spec_l5Turns_ctx : Ctx := ⟨tlook tys, olook [], ioF, 0, false⟩

theorem spec_l5Turns_n1_l (x3622 : Int) (x3623 : Int) : Link spec_l5Turns_ctx LL (Code.seq (Code.fst (bodyOf Tryd.f60)) (Code.seq (Code.fst (Code.snd (bodyOf Tryd.f60))) (Code.fst (Code.snd (Code.snd (bodyOf Tryd.f60)))))) (Ann.seq (Ann.fst spec_l5Turns_an) (Ann.seq (Ann.fst (Ann.snd spec_l5Turns_an)) (Ann.fst (Ann.snd (Ann.snd spec_l5Turns_an))))) (⟨mkE 35 0 [(0, .dat (.int .i64) x3622), (1, .dat (.int .i64) x3623)], []⟩ : St) (spec_l5Turns_n1) (fun (t : Unit) => (Exit.normal, (⟨mkE 35 0 [(0, .dat (.int .i64) x3622), (1, .dat (.int .i64) x3623), (5, .dat (.int .i64) 0), (6, .dat (.int .i64) 0)], []⟩ : St))) := by
  refine Link.of fun K h => ?_
  simp only [spec_l5Turns_n1, wpO_bind, wpO_cond, wpO_map, wpO_some] at h
  exact Awp.of (by kernel_rfl) h

theorem spec_l5Turns_n2_l (x3622 : Int) (x3623 : Int) : Link spec_l5Turns_ctx LL (Code.fst (Code.fst (Code.snd (Code.snd (Code.snd (bodyOf Tryd.f60)))))) (Ann.fst (Ann.fst (Ann.snd (Ann.snd (Ann.snd spec_l5Turns_an))))) (⟨mkE 35 0 [(0, .dat (.int .i64) x3622), (1, .dat (.int .i64) x3623), (5, .dat (.int .i64) 0), (6, .dat (.int .i64) 0)], []⟩ : St) (spec_l5Turns_n2) (fun (t : Unit) => (Exit.normal, (⟨mkE 35 0 [(0, .dat (.int .i64) x3622), (1, .dat (.int .i64) x3623), (5, .dat (.int .i64) 0), (6, .dat (.int .i64) 0), (7, .dat (.int .i64) 0)], []⟩ : St))) := by
  refine Link.of fun K h => ?_
  simp only [spec_l5Turns_n2, wpO_bind, wpO_cond, wpO_map, wpO_some] at h
  exact Awp.of (by kernel_rfl) h

theorem spec_l5Turns_n3_l (x3622 : Int) (x3623 : Int) (x3651 : Int) (x3652 : Int) (x3653 : Int) : Link spec_l5Turns_ctx LL (Code.fst (Code.fst (Code.snd (Code.fst (Code.snd (Code.snd (Code.snd (bodyOf Tryd.f60)))))))) (Ann.fst (Ann.fst (Ann.snd (Ann.fst (Ann.snd (Ann.snd (Ann.snd spec_l5Turns_an))))))) (⟨mkE 35 0 [(0, .dat (.int .i64) x3622), (1, .dat (.int .i64) x3623), (5, .dat (.int .i64) x3651), (6, .dat (.int .i64) x3652), (7, .dat (.int .i64) x3653)], []⟩ : St) (spec_l5Turns_n3 x3622 x3623 x3651 x3652 x3653) (Sum.elim (fun (t : Int × Int × Int) => (Exit.normal, (⟨mkE 35 0 [(0, .dat (.int .i64) x3622), (1, .dat (.int .i64) x3623), (5, .dat (.int .i64) t.1), (6, .dat (.int .i64) t.2.1), (7, .dat (.int .i64) t.2.2)], []⟩ : St))) (fun (t : Int) => ((Exit.exit 0), (⟨mkE 35 0 [(6, .dat (.int .i64) t)], []⟩ : St)))) := by
  refine Link.of fun K h => ?_
  simp only [spec_l5Turns_n3, wpO_bind, wpO_cond, wpO_map, wpO_some] at h
  exact Awp.of (by kernel_rfl) h

theorem spec_l5Turns_n4_l (x3622 : Int) (x3623 : Int) : Link spec_l5Turns_ctx LL (Code.fst (Code.snd (Code.fst (Code.snd (Code.snd (Code.snd (bodyOf Tryd.f60))))))) (Ann.fst (Ann.snd (Ann.fst (Ann.snd (Ann.snd (Ann.snd spec_l5Turns_an)))))) (⟨mkE 35 0 [(0, .dat (.int .i64) x3622), (1, .dat (.int .i64) x3623), (5, .dat (.int .i64) 0), (6, .dat (.int .i64) 0), (7, .dat (.int .i64) 0)], []⟩ : St) (spec_l5Turns_n4 x3622 x3623) (fun (t : Int) => ((Exit.exit 0), (⟨mkE 35 0 [(6, .dat (.int .i64) t)], []⟩ : St))) := by
  unfold spec_l5Turns_n4
  exact Link.cast (by kernel_rfl) (by kernel_rfl) (link_loop (mk := fun (s : Int × Int × Int) => (⟨mkE 35 0 [(0, .dat (.int .i64) x3622), (1, .dat (.int .i64) x3623), (5, .dat (.int .i64) s.1), (6, .dat (.int .i64) s.2.1), (7, .dat (.int .i64) s.2.2)], []⟩ : St)) (fin := (fun (t : Int) => ((Exit.exit 0), (⟨mkE 35 0 [(6, .dat (.int .i64) t)], []⟩ : St)))) (by
  rintro t f K h
  · exact h) (fun s => link_map (spec_l5Turns_n3_l x3622 x3623 s.1 s.2.1 s.2.2) (Sum.elim (fun (t : Int × Int × Int) => Sum.inl (t.1, t.2.1, t.2.2)) (fun (t : Int) => Sum.inr t)) (by
  rintro (t | t)
  · kernel_rfl
  · kernel_rfl)) (0, 0, 0))

theorem spec_l5Turns_n5_l (x3622 : Int) (x3623 : Int) : Link spec_l5Turns_ctx LL (Code.snd (Code.fst (Code.snd (Code.snd (Code.snd (bodyOf Tryd.f60)))))) (Ann.snd (Ann.fst (Ann.snd (Ann.snd (Ann.snd spec_l5Turns_an))))) (⟨mkE 35 0 [(0, .dat (.int .i64) x3622), (1, .dat (.int .i64) x3623), (5, .dat (.int .i64) 0), (6, .dat (.int .i64) 0), (7, .dat (.int .i64) 0)], []⟩ : St) (spec_l5Turns_n5 x3622 x3623) (fun (t : Int) => (Exit.normal, (⟨mkE 35 0 [(6, .dat (.int .i64) t)], []⟩ : St))) := by
  unfold spec_l5Turns_n5
  exact Link.cast (by kernel_rfl) (by kernel_rfl) (link_block (id := 0) (spec_l5Turns_n4_l x3622 x3623) (fun (t : Int) => t) (by
  rintro t K h
  · exact Eq.mp (by kernel_rfl) h))

theorem spec_l5Turns_n6_l (x3622 : Int) (x3623 : Int) : Link spec_l5Turns_ctx LL (Code.fst (Code.snd (Code.snd (Code.snd (bodyOf Tryd.f60))))) (Ann.fst (Ann.snd (Ann.snd (Ann.snd spec_l5Turns_an)))) (⟨mkE 35 0 [(0, .dat (.int .i64) x3622), (1, .dat (.int .i64) x3623), (5, .dat (.int .i64) 0), (6, .dat (.int .i64) 0)], []⟩ : St) (spec_l5Turns_n6 x3622 x3623) (fun (t : Int) => (Exit.normal, (⟨mkE 35 0 [(6, .dat (.int .i64) t)], []⟩ : St))) := by
  unfold spec_l5Turns_n6
  exact Link.cast (by kernel_rfl) (by kernel_rfl) (link_seq (b := (Code.snd (Code.fst (Code.snd (Code.snd (Code.snd (bodyOf Tryd.f60))))))) (y := (Ann.snd (Ann.fst (Ann.snd (Ann.snd (Ann.snd spec_l5Turns_an)))))) (spec_l5Turns_n2_l x3622 x3623) (fun (t : Unit) => (spec_l5Turns_n5_l x3622 x3623)))

theorem spec_l5Turns_n7_l (x3652 : Int) : Link spec_l5Turns_ctx LL (Code.snd (Code.snd (Code.snd (Code.snd (bodyOf Tryd.f60))))) (Ann.snd (Ann.snd (Ann.snd (Ann.snd spec_l5Turns_an)))) (⟨mkE 35 0 [(6, .dat (.int .i64) x3652)], []⟩ : St) (spec_l5Turns_n7 x3652) (fun (t : Bool) => (Exit.ret, (⟨mkE 35 0 [(4, .dat .bool t)], []⟩ : St))) := by
  refine Link.of fun K h => ?_
  simp only [spec_l5Turns_n7, wpO_bind, wpO_cond, wpO_map, wpO_some] at h
  exact Awp.of (by kernel_rfl) h

theorem spec_l5Turns_n8_l (x3622 : Int) (x3623 : Int) : Link spec_l5Turns_ctx LL (Code.snd (Code.snd (Code.snd (bodyOf Tryd.f60)))) (Ann.snd (Ann.snd (Ann.snd spec_l5Turns_an))) (⟨mkE 35 0 [(0, .dat (.int .i64) x3622), (1, .dat (.int .i64) x3623), (5, .dat (.int .i64) 0), (6, .dat (.int .i64) 0)], []⟩ : St) (spec_l5Turns_n8 x3622 x3623) (fun (t : Bool) => (Exit.ret, (⟨mkE 35 0 [(4, .dat .bool t)], []⟩ : St))) := by
  unfold spec_l5Turns_n8
  exact Link.cast (by kernel_rfl) (by kernel_rfl) (link_seq (b := (Code.snd (Code.snd (Code.snd (Code.snd (bodyOf Tryd.f60)))))) (y := (Ann.snd (Ann.snd (Ann.snd (Ann.snd spec_l5Turns_an))))) (spec_l5Turns_n6_l x3622 x3623) (fun (t : Int) => (spec_l5Turns_n7_l t)))

theorem spec_l5Turns_n9_l (x3622 : Int) (x3623 : Int) : Link spec_l5Turns_ctx LL (bodyOf Tryd.f60) spec_l5Turns_an (⟨mkE 35 0 [(0, .dat (.int .i64) x3622), (1, .dat (.int .i64) x3623)], []⟩ : St) (spec_l5Turns_n9 x3622 x3623) (fun (t : Bool) => (Exit.ret, (⟨mkE 35 0 [(4, .dat .bool t)], []⟩ : St))) := by
  unfold spec_l5Turns_n9
  exact Link.cast (by kernel_rfl) (by kernel_rfl) (link_group (c := (Code.fst (Code.snd (Code.snd (bodyOf Tryd.f60))))) (a := (Ann.fst (Ann.snd (Ann.snd spec_l5Turns_an)))) [(Code.fst (bodyOf Tryd.f60)), (Code.fst (Code.snd (bodyOf Tryd.f60)))] [(Ann.fst spec_l5Turns_an), (Ann.fst (Ann.snd spec_l5Turns_an))] rfl (link_seq (b := (Code.snd (Code.snd (Code.snd (bodyOf Tryd.f60))))) (y := (Ann.snd (Ann.snd (Ann.snd spec_l5Turns_an)))) (spec_l5Turns_n1_l x3622 x3623) (fun (t : Unit) => (spec_l5Turns_n8_l x3622 x3623))))

theorem spec_l5Turns_e (x3622 : Int) (x3623 : Int) {r : AV} {H' : Heap} (h : (Ans.mk _ (spec_l5Turns x3622 x3623) (fun (t : Bool) => (.dat .bool t, []))).run = some (r, H')) : Awp spec_l5Turns_ctx LL (bodyOf Tryd.f60) spec_l5Turns_an (⟨mkE 35 0 [(0, .dat (.int .i64) x3622), (1, .dat (.int .i64) x3623)], []⟩ : St) (Ret (tlook tys) Tryd.f60.results.toList r H') :=
  ret_of' (spec_l5Turns_n9_l x3622 x3623) (by unfold spec_l5Turns; kernel_rfl) (by
  intro t
  exact ret_mk [.dat .bool t] (by kernel_rfl) (by kernel_rfl) (by kernel_rfl) (by kernel_rfl)) h

def F_spec_l5Turns : Fun := fun avs H =>
  match avs, H with
  | [.dat (.int .i64) x3622, .dat (.int .i64) x3623], [] => ⟨_, spec_l5Turns x3622 x3623, fun (t : Bool) => (.dat .bool t, [])⟩
  | _, _ => Ans.no

theorem spec_l5Turns_sound : Sound Tryd.prog 60 F_spec_l5Turns := by
  refine fn_sound' (C := spec_l5Turns_ctx) (c := bodyOf Tryd.f60) (cok_of tys_ok (by simp) (by simp) (by kernel_rfl)) Tryd.func60 (by kernel_rfl) LL spec_l5Turns_an ?_
  intro avs H r H' h
  unfold F_spec_l5Turns at h
  split at h
  · refine Awp.cast ?_ ?_ ?_ (spec_l5Turns_e _ _ h) <;> kernel_rfl
  · simp [Ans.no, Ans.run] at h


/-! loop.example/headtrees/spec.TurnsOk -/

def spec_TurnsOk_an : Ann := (.seq (.leaf [0, 1, 2]) (.seq (.seq (.leaf [0, 1, 2, 25]) (.cond (.seq (.leaf [6]) (.leaf [6])) (.leaf [0, 1, 2]))) (.seq (.leaf [0, 2, 7]) (.seq (.leaf [7, 8]) (.seq (.leaf [6]) (.leaf [6]))))))

noncomputable def spec_TurnsOk_ctx : Ctx := ⟨tlook tys, olook [(32, F_spec_TreeOk), (45, F_spec_l1In), (47, F_spec_l2Yield), (60, F_spec_l5Turns)], ioF, 0, false⟩

theorem spec_TurnsOk_n1_l (x3580 : List Int) (x3581 : Int) (x3582 : Int) : Link spec_TurnsOk_ctx LL (bodyOf Tryd.f27) spec_TurnsOk_an (⟨mkE 41 0 [(0, .dat (.list (.int .i64)) x3580), (1, .dat (.int .i64) x3581), (2, .dat (.int .i64) x3582)], []⟩ : St) (spec_TurnsOk_n1 x3580 x3581 x3582) (fun (t : Bool) => (Exit.ret, (⟨mkE 41 0 [(6, .dat .bool t)], []⟩ : St))) := by
  refine Link.of fun K h => ?_
  simp only [spec_TurnsOk_n1, wpO_bind, wpO_cond, wpO_map, wpO_some] at h
  exact Awp.of (by kernel_rfl) h

theorem spec_TurnsOk_e (x3580 : List Int) (x3581 : Int) (x3582 : Int) {r : AV} {H' : Heap} (h : (Ans.mk _ (spec_TurnsOk x3580 x3581 x3582) (fun (t : Bool) => (.dat .bool t, []))).run = some (r, H')) : Awp spec_TurnsOk_ctx LL (bodyOf Tryd.f27) spec_TurnsOk_an (⟨mkE 41 0 [(0, .dat (.list (.int .i64)) x3580), (1, .dat (.int .i64) x3581), (2, .dat (.int .i64) x3582)], []⟩ : St) (Ret (tlook tys) Tryd.f27.results.toList r H') :=
  ret_of' (spec_TurnsOk_n1_l x3580 x3581 x3582) (by unfold spec_TurnsOk; kernel_rfl) (by
  intro t
  exact ret_mk [.dat .bool t] (by kernel_rfl) (by kernel_rfl) (by kernel_rfl) (by kernel_rfl)) h

def F_spec_TurnsOk : Fun := fun avs H =>
  match avs, H with
  | [.dat (.list (.int .i64)) x3580, .dat (.int .i64) x3581, .dat (.int .i64) x3582], [] => ⟨_, spec_TurnsOk x3580 x3581 x3582, fun (t : Bool) => (.dat .bool t, [])⟩
  | _, _ => Ans.no

theorem spec_TurnsOk_sound : Sound Tryd.prog 27 F_spec_TurnsOk := by
  refine fn_sound' (C := spec_TurnsOk_ctx) (c := bodyOf Tryd.f27) (cok_of tys_ok (List.forall_mem_cons.2 ⟨spec_TreeOk_sound, List.forall_mem_cons.2 ⟨spec_l1In_sound, List.forall_mem_cons.2 ⟨spec_l2Yield_sound, List.forall_mem_cons.2 ⟨spec_l5Turns_sound, by simp⟩⟩⟩⟩) (List.forall_mem_cons.2 ⟨Tryd.call32, List.forall_mem_cons.2 ⟨Tryd.call45, List.forall_mem_cons.2 ⟨Tryd.call47, List.forall_mem_cons.2 ⟨Tryd.call60, by simp⟩⟩⟩⟩) (by kernel_rfl)) Tryd.func27 (by kernel_rfl) LL spec_TurnsOk_an ?_
  intro avs H r H' h
  unfold F_spec_TurnsOk at h
  split at h
  · refine Awp.cast ?_ ?_ ?_ (spec_TurnsOk_e _ _ _ h) <;> kernel_rfl
  · simp [Ans.no, Ans.run] at h


/-! loop.example/headtrees/spec.DrawNestedOk -/

def spec_DrawNestedOk_an : Ann := (.seq (.leaf [0]) (.seq (.leaf [2]) (.leaf [2])))

noncomputable def spec_DrawNestedOk_ctx : Ctx := ⟨tlook tys, olook [(39, F_spec_l20Open), (40, F_spec_l20Wild)], ioF, 0, false⟩

theorem spec_DrawNestedOk_n1_l (x3785 : List Int) : Link spec_DrawNestedOk_ctx LL (bodyOf Tryd.f29) spec_DrawNestedOk_an (⟨mkE 6 0 [(0, .dat (.list (.int .u8)) x3785)], []⟩ : St) (spec_DrawNestedOk_n1 x3785) (fun (t : (List Int)) => (Exit.ret, (⟨mkE 6 0 [(2, .slc 0)], [some (.seq (.int .i64) t)]⟩ : St))) := by
  refine Link.of fun K h => ?_
  simp only [spec_DrawNestedOk_n1, wpO_bind, wpO_cond, wpO_map, wpO_some] at h
  exact Awp.of (by kernel_rfl) h

theorem spec_DrawNestedOk_e (x3785 : List Int) {r : AV} {H' : Heap} (h : (Ans.mk _ (spec_DrawNestedOk x3785) (fun (t : (List Int)) => (.slc 0, [some (.seq (.int .i64) t)]))).run = some (r, H')) : Awp spec_DrawNestedOk_ctx LL (bodyOf Tryd.f29) spec_DrawNestedOk_an (⟨mkE 6 0 [(0, .dat (.list (.int .u8)) x3785)], []⟩ : St) (Ret (tlook tys) Tryd.f29.results.toList r H') :=
  ret_of' (spec_DrawNestedOk_n1_l x3785) (by unfold spec_DrawNestedOk; kernel_rfl) (by
  intro t
  exact ret_mk [.slc 0] (by kernel_rfl) (by kernel_rfl) (by kernel_rfl) (by kernel_rfl)) h

def F_spec_DrawNestedOk : Fun := fun avs H =>
  match avs, H with
  | [.dat (.list (.int .u8)) x3785], [] => ⟨_, spec_DrawNestedOk x3785, fun (t : (List Int)) => (.slc 0, [some (.seq (.int .i64) t)])⟩
  | _, _ => Ans.no

theorem spec_DrawNestedOk_sound : Sound Tryd.prog 29 F_spec_DrawNestedOk := by
  refine fn_sound' (C := spec_DrawNestedOk_ctx) (c := bodyOf Tryd.f29) (cok_of tys_ok (List.forall_mem_cons.2 ⟨spec_l20Open_sound, List.forall_mem_cons.2 ⟨spec_l20Wild_sound, by simp⟩⟩) (List.forall_mem_cons.2 ⟨Tryd.call39, List.forall_mem_cons.2 ⟨Tryd.call40, by simp⟩⟩) (by kernel_rfl)) Tryd.func29 (by kernel_rfl) LL spec_DrawNestedOk_an ?_
  intro avs H r H' h
  unfold F_spec_DrawNestedOk at h
  split at h
  · refine Awp.cast ?_ ?_ ?_ (spec_DrawNestedOk_e _ h) <;> kernel_rfl
  · simp [Ans.no, Ans.run] at h


/-! loop.example/headtrees/impl.countPairs[loop.example/headtrees/impl.wordSet] -/

def impl_countPairs_impl_wordSet_an : Ann := (.seq (.leaf [0, 1]) (.seq (.leaf [0, 1, 5]) (.seq (.seq (.leaf [0, 1, 5, 10, 11, 12]) (.block (.loop (.seq (.leaf [0, 1, 5, 10, 11, 12, 13]) (.seq (.cond (.leaf [0, 1, 5, 10, 11, 12]) (.leaf [5])) (.seq (.block (.seq (.leaf [0, 1, 5, 6, 7, 10, 11, 12]) (.seq (.leaf [0, 1, 5, 7, 10, 11, 12, 20, 21, 22]) (.block (.loop (.seq (.leaf [0, 1, 5, 7, 10, 11, 12, 20, 21, 22, 23]) (.seq (.cond (.leaf [0, 1, 5, 7, 10, 11, 12, 20, 21, 22]) (.leaf [0, 1, 5, 10, 11, 12])) (.seq (.block (.seq (.leaf [0, 1, 5, 7, 9, 10, 11, 12, 20, 21, 22]) (.seq (.leaf [0, 1, 5, 7, 10, 11, 12, 20, 21, 22, 29]) (.cond (.leaf [0, 1, 5, 7, 10, 11, 12, 20, 21, 22]) (.leaf [0, 1, 5, 7, 10, 11, 12, 20, 21, 22]))))) (.leaf [0, 1, 5, 7, 10, 11, 12, 20, 21, 22]))))))))) (.leaf [0, 1, 5, 10, 11, 12]))))))) (.seq (.leaf [4]) (.leaf [4])))))

noncomputable def impl_countPairs_impl_wordSet_ctx : Ctx := ⟨tlook tys, olook [(59, F_impl_goByTurns)], ioF, 0, false⟩

theorem impl_countPairs_impl_wordSet_n1_l (x3801 : List Int) : Link impl_countPairs_impl_wordSet_ctx LL (Code.seq (Code.fst (bodyOf Tryd.f63)) (Code.fst (Code.snd (bodyOf Tryd.f63)))) (Ann.seq (Ann.fst impl_countPairs_impl_wordSet_an) (Ann.fst (Ann.snd impl_countPairs_impl_wordSet_an))) (⟨mkE 35 0 [(0, .dat (.list (.int .u64)) x3801), (1, .fn 59 [] [])], []⟩ : St) (impl_countPairs_impl_wordSet_n1) (fun (t : Unit) => (Exit.normal, (⟨mkE 35 0 [(0, .dat (.list (.int .u64)) x3801), (1, .fn 59 [] []), (5, .dat (.int .i64) 0)], []⟩ : St))) := by
  refine Link.of fun K h => ?_
  simp only [impl_countPairs_impl_wordSet_n1, wpO_bind, wpO_cond, wpO_map, wpO_some] at h
  exact Awp.of (by kernel_rfl) h

theorem impl_countPairs_impl_wordSet_n2_l (x3801 : List Int) : Link impl_countPairs_impl_wordSet_ctx LL (Code.fst (Code.fst (Code.snd (Code.snd (bodyOf Tryd.f63))))) (Ann.fst (Ann.fst (Ann.snd (Ann.snd impl_countPairs_impl_wordSet_an)))) (⟨mkE 35 0 [(0, .dat (.list (.int .u64)) x3801), (1, .fn 59 [] []), (5, .dat (.int .i64) 0)], []⟩ : St) (impl_countPairs_impl_wordSet_n2 x3801) (fun (t : Int) => (Exit.normal, (⟨mkE 35 0 [(0, .dat (.list (.int .u64)) x3801), (1, .fn 59 [] []), (5, .dat (.int .i64) 0), (10, .dat (.list (.int .u64)) x3801), (11, .dat (.int .i64) t), (12, .dat (.int .i64) 0)], []⟩ : St))) := by
  refine Link.of fun K h => ?_
  simp only [impl_countPairs_impl_wordSet_n2, wpO_bind, wpO_cond, wpO_map, wpO_some] at h
  exact Awp.of (by kernel_rfl) h

theorem impl_countPairs_impl_wordSet_n3_l (x3801 : List Int) (x3843 : Int) (x3802 : Int) (x3844 : Int) : Link impl_countPairs_impl_wordSet_ctx LL (Code.seq (Code.fst (Code.fst (Code.fst (Code.snd (Code.fst (Code.snd (Code.snd (bodyOf Tryd.f63)))))))) (Code.fst (Code.snd (Code.fst (Code.fst (Code.snd (Code.fst (Code.snd (Code.snd (bodyOf Tryd.f63)))))))))) (Ann.seq (Ann.fst (Ann.fst (Ann.fst (Ann.snd (Ann.fst (Ann.snd (Ann.snd impl_countPairs_impl_wordSet_an))))))) (Ann.fst (Ann.snd (Ann.fst (Ann.fst (Ann.snd (Ann.fst (Ann.snd (Ann.snd impl_countPairs_impl_wordSet_an))))))))) (⟨mkE 35 0 [(0, .dat (.list (.int .u64)) x3801), (1, .fn 59 [] []), (5, .dat (.int .i64) x3843), (10, .dat (.list (.int .u64)) x3801), (11, .dat (.int .i64) x3802), (12, .dat (.int .i64) x3844)], []⟩ : St) (impl_countPairs_impl_wordSet_n3 x3843 x3802 x3844) (Sum.elim (fun (t : Unit) => (Exit.normal, (⟨mkE 35 0 [(0, .dat (.list (.int .u64)) x3801), (1, .fn 59 [] []), (5, .dat (.int .i64) x3843), (10, .dat (.list (.int .u64)) x3801), (11, .dat (.int .i64) x3802), (12, .dat (.int .i64) x3844)], []⟩ : St))) (fun (t : Int) => ((Exit.exit 0), (⟨mkE 35 0 [(5, .dat (.int .i64) t)], []⟩ : St)))) := by
  refine Link.of fun K h => ?_
  simp only [impl_countPairs_impl_wordSet_n3, wpO_bind, wpO_cond, wpO_map, wpO_some] at h
  exact Awp.of (by kernel_rfl) h

theorem impl_countPairs_impl_wordSet_n4_l (x3801 : List Int) (x3843 : Int) (x3802 : Int) (x3844 : Int) : Link impl_countPairs_impl_wordSet_ctx LL (Code.seq (Code.fst (Code.fst (Code.fst (Code.snd (Code.snd (Code.fst (Code.fst (Code.snd (Code.fst (Code.snd (Code.snd (bodyOf Tryd.f63)))))))))))) (Code.fst (Code.snd (Code.fst (Code.fst (Code.snd (Code.snd (Code.fst (Code.fst (Code.snd (Code.fst (Code.snd (Code.snd (bodyOf Tryd.f63)))))))))))))) (Ann.seq (Ann.fst (Ann.fst (Ann.fst (Ann.snd (Ann.snd (Ann.fst (Ann.fst (Ann.snd (Ann.fst (Ann.snd (Ann.snd impl_countPairs_impl_wordSet_an))))))))))) (Ann.fst (Ann.snd (Ann.fst (Ann.fst (Ann.snd (Ann.snd (Ann.fst (Ann.fst (Ann.snd (Ann.fst (Ann.snd (Ann.snd impl_countPairs_impl_wordSet_an))))))))))))) (⟨mkE 35 0 [(0, .dat (.list (.int .u64)) x3801), (1, .fn 59 [] []), (5, .dat (.int .i64) x3843), (10, .dat (.list (.int .u64)) x3801), (11, .dat (.int .i64) x3802), (12, .dat (.int .i64) x3844)], []⟩ : St) (impl_countPairs_impl_wordSet_n4 x3801 x3844) (fun (t : Int × (List Int) × Int) => (Exit.normal, (⟨mkE 35 0 [(0, .dat (.list (.int .u64)) x3801), (1, .fn 59 [] []), (5, .dat (.int .i64) x3843), (7, .dat (.int .u64) t.1), (10, .dat (.list (.int .u64)) x3801), (11, .dat (.int .i64) x3802), (12, .dat (.int .i64) x3844), (20, .dat (.list (.int .u64)) t.2.1), (21, .dat (.int .i64) t.2.2), (22, .dat (.int .i64) 0)], []⟩ : St))) := by
  refine Link.of fun K h => ?_
  simp only [impl_countPairs_impl_wordSet_n4, wpO_bind, wpO_cond, wpO_map, wpO_some] at h
  exact Awp.of (by kernel_rfl) h

theorem impl_countPairs_impl_wordSet_n5_l (x3801 : List Int) (x3868 : Int) (x3848 : Int) (x3802 : Int) (x3844 : Int) (x3852 : List Int) (x3853 : Int) (x3869 : Int) : Link impl_countPairs_impl_wordSet_ctx LL (Code.fst (Code.fst (Code.snd (Code.snd (Code.fst (Code.fst (Code.snd (Code.snd (Code.fst (Code.fst (Code.snd (Code.fst (Code.snd (Code.snd (bodyOf Tryd.f63))))))))))))))) (Ann.fst (Ann.fst (Ann.snd (Ann.snd (Ann.fst (Ann.fst (Ann.snd (Ann.snd (Ann.fst (Ann.fst (Ann.snd (Ann.fst (Ann.snd (Ann.snd impl_countPairs_impl_wordSet_an)))))))))))))) (⟨mkE 35 0 [(0, .dat (.list (.int .u64)) x3801), (1, .fn 59 [] []), (5, .dat (.int .i64) x3868), (7, .dat (.int .u64) x3848), (10, .dat (.list (.int .u64)) x3801), (11, .dat (.int .i64) x3802), (12, .dat (.int .i64) x3844), (20, .dat (.list (.int .u64)) x3852), (21, .dat (.int .i64) x3853), (22, .dat (.int .i64) x3869)], []⟩ : St) (impl_countPairs_impl_wordSet_n5 x3868 x3848 x3852 x3853 x3869) (Sum.elim (fun (t : Int × Int) => (Exit.normal, (⟨mkE 35 0 [(0, .dat (.list (.int .u64)) x3801), (1, .fn 59 [] []), (5, .dat (.int .i64) t.1), (7, .dat (.int .u64) x3848), (10, .dat (.list (.int .u64)) x3801), (11, .dat (.int .i64) x3802), (12, .dat (.int .i64) x3844), (20, .dat (.list (.int .u64)) x3852), (21, .dat (.int .i64) x3853), (22, .dat (.int .i64) t.2)], []⟩ : St))) (fun (t : Int) => ((Exit.exit 2), (⟨mkE 35 0 [(0, .dat (.list (.int .u64)) x3801), (1, .fn 59 [] []), (5, .dat (.int .i64) t), (10, .dat (.list (.int .u64)) x3801), (11, .dat (.int .i64) x3802), (12, .dat (.int .i64) x3844)], []⟩ : St)))) := by
  refine Link.of fun K h => ?_
  simp only [impl_countPairs_impl_wordSet_n5, wpO_bind, wpO_cond, wpO_map, wpO_some] at h
  exact Awp.of (by kernel_rfl) h

theorem impl_countPairs_impl_wordSet_n6_l (x3801 : List Int) (x3843 : Int) (x3848 : Int) (x3802 : Int) (x3844 : Int) (x3852 : List Int) (x3853 : Int) : Link impl_countPairs_impl_wordSet_ctx LL (Code.fst (Code.snd (Code.snd (Code.fst (Code.fst (Code.snd (Code.snd (Code.fst (Code.fst (Code.snd (Code.fst (Code.snd (Code.snd (bodyOf Tryd.f63)))))))))))))) (Ann.fst (Ann.snd (Ann.snd (Ann.fst (Ann.fst (Ann.snd (Ann.snd (Ann.fst (Ann.fst (Ann.snd (Ann.fst (Ann.snd (Ann.snd impl_countPairs_impl_wordSet_an))))))))))))) (⟨mkE 35 0 [(0, .dat (.list (.int .u64)) x3801), (1, .fn 59 [] []), (5, .dat (.int .i64) x3843), (7, .dat (.int .u64) x3848), (10, .dat (.list (.int .u64)) x3801), (11, .dat (.int .i64) x3802), (12, .dat (.int .i64) x3844), (20, .dat (.list (.int .u64)) x3852), (21, .dat (.int .i64) x3853), (22, .dat (.int .i64) 0)], []⟩ : St) (impl_countPairs_impl_wordSet_n6 x3843 x3848 x3852 x3853) (fun (t : Int) => ((Exit.exit 2), (⟨mkE 35 0 [(0, .dat (.list (.int .u64)) x3801), (1, .fn 59 [] []), (5, .dat (.int .i64) t), (10, .dat (.list (.int .u64)) x3801), (11, .dat (.int .i64) x3802), (12, .dat (.int .i64) x3844)], []⟩ : St))) := by
  unfold impl_countPairs_impl_wordSet_n6
  exact Link.cast (by kernel_rfl) (by kernel_rfl) (link_loop (mk := fun (s : Int × Int) => (⟨mkE 35 0 [(0, .dat (.list (.int .u64)) x3801), (1, .fn 59 [] []), (5, .dat (.int .i64) s.1), (7, .dat (.int .u64) x3848), (10, .dat (.list (.int .u64)) x3801), (11, .dat (.int .i64) x3802), (12, .dat (.int .i64) x3844), (20, .dat (.list (.int .u64)) x3852), (21, .dat (.int .i64) x3853), (22, .dat (.int .i64) s.2)], []⟩ : St)) (fin := (fun (t : Int) => ((Exit.exit 2), (⟨mkE 35 0 [(0, .dat (.list (.int .u64)) x3801), (1, .fn 59 [] []), (5, .dat (.int .i64) t), (10, .dat (.list (.int .u64)) x3801), (11, .dat (.int .i64) x3802), (12, .dat (.int .i64) x3844)], []⟩ : St)))) (by
  rintro t f K h
  · exact h) (fun s => link_map (impl_countPairs_impl_wordSet_n5_l x3801 s.1 x3848 x3802 x3844 x3852 x3853 s.2) (Sum.elim (fun (t : Int × Int) => Sum.inl (t.1, t.2)) (fun (t : Int) => Sum.inr t)) (by
  rintro (t | t)
  · kernel_rfl
  · kernel_rfl)) (x3843, 0))

theorem impl_countPairs_impl_wordSet_n7_l (x3801 : List Int) (x3843 : Int) (x3848 : Int) (x3802 : Int) (x3844 : Int) (x3852 : List Int) (x3853 : Int) : Link impl_countPairs_impl_wordSet_ctx LL (Code.snd (Code.snd (Code.fst (Code.fst (Code.snd (Code.snd (Code.fst (Code.fst (Code.snd (Code.fst (Code.snd (Code.snd (bodyOf Tryd.f63))))))))))))) (Ann.snd (Ann.snd (Ann.fst (Ann.fst (Ann.snd (Ann.snd (Ann.fst (Ann.fst (Ann.snd (Ann.fst (Ann.snd (Ann.snd impl_countPairs_impl_wordSet_an)))))))))))) (⟨mkE 35 0 [(0, .dat (.list (.int .u64)) x3801), (1, .fn 59 [] []), (5, .dat (.int .i64) x3843), (7, .dat (.int .u64) x3848), (10, .dat (.list (.int .u64)) x3801), (11, .dat (.int .i64) x3802), (12, .dat (.int .i64) x3844), (20, .dat (.list (.int .u64)) x3852), (21, .dat (.int .i64) x3853), (22, .dat (.int .i64) 0)], []⟩ : St) (impl_countPairs_impl_wordSet_n7 x3843 x3848 x3852 x3853) (fun (t : Int) => (Exit.normal, (⟨mkE 35 0 [(0, .dat (.list (.int .u64)) x3801), (1, .fn 59 [] []), (5, .dat (.int .i64) t), (10, .dat (.list (.int .u64)) x3801), (11, .dat (.int .i64) x3802), (12, .dat (.int .i64) x3844)], []⟩ : St))) := by
  unfold impl_countPairs_impl_wordSet_n7
  exact Link.cast (by kernel_rfl) (by kernel_rfl) (link_block (id := 2) (impl_countPairs_impl_wordSet_n6_l x3801 x3843 x3848 x3802 x3844 x3852 x3853) (fun (t : Int) => t) (by
  rintro t K h
  · exact Eq.mp (by kernel_rfl) h))

theorem impl_countPairs_impl_wordSet_n8_l (x3801 : List Int) (x3843 : Int) (x3802 : Int) (x3844 : Int) : Link impl_countPairs_impl_wordSet_ctx LL (Code.fst (Code.fst (Code.snd (Code.snd (Code.fst (Code.fst (Code.snd (Code.fst (Code.snd (Code.snd (bodyOf Tryd.f63))))))))))) (Ann.fst (Ann.fst (Ann.snd (Ann.snd (Ann.fst (Ann.fst (Ann.snd (Ann.fst (Ann.snd (Ann.snd impl_countPairs_impl_wordSet_an)))))))))) (⟨mkE 35 0 [(0, .dat (.list (.int .u64)) x3801), (1, .fn 59 [] []), (5, .dat (.int .i64) x3843), (10, .dat (.list (.int .u64)) x3801), (11, .dat (.int .i64) x3802), (12, .dat (.int .i64) x3844)], []⟩ : St) (impl_countPairs_impl_wordSet_n8 x3801 x3843 x3844) (fun (t : Int) => (Exit.normal, (⟨mkE 35 0 [(0, .dat (.list (.int .u64)) x3801), (1, .fn 59 [] []), (5, .dat (.int .i64) t), (10, .dat (.list (.int .u64)) x3801), (11, .dat (.int .i64) x3802), (12, .dat (.int .i64) x3844)], []⟩ : St))) := by
  unfold impl_countPairs_impl_wordSet_n8
  exact Link.cast (by kernel_rfl) (by kernel_rfl) (link_group (c := (Code.fst (Code.snd (Code.fst (Code.fst (Code.snd (Code.snd (Code.fst (Code.fst (Code.snd (Code.fst (Code.snd (Code.snd (bodyOf Tryd.f63)))))))))))))) (a := (Ann.fst (Ann.snd (Ann.fst (Ann.fst (Ann.snd (Ann.snd (Ann.fst (Ann.fst (Ann.snd (Ann.fst (Ann.snd (Ann.snd impl_countPairs_impl_wordSet_an))))))))))))) [(Code.fst (Code.fst (Code.fst (Code.snd (Code.snd (Code.fst (Code.fst (Code.snd (Code.fst (Code.snd (Code.snd (bodyOf Tryd.f63))))))))))))] [(Ann.fst (Ann.fst (Ann.fst (Ann.snd (Ann.snd (Ann.fst (Ann.fst (Ann.snd (Ann.fst (Ann.snd (Ann.snd impl_countPairs_impl_wordSet_an)))))))))))] rfl (link_seq (b := (Code.snd (Code.snd (Code.fst (Code.fst (Code.snd (Code.snd (Code.fst (Code.fst (Code.snd (Code.fst (Code.snd (Code.snd (bodyOf Tryd.f63)))))))))))))) (y := (Ann.snd (Ann.snd (Ann.fst (Ann.fst (Ann.snd (Ann.snd (Ann.fst (Ann.fst (Ann.snd (Ann.fst (Ann.snd (Ann.snd impl_countPairs_impl_wordSet_an))))))))))))) (impl_countPairs_impl_wordSet_n4_l x3801 x3843 x3802 x3844) (fun (t : Int × (List Int) × Int) => (impl_countPairs_impl_wordSet_n7_l x3801 x3843 t.1 x3802 x3844 t.2.1 t.2.2))))

theorem impl_countPairs_impl_wordSet_n9_l (x3801 : List Int) (x3843 : Int) (x3802 : Int) (x3844 : Int) : Link impl_countPairs_impl_wordSet_ctx LL (Code.fst (Code.snd (Code.snd (Code.fst (Code.fst (Code.snd (Code.fst (Code.snd (Code.snd (bodyOf Tryd.f63)))))))))) (Ann.fst (Ann.snd (Ann.snd (Ann.fst (Ann.fst (Ann.snd (Ann.fst (Ann.snd (Ann.snd impl_countPairs_impl_wordSet_an))))))))) (⟨mkE 35 0 [(0, .dat (.list (.int .u64)) x3801), (1, .fn 59 [] []), (5, .dat (.int .i64) x3843), (10, .dat (.list (.int .u64)) x3801), (11, .dat (.int .i64) x3802), (12, .dat (.int .i64) x3844)], []⟩ : St) (impl_countPairs_impl_wordSet_n9 x3801 x3843 x3844) (fun (t : Int) => (Exit.normal, (⟨mkE 35 0 [(0, .dat (.list (.int .u64)) x3801), (1, .fn 59 [] []), (5, .dat (.int .i64) t), (10, .dat (.list (.int .u64)) x3801), (11, .dat (.int .i64) x3802), (12, .dat (.int .i64) x3844)], []⟩ : St))) := by
  unfold impl_countPairs_impl_wordSet_n9
  exact Link.cast (by kernel_rfl) (by kernel_rfl) (link_block (id := 1) (impl_countPairs_impl_wordSet_n8_l x3801 x3843 x3802 x3844) (fun (t : Int) => t) (by
  rintro t K h
  · exact Eq.mp (by kernel_rfl) h))

theorem impl_countPairs_impl_wordSet_n10_l (x3801 : List Int) (x3868 : Int) (x3802 : Int) (x3844 : Int) : Link impl_countPairs_impl_wordSet_ctx LL (Code.snd (Code.snd (Code.snd (Code.fst (Code.fst (Code.snd (Code.fst (Code.snd (Code.snd (bodyOf Tryd.f63)))))))))) (Ann.snd (Ann.snd (Ann.snd (Ann.fst (Ann.fst (Ann.snd (Ann.fst (Ann.snd (Ann.snd impl_countPairs_impl_wordSet_an))))))))) (⟨mkE 35 0 [(0, .dat (.list (.int .u64)) x3801), (1, .fn 59 [] []), (5, .dat (.int .i64) x3868), (10, .dat (.list (.int .u64)) x3801), (11, .dat (.int .i64) x3802), (12, .dat (.int .i64) x3844)], []⟩ : St) (impl_countPairs_impl_wordSet_n10 x3844) (fun (t : Int) => (Exit.normal, (⟨mkE 35 0 [(0, .dat (.list (.int .u64)) x3801), (1, .fn 59 [] []), (5, .dat (.int .i64) x3868), (10, .dat (.list (.int .u64)) x3801), (11, .dat (.int .i64) x3802), (12, .dat (.int .i64) t)], []⟩ : St))) := by
  refine Link.of fun K h => ?_
  simp only [impl_countPairs_impl_wordSet_n10, wpO_bind, wpO_cond, wpO_map, wpO_some] at h
  exact Awp.of (by kernel_rfl) h

theorem impl_countPairs_impl_wordSet_n11_l (x3801 : List Int) (x3843 : Int) (x3802 : Int) (x3844 : Int) : Link impl_countPairs_impl_wordSet_ctx LL (Code.snd (Code.snd (Code.fst (Code.fst (Code.snd (Code.fst (Code.snd (Code.snd (bodyOf Tryd.f63))))))))) (Ann.snd (Ann.snd (Ann.fst (Ann.fst (Ann.snd (Ann.fst (Ann.snd (Ann.snd impl_countPairs_impl_wordSet_an)))))))) (⟨mkE 35 0 [(0, .dat (.list (.int .u64)) x3801), (1, .fn 59 [] []), (5, .dat (.int .i64) x3843), (10, .dat (.list (.int .u64)) x3801), (11, .dat (.int .i64) x3802), (12, .dat (.int .i64) x3844)], []⟩ : St) (impl_countPairs_impl_wordSet_n11 x3801 x3843 x3844) (fun (t : Int × Int) => (Exit.normal, (⟨mkE 35 0 [(0, .dat (.list (.int .u64)) x3801), (1, .fn 59 [] []), (5, .dat (.int .i64) t.1), (10, .dat (.list (.int .u64)) x3801), (11, .dat (.int .i64) x3802), (12, .dat (.int .i64) t.2)], []⟩ : St))) := by
  unfold impl_countPairs_impl_wordSet_n11
  exact Link.cast (by kernel_rfl) (by kernel_rfl) (link_seq (b := (Code.snd (Code.snd (Code.snd (Code.fst (Code.fst (Code.snd (Code.fst (Code.snd (Code.snd (bodyOf Tryd.f63))))))))))) (y := (Ann.snd (Ann.snd (Ann.snd (Ann.fst (Ann.fst (Ann.snd (Ann.fst (Ann.snd (Ann.snd impl_countPairs_impl_wordSet_an)))))))))) (impl_countPairs_impl_wordSet_n9_l x3801 x3843 x3802 x3844) (fun (t : Int) => (link_map (impl_countPairs_impl_wordSet_n10_l x3801 t x3802 x3844) (fun (u : Int) => (t, u)) (by
  rintro t
  · kernel_rfl))))

theorem impl_countPairs_impl_wordSet_n12_l (x3801 : List Int) (x3843 : Int) (x3802 : Int) (x3844 : Int) : Link impl_countPairs_impl_wordSet_ctx LL (Code.fst (Code.fst (Code.snd (Code.fst (Code.snd (Code.snd (bodyOf Tryd.f63))))))) (Ann.fst (Ann.fst (Ann.snd (Ann.fst (Ann.snd (Ann.snd impl_countPairs_impl_wordSet_an)))))) (⟨mkE 35 0 [(0, .dat (.list (.int .u64)) x3801), (1, .fn 59 [] []), (5, .dat (.int .i64) x3843), (10, .dat (.list (.int .u64)) x3801), (11, .dat (.int .i64) x3802), (12, .dat (.int .i64) x3844)], []⟩ : St) (impl_countPairs_impl_wordSet_n12 x3801 x3843 x3802 x3844) (Sum.elim (fun (t : Int × Int) => (Exit.normal, (⟨mkE 35 0 [(0, .dat (.list (.int .u64)) x3801), (1, .fn 59 [] []), (5, .dat (.int .i64) t.1), (10, .dat (.list (.int .u64)) x3801), (11, .dat (.int .i64) x3802), (12, .dat (.int .i64) t.2)], []⟩ : St))) (fun (t : Int) => ((Exit.exit 0), (⟨mkE 35 0 [(5, .dat (.int .i64) t)], []⟩ : St)))) := by
  unfold impl_countPairs_impl_wordSet_n12
  exact Link.cast (by kernel_rfl) (by kernel_rfl) (link_group (c := (Code.fst (Code.snd (Code.fst (Code.fst (Code.snd (Code.fst (Code.snd (Code.snd (bodyOf Tryd.f63)))))))))) (a := (Ann.fst (Ann.snd (Ann.fst (Ann.fst (Ann.snd (Ann.fst (Ann.snd (Ann.snd impl_countPairs_impl_wordSet_an))))))))) [(Code.fst (Code.fst (Code.fst (Code.snd (Code.fst (Code.snd (Code.snd (bodyOf Tryd.f63))))))))] [(Ann.fst (Ann.fst (Ann.fst (Ann.snd (Ann.fst (Ann.snd (Ann.snd impl_countPairs_impl_wordSet_an)))))))] rfl (link_seq2 (b := (Code.snd (Code.snd (Code.fst (Code.fst (Code.snd (Code.fst (Code.snd (Code.snd (bodyOf Tryd.f63)))))))))) (y := (Ann.snd (Ann.snd (Ann.fst (Ann.fst (Ann.snd (Ann.fst (Ann.snd (Ann.snd impl_countPairs_impl_wordSet_an))))))))) (impl_countPairs_impl_wordSet_n3_l x3801 x3843 x3802 x3844) (fun (t : Unit) => (link_map (impl_countPairs_impl_wordSet_n11_l x3801 x3843 x3802 x3844) (fun (t : Int × Int) => (Sum.inl (t.1, t.2))) (by
  rintro t
  · kernel_rfl))) (fun (t : Int) => (Sum.inr t)) (by
  rintro t
  · kernel_rfl) (by
  rintro t f K h
  · exact h)))

theorem impl_countPairs_impl_wordSet_n13_l (x3801 : List Int) (x3802 : Int) : Link impl_countPairs_impl_wordSet_ctx LL (Code.fst (Code.snd (Code.fst (Code.snd (Code.snd (bodyOf Tryd.f63)))))) (Ann.fst (Ann.snd (Ann.fst (Ann.snd (Ann.snd impl_countPairs_impl_wordSet_an))))) (⟨mkE 35 0 [(0, .dat (.list (.int .u64)) x3801), (1, .fn 59 [] []), (5, .dat (.int .i64) 0), (10, .dat (.list (.int .u64)) x3801), (11, .dat (.int .i64) x3802), (12, .dat (.int .i64) 0)], []⟩ : St) (impl_countPairs_impl_wordSet_n13 x3801 x3802) (fun (t : Int) => ((Exit.exit 0), (⟨mkE 35 0 [(5, .dat (.int .i64) t)], []⟩ : St))) := by
  unfold impl_countPairs_impl_wordSet_n13
  exact Link.cast (by kernel_rfl) (by kernel_rfl) (link_loop (mk := fun (s : Int × Int) => (⟨mkE 35 0 [(0, .dat (.list (.int .u64)) x3801), (1, .fn 59 [] []), (5, .dat (.int .i64) s.1), (10, .dat (.list (.int .u64)) x3801), (11, .dat (.int .i64) x3802), (12, .dat (.int .i64) s.2)], []⟩ : St)) (fin := (fun (t : Int) => ((Exit.exit 0), (⟨mkE 35 0 [(5, .dat (.int .i64) t)], []⟩ : St)))) (by
  rintro t f K h
  · exact h) (fun s => link_map (impl_countPairs_impl_wordSet_n12_l x3801 s.1 x3802 s.2) (Sum.elim (fun (t : Int × Int) => Sum.inl (t.1, t.2)) (fun (t : Int) => Sum.inr t)) (by
  rintro (t | t)
  · kernel_rfl
  · kernel_rfl)) (0, 0))

theorem impl_countPairs_impl_wordSet_n14_l (x3801 : List Int) (x3802 : Int) : Link impl_countPairs_impl_wordSet_ctx LL (Code.snd (Code.fst (Code.snd (Code.snd (bodyOf Tryd.f63))))) (Ann.snd (Ann.fst (Ann.snd (Ann.snd impl_countPairs_impl_wordSet_an)))) (⟨mkE 35 0 [(0, .dat (.list (.int .u64)) x3801), (1, .fn 59 [] []), (5, .dat (.int .i64) 0), (10, .dat (.list (.int .u64)) x3801), (11, .dat (.int .i64) x3802), (12, .dat (.int .i64) 0)], []⟩ : St) (impl_countPairs_impl_wordSet_n14 x3801 x3802) (fun (t : Int) => (Exit.normal, (⟨mkE 35 0 [(5, .dat (.int .i64) t)], []⟩ : St))) := by
  unfold impl_countPairs_impl_wordSet_n14
  exact Link.cast (by kernel_rfl) (by kernel_rfl) (link_block (id := 0) (impl_countPairs_impl_wordSet_n13_l x3801 x3802) (fun (t : Int) => t) (by
  rintro t K h
  · exact Eq.mp (by kernel_rfl) h))

theorem impl_countPairs_impl_wordSet_n15_l (x3801 : List Int) : Link impl_countPairs_impl_wordSet_ctx LL (Code.fst (Code.snd (Code.snd (bodyOf Tryd.f63)))) (Ann.fst (Ann.snd (Ann.snd impl_countPairs_impl_wordSet_an))) (⟨mkE 35 0 [(0, .dat (.list (.int .u64)) x3801), (1, .fn 59 [] []), (5, .dat (.int .i64) 0)], []⟩ : St) (impl_countPairs_impl_wordSet_n15 x3801) (fun (t : Int) => (Exit.normal, (⟨mkE 35 0 [(5, .dat (.int .i64) t)], []⟩ : St))) := by
  unfold impl_countPairs_impl_wordSet_n15
  exact Link.cast (by kernel_rfl) (by kernel_rfl) (link_seq (b := (Code.snd (Code.fst (Code.snd (Code.snd (bodyOf Tryd.f63)))))) (y := (Ann.snd (Ann.fst (Ann.snd (Ann.snd impl_countPairs_impl_wordSet_an))))) (impl_countPairs_impl_wordSet_n2_l x3801) (fun (t : Int) => (impl_countPairs_impl_wordSet_n14_l x3801 t)))

theorem impl_countPairs_impl_wordSet_n16_l (x3843 : Int) : Link impl_countPairs_impl_wordSet_ctx LL (Code.snd (Code.snd (Code.snd (bodyOf Tryd.f63)))) (Ann.snd (Ann.snd (Ann.snd impl_countPairs_impl_wordSet_an))) (⟨mkE 35 0 [(5, .dat (.int .i64) x3843)], []⟩ : St) (impl_countPairs_impl_wordSet_n16 x3843) (fun (t : Int) => (Exit.ret, (⟨mkE 35 0 [(4, .dat (.int .i64) t)], []⟩ : St))) := by
  refine Link.of fun K h => ?_
  simp only [impl_countPairs_impl_wordSet_n16, wpO_bind, wpO_cond, wpO_map, wpO_some] at h
  exact Awp.of (by kernel_rfl) h

theorem impl_countPairs_impl_wordSet_n17_l (x3801 : List Int) : Link impl_countPairs_impl_wordSet_ctx LL (Code.snd (Code.snd (bodyOf Tryd.f63))) (Ann.snd (Ann.snd impl_countPairs_impl_wordSet_an)) (⟨mkE 35 0 [(0, .dat (.list (.int .u64)) x3801), (1, .fn 59 [] []), (5, .dat (.int .i64) 0)], []⟩ : St) (impl_countPairs_impl_wordSet_n17 x3801) (fun (t : Int) => (Exit.ret, (⟨mkE 35 0 [(4, .dat (.int .i64) t)], []⟩ : St))) := by
  unfold impl_countPairs_impl_wordSet_n17
  exact Link.cast (by kernel_rfl) (by kernel_rfl) (link_seq (b := (Code.snd (Code.snd (Code.snd (bodyOf Tryd.f63))))) (y := (Ann.snd (Ann.snd (Ann.snd impl_countPairs_impl_wordSet_an)))) (impl_countPairs_impl_wordSet_n15_l x3801) (fun (t : Int) => (impl_countPairs_impl_wordSet_n16_l t)))

theorem impl_countPairs_impl_wordSet_n18_l (x3801 : List Int) : Link impl_countPairs_impl_wordSet_ctx LL (bodyOf Tryd.f63) impl_countPairs_impl_wordSet_an (⟨mkE 35 0 [(0, .dat (.list (.int .u64)) x3801), (1, .fn 59 [] [])], []⟩ : St) (impl_countPairs_impl_wordSet_n18 x3801) (fun (t : Int) => (Exit.ret, (⟨mkE 35 0 [(4, .dat (.int .i64) t)], []⟩ : St))) := by
  unfold impl_countPairs_impl_wordSet_n18
  exact Link.cast (by kernel_rfl) (by kernel_rfl) (link_group (c := (Code.fst (Code.snd (bodyOf Tryd.f63)))) (a := (Ann.fst (Ann.snd impl_countPairs_impl_wordSet_an))) [(Code.fst (bodyOf Tryd.f63))] [(Ann.fst impl_countPairs_impl_wordSet_an)] rfl (link_seq (b := (Code.snd (Code.snd (bodyOf Tryd.f63)))) (y := (Ann.snd (Ann.snd impl_countPairs_impl_wordSet_an))) (impl_countPairs_impl_wordSet_n1_l x3801) (fun (t : Unit) => (impl_countPairs_impl_wordSet_n17_l x3801))))

theorem impl_countPairs_impl_wordSet_e (x3801 : List Int) {r : AV} {H' : Heap} (h : (Ans.mk _ (impl_countPairs_impl_wordSet x3801) (fun (t : Int) => (.dat (.int .i64) t, []))).run = some (r, H')) : Awp impl_countPairs_impl_wordSet_ctx LL (bodyOf Tryd.f63) impl_countPairs_impl_wordSet_an (⟨mkE 35 0 [(0, .dat (.list (.int .u64)) x3801), (1, .fn 59 [] [])], []⟩ : St) (Ret (tlook tys) Tryd.f63.results.toList r H') :=
  ret_of' (impl_countPairs_impl_wordSet_n18_l x3801) (by unfold impl_countPairs_impl_wordSet; kernel_rfl) (by
  intro t
  exact ret_mk [.dat (.int .i64) t] (by kernel_rfl) (by kernel_rfl) (by kernel_rfl) (by kernel_rfl)) h

def F_impl_countPairs_impl_wordSet : Fun := fun avs H =>
  match avs, H with
  | [.dat (.list (.int .u64)) x3801, .fn 59 [] []], [] => ⟨_, impl_countPairs_impl_wordSet x3801, fun (t : Int) => (.dat (.int .i64) t, [])⟩
  | _, _ => Ans.no

theorem impl_countPairs_impl_wordSet_sound : Sound Tryd.prog 63 F_impl_countPairs_impl_wordSet := by
  refine fn_sound' (C := impl_countPairs_impl_wordSet_ctx) (c := bodyOf Tryd.f63) (cok_of tys_ok (List.forall_mem_cons.2 ⟨impl_goByTurns_sound, by simp⟩) (List.forall_mem_cons.2 ⟨Tryd.call59, by simp⟩) (by kernel_rfl)) Tryd.func63 (by kernel_rfl) LL impl_countPairs_impl_wordSet_an ?_
  intro avs H r H' h
  unfold F_impl_countPairs_impl_wordSet at h
  split at h
  · refine Awp.cast ?_ ?_ ?_ (impl_countPairs_impl_wordSet_e _ h) <;> kernel_rfl
  · simp [Ans.no, Ans.run] at h


/-! loop.example/headtrees/impl.NestedOk -/

def impl_NestedOk_an : Ann := (.seq (.leaf [0]) (.seq (.leaf [2]) (.leaf [2])))

noncomputable def impl_NestedOk_ctx : Ctx := ⟨tlook tys, olook [(22, F_impl_TreeOk), (43, F_impl_yieldsOf), (63, F_impl_countPairs_impl_wordSet)], ioF, 0, false⟩

theorem impl_NestedOk_n1_l (x3798 : List Int) : Link impl_NestedOk_ctx LL (bodyOf Tryd.f30) impl_NestedOk_an (⟨mkE 11 0 [(0, .dat (.list (.int .i64)) x3798)], []⟩ : St) (impl_NestedOk_n1 x3798) (fun (t : Bool) => (Exit.ret, (⟨mkE 11 0 [(2, .dat .bool t)], []⟩ : St))) := by
  refine Link.of fun K h => ?_
  simp only [impl_NestedOk_n1, wpO_bind, wpO_cond, wpO_map, wpO_some] at h
  exact Awp.of (by kernel_rfl) h

theorem impl_NestedOk_e (x3798 : List Int) {r : AV} {H' : Heap} (h : (Ans.mk _ (impl_NestedOk x3798) (fun (t : Bool) => (.dat .bool t, []))).run = some (r, H')) : Awp impl_NestedOk_ctx LL (bodyOf Tryd.f30) impl_NestedOk_an (⟨mkE 11 0 [(0, .dat (.list (.int .i64)) x3798)], []⟩ : St) (Ret (tlook tys) Tryd.f30.results.toList r H') :=
  ret_of' (impl_NestedOk_n1_l x3798) (by unfold impl_NestedOk; kernel_rfl) (by
  intro t
  exact ret_mk [.dat .bool t] (by kernel_rfl) (by kernel_rfl) (by kernel_rfl) (by kernel_rfl)) h

def F_impl_NestedOk : Fun := fun avs H =>
  match avs, H with
  | [.dat (.list (.int .i64)) x3798], [] => ⟨_, impl_NestedOk x3798, fun (t : Bool) => (.dat .bool t, [])⟩
  | _, _ => Ans.no

theorem impl_NestedOk_sound : Sound Tryd.prog 30 F_impl_NestedOk := by
  refine fn_sound' (C := impl_NestedOk_ctx) (c := bodyOf Tryd.f30) (cok_of tys_ok (List.forall_mem_cons.2 ⟨impl_TreeOk_sound, List.forall_mem_cons.2 ⟨impl_yieldsOf_sound, List.forall_mem_cons.2 ⟨impl_countPairs_impl_wordSet_sound, by simp⟩⟩⟩) (List.forall_mem_cons.2 ⟨Tryd.call22, List.forall_mem_cons.2 ⟨Tryd.call43, List.forall_mem_cons.2 ⟨Tryd.call63, by simp⟩⟩⟩) (by kernel_rfl)) Tryd.func30 (by kernel_rfl) LL impl_NestedOk_an ?_
  intro avs H r H' h
  unfold F_impl_NestedOk at h
  split at h
  · refine Awp.cast ?_ ?_ ?_ (impl_NestedOk_e _ h) <;> kernel_rfl
  · simp [Ans.no, Ans.run] at h


/-! loop.example/headtrees/spec.NestedOk -/

def spec_NestedOk_an : Ann := (.seq (.leaf [0]) (.seq (.seq (.leaf [0, 3]) (.block (.loop (.seq (.seq (.leaf [0, 3, 8]) (.cond (.leaf [0, 3]) (.leaf [0]))) (.seq (.block (.seq (.leaf [0, 3, 4]) (.block (.loop (.seq (.seq (.leaf [0, 3, 4, 13]) (.cond (.leaf [0, 3, 4]) (.leaf [0, 3]))) (.seq (.block (.seq (.leaf [0, 3, 4, 19]) (.cond (.seq (.leaf [2]) (.leaf [2])) (.leaf [0, 3, 4])))) (.leaf [0, 3, 4]))))))) (.leaf [0, 3])))))) (.seq (.leaf [2]) (.leaf [2]))))

noncomputable def spec_NestedOk_ctx : Ctx := ⟨tlook tys, olook [(27, F_spec_TurnsOk), (32, F_spec_TreeOk)], ioF, 0, false⟩

theorem spec_NestedOk_n1_l (x3897 : List Int) : Link spec_NestedOk_ctx LL (Code.fst (bodyOf Tryd.f31)) (Ann.fst spec_NestedOk_an) (⟨mkE 22 0 [(0, .dat (.list (.int .i64)) x3897)], []⟩ : St) (spec_NestedOk_n1) (fun (t : Unit) => (Exit.normal, (⟨mkE 22 0 [(0, .dat (.list (.int .i64)) x3897)], []⟩ : St))) := by
  refine Link.of fun K h => ?_
  simp only [spec_NestedOk_n1, wpO_bind, wpO_cond, wpO_map, wpO_some] at h
  exact Awp.of (by kernel_rfl) h

theorem spec_NestedOk_n2_l (x3897 : List Int) : Link spec_NestedOk_ctx LL (Code.fst (Code.fst (Code.snd (bodyOf Tryd.f31)))) (Ann.fst (Ann.fst (Ann.snd spec_NestedOk_an))) (⟨mkE 22 0 [(0, .dat (.list (.int .i64)) x3897)], []⟩ : St) (spec_NestedOk_n2) (fun (t : Unit) => (Exit.normal, (⟨mkE 22 0 [(0, .dat (.list (.int .i64)) x3897), (3, .dat (.int .i64) 1)], []⟩ : St))) := by
  refine Link.of fun K h => ?_
  simp only [spec_NestedOk_n2, wpO_bind, wpO_cond, wpO_map, wpO_some] at h
  exact Awp.of (by kernel_rfl) h

theorem spec_NestedOk_n3_l (x3897 : List Int) (x3914 : Int) : Link spec_NestedOk_ctx LL (Code.fst (Code.fst (Code.fst (Code.snd (Code.fst (Code.snd (bodyOf Tryd.f31))))))) (Ann.fst (Ann.fst (Ann.fst (Ann.snd (Ann.fst (Ann.snd spec_NestedOk_an)))))) (⟨mkE 22 0 [(0, .dat (.list (.int .i64)) x3897), (3, .dat (.int .i64) x3914)], []⟩ : St) (spec_NestedOk_n3 x3897 x3914) (Sum.elim (fun (t : Unit) => (Exit.normal, (⟨mkE 22 0 [(0, .dat (.list (.int .i64)) x3897), (3, .dat (.int .i64) x3914)], []⟩ : St))) (fun (t : Unit) => ((Exit.exit 0), (⟨mkE 22 0 [(0, .dat (.list (.int .i64)) x3897)], []⟩ : St)))) := by
  refine Link.of fun K h => ?_
  simp only [spec_NestedOk_n3, wpO_bind, wpO_cond, wpO_map, wpO_some] at h
  exact Awp.of (by kernel_rfl) h

theorem spec_NestedOk_n4_l (x3897 : List Int) (x3914 : Int) : Link spec_NestedOk_ctx LL (Code.fst (Code.fst (Code.fst (Code.snd (Code.fst (Code.fst (Code.snd (Code.fst (Code.snd (bodyOf Tryd.f31)))))))))) (Ann.fst (Ann.fst (Ann.fst (Ann.snd (Ann.fst (Ann.fst (Ann.snd (Ann.fst (Ann.snd spec_NestedOk_an))))))))) (⟨mkE 22 0 [(0, .dat (.list (.int .i64)) x3897), (3, .dat (.int .i64) x3914)], []⟩ : St) (spec_NestedOk_n4) (fun (t : Unit) => (Exit.normal, (⟨mkE 22 0 [(0, .dat (.list (.int .i64)) x3897), (3, .dat (.int .i64) x3914), (4, .dat (.int .i64) 1)], []⟩ : St))) := by
  refine Link.of fun K h => ?_
  simp only [spec_NestedOk_n4, wpO_bind, wpO_cond, wpO_map, wpO_some] at h
  exact Awp.of (by kernel_rfl) h

theorem spec_NestedOk_n5_l (x3897 : List Int) (x3914 : Int) (x3923 : Int) : Link spec_NestedOk_ctx LL (Code.fst (Code.fst (Code.snd (Code.fst (Code.fst (Code.snd (Code.fst (Code.fst (Code.snd (Code.fst (Code.snd (bodyOf Tryd.f31)))))))))))) (Ann.fst (Ann.fst (Ann.snd (Ann.fst (Ann.fst (Ann.snd (Ann.fst (Ann.fst (Ann.snd (Ann.fst (Ann.snd spec_NestedOk_an))))))))))) (⟨mkE 22 0 [(0, .dat (.list (.int .i64)) x3897), (3, .dat (.int .i64) x3914), (4, .dat (.int .i64) x3923)], []⟩ : St) (spec_NestedOk_n5 x3897 x3914 x3923) (Sum.elim (fun (t : Int) => (Exit.normal, (⟨mkE 22 0 [(0, .dat (.list (.int .i64)) x3897), (3, .dat (.int .i64) x3914), (4, .dat (.int .i64) t)], []⟩ : St))) (Sum.elim (fun (t : Bool) => (Exit.ret, (⟨mkE 22 0 [(2, .dat .bool t)], []⟩ : St))) (fun (t : Unit) => ((Exit.exit 2), (⟨mkE 22 0 [(0, .dat (.list (.int .i64)) x3897), (3, .dat (.int .i64) x3914)], []⟩ : St))))) := by
  refine Link.of fun K h => ?_
  simp only [spec_NestedOk_n5, wpO_bind, wpO_cond, wpO_map, wpO_some] at h
  exact Awp.of (by kernel_rfl) h

theorem spec_NestedOk_n6_l (x3897 : List Int) (x3914 : Int) : Link spec_NestedOk_ctx LL (Code.fst (Code.snd (Code.fst (Code.fst (Code.snd (Code.fst (Code.fst (Code.snd (Code.fst (Code.snd (bodyOf Tryd.f31))))))))))) (Ann.fst (Ann.snd (Ann.fst (Ann.fst (Ann.snd (Ann.fst (Ann.fst (Ann.snd (Ann.fst (Ann.snd spec_NestedOk_an)))))))))) (⟨mkE 22 0 [(0, .dat (.list (.int .i64)) x3897), (3, .dat (.int .i64) x3914), (4, .dat (.int .i64) 1)], []⟩ : St) (spec_NestedOk_n6 x3897 x3914) (Sum.elim (fun (t : Bool) => (Exit.ret, (⟨mkE 22 0 [(2, .dat .bool t)], []⟩ : St))) (fun (t : Unit) => ((Exit.exit 2), (⟨mkE 22 0 [(0, .dat (.list (.int .i64)) x3897), (3, .dat (.int .i64) x3914)], []⟩ : St)))) := by
  unfold spec_NestedOk_n6
  exact Link.cast (by kernel_rfl) (by kernel_rfl) (link_loop (mk := fun (s : Int) => (⟨mkE 22 0 [(0, .dat (.list (.int .i64)) x3897), (3, .dat (.int .i64) x3914), (4, .dat (.int .i64) s)], []⟩ : St)) (fin := (Sum.elim (fun (t : Bool) => (Exit.ret, (⟨mkE 22 0 [(2, .dat .bool t)], []⟩ : St))) (fun (t : Unit) => ((Exit.exit 2), (⟨mkE 22 0 [(0, .dat (.list (.int .i64)) x3897), (3, .dat (.int .i64) x3914)], []⟩ : St))))) (by
  rintro (t | t) f K h
  · exact h
  · exact h) (fun s => link_map (spec_NestedOk_n5_l x3897 x3914 s) (Sum.elim (fun (t : Int) => Sum.inl t) (Sum.elim (fun (t : Bool) => Sum.inr (Sum.inl t)) (fun (t : Unit) => Sum.inr (Sum.inr t)))) (by
  rintro (t | t | t)
  · kernel_rfl
  · kernel_rfl
  · kernel_rfl)) 1)

theorem spec_NestedOk_n7_l (x3897 : List Int) (x3914 : Int) : Link spec_NestedOk_ctx LL (Code.snd (Code.fst (Code.fst (Code.snd (Code.fst (Code.fst (Code.snd (Code.fst (Code.snd (bodyOf Tryd.f31)))))))))) (Ann.snd (Ann.fst (Ann.fst (Ann.snd (Ann.fst (Ann.fst (Ann.snd (Ann.fst (Ann.snd spec_NestedOk_an))))))))) (⟨mkE 22 0 [(0, .dat (.list (.int .i64)) x3897), (3, .dat (.int .i64) x3914), (4, .dat (.int .i64) 1)], []⟩ : St) (spec_NestedOk_n7 x3897 x3914) (Sum.elim (fun (t : Unit) => (Exit.normal, (⟨mkE 22 0 [(0, .dat (.list (.int .i64)) x3897), (3, .dat (.int .i64) x3914)], []⟩ : St))) (fun (t : Bool) => (Exit.ret, (⟨mkE 22 0 [(2, .dat .bool t)], []⟩ : St)))) := by
  unfold spec_NestedOk_n7
  exact Link.cast (by kernel_rfl) (by kernel_rfl) (link_block (id := 2) (spec_NestedOk_n6_l x3897 x3914) (Sum.elim (fun (t : Bool) => (Sum.inr t)) (fun (t : Unit) => (Sum.inl ()))) (by
  rintro (t | t) K h
  · exact Eq.mp (by kernel_rfl) h
  · exact Eq.mp (by kernel_rfl) h))

theorem spec_NestedOk_n8_l (x3897 : List Int) (x3914 : Int) : Link spec_NestedOk_ctx LL (Code.fst (Code.fst (Code.snd (Code.fst (Code.fst (Code.snd (Code.fst (Code.snd (bodyOf Tryd.f31))))))))) (Ann.fst (Ann.fst (Ann.snd (Ann.fst (Ann.fst (Ann.snd (Ann.fst (Ann.snd spec_NestedOk_an)))))))) (⟨mkE 22 0 [(0, .dat (.list (.int .i64)) x3897), (3, .dat (.int .i64) x3914)], []⟩ : St) (spec_NestedOk_n8 x3897 x3914) (Sum.elim (fun (t : Unit) => (Exit.normal, (⟨mkE 22 0 [(0, .dat (.list (.int .i64)) x3897), (3, .dat (.int .i64) x3914)], []⟩ : St))) (fun (t : Bool) => (Exit.ret, (⟨mkE 22 0 [(2, .dat .bool t)], []⟩ : St)))) := by
  unfold spec_NestedOk_n8
  exact Link.cast (by kernel_rfl) (by kernel_rfl) (link_seq (b := (Code.snd (Code.fst (Code.fst (Code.snd (Code.fst (Code.fst (Code.snd (Code.fst (Code.snd (bodyOf Tryd.f31))))))))))) (y := (Ann.snd (Ann.fst (Ann.fst (Ann.snd (Ann.fst (Ann.fst (Ann.snd (Ann.fst (Ann.snd spec_NestedOk_an)))))))))) (spec_NestedOk_n4_l x3897 x3914) (fun (t : Unit) => (spec_NestedOk_n7_l x3897 x3914)))

theorem spec_NestedOk_n9_l (x3897 : List Int) (x3914 : Int) : Link spec_NestedOk_ctx LL (Code.fst (Code.snd (Code.fst (Code.fst (Code.snd (Code.fst (Code.snd (bodyOf Tryd.f31)))))))) (Ann.fst (Ann.snd (Ann.fst (Ann.fst (Ann.snd (Ann.fst (Ann.snd spec_NestedOk_an))))))) (⟨mkE 22 0 [(0, .dat (.list (.int .i64)) x3897), (3, .dat (.int .i64) x3914)], []⟩ : St) (spec_NestedOk_n9 x3897 x3914) (Sum.elim (fun (t : Unit) => (Exit.normal, (⟨mkE 22 0 [(0, .dat (.list (.int .i64)) x3897), (3, .dat (.int .i64) x3914)], []⟩ : St))) (fun (t : Bool) => (Exit.ret, (⟨mkE 22 0 [(2, .dat .bool t)], []⟩ : St)))) := by
  unfold spec_NestedOk_n9
  exact Link.cast (by kernel_rfl) (by kernel_rfl) (link_block (id := 1) (spec_NestedOk_n8_l x3897 x3914) (Sum.elim (fun (t : Unit) => (Sum.inl ())) (fun (t : Bool) => (Sum.inr t))) (by
  rintro (t | t) K h
  · exact Eq.mp (by kernel_rfl) h
  · exact Eq.mp (by kernel_rfl) h))

theorem spec_NestedOk_n10_l (x3897 : List Int) (x3914 : Int) : Link spec_NestedOk_ctx LL (Code.snd (Code.snd (Code.fst (Code.fst (Code.snd (Code.fst (Code.snd (bodyOf Tryd.f31)))))))) (Ann.snd (Ann.snd (Ann.fst (Ann.fst (Ann.snd (Ann.fst (Ann.snd spec_NestedOk_an))))))) (⟨mkE 22 0 [(0, .dat (.list (.int .i64)) x3897), (3, .dat (.int .i64) x3914)], []⟩ : St) (spec_NestedOk_n10 x3914) (fun (t : Int) => (Exit.normal, (⟨mkE 22 0 [(0, .dat (.list (.int .i64)) x3897), (3, .dat (.int .i64) t)], []⟩ : St))) := by
  refine Link.of fun K h => ?_
  simp only [spec_NestedOk_n10, wpO_bind, wpO_cond, wpO_map, wpO_some] at h
  exact Awp.of (by kernel_rfl) h

theorem spec_NestedOk_n11_l (x3897 : List Int) (x3914 : Int) : Link spec_NestedOk_ctx LL (Code.snd (Code.fst (Code.fst (Code.snd (Code.fst (Code.snd (bodyOf Tryd.f31))))))) (Ann.snd (Ann.fst (Ann.fst (Ann.snd (Ann.fst (Ann.snd spec_NestedOk_an)))))) (⟨mkE 22 0 [(0, .dat (.list (.int .i64)) x3897), (3, .dat (.int .i64) x3914)], []⟩ : St) (spec_NestedOk_n11 x3897 x3914) (Sum.elim (fun (t : Int) => (Exit.normal, (⟨mkE 22 0 [(0, .dat (.list (.int .i64)) x3897), (3, .dat (.int .i64) t)], []⟩ : St))) (fun (t : Bool) => (Exit.ret, (⟨mkE 22 0 [(2, .dat .bool t)], []⟩ : St)))) := by
  unfold spec_NestedOk_n11
  exact Link.cast (by kernel_rfl) (by kernel_rfl) (link_seq2 (b := (Code.snd (Code.snd (Code.fst (Code.fst (Code.snd (Code.fst (Code.snd (bodyOf Tryd.f31))))))))) (y := (Ann.snd (Ann.snd (Ann.fst (Ann.fst (Ann.snd (Ann.fst (Ann.snd spec_NestedOk_an)))))))) (spec_NestedOk_n9_l x3897 x3914) (fun (t : Unit) => (link_map (spec_NestedOk_n10_l x3897 x3914) (fun (t : Int) => (Sum.inl t)) (by
  rintro t
  · kernel_rfl))) (fun (t : Bool) => (Sum.inr t)) (by
  rintro t
  · kernel_rfl) (by
  rintro t f K h
  · exact h))

theorem spec_NestedOk_n12_l (x3897 : List Int) (x3914 : Int) : Link spec_NestedOk_ctx LL (Code.fst (Code.fst (Code.snd (Code.fst (Code.snd (bodyOf Tryd.f31)))))) (Ann.fst (Ann.fst (Ann.snd (Ann.fst (Ann.snd spec_NestedOk_an))))) (⟨mkE 22 0 [(0, .dat (.list (.int .i64)) x3897), (3, .dat (.int .i64) x3914)], []⟩ : St) (spec_NestedOk_n12 x3897 x3914) (Sum.elim (fun (t : Int) => (Exit.normal, (⟨mkE 22 0 [(0, .dat (.list (.int .i64)) x3897), (3, .dat (.int .i64) t)], []⟩ : St))) (Sum.elim (fun (t : Bool) => (Exit.ret, (⟨mkE 22 0 [(2, .dat .bool t)], []⟩ : St))) (fun (t : Unit) => ((Exit.exit 0), (⟨mkE 22 0 [(0, .dat (.list (.int .i64)) x3897)], []⟩ : St))))) := by
  unfold spec_NestedOk_n12
  exact Link.cast (by kernel_rfl) (by kernel_rfl) (link_seq2 (b := (Code.snd (Code.fst (Code.fst (Code.snd (Code.fst (Code.snd (bodyOf Tryd.f31)))))))) (y := (Ann.snd (Ann.fst (Ann.fst (Ann.snd (Ann.fst (Ann.snd spec_NestedOk_an))))))) (spec_NestedOk_n3_l x3897 x3914) (fun (t : Unit) => (link_map (spec_NestedOk_n11_l x3897 x3914) (Sum.elim (fun (t : Int) => (Sum.inl t)) (fun (t : Bool) => (Sum.inr (Sum.inl t)))) (by
  rintro (t | t)
  · kernel_rfl
  · kernel_rfl))) (fun (t : Unit) => (Sum.inr (Sum.inr t))) (by
  rintro t
  · kernel_rfl) (by
  rintro t f K h
  · exact h))

theorem spec_NestedOk_n13_l (x3897 : List Int) : Link spec_NestedOk_ctx LL (Code.fst (Code.snd (Code.fst (Code.snd (bodyOf Tryd.f31))))) (Ann.fst (Ann.snd (Ann.fst (Ann.snd spec_NestedOk_an)))) (⟨mkE 22 0 [(0, .dat (.list (.int .i64)) x3897), (3, .dat (.int .i64) 1)], []⟩ : St) (spec_NestedOk_n13 x3897) (Sum.elim (fun (t : Bool) => (Exit.ret, (⟨mkE 22 0 [(2, .dat .bool t)], []⟩ : St))) (fun (t : Unit) => ((Exit.exit 0), (⟨mkE 22 0 [(0, .dat (.list (.int .i64)) x3897)], []⟩ : St)))) := by
  unfold spec_NestedOk_n13
  exact Link.cast (by kernel_rfl) (by kernel_rfl) (link_loop (mk := fun (s : Int) => (⟨mkE 22 0 [(0, .dat (.list (.int .i64)) x3897), (3, .dat (.int .i64) s)], []⟩ : St)) (fin := (Sum.elim (fun (t : Bool) => (Exit.ret, (⟨mkE 22 0 [(2, .dat .bool t)], []⟩ : St))) (fun (t : Unit) => ((Exit.exit 0), (⟨mkE 22 0 [(0, .dat (.list (.int .i64)) x3897)], []⟩ : St))))) (by
  rintro (t | t) f K h
  · exact h
  · exact h) (fun s => link_map (spec_NestedOk_n12_l x3897 s) (Sum.elim (fun (t : Int) => Sum.inl t) (Sum.elim (fun (t : Bool) => Sum.inr (Sum.inl t)) (fun (t : Unit) => Sum.inr (Sum.inr t)))) (by
  rintro (t | t | t)
  · kernel_rfl
  · kernel_rfl
  · kernel_rfl)) 1)

theorem spec_NestedOk_n14_l (x3897 : List Int) : Link spec_NestedOk_ctx LL (Code.snd (Code.fst (Code.snd (bodyOf Tryd.f31)))) (Ann.snd (Ann.fst (Ann.snd spec_NestedOk_an))) (⟨mkE 22 0 [(0, .dat (.list (.int .i64)) x3897), (3, .dat (.int .i64) 1)], []⟩ : St) (spec_NestedOk_n14 x3897) (Sum.elim (fun (t : Unit) => (Exit.normal, (⟨mkE 22 0 [(0, .dat (.list (.int .i64)) x3897)], []⟩ : St))) (fun (t : Bool) => (Exit.ret, (⟨mkE 22 0 [(2, .dat .bool t)], []⟩ : St)))) := by
  unfold spec_NestedOk_n14
  exact Link.cast (by kernel_rfl) (by kernel_rfl) (link_block (id := 0) (spec_NestedOk_n13_l x3897) (Sum.elim (fun (t : Bool) => (Sum.inr t)) (fun (t : Unit) => (Sum.inl ()))) (by
  rintro (t | t) K h
  · exact Eq.mp (by kernel_rfl) h
  · exact Eq.mp (by kernel_rfl) h))

theorem spec_NestedOk_n15_l (x3897 : List Int) : Link spec_NestedOk_ctx LL (Code.fst (Code.snd (bodyOf Tryd.f31))) (Ann.fst (Ann.snd spec_NestedOk_an)) (⟨mkE 22 0 [(0, .dat (.list (.int .i64)) x3897)], []⟩ : St) (spec_NestedOk_n15 x3897) (Sum.elim (fun (t : Unit) => (Exit.normal, (⟨mkE 22 0 [(0, .dat (.list (.int .i64)) x3897)], []⟩ : St))) (fun (t : Bool) => (Exit.ret, (⟨mkE 22 0 [(2, .dat .bool t)], []⟩ : St)))) := by
  unfold spec_NestedOk_n15
  exact Link.cast (by kernel_rfl) (by kernel_rfl) (link_seq (b := (Code.snd (Code.fst (Code.snd (bodyOf Tryd.f31))))) (y := (Ann.snd (Ann.fst (Ann.snd spec_NestedOk_an)))) (spec_NestedOk_n2_l x3897) (fun (t : Unit) => (spec_NestedOk_n14_l x3897)))

theorem spec_NestedOk_n16_l (x3897 : List Int) : Link spec_NestedOk_ctx LL (Code.snd (Code.snd (bodyOf Tryd.f31))) (Ann.snd (Ann.snd spec_NestedOk_an)) (⟨mkE 22 0 [(0, .dat (.list (.int .i64)) x3897)], []⟩ : St) (spec_NestedOk_n16 x3897) (fun (t : Bool) => (Exit.ret, (⟨mkE 22 0 [(2, .dat .bool t)], []⟩ : St))) := by
  refine Link.of fun K h => ?_
  simp only [spec_NestedOk_n16, wpO_bind, wpO_cond, wpO_map, wpO_some] at h
  exact Awp.of (by kernel_rfl) h

theorem spec_NestedOk_n17_l (x3897 : List Int) : Link spec_NestedOk_ctx LL (Code.snd (bodyOf Tryd.f31)) (Ann.snd spec_NestedOk_an) (⟨mkE 22 0 [(0, .dat (.list (.int .i64)) x3897)], []⟩ : St) (spec_NestedOk_n17 x3897) (fun (t : Bool) => (Exit.ret, (⟨mkE 22 0 [(2, .dat .bool t)], []⟩ : St))) := by
  unfold spec_NestedOk_n17
  exact Link.cast (by kernel_rfl) (by kernel_rfl) (link_seq2 (b := (Code.snd (Code.snd (bodyOf Tryd.f31)))) (y := (Ann.snd (Ann.snd spec_NestedOk_an))) (spec_NestedOk_n15_l x3897) (fun (t : Unit) => (spec_NestedOk_n16_l x3897)) (fun (t : Bool) => t) (by
  rintro t
  · kernel_rfl) (by
  rintro t f K h
  · exact h))

theorem spec_NestedOk_n18_l (x3897 : List Int) : Link spec_NestedOk_ctx LL (bodyOf Tryd.f31) spec_NestedOk_an (⟨mkE 22 0 [(0, .dat (.list (.int .i64)) x3897)], []⟩ : St) (spec_NestedOk_n18 x3897) (fun (t : Bool) => (Exit.ret, (⟨mkE 22 0 [(2, .dat .bool t)], []⟩ : St))) := by
  unfold spec_NestedOk_n18
  exact Link.cast (by kernel_rfl) (by kernel_rfl) (link_seq (b := (Code.snd (bodyOf Tryd.f31))) (y := (Ann.snd spec_NestedOk_an)) (spec_NestedOk_n1_l x3897) (fun (t : Unit) => (spec_NestedOk_n17_l x3897)))

theorem spec_NestedOk_e (x3897 : List Int) {r : AV} {H' : Heap} (h : (Ans.mk _ (spec_NestedOk x3897) (fun (t : Bool) => (.dat .bool t, []))).run = some (r, H')) : Awp spec_NestedOk_ctx LL (bodyOf Tryd.f31) spec_NestedOk_an (⟨mkE 22 0 [(0, .dat (.list (.int .i64)) x3897)], []⟩ : St) (Ret (tlook tys) Tryd.f31.results.toList r H') :=
  ret_of' (spec_NestedOk_n18_l x3897) (by unfold spec_NestedOk; kernel_rfl) (by
  intro t
  exact ret_mk [.dat .bool t] (by kernel_rfl) (by kernel_rfl) (by kernel_rfl) (by kernel_rfl)) h

def F_spec_NestedOk : Fun := fun avs H =>
  match avs, H with
  | [.dat (.list (.int .i64)) x3897], [] => ⟨_, spec_NestedOk x3897, fun (t : Bool) => (.dat .bool t, [])⟩
  | _, _ => Ans.no

theorem spec_NestedOk_sound : Sound Tryd.prog 31 F_spec_NestedOk := by
  refine fn_sound' (C := spec_NestedOk_ctx) (c := bodyOf Tryd.f31) (cok_of tys_ok (List.forall_mem_cons.2 ⟨spec_TurnsOk_sound, List.forall_mem_cons.2 ⟨spec_TreeOk_sound, by simp⟩⟩) (List.forall_mem_cons.2 ⟨Tryd.call27, List.forall_mem_cons.2 ⟨Tryd.call32, by simp⟩⟩) (by kernel_rfl)) Tryd.func31 (by kernel_rfl) LL spec_NestedOk_an ?_
  intro avs H r H' h
  unfold F_spec_NestedOk at h
  split at h
  · refine Awp.cast ?_ ?_ ?_ (spec_NestedOk_e _ h) <;> kernel_rfl
  · simp [Ans.no, Ans.run] at h


/-! loop.example/headtrees/laws.FnNestedOk -/

def laws_FnNestedOk_an : Ann := (.seq (.leaf [0]) (.seq (.seq (.leaf [0, 7]) (.cond (.seq (.leaf [2]) (.leaf [2])) (.leaf [0]))) (.seq (.leaf [3]) (.seq (.leaf [3, 4]) (.seq (.seq (.leaf [3, 4, 15]) (.cond (.seq (.leaf [2]) (.leaf [2])) (.leaf [3, 4]))) (.seq (.seq (.leaf [3, 4, 18]) (.cond (.seq (.leaf [2]) (.leaf [2])) (.leaf [3, 4]))) (.seq (.leaf [2]) (.leaf [2]))))))))

noncomputable def laws_FnNestedOk_ctx : Ctx := ⟨tlook tys, olook [(29, F_spec_DrawNestedOk), (30, F_impl_NestedOk), (31, F_spec_NestedOk), (32, F_spec_TreeOk), (14, F_laws_alive), (24, F_impl_CrossingsOf), (23, F_impl_FlatOk), (18, F_impl_BackOf)], ioF, 0, false⟩

theorem laws_FnNestedOk_n1_l (x3780 : List Int) : Link laws_FnNestedOk_ctx LL (bodyOf Tryd.f6) laws_FnNestedOk_an (⟨mkE 45 0 [(0, .dat (.list (.int .u8)) x3780)], []⟩ : St) (laws_FnNestedOk_n1 x3780) (fun (t : Bool) => (Exit.ret, (⟨mkE 45 0 [(2, .dat .bool t)], []⟩ : St))) := by
  refine Link.of fun K h => ?_
  simp only [laws_FnNestedOk_n1, wpO_bind, wpO_cond, wpO_map, wpO_some] at h
  exact Awp.of (by kernel_rfl) h

theorem laws_FnNestedOk_e (x3780 : List Int) {r : AV} {H' : Heap} (h : (Ans.mk _ (laws_FnNestedOk x3780) (fun (t : Bool) => (.dat .bool t, []))).run = some (r, H')) : Awp laws_FnNestedOk_ctx LL (bodyOf Tryd.f6) laws_FnNestedOk_an (⟨mkE 45 0 [(0, .dat (.list (.int .u8)) x3780)], []⟩ : St) (Ret (tlook tys) Tryd.f6.results.toList r H') :=
  ret_of' (laws_FnNestedOk_n1_l x3780) (by unfold laws_FnNestedOk; kernel_rfl) (by
  intro t
  exact ret_mk [.dat .bool t] (by kernel_rfl) (by kernel_rfl) (by kernel_rfl) (by kernel_rfl)) h

def F_laws_FnNestedOk : Fun := fun avs H =>
  match avs, H with
  | [.dat (.list (.int .u8)) x3780], [] => ⟨_, laws_FnNestedOk x3780, fun (t : Bool) => (.dat .bool t, [])⟩
  | _, _ => Ans.no

theorem laws_FnNestedOk_sound : Sound Tryd.prog 6 F_laws_FnNestedOk := by
  refine fn_sound' (C := laws_FnNestedOk_ctx) (c := bodyOf Tryd.f6) (cok_of tys_ok (List.forall_mem_cons.2 ⟨spec_DrawNestedOk_sound, List.forall_mem_cons.2 ⟨impl_NestedOk_sound, List.forall_mem_cons.2 ⟨spec_NestedOk_sound, List.forall_mem_cons.2 ⟨spec_TreeOk_sound, List.forall_mem_cons.2 ⟨laws_alive_sound, List.forall_mem_cons.2 ⟨impl_CrossingsOf_sound, List.forall_mem_cons.2 ⟨impl_FlatOk_sound, List.forall_mem_cons.2 ⟨impl_BackOf_sound, by simp⟩⟩⟩⟩⟩⟩⟩⟩) (List.forall_mem_cons.2 ⟨Tryd.call29, List.forall_mem_cons.2 ⟨Tryd.call30, List.forall_mem_cons.2 ⟨Tryd.call31, List.forall_mem_cons.2 ⟨Tryd.call32, List.forall_mem_cons.2 ⟨Tryd.call14, List.forall_mem_cons.2 ⟨Tryd.call24, List.forall_mem_cons.2 ⟨Tryd.call23, List.forall_mem_cons.2 ⟨Tryd.call18, by simp⟩⟩⟩⟩⟩⟩⟩⟩) (by kernel_rfl)) Tryd.func6 (by kernel_rfl) LL laws_FnNestedOk_an ?_
  intro avs H r H' h
  unfold F_laws_FnNestedOk at h
  split at h
  · refine Awp.cast ?_ ?_ ?_ (laws_FnNestedOk_e _ h) <;> kernel_rfl
  · simp [Ans.no, Ans.run] at h


end Go.Rv
