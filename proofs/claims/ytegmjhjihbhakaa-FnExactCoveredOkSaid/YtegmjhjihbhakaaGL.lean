/-
  The checked code answers as the plain functions do; written by program. Conditions: none.
-/
import Derived.Test.YtegmjhjihbhakaaGLb
set_option linter.unusedVariables false
set_option linter.unusedSimpArgs false
set_option maxRecDepth 100000
namespace Go.Rv
open Go.Proofs
theorem impl_OrderOk_n4_l (x3017 : Int) (x3016 : List Int) (x3027 : Int) : Link impl_OrderOk_ctx LL (Code.fst (Code.snd (Code.fst (Code.snd (Code.snd (Code.snd (bodyOf Try.f52))))))) (Ann.fst (Ann.snd (Ann.fst (Ann.snd (Ann.snd (Ann.snd impl_OrderOk_an)))))) (⟨mkE 41 0 [(1, .dat (.int .i64) x3017), (5, .ptr 0 0), (20, .dat (.list (.int .i64)) x3016), (21, .dat (.int .i64) x3027), (22, .dat (.int .i64) 0)], [some (.seq .bool (List.replicate 9 false))]⟩ : St) (impl_OrderOk_n4 x3017 x3016 x3027) (Sum.elim (fun (t : Bool) => (Exit.ret, (⟨mkE 41 0 [(4, .dat .bool t)], []⟩ : St))) (fun (t : Unit) => ((Exit.exit 0), (⟨mkE 41 0 [], []⟩ : St)))) := by
  unfold impl_OrderOk_n4
  exact Link.cast (by kernel_rfl) (by kernel_rfl) (link_loop (mk := fun (s : Int × (List Bool)) => (⟨mkE 41 0 [(1, .dat (.int .i64) x3017), (5, .ptr 0 0), (20, .dat (.list (.int .i64)) x3016), (21, .dat (.int .i64) x3027), (22, .dat (.int .i64) s.1)], [some (.seq .bool s.2)]⟩ : St)) (fin := (Sum.elim (fun (t : Bool) => (Exit.ret, (⟨mkE 41 0 [(4, .dat .bool t)], []⟩ : St))) (fun (t : Unit) => ((Exit.exit 0), (⟨mkE 41 0 [], []⟩ : St))))) (by
  rintro (t | t) f K h
  · exact h
  · exact h) (fun s => link_map (impl_OrderOk_n3_l x3017 x3016 x3027 s.1 s.2) (Sum.elim (fun (t : Int × (List Bool)) => Sum.inl (t.1, t.2)) (Sum.elim (fun (t : Bool) => Sum.inr (Sum.inl t)) (fun (t : Unit) => Sum.inr (Sum.inr t)))) (by
  rintro (t | t | t)
  · kernel_rfl
  · kernel_rfl
  · kernel_rfl)) (0, (List.replicate 9 false)))

theorem impl_OrderOk_n5_l (x3017 : Int) (x3016 : List Int) (x3027 : Int) : Link impl_OrderOk_ctx LL (Code.snd (Code.fst (Code.snd (Code.snd (Code.snd (bodyOf Try.f52)))))) (Ann.snd (Ann.fst (Ann.snd (Ann.snd (Ann.snd impl_OrderOk_an))))) (⟨mkE 41 0 [(1, .dat (.int .i64) x3017), (5, .ptr 0 0), (20, .dat (.list (.int .i64)) x3016), (21, .dat (.int .i64) x3027), (22, .dat (.int .i64) 0)], [some (.seq .bool (List.replicate 9 false))]⟩ : St) (impl_OrderOk_n5 x3017 x3016 x3027) (Sum.elim (fun (t : Unit) => (Exit.normal, (⟨mkE 41 0 [], []⟩ : St))) (fun (t : Bool) => (Exit.ret, (⟨mkE 41 0 [(4, .dat .bool t)], []⟩ : St)))) := by
  unfold impl_OrderOk_n5
  exact Link.cast (by kernel_rfl) (by kernel_rfl) (link_block (id := 0) (impl_OrderOk_n4_l x3017 x3016 x3027) (Sum.elim (fun (t : Bool) => (Sum.inr t)) (fun (t : Unit) => (Sum.inl ()))) (by
  rintro (t | t) K h
  · exact Eq.mp (by kernel_rfl) h
  · exact Eq.mp (by kernel_rfl) h))

theorem impl_OrderOk_n6_l (x3016 : List Int) (x3017 : Int) : Link impl_OrderOk_ctx LL (Code.fst (Code.snd (Code.snd (Code.snd (bodyOf Try.f52))))) (Ann.fst (Ann.snd (Ann.snd (Ann.snd impl_OrderOk_an)))) (⟨mkE 41 0 [(0, .dat (.list (.int .i64)) x3016), (1, .dat (.int .i64) x3017), (5, .ptr 0 0)], [some (.seq .bool (List.replicate 9 false))]⟩ : St) (impl_OrderOk_n6 x3016 x3017) (Sum.elim (fun (t : Unit) => (Exit.normal, (⟨mkE 41 0 [], []⟩ : St))) (fun (t : Bool) => (Exit.ret, (⟨mkE 41 0 [(4, .dat .bool t)], []⟩ : St)))) := by
  unfold impl_OrderOk_n6
  exact Link.cast (by kernel_rfl) (by kernel_rfl) (link_seq (b := (Code.snd (Code.fst (Code.snd (Code.snd (Code.snd (bodyOf Try.f52))))))) (y := (Ann.snd (Ann.fst (Ann.snd (Ann.snd (Ann.snd impl_OrderOk_an)))))) (impl_OrderOk_n2_l x3016 x3017) (fun (t : Int) => (impl_OrderOk_n5_l x3017 x3016 t)))

theorem impl_OrderOk_n7_l : Link impl_OrderOk_ctx LL (Code.snd (Code.snd (Code.snd (Code.snd (bodyOf Try.f52))))) (Ann.snd (Ann.snd (Ann.snd (Ann.snd impl_OrderOk_an)))) (⟨mkE 41 0 [], []⟩ : St) (impl_OrderOk_n7) (fun (t : Bool) => (Exit.ret, (⟨mkE 41 0 [(4, .dat .bool t)], []⟩ : St))) := by
  refine Link.of fun K h => ?_
  simp only [impl_OrderOk_n7, wpO_bind, wpO_cond, wpO_map, wpO_some] at h
  exact Awp.of (by kernel_rfl) h

theorem impl_OrderOk_n8_l (x3016 : List Int) (x3017 : Int) : Link impl_OrderOk_ctx LL (Code.snd (Code.snd (Code.snd (bodyOf Try.f52)))) (Ann.snd (Ann.snd (Ann.snd impl_OrderOk_an))) (⟨mkE 41 0 [(0, .dat (.list (.int .i64)) x3016), (1, .dat (.int .i64) x3017), (5, .ptr 0 0)], [some (.seq .bool (List.replicate 9 false))]⟩ : St) (impl_OrderOk_n8 x3016 x3017) (fun (t : Bool) => (Exit.ret, (⟨mkE 41 0 [(4, .dat .bool t)], []⟩ : St))) := by
  unfold impl_OrderOk_n8
  exact Link.cast (by kernel_rfl) (by kernel_rfl) (link_seq2 (b := (Code.snd (Code.snd (Code.snd (Code.snd (bodyOf Try.f52)))))) (y := (Ann.snd (Ann.snd (Ann.snd (Ann.snd impl_OrderOk_an))))) (impl_OrderOk_n6_l x3016 x3017) (fun (t : Unit) => (impl_OrderOk_n7_l)) (fun (t : Bool) => t) (by
  rintro t
  · kernel_rfl) (by
  rintro t f K h
  · exact h))

theorem impl_OrderOk_n9_l (x3016 : List Int) (x3017 : Int) : Link impl_OrderOk_ctx LL (bodyOf Try.f52) impl_OrderOk_an (⟨mkE 41 0 [(0, .dat (.list (.int .i64)) x3016), (1, .dat (.int .i64) x3017)], []⟩ : St) (impl_OrderOk_n9 x3016 x3017) (fun (t : Bool) => (Exit.ret, (⟨mkE 41 0 [(4, .dat .bool t)], []⟩ : St))) := by
  unfold impl_OrderOk_n9
  exact Link.cast (by kernel_rfl) (by kernel_rfl) (link_group (c := (Code.fst (Code.snd (Code.snd (bodyOf Try.f52))))) (a := (Ann.fst (Ann.snd (Ann.snd impl_OrderOk_an)))) [(Code.fst (bodyOf Try.f52)), (Code.fst (Code.snd (bodyOf Try.f52)))] [(Ann.fst impl_OrderOk_an), (Ann.fst (Ann.snd impl_OrderOk_an))] rfl (link_seq2 (b := (Code.snd (Code.snd (Code.snd (bodyOf Try.f52))))) (y := (Ann.snd (Ann.snd (Ann.snd impl_OrderOk_an)))) (impl_OrderOk_n1_l x3016 x3017) (fun (t : Unit) => (impl_OrderOk_n8_l x3016 x3017)) (fun (t : Bool) => t) (by
  rintro t
  · kernel_rfl) (by
  rintro t f K h
  · exact h)))

theorem impl_OrderOk_e (x3016 : List Int) (x3017 : Int) {r : AV} {H' : Heap} (h : (Ans.mk _ (impl_OrderOk x3016 x3017) (fun (t : Bool) => (.dat .bool t, []))).run = some (r, H')) : Awp impl_OrderOk_ctx LL (bodyOf Try.f52) impl_OrderOk_an (⟨mkE 41 0 [(0, .dat (.list (.int .i64)) x3016), (1, .dat (.int .i64) x3017)], []⟩ : St) (Ret (tlook tys) Try.f52.results.toList r H') :=
  ret_of' (impl_OrderOk_n9_l x3016 x3017) (by unfold impl_OrderOk; kernel_rfl) (by
  intro t
  exact ret_mk [.dat .bool t] (by kernel_rfl) (by kernel_rfl) (by kernel_rfl) (by kernel_rfl)) h

def F_impl_OrderOk : Fun := fun avs H =>
  match avs, H with
  | [.dat (.list (.int .i64)) x3016, .dat (.int .i64) x3017], [] => ⟨_, impl_OrderOk x3016 x3017, fun (t : Bool) => (.dat .bool t, [])⟩
  | _, _ => Ans.no

theorem impl_OrderOk_sound : Sound Try.prog 52 F_impl_OrderOk := by
  refine fn_sound' (C := impl_OrderOk_ctx) (c := bodyOf Try.f52) (cok_of tys_ok (by simp) (by simp) (by kernel_rfl)) Try.func52 (by kernel_rfl) LL impl_OrderOk_an ?_
  intro avs H r H' h
  unfold F_impl_OrderOk at h
  split at h
  · refine Awp.cast ?_ ?_ ?_ (impl_OrderOk_e _ _ h) <;> kernel_rfl
  · simp [Ans.no, Ans.run] at h

/-! loop.example/headtrees/impl.placesIn -/

def impl_placesIn_an : Ann := (.seq (.leaf [0]) (.seq (.leaf [0, 3]) (.seq (.seq (.leaf [3, 10, 11, 12]) (.block (.loop (.seq (.leaf [3, 10, 11, 12, 13]) (.seq (.cond (.leaf [3, 10, 11, 12]) (.leaf [3])) (.seq (.block (.seq (.leaf [3, 4, 5, 10, 11, 12]) (.leaf [3, 10, 11, 12]))) (.leaf [3, 10, 11, 12]))))))) (.seq (.leaf [2]) (.leaf [2])))))

noncomputable def impl_placesIn_ctx : Ctx := ⟨tlook tys, olook [], ioF, 0⟩

theorem impl_placesIn_n1_l (x3084 : List Int) : Link impl_placesIn_ctx LL (Code.seq (Code.fst (bodyOf Try.f53)) (Code.fst (Code.snd (bodyOf Try.f53)))) (Ann.seq (Ann.fst impl_placesIn_an) (Ann.fst (Ann.snd impl_placesIn_an))) (⟨mkE 24 0 [(0, .dat (.list (.int .i64)) x3084)], []⟩ : St) (impl_placesIn_n1 x3084) (fun (t : (List Int)) => (Exit.normal, (⟨mkE 24 0 [(0, .dat (.list (.int .i64)) x3084), (3, .slc 0)], [some (.seq (.int .i64) t)]⟩ : St))) := by
  refine Link.of fun K h => ?_
  simp only [impl_placesIn_n1, wpO_bind, wpO_cond, wpO_map, wpO_some] at h
  exact Awp.of (by kernel_rfl) h

theorem impl_placesIn_n2_l (x3084 : List Int) (x3088 : List Int) : Link impl_placesIn_ctx LL (Code.fst (Code.fst (Code.snd (Code.snd (bodyOf Try.f53))))) (Ann.fst (Ann.fst (Ann.snd (Ann.snd impl_placesIn_an)))) (⟨mkE 24 0 [(0, .dat (.list (.int .i64)) x3084), (3, .slc 0)], [some (.seq (.int .i64) x3088)]⟩ : St) (impl_placesIn_n2 x3084) (fun (t : Int) => (Exit.normal, (⟨mkE 24 0 [(3, .slc 0), (10, .dat (.list (.int .i64)) x3084), (11, .dat (.int .i64) t), (12, .dat (.int .i64) 0)], [some (.seq (.int .i64) x3088)]⟩ : St))) := by
  refine Link.of fun K h => ?_
  simp only [impl_placesIn_n2, wpO_bind, wpO_cond, wpO_map, wpO_some] at h
  exact Awp.of (by kernel_rfl) h

theorem impl_placesIn_n3_l (x3084 : List Int) (x3089 : Int) (x3103 : Int) (x3104 : List Int) : Link impl_placesIn_ctx LL (Code.fst (Code.fst (Code.snd (Code.fst (Code.snd (Code.snd (bodyOf Try.f53))))))) (Ann.fst (Ann.fst (Ann.snd (Ann.fst (Ann.snd (Ann.snd impl_placesIn_an)))))) (⟨mkE 24 0 [(3, .slc 0), (10, .dat (.list (.int .i64)) x3084), (11, .dat (.int .i64) x3089), (12, .dat (.int .i64) x3103)], [some (.seq (.int .i64) x3104)]⟩ : St) (impl_placesIn_n3 x3084 x3089 x3103 x3104) (Sum.elim (fun (t : Int × (List Int)) => (Exit.normal, (⟨mkE 24 0 [(3, .slc 0), (10, .dat (.list (.int .i64)) x3084), (11, .dat (.int .i64) x3089), (12, .dat (.int .i64) t.1)], [some (.seq (.int .i64) t.2)]⟩ : St))) (fun (t : (List Int)) => ((Exit.exit 0), (⟨mkE 24 0 [(3, .slc 0)], [some (.seq (.int .i64) t)]⟩ : St)))) := by
  refine Link.of fun K h => ?_
  simp only [impl_placesIn_n3, wpO_bind, wpO_cond, wpO_map, wpO_some] at h
  exact Awp.of (by kernel_rfl) h

theorem impl_placesIn_n4_l (x3084 : List Int) (x3089 : Int) (x3088 : List Int) : Link impl_placesIn_ctx LL (Code.fst (Code.snd (Code.fst (Code.snd (Code.snd (bodyOf Try.f53)))))) (Ann.fst (Ann.snd (Ann.fst (Ann.snd (Ann.snd impl_placesIn_an))))) (⟨mkE 24 0 [(3, .slc 0), (10, .dat (.list (.int .i64)) x3084), (11, .dat (.int .i64) x3089), (12, .dat (.int .i64) 0)], [some (.seq (.int .i64) x3088)]⟩ : St) (impl_placesIn_n4 x3084 x3089 x3088) (fun (t : (List Int)) => ((Exit.exit 0), (⟨mkE 24 0 [(3, .slc 0)], [some (.seq (.int .i64) t)]⟩ : St))) := by
  unfold impl_placesIn_n4
  exact Link.cast (by kernel_rfl) (by kernel_rfl) (link_loop (mk := fun (s : Int × (List Int)) => (⟨mkE 24 0 [(3, .slc 0), (10, .dat (.list (.int .i64)) x3084), (11, .dat (.int .i64) x3089), (12, .dat (.int .i64) s.1)], [some (.seq (.int .i64) s.2)]⟩ : St)) (fin := (fun (t : (List Int)) => ((Exit.exit 0), (⟨mkE 24 0 [(3, .slc 0)], [some (.seq (.int .i64) t)]⟩ : St)))) (by
  rintro t f K h
  · exact h) (fun s => link_map (impl_placesIn_n3_l x3084 x3089 s.1 s.2) (Sum.elim (fun (t : Int × (List Int)) => Sum.inl (t.1, t.2)) (fun (t : (List Int)) => Sum.inr t)) (by
  rintro (t | t)
  · kernel_rfl
  · kernel_rfl)) (0, x3088))

theorem impl_placesIn_n5_l (x3084 : List Int) (x3089 : Int) (x3088 : List Int) : Link impl_placesIn_ctx LL (Code.snd (Code.fst (Code.snd (Code.snd (bodyOf Try.f53))))) (Ann.snd (Ann.fst (Ann.snd (Ann.snd impl_placesIn_an)))) (⟨mkE 24 0 [(3, .slc 0), (10, .dat (.list (.int .i64)) x3084), (11, .dat (.int .i64) x3089), (12, .dat (.int .i64) 0)], [some (.seq (.int .i64) x3088)]⟩ : St) (impl_placesIn_n5 x3084 x3089 x3088) (fun (t : (List Int)) => (Exit.normal, (⟨mkE 24 0 [(3, .slc 0)], [some (.seq (.int .i64) t)]⟩ : St))) := by
  unfold impl_placesIn_n5
  exact Link.cast (by kernel_rfl) (by kernel_rfl) (link_block (id := 0) (impl_placesIn_n4_l x3084 x3089 x3088) (fun (t : (List Int)) => t) (by
  rintro t K h
  · exact Eq.mp (by kernel_rfl) h))

theorem impl_placesIn_n6_l (x3084 : List Int) (x3088 : List Int) : Link impl_placesIn_ctx LL (Code.fst (Code.snd (Code.snd (bodyOf Try.f53)))) (Ann.fst (Ann.snd (Ann.snd impl_placesIn_an))) (⟨mkE 24 0 [(0, .dat (.list (.int .i64)) x3084), (3, .slc 0)], [some (.seq (.int .i64) x3088)]⟩ : St) (impl_placesIn_n6 x3084 x3088) (fun (t : (List Int)) => (Exit.normal, (⟨mkE 24 0 [(3, .slc 0)], [some (.seq (.int .i64) t)]⟩ : St))) := by
  unfold impl_placesIn_n6
  exact Link.cast (by kernel_rfl) (by kernel_rfl) (link_seq (b := (Code.snd (Code.fst (Code.snd (Code.snd (bodyOf Try.f53)))))) (y := (Ann.snd (Ann.fst (Ann.snd (Ann.snd impl_placesIn_an))))) (impl_placesIn_n2_l x3084 x3088) (fun (t : Int) => (impl_placesIn_n5_l x3084 t x3088)))

theorem impl_placesIn_n7_l (x3104 : List Int) : Link impl_placesIn_ctx LL (Code.snd (Code.snd (Code.snd (bodyOf Try.f53)))) (Ann.snd (Ann.snd (Ann.snd impl_placesIn_an))) (⟨mkE 24 0 [(3, .slc 0)], [some (.seq (.int .i64) x3104)]⟩ : St) (impl_placesIn_n7 x3104) (fun (t : (List Int)) => (Exit.ret, (⟨mkE 24 0 [(2, .slc 0)], [some (.seq (.int .i64) t)]⟩ : St))) := by
  refine Link.of fun K h => ?_
  simp only [impl_placesIn_n7, wpO_bind, wpO_cond, wpO_map, wpO_some] at h
  exact Awp.of (by kernel_rfl) h

theorem impl_placesIn_n8_l (x3084 : List Int) (x3088 : List Int) : Link impl_placesIn_ctx LL (Code.snd (Code.snd (bodyOf Try.f53))) (Ann.snd (Ann.snd impl_placesIn_an)) (⟨mkE 24 0 [(0, .dat (.list (.int .i64)) x3084), (3, .slc 0)], [some (.seq (.int .i64) x3088)]⟩ : St) (impl_placesIn_n8 x3084 x3088) (fun (t : (List Int)) => (Exit.ret, (⟨mkE 24 0 [(2, .slc 0)], [some (.seq (.int .i64) t)]⟩ : St))) := by
  unfold impl_placesIn_n8
  exact Link.cast (by kernel_rfl) (by kernel_rfl) (link_seq (b := (Code.snd (Code.snd (Code.snd (bodyOf Try.f53))))) (y := (Ann.snd (Ann.snd (Ann.snd impl_placesIn_an)))) (impl_placesIn_n6_l x3084 x3088) (fun (t : (List Int)) => (impl_placesIn_n7_l t)))

theorem impl_placesIn_n9_l (x3084 : List Int) : Link impl_placesIn_ctx LL (bodyOf Try.f53) impl_placesIn_an (⟨mkE 24 0 [(0, .dat (.list (.int .i64)) x3084)], []⟩ : St) (impl_placesIn_n9 x3084) (fun (t : (List Int)) => (Exit.ret, (⟨mkE 24 0 [(2, .slc 0)], [some (.seq (.int .i64) t)]⟩ : St))) := by
  unfold impl_placesIn_n9
  exact Link.cast (by kernel_rfl) (by kernel_rfl) (link_group (c := (Code.fst (Code.snd (bodyOf Try.f53)))) (a := (Ann.fst (Ann.snd impl_placesIn_an))) [(Code.fst (bodyOf Try.f53))] [(Ann.fst impl_placesIn_an)] rfl (link_seq (b := (Code.snd (Code.snd (bodyOf Try.f53)))) (y := (Ann.snd (Ann.snd impl_placesIn_an))) (impl_placesIn_n1_l x3084) (fun (t : (List Int)) => (impl_placesIn_n8_l x3084 t))))

theorem impl_placesIn_e (x3084 : List Int) {r : AV} {H' : Heap} (h : (Ans.mk _ (impl_placesIn x3084) (fun (t : (List Int)) => (.slc 0, [some (.seq (.int .i64) t)]))).run = some (r, H')) : Awp impl_placesIn_ctx LL (bodyOf Try.f53) impl_placesIn_an (⟨mkE 24 0 [(0, .dat (.list (.int .i64)) x3084)], []⟩ : St) (Ret (tlook tys) Try.f53.results.toList r H') :=
  ret_of' (impl_placesIn_n9_l x3084) (by unfold impl_placesIn; kernel_rfl) (by
  intro t
  exact ret_mk [.slc 0] (by kernel_rfl) (by kernel_rfl) (by kernel_rfl) (by kernel_rfl)) h

def F_impl_placesIn : Fun := fun avs H =>
  match avs, H with
  | [.dat (.list (.int .i64)) x3084], [] => ⟨_, impl_placesIn x3084, fun (t : (List Int)) => (.slc 0, [some (.seq (.int .i64) t)])⟩
  | _, _ => Ans.no

theorem impl_placesIn_sound : Sound Try.prog 53 F_impl_placesIn := by
  refine fn_sound' (C := impl_placesIn_ctx) (c := bodyOf Try.f53) (cok_of tys_ok (by simp) (by simp) (by kernel_rfl)) Try.func53 (by kernel_rfl) LL impl_placesIn_an ?_
  intro avs H r H' h
  unfold F_impl_placesIn at h
  split at h
  · refine Awp.cast ?_ ?_ ?_ (impl_placesIn_e _ h) <;> kernel_rfl
  · simp [Ans.no, Ans.run] at h

/-! loop.example/headtrees/impl.PutInOrder$1 -/

def impl_PutInOrder_1_an : Ann := (.seq (.leaf [0, 1]) (.seq (.leaf [3]) (.leaf [3])))

noncomputable def impl_PutInOrder_1_ctx : Ctx := ⟨tlook tys, olook [], ioF, 2⟩

theorem impl_PutInOrder_1_n1_l (x3138 : Int) (x3139 : List Int) : Link impl_PutInOrder_1_ctx LL (bodyOf Try.f55) impl_PutInOrder_1_an (⟨mkE 8 0 [(0, .dat (.int .i64) x3138), (1, .ptr 0 0)], [some (.box [.slc 1]), some (.seq (.int .i64) x3139)]⟩ : St) (impl_PutInOrder_1_n1 x3138 x3139) (fun (t : Int) => (Exit.ret, (⟨mkE 8 0 [(3, .dat (.int .i64) t)], [some (.box [.slc 1]), some (.seq (.int .i64) x3139)]⟩ : St))) := by
  refine Link.of fun K h => ?_
  simp only [impl_PutInOrder_1_n1, wpO_bind, wpO_cond, wpO_map, wpO_some] at h
  exact Awp.of (by kernel_rfl) h

theorem impl_PutInOrder_1_e (x3138 : Int) (x3139 : List Int) {r : AV} {H' : Heap} (h : (Ans.mk _ (impl_PutInOrder_1 x3138 x3139) (fun (t : Int) => (.dat (.int .i64) t, [some (.box [.slc 1]), some (.seq (.int .i64) x3139)]))).run = some (r, H')) : Awp impl_PutInOrder_1_ctx LL (bodyOf Try.f55) impl_PutInOrder_1_an (⟨mkE 8 0 [(0, .dat (.int .i64) x3138), (1, .ptr 0 0)], [some (.box [.slc 1]), some (.seq (.int .i64) x3139)]⟩ : St) (Ret (tlook tys) Try.f55.results.toList r H') :=
  ret_of' (impl_PutInOrder_1_n1_l x3138 x3139) (by unfold impl_PutInOrder_1; kernel_rfl) (by
  intro t
  exact ret_mk [.dat (.int .i64) t] (by kernel_rfl) (by kernel_rfl) (by kernel_rfl) (by kernel_rfl)) h

def F_impl_PutInOrder_1 : Fun := fun avs H =>
  match avs, H with
  | [.dat (.int .i64) x3138, .ptr 0 0], [some (.box [.slc 1]), some (.seq (.int .i64) x3139)] => ⟨_, impl_PutInOrder_1 x3138 x3139, fun (t : Int) => (.dat (.int .i64) t, [some (.box [.slc 1]), some (.seq (.int .i64) x3139)])⟩
  | _, _ => Ans.no

theorem impl_PutInOrder_1_sound : Sound Try.prog 55 F_impl_PutInOrder_1 := by
  refine fn_sound' (C := impl_PutInOrder_1_ctx) (c := bodyOf Try.f55) (cok_of tys_ok (by simp) (by simp) (by kernel_rfl)) Try.func55 (by kernel_rfl) LL impl_PutInOrder_1_an ?_
  intro avs H r H' h
  unfold F_impl_PutInOrder_1 at h
  split at h
  · refine Awp.cast ?_ ?_ ?_ (impl_PutInOrder_1_e _ _ h) <;> kernel_rfl
  · simp [Ans.no, Ans.run] at h

/-! loop.example/headtrees/impl.renamed[int] -/

def impl_renamed_int_an : Ann := (.seq (.leaf [0, 1, 2]) (.seq (.leaf [0, 1, 2, 7]) (.seq (.seq (.leaf [0, 2, 7, 13, 14, 15]) (.block (.loop (.seq (.leaf [0, 2, 7, 13, 14, 15, 16]) (.seq (.cond (.leaf [0, 2, 7, 13, 14, 15]) (.leaf [7])) (.seq (.block (.seq (.leaf [0, 2, 7, 8, 9, 13, 14, 15]) (.leaf [0, 2, 7, 13, 14, 15]))) (.leaf [0, 2, 7, 13, 14, 15]))))))) (.seq (.leaf [6]) (.leaf [6])))))

noncomputable def impl_renamed_int_ctx : Ctx := ⟨tlook tys, olook [(55, F_impl_PutInOrder_1)], ioF, 2⟩

theorem impl_renamed_int_n1_l (x3125 : List Int) (x3126 : List Int) (x3127 : List Int) : Link impl_renamed_int_ctx LL (Code.seq (Code.fst (bodyOf Try.f54)) (Code.fst (Code.snd (bodyOf Try.f54)))) (Ann.seq (Ann.fst impl_renamed_int_an) (Ann.fst (Ann.snd impl_renamed_int_an))) (⟨mkE 32 0 [(0, .dat (.list (.int .i64)) x3125), (1, .dat (.list (.int .i64)) x3126), (2, .fn 55 [] [.ptr 0 0])], [some (.box [.slc 1]), some (.seq (.int .i64) x3127)]⟩ : St) (impl_renamed_int_n1 x3126) (fun (t : (List Int)) => (Exit.normal, (⟨mkE 32 0 [(0, .dat (.list (.int .i64)) x3125), (1, .dat (.list (.int .i64)) x3126), (2, .fn 55 [] [.ptr 0 0]), (7, .slc 2)], [some (.box [.slc 1]), some (.seq (.int .i64) x3127), some (.seq (.int .i64) t)]⟩ : St))) := by
  refine Link.of fun K h => ?_
  simp only [impl_renamed_int_n1, wpO_bind, wpO_cond, wpO_map, wpO_some] at h
  exact Awp.of (by kernel_rfl) h

theorem impl_renamed_int_n2_l (x3125 : List Int) (x3126 : List Int) (x3127 : List Int) (x3130 : List Int) : Link impl_renamed_int_ctx LL (Code.fst (Code.fst (Code.snd (Code.snd (bodyOf Try.f54))))) (Ann.fst (Ann.fst (Ann.snd (Ann.snd impl_renamed_int_an)))) (⟨mkE 32 0 [(0, .dat (.list (.int .i64)) x3125), (1, .dat (.list (.int .i64)) x3126), (2, .fn 55 [] [.ptr 0 0]), (7, .slc 2)], [some (.box [.slc 1]), some (.seq (.int .i64) x3127), some (.seq (.int .i64) x3130)]⟩ : St) (impl_renamed_int_n2 x3126) (fun (t : Int) => (Exit.normal, (⟨mkE 32 0 [(0, .dat (.list (.int .i64)) x3125), (2, .fn 55 [] [.ptr 0 0]), (7, .slc 2), (13, .dat (.list (.int .i64)) x3126), (14, .dat (.int .i64) t), (15, .dat (.int .i64) 0)], [some (.box [.slc 1]), some (.seq (.int .i64) x3127), some (.seq (.int .i64) x3130)]⟩ : St))) := by
  refine Link.of fun K h => ?_
  simp only [impl_renamed_int_n2, wpO_bind, wpO_cond, wpO_map, wpO_some] at h
  exact Awp.of (by kernel_rfl) h

theorem impl_renamed_int_n3_l (x3125 : List Int) (x3126 : List Int) (x3131 : Int) (x3155 : Int) (x3127 : List Int) (x3156 : List Int) : Link impl_renamed_int_ctx LL (Code.fst (Code.fst (Code.snd (Code.fst (Code.snd (Code.snd (bodyOf Try.f54))))))) (Ann.fst (Ann.fst (Ann.snd (Ann.fst (Ann.snd (Ann.snd impl_renamed_int_an)))))) (⟨mkE 32 0 [(0, .dat (.list (.int .i64)) x3125), (2, .fn 55 [] [.ptr 0 0]), (7, .slc 2), (13, .dat (.list (.int .i64)) x3126), (14, .dat (.int .i64) x3131), (15, .dat (.int .i64) x3155)], [some (.box [.slc 1]), some (.seq (.int .i64) x3127), some (.seq (.int .i64) x3156)]⟩ : St) (impl_renamed_int_n3 x3125 x3126 x3131 x3155 x3127 x3156) (Sum.elim (fun (t : Int × (List Int)) => (Exit.normal, (⟨mkE 32 0 [(0, .dat (.list (.int .i64)) x3125), (2, .fn 55 [] [.ptr 0 0]), (7, .slc 2), (13, .dat (.list (.int .i64)) x3126), (14, .dat (.int .i64) x3131), (15, .dat (.int .i64) t.1)], [some (.box [.slc 1]), some (.seq (.int .i64) x3127), some (.seq (.int .i64) t.2)]⟩ : St))) (fun (t : (List Int)) => ((Exit.exit 0), (⟨mkE 32 0 [(7, .slc 2)], [some (.box [.slc 1]), some (.seq (.int .i64) x3127), some (.seq (.int .i64) t)]⟩ : St)))) := by
  refine Link.of fun K h => ?_
  simp only [impl_renamed_int_n3, wpO_bind, wpO_cond, wpO_map, wpO_some] at h
  exact Awp.of (by kernel_rfl) h

theorem impl_renamed_int_n4_l (x3125 : List Int) (x3126 : List Int) (x3131 : Int) (x3127 : List Int) (x3130 : List Int) : Link impl_renamed_int_ctx LL (Code.fst (Code.snd (Code.fst (Code.snd (Code.snd (bodyOf Try.f54)))))) (Ann.fst (Ann.snd (Ann.fst (Ann.snd (Ann.snd impl_renamed_int_an))))) (⟨mkE 32 0 [(0, .dat (.list (.int .i64)) x3125), (2, .fn 55 [] [.ptr 0 0]), (7, .slc 2), (13, .dat (.list (.int .i64)) x3126), (14, .dat (.int .i64) x3131), (15, .dat (.int .i64) 0)], [some (.box [.slc 1]), some (.seq (.int .i64) x3127), some (.seq (.int .i64) x3130)]⟩ : St) (impl_renamed_int_n4 x3125 x3126 x3131 x3127 x3130) (fun (t : (List Int)) => ((Exit.exit 0), (⟨mkE 32 0 [(7, .slc 2)], [some (.box [.slc 1]), some (.seq (.int .i64) x3127), some (.seq (.int .i64) t)]⟩ : St))) := by
  unfold impl_renamed_int_n4
  exact Link.cast (by kernel_rfl) (by kernel_rfl) (link_loop (mk := fun (s : Int × (List Int)) => (⟨mkE 32 0 [(0, .dat (.list (.int .i64)) x3125), (2, .fn 55 [] [.ptr 0 0]), (7, .slc 2), (13, .dat (.list (.int .i64)) x3126), (14, .dat (.int .i64) x3131), (15, .dat (.int .i64) s.1)], [some (.box [.slc 1]), some (.seq (.int .i64) x3127), some (.seq (.int .i64) s.2)]⟩ : St)) (fin := (fun (t : (List Int)) => ((Exit.exit 0), (⟨mkE 32 0 [(7, .slc 2)], [some (.box [.slc 1]), some (.seq (.int .i64) x3127), some (.seq (.int .i64) t)]⟩ : St)))) (by
  rintro t f K h
  · exact h) (fun s => link_map (impl_renamed_int_n3_l x3125 x3126 x3131 s.1 x3127 s.2) (Sum.elim (fun (t : Int × (List Int)) => Sum.inl (t.1, t.2)) (fun (t : (List Int)) => Sum.inr t)) (by
  rintro (t | t)
  · kernel_rfl
  · kernel_rfl)) (0, x3130))

theorem impl_renamed_int_n5_l (x3125 : List Int) (x3126 : List Int) (x3131 : Int) (x3127 : List Int) (x3130 : List Int) : Link impl_renamed_int_ctx LL (Code.snd (Code.fst (Code.snd (Code.snd (bodyOf Try.f54))))) (Ann.snd (Ann.fst (Ann.snd (Ann.snd impl_renamed_int_an)))) (⟨mkE 32 0 [(0, .dat (.list (.int .i64)) x3125), (2, .fn 55 [] [.ptr 0 0]), (7, .slc 2), (13, .dat (.list (.int .i64)) x3126), (14, .dat (.int .i64) x3131), (15, .dat (.int .i64) 0)], [some (.box [.slc 1]), some (.seq (.int .i64) x3127), some (.seq (.int .i64) x3130)]⟩ : St) (impl_renamed_int_n5 x3125 x3126 x3131 x3127 x3130) (fun (t : (List Int)) => (Exit.normal, (⟨mkE 32 0 [(7, .slc 2)], [some (.box [.slc 1]), some (.seq (.int .i64) x3127), some (.seq (.int .i64) t)]⟩ : St))) := by
  unfold impl_renamed_int_n5
  exact Link.cast (by kernel_rfl) (by kernel_rfl) (link_block (id := 0) (impl_renamed_int_n4_l x3125 x3126 x3131 x3127 x3130) (fun (t : (List Int)) => t) (by
  rintro t K h
  · exact Eq.mp (by kernel_rfl) h))

theorem impl_renamed_int_n6_l (x3125 : List Int) (x3126 : List Int) (x3127 : List Int) (x3130 : List Int) : Link impl_renamed_int_ctx LL (Code.fst (Code.snd (Code.snd (bodyOf Try.f54)))) (Ann.fst (Ann.snd (Ann.snd impl_renamed_int_an))) (⟨mkE 32 0 [(0, .dat (.list (.int .i64)) x3125), (1, .dat (.list (.int .i64)) x3126), (2, .fn 55 [] [.ptr 0 0]), (7, .slc 2)], [some (.box [.slc 1]), some (.seq (.int .i64) x3127), some (.seq (.int .i64) x3130)]⟩ : St) (impl_renamed_int_n6 x3125 x3126 x3127 x3130) (fun (t : (List Int)) => (Exit.normal, (⟨mkE 32 0 [(7, .slc 2)], [some (.box [.slc 1]), some (.seq (.int .i64) x3127), some (.seq (.int .i64) t)]⟩ : St))) := by
  unfold impl_renamed_int_n6
  exact Link.cast (by kernel_rfl) (by kernel_rfl) (link_seq (b := (Code.snd (Code.fst (Code.snd (Code.snd (bodyOf Try.f54)))))) (y := (Ann.snd (Ann.fst (Ann.snd (Ann.snd impl_renamed_int_an))))) (impl_renamed_int_n2_l x3125 x3126 x3127 x3130) (fun (t : Int) => (impl_renamed_int_n5_l x3125 x3126 t x3127 x3130)))

theorem impl_renamed_int_n7_l (x3127 : List Int) (x3156 : List Int) : Link impl_renamed_int_ctx LL (Code.snd (Code.snd (Code.snd (bodyOf Try.f54)))) (Ann.snd (Ann.snd (Ann.snd impl_renamed_int_an))) (⟨mkE 32 0 [(7, .slc 2)], [some (.box [.slc 1]), some (.seq (.int .i64) x3127), some (.seq (.int .i64) x3156)]⟩ : St) (impl_renamed_int_n7 x3156) (fun (t : (List Int)) => (Exit.ret, (⟨mkE 32 0 [(6, .slc 2)], [some (.box [.slc 1]), some (.seq (.int .i64) x3127), some (.seq (.int .i64) t)]⟩ : St))) := by
  refine Link.of fun K h => ?_
  simp only [impl_renamed_int_n7, wpO_bind, wpO_cond, wpO_map, wpO_some] at h
  exact Awp.of (by kernel_rfl) h

theorem impl_renamed_int_n8_l (x3125 : List Int) (x3126 : List Int) (x3127 : List Int) (x3130 : List Int) : Link impl_renamed_int_ctx LL (Code.snd (Code.snd (bodyOf Try.f54))) (Ann.snd (Ann.snd impl_renamed_int_an)) (⟨mkE 32 0 [(0, .dat (.list (.int .i64)) x3125), (1, .dat (.list (.int .i64)) x3126), (2, .fn 55 [] [.ptr 0 0]), (7, .slc 2)], [some (.box [.slc 1]), some (.seq (.int .i64) x3127), some (.seq (.int .i64) x3130)]⟩ : St) (impl_renamed_int_n8 x3125 x3126 x3127 x3130) (fun (t : (List Int)) => (Exit.ret, (⟨mkE 32 0 [(6, .slc 2)], [some (.box [.slc 1]), some (.seq (.int .i64) x3127), some (.seq (.int .i64) t)]⟩ : St))) := by
  unfold impl_renamed_int_n8
  exact Link.cast (by kernel_rfl) (by kernel_rfl) (link_seq (b := (Code.snd (Code.snd (Code.snd (bodyOf Try.f54))))) (y := (Ann.snd (Ann.snd (Ann.snd impl_renamed_int_an)))) (impl_renamed_int_n6_l x3125 x3126 x3127 x3130) (fun (t : (List Int)) => (impl_renamed_int_n7_l x3127 t)))

theorem impl_renamed_int_n9_l (x3125 : List Int) (x3126 : List Int) (x3127 : List Int) : Link impl_renamed_int_ctx LL (bodyOf Try.f54) impl_renamed_int_an (⟨mkE 32 0 [(0, .dat (.list (.int .i64)) x3125), (1, .dat (.list (.int .i64)) x3126), (2, .fn 55 [] [.ptr 0 0])], [some (.box [.slc 1]), some (.seq (.int .i64) x3127)]⟩ : St) (impl_renamed_int_n9 x3125 x3126 x3127) (fun (t : (List Int)) => (Exit.ret, (⟨mkE 32 0 [(6, .slc 2)], [some (.box [.slc 1]), some (.seq (.int .i64) x3127), some (.seq (.int .i64) t)]⟩ : St))) := by
  unfold impl_renamed_int_n9
  exact Link.cast (by kernel_rfl) (by kernel_rfl) (link_group (c := (Code.fst (Code.snd (bodyOf Try.f54)))) (a := (Ann.fst (Ann.snd impl_renamed_int_an))) [(Code.fst (bodyOf Try.f54))] [(Ann.fst impl_renamed_int_an)] rfl (link_seq (b := (Code.snd (Code.snd (bodyOf Try.f54)))) (y := (Ann.snd (Ann.snd impl_renamed_int_an))) (impl_renamed_int_n1_l x3125 x3126 x3127) (fun (t : (List Int)) => (impl_renamed_int_n8_l x3125 x3126 x3127 t))))

theorem impl_renamed_int_e (x3125 : List Int) (x3126 : List Int) (x3127 : List Int) {r : AV} {H' : Heap} (h : (Ans.mk _ (impl_renamed_int x3125 x3126 x3127) (fun (t : (List Int)) => (.slc 2, [some (.box [.slc 1]), some (.seq (.int .i64) x3127), some (.seq (.int .i64) t)]))).run = some (r, H')) : Awp impl_renamed_int_ctx LL (bodyOf Try.f54) impl_renamed_int_an (⟨mkE 32 0 [(0, .dat (.list (.int .i64)) x3125), (1, .dat (.list (.int .i64)) x3126), (2, .fn 55 [] [.ptr 0 0])], [some (.box [.slc 1]), some (.seq (.int .i64) x3127)]⟩ : St) (Ret (tlook tys) Try.f54.results.toList r H') :=
  ret_of' (impl_renamed_int_n9_l x3125 x3126 x3127) (by unfold impl_renamed_int; kernel_rfl) (by
  intro t
  exact ret_mk [.slc 2] (by kernel_rfl) (by kernel_rfl) (by kernel_rfl) (by kernel_rfl)) h

def F_impl_renamed_int : Fun := fun avs H =>
  match avs, H with
  | [.dat (.list (.int .i64)) x3125, .dat (.list (.int .i64)) x3126, .fn 55 [] [.ptr 0 0]], [some (.box [.slc 1]), some (.seq (.int .i64) x3127)] => ⟨_, impl_renamed_int x3125 x3126 x3127, fun (t : (List Int)) => (.slc 2, [some (.box [.slc 1]), some (.seq (.int .i64) x3127), some (.seq (.int .i64) t)])⟩
  | _, _ => Ans.no

theorem impl_renamed_int_sound : Sound Try.prog 54 F_impl_renamed_int := by
  refine fn_sound' (C := impl_renamed_int_ctx) (c := bodyOf Try.f54) (cok_of tys_ok (List.forall_mem_cons.2 ⟨impl_PutInOrder_1_sound, by simp⟩) (List.forall_mem_cons.2 ⟨Try.call55, by simp⟩) (by kernel_rfl)) Try.func54 (by kernel_rfl) LL impl_renamed_int_an ?_
  intro avs H r H' h
  unfold F_impl_renamed_int at h
  split at h
  · refine Awp.cast ?_ ?_ ?_ (impl_renamed_int_e _ _ _ h) <;> kernel_rfl
  · simp [Ans.no, Ans.run] at h

/-! loop.example/headtrees/impl.PutInOrder -/

def impl_PutInOrder_an : Ann := (.seq (.leaf [0, 1]) (.seq (.seq (.leaf [0, 1, 16]) (.cond (.seq (.leaf [4, 5]) (.leaf [4, 5])) (.leaf [0, 1]))) (.seq (.leaf [0, 1, 6]) (.seq (.leaf [4, 5]) (.leaf [4, 5])))))

noncomputable def impl_PutInOrder_ctx : Ctx := ⟨tlook tys, olook [(38, F_impl_TreeOk), (52, F_impl_OrderOk), (53, F_impl_placesIn), (54, F_impl_renamed_int)], ioF, 0⟩

theorem impl_PutInOrder_n1_l (x3011 : List Int) (x3012 : List Int) : Link impl_PutInOrder_ctx LL (bodyOf Try.f43) impl_PutInOrder_an (⟨mkE 23 0 [(0, .dat (.list (.int .i64)) x3011), (1, .dat (.list (.int .i64)) x3012)], []⟩ : St) (impl_PutInOrder_n1 x3011 x3012) (fun (t : Bool × (List Int)) => (Exit.ret, (⟨mkE 23 0 [(4, .slc 0), (5, .dat .bool t.1)], [some (.seq (.int .i64) t.2)]⟩ : St))) := by
  refine Link.of fun K h => ?_
  simp only [impl_PutInOrder_n1, wpO_bind, wpO_cond, wpO_map, wpO_some] at h
  exact Awp.of (by kernel_rfl) h

theorem impl_PutInOrder_e (x3011 : List Int) (x3012 : List Int) {r : AV} {H' : Heap} (h : (Ans.mk _ (impl_PutInOrder x3011 x3012) (fun (t : Bool × (List Int)) => (.tup [.slc 0, .dat .bool t.1], [some (.seq (.int .i64) t.2)]))).run = some (r, H')) : Awp impl_PutInOrder_ctx LL (bodyOf Try.f43) impl_PutInOrder_an (⟨mkE 23 0 [(0, .dat (.list (.int .i64)) x3011), (1, .dat (.list (.int .i64)) x3012)], []⟩ : St) (Ret (tlook tys) Try.f43.results.toList r H') :=
  ret_of' (impl_PutInOrder_n1_l x3011 x3012) (by unfold impl_PutInOrder; kernel_rfl) (by
  intro t
  exact ret_mk [.slc 0, .dat .bool t.1] (by kernel_rfl) (by kernel_rfl) (by kernel_rfl) (by kernel_rfl)) h

def F_impl_PutInOrder : Fun := fun avs H =>
  match avs, H with
  | [.dat (.list (.int .i64)) x3011, .dat (.list (.int .i64)) x3012], [] => ⟨_, impl_PutInOrder x3011 x3012, fun (t : Bool × (List Int)) => (.tup [.slc 0, .dat .bool t.1], [some (.seq (.int .i64) t.2)])⟩
  | _, _ => Ans.no

theorem impl_PutInOrder_sound : Sound Try.prog 43 F_impl_PutInOrder := by
  refine fn_sound' (C := impl_PutInOrder_ctx) (c := bodyOf Try.f43) (cok_of tys_ok (List.forall_mem_cons.2 ⟨impl_TreeOk_sound, List.forall_mem_cons.2 ⟨impl_OrderOk_sound, List.forall_mem_cons.2 ⟨impl_placesIn_sound, List.forall_mem_cons.2 ⟨impl_renamed_int_sound, by simp⟩⟩⟩⟩) (List.forall_mem_cons.2 ⟨Try.call38, List.forall_mem_cons.2 ⟨Try.call52, List.forall_mem_cons.2 ⟨Try.call53, List.forall_mem_cons.2 ⟨Try.call54, by simp⟩⟩⟩⟩) (by kernel_rfl)) Try.func43 (by kernel_rfl) LL impl_PutInOrder_an ?_
  intro avs H r H' h
  unfold F_impl_PutInOrder at h
  split at h
  · refine Awp.cast ?_ ?_ ?_ (impl_PutInOrder_e _ _ h) <;> kernel_rfl
  · simp [Ans.no, Ans.run] at h

/-! loop.example/headtrees/impl.BackOf -/

def impl_BackOf_an : Ann := (.seq (.leaf [0]) (.seq (.seq (.leaf [0, 7]) (.cond (.seq (.leaf [2]) (.leaf [2])) (.leaf [0]))) (.seq (.leaf [3]) (.seq (.leaf [2]) (.leaf [2])))))

noncomputable def impl_BackOf_ctx : Ctx := ⟨tlook tys, olook [(38, F_impl_TreeOk), (44, F_impl_lastToFirst), (43, F_impl_PutInOrder)], ioF, 0⟩

theorem impl_BackOf_n1_l (x2976 : List Int) : Link impl_BackOf_ctx LL (bodyOf Try.f25) impl_BackOf_an (⟨mkE 17 0 [(0, .dat (.list (.int .i64)) x2976)], []⟩ : St) (impl_BackOf_n1 x2976) (fun (t : (List Int)) => (Exit.ret, (⟨mkE 17 0 [(2, .slc 0)], [some (.seq (.int .i64) t)]⟩ : St))) := by
  refine Link.of fun K h => ?_
  simp only [impl_BackOf_n1, wpO_bind, wpO_cond, wpO_map, wpO_some] at h
  exact Awp.of (by kernel_rfl) h

theorem impl_BackOf_e (x2976 : List Int) {r : AV} {H' : Heap} (h : (Ans.mk _ (impl_BackOf x2976) (fun (t : (List Int)) => (.slc 0, [some (.seq (.int .i64) t)]))).run = some (r, H')) : Awp impl_BackOf_ctx LL (bodyOf Try.f25) impl_BackOf_an (⟨mkE 17 0 [(0, .dat (.list (.int .i64)) x2976)], []⟩ : St) (Ret (tlook tys) Try.f25.results.toList r H') :=
  ret_of' (impl_BackOf_n1_l x2976) (by unfold impl_BackOf; kernel_rfl) (by
  intro t
  exact ret_mk [.slc 0] (by kernel_rfl) (by kernel_rfl) (by kernel_rfl) (by kernel_rfl)) h

def F_impl_BackOf : Fun := fun avs H =>
  match avs, H with
  | [.dat (.list (.int .i64)) x2976], [] => ⟨_, impl_BackOf x2976, fun (t : (List Int)) => (.slc 0, [some (.seq (.int .i64) t)])⟩
  | _, _ => Ans.no

theorem impl_BackOf_sound : Sound Try.prog 25 F_impl_BackOf := by
  refine fn_sound' (C := impl_BackOf_ctx) (c := bodyOf Try.f25) (cok_of tys_ok (List.forall_mem_cons.2 ⟨impl_TreeOk_sound, List.forall_mem_cons.2 ⟨impl_lastToFirst_sound, List.forall_mem_cons.2 ⟨impl_PutInOrder_sound, by simp⟩⟩⟩) (List.forall_mem_cons.2 ⟨Try.call38, List.forall_mem_cons.2 ⟨Try.call44, List.forall_mem_cons.2 ⟨Try.call43, by simp⟩⟩⟩) (by kernel_rfl)) Try.func25 (by kernel_rfl) LL impl_BackOf_an ?_
  intro avs H r H' h
  unfold F_impl_BackOf at h
  split at h
  · refine Awp.cast ?_ ?_ ?_ (impl_BackOf_e _ h) <;> kernel_rfl
  · simp [Ans.no, Ans.run] at h

/-! loop.example/headtrees/laws.markIntS -/

def laws_markIntS_an : Ann := (.seq (.leaf [0, 1]) (.seq (.seq (.leaf [0, 1, 5]) (.block (.loop (.seq (.seq (.leaf [0, 1, 5, 9]) (.cond (.leaf [0, 1, 5]) (.leaf [1]))) (.seq (.block (.seq (.leaf [0, 1, 5]) (.leaf [0, 1, 5]))) (.leaf [0, 1, 5])))))) (.seq (.leaf [4]) (.leaf [4]))))

noncomputable def laws_markIntS_ctx : Ctx := ⟨tlook tys, olook [], ioF, 1⟩

theorem laws_markIntS_n1_l (x3244 : Int) (x3245 : List Int) : Link laws_markIntS_ctx LL (Code.fst (bodyOf Try.f26)) (Ann.fst laws_markIntS_an) (⟨mkE 19 0 [(0, .slc 0), (1, .dat (.int .i64) x3244)], [some (.seq (.int .i64) x3245)]⟩ : St) (laws_markIntS_n1) (fun (t : Unit) => (Exit.normal, (⟨mkE 19 0 [(0, .slc 0), (1, .dat (.int .i64) x3244)], [some (.seq (.int .i64) x3245)]⟩ : St))) := by
  refine Link.of fun K h => ?_
  simp only [laws_markIntS_n1, wpO_bind, wpO_cond, wpO_map, wpO_some] at h
  exact Awp.of (by kernel_rfl) h

theorem laws_markIntS_n2_l (x3244 : Int) (x3245 : List Int) : Link laws_markIntS_ctx LL (Code.fst (Code.fst (Code.snd (bodyOf Try.f26)))) (Ann.fst (Ann.fst (Ann.snd laws_markIntS_an))) (⟨mkE 19 0 [(0, .slc 0), (1, .dat (.int .i64) x3244)], [some (.seq (.int .i64) x3245)]⟩ : St) (laws_markIntS_n2) (fun (t : Unit) => (Exit.normal, (⟨mkE 19 0 [(0, .slc 0), (1, .dat (.int .i64) x3244), (5, .dat (.int .i64) 0)], [some (.seq (.int .i64) x3245)]⟩ : St))) := by
  refine Link.of fun K h => ?_
  simp only [laws_markIntS_n2, wpO_bind, wpO_cond, wpO_map, wpO_some] at h
  exact Awp.of (by kernel_rfl) h

theorem laws_markIntS_n3_l (x3259 : Int) (x3260 : Int) (x3261 : List Int) : Link laws_markIntS_ctx LL (Code.fst (Code.fst (Code.snd (Code.fst (Code.snd (bodyOf Try.f26)))))) (Ann.fst (Ann.fst (Ann.snd (Ann.fst (Ann.snd laws_markIntS_an))))) (⟨mkE 19 0 [(0, .slc 0), (1, .dat (.int .i64) x3259), (5, .dat (.int .i64) x3260)], [some (.seq (.int .i64) x3261)]⟩ : St) (laws_markIntS_n3 x3259 x3260 x3261) (Sum.elim (fun (t : Int × Int × (List Int)) => (Exit.normal, (⟨mkE 19 0 [(0, .slc 0), (1, .dat (.int .i64) t.1), (5, .dat (.int .i64) t.2.1)], [some (.seq (.int .i64) t.2.2)]⟩ : St))) (fun (t : Int × (List Int)) => ((Exit.exit 0), (⟨mkE 19 0 [(1, .dat (.int .i64) t.1)], [some (.seq (.int .i64) t.2)]⟩ : St)))) := by
  refine Link.of fun K h => ?_
  simp only [laws_markIntS_n3, wpO_bind, wpO_cond, wpO_map, wpO_some] at h
  exact Awp.of (by kernel_rfl) h

theorem laws_markIntS_n4_l (x3244 : Int) (x3245 : List Int) : Link laws_markIntS_ctx LL (Code.fst (Code.snd (Code.fst (Code.snd (bodyOf Try.f26))))) (Ann.fst (Ann.snd (Ann.fst (Ann.snd laws_markIntS_an)))) (⟨mkE 19 0 [(0, .slc 0), (1, .dat (.int .i64) x3244), (5, .dat (.int .i64) 0)], [some (.seq (.int .i64) x3245)]⟩ : St) (laws_markIntS_n4 x3244 x3245) (fun (t : Int × (List Int)) => ((Exit.exit 0), (⟨mkE 19 0 [(1, .dat (.int .i64) t.1)], [some (.seq (.int .i64) t.2)]⟩ : St))) := by
  unfold laws_markIntS_n4
  exact Link.cast (by kernel_rfl) (by kernel_rfl) (link_loop (mk := fun (s : Int × Int × (List Int)) => (⟨mkE 19 0 [(0, .slc 0), (1, .dat (.int .i64) s.1), (5, .dat (.int .i64) s.2.1)], [some (.seq (.int .i64) s.2.2)]⟩ : St)) (fin := (fun (t : Int × (List Int)) => ((Exit.exit 0), (⟨mkE 19 0 [(1, .dat (.int .i64) t.1)], [some (.seq (.int .i64) t.2)]⟩ : St)))) (by
  rintro t f K h
  · exact h) (fun s => link_map (laws_markIntS_n3_l s.1 s.2.1 s.2.2) (Sum.elim (fun (t : Int × Int × (List Int)) => Sum.inl (t.1, t.2.1, t.2.2)) (fun (t : Int × (List Int)) => Sum.inr t)) (by
  rintro (t | t)
  · kernel_rfl
  · kernel_rfl)) (x3244, 0, x3245))

theorem laws_markIntS_n5_l (x3244 : Int) (x3245 : List Int) : Link laws_markIntS_ctx LL (Code.snd (Code.fst (Code.snd (bodyOf Try.f26)))) (Ann.snd (Ann.fst (Ann.snd laws_markIntS_an))) (⟨mkE 19 0 [(0, .slc 0), (1, .dat (.int .i64) x3244), (5, .dat (.int .i64) 0)], [some (.seq (.int .i64) x3245)]⟩ : St) (laws_markIntS_n5 x3244 x3245) (fun (t : Int × (List Int)) => (Exit.normal, (⟨mkE 19 0 [(1, .dat (.int .i64) t.1)], [some (.seq (.int .i64) t.2)]⟩ : St))) := by
  unfold laws_markIntS_n5
  exact Link.cast (by kernel_rfl) (by kernel_rfl) (link_block (id := 0) (laws_markIntS_n4_l x3244 x3245) (fun (t : Int × (List Int)) => (t.1, t.2)) (by
  rintro t K h
  · exact Eq.mp (by kernel_rfl) h))

theorem laws_markIntS_n6_l (x3244 : Int) (x3245 : List Int) : Link laws_markIntS_ctx LL (Code.fst (Code.snd (bodyOf Try.f26))) (Ann.fst (Ann.snd laws_markIntS_an)) (⟨mkE 19 0 [(0, .slc 0), (1, .dat (.int .i64) x3244)], [some (.seq (.int .i64) x3245)]⟩ : St) (laws_markIntS_n6 x3244 x3245) (fun (t : Int × (List Int)) => (Exit.normal, (⟨mkE 19 0 [(1, .dat (.int .i64) t.1)], [some (.seq (.int .i64) t.2)]⟩ : St))) := by
  unfold laws_markIntS_n6
  exact Link.cast (by kernel_rfl) (by kernel_rfl) (link_seq (b := (Code.snd (Code.fst (Code.snd (bodyOf Try.f26))))) (y := (Ann.snd (Ann.fst (Ann.snd laws_markIntS_an)))) (laws_markIntS_n2_l x3244 x3245) (fun (t : Unit) => (laws_markIntS_n5_l x3244 x3245)))

theorem laws_markIntS_n7_l (x3259 : Int) (x3261 : List Int) : Link laws_markIntS_ctx LL (Code.snd (Code.snd (bodyOf Try.f26))) (Ann.snd (Ann.snd laws_markIntS_an)) (⟨mkE 19 0 [(1, .dat (.int .i64) x3259)], [some (.seq (.int .i64) x3261)]⟩ : St) (laws_markIntS_n7 x3259 x3261) (fun (t : Int × (List Int)) => (Exit.ret, (⟨mkE 19 0 [(4, .dat (.int .i64) t.1)], [some (.seq (.int .i64) t.2)]⟩ : St))) := by
  refine Link.of fun K h => ?_
  simp only [laws_markIntS_n7, wpO_bind, wpO_cond, wpO_map, wpO_some] at h
  exact Awp.of (by kernel_rfl) h

theorem laws_markIntS_n8_l (x3244 : Int) (x3245 : List Int) : Link laws_markIntS_ctx LL (Code.snd (bodyOf Try.f26)) (Ann.snd laws_markIntS_an) (⟨mkE 19 0 [(0, .slc 0), (1, .dat (.int .i64) x3244)], [some (.seq (.int .i64) x3245)]⟩ : St) (laws_markIntS_n8 x3244 x3245) (fun (t : Int × (List Int)) => (Exit.ret, (⟨mkE 19 0 [(4, .dat (.int .i64) t.1)], [some (.seq (.int .i64) t.2)]⟩ : St))) := by
  unfold laws_markIntS_n8
  exact Link.cast (by kernel_rfl) (by kernel_rfl) (link_seq (b := (Code.snd (Code.snd (bodyOf Try.f26)))) (y := (Ann.snd (Ann.snd laws_markIntS_an))) (laws_markIntS_n6_l x3244 x3245) (fun (t : Int × (List Int)) => (laws_markIntS_n7_l t.1 t.2)))

theorem laws_markIntS_n9_l (x3244 : Int) (x3245 : List Int) : Link laws_markIntS_ctx LL (bodyOf Try.f26) laws_markIntS_an (⟨mkE 19 0 [(0, .slc 0), (1, .dat (.int .i64) x3244)], [some (.seq (.int .i64) x3245)]⟩ : St) (laws_markIntS_n9 x3244 x3245) (fun (t : Int × (List Int)) => (Exit.ret, (⟨mkE 19 0 [(4, .dat (.int .i64) t.1)], [some (.seq (.int .i64) t.2)]⟩ : St))) := by
  unfold laws_markIntS_n9
  exact Link.cast (by kernel_rfl) (by kernel_rfl) (link_seq (b := (Code.snd (bodyOf Try.f26))) (y := (Ann.snd laws_markIntS_an)) (laws_markIntS_n1_l x3244 x3245) (fun (t : Unit) => (laws_markIntS_n8_l x3244 x3245)))

theorem laws_markIntS_e (x3244 : Int) (x3245 : List Int) {r : AV} {H' : Heap} (h : (Ans.mk _ (laws_markIntS x3244 x3245) (fun (t : Int × (List Int)) => (.dat (.int .i64) t.1, [some (.seq (.int .i64) t.2)]))).run = some (r, H')) : Awp laws_markIntS_ctx LL (bodyOf Try.f26) laws_markIntS_an (⟨mkE 19 0 [(0, .slc 0), (1, .dat (.int .i64) x3244)], [some (.seq (.int .i64) x3245)]⟩ : St) (Ret (tlook tys) Try.f26.results.toList r H') :=
  ret_of' (laws_markIntS_n9_l x3244 x3245) (by unfold laws_markIntS; kernel_rfl) (by
  intro t
  exact ret_mk [.dat (.int .i64) t.1] (by kernel_rfl) (by kernel_rfl) (by kernel_rfl) (by kernel_rfl)) h

def F_laws_markIntS : Fun := fun avs H =>
  match avs, H with
  | [.slc 0, .dat (.int .i64) x3244], [some (.seq (.int .i64) x3245)] => ⟨_, laws_markIntS x3244 x3245, fun (t : Int × (List Int)) => (.dat (.int .i64) t.1, [some (.seq (.int .i64) t.2)])⟩
  | _, _ => Ans.no

theorem laws_markIntS_sound : Sound Try.prog 26 F_laws_markIntS := by
  refine fn_sound' (C := laws_markIntS_ctx) (c := bodyOf Try.f26) (cok_of tys_ok (by simp) (by simp) (by kernel_rfl)) Try.func26 (by kernel_rfl) LL laws_markIntS_an ?_
  intro avs H r H' h
  unfold F_laws_markIntS at h
  split at h
  · refine Awp.cast ?_ ?_ ?_ (laws_markIntS_e _ _ h) <;> kernel_rfl
  · simp [Ans.no, Ans.run] at h

/-! loop.example/headtrees/laws.heldIntS -/

def laws_heldIntS_an : Ann := (.seq (.leaf [0, 1]) (.seq (.seq (.leaf [0, 1, 5]) (.block (.loop (.seq (.seq (.leaf [0, 1, 5, 9]) (.cond (.leaf [0, 1, 5]) (.leaf [1]))) (.seq (.block (.seq (.seq (.leaf [0, 1, 5, 17]) (.cond (.seq (.leaf [4]) (.leaf [4])) (.leaf [0, 1, 5]))) (.leaf [0, 1, 5]))) (.leaf [0, 1, 5])))))) (.seq (.leaf [4]) (.leaf [4]))))

noncomputable def laws_heldIntS_ctx : Ctx := ⟨tlook tys, olook [], ioF, 0⟩

theorem laws_heldIntS_n1_l (x3372 : List Int) (x3373 : Int) : Link laws_heldIntS_ctx LL (Code.fst (bodyOf Try.f27)) (Ann.fst laws_heldIntS_an) (⟨mkE 21 0 [(0, .dat (.list (.int .i64)) x3372), (1, .dat (.int .i64) x3373)], []⟩ : St) (laws_heldIntS_n1) (fun (t : Unit) => (Exit.normal, (⟨mkE 21 0 [(0, .dat (.list (.int .i64)) x3372), (1, .dat (.int .i64) x3373)], []⟩ : St))) := by
  refine Link.of fun K h => ?_
  simp only [laws_heldIntS_n1, wpO_bind, wpO_cond, wpO_map, wpO_some] at h
  exact Awp.of (by kernel_rfl) h

theorem laws_heldIntS_n2_l (x3372 : List Int) (x3373 : Int) : Link laws_heldIntS_ctx LL (Code.fst (Code.fst (Code.snd (bodyOf Try.f27)))) (Ann.fst (Ann.fst (Ann.snd laws_heldIntS_an))) (⟨mkE 21 0 [(0, .dat (.list (.int .i64)) x3372), (1, .dat (.int .i64) x3373)], []⟩ : St) (laws_heldIntS_n2) (fun (t : Unit) => (Exit.normal, (⟨mkE 21 0 [(0, .dat (.list (.int .i64)) x3372), (1, .dat (.int .i64) x3373), (5, .dat (.int .i64) 0)], []⟩ : St))) := by
  refine Link.of fun K h => ?_
  simp only [laws_heldIntS_n2, wpO_bind, wpO_cond, wpO_map, wpO_some] at h
  exact Awp.of (by kernel_rfl) h

theorem laws_heldIntS_n3_l (x3372 : List Int) (x3387 : Int) (x3388 : Int) : Link laws_heldIntS_ctx LL (Code.fst (Code.fst (Code.snd (Code.fst (Code.snd (bodyOf Try.f27)))))) (Ann.fst (Ann.fst (Ann.snd (Ann.fst (Ann.snd laws_heldIntS_an))))) (⟨mkE 21 0 [(0, .dat (.list (.int .i64)) x3372), (1, .dat (.int .i64) x3387), (5, .dat (.int .i64) x3388)], []⟩ : St) (laws_heldIntS_n3 x3372 x3387 x3388) (Sum.elim (fun (t : Int × Int) => (Exit.normal, (⟨mkE 21 0 [(0, .dat (.list (.int .i64)) x3372), (1, .dat (.int .i64) t.1), (5, .dat (.int .i64) t.2)], []⟩ : St))) (Sum.elim (fun (t : Int) => (Exit.ret, (⟨mkE 21 0 [(4, .dat (.int .i64) t)], []⟩ : St))) (fun (t : Int) => ((Exit.exit 0), (⟨mkE 21 0 [(1, .dat (.int .i64) t)], []⟩ : St))))) := by
  refine Link.of fun K h => ?_
  simp only [laws_heldIntS_n3, wpO_bind, wpO_cond, wpO_map, wpO_some] at h
  exact Awp.of (by kernel_rfl) h

theorem laws_heldIntS_n4_l (x3372 : List Int) (x3373 : Int) : Link laws_heldIntS_ctx LL (Code.fst (Code.snd (Code.fst (Code.snd (bodyOf Try.f27))))) (Ann.fst (Ann.snd (Ann.fst (Ann.snd laws_heldIntS_an)))) (⟨mkE 21 0 [(0, .dat (.list (.int .i64)) x3372), (1, .dat (.int .i64) x3373), (5, .dat (.int .i64) 0)], []⟩ : St) (laws_heldIntS_n4 x3372 x3373) (Sum.elim (fun (t : Int) => (Exit.ret, (⟨mkE 21 0 [(4, .dat (.int .i64) t)], []⟩ : St))) (fun (t : Int) => ((Exit.exit 0), (⟨mkE 21 0 [(1, .dat (.int .i64) t)], []⟩ : St)))) := by
  unfold laws_heldIntS_n4
  exact Link.cast (by kernel_rfl) (by kernel_rfl) (link_loop (mk := fun (s : Int × Int) => (⟨mkE 21 0 [(0, .dat (.list (.int .i64)) x3372), (1, .dat (.int .i64) s.1), (5, .dat (.int .i64) s.2)], []⟩ : St)) (fin := (Sum.elim (fun (t : Int) => (Exit.ret, (⟨mkE 21 0 [(4, .dat (.int .i64) t)], []⟩ : St))) (fun (t : Int) => ((Exit.exit 0), (⟨mkE 21 0 [(1, .dat (.int .i64) t)], []⟩ : St))))) (by
  rintro (t | t) f K h
  · exact h
  · exact h) (fun s => link_map (laws_heldIntS_n3_l x3372 s.1 s.2) (Sum.elim (fun (t : Int × Int) => Sum.inl (t.1, t.2)) (Sum.elim (fun (t : Int) => Sum.inr (Sum.inl t)) (fun (t : Int) => Sum.inr (Sum.inr t)))) (by
  rintro (t | t | t)
  · kernel_rfl
  · kernel_rfl
  · kernel_rfl)) (x3373, 0))

theorem laws_heldIntS_n5_l (x3372 : List Int) (x3373 : Int) : Link laws_heldIntS_ctx LL (Code.snd (Code.fst (Code.snd (bodyOf Try.f27)))) (Ann.snd (Ann.fst (Ann.snd laws_heldIntS_an))) (⟨mkE 21 0 [(0, .dat (.list (.int .i64)) x3372), (1, .dat (.int .i64) x3373), (5, .dat (.int .i64) 0)], []⟩ : St) (laws_heldIntS_n5 x3372 x3373) (Sum.elim (fun (t : Int) => (Exit.normal, (⟨mkE 21 0 [(1, .dat (.int .i64) t)], []⟩ : St))) (fun (t : Int) => (Exit.ret, (⟨mkE 21 0 [(4, .dat (.int .i64) t)], []⟩ : St)))) := by
  unfold laws_heldIntS_n5
  exact Link.cast (by kernel_rfl) (by kernel_rfl) (link_block (id := 0) (laws_heldIntS_n4_l x3372 x3373) (Sum.elim (fun (t : Int) => (Sum.inr t)) (fun (t : Int) => (Sum.inl t))) (by
  rintro (t | t) K h
  · exact Eq.mp (by kernel_rfl) h
  · exact Eq.mp (by kernel_rfl) h))

theorem laws_heldIntS_n6_l (x3372 : List Int) (x3373 : Int) : Link laws_heldIntS_ctx LL (Code.fst (Code.snd (bodyOf Try.f27))) (Ann.fst (Ann.snd laws_heldIntS_an)) (⟨mkE 21 0 [(0, .dat (.list (.int .i64)) x3372), (1, .dat (.int .i64) x3373)], []⟩ : St) (laws_heldIntS_n6 x3372 x3373) (Sum.elim (fun (t : Int) => (Exit.normal, (⟨mkE 21 0 [(1, .dat (.int .i64) t)], []⟩ : St))) (fun (t : Int) => (Exit.ret, (⟨mkE 21 0 [(4, .dat (.int .i64) t)], []⟩ : St)))) := by
  unfold laws_heldIntS_n6
  exact Link.cast (by kernel_rfl) (by kernel_rfl) (link_seq (b := (Code.snd (Code.fst (Code.snd (bodyOf Try.f27))))) (y := (Ann.snd (Ann.fst (Ann.snd laws_heldIntS_an)))) (laws_heldIntS_n2_l x3372 x3373) (fun (t : Unit) => (laws_heldIntS_n5_l x3372 x3373)))

theorem laws_heldIntS_n7_l (x3387 : Int) : Link laws_heldIntS_ctx LL (Code.snd (Code.snd (bodyOf Try.f27))) (Ann.snd (Ann.snd laws_heldIntS_an)) (⟨mkE 21 0 [(1, .dat (.int .i64) x3387)], []⟩ : St) (laws_heldIntS_n7 x3387) (fun (t : Int) => (Exit.ret, (⟨mkE 21 0 [(4, .dat (.int .i64) t)], []⟩ : St))) := by
  refine Link.of fun K h => ?_
  simp only [laws_heldIntS_n7, wpO_bind, wpO_cond, wpO_map, wpO_some] at h
  exact Awp.of (by kernel_rfl) h

theorem laws_heldIntS_n8_l (x3372 : List Int) (x3373 : Int) : Link laws_heldIntS_ctx LL (Code.snd (bodyOf Try.f27)) (Ann.snd laws_heldIntS_an) (⟨mkE 21 0 [(0, .dat (.list (.int .i64)) x3372), (1, .dat (.int .i64) x3373)], []⟩ : St) (laws_heldIntS_n8 x3372 x3373) (fun (t : Int) => (Exit.ret, (⟨mkE 21 0 [(4, .dat (.int .i64) t)], []⟩ : St))) := by
  unfold laws_heldIntS_n8
  exact Link.cast (by kernel_rfl) (by kernel_rfl) (link_seq2 (b := (Code.snd (Code.snd (bodyOf Try.f27)))) (y := (Ann.snd (Ann.snd laws_heldIntS_an))) (laws_heldIntS_n6_l x3372 x3373) (fun (t : Int) => (laws_heldIntS_n7_l t)) (fun (t : Int) => t) (by
  rintro t
  · kernel_rfl) (by
  rintro t f K h
  · exact h))

theorem laws_heldIntS_n9_l (x3372 : List Int) (x3373 : Int) : Link laws_heldIntS_ctx LL (bodyOf Try.f27) laws_heldIntS_an (⟨mkE 21 0 [(0, .dat (.list (.int .i64)) x3372), (1, .dat (.int .i64) x3373)], []⟩ : St) (laws_heldIntS_n9 x3372 x3373) (fun (t : Int) => (Exit.ret, (⟨mkE 21 0 [(4, .dat (.int .i64) t)], []⟩ : St))) := by
  unfold laws_heldIntS_n9
  exact Link.cast (by kernel_rfl) (by kernel_rfl) (link_seq (b := (Code.snd (bodyOf Try.f27))) (y := (Ann.snd laws_heldIntS_an)) (laws_heldIntS_n1_l x3372 x3373) (fun (t : Unit) => (laws_heldIntS_n8_l x3372 x3373)))

theorem laws_heldIntS_e (x3372 : List Int) (x3373 : Int) {r : AV} {H' : Heap} (h : (Ans.mk _ (laws_heldIntS x3372 x3373) (fun (t : Int) => (.dat (.int .i64) t, []))).run = some (r, H')) : Awp laws_heldIntS_ctx LL (bodyOf Try.f27) laws_heldIntS_an (⟨mkE 21 0 [(0, .dat (.list (.int .i64)) x3372), (1, .dat (.int .i64) x3373)], []⟩ : St) (Ret (tlook tys) Try.f27.results.toList r H') :=
  ret_of' (laws_heldIntS_n9_l x3372 x3373) (by unfold laws_heldIntS; kernel_rfl) (by
  intro t
  exact ret_mk [.dat (.int .i64) t] (by kernel_rfl) (by kernel_rfl) (by kernel_rfl) (by kernel_rfl)) h

def F_laws_heldIntS : Fun := fun avs H =>
  match avs, H with
  | [.dat (.list (.int .i64)) x3372, .dat (.int .i64) x3373], [] => ⟨_, laws_heldIntS x3372 x3373, fun (t : Int) => (.dat (.int .i64) t, [])⟩
  | _, _ => Ans.no

theorem laws_heldIntS_sound : Sound Try.prog 27 F_laws_heldIntS := by
  refine fn_sound' (C := laws_heldIntS_ctx) (c := bodyOf Try.f27) (cok_of tys_ok (by simp) (by simp) (by kernel_rfl)) Try.func27 (by kernel_rfl) LL laws_heldIntS_an ?_
  intro avs H r H' h
  unfold F_laws_heldIntS at h
  split at h
  · refine Awp.cast ?_ ?_ ?_ (laws_heldIntS_e _ _ h) <;> kernel_rfl
  · simp [Ans.no, Ans.run] at h

/-! loop.example/headtrees/laws.FnExactBackOf -/

def laws_FnExactBackOf_an : Ann := (.seq (.leaf [0]) (.seq (.seq (.leaf [0, 12]) (.cond (.seq (.leaf [2]) (.leaf [2])) (.leaf [0]))) (.seq (.leaf [0, 3]) (.seq (.leaf [0, 3, 4]) (.seq (.leaf [0, 3, 4, 5]) (.seq (.seq (.leaf [0, 3, 4, 5, 23]) (.cond (.seq (.leaf [2]) (.leaf [2])) (.leaf [0, 3, 4, 5]))) (.seq (.seq (.leaf [0, 3, 4, 5, 28]) (.cond (.seq (.leaf [2]) (.leaf [2])) (.leaf [0, 3, 4, 5]))) (.seq (.leaf [0, 3, 4, 5, 6]) (.seq (.leaf [0, 3, 5, 6]) (.seq (.seq (.leaf [0, 3, 5, 39]) (.cond (.seq (.leaf [2]) (.leaf [2])) (.leaf [0, 3, 5]))) (.seq (.leaf [0, 3, 5, 7]) (.seq (.leaf [0, 3, 5, 7]) (.seq (.leaf [0, 3, 5, 7, 8]) (.seq (.leaf [0, 3, 5, 7, 8]) (.seq (.seq (.leaf [0, 3, 5, 7, 8, 47]) (.cond (.seq (.leaf [2]) (.leaf [2])) (.leaf [0, 3, 5, 7, 8]))) (.seq (.seq (.leaf [0, 3, 5, 7, 50]) (.cond (.seq (.leaf [2]) (.leaf [2])) (.leaf [0, 3, 5, 7]))) (.seq (.leaf [3, 5, 7, 9]) (.seq (.seq (.leaf [5, 7, 57]) (.cond (.seq (.leaf [2]) (.leaf [2])) (.leaf [5, 7]))) (.seq (.leaf [5, 7, 8]) (.seq (.leaf [7, 8]) (.seq (.seq (.leaf [7, 8, 62]) (.cond (.seq (.leaf [2]) (.leaf [2])) (.leaf [7, 8]))) (.seq (.seq (.leaf [65]) (.cond (.seq (.leaf [2]) (.leaf [2])) (.leaf []))) (.seq (.leaf [2]) (.leaf [2]))))))))))))))))))))))))

noncomputable def laws_FnExactBackOf_ctx : Ctx := ⟨tlook tys, olook [(19, F_laws_toIntS), (24, F_spec_BackOf), (25, F_impl_BackOf), (21, F_laws_eqIntS), (26, F_laws_markIntS), (27, F_laws_heldIntS)], ioF, 0⟩

theorem laws_FnExactBackOf_n1_l (x2882 : List Int) : Link laws_FnExactBackOf_ctx LL (bodyOf Try.f9) laws_FnExactBackOf_an (⟨mkE 66 0 [(0, .dat (.list (.int .i64)) x2882)], []⟩ : St) (laws_FnExactBackOf_n1 x2882) (fun (t : Bool) => (Exit.ret, (⟨mkE 66 0 [(2, .dat .bool t)], []⟩ : St))) := by
  refine Link.of fun K h => ?_
  simp only [laws_FnExactBackOf_n1, wpO_bind, wpO_cond, wpO_map, wpO_some] at h
  exact Awp.of (by kernel_rfl) h

theorem laws_FnExactBackOf_e (x2882 : List Int) {r : AV} {H' : Heap} (h : (Ans.mk _ (laws_FnExactBackOf x2882) (fun (t : Bool) => (.dat .bool t, []))).run = some (r, H')) : Awp laws_FnExactBackOf_ctx LL (bodyOf Try.f9) laws_FnExactBackOf_an (⟨mkE 66 0 [(0, .dat (.list (.int .i64)) x2882)], []⟩ : St) (Ret (tlook tys) Try.f9.results.toList r H') :=
  ret_of' (laws_FnExactBackOf_n1_l x2882) (by unfold laws_FnExactBackOf; kernel_rfl) (by
  intro t
  exact ret_mk [.dat .bool t] (by kernel_rfl) (by kernel_rfl) (by kernel_rfl) (by kernel_rfl)) h

def F_laws_FnExactBackOf : Fun := fun avs H =>
  match avs, H with
  | [.dat (.list (.int .i64)) x2882], [] => ⟨_, laws_FnExactBackOf x2882, fun (t : Bool) => (.dat .bool t, [])⟩
  | _, _ => Ans.no

theorem laws_FnExactBackOf_sound : Sound Try.prog 9 F_laws_FnExactBackOf := by
  refine fn_sound' (C := laws_FnExactBackOf_ctx) (c := bodyOf Try.f9) (cok_of tys_ok (List.forall_mem_cons.2 ⟨laws_toIntS_sound, List.forall_mem_cons.2 ⟨spec_BackOf_sound, List.forall_mem_cons.2 ⟨impl_BackOf_sound, List.forall_mem_cons.2 ⟨laws_eqIntS_sound, List.forall_mem_cons.2 ⟨laws_markIntS_sound, List.forall_mem_cons.2 ⟨laws_heldIntS_sound, by simp⟩⟩⟩⟩⟩⟩) (List.forall_mem_cons.2 ⟨Try.call19, List.forall_mem_cons.2 ⟨Try.call24, List.forall_mem_cons.2 ⟨Try.call25, List.forall_mem_cons.2 ⟨Try.call21, List.forall_mem_cons.2 ⟨Try.call26, List.forall_mem_cons.2 ⟨Try.call27, by simp⟩⟩⟩⟩⟩⟩) (by kernel_rfl)) Try.func9 (by kernel_rfl) LL laws_FnExactBackOf_an ?_
  intro avs H r H' h
  unfold F_laws_FnExactBackOf at h
  split at h
  · refine Awp.cast ?_ ?_ ?_ (laws_FnExactBackOf_e _ h) <;> kernel_rfl
  · simp [Ans.no, Ans.run] at h

end Go.Rv
