/-
  The checked code answers as the plain functions do; written by program. Conditions: none.
-/
import Derived.Test.YtenenhmofmdcbaaGLb
set_option linter.unusedVariables false
set_option linter.unusedSimpArgs false
set_option maxRecDepth 100000
namespace Go.Rv
open Go.Proofs
theorem impl_renamed_int_n3_l (x2399 : List Int) (x2400 : List Int) (x2405 : Int) (x2429 : Int) (x2401 : List Int) (x2430 : List Int) : Link impl_renamed_int_ctx LL (Code.fst (Code.fst (Code.snd (Code.fst (Code.snd (Code.snd (bodyOf Try.f43))))))) (Ann.fst (Ann.fst (Ann.snd (Ann.fst (Ann.snd (Ann.snd impl_renamed_int_an)))))) (⟨mkE 32 0 [(0, .dat (.list (.int .i64)) x2399), (2, .fn 44 [] [.ptr 0 0]), (7, .slc 2), (13, .dat (.list (.int .i64)) x2400), (14, .dat (.int .i64) x2405), (15, .dat (.int .i64) x2429)], [some (.box [.slc 1]), some (.seq (.int .i64) x2401), some (.seq (.int .i64) x2430)]⟩ : St) (impl_renamed_int_n3 x2399 x2400 x2405 x2429 x2401 x2430) (Sum.elim (fun (t : Int × (List Int)) => (Exit.normal, (⟨mkE 32 0 [(0, .dat (.list (.int .i64)) x2399), (2, .fn 44 [] [.ptr 0 0]), (7, .slc 2), (13, .dat (.list (.int .i64)) x2400), (14, .dat (.int .i64) x2405), (15, .dat (.int .i64) t.1)], [some (.box [.slc 1]), some (.seq (.int .i64) x2401), some (.seq (.int .i64) t.2)]⟩ : St))) (fun (t : (List Int)) => ((Exit.exit 0), (⟨mkE 32 0 [(7, .slc 2)], [some (.box [.slc 1]), some (.seq (.int .i64) x2401), some (.seq (.int .i64) t)]⟩ : St)))) := by
  refine Link.of fun K h => ?_
  simp only [impl_renamed_int_n3, wpO_bind, wpO_cond, wpO_map, wpO_some] at h
  exact Awp.of (by kernel_rfl) h

theorem impl_renamed_int_n4_l (x2399 : List Int) (x2400 : List Int) (x2405 : Int) (x2401 : List Int) (x2404 : List Int) : Link impl_renamed_int_ctx LL (Code.fst (Code.snd (Code.fst (Code.snd (Code.snd (bodyOf Try.f43)))))) (Ann.fst (Ann.snd (Ann.fst (Ann.snd (Ann.snd impl_renamed_int_an))))) (⟨mkE 32 0 [(0, .dat (.list (.int .i64)) x2399), (2, .fn 44 [] [.ptr 0 0]), (7, .slc 2), (13, .dat (.list (.int .i64)) x2400), (14, .dat (.int .i64) x2405), (15, .dat (.int .i64) 0)], [some (.box [.slc 1]), some (.seq (.int .i64) x2401), some (.seq (.int .i64) x2404)]⟩ : St) (impl_renamed_int_n4 x2399 x2400 x2405 x2401 x2404) (fun (t : (List Int)) => ((Exit.exit 0), (⟨mkE 32 0 [(7, .slc 2)], [some (.box [.slc 1]), some (.seq (.int .i64) x2401), some (.seq (.int .i64) t)]⟩ : St))) := by
  unfold impl_renamed_int_n4
  exact Link.cast (by kernel_rfl) (by kernel_rfl) (link_loop (mk := fun (s : Int × (List Int)) => (⟨mkE 32 0 [(0, .dat (.list (.int .i64)) x2399), (2, .fn 44 [] [.ptr 0 0]), (7, .slc 2), (13, .dat (.list (.int .i64)) x2400), (14, .dat (.int .i64) x2405), (15, .dat (.int .i64) s.1)], [some (.box [.slc 1]), some (.seq (.int .i64) x2401), some (.seq (.int .i64) s.2)]⟩ : St)) (fin := (fun (t : (List Int)) => ((Exit.exit 0), (⟨mkE 32 0 [(7, .slc 2)], [some (.box [.slc 1]), some (.seq (.int .i64) x2401), some (.seq (.int .i64) t)]⟩ : St)))) (by
  rintro t f K h
  · exact h) (fun s => link_map (impl_renamed_int_n3_l x2399 x2400 x2405 s.1 x2401 s.2) (Sum.elim (fun (t : Int × (List Int)) => Sum.inl (t.1, t.2)) (fun (t : (List Int)) => Sum.inr t)) (by
  rintro (t | t)
  · kernel_rfl
  · kernel_rfl)) (0, x2404))

theorem impl_renamed_int_n5_l (x2399 : List Int) (x2400 : List Int) (x2405 : Int) (x2401 : List Int) (x2404 : List Int) : Link impl_renamed_int_ctx LL (Code.snd (Code.fst (Code.snd (Code.snd (bodyOf Try.f43))))) (Ann.snd (Ann.fst (Ann.snd (Ann.snd impl_renamed_int_an)))) (⟨mkE 32 0 [(0, .dat (.list (.int .i64)) x2399), (2, .fn 44 [] [.ptr 0 0]), (7, .slc 2), (13, .dat (.list (.int .i64)) x2400), (14, .dat (.int .i64) x2405), (15, .dat (.int .i64) 0)], [some (.box [.slc 1]), some (.seq (.int .i64) x2401), some (.seq (.int .i64) x2404)]⟩ : St) (impl_renamed_int_n5 x2399 x2400 x2405 x2401 x2404) (fun (t : (List Int)) => (Exit.normal, (⟨mkE 32 0 [(7, .slc 2)], [some (.box [.slc 1]), some (.seq (.int .i64) x2401), some (.seq (.int .i64) t)]⟩ : St))) := by
  unfold impl_renamed_int_n5
  exact Link.cast (by kernel_rfl) (by kernel_rfl) (link_block (id := 0) (impl_renamed_int_n4_l x2399 x2400 x2405 x2401 x2404) (fun (t : (List Int)) => t) (by
  rintro t K h
  · exact Eq.mp (by kernel_rfl) h))

theorem impl_renamed_int_n6_l (x2399 : List Int) (x2400 : List Int) (x2401 : List Int) (x2404 : List Int) : Link impl_renamed_int_ctx LL (Code.fst (Code.snd (Code.snd (bodyOf Try.f43)))) (Ann.fst (Ann.snd (Ann.snd impl_renamed_int_an))) (⟨mkE 32 0 [(0, .dat (.list (.int .i64)) x2399), (1, .dat (.list (.int .i64)) x2400), (2, .fn 44 [] [.ptr 0 0]), (7, .slc 2)], [some (.box [.slc 1]), some (.seq (.int .i64) x2401), some (.seq (.int .i64) x2404)]⟩ : St) (impl_renamed_int_n6 x2399 x2400 x2401 x2404) (fun (t : (List Int)) => (Exit.normal, (⟨mkE 32 0 [(7, .slc 2)], [some (.box [.slc 1]), some (.seq (.int .i64) x2401), some (.seq (.int .i64) t)]⟩ : St))) := by
  unfold impl_renamed_int_n6
  exact Link.cast (by kernel_rfl) (by kernel_rfl) (link_seq (b := (Code.snd (Code.fst (Code.snd (Code.snd (bodyOf Try.f43)))))) (y := (Ann.snd (Ann.fst (Ann.snd (Ann.snd impl_renamed_int_an))))) (impl_renamed_int_n2_l x2399 x2400 x2401 x2404) (fun (t : Int) => (impl_renamed_int_n5_l x2399 x2400 t x2401 x2404)))

theorem impl_renamed_int_n7_l (x2401 : List Int) (x2430 : List Int) : Link impl_renamed_int_ctx LL (Code.snd (Code.snd (Code.snd (bodyOf Try.f43)))) (Ann.snd (Ann.snd (Ann.snd impl_renamed_int_an))) (⟨mkE 32 0 [(7, .slc 2)], [some (.box [.slc 1]), some (.seq (.int .i64) x2401), some (.seq (.int .i64) x2430)]⟩ : St) (impl_renamed_int_n7 x2430) (fun (t : (List Int)) => (Exit.ret, (⟨mkE 32 0 [(6, .slc 2)], [some (.box [.slc 1]), some (.seq (.int .i64) x2401), some (.seq (.int .i64) t)]⟩ : St))) := by
  refine Link.of fun K h => ?_
  simp only [impl_renamed_int_n7, wpO_bind, wpO_cond, wpO_map, wpO_some] at h
  exact Awp.of (by kernel_rfl) h

theorem impl_renamed_int_n8_l (x2399 : List Int) (x2400 : List Int) (x2401 : List Int) (x2404 : List Int) : Link impl_renamed_int_ctx LL (Code.snd (Code.snd (bodyOf Try.f43))) (Ann.snd (Ann.snd impl_renamed_int_an)) (⟨mkE 32 0 [(0, .dat (.list (.int .i64)) x2399), (1, .dat (.list (.int .i64)) x2400), (2, .fn 44 [] [.ptr 0 0]), (7, .slc 2)], [some (.box [.slc 1]), some (.seq (.int .i64) x2401), some (.seq (.int .i64) x2404)]⟩ : St) (impl_renamed_int_n8 x2399 x2400 x2401 x2404) (fun (t : (List Int)) => (Exit.ret, (⟨mkE 32 0 [(6, .slc 2)], [some (.box [.slc 1]), some (.seq (.int .i64) x2401), some (.seq (.int .i64) t)]⟩ : St))) := by
  unfold impl_renamed_int_n8
  exact Link.cast (by kernel_rfl) (by kernel_rfl) (link_seq (b := (Code.snd (Code.snd (Code.snd (bodyOf Try.f43))))) (y := (Ann.snd (Ann.snd (Ann.snd impl_renamed_int_an)))) (impl_renamed_int_n6_l x2399 x2400 x2401 x2404) (fun (t : (List Int)) => (impl_renamed_int_n7_l x2401 t)))

theorem impl_renamed_int_n9_l (x2399 : List Int) (x2400 : List Int) (x2401 : List Int) : Link impl_renamed_int_ctx LL (bodyOf Try.f43) impl_renamed_int_an (⟨mkE 32 0 [(0, .dat (.list (.int .i64)) x2399), (1, .dat (.list (.int .i64)) x2400), (2, .fn 44 [] [.ptr 0 0])], [some (.box [.slc 1]), some (.seq (.int .i64) x2401)]⟩ : St) (impl_renamed_int_n9 x2399 x2400 x2401) (fun (t : (List Int)) => (Exit.ret, (⟨mkE 32 0 [(6, .slc 2)], [some (.box [.slc 1]), some (.seq (.int .i64) x2401), some (.seq (.int .i64) t)]⟩ : St))) := by
  unfold impl_renamed_int_n9
  exact Link.cast (by kernel_rfl) (by kernel_rfl) (link_group (c := (Code.fst (Code.snd (bodyOf Try.f43)))) (a := (Ann.fst (Ann.snd impl_renamed_int_an))) [(Code.fst (bodyOf Try.f43))] [(Ann.fst impl_renamed_int_an)] rfl (link_seq (b := (Code.snd (Code.snd (bodyOf Try.f43)))) (y := (Ann.snd (Ann.snd impl_renamed_int_an))) (impl_renamed_int_n1_l x2399 x2400 x2401) (fun (t : (List Int)) => (impl_renamed_int_n8_l x2399 x2400 x2401 t))))

theorem impl_renamed_int_e (x2399 : List Int) (x2400 : List Int) (x2401 : List Int) {r : AV} {H' : Heap} (h : (Ans.mk _ (impl_renamed_int x2399 x2400 x2401) (fun (t : (List Int)) => (.slc 2, [some (.box [.slc 1]), some (.seq (.int .i64) x2401), some (.seq (.int .i64) t)]))).run = some (r, H')) : Awp impl_renamed_int_ctx LL (bodyOf Try.f43) impl_renamed_int_an (⟨mkE 32 0 [(0, .dat (.list (.int .i64)) x2399), (1, .dat (.list (.int .i64)) x2400), (2, .fn 44 [] [.ptr 0 0])], [some (.box [.slc 1]), some (.seq (.int .i64) x2401)]⟩ : St) (Ret (tlook tys) Try.f43.results.toList r H') :=
  ret_of' (impl_renamed_int_n9_l x2399 x2400 x2401) (by unfold impl_renamed_int; kernel_rfl) (by
  intro t
  exact ret_mk [.slc 2] (by kernel_rfl) (by kernel_rfl) (by kernel_rfl) (by kernel_rfl)) h

def F_impl_renamed_int : Fun := fun avs H =>
  match avs, H with
  | [.dat (.list (.int .i64)) x2399, .dat (.list (.int .i64)) x2400, .fn 44 [] [.ptr 0 0]], [some (.box [.slc 1]), some (.seq (.int .i64) x2401)] => ⟨_, impl_renamed_int x2399 x2400 x2401, fun (t : (List Int)) => (.slc 2, [some (.box [.slc 1]), some (.seq (.int .i64) x2401), some (.seq (.int .i64) t)])⟩
  | _, _ => Ans.no

theorem impl_renamed_int_sound : Sound Try.prog 43 F_impl_renamed_int := by
  refine fn_sound' (C := impl_renamed_int_ctx) (c := bodyOf Try.f43) (cok_of tys_ok (List.forall_mem_cons.2 ⟨impl_PutInOrder_1_sound, by simp⟩) (List.forall_mem_cons.2 ⟨Try.call44, by simp⟩) (by kernel_rfl)) Try.func43 (by kernel_rfl) LL impl_renamed_int_an ?_
  intro avs H r H' h
  unfold F_impl_renamed_int at h
  split at h
  · refine Awp.cast ?_ ?_ ?_ (impl_renamed_int_e _ _ _ h) <;> kernel_rfl
  · simp [Ans.no, Ans.run] at h

/-! loop.example/headtrees/impl.PutInOrder -/

def impl_PutInOrder_an : Ann := (.seq (.leaf [0, 1]) (.seq (.seq (.leaf [0, 1, 16]) (.cond (.seq (.leaf [4, 5]) (.leaf [4, 5])) (.leaf [0, 1]))) (.seq (.leaf [0, 1, 6]) (.seq (.leaf [4, 5]) (.leaf [4, 5])))))

noncomputable def impl_PutInOrder_ctx : Ctx := ⟨tlook tys, olook [(11, F_impl_TreeOk), (25, F_impl_OrderOk), (42, F_impl_placesIn), (43, F_impl_renamed_int)], ioF, 0⟩

theorem impl_PutInOrder_n1_l (x2346 : List Int) (x2347 : List Int) : Link impl_PutInOrder_ctx LL (bodyOf Try.f29) impl_PutInOrder_an (⟨mkE 23 0 [(0, .dat (.list (.int .i64)) x2346), (1, .dat (.list (.int .i64)) x2347)], []⟩ : St) (impl_PutInOrder_n1 x2346 x2347) (fun (t : Bool × (List Int)) => (Exit.ret, (⟨mkE 23 0 [(4, .slc 0), (5, .dat .bool t.1)], [some (.seq (.int .i64) t.2)]⟩ : St))) := by
  refine Link.of fun K h => ?_
  simp only [impl_PutInOrder_n1, wpO_bind, wpO_cond, wpO_map, wpO_some] at h
  exact Awp.of (by kernel_rfl) h

theorem impl_PutInOrder_e (x2346 : List Int) (x2347 : List Int) {r : AV} {H' : Heap} (h : (Ans.mk _ (impl_PutInOrder x2346 x2347) (fun (t : Bool × (List Int)) => (.tup [.slc 0, .dat .bool t.1], [some (.seq (.int .i64) t.2)]))).run = some (r, H')) : Awp impl_PutInOrder_ctx LL (bodyOf Try.f29) impl_PutInOrder_an (⟨mkE 23 0 [(0, .dat (.list (.int .i64)) x2346), (1, .dat (.list (.int .i64)) x2347)], []⟩ : St) (Ret (tlook tys) Try.f29.results.toList r H') :=
  ret_of' (impl_PutInOrder_n1_l x2346 x2347) (by unfold impl_PutInOrder; kernel_rfl) (by
  intro t
  exact ret_mk [.slc 0, .dat .bool t.1] (by kernel_rfl) (by kernel_rfl) (by kernel_rfl) (by kernel_rfl)) h

def F_impl_PutInOrder : Fun := fun avs H =>
  match avs, H with
  | [.dat (.list (.int .i64)) x2346, .dat (.list (.int .i64)) x2347], [] => ⟨_, impl_PutInOrder x2346 x2347, fun (t : Bool × (List Int)) => (.tup [.slc 0, .dat .bool t.1], [some (.seq (.int .i64) t.2)])⟩
  | _, _ => Ans.no

theorem impl_PutInOrder_sound : Sound Try.prog 29 F_impl_PutInOrder := by
  refine fn_sound' (C := impl_PutInOrder_ctx) (c := bodyOf Try.f29) (cok_of tys_ok (List.forall_mem_cons.2 ⟨impl_TreeOk_sound, List.forall_mem_cons.2 ⟨impl_OrderOk_sound, List.forall_mem_cons.2 ⟨impl_placesIn_sound, List.forall_mem_cons.2 ⟨impl_renamed_int_sound, by simp⟩⟩⟩⟩) (List.forall_mem_cons.2 ⟨Try.call11, List.forall_mem_cons.2 ⟨Try.call25, List.forall_mem_cons.2 ⟨Try.call42, List.forall_mem_cons.2 ⟨Try.call43, by simp⟩⟩⟩⟩) (by kernel_rfl)) Try.func29 (by kernel_rfl) LL impl_PutInOrder_an ?_
  intro avs H r H' h
  unfold F_impl_PutInOrder at h
  split at h
  · refine Awp.cast ?_ ?_ ?_ (impl_PutInOrder_e _ _ h) <;> kernel_rfl
  · simp [Ans.no, Ans.run] at h

/-! loop.example/headtrees/spec.PutInOrder -/

def spec_PutInOrder_an : Ann := (.seq (.leaf [0, 1]) (.seq (.seq (.leaf [0, 1, 19]) (.cond (.seq (.leaf [4, 5]) (.leaf [4, 5])) (.leaf [0, 1]))) (.seq (.leaf [0, 1, 6]) (.seq (.seq (.leaf [0, 1, 6, 7]) (.block (.loop (.seq (.seq (.leaf [0, 1, 6, 7, 28]) (.cond (.leaf [0, 1, 6, 7]) (.leaf [0, 1, 6]))) (.seq (.block (.leaf [0, 1, 6, 7])) (.leaf [0, 1, 6, 7])))))) (.seq (.leaf [0, 1, 6, 8]) (.seq (.seq (.leaf [0, 1, 6, 8, 9]) (.block (.loop (.seq (.seq (.leaf [0, 1, 6, 8, 9, 43]) (.cond (.leaf [0, 1, 6, 8, 9]) (.leaf [8]))) (.seq (.block (.leaf [0, 1, 6, 8, 9])) (.leaf [0, 1, 6, 8, 9])))))) (.seq (.leaf [4, 5]) (.leaf [4, 5]))))))))

noncomputable def spec_PutInOrder_ctx : Ctx := ⟨tlook tys, olook [(12, F_spec_TreeOk), (26, F_spec_OrderOk)], ioF, 0⟩

theorem spec_PutInOrder_n1_l (x2469 : List Int) (x2470 : List Int) : Link spec_PutInOrder_ctx LL (Code.seq (Code.fst (bodyOf Try.f30)) (Code.seq (Code.fst (Code.snd (bodyOf Try.f30))) (Code.fst (Code.snd (Code.snd (bodyOf Try.f30)))))) (Ann.seq (Ann.fst spec_PutInOrder_an) (Ann.seq (Ann.fst (Ann.snd spec_PutInOrder_an)) (Ann.fst (Ann.snd (Ann.snd spec_PutInOrder_an))))) (⟨mkE 61 0 [(0, .dat (.list (.int .i64)) x2469), (1, .dat (.list (.int .i64)) x2470)], []⟩ : St) (spec_PutInOrder_n1 x2469 x2470) (Sum.elim (fun (t : (List Int)) => (Exit.normal, (⟨mkE 61 0 [(0, .dat (.list (.int .i64)) x2469), (1, .dat (.list (.int .i64)) x2470), (6, .slc 0)], [some (.seq (.int .i64) t)]⟩ : St))) (fun (t : Bool × (List Int)) => (Exit.ret, (⟨mkE 61 0 [(4, .slc 0), (5, .dat .bool t.1)], [some (.seq (.int .i64) t.2)]⟩ : St)))) := by
  refine Link.of fun K h => ?_
  simp only [spec_PutInOrder_n1, wpO_bind, wpO_cond, wpO_map, wpO_some] at h
  exact Awp.of (by kernel_rfl) h

theorem spec_PutInOrder_n2_l (x2469 : List Int) (x2470 : List Int) (x2484 : List Int) : Link spec_PutInOrder_ctx LL (Code.fst (Code.fst (Code.snd (Code.snd (Code.snd (bodyOf Try.f30)))))) (Ann.fst (Ann.fst (Ann.snd (Ann.snd (Ann.snd spec_PutInOrder_an))))) (⟨mkE 61 0 [(0, .dat (.list (.int .i64)) x2469), (1, .dat (.list (.int .i64)) x2470), (6, .slc 0)], [some (.seq (.int .i64) x2484)]⟩ : St) (spec_PutInOrder_n2) (fun (t : Unit) => (Exit.normal, (⟨mkE 61 0 [(0, .dat (.list (.int .i64)) x2469), (1, .dat (.list (.int .i64)) x2470), (6, .slc 0), (7, .dat (.int .i64) 0)], [some (.seq (.int .i64) x2484)]⟩ : St))) := by
  refine Link.of fun K h => ?_
  simp only [spec_PutInOrder_n2, wpO_bind, wpO_cond, wpO_map, wpO_some] at h
  exact Awp.of (by kernel_rfl) h

theorem spec_PutInOrder_n3_l (x2469 : List Int) (x2470 : List Int) (x2500 : Int) (x2501 : List Int) : Link spec_PutInOrder_ctx LL (Code.fst (Code.fst (Code.snd (Code.fst (Code.snd (Code.snd (Code.snd (bodyOf Try.f30)))))))) (Ann.fst (Ann.fst (Ann.snd (Ann.fst (Ann.snd (Ann.snd (Ann.snd spec_PutInOrder_an))))))) (⟨mkE 61 0 [(0, .dat (.list (.int .i64)) x2469), (1, .dat (.list (.int .i64)) x2470), (6, .slc 0), (7, .dat (.int .i64) x2500)], [some (.seq (.int .i64) x2501)]⟩ : St) (spec_PutInOrder_n3 x2470 x2500 x2501) (Sum.elim (fun (t : Int × (List Int)) => (Exit.normal, (⟨mkE 61 0 [(0, .dat (.list (.int .i64)) x2469), (1, .dat (.list (.int .i64)) x2470), (6, .slc 0), (7, .dat (.int .i64) t.1)], [some (.seq (.int .i64) t.2)]⟩ : St))) (fun (t : (List Int)) => ((Exit.exit 0), (⟨mkE 61 0 [(0, .dat (.list (.int .i64)) x2469), (1, .dat (.list (.int .i64)) x2470), (6, .slc 0)], [some (.seq (.int .i64) t)]⟩ : St)))) := by
  refine Link.of fun K h => ?_
  simp only [spec_PutInOrder_n3, wpO_bind, wpO_cond, wpO_map, wpO_some] at h
  exact Awp.of (by kernel_rfl) h

theorem spec_PutInOrder_n4_l (x2469 : List Int) (x2470 : List Int) (x2484 : List Int) : Link spec_PutInOrder_ctx LL (Code.fst (Code.snd (Code.fst (Code.snd (Code.snd (Code.snd (bodyOf Try.f30))))))) (Ann.fst (Ann.snd (Ann.fst (Ann.snd (Ann.snd (Ann.snd spec_PutInOrder_an)))))) (⟨mkE 61 0 [(0, .dat (.list (.int .i64)) x2469), (1, .dat (.list (.int .i64)) x2470), (6, .slc 0), (7, .dat (.int .i64) 0)], [some (.seq (.int .i64) x2484)]⟩ : St) (spec_PutInOrder_n4 x2470 x2484) (fun (t : (List Int)) => ((Exit.exit 0), (⟨mkE 61 0 [(0, .dat (.list (.int .i64)) x2469), (1, .dat (.list (.int .i64)) x2470), (6, .slc 0)], [some (.seq (.int .i64) t)]⟩ : St))) := by
  unfold spec_PutInOrder_n4
  exact Link.cast (by kernel_rfl) (by kernel_rfl) (link_loop (mk := fun (s : Int × (List Int)) => (⟨mkE 61 0 [(0, .dat (.list (.int .i64)) x2469), (1, .dat (.list (.int .i64)) x2470), (6, .slc 0), (7, .dat (.int .i64) s.1)], [some (.seq (.int .i64) s.2)]⟩ : St)) (fin := (fun (t : (List Int)) => ((Exit.exit 0), (⟨mkE 61 0 [(0, .dat (.list (.int .i64)) x2469), (1, .dat (.list (.int .i64)) x2470), (6, .slc 0)], [some (.seq (.int .i64) t)]⟩ : St)))) (by
  rintro t f K h
  · exact h) (fun s => link_map (spec_PutInOrder_n3_l x2469 x2470 s.1 s.2) (Sum.elim (fun (t : Int × (List Int)) => Sum.inl (t.1, t.2)) (fun (t : (List Int)) => Sum.inr t)) (by
  rintro (t | t)
  · kernel_rfl
  · kernel_rfl)) (0, x2484))

theorem spec_PutInOrder_n5_l (x2469 : List Int) (x2470 : List Int) (x2484 : List Int) : Link spec_PutInOrder_ctx LL (Code.snd (Code.fst (Code.snd (Code.snd (Code.snd (bodyOf Try.f30)))))) (Ann.snd (Ann.fst (Ann.snd (Ann.snd (Ann.snd spec_PutInOrder_an))))) (⟨mkE 61 0 [(0, .dat (.list (.int .i64)) x2469), (1, .dat (.list (.int .i64)) x2470), (6, .slc 0), (7, .dat (.int .i64) 0)], [some (.seq (.int .i64) x2484)]⟩ : St) (spec_PutInOrder_n5 x2470 x2484) (fun (t : (List Int)) => (Exit.normal, (⟨mkE 61 0 [(0, .dat (.list (.int .i64)) x2469), (1, .dat (.list (.int .i64)) x2470), (6, .slc 0)], [some (.seq (.int .i64) t)]⟩ : St))) := by
  unfold spec_PutInOrder_n5
  exact Link.cast (by kernel_rfl) (by kernel_rfl) (link_block (id := 0) (spec_PutInOrder_n4_l x2469 x2470 x2484) (fun (t : (List Int)) => t) (by
  rintro t K h
  · exact Eq.mp (by kernel_rfl) h))

theorem spec_PutInOrder_n6_l (x2469 : List Int) (x2470 : List Int) (x2484 : List Int) : Link spec_PutInOrder_ctx LL (Code.fst (Code.snd (Code.snd (Code.snd (bodyOf Try.f30))))) (Ann.fst (Ann.snd (Ann.snd (Ann.snd spec_PutInOrder_an)))) (⟨mkE 61 0 [(0, .dat (.list (.int .i64)) x2469), (1, .dat (.list (.int .i64)) x2470), (6, .slc 0)], [some (.seq (.int .i64) x2484)]⟩ : St) (spec_PutInOrder_n6 x2470 x2484) (fun (t : (List Int)) => (Exit.normal, (⟨mkE 61 0 [(0, .dat (.list (.int .i64)) x2469), (1, .dat (.list (.int .i64)) x2470), (6, .slc 0)], [some (.seq (.int .i64) t)]⟩ : St))) := by
  unfold spec_PutInOrder_n6
  exact Link.cast (by kernel_rfl) (by kernel_rfl) (link_seq (b := (Code.snd (Code.fst (Code.snd (Code.snd (Code.snd (bodyOf Try.f30))))))) (y := (Ann.snd (Ann.fst (Ann.snd (Ann.snd (Ann.snd spec_PutInOrder_an)))))) (spec_PutInOrder_n2_l x2469 x2470 x2484) (fun (t : Unit) => (spec_PutInOrder_n5_l x2469 x2470 x2484)))

theorem spec_PutInOrder_n7_l (x2469 : List Int) (x2470 : List Int) (x2501 : List Int) : Link spec_PutInOrder_ctx LL (Code.fst (Code.snd (Code.snd (Code.snd (Code.snd (bodyOf Try.f30)))))) (Ann.fst (Ann.snd (Ann.snd (Ann.snd (Ann.snd spec_PutInOrder_an))))) (⟨mkE 61 0 [(0, .dat (.list (.int .i64)) x2469), (1, .dat (.list (.int .i64)) x2470), (6, .slc 0)], [some (.seq (.int .i64) x2501)]⟩ : St) (spec_PutInOrder_n7) (fun (t : Unit) => (Exit.normal, (⟨mkE 61 0 [(0, .dat (.list (.int .i64)) x2469), (1, .dat (.list (.int .i64)) x2470), (6, .slc 0), (8, .slc 1)], [some (.seq (.int .i64) x2501), some (.seq (.int .i64) ([] : List Int))]⟩ : St))) := by
  refine Link.of fun K h => ?_
  simp only [spec_PutInOrder_n7, wpO_bind, wpO_cond, wpO_map, wpO_some] at h
  exact Awp.of (by kernel_rfl) h

theorem spec_PutInOrder_n8_l (x2469 : List Int) (x2470 : List Int) (x2501 : List Int) : Link spec_PutInOrder_ctx LL (Code.fst (Code.fst (Code.snd (Code.snd (Code.snd (Code.snd (Code.snd (bodyOf Try.f30)))))))) (Ann.fst (Ann.fst (Ann.snd (Ann.snd (Ann.snd (Ann.snd (Ann.snd spec_PutInOrder_an))))))) (⟨mkE 61 0 [(0, .dat (.list (.int .i64)) x2469), (1, .dat (.list (.int .i64)) x2470), (6, .slc 0), (8, .slc 1)], [some (.seq (.int .i64) x2501), some (.seq (.int .i64) ([] : List Int))]⟩ : St) (spec_PutInOrder_n8) (fun (t : Unit) => (Exit.normal, (⟨mkE 61 0 [(0, .dat (.list (.int .i64)) x2469), (1, .dat (.list (.int .i64)) x2470), (6, .slc 0), (8, .slc 1), (9, .dat (.int .i64) 0)], [some (.seq (.int .i64) x2501), some (.seq (.int .i64) ([] : List Int))]⟩ : St))) := by
  refine Link.of fun K h => ?_
  simp only [spec_PutInOrder_n8, wpO_bind, wpO_cond, wpO_map, wpO_some] at h
  exact Awp.of (by kernel_rfl) h

theorem spec_PutInOrder_n9_l (x2469 : List Int) (x2470 : List Int) (x2542 : Int) (x2501 : List Int) (x2543 : List Int) : Link spec_PutInOrder_ctx LL (Code.fst (Code.fst (Code.snd (Code.fst (Code.snd (Code.snd (Code.snd (Code.snd (Code.snd (bodyOf Try.f30)))))))))) (Ann.fst (Ann.fst (Ann.snd (Ann.fst (Ann.snd (Ann.snd (Ann.snd (Ann.snd (Ann.snd spec_PutInOrder_an))))))))) (⟨mkE 61 0 [(0, .dat (.list (.int .i64)) x2469), (1, .dat (.list (.int .i64)) x2470), (6, .slc 0), (8, .slc 1), (9, .dat (.int .i64) x2542)], [some (.seq (.int .i64) x2501), some (.seq (.int .i64) x2543)]⟩ : St) (spec_PutInOrder_n9 x2469 x2470 x2542 x2501 x2543) (Sum.elim (fun (t : Int × (List Int)) => (Exit.normal, (⟨mkE 61 0 [(0, .dat (.list (.int .i64)) x2469), (1, .dat (.list (.int .i64)) x2470), (6, .slc 0), (8, .slc 1), (9, .dat (.int .i64) t.1)], [some (.seq (.int .i64) x2501), some (.seq (.int .i64) t.2)]⟩ : St))) (fun (t : (List Int)) => ((Exit.exit 2), (⟨mkE 61 0 [(8, .slc 0)], [some (.seq (.int .i64) t)]⟩ : St)))) := by
  refine Link.of fun K h => ?_
  simp only [spec_PutInOrder_n9, wpO_bind, wpO_cond, wpO_map, wpO_some] at h
  exact Awp.of (by kernel_rfl) h

theorem spec_PutInOrder_n10_l (x2469 : List Int) (x2470 : List Int) (x2501 : List Int) : Link spec_PutInOrder_ctx LL (Code.fst (Code.snd (Code.fst (Code.snd (Code.snd (Code.snd (Code.snd (Code.snd (bodyOf Try.f30))))))))) (Ann.fst (Ann.snd (Ann.fst (Ann.snd (Ann.snd (Ann.snd (Ann.snd (Ann.snd spec_PutInOrder_an)))))))) (⟨mkE 61 0 [(0, .dat (.list (.int .i64)) x2469), (1, .dat (.list (.int .i64)) x2470), (6, .slc 0), (8, .slc 1), (9, .dat (.int .i64) 0)], [some (.seq (.int .i64) x2501), some (.seq (.int .i64) ([] : List Int))]⟩ : St) (spec_PutInOrder_n10 x2469 x2470 x2501) (fun (t : (List Int)) => ((Exit.exit 2), (⟨mkE 61 0 [(8, .slc 0)], [some (.seq (.int .i64) t)]⟩ : St))) := by
  unfold spec_PutInOrder_n10
  exact Link.cast (by kernel_rfl) (by kernel_rfl) (link_loop (mk := fun (s : Int × (List Int)) => (⟨mkE 61 0 [(0, .dat (.list (.int .i64)) x2469), (1, .dat (.list (.int .i64)) x2470), (6, .slc 0), (8, .slc 1), (9, .dat (.int .i64) s.1)], [some (.seq (.int .i64) x2501), some (.seq (.int .i64) s.2)]⟩ : St)) (fin := (fun (t : (List Int)) => ((Exit.exit 2), (⟨mkE 61 0 [(8, .slc 0)], [some (.seq (.int .i64) t)]⟩ : St)))) (by
  rintro t f K h
  · exact h) (fun s => link_map (spec_PutInOrder_n9_l x2469 x2470 s.1 x2501 s.2) (Sum.elim (fun (t : Int × (List Int)) => Sum.inl (t.1, t.2)) (fun (t : (List Int)) => Sum.inr t)) (by
  rintro (t | t)
  · kernel_rfl
  · kernel_rfl)) (0, ([] : List Int)))

theorem spec_PutInOrder_n11_l (x2469 : List Int) (x2470 : List Int) (x2501 : List Int) : Link spec_PutInOrder_ctx LL (Code.snd (Code.fst (Code.snd (Code.snd (Code.snd (Code.snd (Code.snd (bodyOf Try.f30)))))))) (Ann.snd (Ann.fst (Ann.snd (Ann.snd (Ann.snd (Ann.snd (Ann.snd spec_PutInOrder_an))))))) (⟨mkE 61 0 [(0, .dat (.list (.int .i64)) x2469), (1, .dat (.list (.int .i64)) x2470), (6, .slc 0), (8, .slc 1), (9, .dat (.int .i64) 0)], [some (.seq (.int .i64) x2501), some (.seq (.int .i64) ([] : List Int))]⟩ : St) (spec_PutInOrder_n11 x2469 x2470 x2501) (fun (t : (List Int)) => (Exit.normal, (⟨mkE 61 0 [(8, .slc 0)], [some (.seq (.int .i64) t)]⟩ : St))) := by
  unfold spec_PutInOrder_n11
  exact Link.cast (by kernel_rfl) (by kernel_rfl) (link_block (id := 2) (spec_PutInOrder_n10_l x2469 x2470 x2501) (fun (t : (List Int)) => t) (by
  rintro t K h
  · exact Eq.mp (by kernel_rfl) h))

theorem spec_PutInOrder_n12_l (x2469 : List Int) (x2470 : List Int) (x2501 : List Int) : Link spec_PutInOrder_ctx LL (Code.fst (Code.snd (Code.snd (Code.snd (Code.snd (Code.snd (bodyOf Try.f30))))))) (Ann.fst (Ann.snd (Ann.snd (Ann.snd (Ann.snd (Ann.snd spec_PutInOrder_an)))))) (⟨mkE 61 0 [(0, .dat (.list (.int .i64)) x2469), (1, .dat (.list (.int .i64)) x2470), (6, .slc 0), (8, .slc 1)], [some (.seq (.int .i64) x2501), some (.seq (.int .i64) ([] : List Int))]⟩ : St) (spec_PutInOrder_n12 x2469 x2470 x2501) (fun (t : (List Int)) => (Exit.normal, (⟨mkE 61 0 [(8, .slc 0)], [some (.seq (.int .i64) t)]⟩ : St))) := by
  unfold spec_PutInOrder_n12
  exact Link.cast (by kernel_rfl) (by kernel_rfl) (link_seq (b := (Code.snd (Code.fst (Code.snd (Code.snd (Code.snd (Code.snd (Code.snd (bodyOf Try.f30))))))))) (y := (Ann.snd (Ann.fst (Ann.snd (Ann.snd (Ann.snd (Ann.snd (Ann.snd spec_PutInOrder_an)))))))) (spec_PutInOrder_n8_l x2469 x2470 x2501) (fun (t : Unit) => (spec_PutInOrder_n11_l x2469 x2470 x2501)))

theorem spec_PutInOrder_n13_l (x2543 : List Int) : Link spec_PutInOrder_ctx LL (Code.snd (Code.snd (Code.snd (Code.snd (Code.snd (Code.snd (bodyOf Try.f30))))))) (Ann.snd (Ann.snd (Ann.snd (Ann.snd (Ann.snd (Ann.snd spec_PutInOrder_an)))))) (⟨mkE 61 0 [(8, .slc 0)], [some (.seq (.int .i64) x2543)]⟩ : St) (spec_PutInOrder_n13 x2543) (fun (t : Bool × (List Int)) => (Exit.ret, (⟨mkE 61 0 [(4, .slc 0), (5, .dat .bool t.1)], [some (.seq (.int .i64) t.2)]⟩ : St))) := by
  refine Link.of fun K h => ?_
  simp only [spec_PutInOrder_n13, wpO_bind, wpO_cond, wpO_map, wpO_some] at h
  exact Awp.of (by kernel_rfl) h

theorem spec_PutInOrder_n14_l (x2469 : List Int) (x2470 : List Int) (x2501 : List Int) : Link spec_PutInOrder_ctx LL (Code.snd (Code.snd (Code.snd (Code.snd (Code.snd (bodyOf Try.f30)))))) (Ann.snd (Ann.snd (Ann.snd (Ann.snd (Ann.snd spec_PutInOrder_an))))) (⟨mkE 61 0 [(0, .dat (.list (.int .i64)) x2469), (1, .dat (.list (.int .i64)) x2470), (6, .slc 0), (8, .slc 1)], [some (.seq (.int .i64) x2501), some (.seq (.int .i64) ([] : List Int))]⟩ : St) (spec_PutInOrder_n14 x2469 x2470 x2501) (fun (t : Bool × (List Int)) => (Exit.ret, (⟨mkE 61 0 [(4, .slc 0), (5, .dat .bool t.1)], [some (.seq (.int .i64) t.2)]⟩ : St))) := by
  unfold spec_PutInOrder_n14
  exact Link.cast (by kernel_rfl) (by kernel_rfl) (link_seq (b := (Code.snd (Code.snd (Code.snd (Code.snd (Code.snd (Code.snd (bodyOf Try.f30)))))))) (y := (Ann.snd (Ann.snd (Ann.snd (Ann.snd (Ann.snd (Ann.snd spec_PutInOrder_an))))))) (spec_PutInOrder_n12_l x2469 x2470 x2501) (fun (t : (List Int)) => (spec_PutInOrder_n13_l t)))

theorem spec_PutInOrder_n15_l (x2469 : List Int) (x2470 : List Int) (x2501 : List Int) : Link spec_PutInOrder_ctx LL (Code.snd (Code.snd (Code.snd (Code.snd (bodyOf Try.f30))))) (Ann.snd (Ann.snd (Ann.snd (Ann.snd spec_PutInOrder_an)))) (⟨mkE 61 0 [(0, .dat (.list (.int .i64)) x2469), (1, .dat (.list (.int .i64)) x2470), (6, .slc 0)], [some (.seq (.int .i64) x2501)]⟩ : St) (spec_PutInOrder_n15 x2469 x2470 x2501) (fun (t : Bool × (List Int)) => (Exit.ret, (⟨mkE 61 0 [(4, .slc 0), (5, .dat .bool t.1)], [some (.seq (.int .i64) t.2)]⟩ : St))) := by
  unfold spec_PutInOrder_n15
  exact Link.cast (by kernel_rfl) (by kernel_rfl) (link_seq (b := (Code.snd (Code.snd (Code.snd (Code.snd (Code.snd (bodyOf Try.f30))))))) (y := (Ann.snd (Ann.snd (Ann.snd (Ann.snd (Ann.snd spec_PutInOrder_an)))))) (spec_PutInOrder_n7_l x2469 x2470 x2501) (fun (t : Unit) => (spec_PutInOrder_n14_l x2469 x2470 x2501)))

theorem spec_PutInOrder_n16_l (x2469 : List Int) (x2470 : List Int) (x2484 : List Int) : Link spec_PutInOrder_ctx LL (Code.snd (Code.snd (Code.snd (bodyOf Try.f30)))) (Ann.snd (Ann.snd (Ann.snd spec_PutInOrder_an))) (⟨mkE 61 0 [(0, .dat (.list (.int .i64)) x2469), (1, .dat (.list (.int .i64)) x2470), (6, .slc 0)], [some (.seq (.int .i64) x2484)]⟩ : St) (spec_PutInOrder_n16 x2469 x2470 x2484) (fun (t : Bool × (List Int)) => (Exit.ret, (⟨mkE 61 0 [(4, .slc 0), (5, .dat .bool t.1)], [some (.seq (.int .i64) t.2)]⟩ : St))) := by
  unfold spec_PutInOrder_n16
  exact Link.cast (by kernel_rfl) (by kernel_rfl) (link_seq (b := (Code.snd (Code.snd (Code.snd (Code.snd (bodyOf Try.f30)))))) (y := (Ann.snd (Ann.snd (Ann.snd (Ann.snd spec_PutInOrder_an))))) (spec_PutInOrder_n6_l x2469 x2470 x2484) (fun (t : (List Int)) => (spec_PutInOrder_n15_l x2469 x2470 t)))

theorem spec_PutInOrder_n17_l (x2469 : List Int) (x2470 : List Int) : Link spec_PutInOrder_ctx LL (bodyOf Try.f30) spec_PutInOrder_an (⟨mkE 61 0 [(0, .dat (.list (.int .i64)) x2469), (1, .dat (.list (.int .i64)) x2470)], []⟩ : St) (spec_PutInOrder_n17 x2469 x2470) (fun (t : Bool × (List Int)) => (Exit.ret, (⟨mkE 61 0 [(4, .slc 0), (5, .dat .bool t.1)], [some (.seq (.int .i64) t.2)]⟩ : St))) := by
  unfold spec_PutInOrder_n17
  exact Link.cast (by kernel_rfl) (by kernel_rfl) (link_group (c := (Code.fst (Code.snd (Code.snd (bodyOf Try.f30))))) (a := (Ann.fst (Ann.snd (Ann.snd spec_PutInOrder_an)))) [(Code.fst (bodyOf Try.f30)), (Code.fst (Code.snd (bodyOf Try.f30)))] [(Ann.fst spec_PutInOrder_an), (Ann.fst (Ann.snd spec_PutInOrder_an))] rfl (link_seq2 (b := (Code.snd (Code.snd (Code.snd (bodyOf Try.f30))))) (y := (Ann.snd (Ann.snd (Ann.snd spec_PutInOrder_an)))) (spec_PutInOrder_n1_l x2469 x2470) (fun (t : (List Int)) => (spec_PutInOrder_n16_l x2469 x2470 t)) (fun (t : Bool × (List Int)) => t) (by
  rintro t
  · kernel_rfl) (by
  rintro t f K h
  · exact h)))

theorem spec_PutInOrder_e (x2469 : List Int) (x2470 : List Int) {r : AV} {H' : Heap} (h : (Ans.mk _ (spec_PutInOrder x2469 x2470) (fun (t : Bool × (List Int)) => (.tup [.slc 0, .dat .bool t.1], [some (.seq (.int .i64) t.2)]))).run = some (r, H')) : Awp spec_PutInOrder_ctx LL (bodyOf Try.f30) spec_PutInOrder_an (⟨mkE 61 0 [(0, .dat (.list (.int .i64)) x2469), (1, .dat (.list (.int .i64)) x2470)], []⟩ : St) (Ret (tlook tys) Try.f30.results.toList r H') :=
  ret_of' (spec_PutInOrder_n17_l x2469 x2470) (by unfold spec_PutInOrder; kernel_rfl) (by
  intro t
  exact ret_mk [.slc 0, .dat .bool t.1] (by kernel_rfl) (by kernel_rfl) (by kernel_rfl) (by kernel_rfl)) h

def F_spec_PutInOrder : Fun := fun avs H =>
  match avs, H with
  | [.dat (.list (.int .i64)) x2469, .dat (.list (.int .i64)) x2470], [] => ⟨_, spec_PutInOrder x2469 x2470, fun (t : Bool × (List Int)) => (.tup [.slc 0, .dat .bool t.1], [some (.seq (.int .i64) t.2)])⟩
  | _, _ => Ans.no

theorem spec_PutInOrder_sound : Sound Try.prog 30 F_spec_PutInOrder := by
  refine fn_sound' (C := spec_PutInOrder_ctx) (c := bodyOf Try.f30) (cok_of tys_ok (List.forall_mem_cons.2 ⟨spec_TreeOk_sound, List.forall_mem_cons.2 ⟨spec_OrderOk_sound, by simp⟩⟩) (List.forall_mem_cons.2 ⟨Try.call12, List.forall_mem_cons.2 ⟨Try.call26, by simp⟩⟩) (by kernel_rfl)) Try.func30 (by kernel_rfl) LL spec_PutInOrder_an ?_
  intro avs H r H' h
  unfold F_spec_PutInOrder at h
  split at h
  · refine Awp.cast ?_ ?_ ?_ (spec_PutInOrder_e _ _ h) <;> kernel_rfl
  · simp [Ans.no, Ans.run] at h

/-! loop.example/headtrees/laws.FnPutInOrder -/

def laws_FnPutInOrder_an : Ann := (.seq (.leaf [0]) (.seq (.seq (.leaf [0, 17]) (.cond (.seq (.leaf [2]) (.leaf [2])) (.leaf [0]))) (.seq (.leaf [3, 4]) (.seq (.leaf [3, 4, 5, 6]) (.seq (.leaf [3, 4, 5, 6, 7, 8]) (.seq (.seq (.leaf [3, 4, 5, 6, 43]) (.cond (.seq (.leaf [2]) (.leaf [2])) (.leaf [3, 4, 5, 6]))) (.seq (.seq (.leaf [3, 4, 5, 45]) (.cond (.seq (.leaf [2]) (.leaf [2])) (.leaf [3, 4, 5]))) (.seq (.leaf [3, 4, 5, 9]) (.seq (.leaf [3, 4, 5, 9, 10]) (.seq (.seq (.leaf [3, 4, 5, 9, 10, 67]) (.cond (.seq (.leaf [2]) (.leaf [2])) (.leaf [3, 4, 5, 9, 10]))) (.seq (.leaf [3, 4, 5, 9, 10, 11]) (.seq (.seq (.leaf [3, 4, 5, 9, 10, 11, 12]) (.block (.loop (.seq (.seq (.leaf [3, 4, 5, 9, 10, 11, 12, 74]) (.cond (.leaf [3, 4, 5, 9, 10, 11, 12]) (.leaf [3, 5, 11]))) (.seq (.block (.seq (.seq (.draw [] [0, 1, 2, 3, 4, 5, 6, 7, 8, 9, 10, 11, 12] [] [3, 4, 5, 9, 10, 11, 12, 89]) (.cond (.seq (.leaf [2]) (.leaf [2])) (.leaf [3, 4, 5, 9, 10, 11, 12]))) (.leaf [3, 4, 5, 9, 10, 11, 12]))) (.leaf [3, 4, 5, 9, 10, 11, 12])))))) (.seq (.leaf [3, 5, 13, 14]) (.seq (.leaf [2]) (.leaf [2])))))))))))))))

noncomputable def laws_FnPutInOrder_ctx : Ctx := ⟨tlook tys, olook [(28, F_spec_DrawPutInOrder), (29, F_impl_PutInOrder), (30, F_spec_PutInOrder), (19, F_laws_sameInts), (13, F_laws_alive), (17, F_impl_DepthOf), (11, F_impl_TreeOk)], ioF, 0⟩

theorem laws_FnPutInOrder_n1_l (x2296 : List Int) : Link laws_FnPutInOrder_ctx LL (Code.seq (Code.fst (bodyOf Try.f8)) (Code.seq (Code.fst (Code.snd (bodyOf Try.f8))) (Code.seq (Code.fst (Code.snd (Code.snd (bodyOf Try.f8)))) (Code.seq (Code.fst (Code.snd (Code.snd (Code.snd (bodyOf Try.f8))))) (Code.seq (Code.fst (Code.snd (Code.snd (Code.snd (Code.snd (bodyOf Try.f8)))))) (Code.seq (Code.fst (Code.snd (Code.snd (Code.snd (Code.snd (Code.snd (bodyOf Try.f8))))))) (Code.seq (Code.fst (Code.snd (Code.snd (Code.snd (Code.snd (Code.snd (Code.snd (bodyOf Try.f8)))))))) (Code.seq (Code.fst (Code.snd (Code.snd (Code.snd (Code.snd (Code.snd (Code.snd (Code.snd (bodyOf Try.f8))))))))) (Code.seq (Code.fst (Code.snd (Code.snd (Code.snd (Code.snd (Code.snd (Code.snd (Code.snd (Code.snd (bodyOf Try.f8)))))))))) (Code.seq (Code.fst (Code.snd (Code.snd (Code.snd (Code.snd (Code.snd (Code.snd (Code.snd (Code.snd (Code.snd (bodyOf Try.f8))))))))))) (Code.fst (Code.snd (Code.snd (Code.snd (Code.snd (Code.snd (Code.snd (Code.snd (Code.snd (Code.snd (Code.snd (bodyOf Try.f8)))))))))))))))))))))) (Ann.seq (Ann.fst laws_FnPutInOrder_an) (Ann.seq (Ann.fst (Ann.snd laws_FnPutInOrder_an)) (Ann.seq (Ann.fst (Ann.snd (Ann.snd laws_FnPutInOrder_an))) (Ann.seq (Ann.fst (Ann.snd (Ann.snd (Ann.snd laws_FnPutInOrder_an)))) (Ann.seq (Ann.fst (Ann.snd (Ann.snd (Ann.snd (Ann.snd laws_FnPutInOrder_an))))) (Ann.seq (Ann.fst (Ann.snd (Ann.snd (Ann.snd (Ann.snd (Ann.snd laws_FnPutInOrder_an)))))) (Ann.seq (Ann.fst (Ann.snd (Ann.snd (Ann.snd (Ann.snd (Ann.snd (Ann.snd laws_FnPutInOrder_an))))))) (Ann.seq (Ann.fst (Ann.snd (Ann.snd (Ann.snd (Ann.snd (Ann.snd (Ann.snd (Ann.snd laws_FnPutInOrder_an)))))))) (Ann.seq (Ann.fst (Ann.snd (Ann.snd (Ann.snd (Ann.snd (Ann.snd (Ann.snd (Ann.snd (Ann.snd laws_FnPutInOrder_an))))))))) (Ann.seq (Ann.fst (Ann.snd (Ann.snd (Ann.snd (Ann.snd (Ann.snd (Ann.snd (Ann.snd (Ann.snd (Ann.snd laws_FnPutInOrder_an)))))))))) (Ann.fst (Ann.snd (Ann.snd (Ann.snd (Ann.snd (Ann.snd (Ann.snd (Ann.snd (Ann.snd (Ann.snd (Ann.snd laws_FnPutInOrder_an))))))))))))))))))))) (⟨mkE 115 0 [(0, .dat (.list (.int .u8)) x2296)], []⟩ : St) (laws_FnPutInOrder_n1 x2296) (Sum.elim (fun (t : (List Int) × (List Int) × (List Int) × (List Int) × (List Int) × (List Int)) => (Exit.normal, (⟨mkE 115 0 [(3, .slc 0), (4, .slc 1), (5, .slc 2), (9, .slc 3), (10, .slc 4), (11, .slc 5)], [some (.seq (.int .i64) t.1), some (.seq (.int .i64) t.2.1), some (.seq (.int .i64) t.2.2.1), some (.seq (.int .i64) t.2.2.2.1), some (.seq (.int .i64) t.2.2.2.2.1), some (.seq (.int .i64) t.2.2.2.2.2)]⟩ : St))) (fun (t : Bool) => (Exit.ret, (⟨mkE 115 0 [(2, .dat .bool t)], []⟩ : St)))) := by
  refine Link.of fun K h => ?_
  simp only [laws_FnPutInOrder_n1, wpO_bind, wpO_cond, wpO_map, wpO_some] at h
  exact Awp.of (by kernel_rfl) h

theorem laws_FnPutInOrder_n2_l (x2674 : List Int) (x2675 : List Int) (x2678 : List Int) (x2689 : List Int) (x2690 : List Int) (x2699 : List Int) : Link laws_FnPutInOrder_ctx LL (Code.fst (Code.fst (Code.snd (Code.snd (Code.snd (Code.snd (Code.snd (Code.snd (Code.snd (Code.snd (Code.snd (Code.snd (Code.snd (bodyOf Try.f8)))))))))))))) (Ann.fst (Ann.fst (Ann.snd (Ann.snd (Ann.snd (Ann.snd (Ann.snd (Ann.snd (Ann.snd (Ann.snd (Ann.snd (Ann.snd (Ann.snd laws_FnPutInOrder_an))))))))))))) (⟨mkE 115 0 [(3, .slc 0), (4, .slc 1), (5, .slc 2), (9, .slc 3), (10, .slc 4), (11, .slc 5)], [some (.seq (.int .i64) x2674), some (.seq (.int .i64) x2675), some (.seq (.int .i64) x2678), some (.seq (.int .i64) x2689), some (.seq (.int .i64) x2690), some (.seq (.int .i64) x2699)]⟩ : St) (laws_FnPutInOrder_n2) (fun (t : Unit) => (Exit.normal, (⟨mkE 115 0 [(3, .slc 0), (4, .slc 1), (5, .slc 2), (9, .slc 3), (10, .slc 4), (11, .slc 5), (12, .dat (.int .i64) 0)], [some (.seq (.int .i64) x2674), some (.seq (.int .i64) x2675), some (.seq (.int .i64) x2678), some (.seq (.int .i64) x2689), some (.seq (.int .i64) x2690), some (.seq (.int .i64) x2699)]⟩ : St))) := by
  refine Link.of fun K h => ?_
  simp only [laws_FnPutInOrder_n2, wpO_bind, wpO_cond, wpO_map, wpO_some] at h
  exact Awp.of (by kernel_rfl) h

theorem laws_FnPutInOrder_n3_l (x2735 : Int) (x2674 : List Int) (x2675 : List Int) (x2678 : List Int) (x2689 : List Int) (x2690 : List Int) (x2736 : List Int) : Link laws_FnPutInOrder_ctx LL (Code.fst (Code.fst (Code.snd (Code.fst (Code.snd (Code.snd (Code.snd (Code.snd (Code.snd (Code.snd (Code.snd (Code.snd (Code.snd (Code.snd (Code.snd (bodyOf Try.f8)))))))))))))))) (Ann.fst (Ann.fst (Ann.snd (Ann.fst (Ann.snd (Ann.snd (Ann.snd (Ann.snd (Ann.snd (Ann.snd (Ann.snd (Ann.snd (Ann.snd (Ann.snd (Ann.snd laws_FnPutInOrder_an))))))))))))))) (⟨mkE 115 0 [(3, .slc 0), (4, .slc 1), (5, .slc 2), (9, .slc 3), (10, .slc 4), (11, .slc 5), (12, .dat (.int .i64) x2735)], [some (.seq (.int .i64) x2674), some (.seq (.int .i64) x2675), some (.seq (.int .i64) x2678), some (.seq (.int .i64) x2689), some (.seq (.int .i64) x2690), some (.seq (.int .i64) x2736)]⟩ : St) (laws_FnPutInOrder_n3 x2735 x2675 x2689 x2690 x2736) (Sum.elim (fun (t : Int × (List Int)) => (Exit.normal, (⟨mkE 115 0 [(3, .slc 0), (4, .slc 1), (5, .slc 2), (9, .slc 3), (10, .slc 4), (11, .slc 5), (12, .dat (.int .i64) t.1)], [some (.seq (.int .i64) x2674), some (.seq (.int .i64) x2675), some (.seq (.int .i64) x2678), some (.seq (.int .i64) x2689), some (.seq (.int .i64) x2690), some (.seq (.int .i64) t.2)]⟩ : St))) (Sum.elim (fun (t : Bool) => (Exit.ret, (⟨mkE 115 0 [(2, .dat .bool t)], []⟩ : St))) (fun (t : (List Int)) => ((Exit.exit 0), (⟨mkE 115 0 [(3, .slc 0), (5, .slc 1), (11, .slc 2)], [some (.seq (.int .i64) x2674), some (.seq (.int .i64) x2678), some (.seq (.int .i64) t)]⟩ : St))))) := by
  refine Link.of fun K h => ?_
  simp only [laws_FnPutInOrder_n3, wpO_bind, wpO_cond, wpO_map, wpO_some] at h
  exact Awp.of (by kernel_rfl) h

theorem laws_FnPutInOrder_n4_l (x2674 : List Int) (x2675 : List Int) (x2678 : List Int) (x2689 : List Int) (x2690 : List Int) (x2699 : List Int) : Link laws_FnPutInOrder_ctx LL (Code.fst (Code.snd (Code.fst (Code.snd (Code.snd (Code.snd (Code.snd (Code.snd (Code.snd (Code.snd (Code.snd (Code.snd (Code.snd (Code.snd (bodyOf Try.f8))))))))))))))) (Ann.fst (Ann.snd (Ann.fst (Ann.snd (Ann.snd (Ann.snd (Ann.snd (Ann.snd (Ann.snd (Ann.snd (Ann.snd (Ann.snd (Ann.snd (Ann.snd laws_FnPutInOrder_an)))))))))))))) (⟨mkE 115 0 [(3, .slc 0), (4, .slc 1), (5, .slc 2), (9, .slc 3), (10, .slc 4), (11, .slc 5), (12, .dat (.int .i64) 0)], [some (.seq (.int .i64) x2674), some (.seq (.int .i64) x2675), some (.seq (.int .i64) x2678), some (.seq (.int .i64) x2689), some (.seq (.int .i64) x2690), some (.seq (.int .i64) x2699)]⟩ : St) (laws_FnPutInOrder_n4 x2675 x2689 x2690 x2699) (Sum.elim (fun (t : Bool) => (Exit.ret, (⟨mkE 115 0 [(2, .dat .bool t)], []⟩ : St))) (fun (t : (List Int)) => ((Exit.exit 0), (⟨mkE 115 0 [(3, .slc 0), (5, .slc 1), (11, .slc 2)], [some (.seq (.int .i64) x2674), some (.seq (.int .i64) x2678), some (.seq (.int .i64) t)]⟩ : St)))) := by
  unfold laws_FnPutInOrder_n4
  exact Link.cast (by kernel_rfl) (by kernel_rfl) (link_loop (mk := fun (s : Int × (List Int)) => (⟨mkE 115 0 [(3, .slc 0), (4, .slc 1), (5, .slc 2), (9, .slc 3), (10, .slc 4), (11, .slc 5), (12, .dat (.int .i64) s.1)], [some (.seq (.int .i64) x2674), some (.seq (.int .i64) x2675), some (.seq (.int .i64) x2678), some (.seq (.int .i64) x2689), some (.seq (.int .i64) x2690), some (.seq (.int .i64) s.2)]⟩ : St)) (fin := (Sum.elim (fun (t : Bool) => (Exit.ret, (⟨mkE 115 0 [(2, .dat .bool t)], []⟩ : St))) (fun (t : (List Int)) => ((Exit.exit 0), (⟨mkE 115 0 [(3, .slc 0), (5, .slc 1), (11, .slc 2)], [some (.seq (.int .i64) x2674), some (.seq (.int .i64) x2678), some (.seq (.int .i64) t)]⟩ : St))))) (by
  rintro (t | t) f K h
  · exact h
  · exact h) (fun s => link_map (laws_FnPutInOrder_n3_l s.1 x2674 x2675 x2678 x2689 x2690 s.2) (Sum.elim (fun (t : Int × (List Int)) => Sum.inl (t.1, t.2)) (Sum.elim (fun (t : Bool) => Sum.inr (Sum.inl t)) (fun (t : (List Int)) => Sum.inr (Sum.inr t)))) (by
  rintro (t | t | t)
  · kernel_rfl
  · kernel_rfl
  · kernel_rfl)) (0, x2699))

theorem laws_FnPutInOrder_n5_l (x2674 : List Int) (x2675 : List Int) (x2678 : List Int) (x2689 : List Int) (x2690 : List Int) (x2699 : List Int) : Link laws_FnPutInOrder_ctx LL (Code.snd (Code.fst (Code.snd (Code.snd (Code.snd (Code.snd (Code.snd (Code.snd (Code.snd (Code.snd (Code.snd (Code.snd (Code.snd (bodyOf Try.f8)))))))))))))) (Ann.snd (Ann.fst (Ann.snd (Ann.snd (Ann.snd (Ann.snd (Ann.snd (Ann.snd (Ann.snd (Ann.snd (Ann.snd (Ann.snd (Ann.snd laws_FnPutInOrder_an))))))))))))) (⟨mkE 115 0 [(3, .slc 0), (4, .slc 1), (5, .slc 2), (9, .slc 3), (10, .slc 4), (11, .slc 5), (12, .dat (.int .i64) 0)], [some (.seq (.int .i64) x2674), some (.seq (.int .i64) x2675), some (.seq (.int .i64) x2678), some (.seq (.int .i64) x2689), some (.seq (.int .i64) x2690), some (.seq (.int .i64) x2699)]⟩ : St) (laws_FnPutInOrder_n5 x2675 x2689 x2690 x2699) (Sum.elim (fun (t : (List Int)) => (Exit.normal, (⟨mkE 115 0 [(3, .slc 0), (5, .slc 1), (11, .slc 2)], [some (.seq (.int .i64) x2674), some (.seq (.int .i64) x2678), some (.seq (.int .i64) t)]⟩ : St))) (fun (t : Bool) => (Exit.ret, (⟨mkE 115 0 [(2, .dat .bool t)], []⟩ : St)))) := by
  unfold laws_FnPutInOrder_n5
  exact Link.cast (by kernel_rfl) (by kernel_rfl) (link_block (id := 0) (laws_FnPutInOrder_n4_l x2674 x2675 x2678 x2689 x2690 x2699) (Sum.elim (fun (t : Bool) => (Sum.inr t)) (fun (t : (List Int)) => (Sum.inl t))) (by
  rintro (t | t) K h
  · exact Eq.mp (by kernel_rfl) h
  · exact Eq.mp (by kernel_rfl) h))

theorem laws_FnPutInOrder_n6_l (x2674 : List Int) (x2675 : List Int) (x2678 : List Int) (x2689 : List Int) (x2690 : List Int) (x2699 : List Int) : Link laws_FnPutInOrder_ctx LL (Code.fst (Code.snd (Code.snd (Code.snd (Code.snd (Code.snd (Code.snd (Code.snd (Code.snd (Code.snd (Code.snd (Code.snd (bodyOf Try.f8))))))))))))) (Ann.fst (Ann.snd (Ann.snd (Ann.snd (Ann.snd (Ann.snd (Ann.snd (Ann.snd (Ann.snd (Ann.snd (Ann.snd (Ann.snd laws_FnPutInOrder_an)))))))))))) (⟨mkE 115 0 [(3, .slc 0), (4, .slc 1), (5, .slc 2), (9, .slc 3), (10, .slc 4), (11, .slc 5)], [some (.seq (.int .i64) x2674), some (.seq (.int .i64) x2675), some (.seq (.int .i64) x2678), some (.seq (.int .i64) x2689), some (.seq (.int .i64) x2690), some (.seq (.int .i64) x2699)]⟩ : St) (laws_FnPutInOrder_n6 x2675 x2689 x2690 x2699) (Sum.elim (fun (t : (List Int)) => (Exit.normal, (⟨mkE 115 0 [(3, .slc 0), (5, .slc 1), (11, .slc 2)], [some (.seq (.int .i64) x2674), some (.seq (.int .i64) x2678), some (.seq (.int .i64) t)]⟩ : St))) (fun (t : Bool) => (Exit.ret, (⟨mkE 115 0 [(2, .dat .bool t)], []⟩ : St)))) := by
  unfold laws_FnPutInOrder_n6
  exact Link.cast (by kernel_rfl) (by kernel_rfl) (link_seq (b := (Code.snd (Code.fst (Code.snd (Code.snd (Code.snd (Code.snd (Code.snd (Code.snd (Code.snd (Code.snd (Code.snd (Code.snd (Code.snd (bodyOf Try.f8))))))))))))))) (y := (Ann.snd (Ann.fst (Ann.snd (Ann.snd (Ann.snd (Ann.snd (Ann.snd (Ann.snd (Ann.snd (Ann.snd (Ann.snd (Ann.snd (Ann.snd laws_FnPutInOrder_an)))))))))))))) (laws_FnPutInOrder_n2_l x2674 x2675 x2678 x2689 x2690 x2699) (fun (t : Unit) => (laws_FnPutInOrder_n5_l x2674 x2675 x2678 x2689 x2690 x2699)))

theorem laws_FnPutInOrder_n7_l (x2674 : List Int) (x2678 : List Int) (x2736 : List Int) : Link laws_FnPutInOrder_ctx LL (Code.snd (Code.snd (Code.snd (Code.snd (Code.snd (Code.snd (Code.snd (Code.snd (Code.snd (Code.snd (Code.snd (Code.snd (bodyOf Try.f8))))))))))))) (Ann.snd (Ann.snd (Ann.snd (Ann.snd (Ann.snd (Ann.snd (Ann.snd (Ann.snd (Ann.snd (Ann.snd (Ann.snd (Ann.snd laws_FnPutInOrder_an)))))))))))) (⟨mkE 115 0 [(3, .slc 0), (5, .slc 1), (11, .slc 2)], [some (.seq (.int .i64) x2674), some (.seq (.int .i64) x2678), some (.seq (.int .i64) x2736)]⟩ : St) (laws_FnPutInOrder_n7 x2674 x2678 x2736) (fun (t : Bool) => (Exit.ret, (⟨mkE 115 0 [(2, .dat .bool t)], []⟩ : St))) := by
  refine Link.of fun K h => ?_
  simp only [laws_FnPutInOrder_n7, wpO_bind, wpO_cond, wpO_map, wpO_some] at h
  exact Awp.of (by kernel_rfl) h

theorem laws_FnPutInOrder_n8_l (x2674 : List Int) (x2675 : List Int) (x2678 : List Int) (x2689 : List Int) (x2690 : List Int) (x2699 : List Int) : Link laws_FnPutInOrder_ctx LL (Code.snd (Code.snd (Code.snd (Code.snd (Code.snd (Code.snd (Code.snd (Code.snd (Code.snd (Code.snd (Code.snd (bodyOf Try.f8)))))))))))) (Ann.snd (Ann.snd (Ann.snd (Ann.snd (Ann.snd (Ann.snd (Ann.snd (Ann.snd (Ann.snd (Ann.snd (Ann.snd laws_FnPutInOrder_an))))))))))) (⟨mkE 115 0 [(3, .slc 0), (4, .slc 1), (5, .slc 2), (9, .slc 3), (10, .slc 4), (11, .slc 5)], [some (.seq (.int .i64) x2674), some (.seq (.int .i64) x2675), some (.seq (.int .i64) x2678), some (.seq (.int .i64) x2689), some (.seq (.int .i64) x2690), some (.seq (.int .i64) x2699)]⟩ : St) (laws_FnPutInOrder_n8 x2674 x2675 x2678 x2689 x2690 x2699) (fun (t : Bool) => (Exit.ret, (⟨mkE 115 0 [(2, .dat .bool t)], []⟩ : St))) := by
  unfold laws_FnPutInOrder_n8
  exact Link.cast (by kernel_rfl) (by kernel_rfl) (link_seq2 (b := (Code.snd (Code.snd (Code.snd (Code.snd (Code.snd (Code.snd (Code.snd (Code.snd (Code.snd (Code.snd (Code.snd (Code.snd (bodyOf Try.f8)))))))))))))) (y := (Ann.snd (Ann.snd (Ann.snd (Ann.snd (Ann.snd (Ann.snd (Ann.snd (Ann.snd (Ann.snd (Ann.snd (Ann.snd (Ann.snd laws_FnPutInOrder_an))))))))))))) (laws_FnPutInOrder_n6_l x2674 x2675 x2678 x2689 x2690 x2699) (fun (t : (List Int)) => (laws_FnPutInOrder_n7_l x2674 x2678 t)) (fun (t : Bool) => t) (by
  rintro t
  · kernel_rfl) (by
  rintro t f K h
  · exact h))

theorem laws_FnPutInOrder_n9_l (x2296 : List Int) : Link laws_FnPutInOrder_ctx LL (bodyOf Try.f8) laws_FnPutInOrder_an (⟨mkE 115 0 [(0, .dat (.list (.int .u8)) x2296)], []⟩ : St) (laws_FnPutInOrder_n9 x2296) (fun (t : Bool) => (Exit.ret, (⟨mkE 115 0 [(2, .dat .bool t)], []⟩ : St))) := by
  unfold laws_FnPutInOrder_n9
  exact Link.cast (by kernel_rfl) (by kernel_rfl) (link_group (c := (Code.fst (Code.snd (Code.snd (Code.snd (Code.snd (Code.snd (Code.snd (Code.snd (Code.snd (Code.snd (Code.snd (bodyOf Try.f8))))))))))))) (a := (Ann.fst (Ann.snd (Ann.snd (Ann.snd (Ann.snd (Ann.snd (Ann.snd (Ann.snd (Ann.snd (Ann.snd (Ann.snd laws_FnPutInOrder_an)))))))))))) [(Code.fst (bodyOf Try.f8)), (Code.fst (Code.snd (bodyOf Try.f8))), (Code.fst (Code.snd (Code.snd (bodyOf Try.f8)))), (Code.fst (Code.snd (Code.snd (Code.snd (bodyOf Try.f8))))), (Code.fst (Code.snd (Code.snd (Code.snd (Code.snd (bodyOf Try.f8)))))), (Code.fst (Code.snd (Code.snd (Code.snd (Code.snd (Code.snd (bodyOf Try.f8))))))), (Code.fst (Code.snd (Code.snd (Code.snd (Code.snd (Code.snd (Code.snd (bodyOf Try.f8)))))))), (Code.fst (Code.snd (Code.snd (Code.snd (Code.snd (Code.snd (Code.snd (Code.snd (bodyOf Try.f8))))))))), (Code.fst (Code.snd (Code.snd (Code.snd (Code.snd (Code.snd (Code.snd (Code.snd (Code.snd (bodyOf Try.f8)))))))))), (Code.fst (Code.snd (Code.snd (Code.snd (Code.snd (Code.snd (Code.snd (Code.snd (Code.snd (Code.snd (bodyOf Try.f8)))))))))))] [(Ann.fst laws_FnPutInOrder_an), (Ann.fst (Ann.snd laws_FnPutInOrder_an)), (Ann.fst (Ann.snd (Ann.snd laws_FnPutInOrder_an))), (Ann.fst (Ann.snd (Ann.snd (Ann.snd laws_FnPutInOrder_an)))), (Ann.fst (Ann.snd (Ann.snd (Ann.snd (Ann.snd laws_FnPutInOrder_an))))), (Ann.fst (Ann.snd (Ann.snd (Ann.snd (Ann.snd (Ann.snd laws_FnPutInOrder_an)))))), (Ann.fst (Ann.snd (Ann.snd (Ann.snd (Ann.snd (Ann.snd (Ann.snd laws_FnPutInOrder_an))))))), (Ann.fst (Ann.snd (Ann.snd (Ann.snd (Ann.snd (Ann.snd (Ann.snd (Ann.snd laws_FnPutInOrder_an)))))))), (Ann.fst (Ann.snd (Ann.snd (Ann.snd (Ann.snd (Ann.snd (Ann.snd (Ann.snd (Ann.snd laws_FnPutInOrder_an))))))))), (Ann.fst (Ann.snd (Ann.snd (Ann.snd (Ann.snd (Ann.snd (Ann.snd (Ann.snd (Ann.snd (Ann.snd laws_FnPutInOrder_an))))))))))] rfl (link_seq2 (b := (Code.snd (Code.snd (Code.snd (Code.snd (Code.snd (Code.snd (Code.snd (Code.snd (Code.snd (Code.snd (Code.snd (bodyOf Try.f8))))))))))))) (y := (Ann.snd (Ann.snd (Ann.snd (Ann.snd (Ann.snd (Ann.snd (Ann.snd (Ann.snd (Ann.snd (Ann.snd (Ann.snd laws_FnPutInOrder_an)))))))))))) (laws_FnPutInOrder_n1_l x2296) (fun (t : (List Int) × (List Int) × (List Int) × (List Int) × (List Int) × (List Int)) => (laws_FnPutInOrder_n8_l t.1 t.2.1 t.2.2.1 t.2.2.2.1 t.2.2.2.2.1 t.2.2.2.2.2)) (fun (t : Bool) => t) (by
  rintro t
  · kernel_rfl) (by
  rintro t f K h
  · exact h)))

theorem laws_FnPutInOrder_e (x2296 : List Int) {r : AV} {H' : Heap} (h : (Ans.mk _ (laws_FnPutInOrder x2296) (fun (t : Bool) => (.dat .bool t, []))).run = some (r, H')) : Awp laws_FnPutInOrder_ctx LL (bodyOf Try.f8) laws_FnPutInOrder_an (⟨mkE 115 0 [(0, .dat (.list (.int .u8)) x2296)], []⟩ : St) (Ret (tlook tys) Try.f8.results.toList r H') :=
  ret_of' (laws_FnPutInOrder_n9_l x2296) (by unfold laws_FnPutInOrder; kernel_rfl) (by
  intro t
  exact ret_mk [.dat .bool t] (by kernel_rfl) (by kernel_rfl) (by kernel_rfl) (by kernel_rfl)) h

def F_laws_FnPutInOrder : Fun := fun avs H =>
  match avs, H with
  | [.dat (.list (.int .u8)) x2296], [] => ⟨_, laws_FnPutInOrder x2296, fun (t : Bool) => (.dat .bool t, [])⟩
  | _, _ => Ans.no

theorem laws_FnPutInOrder_sound : Sound Try.prog 8 F_laws_FnPutInOrder := by
  refine fn_sound' (C := laws_FnPutInOrder_ctx) (c := bodyOf Try.f8) (cok_of tys_ok (List.forall_mem_cons.2 ⟨spec_DrawPutInOrder_sound, List.forall_mem_cons.2 ⟨impl_PutInOrder_sound, List.forall_mem_cons.2 ⟨spec_PutInOrder_sound, List.forall_mem_cons.2 ⟨laws_sameInts_sound, List.forall_mem_cons.2 ⟨laws_alive_sound, List.forall_mem_cons.2 ⟨impl_DepthOf_sound, List.forall_mem_cons.2 ⟨impl_TreeOk_sound, by simp⟩⟩⟩⟩⟩⟩⟩) (List.forall_mem_cons.2 ⟨Try.call28, List.forall_mem_cons.2 ⟨Try.call29, List.forall_mem_cons.2 ⟨Try.call30, List.forall_mem_cons.2 ⟨Try.call19, List.forall_mem_cons.2 ⟨Try.call13, List.forall_mem_cons.2 ⟨Try.call17, List.forall_mem_cons.2 ⟨Try.call11, by simp⟩⟩⟩⟩⟩⟩⟩) (by kernel_rfl)) Try.func8 (by kernel_rfl) LL laws_FnPutInOrder_an ?_
  intro avs H r H' h
  unfold F_laws_FnPutInOrder at h
  split at h
  · refine Awp.cast ?_ ?_ ?_ (laws_FnPutInOrder_e _ h) <;> kernel_rfl
  · simp [Ans.no, Ans.run] at h

/-! loop.example/headtrees/laws.toIntS -/

def laws_toIntS_an : Ann := (.seq (.leaf [0]) (.seq (.leaf [0, 3]) (.seq (.seq (.leaf [0, 3, 4]) (.block (.loop (.seq (.seq (.leaf [0, 3, 4, 11]) (.cond (.leaf [0, 3, 4]) (.leaf [3]))) (.seq (.block (.leaf [0, 3, 4])) (.leaf [0, 3, 4])))))) (.seq (.leaf [2]) (.leaf [2])))))

noncomputable def laws_toIntS_ctx : Ctx := ⟨tlook tys, olook [], ioF, 0⟩

theorem laws_toIntS_n1_l (x2792 : List Int) : Link laws_toIntS_ctx LL (Code.seq (Code.fst (bodyOf Try.f31)) (Code.fst (Code.snd (bodyOf Try.f31)))) (Ann.seq (Ann.fst laws_toIntS_an) (Ann.fst (Ann.snd laws_toIntS_an))) (⟨mkE 22 0 [(0, .dat (.list (.int .i64)) x2792)], []⟩ : St) (laws_toIntS_n1 x2792) (fun (t : (List Int)) => (Exit.normal, (⟨mkE 22 0 [(0, .dat (.list (.int .i64)) x2792), (3, .slc 0)], [some (.seq (.int .i64) t)]⟩ : St))) := by
  refine Link.of fun K h => ?_
  simp only [laws_toIntS_n1, wpO_bind, wpO_cond, wpO_map, wpO_some] at h
  exact Awp.of (by kernel_rfl) h

theorem laws_toIntS_n2_l (x2792 : List Int) (x2795 : List Int) : Link laws_toIntS_ctx LL (Code.fst (Code.fst (Code.snd (Code.snd (bodyOf Try.f31))))) (Ann.fst (Ann.fst (Ann.snd (Ann.snd laws_toIntS_an)))) (⟨mkE 22 0 [(0, .dat (.list (.int .i64)) x2792), (3, .slc 0)], [some (.seq (.int .i64) x2795)]⟩ : St) (laws_toIntS_n2) (fun (t : Unit) => (Exit.normal, (⟨mkE 22 0 [(0, .dat (.list (.int .i64)) x2792), (3, .slc 0), (4, .dat (.int .i64) 0)], [some (.seq (.int .i64) x2795)]⟩ : St))) := by
  refine Link.of fun K h => ?_
  simp only [laws_toIntS_n2, wpO_bind, wpO_cond, wpO_map, wpO_some] at h
  exact Awp.of (by kernel_rfl) h

theorem laws_toIntS_n3_l (x2792 : List Int) (x2809 : Int) (x2810 : List Int) : Link laws_toIntS_ctx LL (Code.fst (Code.fst (Code.snd (Code.fst (Code.snd (Code.snd (bodyOf Try.f31))))))) (Ann.fst (Ann.fst (Ann.snd (Ann.fst (Ann.snd (Ann.snd laws_toIntS_an)))))) (⟨mkE 22 0 [(0, .dat (.list (.int .i64)) x2792), (3, .slc 0), (4, .dat (.int .i64) x2809)], [some (.seq (.int .i64) x2810)]⟩ : St) (laws_toIntS_n3 x2792 x2809 x2810) (Sum.elim (fun (t : Int × (List Int)) => (Exit.normal, (⟨mkE 22 0 [(0, .dat (.list (.int .i64)) x2792), (3, .slc 0), (4, .dat (.int .i64) t.1)], [some (.seq (.int .i64) t.2)]⟩ : St))) (fun (t : (List Int)) => ((Exit.exit 0), (⟨mkE 22 0 [(3, .slc 0)], [some (.seq (.int .i64) t)]⟩ : St)))) := by
  refine Link.of fun K h => ?_
  simp only [laws_toIntS_n3, wpO_bind, wpO_cond, wpO_map, wpO_some] at h
  exact Awp.of (by kernel_rfl) h

theorem laws_toIntS_n4_l (x2792 : List Int) (x2795 : List Int) : Link laws_toIntS_ctx LL (Code.fst (Code.snd (Code.fst (Code.snd (Code.snd (bodyOf Try.f31)))))) (Ann.fst (Ann.snd (Ann.fst (Ann.snd (Ann.snd laws_toIntS_an))))) (⟨mkE 22 0 [(0, .dat (.list (.int .i64)) x2792), (3, .slc 0), (4, .dat (.int .i64) 0)], [some (.seq (.int .i64) x2795)]⟩ : St) (laws_toIntS_n4 x2792 x2795) (fun (t : (List Int)) => ((Exit.exit 0), (⟨mkE 22 0 [(3, .slc 0)], [some (.seq (.int .i64) t)]⟩ : St))) := by
  unfold laws_toIntS_n4
  exact Link.cast (by kernel_rfl) (by kernel_rfl) (link_loop (mk := fun (s : Int × (List Int)) => (⟨mkE 22 0 [(0, .dat (.list (.int .i64)) x2792), (3, .slc 0), (4, .dat (.int .i64) s.1)], [some (.seq (.int .i64) s.2)]⟩ : St)) (fin := (fun (t : (List Int)) => ((Exit.exit 0), (⟨mkE 22 0 [(3, .slc 0)], [some (.seq (.int .i64) t)]⟩ : St)))) (by
  rintro t f K h
  · exact h) (fun s => link_map (laws_toIntS_n3_l x2792 s.1 s.2) (Sum.elim (fun (t : Int × (List Int)) => Sum.inl (t.1, t.2)) (fun (t : (List Int)) => Sum.inr t)) (by
  rintro (t | t)
  · kernel_rfl
  · kernel_rfl)) (0, x2795))

theorem laws_toIntS_n5_l (x2792 : List Int) (x2795 : List Int) : Link laws_toIntS_ctx LL (Code.snd (Code.fst (Code.snd (Code.snd (bodyOf Try.f31))))) (Ann.snd (Ann.fst (Ann.snd (Ann.snd laws_toIntS_an)))) (⟨mkE 22 0 [(0, .dat (.list (.int .i64)) x2792), (3, .slc 0), (4, .dat (.int .i64) 0)], [some (.seq (.int .i64) x2795)]⟩ : St) (laws_toIntS_n5 x2792 x2795) (fun (t : (List Int)) => (Exit.normal, (⟨mkE 22 0 [(3, .slc 0)], [some (.seq (.int .i64) t)]⟩ : St))) := by
  unfold laws_toIntS_n5
  exact Link.cast (by kernel_rfl) (by kernel_rfl) (link_block (id := 0) (laws_toIntS_n4_l x2792 x2795) (fun (t : (List Int)) => t) (by
  rintro t K h
  · exact Eq.mp (by kernel_rfl) h))

theorem laws_toIntS_n6_l (x2792 : List Int) (x2795 : List Int) : Link laws_toIntS_ctx LL (Code.fst (Code.snd (Code.snd (bodyOf Try.f31)))) (Ann.fst (Ann.snd (Ann.snd laws_toIntS_an))) (⟨mkE 22 0 [(0, .dat (.list (.int .i64)) x2792), (3, .slc 0)], [some (.seq (.int .i64) x2795)]⟩ : St) (laws_toIntS_n6 x2792 x2795) (fun (t : (List Int)) => (Exit.normal, (⟨mkE 22 0 [(3, .slc 0)], [some (.seq (.int .i64) t)]⟩ : St))) := by
  unfold laws_toIntS_n6
  exact Link.cast (by kernel_rfl) (by kernel_rfl) (link_seq (b := (Code.snd (Code.fst (Code.snd (Code.snd (bodyOf Try.f31)))))) (y := (Ann.snd (Ann.fst (Ann.snd (Ann.snd laws_toIntS_an))))) (laws_toIntS_n2_l x2792 x2795) (fun (t : Unit) => (laws_toIntS_n5_l x2792 x2795)))

theorem laws_toIntS_n7_l (x2810 : List Int) : Link laws_toIntS_ctx LL (Code.snd (Code.snd (Code.snd (bodyOf Try.f31)))) (Ann.snd (Ann.snd (Ann.snd laws_toIntS_an))) (⟨mkE 22 0 [(3, .slc 0)], [some (.seq (.int .i64) x2810)]⟩ : St) (laws_toIntS_n7 x2810) (fun (t : (List Int)) => (Exit.ret, (⟨mkE 22 0 [(2, .slc 0)], [some (.seq (.int .i64) t)]⟩ : St))) := by
  refine Link.of fun K h => ?_
  simp only [laws_toIntS_n7, wpO_bind, wpO_cond, wpO_map, wpO_some] at h
  exact Awp.of (by kernel_rfl) h

theorem laws_toIntS_n8_l (x2792 : List Int) (x2795 : List Int) : Link laws_toIntS_ctx LL (Code.snd (Code.snd (bodyOf Try.f31))) (Ann.snd (Ann.snd laws_toIntS_an)) (⟨mkE 22 0 [(0, .dat (.list (.int .i64)) x2792), (3, .slc 0)], [some (.seq (.int .i64) x2795)]⟩ : St) (laws_toIntS_n8 x2792 x2795) (fun (t : (List Int)) => (Exit.ret, (⟨mkE 22 0 [(2, .slc 0)], [some (.seq (.int .i64) t)]⟩ : St))) := by
  unfold laws_toIntS_n8
  exact Link.cast (by kernel_rfl) (by kernel_rfl) (link_seq (b := (Code.snd (Code.snd (Code.snd (bodyOf Try.f31))))) (y := (Ann.snd (Ann.snd (Ann.snd laws_toIntS_an)))) (laws_toIntS_n6_l x2792 x2795) (fun (t : (List Int)) => (laws_toIntS_n7_l t)))

theorem laws_toIntS_n9_l (x2792 : List Int) : Link laws_toIntS_ctx LL (bodyOf Try.f31) laws_toIntS_an (⟨mkE 22 0 [(0, .dat (.list (.int .i64)) x2792)], []⟩ : St) (laws_toIntS_n9 x2792) (fun (t : (List Int)) => (Exit.ret, (⟨mkE 22 0 [(2, .slc 0)], [some (.seq (.int .i64) t)]⟩ : St))) := by
  unfold laws_toIntS_n9
  exact Link.cast (by kernel_rfl) (by kernel_rfl) (link_group (c := (Code.fst (Code.snd (bodyOf Try.f31)))) (a := (Ann.fst (Ann.snd laws_toIntS_an))) [(Code.fst (bodyOf Try.f31))] [(Ann.fst laws_toIntS_an)] rfl (link_seq (b := (Code.snd (Code.snd (bodyOf Try.f31)))) (y := (Ann.snd (Ann.snd laws_toIntS_an))) (laws_toIntS_n1_l x2792) (fun (t : (List Int)) => (laws_toIntS_n8_l x2792 t))))

theorem laws_toIntS_e (x2792 : List Int) {r : AV} {H' : Heap} (h : (Ans.mk _ (laws_toIntS x2792) (fun (t : (List Int)) => (.slc 0, [some (.seq (.int .i64) t)]))).run = some (r, H')) : Awp laws_toIntS_ctx LL (bodyOf Try.f31) laws_toIntS_an (⟨mkE 22 0 [(0, .dat (.list (.int .i64)) x2792)], []⟩ : St) (Ret (tlook tys) Try.f31.results.toList r H') :=
  ret_of' (laws_toIntS_n9_l x2792) (by unfold laws_toIntS; kernel_rfl) (by
  intro t
  exact ret_mk [.slc 0] (by kernel_rfl) (by kernel_rfl) (by kernel_rfl) (by kernel_rfl)) h

def F_laws_toIntS : Fun := fun avs H =>
  match avs, H with
  | [.dat (.list (.int .i64)) x2792], [] => ⟨_, laws_toIntS x2792, fun (t : (List Int)) => (.slc 0, [some (.seq (.int .i64) t)])⟩
  | _, _ => Ans.no

theorem laws_toIntS_sound : Sound Try.prog 31 F_laws_toIntS := by
  refine fn_sound' (C := laws_toIntS_ctx) (c := bodyOf Try.f31) (cok_of tys_ok (by simp) (by simp) (by kernel_rfl)) Try.func31 (by kernel_rfl) LL laws_toIntS_an ?_
  intro avs H r H' h
  unfold F_laws_toIntS at h
  split at h
  · refine Awp.cast ?_ ?_ ?_ (laws_toIntS_e _ h) <;> kernel_rfl
  · simp [Ans.no, Ans.run] at h

/-! loop.example/headtrees/laws.eqIntS -/

def laws_eqIntS_an : Ann := (.seq (.leaf [0, 1]) (.seq (.seq (.leaf [0, 1, 10]) (.cond (.seq (.leaf [4]) (.leaf [4])) (.leaf [0, 1]))) (.seq (.seq (.leaf [0, 1, 5]) (.block (.loop (.seq (.seq (.leaf [0, 1, 5, 14]) (.cond (.leaf [0, 1, 5]) (.leaf []))) (.seq (.block (.seq (.draw [] [0, 1, 2, 3, 4, 5, 6, 7, 8] [] [0, 1, 5, 25]) (.cond (.seq (.leaf [4]) (.leaf [4])) (.leaf [0, 1, 5])))) (.leaf [0, 1, 5])))))) (.seq (.leaf [4]) (.leaf [4])))))

noncomputable def laws_eqIntS_ctx : Ctx := ⟨tlook tys, olook [], ioF, 0⟩

theorem laws_eqIntS_n1_l (x2852 : List Int) (x2853 : List Int) : Link laws_eqIntS_ctx LL (Code.seq (Code.fst (bodyOf Try.f32)) (Code.fst (Code.snd (bodyOf Try.f32)))) (Ann.seq (Ann.fst laws_eqIntS_an) (Ann.fst (Ann.snd laws_eqIntS_an))) (⟨mkE 26 0 [(0, .dat (.list (.int .i64)) x2852), (1, .dat (.list (.int .i64)) x2853)], []⟩ : St) (laws_eqIntS_n1 x2852 x2853) (Sum.elim (fun (t : Unit) => (Exit.normal, (⟨mkE 26 0 [(0, .dat (.list (.int .i64)) x2852), (1, .dat (.list (.int .i64)) x2853)], []⟩ : St))) (fun (t : Bool) => (Exit.ret, (⟨mkE 26 0 [(4, .dat .bool t)], []⟩ : St)))) := by
  refine Link.of fun K h => ?_
  simp only [laws_eqIntS_n1, wpO_bind, wpO_cond, wpO_map, wpO_some] at h
  exact Awp.of (by kernel_rfl) h

theorem laws_eqIntS_n2_l (x2852 : List Int) (x2853 : List Int) : Link laws_eqIntS_ctx LL (Code.fst (Code.fst (Code.snd (Code.snd (bodyOf Try.f32))))) (Ann.fst (Ann.fst (Ann.snd (Ann.snd laws_eqIntS_an)))) (⟨mkE 26 0 [(0, .dat (.list (.int .i64)) x2852), (1, .dat (.list (.int .i64)) x2853)], []⟩ : St) (laws_eqIntS_n2) (fun (t : Unit) => (Exit.normal, (⟨mkE 26 0 [(0, .dat (.list (.int .i64)) x2852), (1, .dat (.list (.int .i64)) x2853), (5, .dat (.int .i64) 0)], []⟩ : St))) := by
  refine Link.of fun K h => ?_
  simp only [laws_eqIntS_n2, wpO_bind, wpO_cond, wpO_map, wpO_some] at h
  exact Awp.of (by kernel_rfl) h

theorem laws_eqIntS_n3_l (x2852 : List Int) (x2853 : List Int) (x2870 : Int) : Link laws_eqIntS_ctx LL (Code.fst (Code.fst (Code.snd (Code.fst (Code.snd (Code.snd (bodyOf Try.f32))))))) (Ann.fst (Ann.fst (Ann.snd (Ann.fst (Ann.snd (Ann.snd laws_eqIntS_an)))))) (⟨mkE 26 0 [(0, .dat (.list (.int .i64)) x2852), (1, .dat (.list (.int .i64)) x2853), (5, .dat (.int .i64) x2870)], []⟩ : St) (laws_eqIntS_n3 x2852 x2853 x2870) (Sum.elim (fun (t : Int) => (Exit.normal, (⟨mkE 26 0 [(0, .dat (.list (.int .i64)) x2852), (1, .dat (.list (.int .i64)) x2853), (5, .dat (.int .i64) t)], []⟩ : St))) (Sum.elim (fun (t : Bool) => (Exit.ret, (⟨mkE 26 0 [(4, .dat .bool t)], []⟩ : St))) (fun (t : Unit) => ((Exit.exit 0), (⟨mkE 26 0 [], []⟩ : St))))) := by
  refine Link.of fun K h => ?_
  simp only [laws_eqIntS_n3, wpO_bind, wpO_cond, wpO_map, wpO_some] at h
  exact Awp.of (by kernel_rfl) h

theorem laws_eqIntS_n4_l (x2852 : List Int) (x2853 : List Int) : Link laws_eqIntS_ctx LL (Code.fst (Code.snd (Code.fst (Code.snd (Code.snd (bodyOf Try.f32)))))) (Ann.fst (Ann.snd (Ann.fst (Ann.snd (Ann.snd laws_eqIntS_an))))) (⟨mkE 26 0 [(0, .dat (.list (.int .i64)) x2852), (1, .dat (.list (.int .i64)) x2853), (5, .dat (.int .i64) 0)], []⟩ : St) (laws_eqIntS_n4 x2852 x2853) (Sum.elim (fun (t : Bool) => (Exit.ret, (⟨mkE 26 0 [(4, .dat .bool t)], []⟩ : St))) (fun (t : Unit) => ((Exit.exit 0), (⟨mkE 26 0 [], []⟩ : St)))) := by
  unfold laws_eqIntS_n4
  exact Link.cast (by kernel_rfl) (by kernel_rfl) (link_loop (mk := fun (s : Int) => (⟨mkE 26 0 [(0, .dat (.list (.int .i64)) x2852), (1, .dat (.list (.int .i64)) x2853), (5, .dat (.int .i64) s)], []⟩ : St)) (fin := (Sum.elim (fun (t : Bool) => (Exit.ret, (⟨mkE 26 0 [(4, .dat .bool t)], []⟩ : St))) (fun (t : Unit) => ((Exit.exit 0), (⟨mkE 26 0 [], []⟩ : St))))) (by
  rintro (t | t) f K h
  · exact h
  · exact h) (fun s => link_map (laws_eqIntS_n3_l x2852 x2853 s) (Sum.elim (fun (t : Int) => Sum.inl t) (Sum.elim (fun (t : Bool) => Sum.inr (Sum.inl t)) (fun (t : Unit) => Sum.inr (Sum.inr t)))) (by
  rintro (t | t | t)
  · kernel_rfl
  · kernel_rfl
  · kernel_rfl)) 0)

theorem laws_eqIntS_n5_l (x2852 : List Int) (x2853 : List Int) : Link laws_eqIntS_ctx LL (Code.snd (Code.fst (Code.snd (Code.snd (bodyOf Try.f32))))) (Ann.snd (Ann.fst (Ann.snd (Ann.snd laws_eqIntS_an)))) (⟨mkE 26 0 [(0, .dat (.list (.int .i64)) x2852), (1, .dat (.list (.int .i64)) x2853), (5, .dat (.int .i64) 0)], []⟩ : St) (laws_eqIntS_n5 x2852 x2853) (Sum.elim (fun (t : Unit) => (Exit.normal, (⟨mkE 26 0 [], []⟩ : St))) (fun (t : Bool) => (Exit.ret, (⟨mkE 26 0 [(4, .dat .bool t)], []⟩ : St)))) := by
  unfold laws_eqIntS_n5
  exact Link.cast (by kernel_rfl) (by kernel_rfl) (link_block (id := 0) (laws_eqIntS_n4_l x2852 x2853) (Sum.elim (fun (t : Bool) => (Sum.inr t)) (fun (t : Unit) => (Sum.inl ()))) (by
  rintro (t | t) K h
  · exact Eq.mp (by kernel_rfl) h
  · exact Eq.mp (by kernel_rfl) h))

theorem laws_eqIntS_n6_l (x2852 : List Int) (x2853 : List Int) : Link laws_eqIntS_ctx LL (Code.fst (Code.snd (Code.snd (bodyOf Try.f32)))) (Ann.fst (Ann.snd (Ann.snd laws_eqIntS_an))) (⟨mkE 26 0 [(0, .dat (.list (.int .i64)) x2852), (1, .dat (.list (.int .i64)) x2853)], []⟩ : St) (laws_eqIntS_n6 x2852 x2853) (Sum.elim (fun (t : Unit) => (Exit.normal, (⟨mkE 26 0 [], []⟩ : St))) (fun (t : Bool) => (Exit.ret, (⟨mkE 26 0 [(4, .dat .bool t)], []⟩ : St)))) := by
  unfold laws_eqIntS_n6
  exact Link.cast (by kernel_rfl) (by kernel_rfl) (link_seq (b := (Code.snd (Code.fst (Code.snd (Code.snd (bodyOf Try.f32)))))) (y := (Ann.snd (Ann.fst (Ann.snd (Ann.snd laws_eqIntS_an))))) (laws_eqIntS_n2_l x2852 x2853) (fun (t : Unit) => (laws_eqIntS_n5_l x2852 x2853)))

theorem laws_eqIntS_n7_l : Link laws_eqIntS_ctx LL (Code.snd (Code.snd (Code.snd (bodyOf Try.f32)))) (Ann.snd (Ann.snd (Ann.snd laws_eqIntS_an))) (⟨mkE 26 0 [], []⟩ : St) (laws_eqIntS_n7) (fun (t : Bool) => (Exit.ret, (⟨mkE 26 0 [(4, .dat .bool t)], []⟩ : St))) := by
  refine Link.of fun K h => ?_
  simp only [laws_eqIntS_n7, wpO_bind, wpO_cond, wpO_map, wpO_some] at h
  exact Awp.of (by kernel_rfl) h

theorem laws_eqIntS_n8_l (x2852 : List Int) (x2853 : List Int) : Link laws_eqIntS_ctx LL (Code.snd (Code.snd (bodyOf Try.f32))) (Ann.snd (Ann.snd laws_eqIntS_an)) (⟨mkE 26 0 [(0, .dat (.list (.int .i64)) x2852), (1, .dat (.list (.int .i64)) x2853)], []⟩ : St) (laws_eqIntS_n8 x2852 x2853) (fun (t : Bool) => (Exit.ret, (⟨mkE 26 0 [(4, .dat .bool t)], []⟩ : St))) := by
  unfold laws_eqIntS_n8
  exact Link.cast (by kernel_rfl) (by kernel_rfl) (link_seq2 (b := (Code.snd (Code.snd (Code.snd (bodyOf Try.f32))))) (y := (Ann.snd (Ann.snd (Ann.snd laws_eqIntS_an)))) (laws_eqIntS_n6_l x2852 x2853) (fun (t : Unit) => (laws_eqIntS_n7_l)) (fun (t : Bool) => t) (by
  rintro t
  · kernel_rfl) (by
  rintro t f K h
  · exact h))

theorem laws_eqIntS_n9_l (x2852 : List Int) (x2853 : List Int) : Link laws_eqIntS_ctx LL (bodyOf Try.f32) laws_eqIntS_an (⟨mkE 26 0 [(0, .dat (.list (.int .i64)) x2852), (1, .dat (.list (.int .i64)) x2853)], []⟩ : St) (laws_eqIntS_n9 x2852 x2853) (fun (t : Bool) => (Exit.ret, (⟨mkE 26 0 [(4, .dat .bool t)], []⟩ : St))) := by
  unfold laws_eqIntS_n9
  exact Link.cast (by kernel_rfl) (by kernel_rfl) (link_group (c := (Code.fst (Code.snd (bodyOf Try.f32)))) (a := (Ann.fst (Ann.snd laws_eqIntS_an))) [(Code.fst (bodyOf Try.f32))] [(Ann.fst laws_eqIntS_an)] rfl (link_seq2 (b := (Code.snd (Code.snd (bodyOf Try.f32)))) (y := (Ann.snd (Ann.snd laws_eqIntS_an))) (laws_eqIntS_n1_l x2852 x2853) (fun (t : Unit) => (laws_eqIntS_n8_l x2852 x2853)) (fun (t : Bool) => t) (by
  rintro t
  · kernel_rfl) (by
  rintro t f K h
  · exact h)))

theorem laws_eqIntS_e (x2852 : List Int) (x2853 : List Int) {r : AV} {H' : Heap} (h : (Ans.mk _ (laws_eqIntS x2852 x2853) (fun (t : Bool) => (.dat .bool t, []))).run = some (r, H')) : Awp laws_eqIntS_ctx LL (bodyOf Try.f32) laws_eqIntS_an (⟨mkE 26 0 [(0, .dat (.list (.int .i64)) x2852), (1, .dat (.list (.int .i64)) x2853)], []⟩ : St) (Ret (tlook tys) Try.f32.results.toList r H') :=
  ret_of' (laws_eqIntS_n9_l x2852 x2853) (by unfold laws_eqIntS; kernel_rfl) (by
  intro t
  exact ret_mk [.dat .bool t] (by kernel_rfl) (by kernel_rfl) (by kernel_rfl) (by kernel_rfl)) h

def F_laws_eqIntS : Fun := fun avs H =>
  match avs, H with
  | [.dat (.list (.int .i64)) x2852, .dat (.list (.int .i64)) x2853], [] => ⟨_, laws_eqIntS x2852 x2853, fun (t : Bool) => (.dat .bool t, [])⟩
  | _, _ => Ans.no

theorem laws_eqIntS_sound : Sound Try.prog 32 F_laws_eqIntS := by
  refine fn_sound' (C := laws_eqIntS_ctx) (c := bodyOf Try.f32) (cok_of tys_ok (by simp) (by simp) (by kernel_rfl)) Try.func32 (by kernel_rfl) LL laws_eqIntS_an ?_
  intro avs H r H' h
  unfold F_laws_eqIntS at h
  split at h
  · refine Awp.cast ?_ ?_ ?_ (laws_eqIntS_e _ _ h) <;> kernel_rfl
  · simp [Ans.no, Ans.run] at h

/-! loop.example/headtrees/laws.FnExactTreeOk -/

def laws_FnExactTreeOk_an : Ann := (.seq (.leaf [0]) (.seq (.seq (.leaf [0, 8]) (.cond (.seq (.leaf [2]) (.leaf [2])) (.leaf [0]))) (.seq (.leaf [0, 3]) (.seq (.leaf [0, 3, 4]) (.seq (.leaf [0, 3, 4, 5]) (.seq (.seq (.leaf [0, 4, 18]) (.cond (.seq (.leaf [2]) (.leaf [2])) (.leaf [0, 4]))) (.seq (.seq (.leaf [23]) (.cond (.seq (.leaf [2]) (.leaf [2])) (.leaf []))) (.seq (.leaf [2]) (.leaf [2])))))))))

noncomputable def laws_FnExactTreeOk_ctx : Ctx := ⟨tlook tys, olook [(31, F_laws_toIntS), (12, F_spec_TreeOk), (11, F_impl_TreeOk), (32, F_laws_eqIntS)], ioF, 0⟩

theorem laws_FnExactTreeOk_n1_l (x2787 : List Int) : Link laws_FnExactTreeOk_ctx LL (bodyOf Try.f9) laws_FnExactTreeOk_an (⟨mkE 24 0 [(0, .dat (.list (.int .i64)) x2787)], []⟩ : St) (laws_FnExactTreeOk_n1 x2787) (fun (t : Bool) => (Exit.ret, (⟨mkE 24 0 [(2, .dat .bool t)], []⟩ : St))) := by
  refine Link.of fun K h => ?_
  simp only [laws_FnExactTreeOk_n1, wpO_bind, wpO_cond, wpO_map, wpO_some] at h
  exact Awp.of (by kernel_rfl) h

theorem laws_FnExactTreeOk_e (x2787 : List Int) {r : AV} {H' : Heap} (h : (Ans.mk _ (laws_FnExactTreeOk x2787) (fun (t : Bool) => (.dat .bool t, []))).run = some (r, H')) : Awp laws_FnExactTreeOk_ctx LL (bodyOf Try.f9) laws_FnExactTreeOk_an (⟨mkE 24 0 [(0, .dat (.list (.int .i64)) x2787)], []⟩ : St) (Ret (tlook tys) Try.f9.results.toList r H') :=
  ret_of' (laws_FnExactTreeOk_n1_l x2787) (by unfold laws_FnExactTreeOk; kernel_rfl) (by
  intro t
  exact ret_mk [.dat .bool t] (by kernel_rfl) (by kernel_rfl) (by kernel_rfl) (by kernel_rfl)) h

def F_laws_FnExactTreeOk : Fun := fun avs H =>
  match avs, H with
  | [.dat (.list (.int .i64)) x2787], [] => ⟨_, laws_FnExactTreeOk x2787, fun (t : Bool) => (.dat .bool t, [])⟩
  | _, _ => Ans.no

theorem laws_FnExactTreeOk_sound : Sound Try.prog 9 F_laws_FnExactTreeOk := by
  refine fn_sound' (C := laws_FnExactTreeOk_ctx) (c := bodyOf Try.f9) (cok_of tys_ok (List.forall_mem_cons.2 ⟨laws_toIntS_sound, List.forall_mem_cons.2 ⟨spec_TreeOk_sound, List.forall_mem_cons.2 ⟨impl_TreeOk_sound, List.forall_mem_cons.2 ⟨laws_eqIntS_sound, by simp⟩⟩⟩⟩) (List.forall_mem_cons.2 ⟨Try.call31, List.forall_mem_cons.2 ⟨Try.call12, List.forall_mem_cons.2 ⟨Try.call11, List.forall_mem_cons.2 ⟨Try.call32, by simp⟩⟩⟩⟩) (by kernel_rfl)) Try.func9 (by kernel_rfl) LL laws_FnExactTreeOk_an ?_
  intro avs H r H' h
  unfold F_laws_FnExactTreeOk at h
  split at h
  · refine Awp.cast ?_ ?_ ?_ (laws_FnExactTreeOk_e _ h) <;> kernel_rfl
  · simp [Ans.no, Ans.run] at h

end Go.Rv
