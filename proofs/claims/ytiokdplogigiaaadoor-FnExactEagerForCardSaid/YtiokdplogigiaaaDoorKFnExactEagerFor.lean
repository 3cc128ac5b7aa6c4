/-
  The checked code answers as the plain functions do; written by program. Conditions: none.
-/
import Derived.Test.YtiokdplogigiaaaDoorKFnExactEagerFora
set_option linter.unusedVariables false
set_option linter.unusedSimpArgs false
set_option maxRecDepth 100000
namespace Go.Rv
open Go.Proofs
/-! slices.IndexFunc[[]int,int] -/

def slices_IndexFunc_int_int_an : Ann := (.seq (.leaf [0, 1]) (.seq (.seq (.leaf [0, 1, 7, 8]) (.block (.loop (.seq (.leaf [0, 1, 7, 8, 9]) (.seq (.cond (.leaf [0, 1, 7, 8]) (.leaf [])) (.seq (.block (.seq (.leaf [0, 1, 5, 7, 8]) (.seq (.leaf [0, 1, 5, 7, 8, 16]) (.cond (.seq (.leaf [4]) (.leaf [4])) (.leaf [0, 1, 7, 8]))))) (.leaf [0, 1, 7, 8]))))))) (.seq (.leaf [4]) (.leaf [4]))))

noncomputable def slices_IndexFunc_int_int_ctx : Ctx := ⟨tlook tys, olook [(84, F_impl_eagerMachine_waitsBelow_1)], ioF, 2, false, []⟩

theorem slices_IndexFunc_int_int_n1_l (x13308 : List Int) (x13309 : List Int) (x13310 : Int) : Link slices_IndexFunc_int_int_ctx LL (Code.fst (bodyOf Tryd.f89)) (Ann.fst slices_IndexFunc_int_int_an) (⟨mkE 19 0 [(0, .dat (.list (.int .i64)) x13308), (1, .fn 84 [] [.ptr 0 0, .ptr 1 0])], [some (.box [.dat (.list (.int .i64)) x13309]), some (.box [.dat (.int .i64) x13310])]⟩ : St) (slices_IndexFunc_int_int_n1) (fun (t : Unit) => (Exit.normal, (⟨mkE 19 0 [(0, .dat (.list (.int .i64)) x13308), (1, .fn 84 [] [.ptr 0 0, .ptr 1 0])], [some (.box [.dat (.list (.int .i64)) x13309]), some (.box [.dat (.int .i64) x13310])]⟩ : St))) := by
  refine Link.of fun K h => ?_
  simp only [slices_IndexFunc_int_int_n1, wpO_bind, wpO_cond, wpO_map, wpO_some] at h
  exact Awp.of (by kernel_rfl) h

theorem slices_IndexFunc_int_int_n2_l (x13308 : List Int) (x13309 : List Int) (x13310 : Int) : Link slices_IndexFunc_int_int_ctx LL (Code.fst (Code.fst (Code.snd (bodyOf Tryd.f89)))) (Ann.fst (Ann.fst (Ann.snd slices_IndexFunc_int_int_an))) (⟨mkE 19 0 [(0, .dat (.list (.int .i64)) x13308), (1, .fn 84 [] [.ptr 0 0, .ptr 1 0])], [some (.box [.dat (.list (.int .i64)) x13309]), some (.box [.dat (.int .i64) x13310])]⟩ : St) (slices_IndexFunc_int_int_n2 x13308) (fun (t : Int) => (Exit.normal, (⟨mkE 19 0 [(0, .dat (.list (.int .i64)) x13308), (1, .fn 84 [] [.ptr 0 0, .ptr 1 0]), (7, .dat (.int .i64) t), (8, .dat (.int .i64) 0)], [some (.box [.dat (.list (.int .i64)) x13309]), some (.box [.dat (.int .i64) x13310])]⟩ : St))) := by
  refine Link.of fun K h => ?_
  simp only [slices_IndexFunc_int_int_n2, wpO_bind, wpO_cond, wpO_map, wpO_some] at h
  exact Awp.of (by kernel_rfl) h

theorem slices_IndexFunc_int_int_n3_l (x13308 : List Int) (x13311 : Int) (x13337 : Int) (x13309 : List Int) (x13310 : Int) : Link slices_IndexFunc_int_int_ctx LL (Code.fst (Code.fst (Code.snd (Code.fst (Code.snd (bodyOf Tryd.f89)))))) (Ann.fst (Ann.fst (Ann.snd (Ann.fst (Ann.snd slices_IndexFunc_int_int_an))))) (⟨mkE 19 0 [(0, .dat (.list (.int .i64)) x13308), (1, .fn 84 [] [.ptr 0 0, .ptr 1 0]), (7, .dat (.int .i64) x13311), (8, .dat (.int .i64) x13337)], [some (.box [.dat (.list (.int .i64)) x13309]), some (.box [.dat (.int .i64) x13310])]⟩ : St) (slices_IndexFunc_int_int_n3 x13308 x13311 x13337 x13309 x13310) (Sum.elim (fun (t : Int) => (Exit.normal, (⟨mkE 19 0 [(0, .dat (.list (.int .i64)) x13308), (1, .fn 84 [] [.ptr 0 0, .ptr 1 0]), (7, .dat (.int .i64) x13311), (8, .dat (.int .i64) t)], [some (.box [.dat (.list (.int .i64)) x13309]), some (.box [.dat (.int .i64) x13310])]⟩ : St))) (Sum.elim (fun (t : Int) => (Exit.ret, (⟨mkE 19 0 [(4, .dat (.int .i64) t)], [some (.box [.dat (.list (.int .i64)) x13309]), some (.box [.dat (.int .i64) x13310])]⟩ : St))) (fun (t : Unit) => ((Exit.exit 0), (⟨mkE 19 0 [], [some (.box [.dat (.list (.int .i64)) x13309]), some (.box [.dat (.int .i64) x13310])]⟩ : St))))) := by
  refine Link.of fun K h => ?_
  simp only [slices_IndexFunc_int_int_n3, wpO_bind, wpO_cond, wpO_map, wpO_some] at h
  exact Awp.of (by kernel_rfl) h

theorem slices_IndexFunc_int_int_n4_l (x13308 : List Int) (x13311 : Int) (x13309 : List Int) (x13310 : Int) : Link slices_IndexFunc_int_int_ctx LL (Code.fst (Code.snd (Code.fst (Code.snd (bodyOf Tryd.f89))))) (Ann.fst (Ann.snd (Ann.fst (Ann.snd slices_IndexFunc_int_int_an)))) (⟨mkE 19 0 [(0, .dat (.list (.int .i64)) x13308), (1, .fn 84 [] [.ptr 0 0, .ptr 1 0]), (7, .dat (.int .i64) x13311), (8, .dat (.int .i64) 0)], [some (.box [.dat (.list (.int .i64)) x13309]), some (.box [.dat (.int .i64) x13310])]⟩ : St) (slices_IndexFunc_int_int_n4 x13308 x13311 x13309 x13310) (Sum.elim (fun (t : Int) => (Exit.ret, (⟨mkE 19 0 [(4, .dat (.int .i64) t)], [some (.box [.dat (.list (.int .i64)) x13309]), some (.box [.dat (.int .i64) x13310])]⟩ : St))) (fun (t : Unit) => ((Exit.exit 0), (⟨mkE 19 0 [], [some (.box [.dat (.list (.int .i64)) x13309]), some (.box [.dat (.int .i64) x13310])]⟩ : St)))) := by
  unfold slices_IndexFunc_int_int_n4
  exact Link.cast (by kernel_rfl) (by kernel_rfl) (link_loop (mk := fun (s : Int) => (⟨mkE 19 0 [(0, .dat (.list (.int .i64)) x13308), (1, .fn 84 [] [.ptr 0 0, .ptr 1 0]), (7, .dat (.int .i64) x13311), (8, .dat (.int .i64) s)], [some (.box [.dat (.list (.int .i64)) x13309]), some (.box [.dat (.int .i64) x13310])]⟩ : St)) (fin := (Sum.elim (fun (t : Int) => (Exit.ret, (⟨mkE 19 0 [(4, .dat (.int .i64) t)], [some (.box [.dat (.list (.int .i64)) x13309]), some (.box [.dat (.int .i64) x13310])]⟩ : St))) (fun (t : Unit) => ((Exit.exit 0), (⟨mkE 19 0 [], [some (.box [.dat (.list (.int .i64)) x13309]), some (.box [.dat (.int .i64) x13310])]⟩ : St))))) (by
  rintro (t | t) f K h
  · exact h
  · exact h) (fun s => link_map (slices_IndexFunc_int_int_n3_l x13308 x13311 s x13309 x13310) (Sum.elim (fun (t : Int) => Sum.inl t) (Sum.elim (fun (t : Int) => Sum.inr (Sum.inl t)) (fun (t : Unit) => Sum.inr (Sum.inr t)))) (by
  rintro (t | t | t)
  · kernel_rfl
  · kernel_rfl
  · kernel_rfl)) 0)

theorem slices_IndexFunc_int_int_n5_l (x13308 : List Int) (x13311 : Int) (x13309 : List Int) (x13310 : Int) : Link slices_IndexFunc_int_int_ctx LL (Code.snd (Code.fst (Code.snd (bodyOf Tryd.f89)))) (Ann.snd (Ann.fst (Ann.snd slices_IndexFunc_int_int_an))) (⟨mkE 19 0 [(0, .dat (.list (.int .i64)) x13308), (1, .fn 84 [] [.ptr 0 0, .ptr 1 0]), (7, .dat (.int .i64) x13311), (8, .dat (.int .i64) 0)], [some (.box [.dat (.list (.int .i64)) x13309]), some (.box [.dat (.int .i64) x13310])]⟩ : St) (slices_IndexFunc_int_int_n5 x13308 x13311 x13309 x13310) (Sum.elim (fun (t : Unit) => (Exit.normal, (⟨mkE 19 0 [], [some (.box [.dat (.list (.int .i64)) x13309]), some (.box [.dat (.int .i64) x13310])]⟩ : St))) (fun (t : Int) => (Exit.ret, (⟨mkE 19 0 [(4, .dat (.int .i64) t)], [some (.box [.dat (.list (.int .i64)) x13309]), some (.box [.dat (.int .i64) x13310])]⟩ : St)))) := by
  unfold slices_IndexFunc_int_int_n5
  exact Link.cast (by kernel_rfl) (by kernel_rfl) (link_block (id := 0) (slices_IndexFunc_int_int_n4_l x13308 x13311 x13309 x13310) (Sum.elim (fun (t : Int) => (Sum.inr t)) (fun (t : Unit) => (Sum.inl ()))) (by
  rintro (t | t) K h
  · exact Eq.mp (by kernel_rfl) h
  · exact Eq.mp (by kernel_rfl) h))

theorem slices_IndexFunc_int_int_n6_l (x13308 : List Int) (x13309 : List Int) (x13310 : Int) : Link slices_IndexFunc_int_int_ctx LL (Code.fst (Code.snd (bodyOf Tryd.f89))) (Ann.fst (Ann.snd slices_IndexFunc_int_int_an)) (⟨mkE 19 0 [(0, .dat (.list (.int .i64)) x13308), (1, .fn 84 [] [.ptr 0 0, .ptr 1 0])], [some (.box [.dat (.list (.int .i64)) x13309]), some (.box [.dat (.int .i64) x13310])]⟩ : St) (slices_IndexFunc_int_int_n6 x13308 x13309 x13310) (Sum.elim (fun (t : Unit) => (Exit.normal, (⟨mkE 19 0 [], [some (.box [.dat (.list (.int .i64)) x13309]), some (.box [.dat (.int .i64) x13310])]⟩ : St))) (fun (t : Int) => (Exit.ret, (⟨mkE 19 0 [(4, .dat (.int .i64) t)], [some (.box [.dat (.list (.int .i64)) x13309]), some (.box [.dat (.int .i64) x13310])]⟩ : St)))) := by
  unfold slices_IndexFunc_int_int_n6
  exact Link.cast (by kernel_rfl) (by kernel_rfl) (link_seq (b := (Code.snd (Code.fst (Code.snd (bodyOf Tryd.f89))))) (y := (Ann.snd (Ann.fst (Ann.snd slices_IndexFunc_int_int_an)))) (slices_IndexFunc_int_int_n2_l x13308 x13309 x13310) (fun (t : Int) => (slices_IndexFunc_int_int_n5_l x13308 t x13309 x13310)))

theorem slices_IndexFunc_int_int_n7_l (x13309 : List Int) (x13310 : Int) : Link slices_IndexFunc_int_int_ctx LL (Code.snd (Code.snd (bodyOf Tryd.f89))) (Ann.snd (Ann.snd slices_IndexFunc_int_int_an)) (⟨mkE 19 0 [], [some (.box [.dat (.list (.int .i64)) x13309]), some (.box [.dat (.int .i64) x13310])]⟩ : St) (slices_IndexFunc_int_int_n7) (fun (t : Int) => (Exit.ret, (⟨mkE 19 0 [(4, .dat (.int .i64) t)], [some (.box [.dat (.list (.int .i64)) x13309]), some (.box [.dat (.int .i64) x13310])]⟩ : St))) := by
  refine Link.of fun K h => ?_
  simp only [slices_IndexFunc_int_int_n7, wpO_bind, wpO_cond, wpO_map, wpO_some] at h
  exact Awp.of (by kernel_rfl) h

theorem slices_IndexFunc_int_int_n8_l (x13308 : List Int) (x13309 : List Int) (x13310 : Int) : Link slices_IndexFunc_int_int_ctx LL (Code.snd (bodyOf Tryd.f89)) (Ann.snd slices_IndexFunc_int_int_an) (⟨mkE 19 0 [(0, .dat (.list (.int .i64)) x13308), (1, .fn 84 [] [.ptr 0 0, .ptr 1 0])], [some (.box [.dat (.list (.int .i64)) x13309]), some (.box [.dat (.int .i64) x13310])]⟩ : St) (slices_IndexFunc_int_int_n8 x13308 x13309 x13310) (fun (t : Int) => (Exit.ret, (⟨mkE 19 0 [(4, .dat (.int .i64) t)], [some (.box [.dat (.list (.int .i64)) x13309]), some (.box [.dat (.int .i64) x13310])]⟩ : St))) := by
  unfold slices_IndexFunc_int_int_n8
  exact Link.cast (by kernel_rfl) (by kernel_rfl) (link_seq2 (b := (Code.snd (Code.snd (bodyOf Tryd.f89)))) (y := (Ann.snd (Ann.snd slices_IndexFunc_int_int_an))) (slices_IndexFunc_int_int_n6_l x13308 x13309 x13310) (fun (t : Unit) => (slices_IndexFunc_int_int_n7_l x13309 x13310)) (fun (t : Int) => t) (by
  rintro t
  · kernel_rfl) (by
  rintro t f K h
  · exact h))

theorem slices_IndexFunc_int_int_n9_l (x13308 : List Int) (x13309 : List Int) (x13310 : Int) : Link slices_IndexFunc_int_int_ctx LL (bodyOf Tryd.f89) slices_IndexFunc_int_int_an (⟨mkE 19 0 [(0, .dat (.list (.int .i64)) x13308), (1, .fn 84 [] [.ptr 0 0, .ptr 1 0])], [some (.box [.dat (.list (.int .i64)) x13309]), some (.box [.dat (.int .i64) x13310])]⟩ : St) (slices_IndexFunc_int_int_n9 x13308 x13309 x13310) (fun (t : Int) => (Exit.ret, (⟨mkE 19 0 [(4, .dat (.int .i64) t)], [some (.box [.dat (.list (.int .i64)) x13309]), some (.box [.dat (.int .i64) x13310])]⟩ : St))) := by
  unfold slices_IndexFunc_int_int_n9
  exact Link.cast (by kernel_rfl) (by kernel_rfl) (link_seq (b := (Code.snd (bodyOf Tryd.f89))) (y := (Ann.snd slices_IndexFunc_int_int_an)) (slices_IndexFunc_int_int_n1_l x13308 x13309 x13310) (fun (t : Unit) => (slices_IndexFunc_int_int_n8_l x13308 x13309 x13310)))

theorem slices_IndexFunc_int_int_e (x13308 : List Int) (x13309 : List Int) (x13310 : Int) {r : AV} {H' : Heap} (h : (Ans.mk _ (slices_IndexFunc_int_int x13308 x13309 x13310) (fun (t : Int) => (.dat (.int .i64) t, [some (.box [.dat (.list (.int .i64)) x13309]), some (.box [.dat (.int .i64) x13310])])) [] none).run = some (r, H')) : Awp slices_IndexFunc_int_int_ctx LL (bodyOf Tryd.f89) slices_IndexFunc_int_int_an (⟨mkE 19 0 [(0, .dat (.list (.int .i64)) x13308), (1, .fn 84 [] [.ptr 0 0, .ptr 1 0])], [some (.box [.dat (.list (.int .i64)) x13309]), some (.box [.dat (.int .i64) x13310])]⟩ : St) (Ret (tlook tys) Tryd.f89.results.toList r H') :=
  ret_of' (slices_IndexFunc_int_int_n9_l x13308 x13309 x13310) (by unfold slices_IndexFunc_int_int; kernel_rfl) (by
  intro t
  exact ret_mk [.dat (.int .i64) t] (by kernel_rfl) (by kernel_rfl) (by kernel_rfl) (by kernel_rfl)) h

def F_slices_IndexFunc_int_int : Fun := fun avs H =>
  match avs, H with
  | [.dat (.list (.int .i64)) x13308, .fn 84 [] [.ptr 0 0, .ptr 1 0]], [some (.box [.dat (.list (.int .i64)) x13309]), some (.box [.dat (.int .i64) x13310])] => ⟨_, slices_IndexFunc_int_int x13308 x13309 x13310, fun (t : Int) => (.dat (.int .i64) t, [some (.box [.dat (.list (.int .i64)) x13309]), some (.box [.dat (.int .i64) x13310])]), [], none⟩
  | _, _ => Ans.no

theorem slices_IndexFunc_int_int_sound : Sound Tryd.prog 89 F_slices_IndexFunc_int_int := by
  refine fn_sound' (C := slices_IndexFunc_int_int_ctx) (c := bodyOf Tryd.f89) (cok_of tys_ok (List.forall_mem_cons.2 ⟨impl_eagerMachine_waitsBelow_1_sound, by simp⟩) (List.forall_mem_cons.2 ⟨Tryd.call84, by simp⟩) (by kernel_rfl)) Tryd.func89 (by kernel_rfl) LL slices_IndexFunc_int_int_an ?_
  intro avs H r H' h
  unfold F_slices_IndexFunc_int_int at h
  split at h
  · refine Awp.cast ?_ ?_ ?_ (slices_IndexFunc_int_int_e _ _ _ h) <;> kernel_rfl
  · simp [Ans.no, Ans.run] at h


/-! slices.ContainsFunc[[]int,int] -/

def slices_ContainsFunc_int_int_an : Ann := (.seq (.leaf [0, 1]) (.seq (.leaf [4]) (.leaf [4])))

noncomputable def slices_ContainsFunc_int_int_ctx : Ctx := ⟨tlook tys, olook [(89, F_slices_IndexFunc_int_int)], ioF, 2, false, []⟩

theorem slices_ContainsFunc_int_int_n1_l (x13305 : List Int) (x13306 : List Int) (x13307 : Int) : Link slices_ContainsFunc_int_int_ctx LL (bodyOf Tryd.f83) slices_ContainsFunc_int_int_an (⟨mkE 9 0 [(0, .dat (.list (.int .i64)) x13305), (1, .fn 84 [] [.ptr 0 0, .ptr 1 0])], [some (.box [.dat (.list (.int .i64)) x13306]), some (.box [.dat (.int .i64) x13307])]⟩ : St) (slices_ContainsFunc_int_int_n1 x13305 x13306 x13307) (fun (t : Bool) => (Exit.ret, (⟨mkE 9 0 [(4, .dat .bool t)], [some (.box [.dat (.list (.int .i64)) x13306]), some (.box [.dat (.int .i64) x13307])]⟩ : St))) := by
  refine Link.of fun K h => ?_
  simp only [slices_ContainsFunc_int_int_n1, wpO_bind, wpO_cond, wpO_map, wpO_some] at h
  exact Awp.of (by kernel_rfl) h

theorem slices_ContainsFunc_int_int_e (x13305 : List Int) (x13306 : List Int) (x13307 : Int) {r : AV} {H' : Heap} (h : (Ans.mk _ (slices_ContainsFunc_int_int x13305 x13306 x13307) (fun (t : Bool) => (.dat .bool t, [some (.box [.dat (.list (.int .i64)) x13306]), some (.box [.dat (.int .i64) x13307])])) [] none).run = some (r, H')) : Awp slices_ContainsFunc_int_int_ctx LL (bodyOf Tryd.f83) slices_ContainsFunc_int_int_an (⟨mkE 9 0 [(0, .dat (.list (.int .i64)) x13305), (1, .fn 84 [] [.ptr 0 0, .ptr 1 0])], [some (.box [.dat (.list (.int .i64)) x13306]), some (.box [.dat (.int .i64) x13307])]⟩ : St) (Ret (tlook tys) Tryd.f83.results.toList r H') :=
  ret_of' (slices_ContainsFunc_int_int_n1_l x13305 x13306 x13307) (by unfold slices_ContainsFunc_int_int; kernel_rfl) (by
  intro t
  exact ret_mk [.dat .bool t] (by kernel_rfl) (by kernel_rfl) (by kernel_rfl) (by kernel_rfl)) h

def F_slices_ContainsFunc_int_int : Fun := fun avs H =>
  match avs, H with
  | [.dat (.list (.int .i64)) x13305, .fn 84 [] [.ptr 0 0, .ptr 1 0]], [some (.box [.dat (.list (.int .i64)) x13306]), some (.box [.dat (.int .i64) x13307])] => ⟨_, slices_ContainsFunc_int_int x13305 x13306 x13307, fun (t : Bool) => (.dat .bool t, [some (.box [.dat (.list (.int .i64)) x13306]), some (.box [.dat (.int .i64) x13307])]), [], none⟩
  | _, _ => Ans.no

theorem slices_ContainsFunc_int_int_sound : Sound Tryd.prog 83 F_slices_ContainsFunc_int_int := by
  refine fn_sound' (C := slices_ContainsFunc_int_int_ctx) (c := bodyOf Tryd.f83) (cok_of tys_ok (List.forall_mem_cons.2 ⟨slices_IndexFunc_int_int_sound, by simp⟩) (List.forall_mem_cons.2 ⟨Tryd.call89, by simp⟩) (by kernel_rfl)) Tryd.func83 (by kernel_rfl) LL slices_ContainsFunc_int_int_an ?_
  intro avs H r H' h
  unfold F_slices_ContainsFunc_int_int at h
  split at h
  · refine Awp.cast ?_ ?_ ?_ (slices_ContainsFunc_int_int_e _ _ _ h) <;> kernel_rfl
  · simp [Ans.no, Ans.run] at h


/-! (*loop.example/headtrees/impl.eagerMachine).waitsBelow -/

def impl_eagerMachine_waitsBelow_an : Ann := (.seq (.leaf [0, 4, 5]) (.seq (.draw [] [0, 1, 2, 3, 4, 5, 6, 7, 8, 9, 10, 11, 12, 13, 14, 15] [] [6]) (.leaf [6])))

noncomputable def impl_eagerMachine_waitsBelow_ctx : Ctx := ⟨tlook tys, olook [(83, forgetF F_slices_ContainsFunc_int_int)], ioF, 3, false, []⟩

theorem impl_eagerMachine_waitsBelow_n1_l (x13652 : List Int) (x13653 : Int) (x13654 : Nat) (x13655 : Nat) (x13656 : Int) (x13657 : Int) (x13658 : Int) (x13659 : List Int) (x13660 : List Int) : Link impl_eagerMachine_waitsBelow_ctx LL (bodyOf Tryd.f73) impl_eagerMachine_waitsBelow_an (⟨mkE 22 0 [(0, .ptr 0 0), (1, .dat (.list (.int .i64)) x13652), (2, .dat (.int .i64) x13653)], [some (.box [.slc 1, .win 2 x13654 x13655, .dat (.int .i64) x13656, .dat (.int .i64) x13657, .dat (.int .u64) x13658]), some (.seq (.int .i64) x13659), some (.seq (.int .i64) x13660)]⟩ : St) (impl_eagerMachine_waitsBelow_n1 x13652 x13653 x13654 x13655 x13660) (fun (t : Bool) => (Exit.ret, (⟨mkE 22 0 [(6, .dat .bool t)], [some (.box [.slc 1, .win 2 x13654 x13655, .dat (.int .i64) x13656, .dat (.int .i64) x13657, .dat (.int .u64) x13658]), some (.seq (.int .i64) x13659), some (.seq (.int .i64) x13660)]⟩ : St))) := by
  refine Link.of fun K h => ?_
  simp only [impl_eagerMachine_waitsBelow_n1, wpO_bind, wpO_cond, wpO_map, wpO_some] at h
  exact Awp.of (by kernel_rfl) h

theorem impl_eagerMachine_waitsBelow_e (x13652 : List Int) (x13653 : Int) (x13654 : Nat) (x13655 : Nat) (x13656 : Int) (x13657 : Int) (x13658 : Int) (x13659 : List Int) (x13660 : List Int) {r : AV} {H' : Heap} (h : (Ans.mk _ (impl_eagerMachine_waitsBelow x13652 x13653 x13654 x13655 x13656 x13657 x13658 x13659 x13660) (fun (t : Bool) => (.dat .bool t, [some (.box [.slc 1, .win 2 x13654 x13655, .dat (.int .i64) x13656, .dat (.int .i64) x13657, .dat (.int .u64) x13658]), some (.seq (.int .i64) x13659), some (.seq (.int .i64) x13660)])) [] none).run = some (r, H')) : Awp impl_eagerMachine_waitsBelow_ctx LL (bodyOf Tryd.f73) impl_eagerMachine_waitsBelow_an (⟨mkE 22 0 [(0, .ptr 0 0), (1, .dat (.list (.int .i64)) x13652), (2, .dat (.int .i64) x13653)], [some (.box [.slc 1, .win 2 x13654 x13655, .dat (.int .i64) x13656, .dat (.int .i64) x13657, .dat (.int .u64) x13658]), some (.seq (.int .i64) x13659), some (.seq (.int .i64) x13660)]⟩ : St) (Ret (tlook tys) Tryd.f73.results.toList r H') :=
  ret_of' (impl_eagerMachine_waitsBelow_n1_l x13652 x13653 x13654 x13655 x13656 x13657 x13658 x13659 x13660) (by unfold impl_eagerMachine_waitsBelow; kernel_rfl) (by
  intro t
  exact ret_mk [.dat .bool t] (by kernel_rfl) (by kernel_rfl) (by kernel_rfl) (by kernel_rfl)) h

def F_impl_eagerMachine_waitsBelow : Fun := fun avs H =>
  match avs, H with
  | [.ptr 0 0, .dat (.list (.int .i64)) x13652, .dat (.int .i64) x13653], [some (.box [.slc 1, .win 2 x13654 x13655, .dat (.int .i64) x13656, .dat (.int .i64) x13657, .dat (.int .u64) x13658]), some (.seq (.int .i64) x13659), some (.seq (.int .i64) x13660)] => ⟨_, impl_eagerMachine_waitsBelow x13652 x13653 x13654 x13655 x13656 x13657 x13658 x13659 x13660, fun (t : Bool) => (.dat .bool t, [some (.box [.slc 1, .win 2 x13654 x13655, .dat (.int .i64) x13656, .dat (.int .i64) x13657, .dat (.int .u64) x13658]), some (.seq (.int .i64) x13659), some (.seq (.int .i64) x13660)]), [], none⟩
  | _, _ => Ans.no

theorem impl_eagerMachine_waitsBelow_sound : Sound Tryd.prog 73 F_impl_eagerMachine_waitsBelow := by
  refine fn_sound' (C := impl_eagerMachine_waitsBelow_ctx) (c := bodyOf Tryd.f73) (cok_of tys_ok (List.forall_mem_cons.2 ⟨(Sound.forget slices_ContainsFunc_int_int_sound), by simp⟩) (List.forall_mem_cons.2 ⟨Tryd.call83, by simp⟩) (by kernel_rfl)) Tryd.func73 (by kernel_rfl) LL impl_eagerMachine_waitsBelow_an ?_
  intro avs H r H' h
  unfold F_impl_eagerMachine_waitsBelow at h
  split at h
  · refine Awp.cast ?_ ?_ ?_ (impl_eagerMachine_waitsBelow_e _ _ _ _ _ _ _ _ _ h) <;> kernel_rfl
  · simp [Ans.no, Ans.run] at h


/-! (*loop.example/headtrees/impl.eagerMachine).letterFor -/

def impl_eagerMachine_letterFor_an : Ann := (.seq (.leaf [0, 1]) (.seq (.leaf [0, 1, 5, 6, 7]) (.seq (.block (.seq (.leaf [0, 1, 5, 6, 14]) (.cond (.seq (.leaf [4]) (.leaf [4])) (.seq (.leaf [0, 1, 5, 6, 17]) (.cond (.seq (.leaf [4]) (.leaf [4])) (.seq (.leaf [0, 1, 6, 25]) (.cond (.seq (.leaf [4]) (.leaf [4])) (.seq (.leaf [33]) (.cond (.seq (.leaf [4]) (.leaf [4])) (.leaf [])))))))))) (.seq (.leaf [4]) (.leaf [4])))))

noncomputable def impl_eagerMachine_letterFor_ctx : Ctx := ⟨tlook tys, olook [(72, F_impl_eagerMachine_upperAndNext), (73, F_impl_eagerMachine_waitsBelow)], ioF, 3, false, []⟩

theorem impl_eagerMachine_letterFor_n1_l (x13629 : List Int) (x13630 : Nat) (x13631 : Nat) (x13632 : Int) (x13633 : Int) (x13634 : Int) (x13635 : List Int) (x13636 : List Int) : Link impl_eagerMachine_letterFor_ctx LL (bodyOf Tryd.f47) impl_eagerMachine_letterFor_an (⟨mkE 38 0 [(0, .ptr 0 0), (1, .dat (.list (.int .i64)) x13629)], [some (.box [.slc 1, .win 2 x13630 x13631, .dat (.int .i64) x13632, .dat (.int .i64) x13633, .dat (.int .u64) x13634]), some (.seq (.int .i64) x13635), some (.seq (.int .i64) x13636)]⟩ : St) (impl_eagerMachine_letterFor_n1 x13629 x13630 x13631 x13632 x13633 x13634 x13635 x13636) (fun (t : Int) => (Exit.ret, (⟨mkE 38 0 [(4, .dat (.int .u8) t)], [some (.box [.slc 1, .win 2 x13630 x13631, .dat (.int .i64) x13632, .dat (.int .i64) x13633, .dat (.int .u64) x13634]), some (.seq (.int .i64) x13635), some (.seq (.int .i64) x13636)]⟩ : St))) := by
  refine Link.of fun K h => ?_
  simp only [impl_eagerMachine_letterFor_n1, wpO_bind, wpO_cond, wpO_map, wpO_some] at h
  exact Awp.of (by kernel_rfl) h

theorem impl_eagerMachine_letterFor_e (x13629 : List Int) (x13630 : Nat) (x13631 : Nat) (x13632 : Int) (x13633 : Int) (x13634 : Int) (x13635 : List Int) (x13636 : List Int) {r : AV} {H' : Heap} (h : (Ans.mk _ (impl_eagerMachine_letterFor x13629 x13630 x13631 x13632 x13633 x13634 x13635 x13636) (fun (t : Int) => (.dat (.int .u8) t, [some (.box [.slc 1, .win 2 x13630 x13631, .dat (.int .i64) x13632, .dat (.int .i64) x13633, .dat (.int .u64) x13634]), some (.seq (.int .i64) x13635), some (.seq (.int .i64) x13636)])) [] none).run = some (r, H')) : Awp impl_eagerMachine_letterFor_ctx LL (bodyOf Tryd.f47) impl_eagerMachine_letterFor_an (⟨mkE 38 0 [(0, .ptr 0 0), (1, .dat (.list (.int .i64)) x13629)], [some (.box [.slc 1, .win 2 x13630 x13631, .dat (.int .i64) x13632, .dat (.int .i64) x13633, .dat (.int .u64) x13634]), some (.seq (.int .i64) x13635), some (.seq (.int .i64) x13636)]⟩ : St) (Ret (tlook tys) Tryd.f47.results.toList r H') :=
  ret_of' (impl_eagerMachine_letterFor_n1_l x13629 x13630 x13631 x13632 x13633 x13634 x13635 x13636) (by unfold impl_eagerMachine_letterFor; kernel_rfl) (by
  intro t
  exact ret_mk [.dat (.int .u8) t] (by kernel_rfl) (by kernel_rfl) (by kernel_rfl) (by kernel_rfl)) h

def F_impl_eagerMachine_letterFor : Fun := fun avs H =>
  match avs, H with
  | [.ptr 0 0, .dat (.list (.int .i64)) x13629], [some (.box [.slc 1, .win 2 x13630 x13631, .dat (.int .i64) x13632, .dat (.int .i64) x13633, .dat (.int .u64) x13634]), some (.seq (.int .i64) x13635), some (.seq (.int .i64) x13636)] => ⟨_, impl_eagerMachine_letterFor x13629 x13630 x13631 x13632 x13633 x13634 x13635 x13636, fun (t : Int) => (.dat (.int .u8) t, [some (.box [.slc 1, .win 2 x13630 x13631, .dat (.int .i64) x13632, .dat (.int .i64) x13633, .dat (.int .u64) x13634]), some (.seq (.int .i64) x13635), some (.seq (.int .i64) x13636)]), [], none⟩
  | _, _ => Ans.no

theorem impl_eagerMachine_letterFor_sound : Sound Tryd.prog 47 F_impl_eagerMachine_letterFor := by
  refine fn_sound' (C := impl_eagerMachine_letterFor_ctx) (c := bodyOf Tryd.f47) (cok_of tys_ok (List.forall_mem_cons.2 ⟨impl_eagerMachine_upperAndNext_sound, List.forall_mem_cons.2 ⟨impl_eagerMachine_waitsBelow_sound, by simp⟩⟩) (List.forall_mem_cons.2 ⟨Tryd.call72, List.forall_mem_cons.2 ⟨Tryd.call73, by simp⟩⟩) (by kernel_rfl)) Tryd.func47 (by kernel_rfl) LL impl_eagerMachine_letterFor_an ?_
  intro avs H r H' h
  unfold F_impl_eagerMachine_letterFor at h
  split at h
  · refine Awp.cast ?_ ?_ ?_ (impl_eagerMachine_letterFor_e _ _ _ _ _ _ _ _ h) <;> kernel_rfl
  · simp [Ans.no, Ans.run] at h


/-! loop.example/headtrees/impl.EagerFor -/

def impl_EagerFor_an : Ann := (.seq (.leaf [0]) (.seq (.seq (.leaf [0, 10]) (.cond (.seq (.leaf [2, 3]) (.leaf [2, 3])) (.leaf [0]))) (.seq (.leaf [0, 4, 5]) (.seq (.leafF [⟨1, 4, false, some 1, some (.int .i64)⟩, ⟨1, 4, true, some 1, none⟩] [0, 4, 5, 6]) (.seq (.block (.loop (.seq (.seq (.leaf [0, 4, 5, 6, 22]) (.cond (.leaf [0, 4, 5, 6]) (.leaf [6]))) (.block (.seq (.leaf [0, 4, 5, 6, 7]) (.seq (.leaf [0, 4, 5, 6, 7]) (.leafF [⟨5, 4, true, some 1, none⟩] [0, 4, 5, 6]))))))) (.seq (.leafF [⟨1, 35, false, none, none⟩] [2, 3]) (.leaf [2, 3])))))))

noncomputable def impl_EagerFor_ctx : Ctx := ⟨tlook tys, olook [(15, F_impl_FlatOk), (42, F_impl_newEagerMachine), (44, F_impl_eagerMoves), (47, F_impl_eagerMachine_letterFor), (54, F_impl_stackMachine_putNext_v2), (68, F_impl_eagerMachine_takeUnderNext), (69, F_impl_eagerMachine_putUnderUpper), (70, F_impl_eagerMachine_takeHeaded)], ioF, 0, false, []⟩

theorem impl_EagerFor_n1_l (x13238 : List Int) : Link impl_EagerFor_ctx LL (Code.seq (Code.fst (bodyOf Tryd.f21)) (Code.seq (Code.fst (Code.snd (bodyOf Tryd.f21))) (Code.seq (Code.fst (Code.snd (Code.snd (bodyOf Tryd.f21)))) (Code.fst (Code.snd (Code.snd (Code.snd (bodyOf Tryd.f21)))))))) (Ann.seq (Ann.fst impl_EagerFor_an) (Ann.seq (Ann.fst (Ann.snd impl_EagerFor_an)) (Ann.seq (Ann.fst (Ann.snd (Ann.snd impl_EagerFor_an))) (Ann.fst (Ann.snd (Ann.snd (Ann.snd impl_EagerFor_an))))))) (⟨mkE 37 0 [(0, .dat (.list (.int .i64)) x13238)], []⟩ : St) (impl_EagerFor_n1 x13238) (Sum.elim (fun (t : Nat × (List Int)) => (Exit.normal, (⟨mkE 37 0 [(0, .dat (.list (.int .i64)) x13238), (4, .ptr 0 0), (5, .fmap [(.int .u8 83, .methodOf 59 "loop.example/headtrees/impl.putNext"), (.int .u8 76, .func 68), (.int .u8 82, .func 69), (.int .u8 68, .func 70)]), (6, .slc 1)], [some (.box [.slc 2, .win 3 0 t.1, .dat (.int .i64) 0, .dat (.int .i64) 0, .dat (.int .u64) 0]), some (.seq (.int .u8) ([] : List Int)), some (.seq (.int .i64) t.2), some (.seq (.int .i64) ([] : List Int))]⟩ : St))) (fun (t : ByteArray × Bool) => (Exit.ret, (⟨mkE 37 0 [(2, .dat .str t.1), (3, .dat .bool t.2)], []⟩ : St)))) := by
  refine Link.of fun K h => ?_
  simp only [impl_EagerFor_n1, wpO_bind, wpO_cond, wpO_map, wpO_some] at h
  exact Awp.of (by kernel_rfl) h

theorem impl_EagerFor_n2_l (x13238 : List Int) (x13901 : Nat) (x13902 : Nat) (x13903 : Int) (x13904 : Int) (x13905 : Int) (x13906 : List Int) (x13907 : List Int) (x13908 : List Int) : Link impl_EagerFor_ctx LL (Code.fst (Code.fst (Code.fst (Code.snd (Code.snd (Code.snd (Code.snd (bodyOf Tryd.f21)))))))) (Ann.fst (Ann.fst (Ann.fst (Ann.snd (Ann.snd (Ann.snd (Ann.snd impl_EagerFor_an))))))) (⟨mkE 37 0 [(0, .dat (.list (.int .i64)) x13238), (4, .ptr 0 0), (5, .fmap [(.int .u8 83, .methodOf 59 "loop.example/headtrees/impl.putNext"), (.int .u8 76, .func 68), (.int .u8 82, .func 69), (.int .u8 68, .func 70)]), (6, .slc 1)], [some (.box [.slc 2, .win 3 x13901 x13902, .dat (.int .i64) x13903, .dat (.int .i64) x13904, .dat (.int .u64) x13905]), some (.seq (.int .u8) x13906), some (.seq (.int .i64) x13907), some (.seq (.int .i64) x13908)]⟩ : St) (impl_EagerFor_n2 x13238 x13901 x13902 x13903 x13904 x13905 x13906 x13907 x13908) (Sum.elim (fun (t : Nat × Nat × Int × Int × Int × (List Int) × (List Int) × (List Int)) => (Exit.normal, (⟨mkE 37 0 [(0, .dat (.list (.int .i64)) x13238), (4, .ptr 0 0), (5, .fmap [(.int .u8 83, .methodOf 59 "loop.example/headtrees/impl.putNext"), (.int .u8 76, .func 68), (.int .u8 82, .func 69), (.int .u8 68, .func 70)]), (6, .slc 1)], [some (.box [.slc 2, .win 3 t.1 t.2.1, .dat (.int .i64) t.2.2.1, .dat (.int .i64) t.2.2.2.1, .dat (.int .u64) t.2.2.2.2.1]), some (.seq (.int .u8) t.2.2.2.2.2.1), some (.seq (.int .i64) t.2.2.2.2.2.2.1), some (.seq (.int .i64) t.2.2.2.2.2.2.2)]⟩ : St))) (fun (t : (List Int)) => ((Exit.exit 0), (⟨mkE 37 0 [(6, .slc 0)], [some (.seq (.int .u8) t)]⟩ : St)))) := by
  refine Link.of fun K h => ?_
  simp only [impl_EagerFor_n2, wpO_bind, wpO_cond, wpO_map, wpO_some, wpO_none] at h
  exact Awp.of (by kernel_rfl) h

theorem impl_EagerFor_n3_l (x13238 : List Int) (x13841 : Nat) (x13839 : List Int) : Link impl_EagerFor_ctx LL (Code.fst (Code.fst (Code.snd (Code.snd (Code.snd (Code.snd (bodyOf Tryd.f21))))))) (Ann.fst (Ann.fst (Ann.snd (Ann.snd (Ann.snd (Ann.snd impl_EagerFor_an)))))) (⟨mkE 37 0 [(0, .dat (.list (.int .i64)) x13238), (4, .ptr 0 0), (5, .fmap [(.int .u8 83, .methodOf 59 "loop.example/headtrees/impl.putNext"), (.int .u8 76, .func 68), (.int .u8 82, .func 69), (.int .u8 68, .func 70)]), (6, .slc 1)], [some (.box [.slc 2, .win 3 0 x13841, .dat (.int .i64) 0, .dat (.int .i64) 0, .dat (.int .u64) 0]), some (.seq (.int .u8) ([] : List Int)), some (.seq (.int .i64) x13839), some (.seq (.int .i64) ([] : List Int))]⟩ : St) (impl_EagerFor_n3 x13238 x13841 x13839) (fun (t : (List Int)) => ((Exit.exit 0), (⟨mkE 37 0 [(6, .slc 0)], [some (.seq (.int .u8) t)]⟩ : St))) := by
  unfold impl_EagerFor_n3
  exact Link.cast (by kernel_rfl) (by kernel_rfl) (link_loop (mk := fun (s : Nat × Nat × Int × Int × Int × (List Int) × (List Int) × (List Int)) => (⟨mkE 37 0 [(0, .dat (.list (.int .i64)) x13238), (4, .ptr 0 0), (5, .fmap [(.int .u8 83, .methodOf 59 "loop.example/headtrees/impl.putNext"), (.int .u8 76, .func 68), (.int .u8 82, .func 69), (.int .u8 68, .func 70)]), (6, .slc 1)], [some (.box [.slc 2, .win 3 s.1 s.2.1, .dat (.int .i64) s.2.2.1, .dat (.int .i64) s.2.2.2.1, .dat (.int .u64) s.2.2.2.2.1]), some (.seq (.int .u8) s.2.2.2.2.2.1), some (.seq (.int .i64) s.2.2.2.2.2.2.1), some (.seq (.int .i64) s.2.2.2.2.2.2.2)]⟩ : St)) (fin := (fun (t : (List Int)) => ((Exit.exit 0), (⟨mkE 37 0 [(6, .slc 0)], [some (.seq (.int .u8) t)]⟩ : St)))) (by
  rintro t f K h
  · exact h) (fun s => link_map (impl_EagerFor_n2_l x13238 s.1 s.2.1 s.2.2.1 s.2.2.2.1 s.2.2.2.2.1 s.2.2.2.2.2.1 s.2.2.2.2.2.2.1 s.2.2.2.2.2.2.2) (Sum.elim (fun (t : Nat × Nat × Int × Int × Int × (List Int) × (List Int) × (List Int)) => Sum.inl (t.1, t.2.1, t.2.2.1, t.2.2.2.1, t.2.2.2.2.1, t.2.2.2.2.2.1, t.2.2.2.2.2.2.1, t.2.2.2.2.2.2.2)) (fun (t : (List Int)) => Sum.inr t)) (by
  rintro (t | t)
  · kernel_rfl
  · kernel_rfl)) (0, x13841, 0, 0, 0, ([] : List Int), x13839, ([] : List Int)))

theorem impl_EagerFor_n4_l (x13238 : List Int) (x13841 : Nat) (x13839 : List Int) : Link impl_EagerFor_ctx LL (Code.fst (Code.snd (Code.snd (Code.snd (Code.snd (bodyOf Tryd.f21)))))) (Ann.fst (Ann.snd (Ann.snd (Ann.snd (Ann.snd impl_EagerFor_an))))) (⟨mkE 37 0 [(0, .dat (.list (.int .i64)) x13238), (4, .ptr 0 0), (5, .fmap [(.int .u8 83, .methodOf 59 "loop.example/headtrees/impl.putNext"), (.int .u8 76, .func 68), (.int .u8 82, .func 69), (.int .u8 68, .func 70)]), (6, .slc 1)], [some (.box [.slc 2, .win 3 0 x13841, .dat (.int .i64) 0, .dat (.int .i64) 0, .dat (.int .u64) 0]), some (.seq (.int .u8) ([] : List Int)), some (.seq (.int .i64) x13839), some (.seq (.int .i64) ([] : List Int))]⟩ : St) (impl_EagerFor_n4 x13238 x13841 x13839) (fun (t : (List Int)) => (Exit.normal, (⟨mkE 37 0 [(6, .slc 0)], [some (.seq (.int .u8) t)]⟩ : St))) := by
  unfold impl_EagerFor_n4
  exact Link.cast (by kernel_rfl) (by kernel_rfl) (link_block (id := 0) (impl_EagerFor_n3_l x13238 x13841 x13839) (fun (t : (List Int)) => t) (by
  rintro t K h
  · exact Eq.mp (by kernel_rfl) h))

theorem impl_EagerFor_n5_l (x13906 : List Int) : Link impl_EagerFor_ctx LL (Code.snd (Code.snd (Code.snd (Code.snd (Code.snd (bodyOf Tryd.f21)))))) (Ann.snd (Ann.snd (Ann.snd (Ann.snd (Ann.snd impl_EagerFor_an))))) (⟨mkE 37 0 [(6, .slc 0)], [some (.seq (.int .u8) x13906)]⟩ : St) (impl_EagerFor_n5 x13906) (fun (t : ByteArray × Bool) => (Exit.ret, (⟨mkE 37 0 [(2, .dat .str t.1), (3, .dat .bool t.2)], []⟩ : St))) := by
  refine Link.of fun K h => ?_
  simp only [impl_EagerFor_n5, wpO_bind, wpO_cond, wpO_map, wpO_some] at h
  exact Awp.of (by kernel_rfl) h

theorem impl_EagerFor_n6_l (x13238 : List Int) (x13841 : Nat) (x13839 : List Int) : Link impl_EagerFor_ctx LL (Code.snd (Code.snd (Code.snd (Code.snd (bodyOf Tryd.f21))))) (Ann.snd (Ann.snd (Ann.snd (Ann.snd impl_EagerFor_an)))) (⟨mkE 37 0 [(0, .dat (.list (.int .i64)) x13238), (4, .ptr 0 0), (5, .fmap [(.int .u8 83, .methodOf 59 "loop.example/headtrees/impl.putNext"), (.int .u8 76, .func 68), (.int .u8 82, .func 69), (.int .u8 68, .func 70)]), (6, .slc 1)], [some (.box [.slc 2, .win 3 0 x13841, .dat (.int .i64) 0, .dat (.int .i64) 0, .dat (.int .u64) 0]), some (.seq (.int .u8) ([] : List Int)), some (.seq (.int .i64) x13839), some (.seq (.int .i64) ([] : List Int))]⟩ : St) (impl_EagerFor_n6 x13238 x13841 x13839) (fun (t : ByteArray × Bool) => (Exit.ret, (⟨mkE 37 0 [(2, .dat .str t.1), (3, .dat .bool t.2)], []⟩ : St))) := by
  unfold impl_EagerFor_n6
  exact Link.cast (by kernel_rfl) (by kernel_rfl) (link_seq (b := (Code.snd (Code.snd (Code.snd (Code.snd (Code.snd (bodyOf Tryd.f21))))))) (y := (Ann.snd (Ann.snd (Ann.snd (Ann.snd (Ann.snd impl_EagerFor_an)))))) (impl_EagerFor_n4_l x13238 x13841 x13839) (fun (t : (List Int)) => (impl_EagerFor_n5_l t)))

theorem impl_EagerFor_n7_l (x13238 : List Int) : Link impl_EagerFor_ctx LL (bodyOf Tryd.f21) impl_EagerFor_an (⟨mkE 37 0 [(0, .dat (.list (.int .i64)) x13238)], []⟩ : St) (impl_EagerFor_n7 x13238) (fun (t : ByteArray × Bool) => (Exit.ret, (⟨mkE 37 0 [(2, .dat .str t.1), (3, .dat .bool t.2)], []⟩ : St))) := by
  unfold impl_EagerFor_n7
  exact Link.cast (by kernel_rfl) (by kernel_rfl) (link_group (c := (Code.fst (Code.snd (Code.snd (Code.snd (bodyOf Tryd.f21)))))) (a := (Ann.fst (Ann.snd (Ann.snd (Ann.snd impl_EagerFor_an))))) [(Code.fst (bodyOf Tryd.f21)), (Code.fst (Code.snd (bodyOf Tryd.f21))), (Code.fst (Code.snd (Code.snd (bodyOf Tryd.f21))))] [(Ann.fst impl_EagerFor_an), (Ann.fst (Ann.snd impl_EagerFor_an)), (Ann.fst (Ann.snd (Ann.snd impl_EagerFor_an)))] rfl (link_seq2 (b := (Code.snd (Code.snd (Code.snd (Code.snd (bodyOf Tryd.f21)))))) (y := (Ann.snd (Ann.snd (Ann.snd (Ann.snd impl_EagerFor_an))))) (impl_EagerFor_n1_l x13238) (fun (t : Nat × (List Int)) => (impl_EagerFor_n6_l x13238 t.1 t.2)) (fun (t : ByteArray × Bool) => t) (by
  rintro t
  · kernel_rfl) (by
  rintro t f K h
  · exact h)))

theorem impl_EagerFor_e (x13238 : List Int) {r : AV} {H' : Heap} (h : (Ans.mk _ (impl_EagerFor x13238) (fun (t : ByteArray × Bool) => (.tup [.dat .str t.1, .dat .bool t.2], [])) [] none).run = some (r, H')) : Awp impl_EagerFor_ctx LL (bodyOf Tryd.f21) impl_EagerFor_an (⟨mkE 37 0 [(0, .dat (.list (.int .i64)) x13238)], []⟩ : St) (Ret (tlook tys) Tryd.f21.results.toList r H') :=
  ret_of' (impl_EagerFor_n7_l x13238) (by unfold impl_EagerFor; kernel_rfl) (by
  intro t
  exact ret_mk [.dat .str t.1, .dat .bool t.2] (by kernel_rfl) (by kernel_rfl) (by kernel_rfl) (by kernel_rfl)) h

def F_impl_EagerFor : Fun := fun avs H =>
  match avs, H with
  | [.dat (.list (.int .i64)) x13238], [] => ⟨_, impl_EagerFor x13238, fun (t : ByteArray × Bool) => (.tup [.dat .str t.1, .dat .bool t.2], []), [], none⟩
  | _, _ => Ans.no

theorem impl_EagerFor_sound : Sound Tryd.prog 21 F_impl_EagerFor := by
  refine fn_sound' (C := impl_EagerFor_ctx) (c := bodyOf Tryd.f21) (cok_of tys_ok (List.forall_mem_cons.2 ⟨impl_FlatOk_sound, List.forall_mem_cons.2 ⟨impl_newEagerMachine_sound, List.forall_mem_cons.2 ⟨impl_eagerMoves_sound, List.forall_mem_cons.2 ⟨impl_eagerMachine_letterFor_sound, List.forall_mem_cons.2 ⟨impl_stackMachine_putNext_v2_sound, List.forall_mem_cons.2 ⟨impl_eagerMachine_takeUnderNext_sound, List.forall_mem_cons.2 ⟨impl_eagerMachine_putUnderUpper_sound, List.forall_mem_cons.2 ⟨impl_eagerMachine_takeHeaded_sound, by simp⟩⟩⟩⟩⟩⟩⟩⟩) (List.forall_mem_cons.2 ⟨Tryd.call15, List.forall_mem_cons.2 ⟨Tryd.call42, List.forall_mem_cons.2 ⟨Tryd.call44, List.forall_mem_cons.2 ⟨Tryd.call47, List.forall_mem_cons.2 ⟨Tryd.call54, List.forall_mem_cons.2 ⟨Tryd.call68, List.forall_mem_cons.2 ⟨Tryd.call69, List.forall_mem_cons.2 ⟨Tryd.call70, by simp⟩⟩⟩⟩⟩⟩⟩⟩) (by kernel_rfl)) Tryd.func21 (by kernel_rfl) LL impl_EagerFor_an ?_
  intro avs H r H' h
  unfold F_impl_EagerFor at h
  split at h
  · refine Awp.cast ?_ ?_ ?_ (impl_EagerFor_e _ h) <;> kernel_rfl
  · simp [Ans.no, Ans.run] at h


/-! loop.example/headtrees/laws.toIntS -/

def laws_toIntS_an : Ann := (.seq (.leaf [0]) (.seq (.leaf [0, 3]) (.seq (.seq (.leaf [0, 3, 4]) (.block (.loop (.seq (.seq (.leaf [0, 3, 4, 11]) (.cond (.leaf [0, 3, 4]) (.leaf [3]))) (.seq (.block (.leaf [0, 3, 4])) (.leaf [0, 3, 4])))))) (.seq (.leaf [2]) (.leaf [2])))))

noncomputable def laws_toIntS_ctx : Ctx := ⟨tlook tys, olook [], ioF, 0, false, []⟩

theorem laws_toIntS_n1_l (x14389 : List Int) : Link laws_toIntS_ctx LL (Code.seq (Code.fst (bodyOf Tryd.f24)) (Code.fst (Code.snd (bodyOf Tryd.f24)))) (Ann.seq (Ann.fst laws_toIntS_an) (Ann.fst (Ann.snd laws_toIntS_an))) (⟨mkE 22 0 [(0, .dat (.list (.int .i64)) x14389)], []⟩ : St) (laws_toIntS_n1 x14389) (fun (t : (List Int)) => (Exit.normal, (⟨mkE 22 0 [(0, .dat (.list (.int .i64)) x14389), (3, .slc 0)], [some (.seq (.int .i64) t)]⟩ : St))) := by
  refine Link.of fun K h => ?_
  simp only [laws_toIntS_n1, wpO_bind, wpO_cond, wpO_map, wpO_some] at h
  exact Awp.of (by kernel_rfl) h

theorem laws_toIntS_n2_l (x14389 : List Int) (x14392 : List Int) : Link laws_toIntS_ctx LL (Code.fst (Code.fst (Code.snd (Code.snd (bodyOf Tryd.f24))))) (Ann.fst (Ann.fst (Ann.snd (Ann.snd laws_toIntS_an)))) (⟨mkE 22 0 [(0, .dat (.list (.int .i64)) x14389), (3, .slc 0)], [some (.seq (.int .i64) x14392)]⟩ : St) (laws_toIntS_n2) (fun (t : Unit) => (Exit.normal, (⟨mkE 22 0 [(0, .dat (.list (.int .i64)) x14389), (3, .slc 0), (4, .dat (.int .i64) 0)], [some (.seq (.int .i64) x14392)]⟩ : St))) := by
  refine Link.of fun K h => ?_
  simp only [laws_toIntS_n2, wpO_bind, wpO_cond, wpO_map, wpO_some] at h
  exact Awp.of (by kernel_rfl) h

theorem laws_toIntS_n3_l (x14389 : List Int) (x14406 : Int) (x14407 : List Int) : Link laws_toIntS_ctx LL (Code.fst (Code.fst (Code.snd (Code.fst (Code.snd (Code.snd (bodyOf Tryd.f24))))))) (Ann.fst (Ann.fst (Ann.snd (Ann.fst (Ann.snd (Ann.snd laws_toIntS_an)))))) (⟨mkE 22 0 [(0, .dat (.list (.int .i64)) x14389), (3, .slc 0), (4, .dat (.int .i64) x14406)], [some (.seq (.int .i64) x14407)]⟩ : St) (laws_toIntS_n3 x14389 x14406 x14407) (Sum.elim (fun (t : Int × (List Int)) => (Exit.normal, (⟨mkE 22 0 [(0, .dat (.list (.int .i64)) x14389), (3, .slc 0), (4, .dat (.int .i64) t.1)], [some (.seq (.int .i64) t.2)]⟩ : St))) (fun (t : (List Int)) => ((Exit.exit 0), (⟨mkE 22 0 [(3, .slc 0)], [some (.seq (.int .i64) t)]⟩ : St)))) := by
  refine Link.of fun K h => ?_
  simp only [laws_toIntS_n3, wpO_bind, wpO_cond, wpO_map, wpO_some] at h
  exact Awp.of (by kernel_rfl) h

theorem laws_toIntS_n4_l (x14389 : List Int) (x14392 : List Int) : Link laws_toIntS_ctx LL (Code.fst (Code.snd (Code.fst (Code.snd (Code.snd (bodyOf Tryd.f24)))))) (Ann.fst (Ann.snd (Ann.fst (Ann.snd (Ann.snd laws_toIntS_an))))) (⟨mkE 22 0 [(0, .dat (.list (.int .i64)) x14389), (3, .slc 0), (4, .dat (.int .i64) 0)], [some (.seq (.int .i64) x14392)]⟩ : St) (laws_toIntS_n4 x14389 x14392) (fun (t : (List Int)) => ((Exit.exit 0), (⟨mkE 22 0 [(3, .slc 0)], [some (.seq (.int .i64) t)]⟩ : St))) := by
  unfold laws_toIntS_n4
  exact Link.cast (by kernel_rfl) (by kernel_rfl) (link_loop (mk := fun (s : Int × (List Int)) => (⟨mkE 22 0 [(0, .dat (.list (.int .i64)) x14389), (3, .slc 0), (4, .dat (.int .i64) s.1)], [some (.seq (.int .i64) s.2)]⟩ : St)) (fin := (fun (t : (List Int)) => ((Exit.exit 0), (⟨mkE 22 0 [(3, .slc 0)], [some (.seq (.int .i64) t)]⟩ : St)))) (by
  rintro t f K h
  · exact h) (fun s => link_map (laws_toIntS_n3_l x14389 s.1 s.2) (Sum.elim (fun (t : Int × (List Int)) => Sum.inl (t.1, t.2)) (fun (t : (List Int)) => Sum.inr t)) (by
  rintro (t | t)
  · kernel_rfl
  · kernel_rfl)) (0, x14392))

theorem laws_toIntS_n5_l (x14389 : List Int) (x14392 : List Int) : Link laws_toIntS_ctx LL (Code.snd (Code.fst (Code.snd (Code.snd (bodyOf Tryd.f24))))) (Ann.snd (Ann.fst (Ann.snd (Ann.snd laws_toIntS_an)))) (⟨mkE 22 0 [(0, .dat (.list (.int .i64)) x14389), (3, .slc 0), (4, .dat (.int .i64) 0)], [some (.seq (.int .i64) x14392)]⟩ : St) (laws_toIntS_n5 x14389 x14392) (fun (t : (List Int)) => (Exit.normal, (⟨mkE 22 0 [(3, .slc 0)], [some (.seq (.int .i64) t)]⟩ : St))) := by
  unfold laws_toIntS_n5
  exact Link.cast (by kernel_rfl) (by kernel_rfl) (link_block (id := 0) (laws_toIntS_n4_l x14389 x14392) (fun (t : (List Int)) => t) (by
  rintro t K h
  · exact Eq.mp (by kernel_rfl) h))

theorem laws_toIntS_n6_l (x14389 : List Int) (x14392 : List Int) : Link laws_toIntS_ctx LL (Code.fst (Code.snd (Code.snd (bodyOf Tryd.f24)))) (Ann.fst (Ann.snd (Ann.snd laws_toIntS_an))) (⟨mkE 22 0 [(0, .dat (.list (.int .i64)) x14389), (3, .slc 0)], [some (.seq (.int .i64) x14392)]⟩ : St) (laws_toIntS_n6 x14389 x14392) (fun (t : (List Int)) => (Exit.normal, (⟨mkE 22 0 [(3, .slc 0)], [some (.seq (.int .i64) t)]⟩ : St))) := by
  unfold laws_toIntS_n6
  exact Link.cast (by kernel_rfl) (by kernel_rfl) (link_seq (b := (Code.snd (Code.fst (Code.snd (Code.snd (bodyOf Tryd.f24)))))) (y := (Ann.snd (Ann.fst (Ann.snd (Ann.snd laws_toIntS_an))))) (laws_toIntS_n2_l x14389 x14392) (fun (t : Unit) => (laws_toIntS_n5_l x14389 x14392)))

theorem laws_toIntS_n7_l (x14407 : List Int) : Link laws_toIntS_ctx LL (Code.snd (Code.snd (Code.snd (bodyOf Tryd.f24)))) (Ann.snd (Ann.snd (Ann.snd laws_toIntS_an))) (⟨mkE 22 0 [(3, .slc 0)], [some (.seq (.int .i64) x14407)]⟩ : St) (laws_toIntS_n7 x14407) (fun (t : (List Int)) => (Exit.ret, (⟨mkE 22 0 [(2, .slc 0)], [some (.seq (.int .i64) t)]⟩ : St))) := by
  refine Link.of fun K h => ?_
  simp only [laws_toIntS_n7, wpO_bind, wpO_cond, wpO_map, wpO_some] at h
  exact Awp.of (by kernel_rfl) h

theorem laws_toIntS_n8_l (x14389 : List Int) (x14392 : List Int) : Link laws_toIntS_ctx LL (Code.snd (Code.snd (bodyOf Tryd.f24))) (Ann.snd (Ann.snd laws_toIntS_an)) (⟨mkE 22 0 [(0, .dat (.list (.int .i64)) x14389), (3, .slc 0)], [some (.seq (.int .i64) x14392)]⟩ : St) (laws_toIntS_n8 x14389 x14392) (fun (t : (List Int)) => (Exit.ret, (⟨mkE 22 0 [(2, .slc 0)], [some (.seq (.int .i64) t)]⟩ : St))) := by
  unfold laws_toIntS_n8
  exact Link.cast (by kernel_rfl) (by kernel_rfl) (link_seq (b := (Code.snd (Code.snd (Code.snd (bodyOf Tryd.f24))))) (y := (Ann.snd (Ann.snd (Ann.snd laws_toIntS_an)))) (laws_toIntS_n6_l x14389 x14392) (fun (t : (List Int)) => (laws_toIntS_n7_l t)))

theorem laws_toIntS_n9_l (x14389 : List Int) : Link laws_toIntS_ctx LL (bodyOf Tryd.f24) laws_toIntS_an (⟨mkE 22 0 [(0, .dat (.list (.int .i64)) x14389)], []⟩ : St) (laws_toIntS_n9 x14389) (fun (t : (List Int)) => (Exit.ret, (⟨mkE 22 0 [(2, .slc 0)], [some (.seq (.int .i64) t)]⟩ : St))) := by
  unfold laws_toIntS_n9
  exact Link.cast (by kernel_rfl) (by kernel_rfl) (link_group (c := (Code.fst (Code.snd (bodyOf Tryd.f24)))) (a := (Ann.fst (Ann.snd laws_toIntS_an))) [(Code.fst (bodyOf Tryd.f24))] [(Ann.fst laws_toIntS_an)] rfl (link_seq (b := (Code.snd (Code.snd (bodyOf Tryd.f24)))) (y := (Ann.snd (Ann.snd laws_toIntS_an))) (laws_toIntS_n1_l x14389) (fun (t : (List Int)) => (laws_toIntS_n8_l x14389 t))))

theorem laws_toIntS_e (x14389 : List Int) {r : AV} {H' : Heap} (h : (Ans.mk _ (laws_toIntS x14389) (fun (t : (List Int)) => (.slc 0, [some (.seq (.int .i64) t)])) [] none).run = some (r, H')) : Awp laws_toIntS_ctx LL (bodyOf Tryd.f24) laws_toIntS_an (⟨mkE 22 0 [(0, .dat (.list (.int .i64)) x14389)], []⟩ : St) (Ret (tlook tys) Tryd.f24.results.toList r H') :=
  ret_of' (laws_toIntS_n9_l x14389) (by unfold laws_toIntS; kernel_rfl) (by
  intro t
  exact ret_mk [.slc 0] (by kernel_rfl) (by kernel_rfl) (by kernel_rfl) (by kernel_rfl)) h

def F_laws_toIntS : Fun := fun avs H =>
  match avs, H with
  | [.dat (.list (.int .i64)) x14389], [] => ⟨_, laws_toIntS x14389, fun (t : (List Int)) => (.slc 0, [some (.seq (.int .i64) t)]), [], none⟩
  | _, _ => Ans.no

theorem laws_toIntS_sound : Sound Tryd.prog 24 F_laws_toIntS := by
  refine fn_sound' (C := laws_toIntS_ctx) (c := bodyOf Tryd.f24) (cok_of tys_ok (by simp) (by simp) (by kernel_rfl)) Tryd.func24 (by kernel_rfl) LL laws_toIntS_an ?_
  intro avs H r H' h
  unfold F_laws_toIntS at h
  split at h
  · refine Awp.cast ?_ ?_ ?_ (laws_toIntS_e _ h) <;> kernel_rfl
  · simp [Ans.no, Ans.run] at h


/-! loop.example/headtrees/laws.eqIntS -/

def laws_eqIntS_an : Ann := (.seq (.leaf [0, 1]) (.seq (.seq (.leaf [0, 1, 10]) (.cond (.seq (.leaf [4]) (.leaf [4])) (.leaf [0, 1]))) (.seq (.seq (.leaf [0, 1, 5]) (.block (.loop (.seq (.seq (.leaf [0, 1, 5, 14]) (.cond (.leaf [0, 1, 5]) (.leaf []))) (.seq (.block (.seq (.draw [] [0, 1, 2, 3, 4, 5, 6, 7, 8] [] [0, 1, 5, 25]) (.cond (.seq (.leaf [4]) (.leaf [4])) (.leaf [0, 1, 5])))) (.leaf [0, 1, 5])))))) (.seq (.leaf [4]) (.leaf [4])))))

noncomputable def laws_eqIntS_ctx : Ctx := ⟨tlook tys, olook [], ioF, 0, false, []⟩

theorem laws_eqIntS_n1_l (x14467 : List Int) (x14468 : List Int) : Link laws_eqIntS_ctx LL (Code.seq (Code.fst (bodyOf Tryd.f25)) (Code.fst (Code.snd (bodyOf Tryd.f25)))) (Ann.seq (Ann.fst laws_eqIntS_an) (Ann.fst (Ann.snd laws_eqIntS_an))) (⟨mkE 26 0 [(0, .dat (.list (.int .i64)) x14467), (1, .dat (.list (.int .i64)) x14468)], []⟩ : St) (laws_eqIntS_n1 x14467 x14468) (Sum.elim (fun (t : Unit) => (Exit.normal, (⟨mkE 26 0 [(0, .dat (.list (.int .i64)) x14467), (1, .dat (.list (.int .i64)) x14468)], []⟩ : St))) (fun (t : Bool) => (Exit.ret, (⟨mkE 26 0 [(4, .dat .bool t)], []⟩ : St)))) := by
  refine Link.of fun K h => ?_
  simp only [laws_eqIntS_n1, wpO_bind, wpO_cond, wpO_map, wpO_some] at h
  exact Awp.of (by kernel_rfl) h

theorem laws_eqIntS_n2_l (x14467 : List Int) (x14468 : List Int) : Link laws_eqIntS_ctx LL (Code.fst (Code.fst (Code.snd (Code.snd (bodyOf Tryd.f25))))) (Ann.fst (Ann.fst (Ann.snd (Ann.snd laws_eqIntS_an)))) (⟨mkE 26 0 [(0, .dat (.list (.int .i64)) x14467), (1, .dat (.list (.int .i64)) x14468)], []⟩ : St) (laws_eqIntS_n2) (fun (t : Unit) => (Exit.normal, (⟨mkE 26 0 [(0, .dat (.list (.int .i64)) x14467), (1, .dat (.list (.int .i64)) x14468), (5, .dat (.int .i64) 0)], []⟩ : St))) := by
  refine Link.of fun K h => ?_
  simp only [laws_eqIntS_n2, wpO_bind, wpO_cond, wpO_map, wpO_some] at h
  exact Awp.of (by kernel_rfl) h

theorem laws_eqIntS_n3_l (x14467 : List Int) (x14468 : List Int) (x14485 : Int) : Link laws_eqIntS_ctx LL (Code.fst (Code.fst (Code.snd (Code.fst (Code.snd (Code.snd (bodyOf Tryd.f25))))))) (Ann.fst (Ann.fst (Ann.snd (Ann.fst (Ann.snd (Ann.snd laws_eqIntS_an)))))) (⟨mkE 26 0 [(0, .dat (.list (.int .i64)) x14467), (1, .dat (.list (.int .i64)) x14468), (5, .dat (.int .i64) x14485)], []⟩ : St) (laws_eqIntS_n3 x14467 x14468 x14485) (Sum.elim (fun (t : Int) => (Exit.normal, (⟨mkE 26 0 [(0, .dat (.list (.int .i64)) x14467), (1, .dat (.list (.int .i64)) x14468), (5, .dat (.int .i64) t)], []⟩ : St))) (Sum.elim (fun (t : Bool) => (Exit.ret, (⟨mkE 26 0 [(4, .dat .bool t)], []⟩ : St))) (fun (t : Unit) => ((Exit.exit 0), (⟨mkE 26 0 [], []⟩ : St))))) := by
  refine Link.of fun K h => ?_
  simp only [laws_eqIntS_n3, wpO_bind, wpO_cond, wpO_map, wpO_some] at h
  exact Awp.of (by kernel_rfl) h

theorem laws_eqIntS_n4_l (x14467 : List Int) (x14468 : List Int) : Link laws_eqIntS_ctx LL (Code.fst (Code.snd (Code.fst (Code.snd (Code.snd (bodyOf Tryd.f25)))))) (Ann.fst (Ann.snd (Ann.fst (Ann.snd (Ann.snd laws_eqIntS_an))))) (⟨mkE 26 0 [(0, .dat (.list (.int .i64)) x14467), (1, .dat (.list (.int .i64)) x14468), (5, .dat (.int .i64) 0)], []⟩ : St) (laws_eqIntS_n4 x14467 x14468) (Sum.elim (fun (t : Bool) => (Exit.ret, (⟨mkE 26 0 [(4, .dat .bool t)], []⟩ : St))) (fun (t : Unit) => ((Exit.exit 0), (⟨mkE 26 0 [], []⟩ : St)))) := by
  unfold laws_eqIntS_n4
  exact Link.cast (by kernel_rfl) (by kernel_rfl) (link_loop (mk := fun (s : Int) => (⟨mkE 26 0 [(0, .dat (.list (.int .i64)) x14467), (1, .dat (.list (.int .i64)) x14468), (5, .dat (.int .i64) s)], []⟩ : St)) (fin := (Sum.elim (fun (t : Bool) => (Exit.ret, (⟨mkE 26 0 [(4, .dat .bool t)], []⟩ : St))) (fun (t : Unit) => ((Exit.exit 0), (⟨mkE 26 0 [], []⟩ : St))))) (by
  rintro (t | t) f K h
  · exact h
  · exact h) (fun s => link_map (laws_eqIntS_n3_l x14467 x14468 s) (Sum.elim (fun (t : Int) => Sum.inl t) (Sum.elim (fun (t : Bool) => Sum.inr (Sum.inl t)) (fun (t : Unit) => Sum.inr (Sum.inr t)))) (by
  rintro (t | t | t)
  · kernel_rfl
  · kernel_rfl
  · kernel_rfl)) 0)

theorem laws_eqIntS_n5_l (x14467 : List Int) (x14468 : List Int) : Link laws_eqIntS_ctx LL (Code.snd (Code.fst (Code.snd (Code.snd (bodyOf Tryd.f25))))) (Ann.snd (Ann.fst (Ann.snd (Ann.snd laws_eqIntS_an)))) (⟨mkE 26 0 [(0, .dat (.list (.int .i64)) x14467), (1, .dat (.list (.int .i64)) x14468), (5, .dat (.int .i64) 0)], []⟩ : St) (laws_eqIntS_n5 x14467 x14468) (Sum.elim (fun (t : Unit) => (Exit.normal, (⟨mkE 26 0 [], []⟩ : St))) (fun (t : Bool) => (Exit.ret, (⟨mkE 26 0 [(4, .dat .bool t)], []⟩ : St)))) := by
  unfold laws_eqIntS_n5
  exact Link.cast (by kernel_rfl) (by kernel_rfl) (link_block (id := 0) (laws_eqIntS_n4_l x14467 x14468) (Sum.elim (fun (t : Bool) => (Sum.inr t)) (fun (t : Unit) => (Sum.inl ()))) (by
  rintro (t | t) K h
  · exact Eq.mp (by kernel_rfl) h
  · exact Eq.mp (by kernel_rfl) h))

theorem laws_eqIntS_n6_l (x14467 : List Int) (x14468 : List Int) : Link laws_eqIntS_ctx LL (Code.fst (Code.snd (Code.snd (bodyOf Tryd.f25)))) (Ann.fst (Ann.snd (Ann.snd laws_eqIntS_an))) (⟨mkE 26 0 [(0, .dat (.list (.int .i64)) x14467), (1, .dat (.list (.int .i64)) x14468)], []⟩ : St) (laws_eqIntS_n6 x14467 x14468) (Sum.elim (fun (t : Unit) => (Exit.normal, (⟨mkE 26 0 [], []⟩ : St))) (fun (t : Bool) => (Exit.ret, (⟨mkE 26 0 [(4, .dat .bool t)], []⟩ : St)))) := by
  unfold laws_eqIntS_n6
  exact Link.cast (by kernel_rfl) (by kernel_rfl) (link_seq (b := (Code.snd (Code.fst (Code.snd (Code.snd (bodyOf Tryd.f25)))))) (y := (Ann.snd (Ann.fst (Ann.snd (Ann.snd laws_eqIntS_an))))) (laws_eqIntS_n2_l x14467 x14468) (fun (t : Unit) => (laws_eqIntS_n5_l x14467 x14468)))

theorem laws_eqIntS_n7_l : Link laws_eqIntS_ctx LL (Code.snd (Code.snd (Code.snd (bodyOf Tryd.f25)))) (Ann.snd (Ann.snd (Ann.snd laws_eqIntS_an))) (⟨mkE 26 0 [], []⟩ : St) (laws_eqIntS_n7) (fun (t : Bool) => (Exit.ret, (⟨mkE 26 0 [(4, .dat .bool t)], []⟩ : St))) := by
  refine Link.of fun K h => ?_
  simp only [laws_eqIntS_n7, wpO_bind, wpO_cond, wpO_map, wpO_some] at h
  exact Awp.of (by kernel_rfl) h

theorem laws_eqIntS_n8_l (x14467 : List Int) (x14468 : List Int) : Link laws_eqIntS_ctx LL (Code.snd (Code.snd (bodyOf Tryd.f25))) (Ann.snd (Ann.snd laws_eqIntS_an)) (⟨mkE 26 0 [(0, .dat (.list (.int .i64)) x14467), (1, .dat (.list (.int .i64)) x14468)], []⟩ : St) (laws_eqIntS_n8 x14467 x14468) (fun (t : Bool) => (Exit.ret, (⟨mkE 26 0 [(4, .dat .bool t)], []⟩ : St))) := by
  unfold laws_eqIntS_n8
  exact Link.cast (by kernel_rfl) (by kernel_rfl) (link_seq2 (b := (Code.snd (Code.snd (Code.snd (bodyOf Tryd.f25))))) (y := (Ann.snd (Ann.snd (Ann.snd laws_eqIntS_an)))) (laws_eqIntS_n6_l x14467 x14468) (fun (t : Unit) => (laws_eqIntS_n7_l)) (fun (t : Bool) => t) (by
  rintro t
  · kernel_rfl) (by
  rintro t f K h
  · exact h))

theorem laws_eqIntS_n9_l (x14467 : List Int) (x14468 : List Int) : Link laws_eqIntS_ctx LL (bodyOf Tryd.f25) laws_eqIntS_an (⟨mkE 26 0 [(0, .dat (.list (.int .i64)) x14467), (1, .dat (.list (.int .i64)) x14468)], []⟩ : St) (laws_eqIntS_n9 x14467 x14468) (fun (t : Bool) => (Exit.ret, (⟨mkE 26 0 [(4, .dat .bool t)], []⟩ : St))) := by
  unfold laws_eqIntS_n9
  exact Link.cast (by kernel_rfl) (by kernel_rfl) (link_group (c := (Code.fst (Code.snd (bodyOf Tryd.f25)))) (a := (Ann.fst (Ann.snd laws_eqIntS_an))) [(Code.fst (bodyOf Tryd.f25))] [(Ann.fst laws_eqIntS_an)] rfl (link_seq2 (b := (Code.snd (Code.snd (bodyOf Tryd.f25)))) (y := (Ann.snd (Ann.snd laws_eqIntS_an))) (laws_eqIntS_n1_l x14467 x14468) (fun (t : Unit) => (laws_eqIntS_n8_l x14467 x14468)) (fun (t : Bool) => t) (by
  rintro t
  · kernel_rfl) (by
  rintro t f K h
  · exact h)))

theorem laws_eqIntS_e (x14467 : List Int) (x14468 : List Int) {r : AV} {H' : Heap} (h : (Ans.mk _ (laws_eqIntS x14467 x14468) (fun (t : Bool) => (.dat .bool t, [])) [] none).run = some (r, H')) : Awp laws_eqIntS_ctx LL (bodyOf Tryd.f25) laws_eqIntS_an (⟨mkE 26 0 [(0, .dat (.list (.int .i64)) x14467), (1, .dat (.list (.int .i64)) x14468)], []⟩ : St) (Ret (tlook tys) Tryd.f25.results.toList r H') :=
  ret_of' (laws_eqIntS_n9_l x14467 x14468) (by unfold laws_eqIntS; kernel_rfl) (by
  intro t
  exact ret_mk [.dat .bool t] (by kernel_rfl) (by kernel_rfl) (by kernel_rfl) (by kernel_rfl)) h

def F_laws_eqIntS : Fun := fun avs H =>
  match avs, H with
  | [.dat (.list (.int .i64)) x14467, .dat (.list (.int .i64)) x14468], [] => ⟨_, laws_eqIntS x14467 x14468, fun (t : Bool) => (.dat .bool t, []), [], none⟩
  | _, _ => Ans.no

theorem laws_eqIntS_sound : Sound Tryd.prog 25 F_laws_eqIntS := by
  refine fn_sound' (C := laws_eqIntS_ctx) (c := bodyOf Tryd.f25) (cok_of tys_ok (by simp) (by simp) (by kernel_rfl)) Tryd.func25 (by kernel_rfl) LL laws_eqIntS_an ?_
  intro avs H r H' h
  unfold F_laws_eqIntS at h
  split at h
  · refine Awp.cast ?_ ?_ ?_ (laws_eqIntS_e _ _ h) <;> kernel_rfl
  · simp [Ans.no, Ans.run] at h


/-! loop.example/headtrees/laws.FnExactEagerFor -/

def laws_FnExactEagerFor_an : Ann := (.seq (.leaf [0]) (.seq (.seq (.leaf [0, 10]) (.cond (.seq (.leaf [2]) (.leaf [2])) (.leaf [0]))) (.seq (.leaf [0, 3, 4]) (.seq (.leaf [0, 3, 4, 5]) (.seq (.leaf [0, 3, 4, 5, 6, 7]) (.seq (.seq (.leaf [0, 5, 31]) (.cond (.seq (.leaf [2]) (.leaf [2])) (.leaf [0, 5]))) (.seq (.seq (.leaf [36]) (.cond (.seq (.leaf [2]) (.leaf [2])) (.leaf []))) (.seq (.leaf [2]) (.leaf [2])))))))))

noncomputable def laws_FnExactEagerFor_ctx : Ctx := ⟨tlook tys, olook [(24, F_laws_toIntS), (23, F_spec_EagerFor), (21, F_impl_EagerFor), (25, F_laws_eqIntS)], ioF, 0, false, []⟩

theorem laws_FnExactEagerFor_n1_l (x14534 : List Int) : Link laws_FnExactEagerFor_ctx LL (bodyOf Tryd.f8) laws_FnExactEagerFor_an (⟨mkE 37 0 [(0, .dat (.list (.int .i64)) x14534)], []⟩ : St) (laws_FnExactEagerFor_n1 x14534) (fun (t : Bool) => (Exit.ret, (⟨mkE 37 0 [(2, .dat .bool t)], []⟩ : St))) := by
  refine Link.of fun K h => ?_
  simp only [laws_FnExactEagerFor_n1, wpO_bind, wpO_cond, wpO_map, wpO_some] at h
  exact Awp.of (by kernel_rfl) h

theorem laws_FnExactEagerFor_e (x14534 : List Int) {r : AV} {H' : Heap} (h : (Ans.mk _ (laws_FnExactEagerFor x14534) (fun (t : Bool) => (.dat .bool t, [])) [] none).run = some (r, H')) : Awp laws_FnExactEagerFor_ctx LL (bodyOf Tryd.f8) laws_FnExactEagerFor_an (⟨mkE 37 0 [(0, .dat (.list (.int .i64)) x14534)], []⟩ : St) (Ret (tlook tys) Tryd.f8.results.toList r H') :=
  ret_of' (laws_FnExactEagerFor_n1_l x14534) (by unfold laws_FnExactEagerFor; kernel_rfl) (by
  intro t
  exact ret_mk [.dat .bool t] (by kernel_rfl) (by kernel_rfl) (by kernel_rfl) (by kernel_rfl)) h

def F_laws_FnExactEagerFor : Fun := fun avs H =>
  match avs, H with
  | [.dat (.list (.int .i64)) x14534], [] => ⟨_, laws_FnExactEagerFor x14534, fun (t : Bool) => (.dat .bool t, []), [], none⟩
  | _, _ => Ans.no

theorem laws_FnExactEagerFor_sound : Sound Tryd.prog 8 F_laws_FnExactEagerFor := by
  refine fn_sound' (C := laws_FnExactEagerFor_ctx) (c := bodyOf Tryd.f8) (cok_of tys_ok (List.forall_mem_cons.2 ⟨laws_toIntS_sound, List.forall_mem_cons.2 ⟨spec_EagerFor_sound, List.forall_mem_cons.2 ⟨impl_EagerFor_sound, List.forall_mem_cons.2 ⟨laws_eqIntS_sound, by simp⟩⟩⟩⟩) (List.forall_mem_cons.2 ⟨Tryd.call24, List.forall_mem_cons.2 ⟨Tryd.call23, List.forall_mem_cons.2 ⟨Tryd.call21, List.forall_mem_cons.2 ⟨Tryd.call25, by simp⟩⟩⟩⟩) (by kernel_rfl)) Tryd.func8 (by kernel_rfl) LL laws_FnExactEagerFor_an ?_
  intro avs H r H' h
  unfold F_laws_FnExactEagerFor at h
  split at h
  · refine Awp.cast ?_ ?_ ?_ (laws_FnExactEagerFor_e _ h) <;> kernel_rfl
  · simp [Ans.no, Ans.run] at h

end Go.Rv
