/-
  The checked code answers as the plain functions do; written by program. Conditions: none.
-/
import Derived.Test.YtmmfabigcffdfaaGLa
set_option linter.unusedVariables false
set_option linter.unusedSimpArgs false
set_option maxRecDepth 100000
namespace Go.Rv
open Go.Proofs
theorem laws_markIntS_n9_l (x3419 : Int) (x3420 : List Int) : Link laws_markIntS_ctx LL (bodyOf Try.f13) laws_markIntS_an (⟨mkE 19 0 [(0, .slc 0), (1, .dat (.int .i64) x3419)], [some (.seq (.int .i64) x3420)]⟩ : St) (laws_markIntS_n9 x3419 x3420) (fun (t : Int × (List Int)) => (Exit.ret, (⟨mkE 19 0 [(4, .dat (.int .i64) t.1)], [some (.seq (.int .i64) t.2)]⟩ : St))) := by
  unfold laws_markIntS_n9
  exact Link.cast (by kernel_rfl) (by kernel_rfl) (link_seq (b := (Code.snd (bodyOf Try.f13))) (y := (Ann.snd laws_markIntS_an)) (laws_markIntS_n1_l x3419 x3420) (fun (t : Unit) => (laws_markIntS_n8_l x3419 x3420)))

theorem laws_markIntS_e (x3419 : Int) (x3420 : List Int) {r : AV} {H' : Heap} (h : (Ans.mk _ (laws_markIntS x3419 x3420) (fun (t : Int × (List Int)) => (.dat (.int .i64) t.1, [some (.seq (.int .i64) t.2)])) [] none).run = some (r, H')) : Awp laws_markIntS_ctx LL (bodyOf Try.f13) laws_markIntS_an (⟨mkE 19 0 [(0, .slc 0), (1, .dat (.int .i64) x3419)], [some (.seq (.int .i64) x3420)]⟩ : St) (Ret (tlook tys) Try.f13.results.toList r H') :=
  ret_of' (laws_markIntS_n9_l x3419 x3420) (by unfold laws_markIntS; kernel_rfl) (by
  intro t
  exact ret_mk [.dat (.int .i64) t.1] (by kernel_rfl) (by kernel_rfl) (by kernel_rfl) (by kernel_rfl)) h

def F_laws_markIntS : Fun := fun avs H =>
  match avs, H with
  | [.slc 0, .dat (.int .i64) x3419], [some (.seq (.int .i64) x3420)] => ⟨_, laws_markIntS x3419 x3420, fun (t : Int × (List Int)) => (.dat (.int .i64) t.1, [some (.seq (.int .i64) t.2)]), [], none⟩
  | _, _ => Ans.no

theorem laws_markIntS_sound : Sound Try.prog 13 F_laws_markIntS := by
  refine fn_sound' (C := laws_markIntS_ctx) (c := bodyOf Try.f13) (cok_of tys_ok (by simp) (by simp) (by kernel_rfl)) Try.func13 (by kernel_rfl) LL laws_markIntS_an ?_
  intro avs H r H' h
  unfold F_laws_markIntS at h
  split at h
  · refine Awp.cast ?_ ?_ ?_ (laws_markIntS_e _ _ h) <;> kernel_rfl
  · simp [Ans.no, Ans.run] at h

/-! loop.example/headtrees/laws.heldIntS -/

def laws_heldIntS_an : Ann := (.seq (.leaf [0, 1]) (.seq (.seq (.leaf [0, 1, 5]) (.block (.loop (.seq (.seq (.leaf [0, 1, 5, 9]) (.cond (.leaf [0, 1, 5]) (.leaf [1]))) (.seq (.block (.seq (.seq (.leaf [0, 1, 5, 17]) (.cond (.seq (.leaf [4]) (.leaf [4])) (.leaf [0, 1, 5]))) (.leaf [0, 1, 5]))) (.leaf [0, 1, 5])))))) (.seq (.leaf [4]) (.leaf [4]))))

noncomputable def laws_heldIntS_ctx : Ctx := ⟨tlook tys, olook [], ioF, 0, false, []⟩

theorem laws_heldIntS_n1_l (x3481 : List Int) (x3482 : Int) : Link laws_heldIntS_ctx LL (Code.fst (bodyOf Try.f14)) (Ann.fst laws_heldIntS_an) (⟨mkE 21 0 [(0, .dat (.list (.int .i64)) x3481), (1, .dat (.int .i64) x3482)], []⟩ : St) (laws_heldIntS_n1) (fun (t : Unit) => (Exit.normal, (⟨mkE 21 0 [(0, .dat (.list (.int .i64)) x3481), (1, .dat (.int .i64) x3482)], []⟩ : St))) := by
  refine Link.of fun K h => ?_
  simp only [laws_heldIntS_n1, wpO_bind, wpO_cond, wpO_map, wpO_some] at h
  exact Awp.of (by kernel_rfl) h

theorem laws_heldIntS_n2_l (x3481 : List Int) (x3482 : Int) : Link laws_heldIntS_ctx LL (Code.fst (Code.fst (Code.snd (bodyOf Try.f14)))) (Ann.fst (Ann.fst (Ann.snd laws_heldIntS_an))) (⟨mkE 21 0 [(0, .dat (.list (.int .i64)) x3481), (1, .dat (.int .i64) x3482)], []⟩ : St) (laws_heldIntS_n2) (fun (t : Unit) => (Exit.normal, (⟨mkE 21 0 [(0, .dat (.list (.int .i64)) x3481), (1, .dat (.int .i64) x3482), (5, .dat (.int .i64) 0)], []⟩ : St))) := by
  refine Link.of fun K h => ?_
  simp only [laws_heldIntS_n2, wpO_bind, wpO_cond, wpO_map, wpO_some] at h
  exact Awp.of (by kernel_rfl) h

theorem laws_heldIntS_n3_l (x3481 : List Int) (x3496 : Int) (x3497 : Int) : Link laws_heldIntS_ctx LL (Code.fst (Code.fst (Code.snd (Code.fst (Code.snd (bodyOf Try.f14)))))) (Ann.fst (Ann.fst (Ann.snd (Ann.fst (Ann.snd laws_heldIntS_an))))) (⟨mkE 21 0 [(0, .dat (.list (.int .i64)) x3481), (1, .dat (.int .i64) x3496), (5, .dat (.int .i64) x3497)], []⟩ : St) (laws_heldIntS_n3 x3481 x3496 x3497) (Sum.elim (fun (t : Int × Int) => (Exit.normal, (⟨mkE 21 0 [(0, .dat (.list (.int .i64)) x3481), (1, .dat (.int .i64) t.1), (5, .dat (.int .i64) t.2)], []⟩ : St))) (Sum.elim (fun (t : Int) => (Exit.ret, (⟨mkE 21 0 [(4, .dat (.int .i64) t)], []⟩ : St))) (fun (t : Int) => ((Exit.exit 0), (⟨mkE 21 0 [(1, .dat (.int .i64) t)], []⟩ : St))))) := by
  refine Link.of fun K h => ?_
  simp only [laws_heldIntS_n3, wpO_bind, wpO_cond, wpO_map, wpO_some] at h
  exact Awp.of (by kernel_rfl) h

theorem laws_heldIntS_n4_l (x3481 : List Int) (x3482 : Int) : Link laws_heldIntS_ctx LL (Code.fst (Code.snd (Code.fst (Code.snd (bodyOf Try.f14))))) (Ann.fst (Ann.snd (Ann.fst (Ann.snd laws_heldIntS_an)))) (⟨mkE 21 0 [(0, .dat (.list (.int .i64)) x3481), (1, .dat (.int .i64) x3482), (5, .dat (.int .i64) 0)], []⟩ : St) (laws_heldIntS_n4 x3481 x3482) (Sum.elim (fun (t : Int) => (Exit.ret, (⟨mkE 21 0 [(4, .dat (.int .i64) t)], []⟩ : St))) (fun (t : Int) => ((Exit.exit 0), (⟨mkE 21 0 [(1, .dat (.int .i64) t)], []⟩ : St)))) := by
  unfold laws_heldIntS_n4
  exact Link.cast (by kernel_rfl) (by kernel_rfl) (link_loop (mk := fun (s : Int × Int) => (⟨mkE 21 0 [(0, .dat (.list (.int .i64)) x3481), (1, .dat (.int .i64) s.1), (5, .dat (.int .i64) s.2)], []⟩ : St)) (fin := (Sum.elim (fun (t : Int) => (Exit.ret, (⟨mkE 21 0 [(4, .dat (.int .i64) t)], []⟩ : St))) (fun (t : Int) => ((Exit.exit 0), (⟨mkE 21 0 [(1, .dat (.int .i64) t)], []⟩ : St))))) (by
  rintro (t | t) f K h
  · exact h
  · exact h) (fun s => link_map (laws_heldIntS_n3_l x3481 s.1 s.2) (Sum.elim (fun (t : Int × Int) => Sum.inl (t.1, t.2)) (Sum.elim (fun (t : Int) => Sum.inr (Sum.inl t)) (fun (t : Int) => Sum.inr (Sum.inr t)))) (by
  rintro (t | t | t)
  · kernel_rfl
  · kernel_rfl
  · kernel_rfl)) (x3482, 0))

theorem laws_heldIntS_n5_l (x3481 : List Int) (x3482 : Int) : Link laws_heldIntS_ctx LL (Code.snd (Code.fst (Code.snd (bodyOf Try.f14)))) (Ann.snd (Ann.fst (Ann.snd laws_heldIntS_an))) (⟨mkE 21 0 [(0, .dat (.list (.int .i64)) x3481), (1, .dat (.int .i64) x3482), (5, .dat (.int .i64) 0)], []⟩ : St) (laws_heldIntS_n5 x3481 x3482) (Sum.elim (fun (t : Int) => (Exit.normal, (⟨mkE 21 0 [(1, .dat (.int .i64) t)], []⟩ : St))) (fun (t : Int) => (Exit.ret, (⟨mkE 21 0 [(4, .dat (.int .i64) t)], []⟩ : St)))) := by
  unfold laws_heldIntS_n5
  exact Link.cast (by kernel_rfl) (by kernel_rfl) (link_block (id := 0) (laws_heldIntS_n4_l x3481 x3482) (Sum.elim (fun (t : Int) => (Sum.inr t)) (fun (t : Int) => (Sum.inl t))) (by
  rintro (t | t) K h
  · exact Eq.mp (by kernel_rfl) h
  · exact Eq.mp (by kernel_rfl) h))

theorem laws_heldIntS_n6_l (x3481 : List Int) (x3482 : Int) : Link laws_heldIntS_ctx LL (Code.fst (Code.snd (bodyOf Try.f14))) (Ann.fst (Ann.snd laws_heldIntS_an)) (⟨mkE 21 0 [(0, .dat (.list (.int .i64)) x3481), (1, .dat (.int .i64) x3482)], []⟩ : St) (laws_heldIntS_n6 x3481 x3482) (Sum.elim (fun (t : Int) => (Exit.normal, (⟨mkE 21 0 [(1, .dat (.int .i64) t)], []⟩ : St))) (fun (t : Int) => (Exit.ret, (⟨mkE 21 0 [(4, .dat (.int .i64) t)], []⟩ : St)))) := by
  unfold laws_heldIntS_n6
  exact Link.cast (by kernel_rfl) (by kernel_rfl) (link_seq (b := (Code.snd (Code.fst (Code.snd (bodyOf Try.f14))))) (y := (Ann.snd (Ann.fst (Ann.snd laws_heldIntS_an)))) (laws_heldIntS_n2_l x3481 x3482) (fun (t : Unit) => (laws_heldIntS_n5_l x3481 x3482)))

theorem laws_heldIntS_n7_l (x3496 : Int) : Link laws_heldIntS_ctx LL (Code.snd (Code.snd (bodyOf Try.f14))) (Ann.snd (Ann.snd laws_heldIntS_an)) (⟨mkE 21 0 [(1, .dat (.int .i64) x3496)], []⟩ : St) (laws_heldIntS_n7 x3496) (fun (t : Int) => (Exit.ret, (⟨mkE 21 0 [(4, .dat (.int .i64) t)], []⟩ : St))) := by
  refine Link.of fun K h => ?_
  simp only [laws_heldIntS_n7, wpO_bind, wpO_cond, wpO_map, wpO_some] at h
  exact Awp.of (by kernel_rfl) h

theorem laws_heldIntS_n8_l (x3481 : List Int) (x3482 : Int) : Link laws_heldIntS_ctx LL (Code.snd (bodyOf Try.f14)) (Ann.snd laws_heldIntS_an) (⟨mkE 21 0 [(0, .dat (.list (.int .i64)) x3481), (1, .dat (.int .i64) x3482)], []⟩ : St) (laws_heldIntS_n8 x3481 x3482) (fun (t : Int) => (Exit.ret, (⟨mkE 21 0 [(4, .dat (.int .i64) t)], []⟩ : St))) := by
  unfold laws_heldIntS_n8
  exact Link.cast (by kernel_rfl) (by kernel_rfl) (link_seq2 (b := (Code.snd (Code.snd (bodyOf Try.f14)))) (y := (Ann.snd (Ann.snd laws_heldIntS_an))) (laws_heldIntS_n6_l x3481 x3482) (fun (t : Int) => (laws_heldIntS_n7_l t)) (fun (t : Int) => t) (by
  rintro t
  · kernel_rfl) (by
  rintro t f K h
  · exact h))

theorem laws_heldIntS_n9_l (x3481 : List Int) (x3482 : Int) : Link laws_heldIntS_ctx LL (bodyOf Try.f14) laws_heldIntS_an (⟨mkE 21 0 [(0, .dat (.list (.int .i64)) x3481), (1, .dat (.int .i64) x3482)], []⟩ : St) (laws_heldIntS_n9 x3481 x3482) (fun (t : Int) => (Exit.ret, (⟨mkE 21 0 [(4, .dat (.int .i64) t)], []⟩ : St))) := by
  unfold laws_heldIntS_n9
  exact Link.cast (by kernel_rfl) (by kernel_rfl) (link_seq (b := (Code.snd (bodyOf Try.f14))) (y := (Ann.snd laws_heldIntS_an)) (laws_heldIntS_n1_l x3481 x3482) (fun (t : Unit) => (laws_heldIntS_n8_l x3481 x3482)))

theorem laws_heldIntS_e (x3481 : List Int) (x3482 : Int) {r : AV} {H' : Heap} (h : (Ans.mk _ (laws_heldIntS x3481 x3482) (fun (t : Int) => (.dat (.int .i64) t, [])) [] none).run = some (r, H')) : Awp laws_heldIntS_ctx LL (bodyOf Try.f14) laws_heldIntS_an (⟨mkE 21 0 [(0, .dat (.list (.int .i64)) x3481), (1, .dat (.int .i64) x3482)], []⟩ : St) (Ret (tlook tys) Try.f14.results.toList r H') :=
  ret_of' (laws_heldIntS_n9_l x3481 x3482) (by unfold laws_heldIntS; kernel_rfl) (by
  intro t
  exact ret_mk [.dat (.int .i64) t] (by kernel_rfl) (by kernel_rfl) (by kernel_rfl) (by kernel_rfl)) h

def F_laws_heldIntS : Fun := fun avs H =>
  match avs, H with
  | [.dat (.list (.int .i64)) x3481, .dat (.int .i64) x3482], [] => ⟨_, laws_heldIntS x3481 x3482, fun (t : Int) => (.dat (.int .i64) t, []), [], none⟩
  | _, _ => Ans.no

theorem laws_heldIntS_sound : Sound Try.prog 14 F_laws_heldIntS := by
  refine fn_sound' (C := laws_heldIntS_ctx) (c := bodyOf Try.f14) (cok_of tys_ok (by simp) (by simp) (by kernel_rfl)) Try.func14 (by kernel_rfl) LL laws_heldIntS_an ?_
  intro avs H r H' h
  unfold F_laws_heldIntS at h
  split at h
  · refine Awp.cast ?_ ?_ ?_ (laws_heldIntS_e _ _ h) <;> kernel_rfl
  · simp [Ans.no, Ans.run] at h

/-! loop.example/headtrees/laws.FnExactRunStack -/

def laws_FnExactRunStack_an : Ann := (.seq (.leaf [0, 1]) (.seq (.seq (.leaf [0, 1, 15]) (.cond (.seq (.leaf [4]) (.leaf [4])) (.leaf [0, 1]))) (.seq (.leaf [0, 1, 5, 6]) (.seq (.leaf [0, 1, 5, 6, 7, 8]) (.seq (.seq (.leaf [0, 1, 5, 6, 7, 36]) (.cond (.seq (.leaf [4]) (.leaf [4])) (.leaf [0, 1, 5, 6, 7]))) (.seq (.leaf [0, 1, 5, 6, 7, 9]) (.seq (.leaf [0, 1, 5, 6, 7, 9]) (.seq (.leaf [0, 1, 5, 6, 7, 9, 10]) (.seq (.leaf [0, 1, 5, 6, 7, 9, 10]) (.seq (.seq (.leaf [0, 1, 5, 6, 7, 9, 10, 44]) (.cond (.seq (.leaf [4]) (.leaf [4])) (.leaf [0, 1, 5, 6, 7, 9, 10]))) (.seq (.seq (.leaf [0, 1, 5, 6, 7, 9, 47]) (.cond (.seq (.leaf [4]) (.leaf [4])) (.leaf [0, 1, 5, 6, 7, 9]))) (.seq (.leaf [5, 6, 7, 9, 11, 12]) (.seq (.seq (.leaf [7, 9, 62]) (.cond (.seq (.leaf [4]) (.leaf [4])) (.leaf [7, 9]))) (.seq (.leaf [7, 9, 10]) (.seq (.leaf [9, 10]) (.seq (.seq (.leaf [9, 10, 67]) (.cond (.seq (.leaf [4]) (.leaf [4])) (.leaf [9, 10]))) (.seq (.seq (.leaf [70]) (.cond (.seq (.leaf [4]) (.leaf [4])) (.leaf []))) (.seq (.leaf [4]) (.leaf [4])))))))))))))))))))

noncomputable def laws_FnExactRunStack_ctx : Ctx := ⟨tlook tys, olook [(10, F_spec_RunStack), (11, F_impl_RunStack), (12, F_laws_eqIntS), (13, F_laws_markIntS), (14, F_laws_heldIntS)], ioF, 0, false, []⟩

theorem laws_FnExactRunStack_n1_l (x3308 : Int) (x3309 : ByteArray) : Link laws_FnExactRunStack_ctx LL (bodyOf Try.f4) laws_FnExactRunStack_an (⟨mkE 71 0 [(0, .dat (.int .i64) x3308), (1, .dat .str x3309)], []⟩ : St) (laws_FnExactRunStack_n1 x3308 x3309) (fun (t : Bool) => (Exit.ret, (⟨mkE 71 0 [(4, .dat .bool t)], []⟩ : St))) := by
  refine Link.of fun K h => ?_
  simp only [laws_FnExactRunStack_n1, wpO_bind, wpO_cond, wpO_map, wpO_some] at h
  exact Awp.of (by kernel_rfl) h

theorem laws_FnExactRunStack_e (x3308 : Int) (x3309 : ByteArray) {r : AV} {H' : Heap} (h : (Ans.mk _ (laws_FnExactRunStack x3308 x3309) (fun (t : Bool) => (.dat .bool t, [])) [] none).run = some (r, H')) : Awp laws_FnExactRunStack_ctx LL (bodyOf Try.f4) laws_FnExactRunStack_an (⟨mkE 71 0 [(0, .dat (.int .i64) x3308), (1, .dat .str x3309)], []⟩ : St) (Ret (tlook tys) Try.f4.results.toList r H') :=
  ret_of' (laws_FnExactRunStack_n1_l x3308 x3309) (by unfold laws_FnExactRunStack; kernel_rfl) (by
  intro t
  exact ret_mk [.dat .bool t] (by kernel_rfl) (by kernel_rfl) (by kernel_rfl) (by kernel_rfl)) h

def F_laws_FnExactRunStack : Fun := fun avs H =>
  match avs, H with
  | [.dat (.int .i64) x3308, .dat .str x3309], [] => ⟨_, laws_FnExactRunStack x3308 x3309, fun (t : Bool) => (.dat .bool t, []), [], none⟩
  | _, _ => Ans.no

theorem laws_FnExactRunStack_sound : Sound Try.prog 4 F_laws_FnExactRunStack := by
  refine fn_sound' (C := laws_FnExactRunStack_ctx) (c := bodyOf Try.f4) (cok_of tys_ok (List.forall_mem_cons.2 ⟨spec_RunStack_sound, List.forall_mem_cons.2 ⟨impl_RunStack_sound, List.forall_mem_cons.2 ⟨laws_eqIntS_sound, List.forall_mem_cons.2 ⟨laws_markIntS_sound, List.forall_mem_cons.2 ⟨laws_heldIntS_sound, by simp⟩⟩⟩⟩⟩) (List.forall_mem_cons.2 ⟨Try.call10, List.forall_mem_cons.2 ⟨Try.call11, List.forall_mem_cons.2 ⟨Try.call12, List.forall_mem_cons.2 ⟨Try.call13, List.forall_mem_cons.2 ⟨Try.call14, by simp⟩⟩⟩⟩⟩) (by kernel_rfl)) Try.func4 (by kernel_rfl) LL laws_FnExactRunStack_an ?_
  intro avs H r H' h
  unfold F_laws_FnExactRunStack at h
  split at h
  · refine Awp.cast ?_ ?_ ?_ (laws_FnExactRunStack_e _ _ h) <;> kernel_rfl
  · simp [Ans.no, Ans.run] at h

/-! loop.example/headtrees/laws.FnExactDeepestStack -/

def laws_FnExactDeepestStack_an : Ann := (.seq (.leaf [0, 1]) (.seq (.seq (.leaf [0, 1, 9]) (.cond (.seq (.leaf [4]) (.leaf [4])) (.leaf [0, 1]))) (.seq (.leaf [0, 1, 5]) (.seq (.leaf [5, 6]) (.seq (.seq (.leaf [18]) (.cond (.seq (.leaf [4]) (.leaf [4])) (.leaf []))) (.seq (.leaf [4]) (.leaf [4])))))))

noncomputable def laws_FnExactDeepestStack_ctx : Ctx := ⟨tlook tys, olook [(8, F_spec_DeepestStack), (7, F_impl_DeepestStack)], ioF, 0, false, []⟩

theorem laws_FnExactDeepestStack_n1_l (x3742 : Int) (x3743 : ByteArray) : Link laws_FnExactDeepestStack_ctx LL (bodyOf Try.f5) laws_FnExactDeepestStack_an (⟨mkE 19 0 [(0, .dat (.int .i64) x3742), (1, .dat .str x3743)], []⟩ : St) (laws_FnExactDeepestStack_n1 x3742 x3743) (fun (t : Bool) => (Exit.ret, (⟨mkE 19 0 [(4, .dat .bool t)], []⟩ : St))) := by
  refine Link.of fun K h => ?_
  simp only [laws_FnExactDeepestStack_n1, wpO_bind, wpO_cond, wpO_map, wpO_some] at h
  exact Awp.of (by kernel_rfl) h

theorem laws_FnExactDeepestStack_e (x3742 : Int) (x3743 : ByteArray) {r : AV} {H' : Heap} (h : (Ans.mk _ (laws_FnExactDeepestStack x3742 x3743) (fun (t : Bool) => (.dat .bool t, [])) [] none).run = some (r, H')) : Awp laws_FnExactDeepestStack_ctx LL (bodyOf Try.f5) laws_FnExactDeepestStack_an (⟨mkE 19 0 [(0, .dat (.int .i64) x3742), (1, .dat .str x3743)], []⟩ : St) (Ret (tlook tys) Try.f5.results.toList r H') :=
  ret_of' (laws_FnExactDeepestStack_n1_l x3742 x3743) (by unfold laws_FnExactDeepestStack; kernel_rfl) (by
  intro t
  exact ret_mk [.dat .bool t] (by kernel_rfl) (by kernel_rfl) (by kernel_rfl) (by kernel_rfl)) h

def F_laws_FnExactDeepestStack : Fun := fun avs H =>
  match avs, H with
  | [.dat (.int .i64) x3742, .dat .str x3743], [] => ⟨_, laws_FnExactDeepestStack x3742 x3743, fun (t : Bool) => (.dat .bool t, []), [], none⟩
  | _, _ => Ans.no

theorem laws_FnExactDeepestStack_sound : Sound Try.prog 5 F_laws_FnExactDeepestStack := by
  refine fn_sound' (C := laws_FnExactDeepestStack_ctx) (c := bodyOf Try.f5) (cok_of tys_ok (List.forall_mem_cons.2 ⟨spec_DeepestStack_sound, List.forall_mem_cons.2 ⟨impl_DeepestStack_sound, by simp⟩⟩) (List.forall_mem_cons.2 ⟨Try.call8, List.forall_mem_cons.2 ⟨Try.call7, by simp⟩⟩) (by kernel_rfl)) Try.func5 (by kernel_rfl) LL laws_FnExactDeepestStack_an ?_
  intro avs H r H' h
  unfold F_laws_FnExactDeepestStack at h
  split at h
  · refine Awp.cast ?_ ?_ ?_ (laws_FnExactDeepestStack_e _ _ h) <;> kernel_rfl
  · simp [Ans.no, Ans.run] at h

end Go.Rv
