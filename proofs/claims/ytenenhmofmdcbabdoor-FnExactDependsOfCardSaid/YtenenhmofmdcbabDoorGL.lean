/-
  The checked code answers as the plain functions do; written by program. Conditions: none.
-/
import Derived.Test.YtenenhmofmdcbabDoorGLa
set_option linter.unusedVariables false
set_option linter.unusedSimpArgs false
set_option maxRecDepth 100000
namespace Go.Rv
open Go.Proofs
theorem laws_markIntS_n2_l (x895 : Int) (x896 : List Int) : Link laws_markIntS_ctx LL (Code.fst (Code.fst (Code.snd (bodyOf Tryd.f11)))) (Ann.fst (Ann.fst (Ann.snd laws_markIntS_an))) (⟨mkE 19 0 [(0, .slc 0), (1, .dat (.int .i64) x895)], [some (.seq (.int .i64) x896)]⟩ : St) (laws_markIntS_n2) (fun (t : Unit) => (Exit.normal, (⟨mkE 19 0 [(0, .slc 0), (1, .dat (.int .i64) x895), (5, .dat (.int .i64) 0)], [some (.seq (.int .i64) x896)]⟩ : St))) := by
  refine Link.of fun K h => ?_
  simp only [laws_markIntS_n2, wpO_bind, wpO_cond, wpO_map, wpO_some] at h
  exact Awp.of (by kernel_rfl) h

theorem laws_markIntS_n3_l (x910 : Int) (x911 : Int) (x912 : List Int) : Link laws_markIntS_ctx LL (Code.fst (Code.fst (Code.snd (Code.fst (Code.snd (bodyOf Tryd.f11)))))) (Ann.fst (Ann.fst (Ann.snd (Ann.fst (Ann.snd laws_markIntS_an))))) (⟨mkE 19 0 [(0, .slc 0), (1, .dat (.int .i64) x910), (5, .dat (.int .i64) x911)], [some (.seq (.int .i64) x912)]⟩ : St) (laws_markIntS_n3 x910 x911 x912) (Sum.elim (fun (t : Int × Int × (List Int)) => (Exit.normal, (⟨mkE 19 0 [(0, .slc 0), (1, .dat (.int .i64) t.1), (5, .dat (.int .i64) t.2.1)], [some (.seq (.int .i64) t.2.2)]⟩ : St))) (fun (t : Int × (List Int)) => ((Exit.exit 0), (⟨mkE 19 0 [(1, .dat (.int .i64) t.1)], [some (.seq (.int .i64) t.2)]⟩ : St)))) := by
  refine Link.of fun K h => ?_
  simp only [laws_markIntS_n3, wpO_bind, wpO_cond, wpO_map, wpO_some] at h
  exact Awp.of (by kernel_rfl) h

theorem laws_markIntS_n4_l (x895 : Int) (x896 : List Int) : Link laws_markIntS_ctx LL (Code.fst (Code.snd (Code.fst (Code.snd (bodyOf Tryd.f11))))) (Ann.fst (Ann.snd (Ann.fst (Ann.snd laws_markIntS_an)))) (⟨mkE 19 0 [(0, .slc 0), (1, .dat (.int .i64) x895), (5, .dat (.int .i64) 0)], [some (.seq (.int .i64) x896)]⟩ : St) (laws_markIntS_n4 x895 x896) (fun (t : Int × (List Int)) => ((Exit.exit 0), (⟨mkE 19 0 [(1, .dat (.int .i64) t.1)], [some (.seq (.int .i64) t.2)]⟩ : St))) := by
  unfold laws_markIntS_n4
  exact Link.cast (by kernel_rfl) (by kernel_rfl) (link_loop (mk := fun (s : Int × Int × (List Int)) => (⟨mkE 19 0 [(0, .slc 0), (1, .dat (.int .i64) s.1), (5, .dat (.int .i64) s.2.1)], [some (.seq (.int .i64) s.2.2)]⟩ : St)) (fin := (fun (t : Int × (List Int)) => ((Exit.exit 0), (⟨mkE 19 0 [(1, .dat (.int .i64) t.1)], [some (.seq (.int .i64) t.2)]⟩ : St)))) (by
  rintro t f K h
  · exact h) (fun s => link_map (laws_markIntS_n3_l s.1 s.2.1 s.2.2) (Sum.elim (fun (t : Int × Int × (List Int)) => Sum.inl (t.1, t.2.1, t.2.2)) (fun (t : Int × (List Int)) => Sum.inr t)) (by
  rintro (t | t)
  · kernel_rfl
  · kernel_rfl)) (x895, 0, x896))

theorem laws_markIntS_n5_l (x895 : Int) (x896 : List Int) : Link laws_markIntS_ctx LL (Code.snd (Code.fst (Code.snd (bodyOf Tryd.f11)))) (Ann.snd (Ann.fst (Ann.snd laws_markIntS_an))) (⟨mkE 19 0 [(0, .slc 0), (1, .dat (.int .i64) x895), (5, .dat (.int .i64) 0)], [some (.seq (.int .i64) x896)]⟩ : St) (laws_markIntS_n5 x895 x896) (fun (t : Int × (List Int)) => (Exit.normal, (⟨mkE 19 0 [(1, .dat (.int .i64) t.1)], [some (.seq (.int .i64) t.2)]⟩ : St))) := by
  unfold laws_markIntS_n5
  exact Link.cast (by kernel_rfl) (by kernel_rfl) (link_block (id := 0) (laws_markIntS_n4_l x895 x896) (fun (t : Int × (List Int)) => (t.1, t.2)) (by
  rintro t K h
  · exact Eq.mp (by kernel_rfl) h))

theorem laws_markIntS_n6_l (x895 : Int) (x896 : List Int) : Link laws_markIntS_ctx LL (Code.fst (Code.snd (bodyOf Tryd.f11))) (Ann.fst (Ann.snd laws_markIntS_an)) (⟨mkE 19 0 [(0, .slc 0), (1, .dat (.int .i64) x895)], [some (.seq (.int .i64) x896)]⟩ : St) (laws_markIntS_n6 x895 x896) (fun (t : Int × (List Int)) => (Exit.normal, (⟨mkE 19 0 [(1, .dat (.int .i64) t.1)], [some (.seq (.int .i64) t.2)]⟩ : St))) := by
  unfold laws_markIntS_n6
  exact Link.cast (by kernel_rfl) (by kernel_rfl) (link_seq (b := (Code.snd (Code.fst (Code.snd (bodyOf Tryd.f11))))) (y := (Ann.snd (Ann.fst (Ann.snd laws_markIntS_an)))) (laws_markIntS_n2_l x895 x896) (fun (t : Unit) => (laws_markIntS_n5_l x895 x896)))

theorem laws_markIntS_n7_l (x910 : Int) (x912 : List Int) : Link laws_markIntS_ctx LL (Code.snd (Code.snd (bodyOf Tryd.f11))) (Ann.snd (Ann.snd laws_markIntS_an)) (⟨mkE 19 0 [(1, .dat (.int .i64) x910)], [some (.seq (.int .i64) x912)]⟩ : St) (laws_markIntS_n7 x910 x912) (fun (t : Int × (List Int)) => (Exit.ret, (⟨mkE 19 0 [(4, .dat (.int .i64) t.1)], [some (.seq (.int .i64) t.2)]⟩ : St))) := by
  refine Link.of fun K h => ?_
  simp only [laws_markIntS_n7, wpO_bind, wpO_cond, wpO_map, wpO_some] at h
  exact Awp.of (by kernel_rfl) h

theorem laws_markIntS_n8_l (x895 : Int) (x896 : List Int) : Link laws_markIntS_ctx LL (Code.snd (bodyOf Tryd.f11)) (Ann.snd laws_markIntS_an) (⟨mkE 19 0 [(0, .slc 0), (1, .dat (.int .i64) x895)], [some (.seq (.int .i64) x896)]⟩ : St) (laws_markIntS_n8 x895 x896) (fun (t : Int × (List Int)) => (Exit.ret, (⟨mkE 19 0 [(4, .dat (.int .i64) t.1)], [some (.seq (.int .i64) t.2)]⟩ : St))) := by
  unfold laws_markIntS_n8
  exact Link.cast (by kernel_rfl) (by kernel_rfl) (link_seq (b := (Code.snd (Code.snd (bodyOf Tryd.f11)))) (y := (Ann.snd (Ann.snd laws_markIntS_an))) (laws_markIntS_n6_l x895 x896) (fun (t : Int × (List Int)) => (laws_markIntS_n7_l t.1 t.2)))

theorem laws_markIntS_n9_l (x895 : Int) (x896 : List Int) : Link laws_markIntS_ctx LL (bodyOf Tryd.f11) laws_markIntS_an (⟨mkE 19 0 [(0, .slc 0), (1, .dat (.int .i64) x895)], [some (.seq (.int .i64) x896)]⟩ : St) (laws_markIntS_n9 x895 x896) (fun (t : Int × (List Int)) => (Exit.ret, (⟨mkE 19 0 [(4, .dat (.int .i64) t.1)], [some (.seq (.int .i64) t.2)]⟩ : St))) := by
  unfold laws_markIntS_n9
  exact Link.cast (by kernel_rfl) (by kernel_rfl) (link_seq (b := (Code.snd (bodyOf Tryd.f11))) (y := (Ann.snd laws_markIntS_an)) (laws_markIntS_n1_l x895 x896) (fun (t : Unit) => (laws_markIntS_n8_l x895 x896)))

theorem laws_markIntS_e (x895 : Int) (x896 : List Int) {r : AV} {H' : Heap} (h : (Ans.mk _ (laws_markIntS x895 x896) (fun (t : Int × (List Int)) => (.dat (.int .i64) t.1, [some (.seq (.int .i64) t.2)]))).run = some (r, H')) : Awp laws_markIntS_ctx LL (bodyOf Tryd.f11) laws_markIntS_an (⟨mkE 19 0 [(0, .slc 0), (1, .dat (.int .i64) x895)], [some (.seq (.int .i64) x896)]⟩ : St) (Ret (tlook tys) Tryd.f11.results.toList r H') :=
  ret_of' (laws_markIntS_n9_l x895 x896) (by unfold laws_markIntS; kernel_rfl) (by
  intro t
  exact ret_mk [.dat (.int .i64) t.1] (by kernel_rfl) (by kernel_rfl) (by kernel_rfl) (by kernel_rfl)) h

def F_laws_markIntS : Fun := fun avs H =>
  match avs, H with
  | [.slc 0, .dat (.int .i64) x895], [some (.seq (.int .i64) x896)] => ⟨_, laws_markIntS x895 x896, fun (t : Int × (List Int)) => (.dat (.int .i64) t.1, [some (.seq (.int .i64) t.2)])⟩
  | _, _ => Ans.no

theorem laws_markIntS_sound : Sound Tryd.prog 11 F_laws_markIntS := by
  refine fn_sound' (C := laws_markIntS_ctx) (c := bodyOf Tryd.f11) (cok_of tys_ok (by simp) (by simp) (by kernel_rfl)) Tryd.func11 (by kernel_rfl) LL laws_markIntS_an ?_
  intro avs H r H' h
  unfold F_laws_markIntS at h
  split at h
  · refine Awp.cast ?_ ?_ ?_ (laws_markIntS_e _ _ h) <;> kernel_rfl
  · simp [Ans.no, Ans.run] at h

/-! loop.example/headtrees/laws.heldIntS -/

def laws_heldIntS_an : Ann := (.seq (.leaf [0, 1]) (.seq (.seq (.leaf [0, 1, 5]) (.block (.loop (.seq (.seq (.leaf [0, 1, 5, 9]) (.cond (.leaf [0, 1, 5]) (.leaf [1]))) (.seq (.block (.seq (.seq (.leaf [0, 1, 5, 17]) (.cond (.seq (.leaf [4]) (.leaf [4])) (.leaf [0, 1, 5]))) (.leaf [0, 1, 5]))) (.leaf [0, 1, 5])))))) (.seq (.leaf [4]) (.leaf [4]))))

noncomputable def laws_heldIntS_ctx : Ctx := ⟨tlook tys, olook [], ioF, 0⟩

theorem laws_heldIntS_n1_l (x1023 : List Int) (x1024 : Int) : Link laws_heldIntS_ctx LL (Code.fst (bodyOf Tryd.f12)) (Ann.fst laws_heldIntS_an) (⟨mkE 21 0 [(0, .dat (.list (.int .i64)) x1023), (1, .dat (.int .i64) x1024)], []⟩ : St) (laws_heldIntS_n1) (fun (t : Unit) => (Exit.normal, (⟨mkE 21 0 [(0, .dat (.list (.int .i64)) x1023), (1, .dat (.int .i64) x1024)], []⟩ : St))) := by
  refine Link.of fun K h => ?_
  simp only [laws_heldIntS_n1, wpO_bind, wpO_cond, wpO_map, wpO_some] at h
  exact Awp.of (by kernel_rfl) h

theorem laws_heldIntS_n2_l (x1023 : List Int) (x1024 : Int) : Link laws_heldIntS_ctx LL (Code.fst (Code.fst (Code.snd (bodyOf Tryd.f12)))) (Ann.fst (Ann.fst (Ann.snd laws_heldIntS_an))) (⟨mkE 21 0 [(0, .dat (.list (.int .i64)) x1023), (1, .dat (.int .i64) x1024)], []⟩ : St) (laws_heldIntS_n2) (fun (t : Unit) => (Exit.normal, (⟨mkE 21 0 [(0, .dat (.list (.int .i64)) x1023), (1, .dat (.int .i64) x1024), (5, .dat (.int .i64) 0)], []⟩ : St))) := by
  refine Link.of fun K h => ?_
  simp only [laws_heldIntS_n2, wpO_bind, wpO_cond, wpO_map, wpO_some] at h
  exact Awp.of (by kernel_rfl) h

theorem laws_heldIntS_n3_l (x1023 : List Int) (x1038 : Int) (x1039 : Int) : Link laws_heldIntS_ctx LL (Code.fst (Code.fst (Code.snd (Code.fst (Code.snd (bodyOf Tryd.f12)))))) (Ann.fst (Ann.fst (Ann.snd (Ann.fst (Ann.snd laws_heldIntS_an))))) (⟨mkE 21 0 [(0, .dat (.list (.int .i64)) x1023), (1, .dat (.int .i64) x1038), (5, .dat (.int .i64) x1039)], []⟩ : St) (laws_heldIntS_n3 x1023 x1038 x1039) (Sum.elim (fun (t : Int × Int) => (Exit.normal, (⟨mkE 21 0 [(0, .dat (.list (.int .i64)) x1023), (1, .dat (.int .i64) t.1), (5, .dat (.int .i64) t.2)], []⟩ : St))) (Sum.elim (fun (t : Int) => (Exit.ret, (⟨mkE 21 0 [(4, .dat (.int .i64) t)], []⟩ : St))) (fun (t : Int) => ((Exit.exit 0), (⟨mkE 21 0 [(1, .dat (.int .i64) t)], []⟩ : St))))) := by
  refine Link.of fun K h => ?_
  simp only [laws_heldIntS_n3, wpO_bind, wpO_cond, wpO_map, wpO_some] at h
  exact Awp.of (by kernel_rfl) h

theorem laws_heldIntS_n4_l (x1023 : List Int) (x1024 : Int) : Link laws_heldIntS_ctx LL (Code.fst (Code.snd (Code.fst (Code.snd (bodyOf Tryd.f12))))) (Ann.fst (Ann.snd (Ann.fst (Ann.snd laws_heldIntS_an)))) (⟨mkE 21 0 [(0, .dat (.list (.int .i64)) x1023), (1, .dat (.int .i64) x1024), (5, .dat (.int .i64) 0)], []⟩ : St) (laws_heldIntS_n4 x1023 x1024) (Sum.elim (fun (t : Int) => (Exit.ret, (⟨mkE 21 0 [(4, .dat (.int .i64) t)], []⟩ : St))) (fun (t : Int) => ((Exit.exit 0), (⟨mkE 21 0 [(1, .dat (.int .i64) t)], []⟩ : St)))) := by
  unfold laws_heldIntS_n4
  exact Link.cast (by kernel_rfl) (by kernel_rfl) (link_loop (mk := fun (s : Int × Int) => (⟨mkE 21 0 [(0, .dat (.list (.int .i64)) x1023), (1, .dat (.int .i64) s.1), (5, .dat (.int .i64) s.2)], []⟩ : St)) (fin := (Sum.elim (fun (t : Int) => (Exit.ret, (⟨mkE 21 0 [(4, .dat (.int .i64) t)], []⟩ : St))) (fun (t : Int) => ((Exit.exit 0), (⟨mkE 21 0 [(1, .dat (.int .i64) t)], []⟩ : St))))) (by
  rintro (t | t) f K h
  · exact h
  · exact h) (fun s => link_map (laws_heldIntS_n3_l x1023 s.1 s.2) (Sum.elim (fun (t : Int × Int) => Sum.inl (t.1, t.2)) (Sum.elim (fun (t : Int) => Sum.inr (Sum.inl t)) (fun (t : Int) => Sum.inr (Sum.inr t)))) (by
  rintro (t | t | t)
  · kernel_rfl
  · kernel_rfl
  · kernel_rfl)) (x1024, 0))

theorem laws_heldIntS_n5_l (x1023 : List Int) (x1024 : Int) : Link laws_heldIntS_ctx LL (Code.snd (Code.fst (Code.snd (bodyOf Tryd.f12)))) (Ann.snd (Ann.fst (Ann.snd laws_heldIntS_an))) (⟨mkE 21 0 [(0, .dat (.list (.int .i64)) x1023), (1, .dat (.int .i64) x1024), (5, .dat (.int .i64) 0)], []⟩ : St) (laws_heldIntS_n5 x1023 x1024) (Sum.elim (fun (t : Int) => (Exit.normal, (⟨mkE 21 0 [(1, .dat (.int .i64) t)], []⟩ : St))) (fun (t : Int) => (Exit.ret, (⟨mkE 21 0 [(4, .dat (.int .i64) t)], []⟩ : St)))) := by
  unfold laws_heldIntS_n5
  exact Link.cast (by kernel_rfl) (by kernel_rfl) (link_block (id := 0) (laws_heldIntS_n4_l x1023 x1024) (Sum.elim (fun (t : Int) => (Sum.inr t)) (fun (t : Int) => (Sum.inl t))) (by
  rintro (t | t) K h
  · exact Eq.mp (by kernel_rfl) h
  · exact Eq.mp (by kernel_rfl) h))

theorem laws_heldIntS_n6_l (x1023 : List Int) (x1024 : Int) : Link laws_heldIntS_ctx LL (Code.fst (Code.snd (bodyOf Tryd.f12))) (Ann.fst (Ann.snd laws_heldIntS_an)) (⟨mkE 21 0 [(0, .dat (.list (.int .i64)) x1023), (1, .dat (.int .i64) x1024)], []⟩ : St) (laws_heldIntS_n6 x1023 x1024) (Sum.elim (fun (t : Int) => (Exit.normal, (⟨mkE 21 0 [(1, .dat (.int .i64) t)], []⟩ : St))) (fun (t : Int) => (Exit.ret, (⟨mkE 21 0 [(4, .dat (.int .i64) t)], []⟩ : St)))) := by
  unfold laws_heldIntS_n6
  exact Link.cast (by kernel_rfl) (by kernel_rfl) (link_seq (b := (Code.snd (Code.fst (Code.snd (bodyOf Tryd.f12))))) (y := (Ann.snd (Ann.fst (Ann.snd laws_heldIntS_an)))) (laws_heldIntS_n2_l x1023 x1024) (fun (t : Unit) => (laws_heldIntS_n5_l x1023 x1024)))

theorem laws_heldIntS_n7_l (x1038 : Int) : Link laws_heldIntS_ctx LL (Code.snd (Code.snd (bodyOf Tryd.f12))) (Ann.snd (Ann.snd laws_heldIntS_an)) (⟨mkE 21 0 [(1, .dat (.int .i64) x1038)], []⟩ : St) (laws_heldIntS_n7 x1038) (fun (t : Int) => (Exit.ret, (⟨mkE 21 0 [(4, .dat (.int .i64) t)], []⟩ : St))) := by
  refine Link.of fun K h => ?_
  simp only [laws_heldIntS_n7, wpO_bind, wpO_cond, wpO_map, wpO_some] at h
  exact Awp.of (by kernel_rfl) h

theorem laws_heldIntS_n8_l (x1023 : List Int) (x1024 : Int) : Link laws_heldIntS_ctx LL (Code.snd (bodyOf Tryd.f12)) (Ann.snd laws_heldIntS_an) (⟨mkE 21 0 [(0, .dat (.list (.int .i64)) x1023), (1, .dat (.int .i64) x1024)], []⟩ : St) (laws_heldIntS_n8 x1023 x1024) (fun (t : Int) => (Exit.ret, (⟨mkE 21 0 [(4, .dat (.int .i64) t)], []⟩ : St))) := by
  unfold laws_heldIntS_n8
  exact Link.cast (by kernel_rfl) (by kernel_rfl) (link_seq2 (b := (Code.snd (Code.snd (bodyOf Tryd.f12)))) (y := (Ann.snd (Ann.snd laws_heldIntS_an))) (laws_heldIntS_n6_l x1023 x1024) (fun (t : Int) => (laws_heldIntS_n7_l t)) (fun (t : Int) => t) (by
  rintro t
  · kernel_rfl) (by
  rintro t f K h
  · exact h))

theorem laws_heldIntS_n9_l (x1023 : List Int) (x1024 : Int) : Link laws_heldIntS_ctx LL (bodyOf Tryd.f12) laws_heldIntS_an (⟨mkE 21 0 [(0, .dat (.list (.int .i64)) x1023), (1, .dat (.int .i64) x1024)], []⟩ : St) (laws_heldIntS_n9 x1023 x1024) (fun (t : Int) => (Exit.ret, (⟨mkE 21 0 [(4, .dat (.int .i64) t)], []⟩ : St))) := by
  unfold laws_heldIntS_n9
  exact Link.cast (by kernel_rfl) (by kernel_rfl) (link_seq (b := (Code.snd (bodyOf Tryd.f12))) (y := (Ann.snd laws_heldIntS_an)) (laws_heldIntS_n1_l x1023 x1024) (fun (t : Unit) => (laws_heldIntS_n8_l x1023 x1024)))

theorem laws_heldIntS_e (x1023 : List Int) (x1024 : Int) {r : AV} {H' : Heap} (h : (Ans.mk _ (laws_heldIntS x1023 x1024) (fun (t : Int) => (.dat (.int .i64) t, []))).run = some (r, H')) : Awp laws_heldIntS_ctx LL (bodyOf Tryd.f12) laws_heldIntS_an (⟨mkE 21 0 [(0, .dat (.list (.int .i64)) x1023), (1, .dat (.int .i64) x1024)], []⟩ : St) (Ret (tlook tys) Tryd.f12.results.toList r H') :=
  ret_of' (laws_heldIntS_n9_l x1023 x1024) (by unfold laws_heldIntS; kernel_rfl) (by
  intro t
  exact ret_mk [.dat (.int .i64) t] (by kernel_rfl) (by kernel_rfl) (by kernel_rfl) (by kernel_rfl)) h

def F_laws_heldIntS : Fun := fun avs H =>
  match avs, H with
  | [.dat (.list (.int .i64)) x1023, .dat (.int .i64) x1024], [] => ⟨_, laws_heldIntS x1023 x1024, fun (t : Int) => (.dat (.int .i64) t, [])⟩
  | _, _ => Ans.no

theorem laws_heldIntS_sound : Sound Tryd.prog 12 F_laws_heldIntS := by
  refine fn_sound' (C := laws_heldIntS_ctx) (c := bodyOf Tryd.f12) (cok_of tys_ok (by simp) (by simp) (by kernel_rfl)) Tryd.func12 (by kernel_rfl) LL laws_heldIntS_an ?_
  intro avs H r H' h
  unfold F_laws_heldIntS at h
  split at h
  · refine Awp.cast ?_ ?_ ?_ (laws_heldIntS_e _ _ h) <;> kernel_rfl
  · simp [Ans.no, Ans.run] at h

/-! loop.example/headtrees/laws.FnExactYieldOf -/

def laws_FnExactYieldOf_an : Ann := (.seq (.leaf [0, 1]) (.seq (.seq (.leaf [0, 1, 14]) (.cond (.seq (.leaf [4]) (.leaf [4])) (.leaf [0, 1]))) (.seq (.leaf [0, 1, 5]) (.seq (.leaf [0, 1, 5, 6]) (.seq (.leaf [0, 1, 5, 6, 7]) (.seq (.seq (.leaf [0, 1, 5, 6, 7, 27]) (.cond (.seq (.leaf [4]) (.leaf [4])) (.leaf [0, 1, 5, 6, 7]))) (.seq (.seq (.leaf [0, 1, 5, 6, 7, 32]) (.cond (.seq (.leaf [4]) (.leaf [4])) (.leaf [0, 1, 5, 6, 7]))) (.seq (.leaf [0, 1, 5, 6, 7, 8]) (.seq (.leaf [0, 1, 5, 7, 8]) (.seq (.seq (.leaf [0, 1, 5, 7, 43]) (.cond (.seq (.leaf [4]) (.leaf [4])) (.leaf [0, 1, 5, 7]))) (.seq (.leaf [0, 1, 5, 7, 9]) (.seq (.leaf [0, 1, 5, 7, 9]) (.seq (.leaf [0, 1, 5, 7, 9, 10]) (.seq (.leaf [0, 1, 5, 7, 9, 10]) (.seq (.seq (.leaf [0, 1, 5, 7, 9, 10, 51]) (.cond (.seq (.leaf [4]) (.leaf [4])) (.leaf [0, 1, 5, 7, 9, 10]))) (.seq (.seq (.leaf [0, 1, 5, 7, 9, 54]) (.cond (.seq (.leaf [4]) (.leaf [4])) (.leaf [0, 1, 5, 7, 9]))) (.seq (.leaf [5, 7, 9, 11]) (.seq (.seq (.leaf [7, 9, 62]) (.cond (.seq (.leaf [4]) (.leaf [4])) (.leaf [7, 9]))) (.seq (.leaf [7, 9, 10]) (.seq (.leaf [9, 10]) (.seq (.seq (.leaf [9, 10, 67]) (.cond (.seq (.leaf [4]) (.leaf [4])) (.leaf [9, 10]))) (.seq (.seq (.leaf [70]) (.cond (.seq (.leaf [4]) (.leaf [4])) (.leaf []))) (.seq (.leaf [4]) (.leaf [4]))))))))))))))))))))))))

noncomputable def laws_FnExactYieldOf_ctx : Ctx := ⟨tlook tys, olook [(8, F_laws_toIntS), (7, F_spec_YieldOf), (9, F_impl_YieldOf), (10, F_laws_eqIntS), (11, F_laws_markIntS), (12, F_laws_heldIntS)], ioF, 0⟩

theorem laws_FnExactYieldOf_n1_l (x3 : List Int) (x4 : Int) : Link laws_FnExactYieldOf_ctx LL (bodyOf Tryd.f3) laws_FnExactYieldOf_an (⟨mkE 71 0 [(0, .dat (.list (.int .i64)) x3), (1, .dat (.int .i64) x4)], []⟩ : St) (laws_FnExactYieldOf_n1 x3 x4) (fun (t : Bool) => (Exit.ret, (⟨mkE 71 0 [(4, .dat .bool t)], []⟩ : St))) := by
  refine Link.of fun K h => ?_
  simp only [laws_FnExactYieldOf_n1, wpO_bind, wpO_cond, wpO_map, wpO_some] at h
  exact Awp.of (by kernel_rfl) h

theorem laws_FnExactYieldOf_e (x3 : List Int) (x4 : Int) {r : AV} {H' : Heap} (h : (Ans.mk _ (laws_FnExactYieldOf x3 x4) (fun (t : Bool) => (.dat .bool t, []))).run = some (r, H')) : Awp laws_FnExactYieldOf_ctx LL (bodyOf Tryd.f3) laws_FnExactYieldOf_an (⟨mkE 71 0 [(0, .dat (.list (.int .i64)) x3), (1, .dat (.int .i64) x4)], []⟩ : St) (Ret (tlook tys) Tryd.f3.results.toList r H') :=
  ret_of' (laws_FnExactYieldOf_n1_l x3 x4) (by unfold laws_FnExactYieldOf; kernel_rfl) (by
  intro t
  exact ret_mk [.dat .bool t] (by kernel_rfl) (by kernel_rfl) (by kernel_rfl) (by kernel_rfl)) h

def F_laws_FnExactYieldOf : Fun := fun avs H =>
  match avs, H with
  | [.dat (.list (.int .i64)) x3, .dat (.int .i64) x4], [] => ⟨_, laws_FnExactYieldOf x3 x4, fun (t : Bool) => (.dat .bool t, [])⟩
  | _, _ => Ans.no

theorem laws_FnExactYieldOf_sound : Sound Tryd.prog 3 F_laws_FnExactYieldOf := by
  refine fn_sound' (C := laws_FnExactYieldOf_ctx) (c := bodyOf Tryd.f3) (cok_of tys_ok (List.forall_mem_cons.2 ⟨laws_toIntS_sound, List.forall_mem_cons.2 ⟨spec_YieldOf_sound, List.forall_mem_cons.2 ⟨impl_YieldOf_sound, List.forall_mem_cons.2 ⟨laws_eqIntS_sound, List.forall_mem_cons.2 ⟨laws_markIntS_sound, List.forall_mem_cons.2 ⟨laws_heldIntS_sound, by simp⟩⟩⟩⟩⟩⟩) (List.forall_mem_cons.2 ⟨Tryd.call8, List.forall_mem_cons.2 ⟨Tryd.call7, List.forall_mem_cons.2 ⟨Tryd.call9, List.forall_mem_cons.2 ⟨Tryd.call10, List.forall_mem_cons.2 ⟨Tryd.call11, List.forall_mem_cons.2 ⟨Tryd.call12, by simp⟩⟩⟩⟩⟩⟩) (by kernel_rfl)) Tryd.func3 (by kernel_rfl) LL laws_FnExactYieldOf_an ?_
  intro avs H r H' h
  unfold F_laws_FnExactYieldOf at h
  split at h
  · refine Awp.cast ?_ ?_ ?_ (laws_FnExactYieldOf_e _ _ h) <;> kernel_rfl
  · simp [Ans.no, Ans.run] at h

/-! loop.example/headtrees/spec.DependsOf -/

def spec_DependsOf_an : Ann := (.seq (.leaf [0, 1]) (.seq (.leaf [0, 1, 5]) (.seq (.seq (.leaf [0, 1, 5, 6]) (.block (.loop (.seq (.seq (.leaf [0, 1, 5, 6, 15]) (.cond (.leaf [0, 1, 5, 6]) (.leaf [5]))) (.seq (.block (.seq (.leaf [0, 1, 5, 6, 23]) (.cond (.leaf [0, 1, 5, 6]) (.leaf [0, 1, 5, 6])))) (.leaf [0, 1, 5, 6])))))) (.seq (.leaf [4]) (.leaf [4])))))

noncomputable def spec_DependsOf_ctx : Ctx := ⟨tlook tys, olook [(19, F_spec_TreeOk)], ioF, 0⟩

theorem spec_DependsOf_n1_l (x1336 : List Int) (x1337 : Int) : Link spec_DependsOf_ctx LL (Code.seq (Code.fst (bodyOf Tryd.f13)) (Code.fst (Code.snd (bodyOf Tryd.f13)))) (Ann.seq (Ann.fst spec_DependsOf_an) (Ann.fst (Ann.snd spec_DependsOf_an))) (⟨mkE 30 0 [(0, .dat (.list (.int .i64)) x1336), (1, .dat (.int .i64) x1337)], []⟩ : St) (spec_DependsOf_n1) (fun (t : Unit) => (Exit.normal, (⟨mkE 30 0 [(0, .dat (.list (.int .i64)) x1336), (1, .dat (.int .i64) x1337), (5, .slc 0)], [some (.seq (.int .i64) ([] : List Int))]⟩ : St))) := by
  refine Link.of fun K h => ?_
  simp only [spec_DependsOf_n1, wpO_bind, wpO_cond, wpO_map, wpO_some] at h
  exact Awp.of (by kernel_rfl) h

theorem spec_DependsOf_n2_l (x1336 : List Int) (x1337 : Int) : Link spec_DependsOf_ctx LL (Code.fst (Code.fst (Code.snd (Code.snd (bodyOf Tryd.f13))))) (Ann.fst (Ann.fst (Ann.snd (Ann.snd spec_DependsOf_an)))) (⟨mkE 30 0 [(0, .dat (.list (.int .i64)) x1336), (1, .dat (.int .i64) x1337), (5, .slc 0)], [some (.seq (.int .i64) ([] : List Int))]⟩ : St) (spec_DependsOf_n2) (fun (t : Unit) => (Exit.normal, (⟨mkE 30 0 [(0, .dat (.list (.int .i64)) x1336), (1, .dat (.int .i64) x1337), (5, .slc 0), (6, .dat (.int .i64) 0)], [some (.seq (.int .i64) ([] : List Int))]⟩ : St))) := by
  refine Link.of fun K h => ?_
  simp only [spec_DependsOf_n2, wpO_bind, wpO_cond, wpO_map, wpO_some] at h
  exact Awp.of (by kernel_rfl) h

theorem spec_DependsOf_n3_l (x1336 : List Int) (x1337 : Int) (x1365 : Int) (x1366 : List Int) : Link spec_DependsOf_ctx LL (Code.fst (Code.fst (Code.snd (Code.fst (Code.snd (Code.snd (bodyOf Tryd.f13))))))) (Ann.fst (Ann.fst (Ann.snd (Ann.fst (Ann.snd (Ann.snd spec_DependsOf_an)))))) (⟨mkE 30 0 [(0, .dat (.list (.int .i64)) x1336), (1, .dat (.int .i64) x1337), (5, .slc 0), (6, .dat (.int .i64) x1365)], [some (.seq (.int .i64) x1366)]⟩ : St) (spec_DependsOf_n3 x1336 x1337 x1365 x1366) (Sum.elim (fun (t : Int × (List Int)) => (Exit.normal, (⟨mkE 30 0 [(0, .dat (.list (.int .i64)) x1336), (1, .dat (.int .i64) x1337), (5, .slc 0), (6, .dat (.int .i64) t.1)], [some (.seq (.int .i64) t.2)]⟩ : St))) (fun (t : (List Int)) => ((Exit.exit 0), (⟨mkE 30 0 [(5, .slc 0)], [some (.seq (.int .i64) t)]⟩ : St)))) := by
  refine Link.of fun K h => ?_
  simp only [spec_DependsOf_n3, wpO_bind, wpO_cond, wpO_map, wpO_some] at h
  exact Awp.of (by kernel_rfl) h

theorem spec_DependsOf_n4_l (x1336 : List Int) (x1337 : Int) : Link spec_DependsOf_ctx LL (Code.fst (Code.snd (Code.fst (Code.snd (Code.snd (bodyOf Tryd.f13)))))) (Ann.fst (Ann.snd (Ann.fst (Ann.snd (Ann.snd spec_DependsOf_an))))) (⟨mkE 30 0 [(0, .dat (.list (.int .i64)) x1336), (1, .dat (.int .i64) x1337), (5, .slc 0), (6, .dat (.int .i64) 0)], [some (.seq (.int .i64) ([] : List Int))]⟩ : St) (spec_DependsOf_n4 x1336 x1337) (fun (t : (List Int)) => ((Exit.exit 0), (⟨mkE 30 0 [(5, .slc 0)], [some (.seq (.int .i64) t)]⟩ : St))) := by
  unfold spec_DependsOf_n4
  exact Link.cast (by kernel_rfl) (by kernel_rfl) (link_loop (mk := fun (s : Int × (List Int)) => (⟨mkE 30 0 [(0, .dat (.list (.int .i64)) x1336), (1, .dat (.int .i64) x1337), (5, .slc 0), (6, .dat (.int .i64) s.1)], [some (.seq (.int .i64) s.2)]⟩ : St)) (fin := (fun (t : (List Int)) => ((Exit.exit 0), (⟨mkE 30 0 [(5, .slc 0)], [some (.seq (.int .i64) t)]⟩ : St)))) (by
  rintro t f K h
  · exact h) (fun s => link_map (spec_DependsOf_n3_l x1336 x1337 s.1 s.2) (Sum.elim (fun (t : Int × (List Int)) => Sum.inl (t.1, t.2)) (fun (t : (List Int)) => Sum.inr t)) (by
  rintro (t | t)
  · kernel_rfl
  · kernel_rfl)) (0, ([] : List Int)))

theorem spec_DependsOf_n5_l (x1336 : List Int) (x1337 : Int) : Link spec_DependsOf_ctx LL (Code.snd (Code.fst (Code.snd (Code.snd (bodyOf Tryd.f13))))) (Ann.snd (Ann.fst (Ann.snd (Ann.snd spec_DependsOf_an)))) (⟨mkE 30 0 [(0, .dat (.list (.int .i64)) x1336), (1, .dat (.int .i64) x1337), (5, .slc 0), (6, .dat (.int .i64) 0)], [some (.seq (.int .i64) ([] : List Int))]⟩ : St) (spec_DependsOf_n5 x1336 x1337) (fun (t : (List Int)) => (Exit.normal, (⟨mkE 30 0 [(5, .slc 0)], [some (.seq (.int .i64) t)]⟩ : St))) := by
  unfold spec_DependsOf_n5
  exact Link.cast (by kernel_rfl) (by kernel_rfl) (link_block (id := 0) (spec_DependsOf_n4_l x1336 x1337) (fun (t : (List Int)) => t) (by
  rintro t K h
  · exact Eq.mp (by kernel_rfl) h))

theorem spec_DependsOf_n6_l (x1336 : List Int) (x1337 : Int) : Link spec_DependsOf_ctx LL (Code.fst (Code.snd (Code.snd (bodyOf Tryd.f13)))) (Ann.fst (Ann.snd (Ann.snd spec_DependsOf_an))) (⟨mkE 30 0 [(0, .dat (.list (.int .i64)) x1336), (1, .dat (.int .i64) x1337), (5, .slc 0)], [some (.seq (.int .i64) ([] : List Int))]⟩ : St) (spec_DependsOf_n6 x1336 x1337) (fun (t : (List Int)) => (Exit.normal, (⟨mkE 30 0 [(5, .slc 0)], [some (.seq (.int .i64) t)]⟩ : St))) := by
  unfold spec_DependsOf_n6
  exact Link.cast (by kernel_rfl) (by kernel_rfl) (link_seq (b := (Code.snd (Code.fst (Code.snd (Code.snd (bodyOf Tryd.f13)))))) (y := (Ann.snd (Ann.fst (Ann.snd (Ann.snd spec_DependsOf_an))))) (spec_DependsOf_n2_l x1336 x1337) (fun (t : Unit) => (spec_DependsOf_n5_l x1336 x1337)))

theorem spec_DependsOf_n7_l (x1366 : List Int) : Link spec_DependsOf_ctx LL (Code.snd (Code.snd (Code.snd (bodyOf Tryd.f13)))) (Ann.snd (Ann.snd (Ann.snd spec_DependsOf_an))) (⟨mkE 30 0 [(5, .slc 0)], [some (.seq (.int .i64) x1366)]⟩ : St) (spec_DependsOf_n7 x1366) (fun (t : (List Int)) => (Exit.ret, (⟨mkE 30 0 [(4, .slc 0)], [some (.seq (.int .i64) t)]⟩ : St))) := by
  refine Link.of fun K h => ?_
  simp only [spec_DependsOf_n7, wpO_bind, wpO_cond, wpO_map, wpO_some] at h
  exact Awp.of (by kernel_rfl) h

theorem spec_DependsOf_n8_l (x1336 : List Int) (x1337 : Int) : Link spec_DependsOf_ctx LL (Code.snd (Code.snd (bodyOf Tryd.f13))) (Ann.snd (Ann.snd spec_DependsOf_an)) (⟨mkE 30 0 [(0, .dat (.list (.int .i64)) x1336), (1, .dat (.int .i64) x1337), (5, .slc 0)], [some (.seq (.int .i64) ([] : List Int))]⟩ : St) (spec_DependsOf_n8 x1336 x1337) (fun (t : (List Int)) => (Exit.ret, (⟨mkE 30 0 [(4, .slc 0)], [some (.seq (.int .i64) t)]⟩ : St))) := by
  unfold spec_DependsOf_n8
  exact Link.cast (by kernel_rfl) (by kernel_rfl) (link_seq (b := (Code.snd (Code.snd (Code.snd (bodyOf Tryd.f13))))) (y := (Ann.snd (Ann.snd (Ann.snd spec_DependsOf_an)))) (spec_DependsOf_n6_l x1336 x1337) (fun (t : (List Int)) => (spec_DependsOf_n7_l t)))

theorem spec_DependsOf_n9_l (x1336 : List Int) (x1337 : Int) : Link spec_DependsOf_ctx LL (bodyOf Tryd.f13) spec_DependsOf_an (⟨mkE 30 0 [(0, .dat (.list (.int .i64)) x1336), (1, .dat (.int .i64) x1337)], []⟩ : St) (spec_DependsOf_n9 x1336 x1337) (fun (t : (List Int)) => (Exit.ret, (⟨mkE 30 0 [(4, .slc 0)], [some (.seq (.int .i64) t)]⟩ : St))) := by
  unfold spec_DependsOf_n9
  exact Link.cast (by kernel_rfl) (by kernel_rfl) (link_group (c := (Code.fst (Code.snd (bodyOf Tryd.f13)))) (a := (Ann.fst (Ann.snd spec_DependsOf_an))) [(Code.fst (bodyOf Tryd.f13))] [(Ann.fst spec_DependsOf_an)] rfl (link_seq (b := (Code.snd (Code.snd (bodyOf Tryd.f13)))) (y := (Ann.snd (Ann.snd spec_DependsOf_an))) (spec_DependsOf_n1_l x1336 x1337) (fun (t : Unit) => (spec_DependsOf_n8_l x1336 x1337))))

theorem spec_DependsOf_e (x1336 : List Int) (x1337 : Int) {r : AV} {H' : Heap} (h : (Ans.mk _ (spec_DependsOf x1336 x1337) (fun (t : (List Int)) => (.slc 0, [some (.seq (.int .i64) t)]))).run = some (r, H')) : Awp spec_DependsOf_ctx LL (bodyOf Tryd.f13) spec_DependsOf_an (⟨mkE 30 0 [(0, .dat (.list (.int .i64)) x1336), (1, .dat (.int .i64) x1337)], []⟩ : St) (Ret (tlook tys) Tryd.f13.results.toList r H') :=
  ret_of' (spec_DependsOf_n9_l x1336 x1337) (by unfold spec_DependsOf; kernel_rfl) (by
  intro t
  exact ret_mk [.slc 0] (by kernel_rfl) (by kernel_rfl) (by kernel_rfl) (by kernel_rfl)) h

def F_spec_DependsOf : Fun := fun avs H =>
  match avs, H with
  | [.dat (.list (.int .i64)) x1336, .dat (.int .i64) x1337], [] => ⟨_, spec_DependsOf x1336 x1337, fun (t : (List Int)) => (.slc 0, [some (.seq (.int .i64) t)])⟩
  | _, _ => Ans.no

theorem spec_DependsOf_sound : Sound Tryd.prog 13 F_spec_DependsOf := by
  refine fn_sound' (C := spec_DependsOf_ctx) (c := bodyOf Tryd.f13) (cok_of tys_ok (List.forall_mem_cons.2 ⟨spec_TreeOk_sound, by simp⟩) (List.forall_mem_cons.2 ⟨Tryd.call19, by simp⟩) (by kernel_rfl)) Tryd.func13 (by kernel_rfl) LL spec_DependsOf_an ?_
  intro avs H r H' h
  unfold F_spec_DependsOf at h
  split at h
  · refine Awp.cast ?_ ?_ ?_ (spec_DependsOf_e _ _ h) <;> kernel_rfl
  · simp [Ans.no, Ans.run] at h

/-! loop.example/headtrees/impl.DependsOf -/

def impl_DependsOf_an : Ann := (.seq (.leaf [0, 1]) (.seq (.seq (.leaf [0, 1, 17]) (.cond (.seq (.leaf [4]) (.leaf [4])) (.leaf [0, 1]))) (.seq (.leaf [4]) (.leaf [4]))))

noncomputable def impl_DependsOf_ctx : Ctx := ⟨tlook tys, olook [(26, F_impl_TreeOk), (27, F_impl_dependents), (25, F_impl_wordSet_list)], ioF, 0⟩

theorem impl_DependsOf_n1_l (x1405 : List Int) (x1406 : Int) : Link impl_DependsOf_ctx LL (bodyOf Tryd.f14) impl_DependsOf_an (⟨mkE 22 0 [(0, .dat (.list (.int .i64)) x1405), (1, .dat (.int .i64) x1406)], []⟩ : St) (impl_DependsOf_n1 x1405 x1406) (fun (t : (List Int)) => (Exit.ret, (⟨mkE 22 0 [(4, .slc 0)], [some (.seq (.int .i64) t)]⟩ : St))) := by
  refine Link.of fun K h => ?_
  simp only [impl_DependsOf_n1, wpO_bind, wpO_cond, wpO_map, wpO_some] at h
  exact Awp.of (by kernel_rfl) h

theorem impl_DependsOf_e (x1405 : List Int) (x1406 : Int) {r : AV} {H' : Heap} (h : (Ans.mk _ (impl_DependsOf x1405 x1406) (fun (t : (List Int)) => (.slc 0, [some (.seq (.int .i64) t)]))).run = some (r, H')) : Awp impl_DependsOf_ctx LL (bodyOf Tryd.f14) impl_DependsOf_an (⟨mkE 22 0 [(0, .dat (.list (.int .i64)) x1405), (1, .dat (.int .i64) x1406)], []⟩ : St) (Ret (tlook tys) Tryd.f14.results.toList r H') :=
  ret_of' (impl_DependsOf_n1_l x1405 x1406) (by unfold impl_DependsOf; kernel_rfl) (by
  intro t
  exact ret_mk [.slc 0] (by kernel_rfl) (by kernel_rfl) (by kernel_rfl) (by kernel_rfl)) h

def F_impl_DependsOf : Fun := fun avs H =>
  match avs, H with
  | [.dat (.list (.int .i64)) x1405, .dat (.int .i64) x1406], [] => ⟨_, impl_DependsOf x1405 x1406, fun (t : (List Int)) => (.slc 0, [some (.seq (.int .i64) t)])⟩
  | _, _ => Ans.no

theorem impl_DependsOf_sound : Sound Tryd.prog 14 F_impl_DependsOf := by
  refine fn_sound' (C := impl_DependsOf_ctx) (c := bodyOf Tryd.f14) (cok_of tys_ok (List.forall_mem_cons.2 ⟨impl_TreeOk_sound, List.forall_mem_cons.2 ⟨impl_dependents_sound, List.forall_mem_cons.2 ⟨impl_wordSet_list_sound, by simp⟩⟩⟩) (List.forall_mem_cons.2 ⟨Tryd.call26, List.forall_mem_cons.2 ⟨Tryd.call27, List.forall_mem_cons.2 ⟨Tryd.call25, by simp⟩⟩⟩) (by kernel_rfl)) Tryd.func14 (by kernel_rfl) LL impl_DependsOf_an ?_
  intro avs H r H' h
  unfold F_impl_DependsOf at h
  split at h
  · refine Awp.cast ?_ ?_ ?_ (impl_DependsOf_e _ _ h) <;> kernel_rfl
  · simp [Ans.no, Ans.run] at h

/-! loop.example/headtrees/laws.FnExactDependsOf -/

def laws_FnExactDependsOf_an : Ann := (.seq (.leaf [0, 1]) (.seq (.seq (.leaf [0, 1, 14]) (.cond (.seq (.leaf [4]) (.leaf [4])) (.leaf [0, 1]))) (.seq (.leaf [0, 1, 5]) (.seq (.leaf [0, 1, 5, 6]) (.seq (.leaf [0, 1, 5, 6, 7]) (.seq (.seq (.leaf [0, 1, 5, 6, 7, 27]) (.cond (.seq (.leaf [4]) (.leaf [4])) (.leaf [0, 1, 5, 6, 7]))) (.seq (.seq (.leaf [0, 1, 5, 6, 7, 32]) (.cond (.seq (.leaf [4]) (.leaf [4])) (.leaf [0, 1, 5, 6, 7]))) (.seq (.leaf [0, 1, 5, 6, 7, 8]) (.seq (.leaf [0, 1, 5, 7, 8]) (.seq (.seq (.leaf [0, 1, 5, 7, 43]) (.cond (.seq (.leaf [4]) (.leaf [4])) (.leaf [0, 1, 5, 7]))) (.seq (.leaf [0, 1, 5, 7, 9]) (.seq (.leaf [0, 1, 5, 7, 9]) (.seq (.leaf [0, 1, 5, 7, 9, 10]) (.seq (.leaf [0, 1, 5, 7, 9, 10]) (.seq (.seq (.leaf [0, 1, 5, 7, 9, 10, 51]) (.cond (.seq (.leaf [4]) (.leaf [4])) (.leaf [0, 1, 5, 7, 9, 10]))) (.seq (.seq (.leaf [0, 1, 5, 7, 9, 54]) (.cond (.seq (.leaf [4]) (.leaf [4])) (.leaf [0, 1, 5, 7, 9]))) (.seq (.leaf [5, 7, 9, 11]) (.seq (.seq (.leaf [7, 9, 62]) (.cond (.seq (.leaf [4]) (.leaf [4])) (.leaf [7, 9]))) (.seq (.leaf [7, 9, 10]) (.seq (.leaf [9, 10]) (.seq (.seq (.leaf [9, 10, 67]) (.cond (.seq (.leaf [4]) (.leaf [4])) (.leaf [9, 10]))) (.seq (.seq (.leaf [70]) (.cond (.seq (.leaf [4]) (.leaf [4])) (.leaf []))) (.seq (.leaf [4]) (.leaf [4]))))))))))))))))))))))))

noncomputable def laws_FnExactDependsOf_ctx : Ctx := ⟨tlook tys, olook [(8, F_laws_toIntS), (13, F_spec_DependsOf), (14, F_impl_DependsOf), (10, F_laws_eqIntS), (11, F_laws_markIntS), (12, F_laws_heldIntS)], ioF, 0⟩

theorem laws_FnExactDependsOf_n1_l (x1329 : List Int) (x1330 : Int) : Link laws_FnExactDependsOf_ctx LL (bodyOf Tryd.f4) laws_FnExactDependsOf_an (⟨mkE 71 0 [(0, .dat (.list (.int .i64)) x1329), (1, .dat (.int .i64) x1330)], []⟩ : St) (laws_FnExactDependsOf_n1 x1329 x1330) (fun (t : Bool) => (Exit.ret, (⟨mkE 71 0 [(4, .dat .bool t)], []⟩ : St))) := by
  refine Link.of fun K h => ?_
  simp only [laws_FnExactDependsOf_n1, wpO_bind, wpO_cond, wpO_map, wpO_some] at h
  exact Awp.of (by kernel_rfl) h

theorem laws_FnExactDependsOf_e (x1329 : List Int) (x1330 : Int) {r : AV} {H' : Heap} (h : (Ans.mk _ (laws_FnExactDependsOf x1329 x1330) (fun (t : Bool) => (.dat .bool t, []))).run = some (r, H')) : Awp laws_FnExactDependsOf_ctx LL (bodyOf Tryd.f4) laws_FnExactDependsOf_an (⟨mkE 71 0 [(0, .dat (.list (.int .i64)) x1329), (1, .dat (.int .i64) x1330)], []⟩ : St) (Ret (tlook tys) Tryd.f4.results.toList r H') :=
  ret_of' (laws_FnExactDependsOf_n1_l x1329 x1330) (by unfold laws_FnExactDependsOf; kernel_rfl) (by
  intro t
  exact ret_mk [.dat .bool t] (by kernel_rfl) (by kernel_rfl) (by kernel_rfl) (by kernel_rfl)) h

def F_laws_FnExactDependsOf : Fun := fun avs H =>
  match avs, H with
  | [.dat (.list (.int .i64)) x1329, .dat (.int .i64) x1330], [] => ⟨_, laws_FnExactDependsOf x1329 x1330, fun (t : Bool) => (.dat .bool t, [])⟩
  | _, _ => Ans.no

theorem laws_FnExactDependsOf_sound : Sound Tryd.prog 4 F_laws_FnExactDependsOf := by
  refine fn_sound' (C := laws_FnExactDependsOf_ctx) (c := bodyOf Tryd.f4) (cok_of tys_ok (List.forall_mem_cons.2 ⟨laws_toIntS_sound, List.forall_mem_cons.2 ⟨spec_DependsOf_sound, List.forall_mem_cons.2 ⟨impl_DependsOf_sound, List.forall_mem_cons.2 ⟨laws_eqIntS_sound, List.forall_mem_cons.2 ⟨laws_markIntS_sound, List.forall_mem_cons.2 ⟨laws_heldIntS_sound, by simp⟩⟩⟩⟩⟩⟩) (List.forall_mem_cons.2 ⟨Tryd.call8, List.forall_mem_cons.2 ⟨Tryd.call13, List.forall_mem_cons.2 ⟨Tryd.call14, List.forall_mem_cons.2 ⟨Tryd.call10, List.forall_mem_cons.2 ⟨Tryd.call11, List.forall_mem_cons.2 ⟨Tryd.call12, by simp⟩⟩⟩⟩⟩⟩) (by kernel_rfl)) Tryd.func4 (by kernel_rfl) LL laws_FnExactDependsOf_an ?_
  intro avs H r H' h
  unfold F_laws_FnExactDependsOf at h
  split at h
  · refine Awp.cast ?_ ?_ ?_ (laws_FnExactDependsOf_e _ _ h) <;> kernel_rfl
  · simp [Ans.no, Ans.run] at h

/-! loop.example/headtrees/spec.UnderOk -/

def spec_UnderOk_an : Ann := (.seq (.leaf [0, 1, 2]) (.seq (.seq (.leaf [0, 1, 2, 23]) (.cond (.seq (.leaf [6]) (.leaf [6])) (.leaf [0, 1, 2]))) (.seq (.leaf [6]) (.leaf [6]))))

noncomputable def spec_UnderOk_ctx : Ctx := ⟨tlook tys, olook [(19, F_spec_TreeOk), (20, F_spec_l1In), (22, F_spec_l2Yield)], ioF, 0⟩

theorem spec_UnderOk_n1_l (x1850 : List Int) (x1851 : Int) (x1852 : Int) : Link spec_UnderOk_ctx LL (bodyOf Tryd.f15) spec_UnderOk_an (⟨mkE 32 0 [(0, .dat (.list (.int .i64)) x1850), (1, .dat (.int .i64) x1851), (2, .dat (.int .i64) x1852)], []⟩ : St) (spec_UnderOk_n1 x1850 x1851 x1852) (fun (t : Bool) => (Exit.ret, (⟨mkE 32 0 [(6, .dat .bool t)], []⟩ : St))) := by
  refine Link.of fun K h => ?_
  simp only [spec_UnderOk_n1, wpO_bind, wpO_cond, wpO_map, wpO_some] at h
  exact Awp.of (by kernel_rfl) h

theorem spec_UnderOk_e (x1850 : List Int) (x1851 : Int) (x1852 : Int) {r : AV} {H' : Heap} (h : (Ans.mk _ (spec_UnderOk x1850 x1851 x1852) (fun (t : Bool) => (.dat .bool t, []))).run = some (r, H')) : Awp spec_UnderOk_ctx LL (bodyOf Tryd.f15) spec_UnderOk_an (⟨mkE 32 0 [(0, .dat (.list (.int .i64)) x1850), (1, .dat (.int .i64) x1851), (2, .dat (.int .i64) x1852)], []⟩ : St) (Ret (tlook tys) Tryd.f15.results.toList r H') :=
  ret_of' (spec_UnderOk_n1_l x1850 x1851 x1852) (by unfold spec_UnderOk; kernel_rfl) (by
  intro t
  exact ret_mk [.dat .bool t] (by kernel_rfl) (by kernel_rfl) (by kernel_rfl) (by kernel_rfl)) h

def F_spec_UnderOk : Fun := fun avs H =>
  match avs, H with
  | [.dat (.list (.int .i64)) x1850, .dat (.int .i64) x1851, .dat (.int .i64) x1852], [] => ⟨_, spec_UnderOk x1850 x1851 x1852, fun (t : Bool) => (.dat .bool t, [])⟩
  | _, _ => Ans.no

theorem spec_UnderOk_sound : Sound Tryd.prog 15 F_spec_UnderOk := by
  refine fn_sound' (C := spec_UnderOk_ctx) (c := bodyOf Tryd.f15) (cok_of tys_ok (List.forall_mem_cons.2 ⟨spec_TreeOk_sound, List.forall_mem_cons.2 ⟨spec_l1In_sound, List.forall_mem_cons.2 ⟨spec_l2Yield_sound, by simp⟩⟩⟩) (List.forall_mem_cons.2 ⟨Tryd.call19, List.forall_mem_cons.2 ⟨Tryd.call20, List.forall_mem_cons.2 ⟨Tryd.call22, by simp⟩⟩⟩) (by kernel_rfl)) Tryd.func15 (by kernel_rfl) LL spec_UnderOk_an ?_
  intro avs H r H' h
  unfold F_spec_UnderOk at h
  split at h
  · refine Awp.cast ?_ ?_ ?_ (spec_UnderOk_e _ _ _ h) <;> kernel_rfl
  · simp [Ans.no, Ans.run] at h

/-! (loop.example/headtrees/impl.wordSet).hasAll -/

def impl_wordSet_hasAll_an : Ann := (.seq (.leaf [0, 1]) (.seq (.leaf [4]) (.leaf [4])))

noncomputable def impl_wordSet_hasAll_ctx : Ctx := ⟨tlook tys, olook [], ioF, 0⟩

theorem impl_wordSet_hasAll_n1_l (x1915 : Int) (x1916 : Int) : Link impl_wordSet_hasAll_ctx LL (bodyOf Tryd.f28) impl_wordSet_hasAll_an (⟨mkE 10 0 [(0, .dat (.int .u64) x1915), (1, .dat (.int .u64) x1916)], []⟩ : St) (impl_wordSet_hasAll_n1 x1915 x1916) (fun (t : Bool) => (Exit.ret, (⟨mkE 10 0 [(4, .dat .bool t)], []⟩ : St))) := by
  refine Link.of fun K h => ?_
  simp only [impl_wordSet_hasAll_n1, wpO_bind, wpO_cond, wpO_map, wpO_some] at h
  exact Awp.of (by kernel_rfl) h

theorem impl_wordSet_hasAll_e (x1915 : Int) (x1916 : Int) {r : AV} {H' : Heap} (h : (Ans.mk _ (impl_wordSet_hasAll x1915 x1916) (fun (t : Bool) => (.dat .bool t, []))).run = some (r, H')) : Awp impl_wordSet_hasAll_ctx LL (bodyOf Tryd.f28) impl_wordSet_hasAll_an (⟨mkE 10 0 [(0, .dat (.int .u64) x1915), (1, .dat (.int .u64) x1916)], []⟩ : St) (Ret (tlook tys) Tryd.f28.results.toList r H') :=
  ret_of' (impl_wordSet_hasAll_n1_l x1915 x1916) (by unfold impl_wordSet_hasAll; kernel_rfl) (by
  intro t
  exact ret_mk [.dat .bool t] (by kernel_rfl) (by kernel_rfl) (by kernel_rfl) (by kernel_rfl)) h

def F_impl_wordSet_hasAll : Fun := fun avs H =>
  match avs, H with
  | [.dat (.int .u64) x1915, .dat (.int .u64) x1916], [] => ⟨_, impl_wordSet_hasAll x1915 x1916, fun (t : Bool) => (.dat .bool t, [])⟩
  | _, _ => Ans.no

theorem impl_wordSet_hasAll_sound : Sound Tryd.prog 28 F_impl_wordSet_hasAll := by
  refine fn_sound' (C := impl_wordSet_hasAll_ctx) (c := bodyOf Tryd.f28) (cok_of tys_ok (by simp) (by simp) (by kernel_rfl)) Tryd.func28 (by kernel_rfl) LL impl_wordSet_hasAll_an ?_
  intro avs H r H' h
  unfold F_impl_wordSet_hasAll at h
  split at h
  · refine Awp.cast ?_ ?_ ?_ (impl_wordSet_hasAll_e _ _ h) <;> kernel_rfl
  · simp [Ans.no, Ans.run] at h

/-! loop.example/headtrees/impl.UnderOk -/

def impl_UnderOk_an : Ann := (.seq (.leaf [0, 1, 2]) (.seq (.seq (.leaf [0, 1, 2, 16]) (.cond (.seq (.leaf [6]) (.leaf [6])) (.leaf [0, 1, 2]))) (.seq (.draw [1, 7, 8] [0, 2, 3, 6, 1, 4, 5, 7, 8, 9] [] [6]) (.leaf [6]))))

noncomputable def impl_UnderOk_ctx : Ctx := ⟨tlook tys, olook [(23, F_impl_wordOk), (24, F_impl_yieldsOf), (29, F_impl_only), (28, F_impl_wordSet_hasAll)], ioF, 0⟩

theorem impl_UnderOk_n1_l (x1899 : List Int) (x1900 : Int) (x1901 : Int) : Link impl_UnderOk_ctx LL (bodyOf Tryd.f16) impl_UnderOk_an (⟨mkE 26 0 [(0, .dat (.list (.int .i64)) x1899), (1, .dat (.int .i64) x1900), (2, .dat (.int .i64) x1901)], []⟩ : St) (impl_UnderOk_n1 x1899 x1900 x1901) (fun (t : Bool) => (Exit.ret, (⟨mkE 26 0 [(6, .dat .bool t)], []⟩ : St))) := by
  refine Link.of fun K h => ?_
  simp only [impl_UnderOk_n1, wpO_bind, wpO_cond, wpO_map, wpO_some] at h
  exact Awp.of (by kernel_rfl) h

theorem impl_UnderOk_e (x1899 : List Int) (x1900 : Int) (x1901 : Int) {r : AV} {H' : Heap} (h : (Ans.mk _ (impl_UnderOk x1899 x1900 x1901) (fun (t : Bool) => (.dat .bool t, []))).run = some (r, H')) : Awp impl_UnderOk_ctx LL (bodyOf Tryd.f16) impl_UnderOk_an (⟨mkE 26 0 [(0, .dat (.list (.int .i64)) x1899), (1, .dat (.int .i64) x1900), (2, .dat (.int .i64) x1901)], []⟩ : St) (Ret (tlook tys) Tryd.f16.results.toList r H') :=
  ret_of' (impl_UnderOk_n1_l x1899 x1900 x1901) (by unfold impl_UnderOk; kernel_rfl) (by
  intro t
  exact ret_mk [.dat .bool t] (by kernel_rfl) (by kernel_rfl) (by kernel_rfl) (by kernel_rfl)) h

def F_impl_UnderOk : Fun := fun avs H =>
  match avs, H with
  | [.dat (.list (.int .i64)) x1899, .dat (.int .i64) x1900, .dat (.int .i64) x1901], [] => ⟨_, impl_UnderOk x1899 x1900 x1901, fun (t : Bool) => (.dat .bool t, [])⟩
  | _, _ => Ans.no

theorem impl_UnderOk_sound : Sound Tryd.prog 16 F_impl_UnderOk := by
  refine fn_sound' (C := impl_UnderOk_ctx) (c := bodyOf Tryd.f16) (cok_of tys_ok (List.forall_mem_cons.2 ⟨impl_wordOk_sound, List.forall_mem_cons.2 ⟨impl_yieldsOf_sound, List.forall_mem_cons.2 ⟨impl_only_sound, List.forall_mem_cons.2 ⟨impl_wordSet_hasAll_sound, by simp⟩⟩⟩⟩) (List.forall_mem_cons.2 ⟨Tryd.call23, List.forall_mem_cons.2 ⟨Tryd.call24, List.forall_mem_cons.2 ⟨Tryd.call29, List.forall_mem_cons.2 ⟨Tryd.call28, by simp⟩⟩⟩⟩) (by kernel_rfl)) Tryd.func16 (by kernel_rfl) LL impl_UnderOk_an ?_
  intro avs H r H' h
  unfold F_impl_UnderOk at h
  split at h
  · refine Awp.cast ?_ ?_ ?_ (impl_UnderOk_e _ _ _ h) <;> kernel_rfl
  · simp [Ans.no, Ans.run] at h

/-! loop.example/headtrees/laws.FnExactUnderOk -/

def laws_FnExactUnderOk_an : Ann := (.seq (.leaf [0, 1, 2]) (.seq (.seq (.leaf [0, 1, 2, 12]) (.cond (.seq (.leaf [6]) (.leaf [6])) (.leaf [0, 1, 2]))) (.seq (.leaf [0, 1, 2, 7]) (.seq (.leaf [0, 1, 2, 7, 8]) (.seq (.leaf [0, 7, 8, 9]) (.seq (.seq (.leaf [0, 8, 26]) (.cond (.seq (.leaf [6]) (.leaf [6])) (.leaf [0, 8]))) (.seq (.seq (.leaf [31]) (.cond (.seq (.leaf [6]) (.leaf [6])) (.leaf []))) (.seq (.leaf [6]) (.leaf [6])))))))))

noncomputable def laws_FnExactUnderOk_ctx : Ctx := ⟨tlook tys, olook [(8, F_laws_toIntS), (15, F_spec_UnderOk), (16, F_impl_UnderOk), (10, F_laws_eqIntS)], ioF, 0⟩

theorem laws_FnExactUnderOk_n1_l (x1842 : List Int) (x1843 : Int) (x1844 : Int) : Link laws_FnExactUnderOk_ctx LL (bodyOf Tryd.f5) laws_FnExactUnderOk_an (⟨mkE 32 0 [(0, .dat (.list (.int .i64)) x1842), (1, .dat (.int .i64) x1843), (2, .dat (.int .i64) x1844)], []⟩ : St) (laws_FnExactUnderOk_n1 x1842 x1843 x1844) (fun (t : Bool) => (Exit.ret, (⟨mkE 32 0 [(6, .dat .bool t)], []⟩ : St))) := by
  refine Link.of fun K h => ?_
  simp only [laws_FnExactUnderOk_n1, wpO_bind, wpO_cond, wpO_map, wpO_some] at h
  exact Awp.of (by kernel_rfl) h

theorem laws_FnExactUnderOk_e (x1842 : List Int) (x1843 : Int) (x1844 : Int) {r : AV} {H' : Heap} (h : (Ans.mk _ (laws_FnExactUnderOk x1842 x1843 x1844) (fun (t : Bool) => (.dat .bool t, []))).run = some (r, H')) : Awp laws_FnExactUnderOk_ctx LL (bodyOf Tryd.f5) laws_FnExactUnderOk_an (⟨mkE 32 0 [(0, .dat (.list (.int .i64)) x1842), (1, .dat (.int .i64) x1843), (2, .dat (.int .i64) x1844)], []⟩ : St) (Ret (tlook tys) Tryd.f5.results.toList r H') :=
  ret_of' (laws_FnExactUnderOk_n1_l x1842 x1843 x1844) (by unfold laws_FnExactUnderOk; kernel_rfl) (by
  intro t
  exact ret_mk [.dat .bool t] (by kernel_rfl) (by kernel_rfl) (by kernel_rfl) (by kernel_rfl)) h

def F_laws_FnExactUnderOk : Fun := fun avs H =>
  match avs, H with
  | [.dat (.list (.int .i64)) x1842, .dat (.int .i64) x1843, .dat (.int .i64) x1844], [] => ⟨_, laws_FnExactUnderOk x1842 x1843 x1844, fun (t : Bool) => (.dat .bool t, [])⟩
  | _, _ => Ans.no

theorem laws_FnExactUnderOk_sound : Sound Tryd.prog 5 F_laws_FnExactUnderOk := by
  refine fn_sound' (C := laws_FnExactUnderOk_ctx) (c := bodyOf Tryd.f5) (cok_of tys_ok (List.forall_mem_cons.2 ⟨laws_toIntS_sound, List.forall_mem_cons.2 ⟨spec_UnderOk_sound, List.forall_mem_cons.2 ⟨impl_UnderOk_sound, List.forall_mem_cons.2 ⟨laws_eqIntS_sound, by simp⟩⟩⟩⟩) (List.forall_mem_cons.2 ⟨Tryd.call8, List.forall_mem_cons.2 ⟨Tryd.call15, List.forall_mem_cons.2 ⟨Tryd.call16, List.forall_mem_cons.2 ⟨Tryd.call10, by simp⟩⟩⟩⟩) (by kernel_rfl)) Tryd.func5 (by kernel_rfl) LL laws_FnExactUnderOk_an ?_
  intro avs H r H' h
  unfold F_laws_FnExactUnderOk at h
  split at h
  · refine Awp.cast ?_ ?_ ?_ (laws_FnExactUnderOk_e _ _ _ h) <;> kernel_rfl
  · simp [Ans.no, Ans.run] at h

/-! loop.example/headtrees/spec.MeetOf -/

def spec_MeetOf_an : Ann := (.seq (.leaf [0, 1, 2]) (.seq (.seq (.leaf [0, 1, 2, 24]) (.cond (.seq (.leaf [6]) (.leaf [6])) (.leaf [0, 1, 2]))) (.seq (.leaf [0, 2, 7]) (.block (.loop (.seq (.block (.seq (.leaf [0, 2, 7, 38]) (.cond (.seq (.leaf [6]) (.leaf [6])) (.leaf [0, 2, 7])))) (.leaf [0, 2, 7])))))))

noncomputable def spec_MeetOf_ctx : Ctx := ⟨tlook tys, olook [(19, F_spec_TreeOk), (20, F_spec_l1In), (22, F_spec_l2Yield)], ioF, 0⟩

theorem spec_MeetOf_n1_l (x1983 : List Int) (x1984 : Int) (x1985 : Int) : Link spec_MeetOf_ctx LL (Code.seq (Code.fst (bodyOf Tryd.f17)) (Code.seq (Code.fst (Code.snd (bodyOf Tryd.f17))) (Code.fst (Code.snd (Code.snd (bodyOf Tryd.f17)))))) (Ann.seq (Ann.fst spec_MeetOf_an) (Ann.seq (Ann.fst (Ann.snd spec_MeetOf_an)) (Ann.fst (Ann.snd (Ann.snd spec_MeetOf_an))))) (⟨mkE 40 0 [(0, .dat (.list (.int .i64)) x1983), (1, .dat (.int .i64) x1984), (2, .dat (.int .i64) x1985)], []⟩ : St) (spec_MeetOf_n1 x1983 x1984 x1985) (Sum.elim (fun (t : Unit) => (Exit.normal, (⟨mkE 40 0 [(0, .dat (.list (.int .i64)) x1983), (2, .dat (.int .i64) x1985), (7, .dat (.int .i64) x1984)], []⟩ : St))) (fun (t : Int) => (Exit.ret, (⟨mkE 40 0 [(6, .dat (.int .i64) t)], []⟩ : St)))) := by
  refine Link.of fun K h => ?_
  simp only [spec_MeetOf_n1, wpO_bind, wpO_cond, wpO_map, wpO_some] at h
  exact Awp.of (by kernel_rfl) h

theorem spec_MeetOf_n2_l (x1983 : List Int) (x1985 : Int) (x2014 : Int) : Link spec_MeetOf_ctx LL (Code.fst (Code.fst (Code.snd (Code.snd (Code.snd (bodyOf Tryd.f17)))))) (Ann.fst (Ann.fst (Ann.snd (Ann.snd (Ann.snd spec_MeetOf_an))))) (⟨mkE 40 0 [(0, .dat (.list (.int .i64)) x1983), (2, .dat (.int .i64) x1985), (7, .dat (.int .i64) x2014)], []⟩ : St) (spec_MeetOf_n2 x1983 x1985 x2014) (Sum.elim (fun (t : Int) => (Exit.normal, (⟨mkE 40 0 [(0, .dat (.list (.int .i64)) x1983), (2, .dat (.int .i64) x1985), (7, .dat (.int .i64) t)], []⟩ : St))) (fun (t : Int) => (Exit.ret, (⟨mkE 40 0 [(6, .dat (.int .i64) t)], []⟩ : St)))) := by
  refine Link.of fun K h => ?_
  simp only [spec_MeetOf_n2, wpO_bind, wpO_cond, wpO_map, wpO_some] at h
  exact Awp.of (by kernel_rfl) h

theorem spec_MeetOf_n3_l (x1983 : List Int) (x1985 : Int) (x1984 : Int) : Link spec_MeetOf_ctx LL (Code.fst (Code.snd (Code.snd (Code.snd (bodyOf Tryd.f17))))) (Ann.fst (Ann.snd (Ann.snd (Ann.snd spec_MeetOf_an)))) (⟨mkE 40 0 [(0, .dat (.list (.int .i64)) x1983), (2, .dat (.int .i64) x1985), (7, .dat (.int .i64) x1984)], []⟩ : St) (spec_MeetOf_n3 x1983 x1985 x1984) (fun (t : Int) => (Exit.ret, (⟨mkE 40 0 [(6, .dat (.int .i64) t)], []⟩ : St))) := by
  unfold spec_MeetOf_n3
  exact Link.cast (by kernel_rfl) (by kernel_rfl) (link_loop (mk := fun (s : Int) => (⟨mkE 40 0 [(0, .dat (.list (.int .i64)) x1983), (2, .dat (.int .i64) x1985), (7, .dat (.int .i64) s)], []⟩ : St)) (fin := (fun (t : Int) => (Exit.ret, (⟨mkE 40 0 [(6, .dat (.int .i64) t)], []⟩ : St)))) (by
  rintro t f K h
  · exact h) (fun s => link_map (spec_MeetOf_n2_l x1983 x1985 s) (Sum.elim (fun (t : Int) => Sum.inl t) (fun (t : Int) => Sum.inr t)) (by
  rintro (t | t)
  · kernel_rfl
  · kernel_rfl)) x1984)

theorem spec_MeetOf_n4_l (x1983 : List Int) (x1985 : Int) (x1984 : Int) : Link spec_MeetOf_ctx LL (Code.snd (Code.snd (Code.snd (bodyOf Tryd.f17)))) (Ann.snd (Ann.snd (Ann.snd spec_MeetOf_an))) (⟨mkE 40 0 [(0, .dat (.list (.int .i64)) x1983), (2, .dat (.int .i64) x1985), (7, .dat (.int .i64) x1984)], []⟩ : St) (spec_MeetOf_n4 x1983 x1985 x1984) (fun (t : Int) => (Exit.ret, (⟨mkE 40 0 [(6, .dat (.int .i64) t)], []⟩ : St))) := by
  unfold spec_MeetOf_n4
  exact Link.cast (by kernel_rfl) (by kernel_rfl) (link_block (id := 0) (spec_MeetOf_n3_l x1983 x1985 x1984) (fun (t : Int) => t) (by
  rintro t K h
  · exact Eq.mp (by kernel_rfl) h))

theorem spec_MeetOf_n5_l (x1983 : List Int) (x1984 : Int) (x1985 : Int) : Link spec_MeetOf_ctx LL (bodyOf Tryd.f17) spec_MeetOf_an (⟨mkE 40 0 [(0, .dat (.list (.int .i64)) x1983), (1, .dat (.int .i64) x1984), (2, .dat (.int .i64) x1985)], []⟩ : St) (spec_MeetOf_n5 x1983 x1984 x1985) (fun (t : Int) => (Exit.ret, (⟨mkE 40 0 [(6, .dat (.int .i64) t)], []⟩ : St))) := by
  unfold spec_MeetOf_n5
  exact Link.cast (by kernel_rfl) (by kernel_rfl) (link_group (c := (Code.fst (Code.snd (Code.snd (bodyOf Tryd.f17))))) (a := (Ann.fst (Ann.snd (Ann.snd spec_MeetOf_an)))) [(Code.fst (bodyOf Tryd.f17)), (Code.fst (Code.snd (bodyOf Tryd.f17)))] [(Ann.fst spec_MeetOf_an), (Ann.fst (Ann.snd spec_MeetOf_an))] rfl (link_seq2 (b := (Code.snd (Code.snd (Code.snd (bodyOf Tryd.f17))))) (y := (Ann.snd (Ann.snd (Ann.snd spec_MeetOf_an)))) (spec_MeetOf_n1_l x1983 x1984 x1985) (fun (t : Unit) => (spec_MeetOf_n4_l x1983 x1985 x1984)) (fun (t : Int) => t) (by
  rintro t
  · kernel_rfl) (by
  rintro t f K h
  · exact h)))

theorem spec_MeetOf_e (x1983 : List Int) (x1984 : Int) (x1985 : Int) {r : AV} {H' : Heap} (h : (Ans.mk _ (spec_MeetOf x1983 x1984 x1985) (fun (t : Int) => (.dat (.int .i64) t, []))).run = some (r, H')) : Awp spec_MeetOf_ctx LL (bodyOf Tryd.f17) spec_MeetOf_an (⟨mkE 40 0 [(0, .dat (.list (.int .i64)) x1983), (1, .dat (.int .i64) x1984), (2, .dat (.int .i64) x1985)], []⟩ : St) (Ret (tlook tys) Tryd.f17.results.toList r H') :=
  ret_of' (spec_MeetOf_n5_l x1983 x1984 x1985) (by unfold spec_MeetOf; kernel_rfl) (by
  intro t
  exact ret_mk [.dat (.int .i64) t] (by kernel_rfl) (by kernel_rfl) (by kernel_rfl) (by kernel_rfl)) h

def F_spec_MeetOf : Fun := fun avs H =>
  match avs, H with
  | [.dat (.list (.int .i64)) x1983, .dat (.int .i64) x1984, .dat (.int .i64) x1985], [] => ⟨_, spec_MeetOf x1983 x1984 x1985, fun (t : Int) => (.dat (.int .i64) t, [])⟩
  | _, _ => Ans.no

theorem spec_MeetOf_sound : Sound Tryd.prog 17 F_spec_MeetOf := by
  refine fn_sound' (C := spec_MeetOf_ctx) (c := bodyOf Tryd.f17) (cok_of tys_ok (List.forall_mem_cons.2 ⟨spec_TreeOk_sound, List.forall_mem_cons.2 ⟨spec_l1In_sound, List.forall_mem_cons.2 ⟨spec_l2Yield_sound, by simp⟩⟩⟩) (List.forall_mem_cons.2 ⟨Tryd.call19, List.forall_mem_cons.2 ⟨Tryd.call20, List.forall_mem_cons.2 ⟨Tryd.call22, by simp⟩⟩⟩) (by kernel_rfl)) Tryd.func17 (by kernel_rfl) LL spec_MeetOf_an ?_
  intro avs H r H' h
  unfold F_spec_MeetOf at h
  split at h
  · refine Awp.cast ?_ ?_ ?_ (spec_MeetOf_e _ _ _ h) <;> kernel_rfl
  · simp [Ans.no, Ans.run] at h

/-! loop.example/headtrees/impl.DepthOf -/

def impl_DepthOf_an : Ann := (.seq (.leaf [0]) (.seq (.seq (.leaf [0, 7]) (.cond (.seq (.leaf [2]) (.leaf [2])) (.leaf [0]))) (.seq (.leaf [0, 3]) (.seq (.seq (.leaf [0, 3, 12, 13]) (.block (.loop (.seq (.leaf [0, 3, 12, 13, 14]) (.seq (.cond (.leaf [0, 3, 12, 13]) (.leaf [3])) (.seq (.block (.seq (.leaf [0, 3, 4, 12, 13]) (.leaf [0, 3, 12, 13]))) (.leaf [0, 3, 12, 13]))))))) (.seq (.leaf [2]) (.leaf [2]))))))

noncomputable def impl_DepthOf_ctx : Ctx := ⟨tlook tys, olook [(26, F_impl_TreeOk), (36, F_impl_stepsToRoot)], ioF, 0⟩

theorem impl_DepthOf_n1_l (x2056 : List Int) : Link impl_DepthOf_ctx LL (Code.seq (Code.fst (bodyOf Tryd.f31)) (Code.seq (Code.fst (Code.snd (bodyOf Tryd.f31))) (Code.fst (Code.snd (Code.snd (bodyOf Tryd.f31)))))) (Ann.seq (Ann.fst impl_DepthOf_an) (Ann.seq (Ann.fst (Ann.snd impl_DepthOf_an)) (Ann.fst (Ann.snd (Ann.snd impl_DepthOf_an))))) (⟨mkE 28 0 [(0, .dat (.list (.int .i64)) x2056)], []⟩ : St) (impl_DepthOf_n1 x2056) (Sum.elim (fun (t : (List Int)) => (Exit.normal, (⟨mkE 28 0 [(0, .dat (.list (.int .i64)) x2056), (3, .slc 0)], [some (.seq (.int .i64) t)]⟩ : St))) (fun (t : (List Int)) => (Exit.ret, (⟨mkE 28 0 [(2, .slc 0)], [some (.seq (.int .i64) t)]⟩ : St)))) := by
  refine Link.of fun K h => ?_
  simp only [impl_DepthOf_n1, wpO_bind, wpO_cond, wpO_map, wpO_some] at h
  exact Awp.of (by kernel_rfl) h

theorem impl_DepthOf_n2_l (x2056 : List Int) (x2063 : List Int) : Link impl_DepthOf_ctx LL (Code.fst (Code.fst (Code.snd (Code.snd (Code.snd (bodyOf Tryd.f31)))))) (Ann.fst (Ann.fst (Ann.snd (Ann.snd (Ann.snd impl_DepthOf_an))))) (⟨mkE 28 0 [(0, .dat (.list (.int .i64)) x2056), (3, .slc 0)], [some (.seq (.int .i64) x2063)]⟩ : St) (impl_DepthOf_n2 x2056) (fun (t : Int) => (Exit.normal, (⟨mkE 28 0 [(0, .dat (.list (.int .i64)) x2056), (3, .slc 0), (12, .dat (.int .i64) t), (13, .dat (.int .i64) 0)], [some (.seq (.int .i64) x2063)]⟩ : St))) := by
  refine Link.of fun K h => ?_
  simp only [impl_DepthOf_n2, wpO_bind, wpO_cond, wpO_map, wpO_some] at h
  exact Awp.of (by kernel_rfl) h

theorem impl_DepthOf_n3_l (x2056 : List Int) (x2064 : Int) (x2082 : Int) (x2083 : List Int) : Link impl_DepthOf_ctx LL (Code.fst (Code.fst (Code.snd (Code.fst (Code.snd (Code.snd (Code.snd (bodyOf Tryd.f31)))))))) (Ann.fst (Ann.fst (Ann.snd (Ann.fst (Ann.snd (Ann.snd (Ann.snd impl_DepthOf_an))))))) (⟨mkE 28 0 [(0, .dat (.list (.int .i64)) x2056), (3, .slc 0), (12, .dat (.int .i64) x2064), (13, .dat (.int .i64) x2082)], [some (.seq (.int .i64) x2083)]⟩ : St) (impl_DepthOf_n3 x2056 x2064 x2082 x2083) (Sum.elim (fun (t : Int × (List Int)) => (Exit.normal, (⟨mkE 28 0 [(0, .dat (.list (.int .i64)) x2056), (3, .slc 0), (12, .dat (.int .i64) x2064), (13, .dat (.int .i64) t.1)], [some (.seq (.int .i64) t.2)]⟩ : St))) (fun (t : (List Int)) => ((Exit.exit 0), (⟨mkE 28 0 [(3, .slc 0)], [some (.seq (.int .i64) t)]⟩ : St)))) := by
  refine Link.of fun K h => ?_
  simp only [impl_DepthOf_n3, wpO_bind, wpO_cond, wpO_map, wpO_some] at h
  exact Awp.of (by kernel_rfl) h

theorem impl_DepthOf_n4_l (x2056 : List Int) (x2064 : Int) (x2063 : List Int) : Link impl_DepthOf_ctx LL (Code.fst (Code.snd (Code.fst (Code.snd (Code.snd (Code.snd (bodyOf Tryd.f31))))))) (Ann.fst (Ann.snd (Ann.fst (Ann.snd (Ann.snd (Ann.snd impl_DepthOf_an)))))) (⟨mkE 28 0 [(0, .dat (.list (.int .i64)) x2056), (3, .slc 0), (12, .dat (.int .i64) x2064), (13, .dat (.int .i64) 0)], [some (.seq (.int .i64) x2063)]⟩ : St) (impl_DepthOf_n4 x2056 x2064 x2063) (fun (t : (List Int)) => ((Exit.exit 0), (⟨mkE 28 0 [(3, .slc 0)], [some (.seq (.int .i64) t)]⟩ : St))) := by
  unfold impl_DepthOf_n4
  exact Link.cast (by kernel_rfl) (by kernel_rfl) (link_loop (mk := fun (s : Int × (List Int)) => (⟨mkE 28 0 [(0, .dat (.list (.int .i64)) x2056), (3, .slc 0), (12, .dat (.int .i64) x2064), (13, .dat (.int .i64) s.1)], [some (.seq (.int .i64) s.2)]⟩ : St)) (fin := (fun (t : (List Int)) => ((Exit.exit 0), (⟨mkE 28 0 [(3, .slc 0)], [some (.seq (.int .i64) t)]⟩ : St)))) (by
  rintro t f K h
  · exact h) (fun s => link_map (impl_DepthOf_n3_l x2056 x2064 s.1 s.2) (Sum.elim (fun (t : Int × (List Int)) => Sum.inl (t.1, t.2)) (fun (t : (List Int)) => Sum.inr t)) (by
  rintro (t | t)
  · kernel_rfl
  · kernel_rfl)) (0, x2063))

theorem impl_DepthOf_n5_l (x2056 : List Int) (x2064 : Int) (x2063 : List Int) : Link impl_DepthOf_ctx LL (Code.snd (Code.fst (Code.snd (Code.snd (Code.snd (bodyOf Tryd.f31)))))) (Ann.snd (Ann.fst (Ann.snd (Ann.snd (Ann.snd impl_DepthOf_an))))) (⟨mkE 28 0 [(0, .dat (.list (.int .i64)) x2056), (3, .slc 0), (12, .dat (.int .i64) x2064), (13, .dat (.int .i64) 0)], [some (.seq (.int .i64) x2063)]⟩ : St) (impl_DepthOf_n5 x2056 x2064 x2063) (fun (t : (List Int)) => (Exit.normal, (⟨mkE 28 0 [(3, .slc 0)], [some (.seq (.int .i64) t)]⟩ : St))) := by
  unfold impl_DepthOf_n5
  exact Link.cast (by kernel_rfl) (by kernel_rfl) (link_block (id := 0) (impl_DepthOf_n4_l x2056 x2064 x2063) (fun (t : (List Int)) => t) (by
  rintro t K h
  · exact Eq.mp (by kernel_rfl) h))

theorem impl_DepthOf_n6_l (x2056 : List Int) (x2063 : List Int) : Link impl_DepthOf_ctx LL (Code.fst (Code.snd (Code.snd (Code.snd (bodyOf Tryd.f31))))) (Ann.fst (Ann.snd (Ann.snd (Ann.snd impl_DepthOf_an)))) (⟨mkE 28 0 [(0, .dat (.list (.int .i64)) x2056), (3, .slc 0)], [some (.seq (.int .i64) x2063)]⟩ : St) (impl_DepthOf_n6 x2056 x2063) (fun (t : (List Int)) => (Exit.normal, (⟨mkE 28 0 [(3, .slc 0)], [some (.seq (.int .i64) t)]⟩ : St))) := by
  unfold impl_DepthOf_n6
  exact Link.cast (by kernel_rfl) (by kernel_rfl) (link_seq (b := (Code.snd (Code.fst (Code.snd (Code.snd (Code.snd (bodyOf Tryd.f31))))))) (y := (Ann.snd (Ann.fst (Ann.snd (Ann.snd (Ann.snd impl_DepthOf_an)))))) (impl_DepthOf_n2_l x2056 x2063) (fun (t : Int) => (impl_DepthOf_n5_l x2056 t x2063)))

theorem impl_DepthOf_n7_l (x2083 : List Int) : Link impl_DepthOf_ctx LL (Code.snd (Code.snd (Code.snd (Code.snd (bodyOf Tryd.f31))))) (Ann.snd (Ann.snd (Ann.snd (Ann.snd impl_DepthOf_an)))) (⟨mkE 28 0 [(3, .slc 0)], [some (.seq (.int .i64) x2083)]⟩ : St) (impl_DepthOf_n7 x2083) (fun (t : (List Int)) => (Exit.ret, (⟨mkE 28 0 [(2, .slc 0)], [some (.seq (.int .i64) t)]⟩ : St))) := by
  refine Link.of fun K h => ?_
  simp only [impl_DepthOf_n7, wpO_bind, wpO_cond, wpO_map, wpO_some] at h
  exact Awp.of (by kernel_rfl) h

theorem impl_DepthOf_n8_l (x2056 : List Int) (x2063 : List Int) : Link impl_DepthOf_ctx LL (Code.snd (Code.snd (Code.snd (bodyOf Tryd.f31)))) (Ann.snd (Ann.snd (Ann.snd impl_DepthOf_an))) (⟨mkE 28 0 [(0, .dat (.list (.int .i64)) x2056), (3, .slc 0)], [some (.seq (.int .i64) x2063)]⟩ : St) (impl_DepthOf_n8 x2056 x2063) (fun (t : (List Int)) => (Exit.ret, (⟨mkE 28 0 [(2, .slc 0)], [some (.seq (.int .i64) t)]⟩ : St))) := by
  unfold impl_DepthOf_n8
  exact Link.cast (by kernel_rfl) (by kernel_rfl) (link_seq (b := (Code.snd (Code.snd (Code.snd (Code.snd (bodyOf Tryd.f31)))))) (y := (Ann.snd (Ann.snd (Ann.snd (Ann.snd impl_DepthOf_an))))) (impl_DepthOf_n6_l x2056 x2063) (fun (t : (List Int)) => (impl_DepthOf_n7_l t)))

theorem impl_DepthOf_n9_l (x2056 : List Int) : Link impl_DepthOf_ctx LL (bodyOf Tryd.f31) impl_DepthOf_an (⟨mkE 28 0 [(0, .dat (.list (.int .i64)) x2056)], []⟩ : St) (impl_DepthOf_n9 x2056) (fun (t : (List Int)) => (Exit.ret, (⟨mkE 28 0 [(2, .slc 0)], [some (.seq (.int .i64) t)]⟩ : St))) := by
  unfold impl_DepthOf_n9
  exact Link.cast (by kernel_rfl) (by kernel_rfl) (link_group (c := (Code.fst (Code.snd (Code.snd (bodyOf Tryd.f31))))) (a := (Ann.fst (Ann.snd (Ann.snd impl_DepthOf_an)))) [(Code.fst (bodyOf Tryd.f31)), (Code.fst (Code.snd (bodyOf Tryd.f31)))] [(Ann.fst impl_DepthOf_an), (Ann.fst (Ann.snd impl_DepthOf_an))] rfl (link_seq2 (b := (Code.snd (Code.snd (Code.snd (bodyOf Tryd.f31))))) (y := (Ann.snd (Ann.snd (Ann.snd impl_DepthOf_an)))) (impl_DepthOf_n1_l x2056) (fun (t : (List Int)) => (impl_DepthOf_n8_l x2056 t)) (fun (t : (List Int)) => t) (by
  rintro t
  · kernel_rfl) (by
  rintro t f K h
  · exact h)))

theorem impl_DepthOf_e (x2056 : List Int) {r : AV} {H' : Heap} (h : (Ans.mk _ (impl_DepthOf x2056) (fun (t : (List Int)) => (.slc 0, [some (.seq (.int .i64) t)]))).run = some (r, H')) : Awp impl_DepthOf_ctx LL (bodyOf Tryd.f31) impl_DepthOf_an (⟨mkE 28 0 [(0, .dat (.list (.int .i64)) x2056)], []⟩ : St) (Ret (tlook tys) Tryd.f31.results.toList r H') :=
  ret_of' (impl_DepthOf_n9_l x2056) (by unfold impl_DepthOf; kernel_rfl) (by
  intro t
  exact ret_mk [.slc 0] (by kernel_rfl) (by kernel_rfl) (by kernel_rfl) (by kernel_rfl)) h

def F_impl_DepthOf : Fun := fun avs H =>
  match avs, H with
  | [.dat (.list (.int .i64)) x2056], [] => ⟨_, impl_DepthOf x2056, fun (t : (List Int)) => (.slc 0, [some (.seq (.int .i64) t)])⟩
  | _, _ => Ans.no

theorem impl_DepthOf_sound : Sound Tryd.prog 31 F_impl_DepthOf := by
  refine fn_sound' (C := impl_DepthOf_ctx) (c := bodyOf Tryd.f31) (cok_of tys_ok (List.forall_mem_cons.2 ⟨impl_TreeOk_sound, List.forall_mem_cons.2 ⟨impl_stepsToRoot_sound, by simp⟩⟩) (List.forall_mem_cons.2 ⟨Tryd.call26, List.forall_mem_cons.2 ⟨Tryd.call36, by simp⟩⟩) (by kernel_rfl)) Tryd.func31 (by kernel_rfl) LL impl_DepthOf_an ?_
  intro avs H r H' h
  unfold F_impl_DepthOf at h
  split at h
  · refine Awp.cast ?_ ?_ ?_ (impl_DepthOf_e _ h) <;> kernel_rfl
  · simp [Ans.no, Ans.run] at h

/-! loop.example/headtrees/impl.MeetOf -/

def impl_MeetOf_an : Ann := (.seq (.leaf [0, 1, 2]) (.seq (.seq (.leaf [0, 1, 2, 20]) (.cond (.seq (.leaf [6]) (.leaf [6])) (.leaf [0, 1, 2]))) (.seq (.leaf [0, 1, 2, 7]) (.seq (.leaf [0, 1, 2, 7, 8]) (.seq (.seq (.leaf [1, 2, 7, 8, 26, 27, 28]) (.block (.loop (.seq (.leaf [1, 2, 7, 8, 26, 27, 28, 29]) (.seq (.cond (.leaf [1, 2, 7, 8, 26, 27, 28]) (.leaf [7])) (.seq (.block (.seq (.leaf [1, 2, 7, 8, 9, 10, 26, 27, 28]) (.seq (.draw [2, 4, 6] [0, 1, 3, 2, 4, 5, 6, 7, 8, 9, 10, 11, 12, 13, 14, 15, 16, 17, 18] [] [1, 2, 7, 8, 9, 26, 27, 28, 51]) (.cond (.leaf [1, 2, 7, 8, 26, 27, 28]) (.leaf [1, 2, 7, 8, 26, 27, 28]))))) (.leaf [1, 2, 7, 8, 26, 27, 28]))))))) (.seq (.leaf [6]) (.leaf [6])))))))

noncomputable def impl_MeetOf_ctx : Ctx := ⟨tlook tys, olook [(23, F_impl_wordOk), (30, F_impl_RootOf), (31, F_impl_DepthOf), (24, F_impl_yieldsOf), (29, F_impl_only), (28, F_impl_wordSet_hasAll)], ioF, 0⟩

theorem impl_MeetOf_n1_l (x2039 : List Int) (x2040 : Int) (x2041 : Int) : Link impl_MeetOf_ctx LL (Code.seq (Code.fst (bodyOf Tryd.f18)) (Code.seq (Code.fst (Code.snd (bodyOf Tryd.f18))) (Code.seq (Code.fst (Code.snd (Code.snd (bodyOf Tryd.f18)))) (Code.fst (Code.snd (Code.snd (Code.snd (bodyOf Tryd.f18)))))))) (Ann.seq (Ann.fst impl_MeetOf_an) (Ann.seq (Ann.fst (Ann.snd impl_MeetOf_an)) (Ann.seq (Ann.fst (Ann.snd (Ann.snd impl_MeetOf_an))) (Ann.fst (Ann.snd (Ann.snd (Ann.snd impl_MeetOf_an))))))) (⟨mkE 56 0 [(0, .dat (.list (.int .i64)) x2039), (1, .dat (.int .i64) x2040), (2, .dat (.int .i64) x2041)], []⟩ : St) (impl_MeetOf_n1 x2039 x2040 x2041) (Sum.elim (fun (t : Int × (List Int)) => (Exit.normal, (⟨mkE 56 0 [(0, .dat (.list (.int .i64)) x2039), (1, .dat (.int .i64) x2040), (2, .dat (.int .i64) x2041), (7, .dat (.int .i64) t.1), (8, .slc 0)], [some (.seq (.int .i64) t.2)]⟩ : St))) (fun (t : Int) => (Exit.ret, (⟨mkE 56 0 [(6, .dat (.int .i64) t)], []⟩ : St)))) := by
  refine Link.of fun K h => ?_
  simp only [impl_MeetOf_n1, wpO_bind, wpO_cond, wpO_map, wpO_some] at h
  exact Awp.of (by kernel_rfl) h

theorem impl_MeetOf_n2_l (x2039 : List Int) (x2040 : Int) (x2041 : Int) (x2055 : Int) (x2102 : List Int) : Link impl_MeetOf_ctx LL (Code.fst (Code.fst (Code.snd (Code.snd (Code.snd (Code.snd (bodyOf Tryd.f18))))))) (Ann.fst (Ann.fst (Ann.snd (Ann.snd (Ann.snd (Ann.snd impl_MeetOf_an)))))) (⟨mkE 56 0 [(0, .dat (.list (.int .i64)) x2039), (1, .dat (.int .i64) x2040), (2, .dat (.int .i64) x2041), (7, .dat (.int .i64) x2055), (8, .slc 0)], [some (.seq (.int .i64) x2102)]⟩ : St) (impl_MeetOf_n2 x2039) (fun (t : Int × (List Int)) => (Exit.normal, (⟨mkE 56 0 [(1, .dat (.int .i64) x2040), (2, .dat (.int .i64) x2041), (7, .dat (.int .i64) x2055), (8, .slc 0), (26, .slc 1), (27, .dat (.int .i64) t.1), (28, .dat (.int .i64) 0)], [some (.seq (.int .i64) x2102), some (.seq (.int .u64) t.2)]⟩ : St))) := by
  refine Link.of fun K h => ?_
  simp only [impl_MeetOf_n2, wpO_bind, wpO_cond, wpO_map, wpO_some] at h
  exact Awp.of (by kernel_rfl) h

theorem impl_MeetOf_n3_l (x2040 : Int) (x2041 : Int) (x2140 : Int) (x2104 : Int) (x2141 : Int) (x2102 : List Int) (x2103 : List Int) : Link impl_MeetOf_ctx LL (Code.fst (Code.fst (Code.snd (Code.fst (Code.snd (Code.snd (Code.snd (Code.snd (bodyOf Tryd.f18))))))))) (Ann.fst (Ann.fst (Ann.snd (Ann.fst (Ann.snd (Ann.snd (Ann.snd (Ann.snd impl_MeetOf_an)))))))) (⟨mkE 56 0 [(1, .dat (.int .i64) x2040), (2, .dat (.int .i64) x2041), (7, .dat (.int .i64) x2140), (8, .slc 0), (26, .slc 1), (27, .dat (.int .i64) x2104), (28, .dat (.int .i64) x2141)], [some (.seq (.int .i64) x2102), some (.seq (.int .u64) x2103)]⟩ : St) (impl_MeetOf_n3 x2040 x2041 x2140 x2104 x2141 x2102 x2103) (Sum.elim (fun (t : Int × Int) => (Exit.normal, (⟨mkE 56 0 [(1, .dat (.int .i64) x2040), (2, .dat (.int .i64) x2041), (7, .dat (.int .i64) t.1), (8, .slc 0), (26, .slc 1), (27, .dat (.int .i64) x2104), (28, .dat (.int .i64) t.2)], [some (.seq (.int .i64) x2102), some (.seq (.int .u64) x2103)]⟩ : St))) (fun (t : Int) => ((Exit.exit 0), (⟨mkE 56 0 [(7, .dat (.int .i64) t)], []⟩ : St)))) := by
  refine Link.of fun K h => ?_
  simp only [impl_MeetOf_n3, wpO_bind, wpO_cond, wpO_map, wpO_some] at h
  exact Awp.of (by kernel_rfl) h

theorem impl_MeetOf_n4_l (x2040 : Int) (x2041 : Int) (x2055 : Int) (x2104 : Int) (x2102 : List Int) (x2103 : List Int) : Link impl_MeetOf_ctx LL (Code.fst (Code.snd (Code.fst (Code.snd (Code.snd (Code.snd (Code.snd (bodyOf Tryd.f18)))))))) (Ann.fst (Ann.snd (Ann.fst (Ann.snd (Ann.snd (Ann.snd (Ann.snd impl_MeetOf_an))))))) (⟨mkE 56 0 [(1, .dat (.int .i64) x2040), (2, .dat (.int .i64) x2041), (7, .dat (.int .i64) x2055), (8, .slc 0), (26, .slc 1), (27, .dat (.int .i64) x2104), (28, .dat (.int .i64) 0)], [some (.seq (.int .i64) x2102), some (.seq (.int .u64) x2103)]⟩ : St) (impl_MeetOf_n4 x2040 x2041 x2055 x2104 x2102 x2103) (fun (t : Int) => ((Exit.exit 0), (⟨mkE 56 0 [(7, .dat (.int .i64) t)], []⟩ : St))) := by
  unfold impl_MeetOf_n4
  exact Link.cast (by kernel_rfl) (by kernel_rfl) (link_loop (mk := fun (s : Int × Int) => (⟨mkE 56 0 [(1, .dat (.int .i64) x2040), (2, .dat (.int .i64) x2041), (7, .dat (.int .i64) s.1), (8, .slc 0), (26, .slc 1), (27, .dat (.int .i64) x2104), (28, .dat (.int .i64) s.2)], [some (.seq (.int .i64) x2102), some (.seq (.int .u64) x2103)]⟩ : St)) (fin := (fun (t : Int) => ((Exit.exit 0), (⟨mkE 56 0 [(7, .dat (.int .i64) t)], []⟩ : St)))) (by
  rintro t f K h
  · exact h) (fun s => link_map (impl_MeetOf_n3_l x2040 x2041 s.1 x2104 s.2 x2102 x2103) (Sum.elim (fun (t : Int × Int) => Sum.inl (t.1, t.2)) (fun (t : Int) => Sum.inr t)) (by
  rintro (t | t)
  · kernel_rfl
  · kernel_rfl)) (x2055, 0))

theorem impl_MeetOf_n5_l (x2040 : Int) (x2041 : Int) (x2055 : Int) (x2104 : Int) (x2102 : List Int) (x2103 : List Int) : Link impl_MeetOf_ctx LL (Code.snd (Code.fst (Code.snd (Code.snd (Code.snd (Code.snd (bodyOf Tryd.f18))))))) (Ann.snd (Ann.fst (Ann.snd (Ann.snd (Ann.snd (Ann.snd impl_MeetOf_an)))))) (⟨mkE 56 0 [(1, .dat (.int .i64) x2040), (2, .dat (.int .i64) x2041), (7, .dat (.int .i64) x2055), (8, .slc 0), (26, .slc 1), (27, .dat (.int .i64) x2104), (28, .dat (.int .i64) 0)], [some (.seq (.int .i64) x2102), some (.seq (.int .u64) x2103)]⟩ : St) (impl_MeetOf_n5 x2040 x2041 x2055 x2104 x2102 x2103) (fun (t : Int) => (Exit.normal, (⟨mkE 56 0 [(7, .dat (.int .i64) t)], []⟩ : St))) := by
  unfold impl_MeetOf_n5
  exact Link.cast (by kernel_rfl) (by kernel_rfl) (link_block (id := 0) (impl_MeetOf_n4_l x2040 x2041 x2055 x2104 x2102 x2103) (fun (t : Int) => t) (by
  rintro t K h
  · exact Eq.mp (by kernel_rfl) h))

theorem impl_MeetOf_n6_l (x2039 : List Int) (x2040 : Int) (x2041 : Int) (x2055 : Int) (x2102 : List Int) : Link impl_MeetOf_ctx LL (Code.fst (Code.snd (Code.snd (Code.snd (Code.snd (bodyOf Tryd.f18)))))) (Ann.fst (Ann.snd (Ann.snd (Ann.snd (Ann.snd impl_MeetOf_an))))) (⟨mkE 56 0 [(0, .dat (.list (.int .i64)) x2039), (1, .dat (.int .i64) x2040), (2, .dat (.int .i64) x2041), (7, .dat (.int .i64) x2055), (8, .slc 0)], [some (.seq (.int .i64) x2102)]⟩ : St) (impl_MeetOf_n6 x2039 x2040 x2041 x2055 x2102) (fun (t : Int) => (Exit.normal, (⟨mkE 56 0 [(7, .dat (.int .i64) t)], []⟩ : St))) := by
  unfold impl_MeetOf_n6
  exact Link.cast (by kernel_rfl) (by kernel_rfl) (link_seq (b := (Code.snd (Code.fst (Code.snd (Code.snd (Code.snd (Code.snd (bodyOf Tryd.f18)))))))) (y := (Ann.snd (Ann.fst (Ann.snd (Ann.snd (Ann.snd (Ann.snd impl_MeetOf_an))))))) (impl_MeetOf_n2_l x2039 x2040 x2041 x2055 x2102) (fun (t : Int × (List Int)) => (impl_MeetOf_n5_l x2040 x2041 x2055 t.1 x2102 t.2)))

theorem impl_MeetOf_n7_l (x2140 : Int) : Link impl_MeetOf_ctx LL (Code.snd (Code.snd (Code.snd (Code.snd (Code.snd (bodyOf Tryd.f18)))))) (Ann.snd (Ann.snd (Ann.snd (Ann.snd (Ann.snd impl_MeetOf_an))))) (⟨mkE 56 0 [(7, .dat (.int .i64) x2140)], []⟩ : St) (impl_MeetOf_n7 x2140) (fun (t : Int) => (Exit.ret, (⟨mkE 56 0 [(6, .dat (.int .i64) t)], []⟩ : St))) := by
  refine Link.of fun K h => ?_
  simp only [impl_MeetOf_n7, wpO_bind, wpO_cond, wpO_map, wpO_some] at h
  exact Awp.of (by kernel_rfl) h

theorem impl_MeetOf_n8_l (x2039 : List Int) (x2040 : Int) (x2041 : Int) (x2055 : Int) (x2102 : List Int) : Link impl_MeetOf_ctx LL (Code.snd (Code.snd (Code.snd (Code.snd (bodyOf Tryd.f18))))) (Ann.snd (Ann.snd (Ann.snd (Ann.snd impl_MeetOf_an)))) (⟨mkE 56 0 [(0, .dat (.list (.int .i64)) x2039), (1, .dat (.int .i64) x2040), (2, .dat (.int .i64) x2041), (7, .dat (.int .i64) x2055), (8, .slc 0)], [some (.seq (.int .i64) x2102)]⟩ : St) (impl_MeetOf_n8 x2039 x2040 x2041 x2055 x2102) (fun (t : Int) => (Exit.ret, (⟨mkE 56 0 [(6, .dat (.int .i64) t)], []⟩ : St))) := by
  unfold impl_MeetOf_n8
  exact Link.cast (by kernel_rfl) (by kernel_rfl) (link_seq (b := (Code.snd (Code.snd (Code.snd (Code.snd (Code.snd (bodyOf Tryd.f18))))))) (y := (Ann.snd (Ann.snd (Ann.snd (Ann.snd (Ann.snd impl_MeetOf_an)))))) (impl_MeetOf_n6_l x2039 x2040 x2041 x2055 x2102) (fun (t : Int) => (impl_MeetOf_n7_l t)))

theorem impl_MeetOf_n9_l (x2039 : List Int) (x2040 : Int) (x2041 : Int) : Link impl_MeetOf_ctx LL (bodyOf Tryd.f18) impl_MeetOf_an (⟨mkE 56 0 [(0, .dat (.list (.int .i64)) x2039), (1, .dat (.int .i64) x2040), (2, .dat (.int .i64) x2041)], []⟩ : St) (impl_MeetOf_n9 x2039 x2040 x2041) (fun (t : Int) => (Exit.ret, (⟨mkE 56 0 [(6, .dat (.int .i64) t)], []⟩ : St))) := by
  unfold impl_MeetOf_n9
  exact Link.cast (by kernel_rfl) (by kernel_rfl) (link_group (c := (Code.fst (Code.snd (Code.snd (Code.snd (bodyOf Tryd.f18)))))) (a := (Ann.fst (Ann.snd (Ann.snd (Ann.snd impl_MeetOf_an))))) [(Code.fst (bodyOf Tryd.f18)), (Code.fst (Code.snd (bodyOf Tryd.f18))), (Code.fst (Code.snd (Code.snd (bodyOf Tryd.f18))))] [(Ann.fst impl_MeetOf_an), (Ann.fst (Ann.snd impl_MeetOf_an)), (Ann.fst (Ann.snd (Ann.snd impl_MeetOf_an)))] rfl (link_seq2 (b := (Code.snd (Code.snd (Code.snd (Code.snd (bodyOf Tryd.f18)))))) (y := (Ann.snd (Ann.snd (Ann.snd (Ann.snd impl_MeetOf_an))))) (impl_MeetOf_n1_l x2039 x2040 x2041) (fun (t : Int × (List Int)) => (impl_MeetOf_n8_l x2039 x2040 x2041 t.1 t.2)) (fun (t : Int) => t) (by
  rintro t
  · kernel_rfl) (by
  rintro t f K h
  · exact h)))

theorem impl_MeetOf_e (x2039 : List Int) (x2040 : Int) (x2041 : Int) {r : AV} {H' : Heap} (h : (Ans.mk _ (impl_MeetOf x2039 x2040 x2041) (fun (t : Int) => (.dat (.int .i64) t, []))).run = some (r, H')) : Awp impl_MeetOf_ctx LL (bodyOf Tryd.f18) impl_MeetOf_an (⟨mkE 56 0 [(0, .dat (.list (.int .i64)) x2039), (1, .dat (.int .i64) x2040), (2, .dat (.int .i64) x2041)], []⟩ : St) (Ret (tlook tys) Tryd.f18.results.toList r H') :=
  ret_of' (impl_MeetOf_n9_l x2039 x2040 x2041) (by unfold impl_MeetOf; kernel_rfl) (by
  intro t
  exact ret_mk [.dat (.int .i64) t] (by kernel_rfl) (by kernel_rfl) (by kernel_rfl) (by kernel_rfl)) h

def F_impl_MeetOf : Fun := fun avs H =>
  match avs, H with
  | [.dat (.list (.int .i64)) x2039, .dat (.int .i64) x2040, .dat (.int .i64) x2041], [] => ⟨_, impl_MeetOf x2039 x2040 x2041, fun (t : Int) => (.dat (.int .i64) t, [])⟩
  | _, _ => Ans.no

theorem impl_MeetOf_sound : Sound Tryd.prog 18 F_impl_MeetOf := by
  refine fn_sound' (C := impl_MeetOf_ctx) (c := bodyOf Tryd.f18) (cok_of tys_ok (List.forall_mem_cons.2 ⟨impl_wordOk_sound, List.forall_mem_cons.2 ⟨impl_RootOf_sound, List.forall_mem_cons.2 ⟨impl_DepthOf_sound, List.forall_mem_cons.2 ⟨impl_yieldsOf_sound, List.forall_mem_cons.2 ⟨impl_only_sound, List.forall_mem_cons.2 ⟨impl_wordSet_hasAll_sound, by simp⟩⟩⟩⟩⟩⟩) (List.forall_mem_cons.2 ⟨Tryd.call23, List.forall_mem_cons.2 ⟨Tryd.call30, List.forall_mem_cons.2 ⟨Tryd.call31, List.forall_mem_cons.2 ⟨Tryd.call24, List.forall_mem_cons.2 ⟨Tryd.call29, List.forall_mem_cons.2 ⟨Tryd.call28, by simp⟩⟩⟩⟩⟩⟩) (by kernel_rfl)) Tryd.func18 (by kernel_rfl) LL impl_MeetOf_an ?_
  intro avs H r H' h
  unfold F_impl_MeetOf at h
  split at h
  · refine Awp.cast ?_ ?_ ?_ (impl_MeetOf_e _ _ _ h) <;> kernel_rfl
  · simp [Ans.no, Ans.run] at h

/-! loop.example/headtrees/laws.FnExactMeetOf -/

def laws_FnExactMeetOf_an : Ann := (.seq (.leaf [0, 1, 2]) (.seq (.seq (.leaf [0, 1, 2, 12]) (.cond (.seq (.leaf [6]) (.leaf [6])) (.leaf [0, 1, 2]))) (.seq (.leaf [0, 1, 2, 7]) (.seq (.leaf [0, 1, 2, 7, 8]) (.seq (.leaf [0, 7, 8, 9]) (.seq (.seq (.leaf [0, 8, 26]) (.cond (.seq (.leaf [6]) (.leaf [6])) (.leaf [0, 8]))) (.seq (.seq (.leaf [31]) (.cond (.seq (.leaf [6]) (.leaf [6])) (.leaf []))) (.seq (.leaf [6]) (.leaf [6])))))))))

noncomputable def laws_FnExactMeetOf_ctx : Ctx := ⟨tlook tys, olook [(8, F_laws_toIntS), (17, F_spec_MeetOf), (18, F_impl_MeetOf), (10, F_laws_eqIntS)], ioF, 0⟩

theorem laws_FnExactMeetOf_n1_l (x1975 : List Int) (x1976 : Int) (x1977 : Int) : Link laws_FnExactMeetOf_ctx LL (bodyOf Tryd.f6) laws_FnExactMeetOf_an (⟨mkE 32 0 [(0, .dat (.list (.int .i64)) x1975), (1, .dat (.int .i64) x1976), (2, .dat (.int .i64) x1977)], []⟩ : St) (laws_FnExactMeetOf_n1 x1975 x1976 x1977) (fun (t : Bool) => (Exit.ret, (⟨mkE 32 0 [(6, .dat .bool t)], []⟩ : St))) := by
  refine Link.of fun K h => ?_
  simp only [laws_FnExactMeetOf_n1, wpO_bind, wpO_cond, wpO_map, wpO_some] at h
  exact Awp.of (by kernel_rfl) h

theorem laws_FnExactMeetOf_e (x1975 : List Int) (x1976 : Int) (x1977 : Int) {r : AV} {H' : Heap} (h : (Ans.mk _ (laws_FnExactMeetOf x1975 x1976 x1977) (fun (t : Bool) => (.dat .bool t, []))).run = some (r, H')) : Awp laws_FnExactMeetOf_ctx LL (bodyOf Tryd.f6) laws_FnExactMeetOf_an (⟨mkE 32 0 [(0, .dat (.list (.int .i64)) x1975), (1, .dat (.int .i64) x1976), (2, .dat (.int .i64) x1977)], []⟩ : St) (Ret (tlook tys) Tryd.f6.results.toList r H') :=
  ret_of' (laws_FnExactMeetOf_n1_l x1975 x1976 x1977) (by unfold laws_FnExactMeetOf; kernel_rfl) (by
  intro t
  exact ret_mk [.dat .bool t] (by kernel_rfl) (by kernel_rfl) (by kernel_rfl) (by kernel_rfl)) h

def F_laws_FnExactMeetOf : Fun := fun avs H =>
  match avs, H with
  | [.dat (.list (.int .i64)) x1975, .dat (.int .i64) x1976, .dat (.int .i64) x1977], [] => ⟨_, laws_FnExactMeetOf x1975 x1976 x1977, fun (t : Bool) => (.dat .bool t, [])⟩
  | _, _ => Ans.no

theorem laws_FnExactMeetOf_sound : Sound Tryd.prog 6 F_laws_FnExactMeetOf := by
  refine fn_sound' (C := laws_FnExactMeetOf_ctx) (c := bodyOf Tryd.f6) (cok_of tys_ok (List.forall_mem_cons.2 ⟨laws_toIntS_sound, List.forall_mem_cons.2 ⟨spec_MeetOf_sound, List.forall_mem_cons.2 ⟨impl_MeetOf_sound, List.forall_mem_cons.2 ⟨laws_eqIntS_sound, by simp⟩⟩⟩⟩) (List.forall_mem_cons.2 ⟨Tryd.call8, List.forall_mem_cons.2 ⟨Tryd.call17, List.forall_mem_cons.2 ⟨Tryd.call18, List.forall_mem_cons.2 ⟨Tryd.call10, by simp⟩⟩⟩⟩) (by kernel_rfl)) Tryd.func6 (by kernel_rfl) LL laws_FnExactMeetOf_an ?_
  intro avs H r H' h
  unfold F_laws_FnExactMeetOf at h
  split at h
  · refine Awp.cast ?_ ?_ ?_ (laws_FnExactMeetOf_e _ _ _ h) <;> kernel_rfl
  · simp [Ans.no, Ans.run] at h

end Go.Rv
