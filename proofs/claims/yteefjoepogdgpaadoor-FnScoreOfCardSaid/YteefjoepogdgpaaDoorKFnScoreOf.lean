/-
  The checked code answers as the plain functions do; written by program. Conditions: none.
-/
import Derived.Test.YteefjoepogdgpaaDoorKFnScoreOfa
set_option linter.unusedVariables false
set_option linter.unusedSimpArgs false
set_option linter.defProp false
set_option maxRecDepth 100000
namespace Go.Rv
open Go.Proofs
/-! loop.example/headtrees/impl.bestParts -/

def impl_bestParts_an : Ann := (.seq (.leaf [0]) (.seq (.leaf [0, 3]) (.seq (.seq (.leaf [0, 3, 4]) (.block (.loop (.seq (.seq (.leaf [0, 3, 4, 9]) (.cond (.leaf [0, 3, 4]) (.leaf [3]))) (.seq (.block (.seq (.leaf [0, 3, 4, 5]) (.block (.loop (.seq (.seq (.leaf [0, 3, 4, 5, 15]) (.cond (.leaf [0, 3, 4, 5]) (.leaf [0, 3, 4]))) (.seq (.block (.draw [5, 100008] [0, 1, 2, 3, 4, 6, 5, 7, 8] [] [0, 3, 4, 5])) (.leaf [0, 3, 4, 5]))))))) (.leaf [0, 3, 4])))))) (.seq (.leaf [2]) (.leaf [2])))))

noncomputable def impl_bestParts_ctx : Ctx := ⟨tlook tys, olook [(35, F_impl_partTable_joined)], ioF, 0, false, []⟩

theorem impl_bestParts_n1_l (x8901 : List (List Int)) : Link impl_bestParts_ctx LL (Code.seq (cq [0] (bodyOf Tryd.f25)) (cq [0,1] (bodyOf Tryd.f25))) (Ann.seq (aq [0] impl_bestParts_an) (aq [0,1] impl_bestParts_an)) ⟨mkE 26 0 [(0, .dat (.list (.list (.int .i64))) x8901)], []⟩ (impl_bestParts_n1) (fun (t : Unit) => (Exit.normal, ⟨mkE 26 0 [(0, .dat (.list (.list (.int .i64))) x8901), (3, .ptr 0 0)], [some (.seq (.pair (.int .i64) (.pair (.int .i64) .unit)) (List.replicate 36 ((0 : Int), ((0 : Int), ()))))]⟩)) := by
  refine Link.of fun K h => ?_
  simp only [impl_bestParts_n1, wpO_bind, wpO_cond, wpO_map, wpO_some] at h
  exact Awp.of (by kernel_rfl) h

theorem impl_bestParts_n2_l (x8901 : List (List Int)) : Link impl_bestParts_ctx LL (cq [0,0,1,1] (bodyOf Tryd.f25)) (aq [0,0,1,1] impl_bestParts_an) ⟨mkE 26 0 [(0, .dat (.list (.list (.int .i64))) x8901), (3, .ptr 0 0)], [some (.seq (.pair (.int .i64) (.pair (.int .i64) .unit)) (List.replicate 36 ((0 : Int), ((0 : Int), ()))))]⟩ (impl_bestParts_n2) (fun (t : Unit) => (Exit.normal, ⟨mkE 26 0 [(0, .dat (.list (.list (.int .i64))) x8901), (3, .ptr 0 0), (4, dI 2)], [some (.seq (.pair (.int .i64) (.pair (.int .i64) .unit)) (List.replicate 36 ((0 : Int), ((0 : Int), ()))))]⟩)) := by
  refine Link.of fun K h => ?_
  simp only [impl_bestParts_n2, wpO_bind, wpO_cond, wpO_map, wpO_some] at h
  exact Awp.of (by kernel_rfl) h

theorem impl_bestParts_n3_l (x8901 : List (List Int)) (x9203 : Int) (x9204 : List (Int × Int × Unit)) : Link impl_bestParts_ctx LL (cq [0,0,0,1,0,1,1] (bodyOf Tryd.f25)) (aq [0,0,0,1,0,1,1] impl_bestParts_an) ⟨mkE 26 0 [(0, .dat (.list (.list (.int .i64))) x8901), (3, .ptr 0 0), (4, dI x9203)], [some (.seq (.pair (.int .i64) (.pair (.int .i64) .unit)) x9204)]⟩ (impl_bestParts_n3 x8901 x9203 x9204) (Sum.elim (fun (t : Unit) => (Exit.normal, ⟨mkE 26 0 [(0, .dat (.list (.list (.int .i64))) x8901), (3, .ptr 0 0), (4, dI x9203)], [some (.seq (.pair (.int .i64) (.pair (.int .i64) .unit)) x9204)]⟩)) (fun (t : (List (Int × Int × Unit))) => ((Exit.exit 0), ⟨mkE 26 0 [(3, .ptr 0 0)], [some (.seq (.pair (.int .i64) (.pair (.int .i64) .unit)) t)]⟩))) := by
  refine Link.of fun K h => ?_
  simp only [impl_bestParts_n3, wpO_bind, wpO_cond, wpO_map, wpO_some] at h
  exact Awp.of (by kernel_rfl) h

theorem impl_bestParts_n4_l (x8901 : List (List Int)) (x9203 : Int) (x9204 : List (Int × Int × Unit)) : Link impl_bestParts_ctx LL (cq [0,0,0,1,0,0,1,0,1,1] (bodyOf Tryd.f25)) (aq [0,0,0,1,0,0,1,0,1,1] impl_bestParts_an) ⟨mkE 26 0 [(0, .dat (.list (.list (.int .i64))) x8901), (3, .ptr 0 0), (4, dI x9203)], [some (.seq (.pair (.int .i64) (.pair (.int .i64) .unit)) x9204)]⟩ (impl_bestParts_n4 x9203) (fun (t : Int) => (Exit.normal, ⟨mkE 26 0 [(0, .dat (.list (.list (.int .i64))) x8901), (3, .ptr 0 0), (4, dI x9203), (5, dI t)], [some (.seq (.pair (.int .i64) (.pair (.int .i64) .unit)) x9204)]⟩)) := by
  refine Link.of fun K h => ?_
  simp only [impl_bestParts_n4, wpO_bind, wpO_cond, wpO_map, wpO_some] at h
  exact Awp.of (by kernel_rfl) h

theorem impl_bestParts_n5_l (x8901 : List (List Int)) (x9203 : Int) (x9246 : Int) (x9247 : List (Int × Int × Unit)) : Link impl_bestParts_ctx LL (cq [0,0,1,0,0,1,0,0,1,0,1,1] (bodyOf Tryd.f25)) (aq [0,0,1,0,0,1,0,0,1,0,1,1] impl_bestParts_an) ⟨mkE 26 0 [(0, .dat (.list (.list (.int .i64))) x8901), (3, .ptr 0 0), (4, dI x9203), (5, dI x9246)], [some (.seq (.pair (.int .i64) (.pair (.int .i64) .unit)) x9247)]⟩ (impl_bestParts_n5 x8901 x9203 x9246 x9247) (Sum.elim (fun (t : Int × (List (Int × Int × Unit))) => (Exit.normal, ⟨mkE 26 0 [(0, .dat (.list (.list (.int .i64))) x8901), (3, .ptr 0 0), (4, dI x9203), (5, dI t.1)], [some (.seq (.pair (.int .i64) (.pair (.int .i64) .unit)) t.2)]⟩)) (fun (t : (List (Int × Int × Unit))) => ((Exit.exit 2), ⟨mkE 26 0 [(0, .dat (.list (.list (.int .i64))) x8901), (3, .ptr 0 0), (4, dI x9203)], [some (.seq (.pair (.int .i64) (.pair (.int .i64) .unit)) t)]⟩))) := by
  refine Link.of fun K h => ?_
  simp only [impl_bestParts_n5, wpO_bind, wpO_cond, wpO_map, wpO_some] at h
  exact Awp.of (by kernel_rfl) h

def impl_bestParts_n6_l (x8901 : List (List Int)) (x9203 : Int) (x9207 : Int) (x9204 : List (Int × Int × Unit)) := (link_loop (mk := fun (s : Int × (List (Int × Int × Unit))) => ⟨mkE 26 0 [(0, .dat (.list (.list (.int .i64))) x8901), (3, .ptr 0 0), (4, dI x9203), (5, dI s.1)], [some (.seq (.pair (.int .i64) (.pair (.int .i64) .unit)) s.2)]⟩) (fin := (fun (t : (List (Int × Int × Unit))) => ((Exit.exit 2), ⟨mkE 26 0 [(0, .dat (.list (.list (.int .i64))) x8901), (3, .ptr 0 0), (4, dI x9203)], [some (.seq (.pair (.int .i64) (.pair (.int .i64) .unit)) t)]⟩))) (by
  rintro t f K h
  · exact h) (fun s => link_map (impl_bestParts_n5_l x8901 x9203 s.1 s.2) (Sum.elim (fun (t : Int × (List (Int × Int × Unit))) => Sum.inl (t.1, t.2)) (fun (t : (List (Int × Int × Unit))) => Sum.inr t)) (by
  rintro (t | t)
  · kernel_rfl
  · kernel_rfl)) (x9207, x9204))

def impl_bestParts_n7_l (x8901 : List (List Int)) (x9203 : Int) (x9207 : Int) (x9204 : List (Int × Int × Unit)) := (link_block (fin2 := (fun (t : (List (Int × Int × Unit))) => (Exit.normal, ⟨mkE 26 0 [(0, .dat (.list (.list (.int .i64))) x8901), (3, .ptr 0 0), (4, dI x9203)], [some (.seq (.pair (.int .i64) (.pair (.int .i64) .unit)) t)]⟩))) (id := 2) (impl_bestParts_n6_l x8901 x9203 x9207 x9204) (fun (t : (List (Int × Int × Unit))) => t) (by
  rintro t K h
  · exact Eq.mp (by kernel_rfl) h))

def impl_bestParts_n8_l (x8901 : List (List Int)) (x9203 : Int) (x9204 : List (Int × Int × Unit)) := (link_seq (impl_bestParts_n4_l x8901 x9203 x9204) (fun (t : Int) => (impl_bestParts_n7_l x8901 x9203 t x9204)))

def impl_bestParts_n9_l (x8901 : List (List Int)) (x9203 : Int) (x9204 : List (Int × Int × Unit)) := (link_block (fin2 := (fun (t : (List (Int × Int × Unit))) => (Exit.normal, ⟨mkE 26 0 [(0, .dat (.list (.list (.int .i64))) x8901), (3, .ptr 0 0), (4, dI x9203)], [some (.seq (.pair (.int .i64) (.pair (.int .i64) .unit)) t)]⟩))) (id := 1) (impl_bestParts_n8_l x8901 x9203 x9204) (fun (t : (List (Int × Int × Unit))) => t) (by
  rintro t K h
  · exact Eq.mp (by kernel_rfl) h))

theorem impl_bestParts_n10_l (x8901 : List (List Int)) (x9203 : Int) (x9247 : List (Int × Int × Unit)) : Link impl_bestParts_ctx LL (cq [1,1,0,0,1,0,1,1] (bodyOf Tryd.f25)) (aq [1,1,0,0,1,0,1,1] impl_bestParts_an) ⟨mkE 26 0 [(0, .dat (.list (.list (.int .i64))) x8901), (3, .ptr 0 0), (4, dI x9203)], [some (.seq (.pair (.int .i64) (.pair (.int .i64) .unit)) x9247)]⟩ (impl_bestParts_n10 x9203) (fun (t : Int) => (Exit.normal, ⟨mkE 26 0 [(0, .dat (.list (.list (.int .i64))) x8901), (3, .ptr 0 0), (4, dI t)], [some (.seq (.pair (.int .i64) (.pair (.int .i64) .unit)) x9247)]⟩)) := by
  refine Link.of fun K h => ?_
  simp only [impl_bestParts_n10, wpO_bind, wpO_cond, wpO_map, wpO_some] at h
  exact Awp.of (by kernel_rfl) h

def impl_bestParts_n11_l (x8901 : List (List Int)) (x9203 : Int) (x9204 : List (Int × Int × Unit)) := (link_seq (impl_bestParts_n9_l x8901 x9203 x9204) (fun (t : (List (Int × Int × Unit))) => (link_map (fin2 := (fun (t : Int × (List (Int × Int × Unit))) => (Exit.normal, ⟨mkE 26 0 [(0, .dat (.list (.list (.int .i64))) x8901), (3, .ptr 0 0), (4, dI t.1)], [some (.seq (.pair (.int .i64) (.pair (.int .i64) .unit)) t.2)]⟩))) (impl_bestParts_n10_l x8901 x9203 t) (fun (u : Int) => (u, t)) (by
  rintro t
  · kernel_rfl))))

def impl_bestParts_n12_l (x8901 : List (List Int)) (x9203 : Int) (x9204 : List (Int × Int × Unit)) := (link_seq2 (impl_bestParts_n3_l x8901 x9203 x9204) (fun (t : Unit) => (link_map (fin2 := (Sum.elim (fun (t : Int × (List (Int × Int × Unit))) => (Exit.normal, ⟨mkE 26 0 [(0, .dat (.list (.list (.int .i64))) x8901), (3, .ptr 0 0), (4, dI t.1)], [some (.seq (.pair (.int .i64) (.pair (.int .i64) .unit)) t.2)]⟩)) (fun (t : (List (Int × Int × Unit))) => ((Exit.exit 0), ⟨mkE 26 0 [(3, .ptr 0 0)], [some (.seq (.pair (.int .i64) (.pair (.int .i64) .unit)) t)]⟩)))) (impl_bestParts_n11_l x8901 x9203 x9204) (fun (t : Int × (List (Int × Int × Unit))) => (Sum.inl (t.1, t.2))) (by
  rintro t
  · kernel_rfl))) (fun (t : (List (Int × Int × Unit))) => (Sum.inr t)) (by
  rintro t
  · kernel_rfl) (by
  rintro t f K h
  · exact h))

def impl_bestParts_n13_l (x8901 : List (List Int)) := (link_loop (mk := fun (s : Int × (List (Int × Int × Unit))) => ⟨mkE 26 0 [(0, .dat (.list (.list (.int .i64))) x8901), (3, .ptr 0 0), (4, dI s.1)], [some (.seq (.pair (.int .i64) (.pair (.int .i64) .unit)) s.2)]⟩) (fin := (fun (t : (List (Int × Int × Unit))) => ((Exit.exit 0), ⟨mkE 26 0 [(3, .ptr 0 0)], [some (.seq (.pair (.int .i64) (.pair (.int .i64) .unit)) t)]⟩))) (by
  rintro t f K h
  · exact h) (fun s => link_map (impl_bestParts_n12_l x8901 s.1 s.2) (Sum.elim (fun (t : Int × (List (Int × Int × Unit))) => Sum.inl (t.1, t.2)) (fun (t : (List (Int × Int × Unit))) => Sum.inr t)) (by
  rintro (t | t)
  · kernel_rfl
  · kernel_rfl)) (2, (List.replicate 36 ((0 : Int), ((0 : Int), ())))))

def impl_bestParts_n14_l (x8901 : List (List Int)) := (link_block (fin2 := (fun (t : (List (Int × Int × Unit))) => (Exit.normal, ⟨mkE 26 0 [(3, .ptr 0 0)], [some (.seq (.pair (.int .i64) (.pair (.int .i64) .unit)) t)]⟩))) (id := 0) (impl_bestParts_n13_l x8901) (fun (t : (List (Int × Int × Unit))) => t) (by
  rintro t K h
  · exact Eq.mp (by kernel_rfl) h))

def impl_bestParts_n15_l (x8901 : List (List Int)) := (link_seq (impl_bestParts_n2_l x8901) (fun (t : Unit) => (impl_bestParts_n14_l x8901)))

theorem impl_bestParts_n16_l (x9204 : List (Int × Int × Unit)) : Link impl_bestParts_ctx LL (cq [1,1,1] (bodyOf Tryd.f25)) (aq [1,1,1] impl_bestParts_an) ⟨mkE 26 0 [(3, .ptr 0 0)], [some (.seq (.pair (.int .i64) (.pair (.int .i64) .unit)) x9204)]⟩ (impl_bestParts_n16 x9204) (fun (t : (List (Int × Int × Unit))) => (Exit.ret, ⟨mkE 26 0 [(2, .ptr 0 0)], [some (.seq (.pair (.int .i64) (.pair (.int .i64) .unit)) t)]⟩)) := by
  refine Link.of fun K h => ?_
  simp only [impl_bestParts_n16, wpO_bind, wpO_cond, wpO_map, wpO_some] at h
  exact Awp.of (by kernel_rfl) h

def impl_bestParts_n17_l (x8901 : List (List Int)) := (link_seq (impl_bestParts_n15_l x8901) (fun (t : (List (Int × Int × Unit))) => (impl_bestParts_n16_l t)))

def impl_bestParts_n18_l (x8901 : List (List Int)) := (link_group (c := (cq [0,1] (bodyOf Tryd.f25))) (a := (aq [0,1] impl_bestParts_an)) [(cq [0] (bodyOf Tryd.f25))] [(aq [0] impl_bestParts_an)] rfl (link_seq (impl_bestParts_n1_l x8901) (fun (t : Unit) => (impl_bestParts_n17_l x8901))))

theorem impl_bestParts_e (x8901 : List (List Int)) {r : AV} {H' : Heap} (h : (Ans.mk _ (impl_bestParts x8901) (fun (t : (List (Int × Int × Unit))) => (.ptr 0 0, [some (.seq (.pair (.int .i64) (.pair (.int .i64) .unit)) t)])) [] none).run = some (r, H')) : Awp impl_bestParts_ctx LL (bodyOf Tryd.f25) impl_bestParts_an ⟨mkE 26 0 [(0, .dat (.list (.list (.int .i64))) x8901)], []⟩ (Ret (tlook tys) Tryd.f25.results.toList r H') :=
  ret_of' (Link.cast (by kernel_rfl) (by kernel_rfl) (impl_bestParts_n18_l x8901)) (by unfold impl_bestParts; kernel_rfl) (by
  intro t
  exact ret_mk [.ptr 0 0] (by kernel_rfl) (by kernel_rfl) (by kernel_rfl) (by kernel_rfl)) h

def F_impl_bestParts : Fun := fun avs H =>
  match avs, H with
  | [.dat (.list (.list (.int .i64))) x8901], [] => ⟨_, impl_bestParts x8901, fun (t : (List (Int × Int × Unit))) => (.ptr 0 0, [some (.seq (.pair (.int .i64) (.pair (.int .i64) .unit)) t)]), [], none⟩
  | _, _ => Ans.no

theorem impl_bestParts_sound : Sound Tryd.prog 25 F_impl_bestParts := by
  refine fn_sound' (C := impl_bestParts_ctx) (c := bodyOf Tryd.f25) (cok_of tys_ok (allc impl_partTable_joined_sound alln) (allc Tryd.call35 alln) (by kernel_rfl)) Tryd.func25 (by kernel_rfl) LL impl_bestParts_an ?_
  intro avs H r H' h
  unfold F_impl_bestParts at h
  split at h
  · refine Awp.cast ?_ ?_ ?_ (impl_bestParts_e _ h) <;> kernel_rfl
  · simp [Ans.no, Ans.run] at h


/-! loop.example/headtrees/impl.BestFlat$1 -/

def impl_BestFlat_1_an : Ann := (.seq (.leaf [0, 1, 2, 3]) (.seq (.draw [] [0, 1, 2, 3, 4, 5, 6, 7, 8, 9, 10, 11, 12, 13, 14, 15, 16, 17, 18, 19, 20, 21, 22, 23, 24] [] [5]) (.leaf [5])))

noncomputable def impl_BestFlat_1_ctx : Ctx := ⟨tlook tys, olook [], ioF, 0, false, []⟩

theorem impl_BestFlat_1_n1_l (x9309 : Int) (x9310 : List (Int × Int × Unit)) (x9311 : List (List Int)) (x9312 : Int) : Link impl_BestFlat_1_ctx LL (bodyOf Tryd.f27) impl_BestFlat_1_an ⟨mkE 30 0 [(0, dI x9309), (1, .pcell (.tab (.pair (.int .i64) (.pair (.int .i64) .unit)) x9310)), (2, .pcell (.dat (.list (.list (.int .i64))) x9311)), (3, .pcell (dI x9312))], []⟩ (impl_BestFlat_1_n1 x9309 x9310 x9311 x9312) (fun (t : Int) => (Exit.ret, ⟨mkE 30 0 [(5, dI t)], []⟩)) := by
  refine Link.of fun K h => ?_
  simp only [impl_BestFlat_1_n1, wpO_bind, wpO_cond, wpO_map, wpO_some] at h
  exact Awp.of (by kernel_rfl) h

theorem impl_BestFlat_1_e (x9309 : Int) (x9310 : List (Int × Int × Unit)) (x9311 : List (List Int)) (x9312 : Int) {r : AV} {H' : Heap} (h : (Ans.mk _ (impl_BestFlat_1 x9309 x9310 x9311 x9312) (fun (t : Int) => (dI t, [])) [] none).run = some (r, H')) : Awp impl_BestFlat_1_ctx LL (bodyOf Tryd.f27) impl_BestFlat_1_an ⟨mkE 30 0 [(0, dI x9309), (1, .pcell (.tab (.pair (.int .i64) (.pair (.int .i64) .unit)) x9310)), (2, .pcell (.dat (.list (.list (.int .i64))) x9311)), (3, .pcell (dI x9312))], []⟩ (Ret (tlook tys) Tryd.f27.results.toList r H') :=
  ret_of' (impl_BestFlat_1_n1_l x9309 x9310 x9311 x9312) (by unfold impl_BestFlat_1; kernel_rfl) (by
  intro t
  exact ret_mk [dI t] (by kernel_rfl) (by kernel_rfl) (by kernel_rfl) (by kernel_rfl)) h

def F_impl_BestFlat_1 : Fun := fun avs H =>
  match avs, H with
  | [.dat (.int .i64) x9309, .pcell (.tab (.pair (.int .i64) (.pair (.int .i64) .unit)) x9310), .pcell (.dat (.list (.list (.int .i64))) x9311), .pcell (.dat (.int .i64) x9312)], [] => ⟨_, impl_BestFlat_1 x9309 x9310 x9311 x9312, fun (t : Int) => (dI t, []), [], none⟩
  | _, _ => Ans.no

theorem impl_BestFlat_1_sound : Sound Tryd.prog 27 F_impl_BestFlat_1 := by
  refine fn_sound' (C := impl_BestFlat_1_ctx) (c := bodyOf Tryd.f27) (cok_of tys_ok (alln) (alln) (by kernel_rfl)) Tryd.func27 (by kernel_rfl) LL impl_BestFlat_1_an ?_
  intro avs H r H' h
  unfold F_impl_BestFlat_1 at h
  split at h
  · refine Awp.cast ?_ ?_ ?_ (impl_BestFlat_1_e _ _ _ _ h) <;> kernel_rfl
  · simp [Ans.no, Ans.run] at h


/-! loop.example/headtrees/impl.greatest (impl_greatest_v4) -/

def impl_greatest_v4_an : Ann := (.seq (.leaf [0, 1, 2]) (.seq (.leaf [0, 1, 2, 7]) (.seq (.seq (.leaf [1, 2, 7, 8]) (.block (.loop (.seq (.seq (.leaf [1, 2, 7, 8, 12]) (.cond (.leaf [1, 2, 7, 8]) (.leaf [7]))) (.seq (.block (.leaf [1, 2, 7, 8])) (.leaf [1, 2, 7, 8])))))) (.seq (.leaf [6]) (.leaf [6])))))

noncomputable def impl_greatest_v4_ctx : Ctx := ⟨tlook tys, olook [(27, F_impl_BestFlat_1)], ioF, 0, false, []⟩

theorem impl_greatest_v4_n1_l (x9302 : Int) (x9303 : Int) (x9304 : List (Int × Int × Unit)) (x9305 : List (List Int)) (x9306 : Int) : Link impl_greatest_v4_ctx LL (Code.seq (cq [0] (bodyOf Tryd.f26)) (cq [0,1] (bodyOf Tryd.f26))) (Ann.seq (aq [0] impl_greatest_v4_an) (aq [0,1] impl_greatest_v4_an)) ⟨mkE 21 0 [(0, dI x9302), (1, dI x9303), (2, .fn 27 [] [.pcell (.tab (.pair (.int .i64) (.pair (.int .i64) .unit)) x9304), .pcell (.dat (.list (.list (.int .i64))) x9305), .pcell (dI x9306)])], []⟩ (impl_greatest_v4_n1) (fun (t : Unit) => (Exit.normal, ⟨mkE 21 0 [(0, dI x9302), (1, dI x9303), (2, .fn 27 [] [.pcell (.tab (.pair (.int .i64) (.pair (.int .i64) .unit)) x9304), .pcell (.dat (.list (.list (.int .i64))) x9305), .pcell (dI x9306)]), (7, dI 0)], []⟩)) := by
  refine Link.of fun K h => ?_
  simp only [impl_greatest_v4_n1, wpO_bind, wpO_cond, wpO_map, wpO_some] at h
  exact Awp.of (by kernel_rfl) h

theorem impl_greatest_v4_n2_l (x9302 : Int) (x9303 : Int) (x9304 : List (Int × Int × Unit)) (x9305 : List (List Int)) (x9306 : Int) : Link impl_greatest_v4_ctx LL (cq [0,0,1,1] (bodyOf Tryd.f26)) (aq [0,0,1,1] impl_greatest_v4_an) ⟨mkE 21 0 [(0, dI x9302), (1, dI x9303), (2, .fn 27 [] [.pcell (.tab (.pair (.int .i64) (.pair (.int .i64) .unit)) x9304), .pcell (.dat (.list (.list (.int .i64))) x9305), .pcell (dI x9306)]), (7, dI 0)], []⟩ (impl_greatest_v4_n2) (fun (t : Unit) => (Exit.normal, ⟨mkE 21 0 [(1, dI x9303), (2, .fn 27 [] [.pcell (.tab (.pair (.int .i64) (.pair (.int .i64) .unit)) x9304), .pcell (.dat (.list (.list (.int .i64))) x9305), .pcell (dI x9306)]), (7, dI 0), (8, dI x9302)], []⟩)) := by
  refine Link.of fun K h => ?_
  simp only [impl_greatest_v4_n2, wpO_bind, wpO_cond, wpO_map, wpO_some] at h
  exact Awp.of (by kernel_rfl) h

theorem impl_greatest_v4_n3_l (x9303 : Int) (x9304 : List (Int × Int × Unit)) (x9305 : List (List Int)) (x9306 : Int) (x9365 : Int) (x9366 : Int) : Link impl_greatest_v4_ctx LL (cq [0,0,1,0,1,1] (bodyOf Tryd.f26)) (aq [0,0,1,0,1,1] impl_greatest_v4_an) ⟨mkE 21 0 [(1, dI x9303), (2, .fn 27 [] [.pcell (.tab (.pair (.int .i64) (.pair (.int .i64) .unit)) x9304), .pcell (.dat (.list (.list (.int .i64))) x9305), .pcell (dI x9306)]), (7, dI x9365), (8, dI x9366)], []⟩ (impl_greatest_v4_n3 x9303 x9304 x9305 x9306 x9365 x9366) (Sum.elim (fun (t : Int × Int) => (Exit.normal, ⟨mkE 21 0 [(1, dI x9303), (2, .fn 27 [] [.pcell (.tab (.pair (.int .i64) (.pair (.int .i64) .unit)) x9304), .pcell (.dat (.list (.list (.int .i64))) x9305), .pcell (dI x9306)]), (7, dI t.1), (8, dI t.2)], []⟩)) (fun (t : Int) => ((Exit.exit 0), ⟨mkE 21 0 [(7, dI t)], []⟩))) := by
  refine Link.of fun K h => ?_
  simp only [impl_greatest_v4_n3, wpO_bind, wpO_cond, wpO_map, wpO_some] at h
  exact Awp.of (by kernel_rfl) h

def impl_greatest_v4_n4_l (x9303 : Int) (x9304 : List (Int × Int × Unit)) (x9305 : List (List Int)) (x9306 : Int) (x9302 : Int) := (link_loop (mk := fun (s : Int × Int) => ⟨mkE 21 0 [(1, dI x9303), (2, .fn 27 [] [.pcell (.tab (.pair (.int .i64) (.pair (.int .i64) .unit)) x9304), .pcell (.dat (.list (.list (.int .i64))) x9305), .pcell (dI x9306)]), (7, dI s.1), (8, dI s.2)], []⟩) (fin := (fun (t : Int) => ((Exit.exit 0), ⟨mkE 21 0 [(7, dI t)], []⟩))) (by
  rintro t f K h
  · exact h) (fun s => link_map (impl_greatest_v4_n3_l x9303 x9304 x9305 x9306 s.1 s.2) (Sum.elim (fun (t : Int × Int) => Sum.inl (t.1, t.2)) (fun (t : Int) => Sum.inr t)) (by
  rintro (t | t)
  · kernel_rfl
  · kernel_rfl)) (0, x9302))

def impl_greatest_v4_n5_l (x9303 : Int) (x9304 : List (Int × Int × Unit)) (x9305 : List (List Int)) (x9306 : Int) (x9302 : Int) := (link_block (fin2 := (fun (t : Int) => (Exit.normal, ⟨mkE 21 0 [(7, dI t)], []⟩))) (id := 0) (impl_greatest_v4_n4_l x9303 x9304 x9305 x9306 x9302) (fun (t : Int) => t) (by
  rintro t K h
  · exact Eq.mp (by kernel_rfl) h))

def impl_greatest_v4_n6_l (x9302 : Int) (x9303 : Int) (x9304 : List (Int × Int × Unit)) (x9305 : List (List Int)) (x9306 : Int) := (link_seq (impl_greatest_v4_n2_l x9302 x9303 x9304 x9305 x9306) (fun (t : Unit) => (impl_greatest_v4_n5_l x9303 x9304 x9305 x9306 x9302)))

theorem impl_greatest_v4_n7_l (x9365 : Int) : Link impl_greatest_v4_ctx LL (cq [1,1,1] (bodyOf Tryd.f26)) (aq [1,1,1] impl_greatest_v4_an) ⟨mkE 21 0 [(7, dI x9365)], []⟩ (impl_greatest_v4_n7 x9365) (fun (t : Int) => (Exit.ret, ⟨mkE 21 0 [(6, dI t)], []⟩)) := by
  refine Link.of fun K h => ?_
  simp only [impl_greatest_v4_n7, wpO_bind, wpO_cond, wpO_map, wpO_some] at h
  exact Awp.of (by kernel_rfl) h

def impl_greatest_v4_n8_l (x9302 : Int) (x9303 : Int) (x9304 : List (Int × Int × Unit)) (x9305 : List (List Int)) (x9306 : Int) := (link_seq (impl_greatest_v4_n6_l x9302 x9303 x9304 x9305 x9306) (fun (t : Int) => (impl_greatest_v4_n7_l t)))

def impl_greatest_v4_n9_l (x9302 : Int) (x9303 : Int) (x9304 : List (Int × Int × Unit)) (x9305 : List (List Int)) (x9306 : Int) := (link_group (c := (cq [0,1] (bodyOf Tryd.f26))) (a := (aq [0,1] impl_greatest_v4_an)) [(cq [0] (bodyOf Tryd.f26))] [(aq [0] impl_greatest_v4_an)] rfl (link_seq (impl_greatest_v4_n1_l x9302 x9303 x9304 x9305 x9306) (fun (t : Unit) => (impl_greatest_v4_n8_l x9302 x9303 x9304 x9305 x9306))))

theorem impl_greatest_v4_e (x9302 : Int) (x9303 : Int) (x9304 : List (Int × Int × Unit)) (x9305 : List (List Int)) (x9306 : Int) {r : AV} {H' : Heap} (h : (Ans.mk _ (impl_greatest_v4 x9302 x9303 x9304 x9305 x9306) (fun (t : Int) => (dI t, [])) [] none).run = some (r, H')) : Awp impl_greatest_v4_ctx LL (bodyOf Tryd.f26) impl_greatest_v4_an ⟨mkE 21 0 [(0, dI x9302), (1, dI x9303), (2, .fn 27 [] [.pcell (.tab (.pair (.int .i64) (.pair (.int .i64) .unit)) x9304), .pcell (.dat (.list (.list (.int .i64))) x9305), .pcell (dI x9306)])], []⟩ (Ret (tlook tys) Tryd.f26.results.toList r H') :=
  ret_of' (Link.cast (by kernel_rfl) (by kernel_rfl) (impl_greatest_v4_n9_l x9302 x9303 x9304 x9305 x9306)) (by unfold impl_greatest_v4; kernel_rfl) (by
  intro t
  exact ret_mk [dI t] (by kernel_rfl) (by kernel_rfl) (by kernel_rfl) (by kernel_rfl)) h

def F_impl_greatest_v4 : Fun := fun avs H =>
  match avs, H with
  | [.dat (.int .i64) x9302, .dat (.int .i64) x9303, .fn 27 [] [.pcell (.tab (.pair (.int .i64) (.pair (.int .i64) .unit)) x9304), .pcell (.dat (.list (.list (.int .i64))) x9305), .pcell (.dat (.int .i64) x9306)]], [] => ⟨_, impl_greatest_v4 x9302 x9303 x9304 x9305 x9306, fun (t : Int) => (dI t, []), [], none⟩
  | _, _ => Ans.no

theorem impl_greatest_v4_sound : Sound Tryd.prog 26 F_impl_greatest_v4 := by
  refine fn_sound' (C := impl_greatest_v4_ctx) (c := bodyOf Tryd.f26) (cok_of tys_ok (allc impl_BestFlat_1_sound alln) (allc Tryd.call27 alln) (by kernel_rfl)) Tryd.func26 (by kernel_rfl) LL impl_greatest_v4_an ?_
  intro avs H r H' h
  unfold F_impl_greatest_v4 at h
  split at h
  · refine Awp.cast ?_ ?_ ?_ (impl_greatest_v4_e _ _ _ _ _ h) <;> kernel_rfl
  · simp [Ans.no, Ans.run] at h


/-! loop.example/headtrees/impl.BestFlat -/

def impl_BestFlat_an : Ann := (.seq (.leaf [1]) (.seq (.seq (.leaf [1, 7]) (.cond (.seq (.leaf [2]) (.leaf [2])) (.leaf [1]))) (.seq (.draw [3] [0, 1, 2, 3, 4, 5, 6, 7] [] [1, 3, 4]) (.seq (.leafF [⟨2, 4, false, some 0, none⟩] [2]) (.leaf [2])))))

noncomputable def impl_BestFlat_ctx : Ctx := ⟨tlook tys, olook [(17, F_impl_ScoresOk), (25, F_impl_bestParts), (26, F_impl_greatest_v4)], ioF, 0, false, []⟩

theorem impl_BestFlat_n1_l (x8895 : List (List Int)) : Link impl_BestFlat_ctx LL (bodyOf Tryd.f10) impl_BestFlat_an ⟨mkE 15 0 [(0, .dat (.list (.list (.int .i64))) x8895)], []⟩ (impl_BestFlat_n1 x8895) (fun (t : Int) => (Exit.ret, ⟨mkE 15 0 [(2, dI t)], []⟩)) := by
  refine Link.of fun K h => ?_
  simp only [impl_BestFlat_n1, wpO_bind, wpO_cond, wpO_map, wpO_some] at h
  exact Awp.of (by kernel_rfl) h

theorem impl_BestFlat_e (x8895 : List (List Int)) {r : AV} {H' : Heap} (h : (Ans.mk _ (impl_BestFlat x8895) (fun (t : Int) => (dI t, [])) [] none).run = some (r, H')) : Awp impl_BestFlat_ctx LL (bodyOf Tryd.f10) impl_BestFlat_an ⟨mkE 15 0 [(0, .dat (.list (.list (.int .i64))) x8895)], []⟩ (Ret (tlook tys) Tryd.f10.results.toList r H') :=
  ret_of' (impl_BestFlat_n1_l x8895) (by unfold impl_BestFlat; kernel_rfl) (by
  intro t
  exact ret_mk [dI t] (by kernel_rfl) (by kernel_rfl) (by kernel_rfl) (by kernel_rfl)) h

def F_impl_BestFlat : Fun := fun avs H =>
  match avs, H with
  | [.dat (.list (.list (.int .i64))) x8895], [] => ⟨_, impl_BestFlat x8895, fun (t : Int) => (dI t, []), [], none⟩
  | _, _ => Ans.no

theorem impl_BestFlat_sound : Sound Tryd.prog 10 F_impl_BestFlat := by
  refine fn_sound' (C := impl_BestFlat_ctx) (c := bodyOf Tryd.f10) (cok_of tys_ok (allc impl_ScoresOk_sound (allc impl_bestParts_sound (allc impl_greatest_v4_sound alln))) (allc Tryd.call17 (allc Tryd.call25 (allc Tryd.call26 alln))) (by kernel_rfl)) Tryd.func10 (by kernel_rfl) LL impl_BestFlat_an ?_
  intro avs H r H' h
  unfold F_impl_BestFlat at h
  split at h
  · refine Awp.cast ?_ ?_ ?_ (impl_BestFlat_e _ h) <;> kernel_rfl
  · simp [Ans.no, Ans.run] at h


/-! loop.example/headtrees/laws.FnScoreOf -/

def laws_FnScoreOf_an : Ann := (.seq (.leaf [0]) (.seq (.seq (.leaf [0, 8]) (.cond (.seq (.leaf [2]) (.leaf [2])) (.leaf [0]))) (.seq (.leaf [3, 4]) (.seq (.leaf [3, 4, 5]) (.seq (.seq (.leaf [3, 4, 5, 21]) (.cond (.seq (.leaf [2]) (.leaf [2])) (.leaf [3, 4, 5]))) (.seq (.seq (.leaf [3, 4, 5, 23]) (.cond (.seq (.leaf [2]) (.leaf [2])) (.leaf [3, 4, 5]))) (.seq (.leaf [2]) (.leaf [2]))))))))

noncomputable def laws_FnScoreOf_ctx : Ctx := ⟨tlook tys, olook [(4, F_spec_DrawScoreOf), (5, F_impl_ScoreOf), (6, F_spec_ScoreOf), (7, F_laws_alive), (8, F_impl_BestScore), (9, F_impl_FlatOk), (10, F_impl_BestFlat)], ioF, 0, true, []⟩

theorem laws_FnScoreOf_n1_l (x6114 : List Int) : Link laws_FnScoreOf_ctx LL (bodyOf Tryd.f3) laws_FnScoreOf_an ⟨mkE 51 0 [(0, dV x6114)], []⟩ (laws_FnScoreOf_n1 x6114) (fun (t : Bool) => (Exit.ret, ⟨mkE 51 0 [(2, dB t)], []⟩)) := by
  refine Link.of fun K h => ?_
  simp only [laws_FnScoreOf_n1, wpO_bind, wpO_cond, wpO_map, wpO_some] at h
  exact Awp.of (by kernel_rfl) h

theorem laws_FnScoreOf_e (x6114 : List Int) {r : AV} {H' : Heap} (h : (Ans.mk _ (laws_FnScoreOf x6114) (fun (t : Bool) => (dB t, [])) [] none).run = some (r, H')) : Awp laws_FnScoreOf_ctx LL (bodyOf Tryd.f3) laws_FnScoreOf_an ⟨mkE 51 0 [(0, dV x6114)], []⟩ (Ret (tlook tys) Tryd.f3.results.toList r H') :=
  ret_of' (laws_FnScoreOf_n1_l x6114) (by unfold laws_FnScoreOf; kernel_rfl) (by
  intro t
  exact ret_mk [dB t] (by kernel_rfl) (by kernel_rfl) (by kernel_rfl) (by kernel_rfl)) h

def F_laws_FnScoreOf : Fun := fun avs H =>
  match avs, H with
  | [.dat (.list (.int .u8)) x6114], [] => ⟨_, laws_FnScoreOf x6114, fun (t : Bool) => (dB t, []), [], none⟩
  | _, _ => Ans.no

theorem laws_FnScoreOf_sound : Sound Tryd.prog 3 F_laws_FnScoreOf := by
  refine fn_sound' (C := laws_FnScoreOf_ctx) (c := bodyOf Tryd.f3) (cok_of tys_ok (allc spec_DrawScoreOf_sound (allc impl_ScoreOf_sound (allc spec_ScoreOf_sound (allc laws_alive_sound (allc impl_BestScore_sound (allc impl_FlatOk_sound (allc impl_BestFlat_sound alln))))))) (allc Tryd.call4 (allc Tryd.call5 (allc Tryd.call6 (allc Tryd.call7 (allc Tryd.call8 (allc Tryd.call9 (allc Tryd.call10 alln))))))) (by kernel_rfl)) Tryd.func3 (by kernel_rfl) LL laws_FnScoreOf_an ?_
  intro avs H r H' h
  unfold F_laws_FnScoreOf at h
  split at h
  · refine Awp.cast ?_ ?_ ?_ (laws_FnScoreOf_e _ h) <;> kernel_rfl
  · simp [Ans.no, Ans.run] at h

end Go.Rv
