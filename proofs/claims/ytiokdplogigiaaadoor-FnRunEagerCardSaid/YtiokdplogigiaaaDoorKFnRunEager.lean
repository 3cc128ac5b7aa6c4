/-
  The checked code answers as the plain functions do; written by program. Conditions: none.
-/
import Derived.Test.YtiokdplogigiaaaDoorKFnRunEagera
set_option linter.unusedVariables false
set_option linter.unusedSimpArgs false
set_option linter.defProp false
set_option maxRecDepth 100000
namespace Go.Rv
open Go.Proofs
/-! loop.example/headtrees/spec.l20Eager -/

def spec_l20Eager_an : Ann := (.seq (.leaf [0, 1]) (.seq (.leaf [0, 1, 5]) (.seq (.seq (.leaf [0, 1, 5, 6]) (.block (.loop (.seq (.seq (.leaf [0, 1, 5, 6, 19]) (.cond (.leaf [0, 1, 5, 6]) (.leaf [0, 1, 5]))) (.seq (.block (.leaf [0, 1, 5, 6])) (.leaf [0, 1, 5, 6])))))) (.seq (.leaf [0, 1, 5, 7]) (.seq (.leaf [0, 1, 5, 7, 8]) (.seq (.leaf [0, 1, 5, 7, 8, 9]) (.seq (.seq (.leafF [⟨1, 7, false, none, none⟩] [0, 1, 5, 7, 8, 9, 10]) (.block (.loop (.seq (.seq (.leaf [0, 1, 5, 7, 8, 9, 10, 32]) (.cond (.leaf [0, 1, 5, 7, 8, 9, 10]) (.leaf [0, 8]))) (.seq (.block (.seq (.leaf [0, 1, 5, 7, 8, 9, 10, 11]) (.seq (.seq (.leaf [0, 1, 5, 7, 8, 9, 10, 11, 41]) (.cond (.leaf [0, 1, 5, 7, 8, 9, 10, 11]) (.leaf [0, 1, 5, 7, 8, 9, 10, 11]))) (.seq (.seq (.leaf [0, 1, 5, 7, 8, 9, 10, 11, 44]) (.cond (.leaf [0, 1, 5, 7, 8, 9, 10, 11]) (.leaf [0, 1, 5, 7, 8, 9, 10, 11]))) (.seq (.seq (.leaf [0, 1, 5, 7, 8, 9, 10, 11, 56]) (.cond (.leaf [0, 1, 5, 7, 8, 9, 10, 11]) (.leaf [0, 1, 5, 7, 8, 9, 10, 11]))) (.seq (.leafF [⟨5, 59, false, none, none⟩] [0, 1, 5, 7, 8, 9, 10, 11, 12, 13, 14]) (.seq (.leaf [0, 1, 5, 7, 8, 9, 10, 11, 12, 13, 67]) (.cond (.seq (.leaf [0, 1, 5, 7, 8, 10, 11, 13]) (.seq (.leaf [0, 1, 5, 7, 8, 9, 10, 11]) (.leaf [0, 1, 5, 7, 8, 9, 10]))) (.leaf [0, 1, 5, 7, 8, 9, 10]))))))))) (.leaf [0, 1, 5, 7, 8, 9, 10])))))) (.seq (.seq (.leaf [0, 8, 79]) (.cond (.seq (.leaf [0, 8, 15]) (.seq (.draw [3, 2, 12] [0, 1, 2, 3, 4, 9, 10, 11, 12, 5, 6, 7, 8, 13, 14] [] [4]) (.leaf [4]))) (.leaf [8]))) (.seq (.leaf [4]) (.leaf [4]))))))))))

noncomputable def spec_l20Eager_ctx : Ctx := ⟨tlook tys, olook [(27, F_spec_l20Rd_pick), (46, F_spec_l7Step), (49, F_spec_l20Rd_odd)], ioF, 1, false, []⟩

theorem spec_l20Eager_n1_l (x7866 : Int) (x7867 : List Int) (x7868 : Int) : Link spec_l20Eager_ctx LL (Code.seq (cq [0] (bodyOf Tryd.f41)) (cq [0,1] (bodyOf Tryd.f41))) (Ann.seq (aq [0] spec_l20Eager_an) (aq [0,1] spec_l20Eager_an)) ⟨mkE 99 0 [(0, .ptr 0 0), (1, dI x7866)], [some (.box [dV x7867, dI x7868])]⟩ (spec_l20Eager_n1) (fun (t : Unit) => (Exit.normal, ⟨mkE 99 0 [(0, .ptr 0 0), (1, dI x7866), (5, .slc 1)], [some (.box [dV x7867, dI x7868]), some (sI ([] : List Int))]⟩)) := by
  refine Link.of fun K h => ?_
  simp only [spec_l20Eager_n1, wpO_bind, wpO_cond, wpO_map, wpO_some] at h
  exact Awp.of (by kernel_rfl) h

theorem spec_l20Eager_n2_l (x7866 : Int) (x7867 : List Int) (x7868 : Int) : Link spec_l20Eager_ctx LL (cq [0,0,1,1] (bodyOf Tryd.f41)) (aq [0,0,1,1] spec_l20Eager_an) ⟨mkE 99 0 [(0, .ptr 0 0), (1, dI x7866), (5, .slc 1)], [some (.box [dV x7867, dI x7868]), some (sI ([] : List Int))]⟩ (spec_l20Eager_n2) (fun (t : Unit) => (Exit.normal, ⟨mkE 99 0 [(0, .ptr 0 0), (1, dI x7866), (5, .slc 1), (6, dI 0)], [some (.box [dV x7867, dI x7868]), some (sI ([] : List Int))]⟩)) := by
  refine Link.of fun K h => ?_
  simp only [spec_l20Eager_n2, wpO_bind, wpO_cond, wpO_map, wpO_some] at h
  exact Awp.of (by kernel_rfl) h

theorem spec_l20Eager_n3_l (x7866 : Int) (x10438 : Int) (x7867 : List Int) (x7868 : Int) (x10439 : List Int) : Link spec_l20Eager_ctx LL (cq [0,0,1,0,1,1] (bodyOf Tryd.f41)) (aq [0,0,1,0,1,1] spec_l20Eager_an) ⟨mkE 99 0 [(0, .ptr 0 0), (1, dI x7866), (5, .slc 1), (6, dI x10438)], [some (.box [dV x7867, dI x7868]), some (sI x10439)]⟩ (spec_l20Eager_n3 x7866 x10438 x10439) (Sum.elim (fun (t : Int × (List Int)) => (Exit.normal, ⟨mkE 99 0 [(0, .ptr 0 0), (1, dI x7866), (5, .slc 1), (6, dI t.1)], [some (.box [dV x7867, dI x7868]), some (sI t.2)]⟩)) (fun (t : (List Int)) => ((Exit.exit 0), ⟨mkE 99 0 [(0, .ptr 0 0), (1, dI x7866), (5, .slc 1)], [some (.box [dV x7867, dI x7868]), some (sI t)]⟩))) := by
  refine Link.of fun K h => ?_
  simp only [spec_l20Eager_n3, wpO_bind, wpO_cond, wpO_map, wpO_some] at h
  exact Awp.of (by kernel_rfl) h

def spec_l20Eager_n4_l (x7866 : Int) (x7867 : List Int) (x7868 : Int) := (link_loop (mk := fun (s : Int × (List Int)) => ⟨mkE 99 0 [(0, .ptr 0 0), (1, dI x7866), (5, .slc 1), (6, dI s.1)], [some (.box [dV x7867, dI x7868]), some (sI s.2)]⟩) (fin := (fun (t : (List Int)) => ((Exit.exit 0), ⟨mkE 99 0 [(0, .ptr 0 0), (1, dI x7866), (5, .slc 1)], [some (.box [dV x7867, dI x7868]), some (sI t)]⟩))) (by
  rintro t f K h
  · exact h) (fun s => link_map (spec_l20Eager_n3_l x7866 s.1 x7867 x7868 s.2) (Sum.elim (fun (t : Int × (List Int)) => Sum.inl (t.1, t.2)) (fun (t : (List Int)) => Sum.inr t)) (by
  rintro (t | t)
  · kernel_rfl
  · kernel_rfl)) (0, ([] : List Int)))

def spec_l20Eager_n5_l (x7866 : Int) (x7867 : List Int) (x7868 : Int) := (link_block (fin2 := (fun (t : (List Int)) => (Exit.normal, ⟨mkE 99 0 [(0, .ptr 0 0), (1, dI x7866), (5, .slc 1)], [some (.box [dV x7867, dI x7868]), some (sI t)]⟩))) (id := 0) (spec_l20Eager_n4_l x7866 x7867 x7868) (fun (t : (List Int)) => t) (by
  rintro t K h
  · exact Eq.mp (by kernel_rfl) h))

def spec_l20Eager_n6_l (x7866 : Int) (x7867 : List Int) (x7868 : Int) := (link_seq (spec_l20Eager_n2_l x7866 x7867 x7868) (fun (t : Unit) => (spec_l20Eager_n5_l x7866 x7867 x7868)))

theorem spec_l20Eager_n7_l (x7866 : Int) (x7867 : List Int) (x7868 : Int) (x10439 : List Int) : Link spec_l20Eager_ctx LL (Code.seq (cq [0,1,1,1] (bodyOf Tryd.f41)) (Code.seq (cq [0,1,1,1,1] (bodyOf Tryd.f41)) (cq [0,1,1,1,1,1] (bodyOf Tryd.f41)))) (Ann.seq (aq [0,1,1,1] spec_l20Eager_an) (Ann.seq (aq [0,1,1,1,1] spec_l20Eager_an) (aq [0,1,1,1,1,1] spec_l20Eager_an))) ⟨mkE 99 0 [(0, .ptr 0 0), (1, dI x7866), (5, .slc 1)], [some (.box [dV x7867, dI x7868]), some (sI x10439)]⟩ (spec_l20Eager_n7) (fun (t : Unit) => (Exit.normal, ⟨mkE 99 0 [(0, .ptr 0 0), (1, dI x7866), (5, .slc 1), (7, .slc 2), (8, dS ByteArray.empty), (9, dI 1)], [some (.box [dV x7867, dI x7868]), some (sI x10439), some (sI ([] : List Int))]⟩)) := by
  refine Link.of fun K h => ?_
  simp only [spec_l20Eager_n7, wpO_bind, wpO_cond, wpO_map, wpO_some] at h
  exact Awp.of (by kernel_rfl) h

theorem spec_l20Eager_n8_l (x7866 : Int) (x7867 : List Int) (x7868 : Int) (x10439 : List Int) : Link spec_l20Eager_ctx LL (cq [0,0,1,1,1,1,1,1] (bodyOf Tryd.f41)) (aq [0,0,1,1,1,1,1,1] spec_l20Eager_an) ⟨mkE 99 0 [(0, .ptr 0 0), (1, dI x7866), (5, .slc 1), (7, .slc 2), (8, dS ByteArray.empty), (9, dI 1)], [some (.box [dV x7867, dI x7868]), some (sI x10439), some (sI ([] : List Int))]⟩ (spec_l20Eager_n8) (fun (t : Unit) => (Exit.normal, ⟨mkE 99 0 [(0, .ptr 0 0), (1, dI x7866), (5, .slc 1), (7, dL ([] : List Int)), (8, dS ByteArray.empty), (9, dI 1), (10, dI 0)], [some (.box [dV x7867, dI x7868]), some (sI x10439)]⟩)) := by
  refine Link.of fun K h => ?_
  simp only [spec_l20Eager_n8, wpO_bind, wpO_cond, wpO_map, wpO_some] at h
  exact Awp.of (by kernel_rfl) h

theorem spec_l20Eager_n9_l (x7866 : Int) (x10788 : List Int) (x10789 : ByteArray) (x10790 : Int) (x10791 : Int) (x7867 : List Int) (x10792 : Int) (x10793 : List Int) : Link spec_l20Eager_ctx LL (cq [0,0,0,1,0,1,1,1,1,1,1] (bodyOf Tryd.f41)) (aq [0,0,0,1,0,1,1,1,1,1,1] spec_l20Eager_an) ⟨mkE 99 0 [(0, .ptr 0 0), (1, dI x7866), (5, .slc 1), (7, dL x10788), (8, dS x10789), (9, dI x10790), (10, dI x10791)], [some (.box [dV x7867, dI x10792]), some (sI x10793)]⟩ (spec_l20Eager_n9 x7866 x10789 x10790 x10791 x10792) (Sum.elim (fun (t : Unit) => (Exit.normal, ⟨mkE 99 0 [(0, .ptr 0 0), (1, dI x7866), (5, .slc 1), (7, dL x10788), (8, dS x10789), (9, dI x10790), (10, dI x10791)], [some (.box [dV x7867, dI x10792]), some (sI x10793)]⟩)) (fun (t : ByteArray × Int) => ((Exit.exit 2), ⟨mkE 99 0 [(0, .ptr 0 0), (8, dS t.1)], [some (.box [dV x7867, dI t.2])]⟩))) := by
  refine Link.of fun K h => ?_
  simp only [spec_l20Eager_n9, wpO_bind, wpO_cond, wpO_map, wpO_some] at h
  exact Awp.of (by kernel_rfl) h

theorem spec_l20Eager_n10_l (x7866 : Int) (x10788 : List Int) (x10789 : ByteArray) (x10790 : Int) (x10791 : Int) (x7867 : List Int) (x10792 : Int) (x10793 : List Int) : Link spec_l20Eager_ctx LL (Code.seq (cq [0,0,0,1,0,0,1,0,1,1,1,1,1,1] (bodyOf Tryd.f41)) (Code.seq (cq [0,1,0,0,1,0,0,1,0,1,1,1,1,1,1] (bodyOf Tryd.f41)) (cq [0,1,1,0,0,1,0,0,1,0,1,1,1,1,1,1] (bodyOf Tryd.f41)))) (Ann.seq (aq [0,0,0,1,0,0,1,0,1,1,1,1,1,1] spec_l20Eager_an) (Ann.seq (aq [0,1,0,0,1,0,0,1,0,1,1,1,1,1,1] spec_l20Eager_an) (aq [0,1,1,0,0,1,0,0,1,0,1,1,1,1,1,1] spec_l20Eager_an))) ⟨mkE 99 0 [(0, .ptr 0 0), (1, dI x7866), (5, .slc 1), (7, dL x10788), (8, dS x10789), (9, dI x10790), (10, dI x10791)], [some (.box [dV x7867, dI x10792]), some (sI x10793)]⟩ (spec_l20Eager_n10 x10788 x10791 x7867 x10792) (fun (t : ByteArray × Int) => (Exit.normal, ⟨mkE 99 0 [(0, .ptr 0 0), (1, dI x7866), (5, .slc 1), (7, dL x10788), (8, dS x10789), (9, dI x10790), (10, dI x10791), (11, dS t.1)], [some (.box [dV x7867, dI t.2]), some (sI x10793)]⟩)) := by
  refine Link.of fun K h => ?_
  simp only [spec_l20Eager_n10, wpO_bind, wpO_cond, wpO_map, wpO_some] at h
  exact Awp.of (by kernel_rfl) h

theorem spec_l20Eager_n11_l (x7866 : Int) (x10788 : List Int) (x10789 : ByteArray) (x10790 : Int) (x10791 : Int) (x11019 : ByteArray) (x7867 : List Int) (x10972 : Int) (x10793 : List Int) : Link spec_l20Eager_ctx LL (cq [1,1,1,0,0,1,0,0,1,0,1,1,1,1,1,1] (bodyOf Tryd.f41)) (aq [1,1,1,0,0,1,0,0,1,0,1,1,1,1,1,1] spec_l20Eager_an) ⟨mkE 99 0 [(0, .ptr 0 0), (1, dI x7866), (5, .slc 1), (7, dL x10788), (8, dS x10789), (9, dI x10790), (10, dI x10791), (11, dS x11019)], [some (.box [dV x7867, dI x10972]), some (sI x10793)]⟩ (spec_l20Eager_n11 x10788 x10789 x10790 x11019 x7867 x10972 x10793) (fun (t : (List Int) × ByteArray × Int × Int × (List Int)) => (Exit.normal, ⟨mkE 99 0 [(0, .ptr 0 0), (1, dI x7866), (5, .slc 1), (7, dL t.1), (8, dS t.2.1), (9, dI t.2.2.1), (10, dI x10791)], [some (.box [dV x7867, dI t.2.2.2.1]), some (sI t.2.2.2.2)]⟩)) := by
  refine Link.of fun K h => ?_
  simp only [spec_l20Eager_n11, wpO_bind, wpO_cond, wpO_map, wpO_some] at h
  exact Awp.of (by kernel_rfl) h

def spec_l20Eager_n12_l (x7866 : Int) (x10788 : List Int) (x10789 : ByteArray) (x10790 : Int) (x10791 : Int) (x7867 : List Int) (x10792 : Int) (x10793 : List Int) := (link_group (c := (cq [0,1,1,0,0,1,0,0,1,0,1,1,1,1,1,1] (bodyOf Tryd.f41))) (a := (aq [0,1,1,0,0,1,0,0,1,0,1,1,1,1,1,1] spec_l20Eager_an)) [(cq [0,0,0,1,0,0,1,0,1,1,1,1,1,1] (bodyOf Tryd.f41)), (cq [0,1,0,0,1,0,0,1,0,1,1,1,1,1,1] (bodyOf Tryd.f41))] [(aq [0,0,0,1,0,0,1,0,1,1,1,1,1,1] spec_l20Eager_an), (aq [0,1,0,0,1,0,0,1,0,1,1,1,1,1,1] spec_l20Eager_an)] rfl (link_seq (spec_l20Eager_n10_l x7866 x10788 x10789 x10790 x10791 x7867 x10792 x10793) (fun (t : ByteArray × Int) => (spec_l20Eager_n11_l x7866 x10788 x10789 x10790 x10791 t.1 x7867 t.2 x10793))))

def spec_l20Eager_n13_l (x7866 : Int) (x10788 : List Int) (x10789 : ByteArray) (x10790 : Int) (x10791 : Int) (x7867 : List Int) (x10792 : Int) (x10793 : List Int) := (link_block (fin2 := (fun (t : (List Int) × ByteArray × Int × Int × (List Int)) => (Exit.normal, ⟨mkE 99 0 [(0, .ptr 0 0), (1, dI x7866), (5, .slc 1), (7, dL t.1), (8, dS t.2.1), (9, dI t.2.2.1), (10, dI x10791)], [some (.box [dV x7867, dI t.2.2.2.1]), some (sI t.2.2.2.2)]⟩))) (id := 3) (spec_l20Eager_n12_l x7866 x10788 x10789 x10790 x10791 x7867 x10792 x10793) (fun (t : (List Int) × ByteArray × Int × Int × (List Int)) => (t.1, t.2.1, t.2.2.1, t.2.2.2.1, t.2.2.2.2)) (by
  rintro t K h
  · exact Eq.mp (by kernel_rfl) h))

theorem spec_l20Eager_n14_l (x7866 : Int) (x11124 : List Int) (x11125 : ByteArray) (x11126 : Int) (x10791 : Int) (x7867 : List Int) (x11127 : Int) (x11128 : List Int) : Link spec_l20Eager_ctx LL (cq [1,1,0,0,1,0,1,1,1,1,1,1] (bodyOf Tryd.f41)) (aq [1,1,0,0,1,0,1,1,1,1,1,1] spec_l20Eager_an) ⟨mkE 99 0 [(0, .ptr 0 0), (1, dI x7866), (5, .slc 1), (7, dL x11124), (8, dS x11125), (9, dI x11126), (10, dI x10791)], [some (.box [dV x7867, dI x11127]), some (sI x11128)]⟩ (spec_l20Eager_n14 x10791) (fun (t : Int) => (Exit.normal, ⟨mkE 99 0 [(0, .ptr 0 0), (1, dI x7866), (5, .slc 1), (7, dL x11124), (8, dS x11125), (9, dI x11126), (10, dI t)], [some (.box [dV x7867, dI x11127]), some (sI x11128)]⟩)) := by
  refine Link.of fun K h => ?_
  simp only [spec_l20Eager_n14, wpO_bind, wpO_cond, wpO_map, wpO_some] at h
  exact Awp.of (by kernel_rfl) h

def spec_l20Eager_n15_l (x7866 : Int) (x10788 : List Int) (x10789 : ByteArray) (x10790 : Int) (x10791 : Int) (x7867 : List Int) (x10792 : Int) (x10793 : List Int) := (link_seq (spec_l20Eager_n13_l x7866 x10788 x10789 x10790 x10791 x7867 x10792 x10793) (fun (t : (List Int) × ByteArray × Int × Int × (List Int)) => (link_map (fin2 := (fun (t : (List Int) × ByteArray × Int × Int × Int × (List Int)) => (Exit.normal, ⟨mkE 99 0 [(0, .ptr 0 0), (1, dI x7866), (5, .slc 1), (7, dL t.1), (8, dS t.2.1), (9, dI t.2.2.1), (10, dI t.2.2.2.1)], [some (.box [dV x7867, dI t.2.2.2.2.1]), some (sI t.2.2.2.2.2)]⟩))) (spec_l20Eager_n14_l x7866 t.1 t.2.1 t.2.2.1 x10791 x7867 t.2.2.2.1 t.2.2.2.2) (fun (u : Int) => (t.1, t.2.1, t.2.2.1, u, t.2.2.2.1, t.2.2.2.2)) (by
  rintro t
  · kernel_rfl))))

def spec_l20Eager_n16_l (x7866 : Int) (x10788 : List Int) (x10789 : ByteArray) (x10790 : Int) (x10791 : Int) (x7867 : List Int) (x10792 : Int) (x10793 : List Int) := (link_seq2 (spec_l20Eager_n9_l x7866 x10788 x10789 x10790 x10791 x7867 x10792 x10793) (fun (t : Unit) => (link_map (fin2 := (Sum.elim (fun (t : (List Int) × ByteArray × Int × Int × Int × (List Int)) => (Exit.normal, ⟨mkE 99 0 [(0, .ptr 0 0), (1, dI x7866), (5, .slc 1), (7, dL t.1), (8, dS t.2.1), (9, dI t.2.2.1), (10, dI t.2.2.2.1)], [some (.box [dV x7867, dI t.2.2.2.2.1]), some (sI t.2.2.2.2.2)]⟩)) (fun (t : ByteArray × Int) => ((Exit.exit 2), ⟨mkE 99 0 [(0, .ptr 0 0), (8, dS t.1)], [some (.box [dV x7867, dI t.2])]⟩)))) (spec_l20Eager_n15_l x7866 x10788 x10789 x10790 x10791 x7867 x10792 x10793) (fun (t : (List Int) × ByteArray × Int × Int × Int × (List Int)) => (Sum.inl (t.1, t.2.1, t.2.2.1, t.2.2.2.1, t.2.2.2.2.1, t.2.2.2.2.2))) (by
  rintro t
  · kernel_rfl))) (fun (t : ByteArray × Int) => (Sum.inr t)) (by
  rintro t
  · kernel_rfl) (by
  rintro t f K h
  · exact h))

def spec_l20Eager_n17_l (x7866 : Int) (x7867 : List Int) (x7868 : Int) (x10439 : List Int) := (link_loop (mk := fun (s : (List Int) × ByteArray × Int × Int × Int × (List Int)) => ⟨mkE 99 0 [(0, .ptr 0 0), (1, dI x7866), (5, .slc 1), (7, dL s.1), (8, dS s.2.1), (9, dI s.2.2.1), (10, dI s.2.2.2.1)], [some (.box [dV x7867, dI s.2.2.2.2.1]), some (sI s.2.2.2.2.2)]⟩) (fin := (fun (t : ByteArray × Int) => ((Exit.exit 2), ⟨mkE 99 0 [(0, .ptr 0 0), (8, dS t.1)], [some (.box [dV x7867, dI t.2])]⟩))) (by
  rintro t f K h
  · exact h) (fun s => link_map (spec_l20Eager_n16_l x7866 s.1 s.2.1 s.2.2.1 s.2.2.2.1 x7867 s.2.2.2.2.1 s.2.2.2.2.2) (Sum.elim (fun (t : (List Int) × ByteArray × Int × Int × Int × (List Int)) => Sum.inl (t.1, t.2.1, t.2.2.1, t.2.2.2.1, t.2.2.2.2.1, t.2.2.2.2.2)) (fun (t : ByteArray × Int) => Sum.inr t)) (by
  rintro (t | t)
  · kernel_rfl
  · kernel_rfl)) (([] : List Int), ByteArray.empty, 1, 0, x7868, x10439))

def spec_l20Eager_n18_l (x7866 : Int) (x7867 : List Int) (x7868 : Int) (x10439 : List Int) := (link_block (fin2 := (fun (t : ByteArray × Int) => (Exit.normal, ⟨mkE 99 0 [(0, .ptr 0 0), (8, dS t.1)], [some (.box [dV x7867, dI t.2])]⟩))) (id := 2) (spec_l20Eager_n17_l x7866 x7867 x7868 x10439) (fun (t : ByteArray × Int) => (t.1, t.2)) (by
  rintro t K h
  · exact Eq.mp (by kernel_rfl) h))

def spec_l20Eager_n19_l (x7866 : Int) (x7867 : List Int) (x7868 : Int) (x10439 : List Int) := (link_seq (spec_l20Eager_n8_l x7866 x7867 x7868 x10439) (fun (t : Unit) => (spec_l20Eager_n18_l x7866 x7867 x7868 x10439)))

theorem spec_l20Eager_n20_l (x10789 : ByteArray) (x7867 : List Int) (x10792 : Int) : Link spec_l20Eager_ctx LL (cq [1,1,1,1,1,1,1] (bodyOf Tryd.f41)) (aq [1,1,1,1,1,1,1] spec_l20Eager_an) ⟨mkE 99 0 [(0, .ptr 0 0), (8, dS x10789)], [some (.box [dV x7867, dI x10792])]⟩ (spec_l20Eager_n20 x10789 x7867 x10792) (fun (t : ByteArray × Int) => (Exit.ret, ⟨mkE 99 0 [(4, dS t.1)], [some (.box [dV x7867, dI t.2])]⟩)) := by
  refine Link.of fun K h => ?_
  simp only [spec_l20Eager_n20, wpO_bind, wpO_cond, wpO_map, wpO_some] at h
  exact Awp.of (by kernel_rfl) h

def spec_l20Eager_n21_l (x7866 : Int) (x7867 : List Int) (x7868 : Int) (x10439 : List Int) := (link_seq (spec_l20Eager_n19_l x7866 x7867 x7868 x10439) (fun (t : ByteArray × Int) => (spec_l20Eager_n20_l t.1 x7867 t.2)))

def spec_l20Eager_n22_l (x7866 : Int) (x7867 : List Int) (x7868 : Int) (x10439 : List Int) := (link_group (c := (cq [0,1,1,1,1,1] (bodyOf Tryd.f41))) (a := (aq [0,1,1,1,1,1] spec_l20Eager_an)) [(cq [0,1,1,1] (bodyOf Tryd.f41)), (cq [0,1,1,1,1] (bodyOf Tryd.f41))] [(aq [0,1,1,1] spec_l20Eager_an), (aq [0,1,1,1,1] spec_l20Eager_an)] rfl (link_seq (spec_l20Eager_n7_l x7866 x7867 x7868 x10439) (fun (t : Unit) => (spec_l20Eager_n21_l x7866 x7867 x7868 x10439))))

def spec_l20Eager_n23_l (x7866 : Int) (x7867 : List Int) (x7868 : Int) := (link_seq (spec_l20Eager_n6_l x7866 x7867 x7868) (fun (t : (List Int)) => (spec_l20Eager_n22_l x7866 x7867 x7868 t)))

def spec_l20Eager_n24_l (x7866 : Int) (x7867 : List Int) (x7868 : Int) := (link_group (c := (cq [0,1] (bodyOf Tryd.f41))) (a := (aq [0,1] spec_l20Eager_an)) [(cq [0] (bodyOf Tryd.f41))] [(aq [0] spec_l20Eager_an)] rfl (link_seq (spec_l20Eager_n1_l x7866 x7867 x7868) (fun (t : Unit) => (spec_l20Eager_n23_l x7866 x7867 x7868))))

theorem spec_l20Eager_e (x7866 : Int) (x7867 : List Int) (x7868 : Int) {r : AV} {H' : Heap} (h : (Ans.mk _ (spec_l20Eager x7866 x7867 x7868) (fun (t : ByteArray × Int) => (dS t.1, [some (.box [dV x7867, dI t.2])])) [] none).run = some (r, H')) : Awp spec_l20Eager_ctx LL (bodyOf Tryd.f41) spec_l20Eager_an ⟨mkE 99 0 [(0, .ptr 0 0), (1, dI x7866)], [some (.box [dV x7867, dI x7868])]⟩ (Ret (tlook tys) Tryd.f41.results.toList r H') :=
  ret_of' (Link.cast (by kernel_rfl) (by kernel_rfl) (spec_l20Eager_n24_l x7866 x7867 x7868)) (by unfold spec_l20Eager; kernel_rfl) (by
  intro t
  exact ret_mk [dS t.1] (by kernel_rfl) (by kernel_rfl) (by kernel_rfl) (by kernel_rfl)) h

def F_spec_l20Eager : Fun := fun avs H =>
  match avs, H with
  | [.ptr 0 0, .dat (.int .i64) x7866], [some (.box [.dat (.list (.int .u8)) x7867, .dat (.int .i64) x7868])] => ⟨_, spec_l20Eager x7866 x7867 x7868, fun (t : ByteArray × Int) => (dS t.1, [some (.box [dV x7867, dI t.2])]), [], none⟩
  | _, _ => Ans.no

theorem spec_l20Eager_sound : Sound Tryd.prog 41 F_spec_l20Eager := by
  refine fn_sound' (C := spec_l20Eager_ctx) (c := bodyOf Tryd.f41) (cok_of tys_ok (allc spec_l20Rd_pick_sound (allc spec_l7Step_sound (allc spec_l20Rd_odd_sound alln))) (allc Tryd.call27 (allc Tryd.call46 (allc Tryd.call49 alln))) (by kernel_rfl)) Tryd.func41 (by kernel_rfl) LL spec_l20Eager_an ?_
  intro avs H r H' h
  unfold F_spec_l20Eager at h
  split at h
  · refine Awp.cast ?_ ?_ ?_ (spec_l20Eager_e _ _ _ h) <;> kernel_rfl
  · simp [Ans.no, Ans.run] at h


/-! loop.example/headtrees/spec.DrawRunEager -/

def spec_DrawRunEager_an : Ann := (.seq (.leaf [0]) (.seq (.leaf [4]) (.seq (.leaf [4, 5]) (.seq (.seq (.leaf [4, 5, 16]) (.cond (.seq (.leaf [4, 5, 6]) (.seq (.leaf [4, 5, 6, 7, 8]) (.seq (.leaf [4, 5, 6, 7, 24]) (.cond (.seq (.leaf [2, 3]) (.leaf [2, 3])) (.leaf [4, 5]))))) (.leaf [4, 5]))) (.seq (.leaf [2, 3]) (.leaf [2, 3]))))))

noncomputable def spec_DrawRunEager_ctx : Ctx := ⟨tlook tys, olook [(26, F_spec_l20Open), (27, F_spec_l20Rd_pick), (38, F_spec_l20Flat), (23, F_spec_EagerFor), (41, F_spec_l20Eager)], ioF, 0, false, []⟩

theorem spec_DrawRunEager_n1_l (x6536 : List Int) : Link spec_DrawRunEager_ctx LL (bodyOf Tryd.f18) spec_DrawRunEager_an ⟨mkE 36 0 [(0, dV x6536)], []⟩ (spec_DrawRunEager_n1 x6536) (fun (t : Int × ByteArray) => (Exit.ret, ⟨mkE 36 0 [(2, dI t.1), (3, dS t.2)], []⟩)) := by
  refine Link.of fun K h => ?_
  simp only [spec_DrawRunEager_n1, wpO_bind, wpO_cond, wpO_map, wpO_some] at h
  exact Awp.of (by kernel_rfl) h

theorem spec_DrawRunEager_e (x6536 : List Int) {r : AV} {H' : Heap} (h : (Ans.mk _ (spec_DrawRunEager x6536) (fun (t : Int × ByteArray) => (.tup [dI t.1, dS t.2], [])) [] none).run = some (r, H')) : Awp spec_DrawRunEager_ctx LL (bodyOf Tryd.f18) spec_DrawRunEager_an ⟨mkE 36 0 [(0, dV x6536)], []⟩ (Ret (tlook tys) Tryd.f18.results.toList r H') :=
  ret_of' (spec_DrawRunEager_n1_l x6536) (by unfold spec_DrawRunEager; kernel_rfl) (by
  intro t
  exact ret_mk [dI t.1, dS t.2] (by kernel_rfl) (by kernel_rfl) (by kernel_rfl) (by kernel_rfl)) h

def F_spec_DrawRunEager : Fun := fun avs H =>
  match avs, H with
  | [.dat (.list (.int .u8)) x6536], [] => ⟨_, spec_DrawRunEager x6536, fun (t : Int × ByteArray) => (.tup [dI t.1, dS t.2], []), [], none⟩
  | _, _ => Ans.no

theorem spec_DrawRunEager_sound : Sound Tryd.prog 18 F_spec_DrawRunEager := by
  refine fn_sound' (C := spec_DrawRunEager_ctx) (c := bodyOf Tryd.f18) (cok_of tys_ok (allc spec_l20Open_sound (allc spec_l20Rd_pick_sound (allc spec_l20Flat_sound (allc spec_EagerFor_sound (allc spec_l20Eager_sound alln))))) (allc Tryd.call26 (allc Tryd.call27 (allc Tryd.call38 (allc Tryd.call23 (allc Tryd.call41 alln))))) (by kernel_rfl)) Tryd.func18 (by kernel_rfl) LL spec_DrawRunEager_an ?_
  intro avs H r H' h
  unfold F_spec_DrawRunEager at h
  split at h
  · refine Awp.cast ?_ ?_ ?_ (spec_DrawRunEager_e _ h) <;> kernel_rfl
  · simp [Ans.no, Ans.run] at h


/-! loop.example/headtrees/impl.newEagerMachine -/

def impl_newEagerMachine_an : Ann := (.seq (.leaf [0]) (.seq (.leaf [2]) (.leaf [2])))

noncomputable def impl_newEagerMachine_ctx : Ctx := ⟨tlook tys, olook [(33, F_impl_newStackMachine)], ioF, 0, false, []⟩

theorem impl_newEagerMachine_n1_l (x11260 : Int) : Link impl_newEagerMachine_ctx LL (bodyOf Tryd.f42) impl_newEagerMachine_an ⟨mkE 9 0 [(0, dI x11260)], []⟩ (impl_newEagerMachine_n1 x11260) (fun (t : (List Int)) => (Exit.ret, ⟨mkE 9 0 [(2, .ptr 0 0)], [some (.box [.slc 1, .nils, dI 0, dI 0, dW 0]), some (sI t)]⟩)) := by
  refine Link.of fun K h => ?_
  simp only [impl_newEagerMachine_n1, wpO_bind, wpO_cond, wpO_map, wpO_some] at h
  exact Awp.of (by kernel_rfl) h

theorem impl_newEagerMachine_e (x11260 : Int) {r : AV} {H' : Heap} (h : (Ans.mk _ (impl_newEagerMachine x11260) (fun (t : (List Int)) => (.ptr 0 0, [some (.box [.slc 1, .nils, dI 0, dI 0, dW 0]), some (sI t)])) [] none).run = some (r, H')) : Awp impl_newEagerMachine_ctx LL (bodyOf Tryd.f42) impl_newEagerMachine_an ⟨mkE 9 0 [(0, dI x11260)], []⟩ (Ret (tlook tys) Tryd.f42.results.toList r H') :=
  ret_of' (impl_newEagerMachine_n1_l x11260) (by unfold impl_newEagerMachine; kernel_rfl) (by
  intro t
  exact ret_mk [.ptr 0 0] (by kernel_rfl) (by kernel_rfl) (by kernel_rfl) (by kernel_rfl)) h

def F_impl_newEagerMachine : Fun := fun avs H =>
  match avs, H with
  | [.dat (.int .i64) x11260], [] => ⟨_, impl_newEagerMachine x11260, fun (t : (List Int)) => (.ptr 0 0, [some (.box [.slc 1, .nils, dI 0, dI 0, dW 0]), some (sI t)]), [], none⟩
  | _, _ => Ans.no

theorem impl_newEagerMachine_sound : Sound Tryd.prog 42 F_impl_newEagerMachine := by
  refine fn_sound' (C := impl_newEagerMachine_ctx) (c := bodyOf Tryd.f42) (cok_of tys_ok (allc impl_newStackMachine_sound alln) (allc Tryd.call33 alln) (by kernel_rfl)) Tryd.func42 (by kernel_rfl) LL impl_newEagerMachine_an ?_
  intro avs H r H' h
  unfold F_impl_newEagerMachine at h
  split at h
  · refine Awp.cast ?_ ?_ ?_ (impl_newEagerMachine_e _ h) <;> kernel_rfl
  · simp [Ans.no, Ans.run] at h


/-! loop.example/headtrees/impl.eagerMoves -/

def F_impl_eagerMoves : Fun := F_map [(.int .u8 83, .methodOf 59 "loop.example/headtrees/impl.putNext"), (.int .u8 76, .func 68), (.int .u8 82, .func 69), (.int .u8 68, .func 70)]

theorem impl_eagerMoves_sound : Sound Tryd.prog 44 F_impl_eagerMoves :=
  mapfn_sound (mt := 62) (kt := 5) (et := 69) (d := .int .u8) Tryd.func44 (by kernel_rfl) (by kernel_rfl) (by kernel_rfl) (by kernel_rfl) (by kernel_rfl)


/-! (*loop.example/headtrees/impl.eagerMachine).upperAndNext -/

def impl_eagerMachine_upperAndNext_an : Ann := (.seq (.leaf [0]) (.seq (.leaf [0, 5]) (.seq (.seq (.draw [] [0, 1, 2, 3, 4, 5, 6, 7, 8, 9, 10, 11, 12, 13, 14, 15] [] [0, 5, 27]) (.cond (.seq (.leaf [2, 3, 4]) (.leaf [2, 3, 4])) (.leaf [0, 5]))) (.seq (.draw [] [0, 1, 2, 3, 4, 5, 6, 7, 8, 9, 10, 11, 12, 13, 14, 15, 16, 17] [] [2, 3, 4]) (.leaf [2, 3, 4])))))

noncomputable def impl_eagerMachine_upperAndNext_ctx : Ctx := ⟨tlook tys, olook [], ioF, 3, false, []⟩

theorem impl_eagerMachine_upperAndNext_n1_l (x12471 : Nat) (x12472 : Nat) (x12473 : Int) (x12474 : Int) (x12475 : Int) (x12476 : List Int) (x12477 : List Int) : Link impl_eagerMachine_upperAndNext_ctx LL (bodyOf Tryd.f72) impl_eagerMachine_upperAndNext_an ⟨mkE 43 0 [(0, .ptr 0 0)], [some (.box [.slc 1, .win 2 x12471 x12472, dI x12473, dI x12474, dW x12475]), some (sI x12476), some (sI x12477)]⟩ (impl_eagerMachine_upperAndNext_n1 x12471 x12472 x12473 x12476 x12477) (fun (t : Int × Int × Bool) => (Exit.ret, ⟨mkE 43 0 [(2, dI t.1), (3, dI t.2.1), (4, dB t.2.2)], [some (.box [.slc 1, .win 2 x12471 x12472, dI x12473, dI x12474, dW x12475]), some (sI x12476), some (sI x12477)]⟩)) := by
  refine Link.of fun K h => ?_
  simp only [impl_eagerMachine_upperAndNext_n1, wpO_bind, wpO_cond, wpO_map, wpO_some] at h
  exact Awp.of (by kernel_rfl) h

theorem impl_eagerMachine_upperAndNext_e (x12471 : Nat) (x12472 : Nat) (x12473 : Int) (x12474 : Int) (x12475 : Int) (x12476 : List Int) (x12477 : List Int) {r : AV} {H' : Heap} (h : (Ans.mk _ (impl_eagerMachine_upperAndNext x12471 x12472 x12473 x12474 x12475 x12476 x12477) (fun (t : Int × Int × Bool) => (.tup [dI t.1, dI t.2.1, dB t.2.2], [some (.box [.slc 1, .win 2 x12471 x12472, dI x12473, dI x12474, dW x12475]), some (sI x12476), some (sI x12477)])) [] none).run = some (r, H')) : Awp impl_eagerMachine_upperAndNext_ctx LL (bodyOf Tryd.f72) impl_eagerMachine_upperAndNext_an ⟨mkE 43 0 [(0, .ptr 0 0)], [some (.box [.slc 1, .win 2 x12471 x12472, dI x12473, dI x12474, dW x12475]), some (sI x12476), some (sI x12477)]⟩ (Ret (tlook tys) Tryd.f72.results.toList r H') :=
  ret_of' (impl_eagerMachine_upperAndNext_n1_l x12471 x12472 x12473 x12474 x12475 x12476 x12477) (by unfold impl_eagerMachine_upperAndNext; kernel_rfl) (by
  intro t
  exact ret_mk [dI t.1, dI t.2.1, dB t.2.2] (by kernel_rfl) (by kernel_rfl) (by kernel_rfl) (by kernel_rfl)) h

def F_impl_eagerMachine_upperAndNext : Fun := fun avs H =>
  match avs, H with
  | [.ptr 0 0], [some (.box [.slc 1, .win 2 x12471 x12472, .dat (.int .i64) x12473, .dat (.int .i64) x12474, .dat (.int .u64) x12475]), some (.seq (.int .i64) x12476), some (.seq (.int .i64) x12477)] => ⟨_, impl_eagerMachine_upperAndNext x12471 x12472 x12473 x12474 x12475 x12476 x12477, fun (t : Int × Int × Bool) => (.tup [dI t.1, dI t.2.1, dB t.2.2], [some (.box [.slc 1, .win 2 x12471 x12472, dI x12473, dI x12474, dW x12475]), some (sI x12476), some (sI x12477)]), [], none⟩
  | _, _ => Ans.no

theorem impl_eagerMachine_upperAndNext_sound : Sound Tryd.prog 72 F_impl_eagerMachine_upperAndNext := by
  refine fn_sound' (C := impl_eagerMachine_upperAndNext_ctx) (c := bodyOf Tryd.f72) (cok_of tys_ok (alln) (alln) (by kernel_rfl)) Tryd.func72 (by kernel_rfl) LL impl_eagerMachine_upperAndNext_an ?_
  intro avs H r H' h
  unfold F_impl_eagerMachine_upperAndNext at h
  split at h
  · refine Awp.cast ?_ ?_ ?_ (impl_eagerMachine_upperAndNext_e _ _ _ _ _ _ _ h) <;> kernel_rfl
  · simp [Ans.no, Ans.run] at h


/-! (loop.example/headtrees/impl.wordSet).hasAll -/

def impl_wordSet_hasAll_an : Ann := (.seq (.leaf [0, 1]) (.seq (.leaf [4]) (.leaf [4])))

noncomputable def impl_wordSet_hasAll_ctx : Ctx := ⟨tlook tys, olook [], ioF, 0, false, []⟩

theorem impl_wordSet_hasAll_n1_l (x11447 : Int) (x11448 : Int) : Link impl_wordSet_hasAll_ctx LL (bodyOf Tryd.f86) impl_wordSet_hasAll_an ⟨mkE 10 0 [(0, dW x11447), (1, dW x11448)], []⟩ (impl_wordSet_hasAll_n1 x11447 x11448) (fun (t : Bool) => (Exit.ret, ⟨mkE 10 0 [(4, dB t)], []⟩)) := by
  refine Link.of fun K h => ?_
  simp only [impl_wordSet_hasAll_n1, wpO_bind, wpO_cond, wpO_map, wpO_some] at h
  exact Awp.of (by kernel_rfl) h

theorem impl_wordSet_hasAll_e (x11447 : Int) (x11448 : Int) {r : AV} {H' : Heap} (h : (Ans.mk _ (impl_wordSet_hasAll x11447 x11448) (fun (t : Bool) => (dB t, [])) [] none).run = some (r, H')) : Awp impl_wordSet_hasAll_ctx LL (bodyOf Tryd.f86) impl_wordSet_hasAll_an ⟨mkE 10 0 [(0, dW x11447), (1, dW x11448)], []⟩ (Ret (tlook tys) Tryd.f86.results.toList r H') :=
  ret_of' (impl_wordSet_hasAll_n1_l x11447 x11448) (by unfold impl_wordSet_hasAll; kernel_rfl) (by
  intro t
  exact ret_mk [dB t] (by kernel_rfl) (by kernel_rfl) (by kernel_rfl) (by kernel_rfl)) h

def F_impl_wordSet_hasAll : Fun := fun avs H =>
  match avs, H with
  | [.dat (.int .u64) x11447, .dat (.int .u64) x11448], [] => ⟨_, impl_wordSet_hasAll x11447 x11448, fun (t : Bool) => (dB t, []), [], none⟩
  | _, _ => Ans.no

theorem impl_wordSet_hasAll_sound : Sound Tryd.prog 86 F_impl_wordSet_hasAll := by
  refine fn_sound' (C := impl_wordSet_hasAll_ctx) (c := bodyOf Tryd.f86) (cok_of tys_ok (alln) (alln) (by kernel_rfl)) Tryd.func86 (by kernel_rfl) LL impl_wordSet_hasAll_an ?_
  intro avs H r H' h
  unfold F_impl_wordSet_hasAll at h
  split at h
  · refine Awp.cast ?_ ?_ ?_ (impl_wordSet_hasAll_e _ _ h) <;> kernel_rfl
  · simp [Ans.no, Ans.run] at h


/-! (*loop.example/headtrees/impl.eagerMachine).hasHead -/

def impl_eagerMachine_hasHead_an : Ann := (.seq (.leaf [0, 1]) (.seq (.draw [5, 6] [0, 1, 2, 3, 4, 5, 6, 7] [] [4]) (.leaf [4])))

noncomputable def impl_eagerMachine_hasHead_ctx : Ctx := ⟨tlook tys, olook [(76, F_impl_only), (86, F_impl_wordSet_hasAll)], ioF, 3, false, []⟩

theorem impl_eagerMachine_hasHead_n1_l (x12513 : Int) (x12514 : Nat) (x12515 : Nat) (x12516 : Int) (x12517 : Int) (x12518 : Int) (x12519 : List Int) (x12520 : List Int) : Link impl_eagerMachine_hasHead_ctx LL (bodyOf Tryd.f79) impl_eagerMachine_hasHead_an ⟨mkE 12 0 [(0, .ptr 0 0), (1, dI x12513)], [some (.box [.slc 1, .win 2 x12514 x12515, dI x12516, dI x12517, dW x12518]), some (sI x12519), some (sI x12520)]⟩ (impl_eagerMachine_hasHead_n1 x12513 x12518) (fun (t : Bool) => (Exit.ret, ⟨mkE 12 0 [(4, dB t)], [some (.box [.slc 1, .win 2 x12514 x12515, dI x12516, dI x12517, dW x12518]), some (sI x12519), some (sI x12520)]⟩)) := by
  refine Link.of fun K h => ?_
  simp only [impl_eagerMachine_hasHead_n1, wpO_bind, wpO_cond, wpO_map, wpO_some] at h
  exact Awp.of (by kernel_rfl) h

theorem impl_eagerMachine_hasHead_e (x12513 : Int) (x12514 : Nat) (x12515 : Nat) (x12516 : Int) (x12517 : Int) (x12518 : Int) (x12519 : List Int) (x12520 : List Int) {r : AV} {H' : Heap} (h : (Ans.mk _ (impl_eagerMachine_hasHead x12513 x12514 x12515 x12516 x12517 x12518 x12519 x12520) (fun (t : Bool) => (dB t, [some (.box [.slc 1, .win 2 x12514 x12515, dI x12516, dI x12517, dW x12518]), some (sI x12519), some (sI x12520)])) [] none).run = some (r, H')) : Awp impl_eagerMachine_hasHead_ctx LL (bodyOf Tryd.f79) impl_eagerMachine_hasHead_an ⟨mkE 12 0 [(0, .ptr 0 0), (1, dI x12513)], [some (.box [.slc 1, .win 2 x12514 x12515, dI x12516, dI x12517, dW x12518]), some (sI x12519), some (sI x12520)]⟩ (Ret (tlook tys) Tryd.f79.results.toList r H') :=
  ret_of' (impl_eagerMachine_hasHead_n1_l x12513 x12514 x12515 x12516 x12517 x12518 x12519 x12520) (by unfold impl_eagerMachine_hasHead; kernel_rfl) (by
  intro t
  exact ret_mk [dB t] (by kernel_rfl) (by kernel_rfl) (by kernel_rfl) (by kernel_rfl)) h

def F_impl_eagerMachine_hasHead : Fun := fun avs H =>
  match avs, H with
  | [.ptr 0 0, .dat (.int .i64) x12513], [some (.box [.slc 1, .win 2 x12514 x12515, .dat (.int .i64) x12516, .dat (.int .i64) x12517, .dat (.int .u64) x12518]), some (.seq (.int .i64) x12519), some (.seq (.int .i64) x12520)] => ⟨_, impl_eagerMachine_hasHead x12513 x12514 x12515 x12516 x12517 x12518 x12519 x12520, fun (t : Bool) => (dB t, [some (.box [.slc 1, .win 2 x12514 x12515, dI x12516, dI x12517, dW x12518]), some (sI x12519), some (sI x12520)]), [], none⟩
  | _, _ => Ans.no

theorem impl_eagerMachine_hasHead_sound : Sound Tryd.prog 79 F_impl_eagerMachine_hasHead := by
  refine fn_sound' (C := impl_eagerMachine_hasHead_ctx) (c := bodyOf Tryd.f79) (cok_of tys_ok (allc impl_only_sound (allc impl_wordSet_hasAll_sound alln)) (allc Tryd.call76 (allc Tryd.call86 alln)) (by kernel_rfl)) Tryd.func79 (by kernel_rfl) LL impl_eagerMachine_hasHead_an ?_
  intro avs H r H' h
  unfold F_impl_eagerMachine_hasHead at h
  split at h
  · refine Awp.cast ?_ ?_ ?_ (impl_eagerMachine_hasHead_e _ _ _ _ _ _ _ _ h) <;> kernel_rfl
  · simp [Ans.no, Ans.run] at h


/-! (*loop.example/headtrees/impl.eagerMachine).giveHead -/

def impl_eagerMachine_giveHead_an : Ann := (.seq (.leaf [0, 1]) (.draw [5] [0, 1, 2, 3, 4, 5, 6, 7, 8, 9] [] []))

noncomputable def impl_eagerMachine_giveHead_ctx : Ctx := ⟨tlook tys, olook [(76, F_impl_only)], ioF, 3, false, []⟩

theorem impl_eagerMachine_giveHead_n1_l (x12532 : Int) (x12533 : Int) (x12534 : Nat) (x12535 : Nat) (x12536 : Int) (x12537 : Int) (x12538 : Int) (x12539 : List Int) (x12540 : List Int) : Link impl_eagerMachine_giveHead_ctx LL (bodyOf Tryd.f80) impl_eagerMachine_giveHead_an ⟨mkE 24 0 [(0, .ptr 0 0), (1, dI x12532), (2, dI x12533)], [some (.box [.slc 1, .win 2 x12534 x12535, dI x12536, dI x12537, dW x12538]), some (sI x12539), some (sI x12540)]⟩ (impl_eagerMachine_giveHead_n1 x12532 x12533 x12538 x12539) (fun (t : Int × (List Int)) => (Exit.normal, ⟨mkE 24 0 [], [some (.box [.slc 1, .win 2 x12534 x12535, dI x12536, dI x12537, dW t.1]), some (sI t.2), some (sI x12540)]⟩)) := by
  refine Link.of fun K h => ?_
  simp only [impl_eagerMachine_giveHead_n1, wpO_bind, wpO_cond, wpO_map, wpO_some] at h
  exact Awp.of (by kernel_rfl) h

theorem impl_eagerMachine_giveHead_e (x12532 : Int) (x12533 : Int) (x12534 : Nat) (x12535 : Nat) (x12536 : Int) (x12537 : Int) (x12538 : Int) (x12539 : List Int) (x12540 : List Int) {r : AV} {H' : Heap} (h : (Ans.mk _ (impl_eagerMachine_giveHead x12532 x12533 x12534 x12535 x12536 x12537 x12538 x12539 x12540) (fun (t : Int × (List Int)) => (.tup [], [some (.box [.slc 1, .win 2 x12534 x12535, dI x12536, dI x12537, dW t.1]), some (sI t.2), some (sI x12540)])) [] none).run = some (r, H')) : Awp impl_eagerMachine_giveHead_ctx LL (bodyOf Tryd.f80) impl_eagerMachine_giveHead_an ⟨mkE 24 0 [(0, .ptr 0 0), (1, dI x12532), (2, dI x12533)], [some (.box [.slc 1, .win 2 x12534 x12535, dI x12536, dI x12537, dW x12538]), some (sI x12539), some (sI x12540)]⟩ (Ret (tlook tys) Tryd.f80.results.toList r H') :=
  ret_of (impl_eagerMachine_giveHead_n1_l x12532 x12533 x12534 x12535 x12536 x12537 x12538 x12539 x12540) (fun (t : Int × (List Int)) => (t.1, t.2)) (by unfold impl_eagerMachine_giveHead; kernel_rfl) (by
  rintro t
  · exact ret_mk [] (by kernel_rfl) (by kernel_rfl) (by kernel_rfl) (by kernel_rfl)) h

def F_impl_eagerMachine_giveHead : Fun := fun avs H =>
  match avs, H with
  | [.ptr 0 0, .dat (.int .i64) x12532, .dat (.int .i64) x12533], [some (.box [.slc 1, .win 2 x12534 x12535, .dat (.int .i64) x12536, .dat (.int .i64) x12537, .dat (.int .u64) x12538]), some (.seq (.int .i64) x12539), some (.seq (.int .i64) x12540)] => ⟨_, impl_eagerMachine_giveHead x12532 x12533 x12534 x12535 x12536 x12537 x12538 x12539 x12540, fun (t : Int × (List Int)) => (.tup [], [some (.box [.slc 1, .win 2 x12534 x12535, dI x12536, dI x12537, dW t.1]), some (sI t.2), some (sI x12540)]), [], none⟩
  | _, _ => Ans.no

theorem impl_eagerMachine_giveHead_sound : Sound Tryd.prog 80 F_impl_eagerMachine_giveHead := by
  refine fn_sound' (C := impl_eagerMachine_giveHead_ctx) (c := bodyOf Tryd.f80) (cok_of tys_ok (allc impl_only_sound alln) (allc Tryd.call76 alln) (by kernel_rfl)) Tryd.func80 (by kernel_rfl) LL impl_eagerMachine_giveHead_an ?_
  intro avs H r H' h
  unfold F_impl_eagerMachine_giveHead at h
  split at h
  · refine Awp.cast ?_ ?_ ?_ (impl_eagerMachine_giveHead_e _ _ _ _ _ _ _ _ _ h) <;> kernel_rfl
  · simp [Ans.no, Ans.run] at h


/-! (*loop.example/headtrees/impl.eagerMachine).takeAway -/

def impl_eagerMachine_takeAway_an : Ann := (.draw [] [0, 1, 2, 3, 4, 5, 6, 7, 8, 9, 10, 11, 12, 13, 14, 15, 16, 17] [] [])

noncomputable def impl_eagerMachine_takeAway_ctx : Ctx := ⟨tlook tys, olook [], ioF, 3, false, []⟩

theorem impl_eagerMachine_takeAway_n1_l (x12561 : Nat) (x12562 : Nat) (x12563 : Int) (x12564 : Int) (x12565 : Int) (x12566 : List Int) (x12567 : List Int) : Link impl_eagerMachine_takeAway_ctx LL (bodyOf Tryd.f81) impl_eagerMachine_takeAway_an ⟨mkE 19 0 [(0, .ptr 0 0)], [some (.box [.slc 1, .win 2 x12561 x12562, dI x12563, dI x12564, dW x12565]), some (sI x12566), some (sI x12567)]⟩ (impl_eagerMachine_takeAway_n1 x12561 x12562) (fun (t : Nat × Nat) => (Exit.normal, ⟨mkE 19 0 [], [some (.box [.slc 1, .win 2 t.1 t.2, dI x12563, dI x12564, dW x12565]), some (sI x12566), some (sI x12567)]⟩)) := by
  refine Link.of fun K h => ?_
  simp only [impl_eagerMachine_takeAway_n1, wpO_bind, wpO_cond, wpO_map, wpO_some] at h
  exact Awp.of (by kernel_rfl) h

theorem impl_eagerMachine_takeAway_e (x12561 : Nat) (x12562 : Nat) (x12563 : Int) (x12564 : Int) (x12565 : Int) (x12566 : List Int) (x12567 : List Int) {r : AV} {H' : Heap} (h : (Ans.mk _ (impl_eagerMachine_takeAway x12561 x12562 x12563 x12564 x12565 x12566 x12567) (fun (t : Nat × Nat) => (.tup [], [some (.box [.slc 1, .win 2 t.1 t.2, dI x12563, dI x12564, dW x12565]), some (sI x12566), some (sI x12567)])) [] none).run = some (r, H')) : Awp impl_eagerMachine_takeAway_ctx LL (bodyOf Tryd.f81) impl_eagerMachine_takeAway_an ⟨mkE 19 0 [(0, .ptr 0 0)], [some (.box [.slc 1, .win 2 x12561 x12562, dI x12563, dI x12564, dW x12565]), some (sI x12566), some (sI x12567)]⟩ (Ret (tlook tys) Tryd.f81.results.toList r H') :=
  ret_of (impl_eagerMachine_takeAway_n1_l x12561 x12562 x12563 x12564 x12565 x12566 x12567) (fun (t : Nat × Nat) => (t.1, t.2)) (by unfold impl_eagerMachine_takeAway; kernel_rfl) (by
  rintro t
  · exact ret_mk [] (by kernel_rfl) (by kernel_rfl) (by kernel_rfl) (by kernel_rfl)) h

def F_impl_eagerMachine_takeAway : Fun := fun avs H =>
  match avs, H with
  | [.ptr 0 0], [some (.box [.slc 1, .win 2 x12561 x12562, .dat (.int .i64) x12563, .dat (.int .i64) x12564, .dat (.int .u64) x12565]), some (.seq (.int .i64) x12566), some (.seq (.int .i64) x12567)] => ⟨_, impl_eagerMachine_takeAway x12561 x12562 x12563 x12564 x12565 x12566 x12567, fun (t : Nat × Nat) => (.tup [], [some (.box [.slc 1, .win 2 t.1 t.2, dI x12563, dI x12564, dW x12565]), some (sI x12566), some (sI x12567)]), [], none⟩
  | _, _ => Ans.no

theorem impl_eagerMachine_takeAway_sound : Sound Tryd.prog 81 F_impl_eagerMachine_takeAway := by
  refine fn_sound' (C := impl_eagerMachine_takeAway_ctx) (c := bodyOf Tryd.f81) (cok_of tys_ok (alln) (alln) (by kernel_rfl)) Tryd.func81 (by kernel_rfl) LL impl_eagerMachine_takeAway_an ?_
  intro avs H r H' h
  unfold F_impl_eagerMachine_takeAway at h
  split at h
  · refine Awp.cast ?_ ?_ ?_ (impl_eagerMachine_takeAway_e _ _ _ _ _ _ _ h) <;> kernel_rfl
  · simp [Ans.no, Ans.run] at h


/-! (*loop.example/headtrees/impl.eagerMachine).takeUnderNext -/

def impl_eagerMachine_takeUnderNext_an : Ann := (.seq (.leaf [0]) (.seq (.leaf [0, 3, 4, 5]) (.seq (.seq (.leaf [0, 3, 4, 18]) (.cond (.seq (.leaf [2]) (.leaf [2])) (.leaf [0, 3, 4]))) (.seq (.leaf [0]) (.seq (.leaf []) (.seq (.leaf [2]) (.leaf [2])))))))

noncomputable def impl_eagerMachine_takeUnderNext_ctx : Ctx := ⟨tlook tys, olook [(72, F_impl_eagerMachine_upperAndNext), (79, F_impl_eagerMachine_hasHead), (80, F_impl_eagerMachine_giveHead), (81, F_impl_eagerMachine_takeAway)], ioF, 3, false, []⟩

theorem impl_eagerMachine_takeUnderNext_n1_l (x12464 : Nat) (x12465 : Nat) (x12466 : Int) (x12467 : Int) (x12468 : Int) (x12469 : List Int) (x12470 : List Int) : Link impl_eagerMachine_takeUnderNext_ctx LL (bodyOf Tryd.f68) impl_eagerMachine_takeUnderNext_an ⟨mkE 25 0 [(0, .ptr 0 0)], [some (.box [.slc 1, .win 2 x12464 x12465, dI x12466, dI x12467, dW x12468]), some (sI x12469), some (sI x12470)]⟩ (impl_eagerMachine_takeUnderNext_n1 x12464 x12465 x12466 x12467 x12468 x12469 x12470) (fun (t : Bool × Nat × Nat × Int × (List Int)) => (Exit.ret, ⟨mkE 25 0 [(2, dB t.1)], [some (.box [.slc 1, .win 2 t.2.1 t.2.2.1, dI x12466, dI x12467, dW t.2.2.2.1]), some (sI t.2.2.2.2), some (sI x12470)]⟩)) := by
  refine Link.of fun K h => ?_
  simp only [impl_eagerMachine_takeUnderNext_n1, wpO_bind, wpO_cond, wpO_map, wpO_some] at h
  exact Awp.of (by kernel_rfl) h

theorem impl_eagerMachine_takeUnderNext_e (x12464 : Nat) (x12465 : Nat) (x12466 : Int) (x12467 : Int) (x12468 : Int) (x12469 : List Int) (x12470 : List Int) {r : AV} {H' : Heap} (h : (Ans.mk _ (impl_eagerMachine_takeUnderNext x12464 x12465 x12466 x12467 x12468 x12469 x12470) (fun (t : Bool × Nat × Nat × Int × (List Int)) => (dB t.1, [some (.box [.slc 1, .win 2 t.2.1 t.2.2.1, dI x12466, dI x12467, dW t.2.2.2.1]), some (sI t.2.2.2.2), some (sI x12470)])) [] none).run = some (r, H')) : Awp impl_eagerMachine_takeUnderNext_ctx LL (bodyOf Tryd.f68) impl_eagerMachine_takeUnderNext_an ⟨mkE 25 0 [(0, .ptr 0 0)], [some (.box [.slc 1, .win 2 x12464 x12465, dI x12466, dI x12467, dW x12468]), some (sI x12469), some (sI x12470)]⟩ (Ret (tlook tys) Tryd.f68.results.toList r H') :=
  ret_of' (impl_eagerMachine_takeUnderNext_n1_l x12464 x12465 x12466 x12467 x12468 x12469 x12470) (by unfold impl_eagerMachine_takeUnderNext; kernel_rfl) (by
  intro t
  exact ret_mk [dB t.1] (by kernel_rfl) (by kernel_rfl) (by kernel_rfl) (by kernel_rfl)) h

def F_impl_eagerMachine_takeUnderNext : Fun := fun avs H =>
  match avs, H with
  | [.ptr 0 0], [some (.box [.slc 1, .win 2 x12464 x12465, .dat (.int .i64) x12466, .dat (.int .i64) x12467, .dat (.int .u64) x12468]), some (.seq (.int .i64) x12469), some (.seq (.int .i64) x12470)] => ⟨_, impl_eagerMachine_takeUnderNext x12464 x12465 x12466 x12467 x12468 x12469 x12470, fun (t : Bool × Nat × Nat × Int × (List Int)) => (dB t.1, [some (.box [.slc 1, .win 2 t.2.1 t.2.2.1, dI x12466, dI x12467, dW t.2.2.2.1]), some (sI t.2.2.2.2), some (sI x12470)]), [], none⟩
  | _, _ => Ans.no

theorem impl_eagerMachine_takeUnderNext_sound : Sound Tryd.prog 68 F_impl_eagerMachine_takeUnderNext := by
  refine fn_sound' (C := impl_eagerMachine_takeUnderNext_ctx) (c := bodyOf Tryd.f68) (cok_of tys_ok (allc impl_eagerMachine_upperAndNext_sound (allc impl_eagerMachine_hasHead_sound (allc impl_eagerMachine_giveHead_sound (allc impl_eagerMachine_takeAway_sound alln)))) (allc Tryd.call72 (allc Tryd.call79 (allc Tryd.call80 (allc Tryd.call81 alln)))) (by kernel_rfl)) Tryd.func68 (by kernel_rfl) LL impl_eagerMachine_takeUnderNext_an ?_
  intro avs H r H' h
  unfold F_impl_eagerMachine_takeUnderNext at h
  split at h
  · refine Awp.cast ?_ ?_ ?_ (impl_eagerMachine_takeUnderNext_e _ _ _ _ _ _ _ h) <;> kernel_rfl
  · simp [Ans.no, Ans.run] at h


/-! (*loop.example/headtrees/impl.eagerMachine).putUnderUpper -/

def impl_eagerMachine_putUnderUpper_an : Ann := (.seq (.leaf [0]) (.seq (.leaf [0, 3, 4, 5]) (.seq (.seq (.leaf [0, 3, 4, 13]) (.cond (.seq (.leaf [2]) (.leaf [2])) (.leaf [0, 3, 4]))) (.seq (.leaf [0]) (.seq (.leaf [2]) (.leaf [2]))))))

noncomputable def impl_eagerMachine_putUnderUpper_ctx : Ctx := ⟨tlook tys, olook [(72, F_impl_eagerMachine_upperAndNext), (80, F_impl_eagerMachine_giveHead), (54, F_impl_stackMachine_putNext_v2)], ioF, 3, false, [2]⟩

theorem impl_eagerMachine_putUnderUpper_n1_l (x12613 : Nat) (x12614 : Nat) (x12615 : Int) (x12616 : Int) (x12617 : Int) (x12618 : List Int) (x12619 : List Int) : Link impl_eagerMachine_putUnderUpper_ctx LL (bodyOf Tryd.f69) impl_eagerMachine_putUnderUpper_an ⟨mkE 22 0 [(0, .ptr 0 0)], [some (.box [.slc 1, .win 2 x12613 x12614, dI x12615, dI x12616, dW x12617]), some (sI x12618), some (sI x12619)]⟩ (impl_eagerMachine_putUnderUpper_n1 x12613 x12614 x12615 x12616 x12617 x12618 x12619) (fun (t : Bool × Nat × Nat × Int × Int × Int × (List Int) × (List Int)) => (Exit.ret, ⟨mkE 22 0 [(2, dB t.1)], [some (.box [.slc 1, .win 2 t.2.1 t.2.2.1, dI t.2.2.2.1, dI t.2.2.2.2.1, dW t.2.2.2.2.2.1]), some (sI t.2.2.2.2.2.2.1), some (sI t.2.2.2.2.2.2.2)]⟩)) := by
  refine Link.of fun K h => ?_
  simp only [impl_eagerMachine_putUnderUpper_n1, wpO_bind, wpO_cond, wpO_map, wpO_some] at h
  exact Awp.of (by kernel_rfl) h

theorem impl_eagerMachine_putUnderUpper_e (x12613 : Nat) (x12614 : Nat) (x12615 : Int) (x12616 : Int) (x12617 : Int) (x12618 : List Int) (x12619 : List Int) {r : AV} {H' : Heap} (h : (Ans.mk _ (impl_eagerMachine_putUnderUpper x12613 x12614 x12615 x12616 x12617 x12618 x12619) (fun (t : Bool × Nat × Nat × Int × Int × Int × (List Int) × (List Int)) => (dB t.1, [some (.box [.slc 1, .win 2 t.2.1 t.2.2.1, dI t.2.2.2.1, dI t.2.2.2.2.1, dW t.2.2.2.2.2.1]), some (sI t.2.2.2.2.2.2.1), some (sI t.2.2.2.2.2.2.2)])) [2] none).run = some (r, H')) : Awp impl_eagerMachine_putUnderUpper_ctx LL (bodyOf Tryd.f69) impl_eagerMachine_putUnderUpper_an ⟨mkE 22 0 [(0, .ptr 0 0)], [some (.box [.slc 1, .win 2 x12613 x12614, dI x12615, dI x12616, dW x12617]), some (sI x12618), some (sI x12619)]⟩ (Ret (tlook tys) Tryd.f69.results.toList r H') :=
  ret_of' (impl_eagerMachine_putUnderUpper_n1_l x12613 x12614 x12615 x12616 x12617 x12618 x12619) (by unfold impl_eagerMachine_putUnderUpper; kernel_rfl) (by
  intro t
  exact ret_mk [dB t.1] (by kernel_rfl) (by kernel_rfl) (by kernel_rfl) (by kernel_rfl)) h

def F_impl_eagerMachine_putUnderUpper : Fun := fun avs H =>
  match avs, H with
  | [.ptr 0 0], [some (.box [.slc 1, .win 2 x12613 x12614, .dat (.int .i64) x12615, .dat (.int .i64) x12616, .dat (.int .u64) x12617]), some (.seq (.int .i64) x12618), some (.seq (.int .i64) x12619)] => ⟨_, impl_eagerMachine_putUnderUpper x12613 x12614 x12615 x12616 x12617 x12618 x12619, fun (t : Bool × Nat × Nat × Int × Int × Int × (List Int) × (List Int)) => (dB t.1, [some (.box [.slc 1, .win 2 t.2.1 t.2.2.1, dI t.2.2.2.1, dI t.2.2.2.2.1, dW t.2.2.2.2.2.1]), some (sI t.2.2.2.2.2.2.1), some (sI t.2.2.2.2.2.2.2)]), [2], none⟩
  | _, _ => Ans.no

theorem impl_eagerMachine_putUnderUpper_sound : Sound Tryd.prog 69 F_impl_eagerMachine_putUnderUpper := by
  refine fn_sound' (C := impl_eagerMachine_putUnderUpper_ctx) (c := bodyOf Tryd.f69) (cok_of tys_ok (allc impl_eagerMachine_upperAndNext_sound (allc impl_eagerMachine_giveHead_sound (allc impl_stackMachine_putNext_v2_sound alln))) (allc Tryd.call72 (allc Tryd.call80 (allc Tryd.call54 alln))) (by kernel_rfl)) Tryd.func69 (by kernel_rfl) LL impl_eagerMachine_putUnderUpper_an ?_
  intro avs H r H' h
  unfold F_impl_eagerMachine_putUnderUpper at h
  split at h
  · refine Awp.cast ?_ ?_ ?_ (impl_eagerMachine_putUnderUpper_e _ _ _ _ _ _ _ h) <;> kernel_rfl
  · simp [Ans.no, Ans.run] at h


/-! (*loop.example/headtrees/impl.eagerMachine).takeHeaded -/

def impl_eagerMachine_takeHeaded_an : Ann := (.seq (.leaf [0]) (.seq (.leaf [0, 3]) (.seq (.seq (.leaf [0, 25]) (.cond (.seq (.leaf [2]) (.leaf [2])) (.leaf [0]))) (.seq (.leaf []) (.seq (.leaf [2]) (.leaf [2]))))))

noncomputable def impl_eagerMachine_takeHeaded_ctx : Ctx := ⟨tlook tys, olook [(79, F_impl_eagerMachine_hasHead), (81, F_impl_eagerMachine_takeAway)], ioF, 3, false, []⟩

theorem impl_eagerMachine_takeHeaded_n1_l (x12686 : Nat) (x12687 : Nat) (x12688 : Int) (x12689 : Int) (x12690 : Int) (x12691 : List Int) (x12692 : List Int) : Link impl_eagerMachine_takeHeaded_ctx LL (bodyOf Tryd.f70) impl_eagerMachine_takeHeaded_an ⟨mkE 28 0 [(0, .ptr 0 0)], [some (.box [.slc 1, .win 2 x12686 x12687, dI x12688, dI x12689, dW x12690]), some (sI x12691), some (sI x12692)]⟩ (impl_eagerMachine_takeHeaded_n1 x12686 x12687 x12688 x12689 x12690 x12691 x12692) (fun (t : Bool × Nat × Nat) => (Exit.ret, ⟨mkE 28 0 [(2, dB t.1)], [some (.box [.slc 1, .win 2 t.2.1 t.2.2, dI x12688, dI x12689, dW x12690]), some (sI x12691), some (sI x12692)]⟩)) := by
  refine Link.of fun K h => ?_
  simp only [impl_eagerMachine_takeHeaded_n1, wpO_bind, wpO_cond, wpO_map, wpO_some] at h
  exact Awp.of (by kernel_rfl) h

theorem impl_eagerMachine_takeHeaded_e (x12686 : Nat) (x12687 : Nat) (x12688 : Int) (x12689 : Int) (x12690 : Int) (x12691 : List Int) (x12692 : List Int) {r : AV} {H' : Heap} (h : (Ans.mk _ (impl_eagerMachine_takeHeaded x12686 x12687 x12688 x12689 x12690 x12691 x12692) (fun (t : Bool × Nat × Nat) => (dB t.1, [some (.box [.slc 1, .win 2 t.2.1 t.2.2, dI x12688, dI x12689, dW x12690]), some (sI x12691), some (sI x12692)])) [] none).run = some (r, H')) : Awp impl_eagerMachine_takeHeaded_ctx LL (bodyOf Tryd.f70) impl_eagerMachine_takeHeaded_an ⟨mkE 28 0 [(0, .ptr 0 0)], [some (.box [.slc 1, .win 2 x12686 x12687, dI x12688, dI x12689, dW x12690]), some (sI x12691), some (sI x12692)]⟩ (Ret (tlook tys) Tryd.f70.results.toList r H') :=
  ret_of' (impl_eagerMachine_takeHeaded_n1_l x12686 x12687 x12688 x12689 x12690 x12691 x12692) (by unfold impl_eagerMachine_takeHeaded; kernel_rfl) (by
  intro t
  exact ret_mk [dB t.1] (by kernel_rfl) (by kernel_rfl) (by kernel_rfl) (by kernel_rfl)) h

def F_impl_eagerMachine_takeHeaded : Fun := fun avs H =>
  match avs, H with
  | [.ptr 0 0], [some (.box [.slc 1, .win 2 x12686 x12687, .dat (.int .i64) x12688, .dat (.int .i64) x12689, .dat (.int .u64) x12690]), some (.seq (.int .i64) x12691), some (.seq (.int .i64) x12692)] => ⟨_, impl_eagerMachine_takeHeaded x12686 x12687 x12688 x12689 x12690 x12691 x12692, fun (t : Bool × Nat × Nat) => (dB t.1, [some (.box [.slc 1, .win 2 t.2.1 t.2.2, dI x12688, dI x12689, dW x12690]), some (sI x12691), some (sI x12692)]), [], none⟩
  | _, _ => Ans.no

theorem impl_eagerMachine_takeHeaded_sound : Sound Tryd.prog 70 F_impl_eagerMachine_takeHeaded := by
  refine fn_sound' (C := impl_eagerMachine_takeHeaded_ctx) (c := bodyOf Tryd.f70) (cok_of tys_ok (allc impl_eagerMachine_hasHead_sound (allc impl_eagerMachine_takeAway_sound alln)) (allc Tryd.call79 (allc Tryd.call81 alln)) (by kernel_rfl)) Tryd.func70 (by kernel_rfl) LL impl_eagerMachine_takeHeaded_an ?_
  intro avs H r H' h
  unfold F_impl_eagerMachine_takeHeaded at h
  split at h
  · refine Awp.cast ?_ ?_ ?_ (impl_eagerMachine_takeHeaded_e _ _ _ _ _ _ _ h) <;> kernel_rfl
  · simp [Ans.no, Ans.run] at h


/-! loop.example/headtrees/impl.allDone[*loop.example/headtrees/impl.eagerMachine] -/

def impl_allDone_impl_eagerMachine_an : Ann := (.seq (.leaf [0, 1, 2]) (.seq (.seq (.leafF [⟨3, 0, false, some 1, some (.int .i64)⟩, ⟨3, 0, true, some 1, none⟩] [0, 1, 2, 11, 12]) (.block (.loop (.seq (.leaf [0, 1, 2, 11, 12, 13]) (.seq (.cond (.leaf [0, 1, 2, 11, 12]) (.leaf [])) (.seq (.block (.seq (.leaf [0, 1, 2, 7, 11, 12]) (.seq (.leaf [0, 1, 2, 8, 9, 11, 12]) (.seq (.leafF [⟨5, 0, false, some 1, some (.int .i64)⟩] [0, 1, 2, 11, 12, 30]) (.cond (.seq (.leaf [6]) (.leaf [6])) (.leaf [0, 1, 2, 11, 12])))))) (.leafF [⟨2, 0, true, some 1, none⟩] [0, 1, 2, 11, 12]))))))) (.seq (.leaf [6]) (.leaf [6]))))

noncomputable def impl_allDone_impl_eagerMachine_ctx : Ctx := ⟨tlook tys, olook [(54, F_impl_stackMachine_putNext_v2), (68, F_impl_eagerMachine_takeUnderNext), (69, F_impl_eagerMachine_putUnderUpper), (70, F_impl_eagerMachine_takeHeaded)], ioF, 2, false, []⟩

theorem impl_allDone_impl_eagerMachine_n1_l (x11268 : ByteArray) (x11269 : Int) (x11270 : Int) (x11271 : Int) (x11272 : List Int) : Link impl_allDone_impl_eagerMachine_ctx LL (cq [0] (bodyOf Tryd.f43)) (aq [0] impl_allDone_impl_eagerMachine_an) ⟨mkE 32 0 [(0, .ptr 0 0), (1, .fmap [(.int .u8 83, .methodOf 59 "loop.example/headtrees/impl.putNext"), (.int .u8 76, .func 68), (.int .u8 82, .func 69), (.int .u8 68, .func 70)]), (2, dS x11268)], [some (.box [.slc 1, .nils, dI x11269, dI x11270, dW x11271]), some (sI x11272)]⟩ (impl_allDone_impl_eagerMachine_n1) (fun (t : Unit) => (Exit.normal, ⟨mkE 32 0 [(0, .ptr 0 0), (1, .fmap [(.int .u8 83, .methodOf 59 "loop.example/headtrees/impl.putNext"), (.int .u8 76, .func 68), (.int .u8 82, .func 69), (.int .u8 68, .func 70)]), (2, dS x11268)], [some (.box [.slc 1, .nils, dI x11269, dI x11270, dW x11271]), some (sI x11272)]⟩)) := by
  refine Link.of fun K h => ?_
  simp only [impl_allDone_impl_eagerMachine_n1, wpO_bind, wpO_cond, wpO_map, wpO_some] at h
  exact Awp.of (by kernel_rfl) h

theorem impl_allDone_impl_eagerMachine_n2_l (x11268 : ByteArray) (x11269 : Int) (x11270 : Int) (x11271 : Int) (x11272 : List Int) : Link impl_allDone_impl_eagerMachine_ctx LL (cq [0,0,1] (bodyOf Tryd.f43)) (aq [0,0,1] impl_allDone_impl_eagerMachine_an) ⟨mkE 32 0 [(0, .ptr 0 0), (1, .fmap [(.int .u8 83, .methodOf 59 "loop.example/headtrees/impl.putNext"), (.int .u8 76, .func 68), (.int .u8 82, .func 69), (.int .u8 68, .func 70)]), (2, dS x11268)], [some (.box [.slc 1, .nils, dI x11269, dI x11270, dW x11271]), some (sI x11272)]⟩ (impl_allDone_impl_eagerMachine_n2 x11268) (fun (t : Int × Nat) => (Exit.normal, ⟨mkE 32 0 [(0, .ptr 0 0), (1, .fmap [(.int .u8 83, .methodOf 59 "loop.example/headtrees/impl.putNext"), (.int .u8 76, .func 68), (.int .u8 82, .func 69), (.int .u8 68, .func 70)]), (2, dS x11268), (11, dI t.1), (12, dI 0)], [some (.box [.slc 1, .win 2 0 t.2, dI x11269, dI x11270, dW x11271]), some (sI x11272), some (sI ([] : List Int))]⟩)) := by
  refine Link.of fun K h => ?_
  simp only [impl_allDone_impl_eagerMachine_n2, wpO_bind, wpO_cond, wpO_map, wpO_some] at h
  exact Awp.of (by kernel_rfl) h

theorem impl_allDone_impl_eagerMachine_n3_l (x11268 : ByteArray) (x12317 : Int) (x12791 : Int) (x12792 : Nat) (x12793 : Nat) (x12794 : Int) (x12795 : Int) (x12796 : Int) (x12797 : List Int) (x12798 : List Int) : Link impl_allDone_impl_eagerMachine_ctx LL (cq [0,0,1,0,1] (bodyOf Tryd.f43)) (aq [0,0,1,0,1] impl_allDone_impl_eagerMachine_an) ⟨mkE 32 0 [(0, .ptr 0 0), (1, .fmap [(.int .u8 83, .methodOf 59 "loop.example/headtrees/impl.putNext"), (.int .u8 76, .func 68), (.int .u8 82, .func 69), (.int .u8 68, .func 70)]), (2, dS x11268), (11, dI x12317), (12, dI x12791)], [some (.box [.slc 1, .win 2 x12792 x12793, dI x12794, dI x12795, dW x12796]), some (sI x12797), some (sI x12798)]⟩ (impl_allDone_impl_eagerMachine_n3 x11268 x12317 x12791 x12792 x12793 x12794 x12795 x12796 x12797 x12798) (Sum.elim (fun (t : Int × Nat × Nat × Int × Int × Int × (List Int) × (List Int)) => (Exit.normal, ⟨mkE 32 0 [(0, .ptr 0 0), (1, .fmap [(.int .u8 83, .methodOf 59 "loop.example/headtrees/impl.putNext"), (.int .u8 76, .func 68), (.int .u8 82, .func 69), (.int .u8 68, .func 70)]), (2, dS x11268), (11, dI x12317), (12, dI t.1)], [some (.box [.slc 1, .win 2 t.2.1 t.2.2.1, dI t.2.2.2.1, dI t.2.2.2.2.1, dW t.2.2.2.2.2.1]), some (sI t.2.2.2.2.2.2.1), some (sI t.2.2.2.2.2.2.2)]⟩)) (Sum.elim (fun (t : Bool × Nat × Nat × Int × Int × Int × (List Int) × (List Int)) => (Exit.ret, ⟨mkE 32 0 [(6, dB t.1)], [some (.box [.slc 1, .win 2 t.2.1 t.2.2.1, dI t.2.2.2.1, dI t.2.2.2.2.1, dW t.2.2.2.2.2.1]), some (sI t.2.2.2.2.2.2.1), some (sI t.2.2.2.2.2.2.2)]⟩)) (fun (t : Nat × Nat × Int × Int × Int × (List Int) × (List Int)) => ((Exit.exit 0), ⟨mkE 32 0 [], [some (.box [.slc 1, .win 2 t.1 t.2.1, dI t.2.2.1, dI t.2.2.2.1, dW t.2.2.2.2.1]), some (sI t.2.2.2.2.2.1), some (sI t.2.2.2.2.2.2)]⟩)))) := by
  refine Link.of fun K h => ?_
  simp only [impl_allDone_impl_eagerMachine_n3, wpO_bind, wpO_cond, wpO_map, wpO_some] at h
  exact Awp.of (by kernel_rfl) h

def impl_allDone_impl_eagerMachine_n4_l (x11268 : ByteArray) (x12317 : Int) (x12318 : Nat) (x11269 : Int) (x11270 : Int) (x11271 : Int) (x11272 : List Int) := (link_loop (mk := fun (s : Int × Nat × Nat × Int × Int × Int × (List Int) × (List Int)) => ⟨mkE 32 0 [(0, .ptr 0 0), (1, .fmap [(.int .u8 83, .methodOf 59 "loop.example/headtrees/impl.putNext"), (.int .u8 76, .func 68), (.int .u8 82, .func 69), (.int .u8 68, .func 70)]), (2, dS x11268), (11, dI x12317), (12, dI s.1)], [some (.box [.slc 1, .win 2 s.2.1 s.2.2.1, dI s.2.2.2.1, dI s.2.2.2.2.1, dW s.2.2.2.2.2.1]), some (sI s.2.2.2.2.2.2.1), some (sI s.2.2.2.2.2.2.2)]⟩) (fin := (Sum.elim (fun (t : Bool × Nat × Nat × Int × Int × Int × (List Int) × (List Int)) => (Exit.ret, ⟨mkE 32 0 [(6, dB t.1)], [some (.box [.slc 1, .win 2 t.2.1 t.2.2.1, dI t.2.2.2.1, dI t.2.2.2.2.1, dW t.2.2.2.2.2.1]), some (sI t.2.2.2.2.2.2.1), some (sI t.2.2.2.2.2.2.2)]⟩)) (fun (t : Nat × Nat × Int × Int × Int × (List Int) × (List Int)) => ((Exit.exit 0), ⟨mkE 32 0 [], [some (.box [.slc 1, .win 2 t.1 t.2.1, dI t.2.2.1, dI t.2.2.2.1, dW t.2.2.2.2.1]), some (sI t.2.2.2.2.2.1), some (sI t.2.2.2.2.2.2)]⟩)))) (by
  rintro (t | t) f K h
  · exact h
  · exact h) (fun s => link_map (impl_allDone_impl_eagerMachine_n3_l x11268 x12317 s.1 s.2.1 s.2.2.1 s.2.2.2.1 s.2.2.2.2.1 s.2.2.2.2.2.1 s.2.2.2.2.2.2.1 s.2.2.2.2.2.2.2) (Sum.elim (fun (t : Int × Nat × Nat × Int × Int × Int × (List Int) × (List Int)) => Sum.inl (t.1, t.2.1, t.2.2.1, t.2.2.2.1, t.2.2.2.2.1, t.2.2.2.2.2.1, t.2.2.2.2.2.2.1, t.2.2.2.2.2.2.2)) (Sum.elim (fun (t : Bool × Nat × Nat × Int × Int × Int × (List Int) × (List Int)) => Sum.inr (Sum.inl t)) (fun (t : Nat × Nat × Int × Int × Int × (List Int) × (List Int)) => Sum.inr (Sum.inr t)))) (by
  rintro (t | t | t)
  · kernel_rfl
  · kernel_rfl
  · kernel_rfl)) (0, 0, x12318, x11269, x11270, x11271, x11272, ([] : List Int)))

def impl_allDone_impl_eagerMachine_n5_l (x11268 : ByteArray) (x12317 : Int) (x12318 : Nat) (x11269 : Int) (x11270 : Int) (x11271 : Int) (x11272 : List Int) := (link_block (fin2 := (Sum.elim (fun (t : Nat × Nat × Int × Int × Int × (List Int) × (List Int)) => (Exit.normal, ⟨mkE 32 0 [], [some (.box [.slc 1, .win 2 t.1 t.2.1, dI t.2.2.1, dI t.2.2.2.1, dW t.2.2.2.2.1]), some (sI t.2.2.2.2.2.1), some (sI t.2.2.2.2.2.2)]⟩)) (fun (t : Bool × Nat × Nat × Int × Int × Int × (List Int) × (List Int)) => (Exit.ret, ⟨mkE 32 0 [(6, dB t.1)], [some (.box [.slc 1, .win 2 t.2.1 t.2.2.1, dI t.2.2.2.1, dI t.2.2.2.2.1, dW t.2.2.2.2.2.1]), some (sI t.2.2.2.2.2.2.1), some (sI t.2.2.2.2.2.2.2)]⟩)))) (id := 0) (impl_allDone_impl_eagerMachine_n4_l x11268 x12317 x12318 x11269 x11270 x11271 x11272) (Sum.elim (fun (t : Bool × Nat × Nat × Int × Int × Int × (List Int) × (List Int)) => (Sum.inr t)) (fun (t : Nat × Nat × Int × Int × Int × (List Int) × (List Int)) => (Sum.inl (t.1, t.2.1, t.2.2.1, t.2.2.2.1, t.2.2.2.2.1, t.2.2.2.2.2.1, t.2.2.2.2.2.2)))) (by
  rintro (t | t) K h
  · exact Eq.mp (by kernel_rfl) h
  · exact Eq.mp (by kernel_rfl) h))

def impl_allDone_impl_eagerMachine_n6_l (x11268 : ByteArray) (x11269 : Int) (x11270 : Int) (x11271 : Int) (x11272 : List Int) := (link_seq (impl_allDone_impl_eagerMachine_n2_l x11268 x11269 x11270 x11271 x11272) (fun (t : Int × Nat) => (impl_allDone_impl_eagerMachine_n5_l x11268 t.1 t.2 x11269 x11270 x11271 x11272)))

theorem impl_allDone_impl_eagerMachine_n7_l (x12792 : Nat) (x12793 : Nat) (x12794 : Int) (x12795 : Int) (x12796 : Int) (x12797 : List Int) (x12798 : List Int) : Link impl_allDone_impl_eagerMachine_ctx LL (cq [1,1] (bodyOf Tryd.f43)) (aq [1,1] impl_allDone_impl_eagerMachine_an) ⟨mkE 32 0 [], [some (.box [.slc 1, .win 2 x12792 x12793, dI x12794, dI x12795, dW x12796]), some (sI x12797), some (sI x12798)]⟩ (impl_allDone_impl_eagerMachine_n7 x12792 x12793 x12794 x12795 x12796 x12797 x12798) (fun (t : Bool × Nat × Nat × Int × Int × Int × (List Int) × (List Int)) => (Exit.ret, ⟨mkE 32 0 [(6, dB t.1)], [some (.box [.slc 1, .win 2 t.2.1 t.2.2.1, dI t.2.2.2.1, dI t.2.2.2.2.1, dW t.2.2.2.2.2.1]), some (sI t.2.2.2.2.2.2.1), some (sI t.2.2.2.2.2.2.2)]⟩)) := by
  refine Link.of fun K h => ?_
  simp only [impl_allDone_impl_eagerMachine_n7, wpO_bind, wpO_cond, wpO_map, wpO_some] at h
  exact Awp.of (by kernel_rfl) h

def impl_allDone_impl_eagerMachine_n8_l (x11268 : ByteArray) (x11269 : Int) (x11270 : Int) (x11271 : Int) (x11272 : List Int) := (link_seq2 (impl_allDone_impl_eagerMachine_n6_l x11268 x11269 x11270 x11271 x11272) (fun (t : Nat × Nat × Int × Int × Int × (List Int) × (List Int)) => (impl_allDone_impl_eagerMachine_n7_l t.1 t.2.1 t.2.2.1 t.2.2.2.1 t.2.2.2.2.1 t.2.2.2.2.2.1 t.2.2.2.2.2.2)) (fun (t : Bool × Nat × Nat × Int × Int × Int × (List Int) × (List Int)) => t) (by
  rintro t
  · kernel_rfl) (by
  rintro t f K h
  · exact h))

def impl_allDone_impl_eagerMachine_n9_l (x11268 : ByteArray) (x11269 : Int) (x11270 : Int) (x11271 : Int) (x11272 : List Int) := (link_seq (impl_allDone_impl_eagerMachine_n1_l x11268 x11269 x11270 x11271 x11272) (fun (t : Unit) => (impl_allDone_impl_eagerMachine_n8_l x11268 x11269 x11270 x11271 x11272)))

theorem impl_allDone_impl_eagerMachine_e (x11268 : ByteArray) (x11269 : Int) (x11270 : Int) (x11271 : Int) (x11272 : List Int) {r : AV} {H' : Heap} (h : (Ans.mk _ (impl_allDone_impl_eagerMachine x11268 x11269 x11270 x11271 x11272) (fun (t : Bool × Nat × Nat × Int × Int × Int × (List Int) × (List Int)) => (dB t.1, [some (.box [.slc 1, .win 2 t.2.1 t.2.2.1, dI t.2.2.2.1, dI t.2.2.2.2.1, dW t.2.2.2.2.2.1]), some (sI t.2.2.2.2.2.2.1), some (sI t.2.2.2.2.2.2.2)])) [] none).run = some (r, H')) : Awp impl_allDone_impl_eagerMachine_ctx LL (bodyOf Tryd.f43) impl_allDone_impl_eagerMachine_an ⟨mkE 32 0 [(0, .ptr 0 0), (1, .fmap [(.int .u8 83, .methodOf 59 "loop.example/headtrees/impl.putNext"), (.int .u8 76, .func 68), (.int .u8 82, .func 69), (.int .u8 68, .func 70)]), (2, dS x11268)], [some (.box [.slc 1, .nils, dI x11269, dI x11270, dW x11271]), some (sI x11272)]⟩ (Ret (tlook tys) Tryd.f43.results.toList r H') :=
  ret_of' (Link.cast (by kernel_rfl) (by kernel_rfl) (impl_allDone_impl_eagerMachine_n9_l x11268 x11269 x11270 x11271 x11272)) (by unfold impl_allDone_impl_eagerMachine; kernel_rfl) (by
  intro t
  exact ret_mk [dB t.1] (by kernel_rfl) (by kernel_rfl) (by kernel_rfl) (by kernel_rfl)) h

def F_impl_allDone_impl_eagerMachine : Fun := fun avs H =>
  match avs, H with
  | [.ptr 0 0, .fmap [(.int .u8 83, .methodOf 59 "loop.example/headtrees/impl.putNext"), (.int .u8 76, .func 68), (.int .u8 82, .func 69), (.int .u8 68, .func 70)], .dat .str x11268], [some (.box [.slc 1, .nils, .dat (.int .i64) x11269, .dat (.int .i64) x11270, .dat (.int .u64) x11271]), some (.seq (.int .i64) x11272)] => ⟨_, impl_allDone_impl_eagerMachine x11268 x11269 x11270 x11271 x11272, fun (t : Bool × Nat × Nat × Int × Int × Int × (List Int) × (List Int)) => (dB t.1, [some (.box [.slc 1, .win 2 t.2.1 t.2.2.1, dI t.2.2.2.1, dI t.2.2.2.2.1, dW t.2.2.2.2.2.1]), some (sI t.2.2.2.2.2.2.1), some (sI t.2.2.2.2.2.2.2)]), [], none⟩
  | _, _ => Ans.no

theorem impl_allDone_impl_eagerMachine_sound : Sound Tryd.prog 43 F_impl_allDone_impl_eagerMachine := by
  refine fn_sound' (C := impl_allDone_impl_eagerMachine_ctx) (c := bodyOf Tryd.f43) (cok_of tys_ok (allc impl_stackMachine_putNext_v2_sound (allc impl_eagerMachine_takeUnderNext_sound (allc impl_eagerMachine_putUnderUpper_sound (allc impl_eagerMachine_takeHeaded_sound alln)))) (allc Tryd.call54 (allc Tryd.call68 (allc Tryd.call69 (allc Tryd.call70 alln)))) (by kernel_rfl)) Tryd.func43 (by kernel_rfl) LL impl_allDone_impl_eagerMachine_an ?_
  intro avs H r H' h
  unfold F_impl_allDone_impl_eagerMachine at h
  split at h
  · refine Awp.cast ?_ ?_ ?_ (impl_allDone_impl_eagerMachine_e _ _ _ _ _ h) <;> kernel_rfl
  · simp [Ans.no, Ans.run] at h


/-! (*loop.example/headtrees/impl.eagerMachine).ended -/

def impl_eagerMachine_ended_an : Ann := (.seq (.leaf [0]) (.seq (.draw [17] [0, 1, 2, 3, 4, 5, 6, 7, 8, 9, 10, 11, 12, 13, 14, 15, 16, 18, 19, 20, 21, 22, 23, 24, 17, 25, 26, 27] [] [2]) (.leaf [2])))

noncomputable def impl_eagerMachine_ended_ctx : Ctx := ⟨tlook tys, olook [(71, F_impl_wordSet_count)], ioF, 3, false, []⟩

theorem impl_eagerMachine_ended_n1_l (x12903 : Nat) (x12904 : Nat) (x12905 : Int) (x12906 : Int) (x12907 : Int) (x12908 : List Int) (x12909 : List Int) : Link impl_eagerMachine_ended_ctx LL (bodyOf Tryd.f45) impl_eagerMachine_ended_an ⟨mkE 30 0 [(0, .ptr 0 0)], [some (.box [.slc 1, .win 2 x12903 x12904, dI x12905, dI x12906, dW x12907]), some (sI x12908), some (sI x12909)]⟩ (impl_eagerMachine_ended_n1 x12905 x12907 x12908) (fun (t : Bool) => (Exit.ret, ⟨mkE 30 0 [(2, dB t)], [some (.box [.slc 1, .win 2 x12903 x12904, dI x12905, dI x12906, dW x12907]), some (sI x12908), some (sI x12909)]⟩)) := by
  refine Link.of fun K h => ?_
  simp only [impl_eagerMachine_ended_n1, wpO_bind, wpO_cond, wpO_map, wpO_some] at h
  exact Awp.of (by kernel_rfl) h

theorem impl_eagerMachine_ended_e (x12903 : Nat) (x12904 : Nat) (x12905 : Int) (x12906 : Int) (x12907 : Int) (x12908 : List Int) (x12909 : List Int) {r : AV} {H' : Heap} (h : (Ans.mk _ (impl_eagerMachine_ended x12903 x12904 x12905 x12906 x12907 x12908 x12909) (fun (t : Bool) => (dB t, [some (.box [.slc 1, .win 2 x12903 x12904, dI x12905, dI x12906, dW x12907]), some (sI x12908), some (sI x12909)])) [] none).run = some (r, H')) : Awp impl_eagerMachine_ended_ctx LL (bodyOf Tryd.f45) impl_eagerMachine_ended_an ⟨mkE 30 0 [(0, .ptr 0 0)], [some (.box [.slc 1, .win 2 x12903 x12904, dI x12905, dI x12906, dW x12907]), some (sI x12908), some (sI x12909)]⟩ (Ret (tlook tys) Tryd.f45.results.toList r H') :=
  ret_of' (impl_eagerMachine_ended_n1_l x12903 x12904 x12905 x12906 x12907 x12908 x12909) (by unfold impl_eagerMachine_ended; kernel_rfl) (by
  intro t
  exact ret_mk [dB t] (by kernel_rfl) (by kernel_rfl) (by kernel_rfl) (by kernel_rfl)) h

def F_impl_eagerMachine_ended : Fun := fun avs H =>
  match avs, H with
  | [.ptr 0 0], [some (.box [.slc 1, .win 2 x12903 x12904, .dat (.int .i64) x12905, .dat (.int .i64) x12906, .dat (.int .u64) x12907]), some (.seq (.int .i64) x12908), some (.seq (.int .i64) x12909)] => ⟨_, impl_eagerMachine_ended x12903 x12904 x12905 x12906 x12907 x12908 x12909, fun (t : Bool) => (dB t, [some (.box [.slc 1, .win 2 x12903 x12904, dI x12905, dI x12906, dW x12907]), some (sI x12908), some (sI x12909)]), [], none⟩
  | _, _ => Ans.no

theorem impl_eagerMachine_ended_sound : Sound Tryd.prog 45 F_impl_eagerMachine_ended := by
  refine fn_sound' (C := impl_eagerMachine_ended_ctx) (c := bodyOf Tryd.f45) (cok_of tys_ok (allc impl_wordSet_count_sound alln) (allc Tryd.call71 alln) (by kernel_rfl)) Tryd.func45 (by kernel_rfl) LL impl_eagerMachine_ended_an ?_
  intro avs H r H' h
  unfold F_impl_eagerMachine_ended at h
  split at h
  · refine Awp.cast ?_ ?_ ?_ (impl_eagerMachine_ended_e _ _ _ _ _ _ _ h) <;> kernel_rfl
  · simp [Ans.no, Ans.run] at h


/-! loop.example/headtrees/impl.RunEager -/

def impl_RunEager_an : Ann := (.seq (.leaf [0, 1]) (.seq (.seq (.leaf [0, 1, 12]) (.cond (.seq (.leaf [4, 5]) (.leaf [4, 5])) (.leaf [0, 1]))) (.seq (.leaf [1, 6]) (.seq (.seq (.leaf [6, 24]) (.cond (.seq (.leaf [4, 5]) (.leaf [4, 5])) (.leaf [6]))) (.seq (.leaf [4, 5]) (.leaf [4, 5]))))))

noncomputable def impl_RunEager_ctx : Ctx := ⟨tlook tys, olook [(42, F_impl_newEagerMachine), (44, F_impl_eagerMoves), (43, F_impl_allDone_impl_eagerMachine), (45, F_impl_eagerMachine_ended)], ioF, 0, false, []⟩

theorem impl_RunEager_n1_l (x11254 : Int) (x11255 : ByteArray) : Link impl_RunEager_ctx LL (bodyOf Tryd.f19) impl_RunEager_an ⟨mkE 30 0 [(0, dI x11254), (1, dS x11255)], []⟩ (impl_RunEager_n1 x11254 x11255) (fun (t : Bool × (List Int)) => (Exit.ret, ⟨mkE 30 0 [(4, .slc 0), (5, dB t.1)], [some (sI t.2)]⟩)) := by
  refine Link.of fun K h => ?_
  simp only [impl_RunEager_n1, wpO_bind, wpO_cond, wpO_map, wpO_some] at h
  exact Awp.of (by kernel_rfl) h

theorem impl_RunEager_e (x11254 : Int) (x11255 : ByteArray) {r : AV} {H' : Heap} (h : (Ans.mk _ (impl_RunEager x11254 x11255) (fun (t : Bool × (List Int)) => (.tup [.slc 0, dB t.1], [some (sI t.2)])) [] none).run = some (r, H')) : Awp impl_RunEager_ctx LL (bodyOf Tryd.f19) impl_RunEager_an ⟨mkE 30 0 [(0, dI x11254), (1, dS x11255)], []⟩ (Ret (tlook tys) Tryd.f19.results.toList r H') :=
  ret_of' (impl_RunEager_n1_l x11254 x11255) (by unfold impl_RunEager; kernel_rfl) (by
  intro t
  exact ret_mk [.slc 0, dB t.1] (by kernel_rfl) (by kernel_rfl) (by kernel_rfl) (by kernel_rfl)) h

def F_impl_RunEager : Fun := fun avs H =>
  match avs, H with
  | [.dat (.int .i64) x11254, .dat .str x11255], [] => ⟨_, impl_RunEager x11254 x11255, fun (t : Bool × (List Int)) => (.tup [.slc 0, dB t.1], [some (sI t.2)]), [], none⟩
  | _, _ => Ans.no

theorem impl_RunEager_sound : Sound Tryd.prog 19 F_impl_RunEager := by
  refine fn_sound' (C := impl_RunEager_ctx) (c := bodyOf Tryd.f19) (cok_of tys_ok (allc impl_newEagerMachine_sound (allc impl_eagerMoves_sound (allc impl_allDone_impl_eagerMachine_sound (allc impl_eagerMachine_ended_sound alln)))) (allc Tryd.call42 (allc Tryd.call44 (allc Tryd.call43 (allc Tryd.call45 alln)))) (by kernel_rfl)) Tryd.func19 (by kernel_rfl) LL impl_RunEager_an ?_
  intro avs H r H' h
  unfold F_impl_RunEager at h
  split at h
  · refine Awp.cast ?_ ?_ ?_ (impl_RunEager_e _ _ h) <;> kernel_rfl
  · simp [Ans.no, Ans.run] at h


/-! loop.example/headtrees/spec.RunEager -/

def spec_RunEager_an : Ann := (.seq (.leaf [0, 1]) (.seq (.seq (.leaf [0, 1, 18]) (.cond (.seq (.leaf [4, 5]) (.leaf [4, 5])) (.leaf [0, 1]))) (.seq (.leaf [0, 1, 6]) (.seq (.seq (.leaf [0, 1, 6, 7]) (.block (.loop (.seq (.seq (.leaf [0, 1, 6, 7, 23]) (.cond (.leaf [0, 1, 6, 7]) (.leaf [0, 1, 6]))) (.seq (.block (.leaf [0, 1, 6, 7])) (.leaf [0, 1, 6, 7])))))) (.seq (.leaf [0, 1, 6, 8]) (.seq (.leaf [0, 1, 6, 8, 9]) (.seq (.seq (.leafF [⟨1, 8, false, none, none⟩] [0, 1, 6, 8, 9, 10]) (.block (.loop (.seq (.seq (.leaf [0, 1, 6, 8, 9, 10, 33]) (.cond (.leaf [0, 1, 6, 8, 9, 10]) (.leaf [0, 6, 9]))) (.seq (.block (.seq (.leafF [⟨6, 38, false, none, none⟩] [0, 1, 6, 10, 11, 12, 13]) (.seq (.seq (.leaf [0, 1, 6, 10, 11, 12, 48]) (.cond (.seq (.leaf [4, 5]) (.leaf [4, 5])) (.leaf [0, 1, 6, 10, 11, 12]))) (.seq (.leaf [0, 1, 6, 8, 10, 12]) (.leaf [0, 1, 6, 8, 9, 10]))))) (.leaf [0, 1, 6, 8, 9, 10])))))) (.seq (.leaf [0, 6, 9, 14]) (.seq (.seq (.leaf [0, 6, 9, 14, 15]) (.block (.loop (.seq (.seq (.leaf [0, 6, 9, 14, 15, 54]) (.cond (.leaf [0, 6, 9, 14, 15]) (.leaf [0, 6, 9, 14]))) (.seq (.block (.seq (.leaf [0, 6, 9, 14, 15, 61]) (.cond (.seq (.leaf [0, 6, 9, 14, 15]) (.leaf [0, 6, 9, 14, 15])) (.leaf [0, 6, 9, 14, 15])))) (.leaf [0, 6, 9, 14, 15])))))) (.seq (.seq (.leaf [6, 73]) (.cond (.seq (.leaf [4, 5]) (.leaf [4, 5])) (.leaf [6]))) (.seq (.leaf [4, 5]) (.leaf [4, 5]))))))))))))

noncomputable def spec_RunEager_ctx : Ctx := ⟨tlook tys, olook [(30, F_spec_l1In), (46, F_spec_l7Step)], ioF, 0, false, []⟩

theorem spec_RunEager_n1_l (x12970 : Int) (x12971 : ByteArray) : Link spec_RunEager_ctx LL (Code.seq (cq [0] (bodyOf Tryd.f20)) (Code.seq (cq [0,1] (bodyOf Tryd.f20)) (cq [0,1,1] (bodyOf Tryd.f20)))) (Ann.seq (aq [0] spec_RunEager_an) (Ann.seq (aq [0,1] spec_RunEager_an) (aq [0,1,1] spec_RunEager_an))) ⟨mkE 76 0 [(0, dI x12970), (1, dS x12971)], []⟩ (spec_RunEager_n1 x12970) (Sum.elim (fun (t : Unit) => (Exit.normal, ⟨mkE 76 0 [(0, dI x12970), (1, dS x12971), (6, .slc 0)], [some (sI ([] : List Int))]⟩)) (fun (t : Bool × (List Int)) => (Exit.ret, ⟨mkE 76 0 [(4, .slc 0), (5, dB t.1)], [some (sI t.2)]⟩))) := by
  refine Link.of fun K h => ?_
  simp only [spec_RunEager_n1, wpO_bind, wpO_cond, wpO_map, wpO_some] at h
  exact Awp.of (by kernel_rfl) h

theorem spec_RunEager_n2_l (x12970 : Int) (x12971 : ByteArray) : Link spec_RunEager_ctx LL (cq [0,0,1,1,1] (bodyOf Tryd.f20)) (aq [0,0,1,1,1] spec_RunEager_an) ⟨mkE 76 0 [(0, dI x12970), (1, dS x12971), (6, .slc 0)], [some (sI ([] : List Int))]⟩ (spec_RunEager_n2) (fun (t : Unit) => (Exit.normal, ⟨mkE 76 0 [(0, dI x12970), (1, dS x12971), (6, .slc 0), (7, dI 0)], [some (sI ([] : List Int))]⟩)) := by
  refine Link.of fun K h => ?_
  simp only [spec_RunEager_n2, wpO_bind, wpO_cond, wpO_map, wpO_some] at h
  exact Awp.of (by kernel_rfl) h

theorem spec_RunEager_n3_l (x12970 : Int) (x12971 : ByteArray) (x13074 : Int) (x13075 : List Int) : Link spec_RunEager_ctx LL (cq [0,0,1,0,1,1,1] (bodyOf Tryd.f20)) (aq [0,0,1,0,1,1,1] spec_RunEager_an) ⟨mkE 76 0 [(0, dI x12970), (1, dS x12971), (6, .slc 0), (7, dI x13074)], [some (sI x13075)]⟩ (spec_RunEager_n3 x12970 x13074 x13075) (Sum.elim (fun (t : Int × (List Int)) => (Exit.normal, ⟨mkE 76 0 [(0, dI x12970), (1, dS x12971), (6, .slc 0), (7, dI t.1)], [some (sI t.2)]⟩)) (fun (t : (List Int)) => ((Exit.exit 0), ⟨mkE 76 0 [(0, dI x12970), (1, dS x12971), (6, .slc 0)], [some (sI t)]⟩))) := by
  refine Link.of fun K h => ?_
  simp only [spec_RunEager_n3, wpO_bind, wpO_cond, wpO_map, wpO_some] at h
  exact Awp.of (by kernel_rfl) h

def spec_RunEager_n4_l (x12970 : Int) (x12971 : ByteArray) := (link_loop (mk := fun (s : Int × (List Int)) => ⟨mkE 76 0 [(0, dI x12970), (1, dS x12971), (6, .slc 0), (7, dI s.1)], [some (sI s.2)]⟩) (fin := (fun (t : (List Int)) => ((Exit.exit 0), ⟨mkE 76 0 [(0, dI x12970), (1, dS x12971), (6, .slc 0)], [some (sI t)]⟩))) (by
  rintro t f K h
  · exact h) (fun s => link_map (spec_RunEager_n3_l x12970 x12971 s.1 s.2) (Sum.elim (fun (t : Int × (List Int)) => Sum.inl (t.1, t.2)) (fun (t : (List Int)) => Sum.inr t)) (by
  rintro (t | t)
  · kernel_rfl
  · kernel_rfl)) (0, ([] : List Int)))

def spec_RunEager_n5_l (x12970 : Int) (x12971 : ByteArray) := (link_block (fin2 := (fun (t : (List Int)) => (Exit.normal, ⟨mkE 76 0 [(0, dI x12970), (1, dS x12971), (6, .slc 0)], [some (sI t)]⟩))) (id := 0) (spec_RunEager_n4_l x12970 x12971) (fun (t : (List Int)) => t) (by
  rintro t K h
  · exact Eq.mp (by kernel_rfl) h))

def spec_RunEager_n6_l (x12970 : Int) (x12971 : ByteArray) := (link_seq (spec_RunEager_n2_l x12970 x12971) (fun (t : Unit) => (spec_RunEager_n5_l x12970 x12971)))

theorem spec_RunEager_n7_l (x12970 : Int) (x12971 : ByteArray) (x13075 : List Int) : Link spec_RunEager_ctx LL (Code.seq (cq [0,1,1,1,1] (bodyOf Tryd.f20)) (cq [0,1,1,1,1,1] (bodyOf Tryd.f20))) (Ann.seq (aq [0,1,1,1,1] spec_RunEager_an) (aq [0,1,1,1,1,1] spec_RunEager_an)) ⟨mkE 76 0 [(0, dI x12970), (1, dS x12971), (6, .slc 0)], [some (sI x13075)]⟩ (spec_RunEager_n7) (fun (t : Unit) => (Exit.normal, ⟨mkE 76 0 [(0, dI x12970), (1, dS x12971), (6, .slc 0), (8, .slc 1), (9, dI 1)], [some (sI x13075), some (sI ([] : List Int))]⟩)) := by
  refine Link.of fun K h => ?_
  simp only [spec_RunEager_n7, wpO_bind, wpO_cond, wpO_map, wpO_some] at h
  exact Awp.of (by kernel_rfl) h

theorem spec_RunEager_n8_l (x12970 : Int) (x12971 : ByteArray) (x13075 : List Int) : Link spec_RunEager_ctx LL (cq [0,0,1,1,1,1,1,1] (bodyOf Tryd.f20)) (aq [0,0,1,1,1,1,1,1] spec_RunEager_an) ⟨mkE 76 0 [(0, dI x12970), (1, dS x12971), (6, .slc 0), (8, .slc 1), (9, dI 1)], [some (sI x13075), some (sI ([] : List Int))]⟩ (spec_RunEager_n8) (fun (t : Unit) => (Exit.normal, ⟨mkE 76 0 [(0, dI x12970), (1, dS x12971), (6, .slc 0), (8, dL ([] : List Int)), (9, dI 1), (10, dI 0)], [some (sI x13075)]⟩)) := by
  refine Link.of fun K h => ?_
  simp only [spec_RunEager_n8, wpO_bind, wpO_cond, wpO_map, wpO_some] at h
  exact Awp.of (by kernel_rfl) h

theorem spec_RunEager_n9_l (x12970 : Int) (x12971 : ByteArray) (x13109 : List Int) (x13110 : Int) (x13111 : Int) (x13112 : List Int) : Link spec_RunEager_ctx LL (cq [0,0,1,0,1,1,1,1,1,1] (bodyOf Tryd.f20)) (aq [0,0,1,0,1,1,1,1,1,1] spec_RunEager_an) ⟨mkE 76 0 [(0, dI x12970), (1, dS x12971), (6, .slc 0), (8, dL x13109), (9, dI x13110), (10, dI x13111)], [some (sI x13112)]⟩ (spec_RunEager_n9 x12971 x13109 x13110 x13111 x13112) (Sum.elim (fun (t : (List Int) × Int × Int × (List Int)) => (Exit.normal, ⟨mkE 76 0 [(0, dI x12970), (1, dS x12971), (6, .slc 0), (8, dL t.1), (9, dI t.2.1), (10, dI t.2.2.1)], [some (sI t.2.2.2)]⟩)) (Sum.elim (fun (t : Bool × (List Int)) => (Exit.ret, ⟨mkE 76 0 [(4, .slc 0), (5, dB t.1)], [some (sI t.2)]⟩)) (fun (t : Int × (List Int)) => ((Exit.exit 2), ⟨mkE 76 0 [(0, dI x12970), (6, .slc 0), (9, dI t.1)], [some (sI t.2)]⟩)))) := by
  refine Link.of fun K h => ?_
  simp only [spec_RunEager_n9, wpO_bind, wpO_cond, wpO_map, wpO_some] at h
  exact Awp.of (by kernel_rfl) h

def spec_RunEager_n10_l (x12970 : Int) (x12971 : ByteArray) (x13075 : List Int) := (link_loop (mk := fun (s : (List Int) × Int × Int × (List Int)) => ⟨mkE 76 0 [(0, dI x12970), (1, dS x12971), (6, .slc 0), (8, dL s.1), (9, dI s.2.1), (10, dI s.2.2.1)], [some (sI s.2.2.2)]⟩) (fin := (Sum.elim (fun (t : Bool × (List Int)) => (Exit.ret, ⟨mkE 76 0 [(4, .slc 0), (5, dB t.1)], [some (sI t.2)]⟩)) (fun (t : Int × (List Int)) => ((Exit.exit 2), ⟨mkE 76 0 [(0, dI x12970), (6, .slc 0), (9, dI t.1)], [some (sI t.2)]⟩)))) (by
  rintro (t | t) f K h
  · exact h
  · exact h) (fun s => link_map (spec_RunEager_n9_l x12970 x12971 s.1 s.2.1 s.2.2.1 s.2.2.2) (Sum.elim (fun (t : (List Int) × Int × Int × (List Int)) => Sum.inl (t.1, t.2.1, t.2.2.1, t.2.2.2)) (Sum.elim (fun (t : Bool × (List Int)) => Sum.inr (Sum.inl t)) (fun (t : Int × (List Int)) => Sum.inr (Sum.inr t)))) (by
  rintro (t | t | t)
  · kernel_rfl
  · kernel_rfl
  · kernel_rfl)) (([] : List Int), 1, 0, x13075))

def spec_RunEager_n11_l (x12970 : Int) (x12971 : ByteArray) (x13075 : List Int) := (link_block (fin2 := (Sum.elim (fun (t : Int × (List Int)) => (Exit.normal, ⟨mkE 76 0 [(0, dI x12970), (6, .slc 0), (9, dI t.1)], [some (sI t.2)]⟩)) (fun (t : Bool × (List Int)) => (Exit.ret, ⟨mkE 76 0 [(4, .slc 0), (5, dB t.1)], [some (sI t.2)]⟩)))) (id := 2) (spec_RunEager_n10_l x12970 x12971 x13075) (Sum.elim (fun (t : Bool × (List Int)) => (Sum.inr t)) (fun (t : Int × (List Int)) => (Sum.inl (t.1, t.2)))) (by
  rintro (t | t) K h
  · exact Eq.mp (by kernel_rfl) h
  · exact Eq.mp (by kernel_rfl) h))

def spec_RunEager_n12_l (x12970 : Int) (x12971 : ByteArray) (x13075 : List Int) := (link_seq (spec_RunEager_n8_l x12970 x12971 x13075) (fun (t : Unit) => (spec_RunEager_n11_l x12970 x12971 x13075)))

theorem spec_RunEager_n13_l (x12970 : Int) (x13110 : Int) (x13112 : List Int) : Link spec_RunEager_ctx LL (cq [0,1,1,1,1,1,1,1] (bodyOf Tryd.f20)) (aq [0,1,1,1,1,1,1,1] spec_RunEager_an) ⟨mkE 76 0 [(0, dI x12970), (6, .slc 0), (9, dI x13110)], [some (sI x13112)]⟩ (spec_RunEager_n13) (fun (t : Unit) => (Exit.normal, ⟨mkE 76 0 [(0, dI x12970), (6, .slc 0), (9, dI x13110), (14, dI 0)], [some (sI x13112)]⟩)) := by
  refine Link.of fun K h => ?_
  simp only [spec_RunEager_n13, wpO_bind, wpO_cond, wpO_map, wpO_some] at h
  exact Awp.of (by kernel_rfl) h

theorem spec_RunEager_n14_l (x12970 : Int) (x13110 : Int) (x13112 : List Int) : Link spec_RunEager_ctx LL (cq [0,0,1,1,1,1,1,1,1,1] (bodyOf Tryd.f20)) (aq [0,0,1,1,1,1,1,1,1,1] spec_RunEager_an) ⟨mkE 76 0 [(0, dI x12970), (6, .slc 0), (9, dI x13110), (14, dI 0)], [some (sI x13112)]⟩ (spec_RunEager_n14) (fun (t : Unit) => (Exit.normal, ⟨mkE 76 0 [(0, dI x12970), (6, .slc 0), (9, dI x13110), (14, dI 0), (15, dI 0)], [some (sI x13112)]⟩)) := by
  refine Link.of fun K h => ?_
  simp only [spec_RunEager_n14, wpO_bind, wpO_cond, wpO_map, wpO_some] at h
  exact Awp.of (by kernel_rfl) h

theorem spec_RunEager_n15_l (x12970 : Int) (x13110 : Int) (x13154 : Int) (x13155 : Int) (x13156 : List Int) : Link spec_RunEager_ctx LL (cq [0,0,1,0,1,1,1,1,1,1,1,1] (bodyOf Tryd.f20)) (aq [0,0,1,0,1,1,1,1,1,1,1,1] spec_RunEager_an) ⟨mkE 76 0 [(0, dI x12970), (6, .slc 0), (9, dI x13110), (14, dI x13154), (15, dI x13155)], [some (sI x13156)]⟩ (spec_RunEager_n15 x12970 x13154 x13155 x13156) (Sum.elim (fun (t : Int × Int × (List Int)) => (Exit.normal, ⟨mkE 76 0 [(0, dI x12970), (6, .slc 0), (9, dI x13110), (14, dI t.1), (15, dI t.2.1)], [some (sI t.2.2)]⟩)) (fun (t : Int × (List Int)) => ((Exit.exit 4), ⟨mkE 76 0 [(0, dI x12970), (6, .slc 0), (9, dI x13110), (14, dI t.1)], [some (sI t.2)]⟩))) := by
  refine Link.of fun K h => ?_
  simp only [spec_RunEager_n15, wpO_bind, wpO_cond, wpO_map, wpO_some] at h
  exact Awp.of (by kernel_rfl) h

def spec_RunEager_n16_l (x12970 : Int) (x13110 : Int) (x13112 : List Int) := (link_loop (mk := fun (s : Int × Int × (List Int)) => ⟨mkE 76 0 [(0, dI x12970), (6, .slc 0), (9, dI x13110), (14, dI s.1), (15, dI s.2.1)], [some (sI s.2.2)]⟩) (fin := (fun (t : Int × (List Int)) => ((Exit.exit 4), ⟨mkE 76 0 [(0, dI x12970), (6, .slc 0), (9, dI x13110), (14, dI t.1)], [some (sI t.2)]⟩))) (by
  rintro t f K h
  · exact h) (fun s => link_map (spec_RunEager_n15_l x12970 x13110 s.1 s.2.1 s.2.2) (Sum.elim (fun (t : Int × Int × (List Int)) => Sum.inl (t.1, t.2.1, t.2.2)) (fun (t : Int × (List Int)) => Sum.inr t)) (by
  rintro (t | t)
  · kernel_rfl
  · kernel_rfl)) (0, 0, x13112))

def spec_RunEager_n17_l (x12970 : Int) (x13110 : Int) (x13112 : List Int) := (link_block (fin2 := (fun (t : Int × (List Int)) => (Exit.normal, ⟨mkE 76 0 [(0, dI x12970), (6, .slc 0), (9, dI x13110), (14, dI t.1)], [some (sI t.2)]⟩))) (id := 4) (spec_RunEager_n16_l x12970 x13110 x13112) (fun (t : Int × (List Int)) => (t.1, t.2)) (by
  rintro t K h
  · exact Eq.mp (by kernel_rfl) h))

def spec_RunEager_n18_l (x12970 : Int) (x13110 : Int) (x13112 : List Int) := (link_seq (spec_RunEager_n14_l x12970 x13110 x13112) (fun (t : Unit) => (spec_RunEager_n17_l x12970 x13110 x13112)))

theorem spec_RunEager_n19_l (x12970 : Int) (x13110 : Int) (x13154 : Int) (x13156 : List Int) : Link spec_RunEager_ctx LL (cq [1,1,1,1,1,1,1,1,1] (bodyOf Tryd.f20)) (aq [1,1,1,1,1,1,1,1,1] spec_RunEager_an) ⟨mkE 76 0 [(0, dI x12970), (6, .slc 0), (9, dI x13110), (14, dI x13154)], [some (sI x13156)]⟩ (spec_RunEager_n19 x12970 x13110 x13154 x13156) (fun (t : Bool × (List Int)) => (Exit.ret, ⟨mkE 76 0 [(4, .slc 0), (5, dB t.1)], [some (sI t.2)]⟩)) := by
  refine Link.of fun K h => ?_
  simp only [spec_RunEager_n19, wpO_bind, wpO_cond, wpO_map, wpO_some] at h
  exact Awp.of (by kernel_rfl) h

def spec_RunEager_n20_l (x12970 : Int) (x13110 : Int) (x13112 : List Int) := (link_seq (spec_RunEager_n18_l x12970 x13110 x13112) (fun (t : Int × (List Int)) => (spec_RunEager_n19_l x12970 x13110 t.1 t.2)))

def spec_RunEager_n21_l (x12970 : Int) (x13110 : Int) (x13112 : List Int) := (link_seq (spec_RunEager_n13_l x12970 x13110 x13112) (fun (t : Unit) => (spec_RunEager_n20_l x12970 x13110 x13112)))

def spec_RunEager_n22_l (x12970 : Int) (x12971 : ByteArray) (x13075 : List Int) := (link_seq2 (spec_RunEager_n12_l x12970 x12971 x13075) (fun (t : Int × (List Int)) => (spec_RunEager_n21_l x12970 t.1 t.2)) (fun (t : Bool × (List Int)) => t) (by
  rintro t
  · kernel_rfl) (by
  rintro t f K h
  · exact h))

def spec_RunEager_n23_l (x12970 : Int) (x12971 : ByteArray) (x13075 : List Int) := (link_group (c := (cq [0,1,1,1,1,1] (bodyOf Tryd.f20))) (a := (aq [0,1,1,1,1,1] spec_RunEager_an)) [(cq [0,1,1,1,1] (bodyOf Tryd.f20))] [(aq [0,1,1,1,1] spec_RunEager_an)] rfl (link_seq (spec_RunEager_n7_l x12970 x12971 x13075) (fun (t : Unit) => (spec_RunEager_n22_l x12970 x12971 x13075))))

def spec_RunEager_n24_l (x12970 : Int) (x12971 : ByteArray) := (link_seq (spec_RunEager_n6_l x12970 x12971) (fun (t : (List Int)) => (spec_RunEager_n23_l x12970 x12971 t)))

def spec_RunEager_n25_l (x12970 : Int) (x12971 : ByteArray) := (link_group (c := (cq [0,1,1] (bodyOf Tryd.f20))) (a := (aq [0,1,1] spec_RunEager_an)) [(cq [0] (bodyOf Tryd.f20)), (cq [0,1] (bodyOf Tryd.f20))] [(aq [0] spec_RunEager_an), (aq [0,1] spec_RunEager_an)] rfl (link_seq2 (spec_RunEager_n1_l x12970 x12971) (fun (t : Unit) => (spec_RunEager_n24_l x12970 x12971)) (fun (t : Bool × (List Int)) => t) (by
  rintro t
  · kernel_rfl) (by
  rintro t f K h
  · exact h)))

theorem spec_RunEager_e (x12970 : Int) (x12971 : ByteArray) {r : AV} {H' : Heap} (h : (Ans.mk _ (spec_RunEager x12970 x12971) (fun (t : Bool × (List Int)) => (.tup [.slc 0, dB t.1], [some (sI t.2)])) [] none).run = some (r, H')) : Awp spec_RunEager_ctx LL (bodyOf Tryd.f20) spec_RunEager_an ⟨mkE 76 0 [(0, dI x12970), (1, dS x12971)], []⟩ (Ret (tlook tys) Tryd.f20.results.toList r H') :=
  ret_of' (Link.cast (by kernel_rfl) (by kernel_rfl) (spec_RunEager_n25_l x12970 x12971)) (by unfold spec_RunEager; kernel_rfl) (by
  intro t
  exact ret_mk [.slc 0, dB t.1] (by kernel_rfl) (by kernel_rfl) (by kernel_rfl) (by kernel_rfl)) h

def F_spec_RunEager : Fun := fun avs H =>
  match avs, H with
  | [.dat (.int .i64) x12970, .dat .str x12971], [] => ⟨_, spec_RunEager x12970 x12971, fun (t : Bool × (List Int)) => (.tup [.slc 0, dB t.1], [some (sI t.2)]), [], none⟩
  | _, _ => Ans.no

theorem spec_RunEager_sound : Sound Tryd.prog 20 F_spec_RunEager := by
  refine fn_sound' (C := spec_RunEager_ctx) (c := bodyOf Tryd.f20) (cok_of tys_ok (allc spec_l1In_sound (allc spec_l7Step_sound alln)) (allc Tryd.call30 (allc Tryd.call46 alln)) (by kernel_rfl)) Tryd.func20 (by kernel_rfl) LL spec_RunEager_an ?_
  intro avs H r H' h
  unfold F_spec_RunEager at h
  split at h
  · refine Awp.cast ?_ ?_ ?_ (spec_RunEager_e _ _ h) <;> kernel_rfl
  · simp [Ans.no, Ans.run] at h


/-! (*loop.example/headtrees/impl.eagerMachine).waitsBelow$1 -/

def impl_eagerMachine_waitsBelow_1_an : Ann := (.seq (.leaf [0, 1, 2]) (.seq (.draw [] [0, 1, 2, 3, 4, 5, 6, 7, 8, 9, 10, 11, 12, 13, 14, 15, 16] [] [4]) (.leaf [4])))

noncomputable def impl_eagerMachine_waitsBelow_1_ctx : Ctx := ⟨tlook tys, olook [], ioF, 2, false, []⟩

theorem impl_eagerMachine_waitsBelow_1_n1_l (x13316 : Int) (x13317 : List Int) (x13318 : Int) : Link impl_eagerMachine_waitsBelow_1_ctx LL (bodyOf Tryd.f84) impl_eagerMachine_waitsBelow_1_an ⟨mkE 21 0 [(0, dI x13316), (1, .ptr 0 0), (2, .ptr 1 0)], [some (.box [dL x13317]), some (.box [dI x13318])]⟩ (impl_eagerMachine_waitsBelow_1_n1 x13316 x13317 x13318) (fun (t : Bool) => (Exit.ret, ⟨mkE 21 0 [(4, dB t)], [some (.box [dL x13317]), some (.box [dI x13318])]⟩)) := by
  refine Link.of fun K h => ?_
  simp only [impl_eagerMachine_waitsBelow_1_n1, wpO_bind, wpO_cond, wpO_map, wpO_some] at h
  exact Awp.of (by kernel_rfl) h

theorem impl_eagerMachine_waitsBelow_1_e (x13316 : Int) (x13317 : List Int) (x13318 : Int) {r : AV} {H' : Heap} (h : (Ans.mk _ (impl_eagerMachine_waitsBelow_1 x13316 x13317 x13318) (fun (t : Bool) => (dB t, [some (.box [dL x13317]), some (.box [dI x13318])])) [] none).run = some (r, H')) : Awp impl_eagerMachine_waitsBelow_1_ctx LL (bodyOf Tryd.f84) impl_eagerMachine_waitsBelow_1_an ⟨mkE 21 0 [(0, dI x13316), (1, .ptr 0 0), (2, .ptr 1 0)], [some (.box [dL x13317]), some (.box [dI x13318])]⟩ (Ret (tlook tys) Tryd.f84.results.toList r H') :=
  ret_of' (impl_eagerMachine_waitsBelow_1_n1_l x13316 x13317 x13318) (by unfold impl_eagerMachine_waitsBelow_1; kernel_rfl) (by
  intro t
  exact ret_mk [dB t] (by kernel_rfl) (by kernel_rfl) (by kernel_rfl) (by kernel_rfl)) h

def F_impl_eagerMachine_waitsBelow_1 : Fun := fun avs H =>
  match avs, H with
  | [.dat (.int .i64) x13316, .ptr 0 0, .ptr 1 0], [some (.box [.dat (.list (.int .i64)) x13317]), some (.box [.dat (.int .i64) x13318])] => ⟨_, impl_eagerMachine_waitsBelow_1 x13316 x13317 x13318, fun (t : Bool) => (dB t, [some (.box [dL x13317]), some (.box [dI x13318])]), [], none⟩
  | _, _ => Ans.no

theorem impl_eagerMachine_waitsBelow_1_sound : Sound Tryd.prog 84 F_impl_eagerMachine_waitsBelow_1 := by
  refine fn_sound' (C := impl_eagerMachine_waitsBelow_1_ctx) (c := bodyOf Tryd.f84) (cok_of tys_ok (alln) (alln) (by kernel_rfl)) Tryd.func84 (by kernel_rfl) LL impl_eagerMachine_waitsBelow_1_an ?_
  intro avs H r H' h
  unfold F_impl_eagerMachine_waitsBelow_1 at h
  split at h
  · refine Awp.cast ?_ ?_ ?_ (impl_eagerMachine_waitsBelow_1_e _ _ _ h) <;> kernel_rfl
  · simp [Ans.no, Ans.run] at h


/-! slices.IndexFunc[[]int,int] -/

def slices_IndexFunc_int_int_an : Ann := (.seq (.leaf [0, 1]) (.seq (.seq (.leaf [0, 1, 7, 8]) (.block (.loop (.seq (.leaf [0, 1, 7, 8, 9]) (.seq (.cond (.leaf [0, 1, 7, 8]) (.leaf [])) (.seq (.block (.seq (.leaf [0, 1, 5, 7, 8]) (.seq (.leaf [0, 1, 5, 7, 8, 16]) (.cond (.seq (.leaf [4]) (.leaf [4])) (.leaf [0, 1, 7, 8]))))) (.leaf [0, 1, 7, 8]))))))) (.seq (.leaf [4]) (.leaf [4]))))

noncomputable def slices_IndexFunc_int_int_ctx : Ctx := ⟨tlook tys, olook [(84, F_impl_eagerMachine_waitsBelow_1)], ioF, 2, false, []⟩

theorem slices_IndexFunc_int_int_n1_l (x13308 : List Int) (x13309 : List Int) (x13310 : Int) : Link slices_IndexFunc_int_int_ctx LL (cq [0] (bodyOf Tryd.f89)) (aq [0] slices_IndexFunc_int_int_an) ⟨mkE 19 0 [(0, dL x13308), (1, .fn 84 [] [.ptr 0 0, .ptr 1 0])], [some (.box [dL x13309]), some (.box [dI x13310])]⟩ (slices_IndexFunc_int_int_n1) (fun (t : Unit) => (Exit.normal, ⟨mkE 19 0 [(0, dL x13308), (1, .fn 84 [] [.ptr 0 0, .ptr 1 0])], [some (.box [dL x13309]), some (.box [dI x13310])]⟩)) := by
  refine Link.of fun K h => ?_
  simp only [slices_IndexFunc_int_int_n1, wpO_bind, wpO_cond, wpO_map, wpO_some] at h
  exact Awp.of (by kernel_rfl) h

theorem slices_IndexFunc_int_int_n2_l (x13308 : List Int) (x13309 : List Int) (x13310 : Int) : Link slices_IndexFunc_int_int_ctx LL (cq [0,0,1] (bodyOf Tryd.f89)) (aq [0,0,1] slices_IndexFunc_int_int_an) ⟨mkE 19 0 [(0, dL x13308), (1, .fn 84 [] [.ptr 0 0, .ptr 1 0])], [some (.box [dL x13309]), some (.box [dI x13310])]⟩ (slices_IndexFunc_int_int_n2 x13308) (fun (t : Int) => (Exit.normal, ⟨mkE 19 0 [(0, dL x13308), (1, .fn 84 [] [.ptr 0 0, .ptr 1 0]), (7, dI t), (8, dI 0)], [some (.box [dL x13309]), some (.box [dI x13310])]⟩)) := by
  refine Link.of fun K h => ?_
  simp only [slices_IndexFunc_int_int_n2, wpO_bind, wpO_cond, wpO_map, wpO_some] at h
  exact Awp.of (by kernel_rfl) h

theorem slices_IndexFunc_int_int_n3_l (x13308 : List Int) (x13311 : Int) (x13337 : Int) (x13309 : List Int) (x13310 : Int) : Link slices_IndexFunc_int_int_ctx LL (cq [0,0,1,0,1] (bodyOf Tryd.f89)) (aq [0,0,1,0,1] slices_IndexFunc_int_int_an) ⟨mkE 19 0 [(0, dL x13308), (1, .fn 84 [] [.ptr 0 0, .ptr 1 0]), (7, dI x13311), (8, dI x13337)], [some (.box [dL x13309]), some (.box [dI x13310])]⟩ (slices_IndexFunc_int_int_n3 x13308 x13311 x13337 x13309 x13310) (Sum.elim (fun (t : Int) => (Exit.normal, ⟨mkE 19 0 [(0, dL x13308), (1, .fn 84 [] [.ptr 0 0, .ptr 1 0]), (7, dI x13311), (8, dI t)], [some (.box [dL x13309]), some (.box [dI x13310])]⟩)) (Sum.elim (fun (t : Int) => (Exit.ret, ⟨mkE 19 0 [(4, dI t)], [some (.box [dL x13309]), some (.box [dI x13310])]⟩)) (fun (t : Unit) => ((Exit.exit 0), ⟨mkE 19 0 [], [some (.box [dL x13309]), some (.box [dI x13310])]⟩)))) := by
  refine Link.of fun K h => ?_
  simp only [slices_IndexFunc_int_int_n3, wpO_bind, wpO_cond, wpO_map, wpO_some] at h
  exact Awp.of (by kernel_rfl) h

def slices_IndexFunc_int_int_n4_l (x13308 : List Int) (x13311 : Int) (x13309 : List Int) (x13310 : Int) := (link_loop (mk := fun (s : Int) => ⟨mkE 19 0 [(0, dL x13308), (1, .fn 84 [] [.ptr 0 0, .ptr 1 0]), (7, dI x13311), (8, dI s)], [some (.box [dL x13309]), some (.box [dI x13310])]⟩) (fin := (Sum.elim (fun (t : Int) => (Exit.ret, ⟨mkE 19 0 [(4, dI t)], [some (.box [dL x13309]), some (.box [dI x13310])]⟩)) (fun (t : Unit) => ((Exit.exit 0), ⟨mkE 19 0 [], [some (.box [dL x13309]), some (.box [dI x13310])]⟩)))) (by
  rintro (t | t) f K h
  · exact h
  · exact h) (fun s => link_map (slices_IndexFunc_int_int_n3_l x13308 x13311 s x13309 x13310) (Sum.elim (fun (t : Int) => Sum.inl t) (Sum.elim (fun (t : Int) => Sum.inr (Sum.inl t)) (fun (t : Unit) => Sum.inr (Sum.inr t)))) (by
  rintro (t | t | t)
  · kernel_rfl
  · kernel_rfl
  · kernel_rfl)) 0)

def slices_IndexFunc_int_int_n5_l (x13308 : List Int) (x13311 : Int) (x13309 : List Int) (x13310 : Int) := (link_block (fin2 := (Sum.elim (fun (t : Unit) => (Exit.normal, ⟨mkE 19 0 [], [some (.box [dL x13309]), some (.box [dI x13310])]⟩)) (fun (t : Int) => (Exit.ret, ⟨mkE 19 0 [(4, dI t)], [some (.box [dL x13309]), some (.box [dI x13310])]⟩)))) (id := 0) (slices_IndexFunc_int_int_n4_l x13308 x13311 x13309 x13310) (Sum.elim (fun (t : Int) => (Sum.inr t)) (fun (t : Unit) => (Sum.inl ()))) (by
  rintro (t | t) K h
  · exact Eq.mp (by kernel_rfl) h
  · exact Eq.mp (by kernel_rfl) h))

def slices_IndexFunc_int_int_n6_l (x13308 : List Int) (x13309 : List Int) (x13310 : Int) := (link_seq (slices_IndexFunc_int_int_n2_l x13308 x13309 x13310) (fun (t : Int) => (slices_IndexFunc_int_int_n5_l x13308 t x13309 x13310)))

theorem slices_IndexFunc_int_int_n7_l (x13309 : List Int) (x13310 : Int) : Link slices_IndexFunc_int_int_ctx LL (cq [1,1] (bodyOf Tryd.f89)) (aq [1,1] slices_IndexFunc_int_int_an) ⟨mkE 19 0 [], [some (.box [dL x13309]), some (.box [dI x13310])]⟩ (slices_IndexFunc_int_int_n7) (fun (t : Int) => (Exit.ret, ⟨mkE 19 0 [(4, dI t)], [some (.box [dL x13309]), some (.box [dI x13310])]⟩)) := by
  refine Link.of fun K h => ?_
  simp only [slices_IndexFunc_int_int_n7, wpO_bind, wpO_cond, wpO_map, wpO_some] at h
  exact Awp.of (by kernel_rfl) h

def slices_IndexFunc_int_int_n8_l (x13308 : List Int) (x13309 : List Int) (x13310 : Int) := (link_seq2 (slices_IndexFunc_int_int_n6_l x13308 x13309 x13310) (fun (t : Unit) => (slices_IndexFunc_int_int_n7_l x13309 x13310)) (fun (t : Int) => t) (by
  rintro t
  · kernel_rfl) (by
  rintro t f K h
  · exact h))

def slices_IndexFunc_int_int_n9_l (x13308 : List Int) (x13309 : List Int) (x13310 : Int) := (link_seq (slices_IndexFunc_int_int_n1_l x13308 x13309 x13310) (fun (t : Unit) => (slices_IndexFunc_int_int_n8_l x13308 x13309 x13310)))

theorem slices_IndexFunc_int_int_e (x13308 : List Int) (x13309 : List Int) (x13310 : Int) {r : AV} {H' : Heap} (h : (Ans.mk _ (slices_IndexFunc_int_int x13308 x13309 x13310) (fun (t : Int) => (dI t, [some (.box [dL x13309]), some (.box [dI x13310])])) [] none).run = some (r, H')) : Awp slices_IndexFunc_int_int_ctx LL (bodyOf Tryd.f89) slices_IndexFunc_int_int_an ⟨mkE 19 0 [(0, dL x13308), (1, .fn 84 [] [.ptr 0 0, .ptr 1 0])], [some (.box [dL x13309]), some (.box [dI x13310])]⟩ (Ret (tlook tys) Tryd.f89.results.toList r H') :=
  ret_of' (Link.cast (by kernel_rfl) (by kernel_rfl) (slices_IndexFunc_int_int_n9_l x13308 x13309 x13310)) (by unfold slices_IndexFunc_int_int; kernel_rfl) (by
  intro t
  exact ret_mk [dI t] (by kernel_rfl) (by kernel_rfl) (by kernel_rfl) (by kernel_rfl)) h

def F_slices_IndexFunc_int_int : Fun := fun avs H =>
  match avs, H with
  | [.dat (.list (.int .i64)) x13308, .fn 84 [] [.ptr 0 0, .ptr 1 0]], [some (.box [.dat (.list (.int .i64)) x13309]), some (.box [.dat (.int .i64) x13310])] => ⟨_, slices_IndexFunc_int_int x13308 x13309 x13310, fun (t : Int) => (dI t, [some (.box [dL x13309]), some (.box [dI x13310])]), [], none⟩
  | _, _ => Ans.no

theorem slices_IndexFunc_int_int_sound : Sound Tryd.prog 89 F_slices_IndexFunc_int_int := by
  refine fn_sound' (C := slices_IndexFunc_int_int_ctx) (c := bodyOf Tryd.f89) (cok_of tys_ok (allc impl_eagerMachine_waitsBelow_1_sound alln) (allc Tryd.call84 alln) (by kernel_rfl)) Tryd.func89 (by kernel_rfl) LL slices_IndexFunc_int_int_an ?_
  intro avs H r H' h
  unfold F_slices_IndexFunc_int_int at h
  split at h
  · refine Awp.cast ?_ ?_ ?_ (slices_IndexFunc_int_int_e _ _ _ h) <;> kernel_rfl
  · simp [Ans.no, Ans.run] at h


/-! slices.ContainsFunc[[]int,int] -/

def slices_ContainsFunc_int_int_an : Ann := (.seq (.leaf [0, 1]) (.seq (.leaf [4]) (.leaf [4])))

noncomputable def slices_ContainsFunc_int_int_ctx : Ctx := ⟨tlook tys, olook [(89, F_slices_IndexFunc_int_int)], ioF, 2, false, []⟩

theorem slices_ContainsFunc_int_int_n1_l (x13305 : List Int) (x13306 : List Int) (x13307 : Int) : Link slices_ContainsFunc_int_int_ctx LL (bodyOf Tryd.f83) slices_ContainsFunc_int_int_an ⟨mkE 9 0 [(0, dL x13305), (1, .fn 84 [] [.ptr 0 0, .ptr 1 0])], [some (.box [dL x13306]), some (.box [dI x13307])]⟩ (slices_ContainsFunc_int_int_n1 x13305 x13306 x13307) (fun (t : Bool) => (Exit.ret, ⟨mkE 9 0 [(4, dB t)], [some (.box [dL x13306]), some (.box [dI x13307])]⟩)) := by
  refine Link.of fun K h => ?_
  simp only [slices_ContainsFunc_int_int_n1, wpO_bind, wpO_cond, wpO_map, wpO_some] at h
  exact Awp.of (by kernel_rfl) h

theorem slices_ContainsFunc_int_int_e (x13305 : List Int) (x13306 : List Int) (x13307 : Int) {r : AV} {H' : Heap} (h : (Ans.mk _ (slices_ContainsFunc_int_int x13305 x13306 x13307) (fun (t : Bool) => (dB t, [some (.box [dL x13306]), some (.box [dI x13307])])) [] none).run = some (r, H')) : Awp slices_ContainsFunc_int_int_ctx LL (bodyOf Tryd.f83) slices_ContainsFunc_int_int_an ⟨mkE 9 0 [(0, dL x13305), (1, .fn 84 [] [.ptr 0 0, .ptr 1 0])], [some (.box [dL x13306]), some (.box [dI x13307])]⟩ (Ret (tlook tys) Tryd.f83.results.toList r H') :=
  ret_of' (slices_ContainsFunc_int_int_n1_l x13305 x13306 x13307) (by unfold slices_ContainsFunc_int_int; kernel_rfl) (by
  intro t
  exact ret_mk [dB t] (by kernel_rfl) (by kernel_rfl) (by kernel_rfl) (by kernel_rfl)) h

def F_slices_ContainsFunc_int_int : Fun := fun avs H =>
  match avs, H with
  | [.dat (.list (.int .i64)) x13305, .fn 84 [] [.ptr 0 0, .ptr 1 0]], [some (.box [.dat (.list (.int .i64)) x13306]), some (.box [.dat (.int .i64) x13307])] => ⟨_, slices_ContainsFunc_int_int x13305 x13306 x13307, fun (t : Bool) => (dB t, [some (.box [dL x13306]), some (.box [dI x13307])]), [], none⟩
  | _, _ => Ans.no

theorem slices_ContainsFunc_int_int_sound : Sound Tryd.prog 83 F_slices_ContainsFunc_int_int := by
  refine fn_sound' (C := slices_ContainsFunc_int_int_ctx) (c := bodyOf Tryd.f83) (cok_of tys_ok (allc slices_IndexFunc_int_int_sound alln) (allc Tryd.call89 alln) (by kernel_rfl)) Tryd.func83 (by kernel_rfl) LL slices_ContainsFunc_int_int_an ?_
  intro avs H r H' h
  unfold F_slices_ContainsFunc_int_int at h
  split at h
  · refine Awp.cast ?_ ?_ ?_ (slices_ContainsFunc_int_int_e _ _ _ h) <;> kernel_rfl
  · simp [Ans.no, Ans.run] at h


/-! (*loop.example/headtrees/impl.eagerMachine).waitsBelow -/

def impl_eagerMachine_waitsBelow_an : Ann := (.seq (.leaf [0, 4, 5]) (.seq (.draw [] [0, 1, 2, 3, 4, 5, 6, 7, 8, 9, 10, 11, 12, 13, 14, 15] [] [6]) (.leaf [6])))

noncomputable def impl_eagerMachine_waitsBelow_ctx : Ctx := ⟨tlook tys, olook [(83, forgetF F_slices_ContainsFunc_int_int)], ioF, 3, false, []⟩

theorem impl_eagerMachine_waitsBelow_n1_l (x13652 : List Int) (x13653 : Int) (x13654 : Nat) (x13655 : Nat) (x13656 : Int) (x13657 : Int) (x13658 : Int) (x13659 : List Int) (x13660 : List Int) : Link impl_eagerMachine_waitsBelow_ctx LL (bodyOf Tryd.f73) impl_eagerMachine_waitsBelow_an ⟨mkE 22 0 [(0, .ptr 0 0), (1, dL x13652), (2, dI x13653)], [some (.box [.slc 1, .win 2 x13654 x13655, dI x13656, dI x13657, dW x13658]), some (sI x13659), some (sI x13660)]⟩ (impl_eagerMachine_waitsBelow_n1 x13652 x13653 x13654 x13655 x13660) (fun (t : Bool) => (Exit.ret, ⟨mkE 22 0 [(6, dB t)], [some (.box [.slc 1, .win 2 x13654 x13655, dI x13656, dI x13657, dW x13658]), some (sI x13659), some (sI x13660)]⟩)) := by
  refine Link.of fun K h => ?_
  simp only [impl_eagerMachine_waitsBelow_n1, wpO_bind, wpO_cond, wpO_map, wpO_some] at h
  exact Awp.of (by kernel_rfl) h

theorem impl_eagerMachine_waitsBelow_e (x13652 : List Int) (x13653 : Int) (x13654 : Nat) (x13655 : Nat) (x13656 : Int) (x13657 : Int) (x13658 : Int) (x13659 : List Int) (x13660 : List Int) {r : AV} {H' : Heap} (h : (Ans.mk _ (impl_eagerMachine_waitsBelow x13652 x13653 x13654 x13655 x13656 x13657 x13658 x13659 x13660) (fun (t : Bool) => (dB t, [some (.box [.slc 1, .win 2 x13654 x13655, dI x13656, dI x13657, dW x13658]), some (sI x13659), some (sI x13660)])) [] none).run = some (r, H')) : Awp impl_eagerMachine_waitsBelow_ctx LL (bodyOf Tryd.f73) impl_eagerMachine_waitsBelow_an ⟨mkE 22 0 [(0, .ptr 0 0), (1, dL x13652), (2, dI x13653)], [some (.box [.slc 1, .win 2 x13654 x13655, dI x13656, dI x13657, dW x13658]), some (sI x13659), some (sI x13660)]⟩ (Ret (tlook tys) Tryd.f73.results.toList r H') :=
  ret_of' (impl_eagerMachine_waitsBelow_n1_l x13652 x13653 x13654 x13655 x13656 x13657 x13658 x13659 x13660) (by unfold impl_eagerMachine_waitsBelow; kernel_rfl) (by
  intro t
  exact ret_mk [dB t] (by kernel_rfl) (by kernel_rfl) (by kernel_rfl) (by kernel_rfl)) h

def F_impl_eagerMachine_waitsBelow : Fun := fun avs H =>
  match avs, H with
  | [.ptr 0 0, .dat (.list (.int .i64)) x13652, .dat (.int .i64) x13653], [some (.box [.slc 1, .win 2 x13654 x13655, .dat (.int .i64) x13656, .dat (.int .i64) x13657, .dat (.int .u64) x13658]), some (.seq (.int .i64) x13659), some (.seq (.int .i64) x13660)] => ⟨_, impl_eagerMachine_waitsBelow x13652 x13653 x13654 x13655 x13656 x13657 x13658 x13659 x13660, fun (t : Bool) => (dB t, [some (.box [.slc 1, .win 2 x13654 x13655, dI x13656, dI x13657, dW x13658]), some (sI x13659), some (sI x13660)]), [], none⟩
  | _, _ => Ans.no

theorem impl_eagerMachine_waitsBelow_sound : Sound Tryd.prog 73 F_impl_eagerMachine_waitsBelow := by
  refine fn_sound' (C := impl_eagerMachine_waitsBelow_ctx) (c := bodyOf Tryd.f73) (cok_of tys_ok (allc (Sound.forget slices_ContainsFunc_int_int_sound) alln) (allc Tryd.call83 alln) (by kernel_rfl)) Tryd.func73 (by kernel_rfl) LL impl_eagerMachine_waitsBelow_an ?_
  intro avs H r H' h
  unfold F_impl_eagerMachine_waitsBelow at h
  split at h
  · refine Awp.cast ?_ ?_ ?_ (impl_eagerMachine_waitsBelow_e _ _ _ _ _ _ _ _ _ h) <;> kernel_rfl
  · simp [Ans.no, Ans.run] at h


/-! (*loop.example/headtrees/impl.eagerMachine).letterFor -/

def impl_eagerMachine_letterFor_an : Ann := (.seq (.leaf [0, 1]) (.seq (.leaf [0, 1, 5, 6, 7]) (.seq (.block (.seq (.leaf [0, 1, 5, 6, 14]) (.cond (.seq (.leaf [4]) (.leaf [4])) (.seq (.leaf [0, 1, 5, 6, 17]) (.cond (.seq (.leaf [4]) (.leaf [4])) (.seq (.leaf [0, 1, 6, 25]) (.cond (.seq (.leaf [4]) (.leaf [4])) (.seq (.leaf [33]) (.cond (.seq (.leaf [4]) (.leaf [4])) (.leaf [])))))))))) (.seq (.leaf [4]) (.leaf [4])))))

noncomputable def impl_eagerMachine_letterFor_ctx : Ctx := ⟨tlook tys, olook [(72, F_impl_eagerMachine_upperAndNext), (73, F_impl_eagerMachine_waitsBelow)], ioF, 3, false, []⟩

theorem impl_eagerMachine_letterFor_n1_l (x13629 : List Int) (x13630 : Nat) (x13631 : Nat) (x13632 : Int) (x13633 : Int) (x13634 : Int) (x13635 : List Int) (x13636 : List Int) : Link impl_eagerMachine_letterFor_ctx LL (bodyOf Tryd.f47) impl_eagerMachine_letterFor_an ⟨mkE 38 0 [(0, .ptr 0 0), (1, dL x13629)], [some (.box [.slc 1, .win 2 x13630 x13631, dI x13632, dI x13633, dW x13634]), some (sI x13635), some (sI x13636)]⟩ (impl_eagerMachine_letterFor_n1 x13629 x13630 x13631 x13632 x13633 x13634 x13635 x13636) (fun (t : Int) => (Exit.ret, ⟨mkE 38 0 [(4, dU t)], [some (.box [.slc 1, .win 2 x13630 x13631, dI x13632, dI x13633, dW x13634]), some (sI x13635), some (sI x13636)]⟩)) := by
  refine Link.of fun K h => ?_
  simp only [impl_eagerMachine_letterFor_n1, wpO_bind, wpO_cond, wpO_map, wpO_some] at h
  exact Awp.of (by kernel_rfl) h

theorem impl_eagerMachine_letterFor_e (x13629 : List Int) (x13630 : Nat) (x13631 : Nat) (x13632 : Int) (x13633 : Int) (x13634 : Int) (x13635 : List Int) (x13636 : List Int) {r : AV} {H' : Heap} (h : (Ans.mk _ (impl_eagerMachine_letterFor x13629 x13630 x13631 x13632 x13633 x13634 x13635 x13636) (fun (t : Int) => (dU t, [some (.box [.slc 1, .win 2 x13630 x13631, dI x13632, dI x13633, dW x13634]), some (sI x13635), some (sI x13636)])) [] none).run = some (r, H')) : Awp impl_eagerMachine_letterFor_ctx LL (bodyOf Tryd.f47) impl_eagerMachine_letterFor_an ⟨mkE 38 0 [(0, .ptr 0 0), (1, dL x13629)], [some (.box [.slc 1, .win 2 x13630 x13631, dI x13632, dI x13633, dW x13634]), some (sI x13635), some (sI x13636)]⟩ (Ret (tlook tys) Tryd.f47.results.toList r H') :=
  ret_of' (impl_eagerMachine_letterFor_n1_l x13629 x13630 x13631 x13632 x13633 x13634 x13635 x13636) (by unfold impl_eagerMachine_letterFor; kernel_rfl) (by
  intro t
  exact ret_mk [dU t] (by kernel_rfl) (by kernel_rfl) (by kernel_rfl) (by kernel_rfl)) h

def F_impl_eagerMachine_letterFor : Fun := fun avs H =>
  match avs, H with
  | [.ptr 0 0, .dat (.list (.int .i64)) x13629], [some (.box [.slc 1, .win 2 x13630 x13631, .dat (.int .i64) x13632, .dat (.int .i64) x13633, .dat (.int .u64) x13634]), some (.seq (.int .i64) x13635), some (.seq (.int .i64) x13636)] => ⟨_, impl_eagerMachine_letterFor x13629 x13630 x13631 x13632 x13633 x13634 x13635 x13636, fun (t : Int) => (dU t, [some (.box [.slc 1, .win 2 x13630 x13631, dI x13632, dI x13633, dW x13634]), some (sI x13635), some (sI x13636)]), [], none⟩
  | _, _ => Ans.no

theorem impl_eagerMachine_letterFor_sound : Sound Tryd.prog 47 F_impl_eagerMachine_letterFor := by
  refine fn_sound' (C := impl_eagerMachine_letterFor_ctx) (c := bodyOf Tryd.f47) (cok_of tys_ok (allc impl_eagerMachine_upperAndNext_sound (allc impl_eagerMachine_waitsBelow_sound alln)) (allc Tryd.call72 (allc Tryd.call73 alln)) (by kernel_rfl)) Tryd.func47 (by kernel_rfl) LL impl_eagerMachine_letterFor_an ?_
  intro avs H r H' h
  unfold F_impl_eagerMachine_letterFor at h
  split at h
  · refine Awp.cast ?_ ?_ ?_ (impl_eagerMachine_letterFor_e _ _ _ _ _ _ _ _ h) <;> kernel_rfl
  · simp [Ans.no, Ans.run] at h


/-! loop.example/headtrees/impl.EagerFor -/

def impl_EagerFor_an : Ann := (.seq (.leaf [0]) (.seq (.seq (.leaf [0, 10]) (.cond (.seq (.leaf [2, 3]) (.leaf [2, 3])) (.leaf [0]))) (.seq (.leaf [0, 4, 5]) (.seq (.leafF [⟨1, 4, false, some 1, some (.int .i64)⟩, ⟨1, 4, true, some 1, none⟩] [0, 4, 5, 6]) (.seq (.block (.loop (.seq (.seq (.leaf [0, 4, 5, 6, 22]) (.cond (.leaf [0, 4, 5, 6]) (.leaf [6]))) (.block (.seq (.leaf [0, 4, 5, 6, 7]) (.seq (.leaf [0, 4, 5, 6, 7]) (.leafF [⟨5, 4, true, some 1, none⟩] [0, 4, 5, 6]))))))) (.seq (.leafF [⟨1, 35, false, none, none⟩] [2, 3]) (.leaf [2, 3])))))))

noncomputable def impl_EagerFor_ctx : Ctx := ⟨tlook tys, olook [(15, F_impl_FlatOk), (42, F_impl_newEagerMachine), (44, F_impl_eagerMoves), (47, F_impl_eagerMachine_letterFor), (54, F_impl_stackMachine_putNext_v2), (68, F_impl_eagerMachine_takeUnderNext), (69, F_impl_eagerMachine_putUnderUpper), (70, F_impl_eagerMachine_takeHeaded)], ioF, 0, false, []⟩

theorem impl_EagerFor_n1_l (x13238 : List Int) : Link impl_EagerFor_ctx LL (Code.seq (cq [0] (bodyOf Tryd.f21)) (Code.seq (cq [0,1] (bodyOf Tryd.f21)) (Code.seq (cq [0,1,1] (bodyOf Tryd.f21)) (cq [0,1,1,1] (bodyOf Tryd.f21))))) (Ann.seq (aq [0] impl_EagerFor_an) (Ann.seq (aq [0,1] impl_EagerFor_an) (Ann.seq (aq [0,1,1] impl_EagerFor_an) (aq [0,1,1,1] impl_EagerFor_an)))) ⟨mkE 37 0 [(0, dL x13238)], []⟩ (impl_EagerFor_n1 x13238) (Sum.elim (fun (t : Nat × (List Int)) => (Exit.normal, ⟨mkE 37 0 [(0, dL x13238), (4, .ptr 0 0), (5, .fmap [(.int .u8 83, .methodOf 59 "loop.example/headtrees/impl.putNext"), (.int .u8 76, .func 68), (.int .u8 82, .func 69), (.int .u8 68, .func 70)]), (6, .slc 1)], [some (.box [.slc 2, .win 3 0 t.1, dI 0, dI 0, dW 0]), some (sU ([] : List Int)), some (sI t.2), some (sI ([] : List Int))]⟩)) (fun (t : ByteArray × Bool) => (Exit.ret, ⟨mkE 37 0 [(2, dS t.1), (3, dB t.2)], []⟩))) := by
  refine Link.of fun K h => ?_
  simp only [impl_EagerFor_n1, wpO_bind, wpO_cond, wpO_map, wpO_some] at h
  exact Awp.of (by kernel_rfl) h

theorem impl_EagerFor_n2_l (x13238 : List Int) (x13901 : Nat) (x13902 : Nat) (x13903 : Int) (x13904 : Int) (x13905 : Int) (x13906 : List Int) (x13907 : List Int) (x13908 : List Int) : Link impl_EagerFor_ctx LL (cq [0,0,0,1,1,1,1] (bodyOf Tryd.f21)) (aq [0,0,0,1,1,1,1] impl_EagerFor_an) ⟨mkE 37 0 [(0, dL x13238), (4, .ptr 0 0), (5, .fmap [(.int .u8 83, .methodOf 59 "loop.example/headtrees/impl.putNext"), (.int .u8 76, .func 68), (.int .u8 82, .func 69), (.int .u8 68, .func 70)]), (6, .slc 1)], [some (.box [.slc 2, .win 3 x13901 x13902, dI x13903, dI x13904, dW x13905]), some (sU x13906), some (sI x13907), some (sI x13908)]⟩ (impl_EagerFor_n2 x13238 x13901 x13902 x13903 x13904 x13905 x13906 x13907 x13908) (Sum.elim (fun (t : Nat × Nat × Int × Int × Int × (List Int) × (List Int) × (List Int)) => (Exit.normal, ⟨mkE 37 0 [(0, dL x13238), (4, .ptr 0 0), (5, .fmap [(.int .u8 83, .methodOf 59 "loop.example/headtrees/impl.putNext"), (.int .u8 76, .func 68), (.int .u8 82, .func 69), (.int .u8 68, .func 70)]), (6, .slc 1)], [some (.box [.slc 2, .win 3 t.1 t.2.1, dI t.2.2.1, dI t.2.2.2.1, dW t.2.2.2.2.1]), some (sU t.2.2.2.2.2.1), some (sI t.2.2.2.2.2.2.1), some (sI t.2.2.2.2.2.2.2)]⟩)) (fun (t : (List Int)) => ((Exit.exit 0), ⟨mkE 37 0 [(6, .slc 0)], [some (sU t)]⟩))) := by
  refine Link.of fun K h => ?_
  simp only [impl_EagerFor_n2, wpO_bind, wpO_cond, wpO_map, wpO_some, wpO_none] at h
  exact Awp.of (by kernel_rfl) h

def impl_EagerFor_n3_l (x13238 : List Int) (x13841 : Nat) (x13839 : List Int) := (link_loop (mk := fun (s : Nat × Nat × Int × Int × Int × (List Int) × (List Int) × (List Int)) => ⟨mkE 37 0 [(0, dL x13238), (4, .ptr 0 0), (5, .fmap [(.int .u8 83, .methodOf 59 "loop.example/headtrees/impl.putNext"), (.int .u8 76, .func 68), (.int .u8 82, .func 69), (.int .u8 68, .func 70)]), (6, .slc 1)], [some (.box [.slc 2, .win 3 s.1 s.2.1, dI s.2.2.1, dI s.2.2.2.1, dW s.2.2.2.2.1]), some (sU s.2.2.2.2.2.1), some (sI s.2.2.2.2.2.2.1), some (sI s.2.2.2.2.2.2.2)]⟩) (fin := (fun (t : (List Int)) => ((Exit.exit 0), ⟨mkE 37 0 [(6, .slc 0)], [some (sU t)]⟩))) (by
  rintro t f K h
  · exact h) (fun s => link_map (impl_EagerFor_n2_l x13238 s.1 s.2.1 s.2.2.1 s.2.2.2.1 s.2.2.2.2.1 s.2.2.2.2.2.1 s.2.2.2.2.2.2.1 s.2.2.2.2.2.2.2) (Sum.elim (fun (t : Nat × Nat × Int × Int × Int × (List Int) × (List Int) × (List Int)) => Sum.inl (t.1, t.2.1, t.2.2.1, t.2.2.2.1, t.2.2.2.2.1, t.2.2.2.2.2.1, t.2.2.2.2.2.2.1, t.2.2.2.2.2.2.2)) (fun (t : (List Int)) => Sum.inr t)) (by
  rintro (t | t)
  · kernel_rfl
  · kernel_rfl)) (0, x13841, 0, 0, 0, ([] : List Int), x13839, ([] : List Int)))

def impl_EagerFor_n4_l (x13238 : List Int) (x13841 : Nat) (x13839 : List Int) := (link_block (fin2 := (fun (t : (List Int)) => (Exit.normal, ⟨mkE 37 0 [(6, .slc 0)], [some (sU t)]⟩))) (id := 0) (impl_EagerFor_n3_l x13238 x13841 x13839) (fun (t : (List Int)) => t) (by
  rintro t K h
  · exact Eq.mp (by kernel_rfl) h))

theorem impl_EagerFor_n5_l (x13906 : List Int) : Link impl_EagerFor_ctx LL (cq [1,1,1,1,1] (bodyOf Tryd.f21)) (aq [1,1,1,1,1] impl_EagerFor_an) ⟨mkE 37 0 [(6, .slc 0)], [some (sU x13906)]⟩ (impl_EagerFor_n5 x13906) (fun (t : ByteArray × Bool) => (Exit.ret, ⟨mkE 37 0 [(2, dS t.1), (3, dB t.2)], []⟩)) := by
  refine Link.of fun K h => ?_
  simp only [impl_EagerFor_n5, wpO_bind, wpO_cond, wpO_map, wpO_some] at h
  exact Awp.of (by kernel_rfl) h

def impl_EagerFor_n6_l (x13238 : List Int) (x13841 : Nat) (x13839 : List Int) := (link_seq (impl_EagerFor_n4_l x13238 x13841 x13839) (fun (t : (List Int)) => (impl_EagerFor_n5_l t)))

def impl_EagerFor_n7_l (x13238 : List Int) := (link_group (c := (cq [0,1,1,1] (bodyOf Tryd.f21))) (a := (aq [0,1,1,1] impl_EagerFor_an)) [(cq [0] (bodyOf Tryd.f21)), (cq [0,1] (bodyOf Tryd.f21)), (cq [0,1,1] (bodyOf Tryd.f21))] [(aq [0] impl_EagerFor_an), (aq [0,1] impl_EagerFor_an), (aq [0,1,1] impl_EagerFor_an)] rfl (link_seq2 (impl_EagerFor_n1_l x13238) (fun (t : Nat × (List Int)) => (impl_EagerFor_n6_l x13238 t.1 t.2)) (fun (t : ByteArray × Bool) => t) (by
  rintro t
  · kernel_rfl) (by
  rintro t f K h
  · exact h)))

theorem impl_EagerFor_e (x13238 : List Int) {r : AV} {H' : Heap} (h : (Ans.mk _ (impl_EagerFor x13238) (fun (t : ByteArray × Bool) => (.tup [dS t.1, dB t.2], [])) [] none).run = some (r, H')) : Awp impl_EagerFor_ctx LL (bodyOf Tryd.f21) impl_EagerFor_an ⟨mkE 37 0 [(0, dL x13238)], []⟩ (Ret (tlook tys) Tryd.f21.results.toList r H') :=
  ret_of' (Link.cast (by kernel_rfl) (by kernel_rfl) (impl_EagerFor_n7_l x13238)) (by unfold impl_EagerFor; kernel_rfl) (by
  intro t
  exact ret_mk [dS t.1, dB t.2] (by kernel_rfl) (by kernel_rfl) (by kernel_rfl) (by kernel_rfl)) h

def F_impl_EagerFor : Fun := fun avs H =>
  match avs, H with
  | [.dat (.list (.int .i64)) x13238], [] => ⟨_, impl_EagerFor x13238, fun (t : ByteArray × Bool) => (.tup [dS t.1, dB t.2], []), [], none⟩
  | _, _ => Ans.no

theorem impl_EagerFor_sound : Sound Tryd.prog 21 F_impl_EagerFor := by
  refine fn_sound' (C := impl_EagerFor_ctx) (c := bodyOf Tryd.f21) (cok_of tys_ok (allc impl_FlatOk_sound (allc impl_newEagerMachine_sound (allc impl_eagerMoves_sound (allc impl_eagerMachine_letterFor_sound (allc impl_stackMachine_putNext_v2_sound (allc impl_eagerMachine_takeUnderNext_sound (allc impl_eagerMachine_putUnderUpper_sound (allc impl_eagerMachine_takeHeaded_sound alln)))))))) (allc Tryd.call15 (allc Tryd.call42 (allc Tryd.call44 (allc Tryd.call47 (allc Tryd.call54 (allc Tryd.call68 (allc Tryd.call69 (allc Tryd.call70 alln)))))))) (by kernel_rfl)) Tryd.func21 (by kernel_rfl) LL impl_EagerFor_an ?_
  intro avs H r H' h
  unfold F_impl_EagerFor at h
  split at h
  · refine Awp.cast ?_ ?_ ?_ (impl_EagerFor_e _ h) <;> kernel_rfl
  · simp [Ans.no, Ans.run] at h


/-! loop.example/headtrees/laws.FnRunEager -/

def laws_FnRunEager_an : Ann := (.seq (.leaf [0]) (.seq (.seq (.leaf [0, 19]) (.cond (.seq (.leaf [2]) (.leaf [2])) (.leaf [0]))) (.seq (.leaf [3, 4]) (.seq (.leaf [3, 4, 5, 6]) (.seq (.leaf [3, 5, 6, 7, 8]) (.seq (.seq (.leaf [3, 5, 6, 45]) (.cond (.seq (.leaf [2]) (.leaf [2])) (.leaf [3, 5, 6]))) (.seq (.seq (.leaf [3, 5, 47]) (.cond (.seq (.leaf [2]) (.leaf [2])) (.leaf [3, 5]))) (.seq (.leaf [3, 5, 9, 10]) (.seq (.leaf [3, 5, 10, 11, 12]) (.seq (.leaf [3, 5, 10, 11, 12, 13, 14]) (.seq (.leaf [5, 10, 11, 12, 14, 15, 16]) (.seq (.leaf [2]) (.leaf [2])))))))))))))

noncomputable def laws_FnRunEager_ctx : Ctx := ⟨tlook tys, olook [(18, F_spec_DrawRunEager), (19, F_impl_RunEager), (20, F_spec_RunEager), (12, F_laws_sameInts), (13, F_laws_alive), (21, F_impl_EagerFor), (14, F_impl_MovesFor), (10, F_impl_RunStack), (15, F_impl_FlatOk)], ioF, 0, false, []⟩

theorem laws_FnRunEager_n1_l (x6531 : List Int) : Link laws_FnRunEager_ctx LL (bodyOf Tryd.f5) laws_FnRunEager_an ⟨mkE 100 0 [(0, dV x6531)], []⟩ (laws_FnRunEager_n1 x6531) (fun (t : Bool) => (Exit.ret, ⟨mkE 100 0 [(2, dB t)], []⟩)) := by
  refine Link.of fun K h => ?_
  simp only [laws_FnRunEager_n1, wpO_bind, wpO_cond, wpO_map, wpO_some] at h
  exact Awp.of (by kernel_rfl) h

theorem laws_FnRunEager_e (x6531 : List Int) {r : AV} {H' : Heap} (h : (Ans.mk _ (laws_FnRunEager x6531) (fun (t : Bool) => (dB t, [])) [] none).run = some (r, H')) : Awp laws_FnRunEager_ctx LL (bodyOf Tryd.f5) laws_FnRunEager_an ⟨mkE 100 0 [(0, dV x6531)], []⟩ (Ret (tlook tys) Tryd.f5.results.toList r H') :=
  ret_of' (laws_FnRunEager_n1_l x6531) (by unfold laws_FnRunEager; kernel_rfl) (by
  intro t
  exact ret_mk [dB t] (by kernel_rfl) (by kernel_rfl) (by kernel_rfl) (by kernel_rfl)) h

def F_laws_FnRunEager : Fun := fun avs H =>
  match avs, H with
  | [.dat (.list (.int .u8)) x6531], [] => ⟨_, laws_FnRunEager x6531, fun (t : Bool) => (dB t, []), [], none⟩
  | _, _ => Ans.no

theorem laws_FnRunEager_sound : Sound Tryd.prog 5 F_laws_FnRunEager := by
  refine fn_sound' (C := laws_FnRunEager_ctx) (c := bodyOf Tryd.f5) (cok_of tys_ok (allc spec_DrawRunEager_sound (allc impl_RunEager_sound (allc spec_RunEager_sound (allc laws_sameInts_sound (allc laws_alive_sound (allc impl_EagerFor_sound (allc impl_MovesFor_sound (allc impl_RunStack_sound (allc impl_FlatOk_sound alln))))))))) (allc Tryd.call18 (allc Tryd.call19 (allc Tryd.call20 (allc Tryd.call12 (allc Tryd.call13 (allc Tryd.call21 (allc Tryd.call14 (allc Tryd.call10 (allc Tryd.call15 alln))))))))) (by kernel_rfl)) Tryd.func5 (by kernel_rfl) LL laws_FnRunEager_an ?_
  intro avs H r H' h
  unfold F_laws_FnRunEager at h
  split at h
  · refine Awp.cast ?_ ?_ ?_ (laws_FnRunEager_e _ h) <;> kernel_rfl
  · simp [Ans.no, Ans.run] at h


end Go.Rv
