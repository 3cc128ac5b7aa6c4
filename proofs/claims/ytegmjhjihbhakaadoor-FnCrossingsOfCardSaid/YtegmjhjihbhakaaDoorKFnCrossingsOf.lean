/-
  The checked code answers as the plain functions do; written by program. Conditions: none.
-/
import Derived.Test.YtegmjhjihbhakaaDoorKFnCrossingsOfa
set_option linter.unusedVariables false
set_option linter.unusedSimpArgs false
set_option maxRecDepth 100000
namespace Go.Rv
open Go.Proofs
/-! loop.example/headtrees/spec.CrossingsOf -/

def spec_CrossingsOf_an : Ann := (.seq (.leaf [0]) (.seq (.seq (.leaf [0, 9]) (.cond (.seq (.leaf [2]) (.leaf [2])) (.leaf [0]))) (.seq (.leaf [0, 3]) (.seq (.leaf [3, 4]) (.seq (.seq (.leaf [3, 4, 5]) (.block (.loop (.seq (.seq (.leaf [3, 4, 5, 15]) (.cond (.leaf [3, 4, 5]) (.leaf [3]))) (.seq (.block (.seq (.leaf [3, 4, 5, 6]) (.block (.loop (.seq (.seq (.leaf [3, 4, 5, 6, 20]) (.cond (.leaf [3, 4, 5, 6]) (.leaf [3, 4, 5]))) (.seq (.block (.seq (.draw [24] [0, 1, 2, 3, 4, 5, 6, 7, 8, 9, 10, 11, 12, 13, 14, 15, 16, 17, 18, 19, 20, 21, 22, 23, 24] [] [3, 4, 5, 6, 47]) (.cond (.leaf [3, 4, 5, 6]) (.leaf [3, 4, 5, 6])))) (.leaf [3, 4, 5, 6]))))))) (.leaf [3, 4, 5])))))) (.seq (.leaf [2]) (.leaf [2])))))))

noncomputable def spec_CrossingsOf_ctx : Ctx := ⟨tlook tys, olook [(27, F_spec_TreeOk), (72, F_spec_l3Arcs), (73, F_spec_CrossOk)], ioF, 0⟩

theorem spec_CrossingsOf_n1_l (x3558 : List Int) : Link spec_CrossingsOf_ctx LL (Code.seq (Code.fst (bodyOf Tryd.f39)) (Code.seq (Code.fst (Code.snd (bodyOf Tryd.f39))) (Code.seq (Code.fst (Code.snd (Code.snd (bodyOf Tryd.f39)))) (Code.fst (Code.snd (Code.snd (Code.snd (bodyOf Tryd.f39)))))))) (Ann.seq (Ann.fst spec_CrossingsOf_an) (Ann.seq (Ann.fst (Ann.snd spec_CrossingsOf_an)) (Ann.seq (Ann.fst (Ann.snd (Ann.snd spec_CrossingsOf_an))) (Ann.fst (Ann.snd (Ann.snd (Ann.snd spec_CrossingsOf_an))))))) (⟨mkE 51 0 [(0, .dat (.list (.int .i64)) x3558)], []⟩ : St) (spec_CrossingsOf_n1 x3558) (Sum.elim (fun (t : (List (List Int))) => (Exit.normal, (⟨mkE 51 0 [(3, .dat (.int .i64) 0), (4, .slc 0)], [some (.seq (.list (.int .i64)) t)]⟩ : St))) (fun (t : Int) => (Exit.ret, (⟨mkE 51 0 [(2, .dat (.int .i64) t)], []⟩ : St)))) := by
  refine Link.of fun K h => ?_
  simp only [spec_CrossingsOf_n1, wpO_bind, wpO_cond, wpO_map, wpO_some] at h
  exact Awp.of (by kernel_rfl) h

theorem spec_CrossingsOf_n2_l (x3654 : List (List Int)) : Link spec_CrossingsOf_ctx LL (Code.fst (Code.fst (Code.snd (Code.snd (Code.snd (Code.snd (bodyOf Tryd.f39))))))) (Ann.fst (Ann.fst (Ann.snd (Ann.snd (Ann.snd (Ann.snd spec_CrossingsOf_an)))))) (⟨mkE 51 0 [(3, .dat (.int .i64) 0), (4, .slc 0)], [some (.seq (.list (.int .i64)) x3654)]⟩ : St) (spec_CrossingsOf_n2) (fun (t : Unit) => (Exit.normal, (⟨mkE 51 0 [(3, .dat (.int .i64) 0), (4, .slc 0), (5, .dat (.int .i64) 0)], [some (.seq (.list (.int .i64)) x3654)]⟩ : St))) := by
  refine Link.of fun K h => ?_
  simp only [spec_CrossingsOf_n2, wpO_bind, wpO_cond, wpO_map, wpO_some] at h
  exact Awp.of (by kernel_rfl) h

theorem spec_CrossingsOf_n3_l (x3821 : Int) (x3822 : Int) (x3654 : List (List Int)) : Link spec_CrossingsOf_ctx LL (Code.fst (Code.fst (Code.fst (Code.snd (Code.fst (Code.snd (Code.snd (Code.snd (Code.snd (bodyOf Tryd.f39)))))))))) (Ann.fst (Ann.fst (Ann.fst (Ann.snd (Ann.fst (Ann.snd (Ann.snd (Ann.snd (Ann.snd spec_CrossingsOf_an))))))))) (⟨mkE 51 0 [(3, .dat (.int .i64) x3821), (4, .slc 0), (5, .dat (.int .i64) x3822)], [some (.seq (.list (.int .i64)) x3654)]⟩ : St) (spec_CrossingsOf_n3 x3821 x3822 x3654) (Sum.elim (fun (t : Unit) => (Exit.normal, (⟨mkE 51 0 [(3, .dat (.int .i64) x3821), (4, .slc 0), (5, .dat (.int .i64) x3822)], [some (.seq (.list (.int .i64)) x3654)]⟩ : St))) (fun (t : Int) => ((Exit.exit 0), (⟨mkE 51 0 [(3, .dat (.int .i64) t)], []⟩ : St)))) := by
  refine Link.of fun K h => ?_
  simp only [spec_CrossingsOf_n3, wpO_bind, wpO_cond, wpO_map, wpO_some] at h
  exact Awp.of (by kernel_rfl) h

theorem spec_CrossingsOf_n4_l (x3821 : Int) (x3822 : Int) (x3654 : List (List Int)) : Link spec_CrossingsOf_ctx LL (Code.fst (Code.fst (Code.fst (Code.snd (Code.fst (Code.fst (Code.snd (Code.fst (Code.snd (Code.snd (Code.snd (Code.snd (bodyOf Tryd.f39))))))))))))) (Ann.fst (Ann.fst (Ann.fst (Ann.snd (Ann.fst (Ann.fst (Ann.snd (Ann.fst (Ann.snd (Ann.snd (Ann.snd (Ann.snd spec_CrossingsOf_an)))))))))))) (⟨mkE 51 0 [(3, .dat (.int .i64) x3821), (4, .slc 0), (5, .dat (.int .i64) x3822)], [some (.seq (.list (.int .i64)) x3654)]⟩ : St) (spec_CrossingsOf_n4) (fun (t : Unit) => (Exit.normal, (⟨mkE 51 0 [(3, .dat (.int .i64) x3821), (4, .slc 0), (5, .dat (.int .i64) x3822), (6, .dat (.int .i64) 0)], [some (.seq (.list (.int .i64)) x3654)]⟩ : St))) := by
  refine Link.of fun K h => ?_
  simp only [spec_CrossingsOf_n4, wpO_bind, wpO_cond, wpO_map, wpO_some] at h
  exact Awp.of (by kernel_rfl) h

theorem spec_CrossingsOf_n5_l (x3860 : Int) (x3822 : Int) (x3861 : Int) (x3654 : List (List Int)) : Link spec_CrossingsOf_ctx LL (Code.fst (Code.fst (Code.snd (Code.fst (Code.fst (Code.snd (Code.fst (Code.fst (Code.snd (Code.fst (Code.snd (Code.snd (Code.snd (Code.snd (bodyOf Tryd.f39))))))))))))))) (Ann.fst (Ann.fst (Ann.snd (Ann.fst (Ann.fst (Ann.snd (Ann.fst (Ann.fst (Ann.snd (Ann.fst (Ann.snd (Ann.snd (Ann.snd (Ann.snd spec_CrossingsOf_an)))))))))))))) (⟨mkE 51 0 [(3, .dat (.int .i64) x3860), (4, .slc 0), (5, .dat (.int .i64) x3822), (6, .dat (.int .i64) x3861)], [some (.seq (.list (.int .i64)) x3654)]⟩ : St) (spec_CrossingsOf_n5 x3860 x3822 x3861 x3654) (Sum.elim (fun (t : Int × Int) => (Exit.normal, (⟨mkE 51 0 [(3, .dat (.int .i64) t.1), (4, .slc 0), (5, .dat (.int .i64) x3822), (6, .dat (.int .i64) t.2)], [some (.seq (.list (.int .i64)) x3654)]⟩ : St))) (fun (t : Int) => ((Exit.exit 2), (⟨mkE 51 0 [(3, .dat (.int .i64) t), (4, .slc 0), (5, .dat (.int .i64) x3822)], [some (.seq (.list (.int .i64)) x3654)]⟩ : St)))) := by
  refine Link.of fun K h => ?_
  simp only [spec_CrossingsOf_n5, wpO_bind, wpO_cond, wpO_map, wpO_some] at h
  exact Awp.of (by kernel_rfl) h

theorem spec_CrossingsOf_n6_l (x3821 : Int) (x3822 : Int) (x3654 : List (List Int)) : Link spec_CrossingsOf_ctx LL (Code.fst (Code.snd (Code.fst (Code.fst (Code.snd (Code.fst (Code.fst (Code.snd (Code.fst (Code.snd (Code.snd (Code.snd (Code.snd (bodyOf Tryd.f39)))))))))))))) (Ann.fst (Ann.snd (Ann.fst (Ann.fst (Ann.snd (Ann.fst (Ann.fst (Ann.snd (Ann.fst (Ann.snd (Ann.snd (Ann.snd (Ann.snd spec_CrossingsOf_an))))))))))))) (⟨mkE 51 0 [(3, .dat (.int .i64) x3821), (4, .slc 0), (5, .dat (.int .i64) x3822), (6, .dat (.int .i64) 0)], [some (.seq (.list (.int .i64)) x3654)]⟩ : St) (spec_CrossingsOf_n6 x3821 x3822 x3654) (fun (t : Int) => ((Exit.exit 2), (⟨mkE 51 0 [(3, .dat (.int .i64) t), (4, .slc 0), (5, .dat (.int .i64) x3822)], [some (.seq (.list (.int .i64)) x3654)]⟩ : St))) := by
  unfold spec_CrossingsOf_n6
  exact Link.cast (by kernel_rfl) (by kernel_rfl) (link_loop (mk := fun (s : Int × Int) => (⟨mkE 51 0 [(3, .dat (.int .i64) s.1), (4, .slc 0), (5, .dat (.int .i64) x3822), (6, .dat (.int .i64) s.2)], [some (.seq (.list (.int .i64)) x3654)]⟩ : St)) (fin := (fun (t : Int) => ((Exit.exit 2), (⟨mkE 51 0 [(3, .dat (.int .i64) t), (4, .slc 0), (5, .dat (.int .i64) x3822)], [some (.seq (.list (.int .i64)) x3654)]⟩ : St)))) (by
  rintro t f K h
  · exact h) (fun s => link_map (spec_CrossingsOf_n5_l s.1 x3822 s.2 x3654) (Sum.elim (fun (t : Int × Int) => Sum.inl (t.1, t.2)) (fun (t : Int) => Sum.inr t)) (by
  rintro (t | t)
  · kernel_rfl
  · kernel_rfl)) (x3821, 0))

theorem spec_CrossingsOf_n7_l (x3821 : Int) (x3822 : Int) (x3654 : List (List Int)) : Link spec_CrossingsOf_ctx LL (Code.snd (Code.fst (Code.fst (Code.snd (Code.fst (Code.fst (Code.snd (Code.fst (Code.snd (Code.snd (Code.snd (Code.snd (bodyOf Tryd.f39))))))))))))) (Ann.snd (Ann.fst (Ann.fst (Ann.snd (Ann.fst (Ann.fst (Ann.snd (Ann.fst (Ann.snd (Ann.snd (Ann.snd (Ann.snd spec_CrossingsOf_an)))))))))))) (⟨mkE 51 0 [(3, .dat (.int .i64) x3821), (4, .slc 0), (5, .dat (.int .i64) x3822), (6, .dat (.int .i64) 0)], [some (.seq (.list (.int .i64)) x3654)]⟩ : St) (spec_CrossingsOf_n7 x3821 x3822 x3654) (fun (t : Int) => (Exit.normal, (⟨mkE 51 0 [(3, .dat (.int .i64) t), (4, .slc 0), (5, .dat (.int .i64) x3822)], [some (.seq (.list (.int .i64)) x3654)]⟩ : St))) := by
  unfold spec_CrossingsOf_n7
  exact Link.cast (by kernel_rfl) (by kernel_rfl) (link_block (id := 2) (spec_CrossingsOf_n6_l x3821 x3822 x3654) (fun (t : Int) => t) (by
  rintro t K h
  · exact Eq.mp (by kernel_rfl) h))

theorem spec_CrossingsOf_n8_l (x3821 : Int) (x3822 : Int) (x3654 : List (List Int)) : Link spec_CrossingsOf_ctx LL (Code.fst (Code.fst (Code.snd (Code.fst (Code.fst (Code.snd (Code.fst (Code.snd (Code.snd (Code.snd (Code.snd (bodyOf Tryd.f39)))))))))))) (Ann.fst (Ann.fst (Ann.snd (Ann.fst (Ann.fst (Ann.snd (Ann.fst (Ann.snd (Ann.snd (Ann.snd (Ann.snd spec_CrossingsOf_an))))))))))) (⟨mkE 51 0 [(3, .dat (.int .i64) x3821), (4, .slc 0), (5, .dat (.int .i64) x3822)], [some (.seq (.list (.int .i64)) x3654)]⟩ : St) (spec_CrossingsOf_n8 x3821 x3822 x3654) (fun (t : Int) => (Exit.normal, (⟨mkE 51 0 [(3, .dat (.int .i64) t), (4, .slc 0), (5, .dat (.int .i64) x3822)], [some (.seq (.list (.int .i64)) x3654)]⟩ : St))) := by
  unfold spec_CrossingsOf_n8
  exact Link.cast (by kernel_rfl) (by kernel_rfl) (link_seq (b := (Code.snd (Code.fst (Code.fst (Code.snd (Code.fst (Code.fst (Code.snd (Code.fst (Code.snd (Code.snd (Code.snd (Code.snd (bodyOf Tryd.f39)))))))))))))) (y := (Ann.snd (Ann.fst (Ann.fst (Ann.snd (Ann.fst (Ann.fst (Ann.snd (Ann.fst (Ann.snd (Ann.snd (Ann.snd (Ann.snd spec_CrossingsOf_an))))))))))))) (spec_CrossingsOf_n4_l x3821 x3822 x3654) (fun (t : Unit) => (spec_CrossingsOf_n7_l x3821 x3822 x3654)))

theorem spec_CrossingsOf_n9_l (x3821 : Int) (x3822 : Int) (x3654 : List (List Int)) : Link spec_CrossingsOf_ctx LL (Code.fst (Code.snd (Code.fst (Code.fst (Code.snd (Code.fst (Code.snd (Code.snd (Code.snd (Code.snd (bodyOf Tryd.f39))))))))))) (Ann.fst (Ann.snd (Ann.fst (Ann.fst (Ann.snd (Ann.fst (Ann.snd (Ann.snd (Ann.snd (Ann.snd spec_CrossingsOf_an)))))))))) (⟨mkE 51 0 [(3, .dat (.int .i64) x3821), (4, .slc 0), (5, .dat (.int .i64) x3822)], [some (.seq (.list (.int .i64)) x3654)]⟩ : St) (spec_CrossingsOf_n9 x3821 x3822 x3654) (fun (t : Int) => (Exit.normal, (⟨mkE 51 0 [(3, .dat (.int .i64) t), (4, .slc 0), (5, .dat (.int .i64) x3822)], [some (.seq (.list (.int .i64)) x3654)]⟩ : St))) := by
  unfold spec_CrossingsOf_n9
  exact Link.cast (by kernel_rfl) (by kernel_rfl) (link_block (id := 1) (spec_CrossingsOf_n8_l x3821 x3822 x3654) (fun (t : Int) => t) (by
  rintro t K h
  · exact Eq.mp (by kernel_rfl) h))

theorem spec_CrossingsOf_n10_l (x3860 : Int) (x3822 : Int) (x3654 : List (List Int)) : Link spec_CrossingsOf_ctx LL (Code.snd (Code.snd (Code.fst (Code.fst (Code.snd (Code.fst (Code.snd (Code.snd (Code.snd (Code.snd (bodyOf Tryd.f39))))))))))) (Ann.snd (Ann.snd (Ann.fst (Ann.fst (Ann.snd (Ann.fst (Ann.snd (Ann.snd (Ann.snd (Ann.snd spec_CrossingsOf_an)))))))))) (⟨mkE 51 0 [(3, .dat (.int .i64) x3860), (4, .slc 0), (5, .dat (.int .i64) x3822)], [some (.seq (.list (.int .i64)) x3654)]⟩ : St) (spec_CrossingsOf_n10 x3822) (fun (t : Int) => (Exit.normal, (⟨mkE 51 0 [(3, .dat (.int .i64) x3860), (4, .slc 0), (5, .dat (.int .i64) t)], [some (.seq (.list (.int .i64)) x3654)]⟩ : St))) := by
  refine Link.of fun K h => ?_
  simp only [spec_CrossingsOf_n10, wpO_bind, wpO_cond, wpO_map, wpO_some] at h
  exact Awp.of (by kernel_rfl) h

theorem spec_CrossingsOf_n11_l (x3821 : Int) (x3822 : Int) (x3654 : List (List Int)) : Link spec_CrossingsOf_ctx LL (Code.snd (Code.fst (Code.fst (Code.snd (Code.fst (Code.snd (Code.snd (Code.snd (Code.snd (bodyOf Tryd.f39)))))))))) (Ann.snd (Ann.fst (Ann.fst (Ann.snd (Ann.fst (Ann.snd (Ann.snd (Ann.snd (Ann.snd spec_CrossingsOf_an))))))))) (⟨mkE 51 0 [(3, .dat (.int .i64) x3821), (4, .slc 0), (5, .dat (.int .i64) x3822)], [some (.seq (.list (.int .i64)) x3654)]⟩ : St) (spec_CrossingsOf_n11 x3821 x3822 x3654) (fun (t : Int × Int) => (Exit.normal, (⟨mkE 51 0 [(3, .dat (.int .i64) t.1), (4, .slc 0), (5, .dat (.int .i64) t.2)], [some (.seq (.list (.int .i64)) x3654)]⟩ : St))) := by
  unfold spec_CrossingsOf_n11
  exact Link.cast (by kernel_rfl) (by kernel_rfl) (link_seq (b := (Code.snd (Code.snd (Code.fst (Code.fst (Code.snd (Code.fst (Code.snd (Code.snd (Code.snd (Code.snd (bodyOf Tryd.f39)))))))))))) (y := (Ann.snd (Ann.snd (Ann.fst (Ann.fst (Ann.snd (Ann.fst (Ann.snd (Ann.snd (Ann.snd (Ann.snd spec_CrossingsOf_an))))))))))) (spec_CrossingsOf_n9_l x3821 x3822 x3654) (fun (t : Int) => (link_map (spec_CrossingsOf_n10_l t x3822 x3654) (fun (u : Int) => (t, u)) (by
  rintro t
  · kernel_rfl))))

theorem spec_CrossingsOf_n12_l (x3821 : Int) (x3822 : Int) (x3654 : List (List Int)) : Link spec_CrossingsOf_ctx LL (Code.fst (Code.fst (Code.snd (Code.fst (Code.snd (Code.snd (Code.snd (Code.snd (bodyOf Tryd.f39))))))))) (Ann.fst (Ann.fst (Ann.snd (Ann.fst (Ann.snd (Ann.snd (Ann.snd (Ann.snd spec_CrossingsOf_an)))))))) (⟨mkE 51 0 [(3, .dat (.int .i64) x3821), (4, .slc 0), (5, .dat (.int .i64) x3822)], [some (.seq (.list (.int .i64)) x3654)]⟩ : St) (spec_CrossingsOf_n12 x3821 x3822 x3654) (Sum.elim (fun (t : Int × Int) => (Exit.normal, (⟨mkE 51 0 [(3, .dat (.int .i64) t.1), (4, .slc 0), (5, .dat (.int .i64) t.2)], [some (.seq (.list (.int .i64)) x3654)]⟩ : St))) (fun (t : Int) => ((Exit.exit 0), (⟨mkE 51 0 [(3, .dat (.int .i64) t)], []⟩ : St)))) := by
  unfold spec_CrossingsOf_n12
  exact Link.cast (by kernel_rfl) (by kernel_rfl) (link_seq2 (b := (Code.snd (Code.fst (Code.fst (Code.snd (Code.fst (Code.snd (Code.snd (Code.snd (Code.snd (bodyOf Tryd.f39))))))))))) (y := (Ann.snd (Ann.fst (Ann.fst (Ann.snd (Ann.fst (Ann.snd (Ann.snd (Ann.snd (Ann.snd spec_CrossingsOf_an)))))))))) (spec_CrossingsOf_n3_l x3821 x3822 x3654) (fun (t : Unit) => (link_map (spec_CrossingsOf_n11_l x3821 x3822 x3654) (fun (t : Int × Int) => (Sum.inl (t.1, t.2))) (by
  rintro t
  · kernel_rfl))) (fun (t : Int) => (Sum.inr t)) (by
  rintro t
  · kernel_rfl) (by
  rintro t f K h
  · exact h))

theorem spec_CrossingsOf_n13_l (x3654 : List (List Int)) : Link spec_CrossingsOf_ctx LL (Code.fst (Code.snd (Code.fst (Code.snd (Code.snd (Code.snd (Code.snd (bodyOf Tryd.f39)))))))) (Ann.fst (Ann.snd (Ann.fst (Ann.snd (Ann.snd (Ann.snd (Ann.snd spec_CrossingsOf_an))))))) (⟨mkE 51 0 [(3, .dat (.int .i64) 0), (4, .slc 0), (5, .dat (.int .i64) 0)], [some (.seq (.list (.int .i64)) x3654)]⟩ : St) (spec_CrossingsOf_n13 x3654) (fun (t : Int) => ((Exit.exit 0), (⟨mkE 51 0 [(3, .dat (.int .i64) t)], []⟩ : St))) := by
  unfold spec_CrossingsOf_n13
  exact Link.cast (by kernel_rfl) (by kernel_rfl) (link_loop (mk := fun (s : Int × Int) => (⟨mkE 51 0 [(3, .dat (.int .i64) s.1), (4, .slc 0), (5, .dat (.int .i64) s.2)], [some (.seq (.list (.int .i64)) x3654)]⟩ : St)) (fin := (fun (t : Int) => ((Exit.exit 0), (⟨mkE 51 0 [(3, .dat (.int .i64) t)], []⟩ : St)))) (by
  rintro t f K h
  · exact h) (fun s => link_map (spec_CrossingsOf_n12_l s.1 s.2 x3654) (Sum.elim (fun (t : Int × Int) => Sum.inl (t.1, t.2)) (fun (t : Int) => Sum.inr t)) (by
  rintro (t | t)
  · kernel_rfl
  · kernel_rfl)) (0, 0))

theorem spec_CrossingsOf_n14_l (x3654 : List (List Int)) : Link spec_CrossingsOf_ctx LL (Code.snd (Code.fst (Code.snd (Code.snd (Code.snd (Code.snd (bodyOf Tryd.f39))))))) (Ann.snd (Ann.fst (Ann.snd (Ann.snd (Ann.snd (Ann.snd spec_CrossingsOf_an)))))) (⟨mkE 51 0 [(3, .dat (.int .i64) 0), (4, .slc 0), (5, .dat (.int .i64) 0)], [some (.seq (.list (.int .i64)) x3654)]⟩ : St) (spec_CrossingsOf_n14 x3654) (fun (t : Int) => (Exit.normal, (⟨mkE 51 0 [(3, .dat (.int .i64) t)], []⟩ : St))) := by
  unfold spec_CrossingsOf_n14
  exact Link.cast (by kernel_rfl) (by kernel_rfl) (link_block (id := 0) (spec_CrossingsOf_n13_l x3654) (fun (t : Int) => t) (by
  rintro t K h
  · exact Eq.mp (by kernel_rfl) h))

theorem spec_CrossingsOf_n15_l (x3654 : List (List Int)) : Link spec_CrossingsOf_ctx LL (Code.fst (Code.snd (Code.snd (Code.snd (Code.snd (bodyOf Tryd.f39)))))) (Ann.fst (Ann.snd (Ann.snd (Ann.snd (Ann.snd spec_CrossingsOf_an))))) (⟨mkE 51 0 [(3, .dat (.int .i64) 0), (4, .slc 0)], [some (.seq (.list (.int .i64)) x3654)]⟩ : St) (spec_CrossingsOf_n15 x3654) (fun (t : Int) => (Exit.normal, (⟨mkE 51 0 [(3, .dat (.int .i64) t)], []⟩ : St))) := by
  unfold spec_CrossingsOf_n15
  exact Link.cast (by kernel_rfl) (by kernel_rfl) (link_seq (b := (Code.snd (Code.fst (Code.snd (Code.snd (Code.snd (Code.snd (bodyOf Tryd.f39)))))))) (y := (Ann.snd (Ann.fst (Ann.snd (Ann.snd (Ann.snd (Ann.snd spec_CrossingsOf_an))))))) (spec_CrossingsOf_n2_l x3654) (fun (t : Unit) => (spec_CrossingsOf_n14_l x3654)))

theorem spec_CrossingsOf_n16_l (x3821 : Int) : Link spec_CrossingsOf_ctx LL (Code.snd (Code.snd (Code.snd (Code.snd (Code.snd (bodyOf Tryd.f39)))))) (Ann.snd (Ann.snd (Ann.snd (Ann.snd (Ann.snd spec_CrossingsOf_an))))) (⟨mkE 51 0 [(3, .dat (.int .i64) x3821)], []⟩ : St) (spec_CrossingsOf_n16 x3821) (fun (t : Int) => (Exit.ret, (⟨mkE 51 0 [(2, .dat (.int .i64) t)], []⟩ : St))) := by
  refine Link.of fun K h => ?_
  simp only [spec_CrossingsOf_n16, wpO_bind, wpO_cond, wpO_map, wpO_some] at h
  exact Awp.of (by kernel_rfl) h

theorem spec_CrossingsOf_n17_l (x3654 : List (List Int)) : Link spec_CrossingsOf_ctx LL (Code.snd (Code.snd (Code.snd (Code.snd (bodyOf Tryd.f39))))) (Ann.snd (Ann.snd (Ann.snd (Ann.snd spec_CrossingsOf_an)))) (⟨mkE 51 0 [(3, .dat (.int .i64) 0), (4, .slc 0)], [some (.seq (.list (.int .i64)) x3654)]⟩ : St) (spec_CrossingsOf_n17 x3654) (fun (t : Int) => (Exit.ret, (⟨mkE 51 0 [(2, .dat (.int .i64) t)], []⟩ : St))) := by
  unfold spec_CrossingsOf_n17
  exact Link.cast (by kernel_rfl) (by kernel_rfl) (link_seq (b := (Code.snd (Code.snd (Code.snd (Code.snd (Code.snd (bodyOf Tryd.f39))))))) (y := (Ann.snd (Ann.snd (Ann.snd (Ann.snd (Ann.snd spec_CrossingsOf_an)))))) (spec_CrossingsOf_n15_l x3654) (fun (t : Int) => (spec_CrossingsOf_n16_l t)))

theorem spec_CrossingsOf_n18_l (x3558 : List Int) : Link spec_CrossingsOf_ctx LL (bodyOf Tryd.f39) spec_CrossingsOf_an (⟨mkE 51 0 [(0, .dat (.list (.int .i64)) x3558)], []⟩ : St) (spec_CrossingsOf_n18 x3558) (fun (t : Int) => (Exit.ret, (⟨mkE 51 0 [(2, .dat (.int .i64) t)], []⟩ : St))) := by
  unfold spec_CrossingsOf_n18
  exact Link.cast (by kernel_rfl) (by kernel_rfl) (link_group (c := (Code.fst (Code.snd (Code.snd (Code.snd (bodyOf Tryd.f39)))))) (a := (Ann.fst (Ann.snd (Ann.snd (Ann.snd spec_CrossingsOf_an))))) [(Code.fst (bodyOf Tryd.f39)), (Code.fst (Code.snd (bodyOf Tryd.f39))), (Code.fst (Code.snd (Code.snd (bodyOf Tryd.f39))))] [(Ann.fst spec_CrossingsOf_an), (Ann.fst (Ann.snd spec_CrossingsOf_an)), (Ann.fst (Ann.snd (Ann.snd spec_CrossingsOf_an)))] rfl (link_seq2 (b := (Code.snd (Code.snd (Code.snd (Code.snd (bodyOf Tryd.f39)))))) (y := (Ann.snd (Ann.snd (Ann.snd (Ann.snd spec_CrossingsOf_an))))) (spec_CrossingsOf_n1_l x3558) (fun (t : (List (List Int))) => (spec_CrossingsOf_n17_l t)) (fun (t : Int) => t) (by
  rintro t
  · kernel_rfl) (by
  rintro t f K h
  · exact h)))

theorem spec_CrossingsOf_e (x3558 : List Int) {r : AV} {H' : Heap} (h : (Ans.mk _ (spec_CrossingsOf x3558) (fun (t : Int) => (.dat (.int .i64) t, []))).run = some (r, H')) : Awp spec_CrossingsOf_ctx LL (bodyOf Tryd.f39) spec_CrossingsOf_an (⟨mkE 51 0 [(0, .dat (.list (.int .i64)) x3558)], []⟩ : St) (Ret (tlook tys) Tryd.f39.results.toList r H') :=
  ret_of' (spec_CrossingsOf_n18_l x3558) (by unfold spec_CrossingsOf; kernel_rfl) (by
  intro t
  exact ret_mk [.dat (.int .i64) t] (by kernel_rfl) (by kernel_rfl) (by kernel_rfl) (by kernel_rfl)) h

def F_spec_CrossingsOf : Fun := fun avs H =>
  match avs, H with
  | [.dat (.list (.int .i64)) x3558], [] => ⟨_, spec_CrossingsOf x3558, fun (t : Int) => (.dat (.int .i64) t, [])⟩
  | _, _ => Ans.no

theorem spec_CrossingsOf_sound : Sound Tryd.prog 39 F_spec_CrossingsOf := by
  refine fn_sound' (C := spec_CrossingsOf_ctx) (c := bodyOf Tryd.f39) (cok_of tys_ok (List.forall_mem_cons.2 ⟨spec_TreeOk_sound, List.forall_mem_cons.2 ⟨spec_l3Arcs_sound, List.forall_mem_cons.2 ⟨spec_CrossOk_sound, by simp⟩⟩⟩) (List.forall_mem_cons.2 ⟨Tryd.call27, List.forall_mem_cons.2 ⟨Tryd.call72, List.forall_mem_cons.2 ⟨Tryd.call73, by simp⟩⟩⟩) (by kernel_rfl)) Tryd.func39 (by kernel_rfl) LL spec_CrossingsOf_an ?_
  intro avs H r H' h
  unfold F_spec_CrossingsOf at h
  split at h
  · refine Awp.cast ?_ ?_ ?_ (spec_CrossingsOf_e _ h) <;> kernel_rfl
  · simp [Ans.no, Ans.run] at h


/-! loop.example/headtrees/impl.lastToFirst -/

def impl_lastToFirst_an : Ann := (.seq (.leaf [0]) (.seq (.leaf [0, 3]) (.seq (.seq (.leaf [0, 3, 8, 9]) (.block (.loop (.seq (.leaf [0, 3, 8, 9, 10]) (.seq (.cond (.leaf [0, 3, 8, 9]) (.leaf [3])) (.seq (.block (.seq (.leaf [0, 3, 4, 8, 9]) (.leaf [0, 3, 8, 9]))) (.leaf [0, 3, 8, 9]))))))) (.seq (.leaf [2]) (.leaf [2])))))

noncomputable def impl_lastToFirst_ctx : Ctx := ⟨tlook tys, olook [], ioF, 0⟩

theorem impl_lastToFirst_n1_l (x3930 : Int) : Link impl_lastToFirst_ctx LL (Code.seq (Code.fst (bodyOf Tryd.f78)) (Code.fst (Code.snd (bodyOf Tryd.f78)))) (Ann.seq (Ann.fst impl_lastToFirst_an) (Ann.fst (Ann.snd impl_lastToFirst_an))) (⟨mkE 20 0 [(0, .dat (.int .i64) x3930)], []⟩ : St) (impl_lastToFirst_n1 x3930) (fun (t : (List Int)) => (Exit.normal, (⟨mkE 20 0 [(0, .dat (.int .i64) x3930), (3, .slc 0)], [some (.seq (.int .i64) t)]⟩ : St))) := by
  refine Link.of fun K h => ?_
  simp only [impl_lastToFirst_n1, wpO_bind, wpO_cond, wpO_map, wpO_some] at h
  exact Awp.of (by kernel_rfl) h

theorem impl_lastToFirst_n2_l (x3930 : Int) (x3932 : List Int) : Link impl_lastToFirst_ctx LL (Code.fst (Code.fst (Code.snd (Code.snd (bodyOf Tryd.f78))))) (Ann.fst (Ann.fst (Ann.snd (Ann.snd impl_lastToFirst_an)))) (⟨mkE 20 0 [(0, .dat (.int .i64) x3930), (3, .slc 0)], [some (.seq (.int .i64) x3932)]⟩ : St) (impl_lastToFirst_n2 x3932) (fun (t : Int) => (Exit.normal, (⟨mkE 20 0 [(0, .dat (.int .i64) x3930), (3, .slc 0), (8, .dat (.int .i64) t), (9, .dat (.int .i64) 0)], [some (.seq (.int .i64) x3932)]⟩ : St))) := by
  refine Link.of fun K h => ?_
  simp only [impl_lastToFirst_n2, wpO_bind, wpO_cond, wpO_map, wpO_some] at h
  exact Awp.of (by kernel_rfl) h

theorem impl_lastToFirst_n3_l (x3930 : Int) (x3933 : Int) (x3945 : Int) (x3946 : List Int) : Link impl_lastToFirst_ctx LL (Code.fst (Code.fst (Code.snd (Code.fst (Code.snd (Code.snd (bodyOf Tryd.f78))))))) (Ann.fst (Ann.fst (Ann.snd (Ann.fst (Ann.snd (Ann.snd impl_lastToFirst_an)))))) (⟨mkE 20 0 [(0, .dat (.int .i64) x3930), (3, .slc 0), (8, .dat (.int .i64) x3933), (9, .dat (.int .i64) x3945)], [some (.seq (.int .i64) x3946)]⟩ : St) (impl_lastToFirst_n3 x3930 x3933 x3945 x3946) (Sum.elim (fun (t : Int × (List Int)) => (Exit.normal, (⟨mkE 20 0 [(0, .dat (.int .i64) x3930), (3, .slc 0), (8, .dat (.int .i64) x3933), (9, .dat (.int .i64) t.1)], [some (.seq (.int .i64) t.2)]⟩ : St))) (fun (t : (List Int)) => ((Exit.exit 0), (⟨mkE 20 0 [(3, .slc 0)], [some (.seq (.int .i64) t)]⟩ : St)))) := by
  refine Link.of fun K h => ?_
  simp only [impl_lastToFirst_n3, wpO_bind, wpO_cond, wpO_map, wpO_some] at h
  exact Awp.of (by kernel_rfl) h

theorem impl_lastToFirst_n4_l (x3930 : Int) (x3933 : Int) (x3932 : List Int) : Link impl_lastToFirst_ctx LL (Code.fst (Code.snd (Code.fst (Code.snd (Code.snd (bodyOf Tryd.f78)))))) (Ann.fst (Ann.snd (Ann.fst (Ann.snd (Ann.snd impl_lastToFirst_an))))) (⟨mkE 20 0 [(0, .dat (.int .i64) x3930), (3, .slc 0), (8, .dat (.int .i64) x3933), (9, .dat (.int .i64) 0)], [some (.seq (.int .i64) x3932)]⟩ : St) (impl_lastToFirst_n4 x3930 x3933 x3932) (fun (t : (List Int)) => ((Exit.exit 0), (⟨mkE 20 0 [(3, .slc 0)], [some (.seq (.int .i64) t)]⟩ : St))) := by
  unfold impl_lastToFirst_n4
  exact Link.cast (by kernel_rfl) (by kernel_rfl) (link_loop (mk := fun (s : Int × (List Int)) => (⟨mkE 20 0 [(0, .dat (.int .i64) x3930), (3, .slc 0), (8, .dat (.int .i64) x3933), (9, .dat (.int .i64) s.1)], [some (.seq (.int .i64) s.2)]⟩ : St)) (fin := (fun (t : (List Int)) => ((Exit.exit 0), (⟨mkE 20 0 [(3, .slc 0)], [some (.seq (.int .i64) t)]⟩ : St)))) (by
  rintro t f K h
  · exact h) (fun s => link_map (impl_lastToFirst_n3_l x3930 x3933 s.1 s.2) (Sum.elim (fun (t : Int × (List Int)) => Sum.inl (t.1, t.2)) (fun (t : (List Int)) => Sum.inr t)) (by
  rintro (t | t)
  · kernel_rfl
  · kernel_rfl)) (0, x3932))

theorem impl_lastToFirst_n5_l (x3930 : Int) (x3933 : Int) (x3932 : List Int) : Link impl_lastToFirst_ctx LL (Code.snd (Code.fst (Code.snd (Code.snd (bodyOf Tryd.f78))))) (Ann.snd (Ann.fst (Ann.snd (Ann.snd impl_lastToFirst_an)))) (⟨mkE 20 0 [(0, .dat (.int .i64) x3930), (3, .slc 0), (8, .dat (.int .i64) x3933), (9, .dat (.int .i64) 0)], [some (.seq (.int .i64) x3932)]⟩ : St) (impl_lastToFirst_n5 x3930 x3933 x3932) (fun (t : (List Int)) => (Exit.normal, (⟨mkE 20 0 [(3, .slc 0)], [some (.seq (.int .i64) t)]⟩ : St))) := by
  unfold impl_lastToFirst_n5
  exact Link.cast (by kernel_rfl) (by kernel_rfl) (link_block (id := 0) (impl_lastToFirst_n4_l x3930 x3933 x3932) (fun (t : (List Int)) => t) (by
  rintro t K h
  · exact Eq.mp (by kernel_rfl) h))

theorem impl_lastToFirst_n6_l (x3930 : Int) (x3932 : List Int) : Link impl_lastToFirst_ctx LL (Code.fst (Code.snd (Code.snd (bodyOf Tryd.f78)))) (Ann.fst (Ann.snd (Ann.snd impl_lastToFirst_an))) (⟨mkE 20 0 [(0, .dat (.int .i64) x3930), (3, .slc 0)], [some (.seq (.int .i64) x3932)]⟩ : St) (impl_lastToFirst_n6 x3930 x3932) (fun (t : (List Int)) => (Exit.normal, (⟨mkE 20 0 [(3, .slc 0)], [some (.seq (.int .i64) t)]⟩ : St))) := by
  unfold impl_lastToFirst_n6
  exact Link.cast (by kernel_rfl) (by kernel_rfl) (link_seq (b := (Code.snd (Code.fst (Code.snd (Code.snd (bodyOf Tryd.f78)))))) (y := (Ann.snd (Ann.fst (Ann.snd (Ann.snd impl_lastToFirst_an))))) (impl_lastToFirst_n2_l x3930 x3932) (fun (t : Int) => (impl_lastToFirst_n5_l x3930 t x3932)))

theorem impl_lastToFirst_n7_l (x3946 : List Int) : Link impl_lastToFirst_ctx LL (Code.snd (Code.snd (Code.snd (bodyOf Tryd.f78)))) (Ann.snd (Ann.snd (Ann.snd impl_lastToFirst_an))) (⟨mkE 20 0 [(3, .slc 0)], [some (.seq (.int .i64) x3946)]⟩ : St) (impl_lastToFirst_n7 x3946) (fun (t : (List Int)) => (Exit.ret, (⟨mkE 20 0 [(2, .slc 0)], [some (.seq (.int .i64) t)]⟩ : St))) := by
  refine Link.of fun K h => ?_
  simp only [impl_lastToFirst_n7, wpO_bind, wpO_cond, wpO_map, wpO_some] at h
  exact Awp.of (by kernel_rfl) h

theorem impl_lastToFirst_n8_l (x3930 : Int) (x3932 : List Int) : Link impl_lastToFirst_ctx LL (Code.snd (Code.snd (bodyOf Tryd.f78))) (Ann.snd (Ann.snd impl_lastToFirst_an)) (⟨mkE 20 0 [(0, .dat (.int .i64) x3930), (3, .slc 0)], [some (.seq (.int .i64) x3932)]⟩ : St) (impl_lastToFirst_n8 x3930 x3932) (fun (t : (List Int)) => (Exit.ret, (⟨mkE 20 0 [(2, .slc 0)], [some (.seq (.int .i64) t)]⟩ : St))) := by
  unfold impl_lastToFirst_n8
  exact Link.cast (by kernel_rfl) (by kernel_rfl) (link_seq (b := (Code.snd (Code.snd (Code.snd (bodyOf Tryd.f78))))) (y := (Ann.snd (Ann.snd (Ann.snd impl_lastToFirst_an)))) (impl_lastToFirst_n6_l x3930 x3932) (fun (t : (List Int)) => (impl_lastToFirst_n7_l t)))

theorem impl_lastToFirst_n9_l (x3930 : Int) : Link impl_lastToFirst_ctx LL (bodyOf Tryd.f78) impl_lastToFirst_an (⟨mkE 20 0 [(0, .dat (.int .i64) x3930)], []⟩ : St) (impl_lastToFirst_n9 x3930) (fun (t : (List Int)) => (Exit.ret, (⟨mkE 20 0 [(2, .slc 0)], [some (.seq (.int .i64) t)]⟩ : St))) := by
  unfold impl_lastToFirst_n9
  exact Link.cast (by kernel_rfl) (by kernel_rfl) (link_group (c := (Code.fst (Code.snd (bodyOf Tryd.f78)))) (a := (Ann.fst (Ann.snd impl_lastToFirst_an))) [(Code.fst (bodyOf Tryd.f78))] [(Ann.fst impl_lastToFirst_an)] rfl (link_seq (b := (Code.snd (Code.snd (bodyOf Tryd.f78)))) (y := (Ann.snd (Ann.snd impl_lastToFirst_an))) (impl_lastToFirst_n1_l x3930) (fun (t : (List Int)) => (impl_lastToFirst_n8_l x3930 t))))

theorem impl_lastToFirst_e (x3930 : Int) {r : AV} {H' : Heap} (h : (Ans.mk _ (impl_lastToFirst x3930) (fun (t : (List Int)) => (.slc 0, [some (.seq (.int .i64) t)]))).run = some (r, H')) : Awp impl_lastToFirst_ctx LL (bodyOf Tryd.f78) impl_lastToFirst_an (⟨mkE 20 0 [(0, .dat (.int .i64) x3930)], []⟩ : St) (Ret (tlook tys) Tryd.f78.results.toList r H') :=
  ret_of' (impl_lastToFirst_n9_l x3930) (by unfold impl_lastToFirst; kernel_rfl) (by
  intro t
  exact ret_mk [.slc 0] (by kernel_rfl) (by kernel_rfl) (by kernel_rfl) (by kernel_rfl)) h

def F_impl_lastToFirst : Fun := fun avs H =>
  match avs, H with
  | [.dat (.int .i64) x3930], [] => ⟨_, impl_lastToFirst x3930, fun (t : (List Int)) => (.slc 0, [some (.seq (.int .i64) t)])⟩
  | _, _ => Ans.no

theorem impl_lastToFirst_sound : Sound Tryd.prog 78 F_impl_lastToFirst := by
  refine fn_sound' (C := impl_lastToFirst_ctx) (c := bodyOf Tryd.f78) (cok_of tys_ok (by simp) (by simp) (by kernel_rfl)) Tryd.func78 (by kernel_rfl) LL impl_lastToFirst_an ?_
  intro avs H r H' h
  unfold F_impl_lastToFirst at h
  split at h
  · refine Awp.cast ?_ ?_ ?_ (impl_lastToFirst_e _ h) <;> kernel_rfl
  · simp [Ans.no, Ans.run] at h


/-! loop.example/headtrees/impl.OrderOk -/

def impl_OrderOk_an : Ann := (.seq (.leaf [0, 1]) (.seq (.seq (.leaf [0, 1, 19]) (.cond (.seq (.leaf [4]) (.leaf [4])) (.leaf [0, 1]))) (.seq (.leaf [0, 1, 5]) (.seq (.seq (.leaf [1, 5, 20, 21, 22]) (.block (.loop (.seq (.leaf [1, 5, 20, 21, 22, 23]) (.seq (.cond (.leaf [1, 5, 20, 21, 22]) (.leaf [])) (.seq (.block (.seq (.leaf [1, 5, 7, 20, 21, 22]) (.seq (.seq (.leaf [1, 5, 7, 20, 21, 22, 37]) (.cond (.seq (.leaf [4]) (.leaf [4])) (.leaf [1, 5, 7, 20, 21, 22]))) (.leaf [1, 5, 20, 21, 22])))) (.leaf [1, 5, 20, 21, 22]))))))) (.seq (.leaf [4]) (.leaf [4]))))))

noncomputable def impl_OrderOk_ctx : Ctx := ⟨tlook tys, olook [], ioF, 0⟩

theorem impl_OrderOk_n1_l (x3964 : List Int) (x3965 : Int) : Link impl_OrderOk_ctx LL (Code.seq (Code.fst (bodyOf Tryd.f88)) (Code.seq (Code.fst (Code.snd (bodyOf Tryd.f88))) (Code.fst (Code.snd (Code.snd (bodyOf Tryd.f88)))))) (Ann.seq (Ann.fst impl_OrderOk_an) (Ann.seq (Ann.fst (Ann.snd impl_OrderOk_an)) (Ann.fst (Ann.snd (Ann.snd impl_OrderOk_an))))) (⟨mkE 41 0 [(0, .dat (.list (.int .i64)) x3964), (1, .dat (.int .i64) x3965)], []⟩ : St) (impl_OrderOk_n1 x3964 x3965) (Sum.elim (fun (t : Unit) => (Exit.normal, (⟨mkE 41 0 [(0, .dat (.list (.int .i64)) x3964), (1, .dat (.int .i64) x3965), (5, .ptr 0 0)], [some (.seq .bool (List.replicate 9 false))]⟩ : St))) (fun (t : Bool) => (Exit.ret, (⟨mkE 41 0 [(4, .dat .bool t)], []⟩ : St)))) := by
  refine Link.of fun K h => ?_
  simp only [impl_OrderOk_n1, wpO_bind, wpO_cond, wpO_map, wpO_some] at h
  exact Awp.of (by kernel_rfl) h

theorem impl_OrderOk_n2_l (x3964 : List Int) (x3965 : Int) : Link impl_OrderOk_ctx LL (Code.fst (Code.fst (Code.snd (Code.snd (Code.snd (bodyOf Tryd.f88)))))) (Ann.fst (Ann.fst (Ann.snd (Ann.snd (Ann.snd impl_OrderOk_an))))) (⟨mkE 41 0 [(0, .dat (.list (.int .i64)) x3964), (1, .dat (.int .i64) x3965), (5, .ptr 0 0)], [some (.seq .bool (List.replicate 9 false))]⟩ : St) (impl_OrderOk_n2 x3964) (fun (t : Int) => (Exit.normal, (⟨mkE 41 0 [(1, .dat (.int .i64) x3965), (5, .ptr 0 0), (20, .dat (.list (.int .i64)) x3964), (21, .dat (.int .i64) t), (22, .dat (.int .i64) 0)], [some (.seq .bool (List.replicate 9 false))]⟩ : St))) := by
  refine Link.of fun K h => ?_
  simp only [impl_OrderOk_n2, wpO_bind, wpO_cond, wpO_map, wpO_some] at h
  exact Awp.of (by kernel_rfl) h

theorem impl_OrderOk_n3_l (x3965 : Int) (x3964 : List Int) (x3975 : Int) (x3999 : Int) (x4000 : List Bool) : Link impl_OrderOk_ctx LL (Code.fst (Code.fst (Code.snd (Code.fst (Code.snd (Code.snd (Code.snd (bodyOf Tryd.f88)))))))) (Ann.fst (Ann.fst (Ann.snd (Ann.fst (Ann.snd (Ann.snd (Ann.snd impl_OrderOk_an))))))) (⟨mkE 41 0 [(1, .dat (.int .i64) x3965), (5, .ptr 0 0), (20, .dat (.list (.int .i64)) x3964), (21, .dat (.int .i64) x3975), (22, .dat (.int .i64) x3999)], [some (.seq .bool x4000)]⟩ : St) (impl_OrderOk_n3 x3965 x3964 x3975 x3999 x4000) (Sum.elim (fun (t : Int × (List Bool)) => (Exit.normal, (⟨mkE 41 0 [(1, .dat (.int .i64) x3965), (5, .ptr 0 0), (20, .dat (.list (.int .i64)) x3964), (21, .dat (.int .i64) x3975), (22, .dat (.int .i64) t.1)], [some (.seq .bool t.2)]⟩ : St))) (Sum.elim (fun (t : Bool) => (Exit.ret, (⟨mkE 41 0 [(4, .dat .bool t)], []⟩ : St))) (fun (t : Unit) => ((Exit.exit 0), (⟨mkE 41 0 [], []⟩ : St))))) := by
  refine Link.of fun K h => ?_
  simp only [impl_OrderOk_n3, wpO_bind, wpO_cond, wpO_map, wpO_some] at h
  exact Awp.of (by kernel_rfl) h

theorem impl_OrderOk_n4_l (x3965 : Int) (x3964 : List Int) (x3975 : Int) : Link impl_OrderOk_ctx LL (Code.fst (Code.snd (Code.fst (Code.snd (Code.snd (Code.snd (bodyOf Tryd.f88))))))) (Ann.fst (Ann.snd (Ann.fst (Ann.snd (Ann.snd (Ann.snd impl_OrderOk_an)))))) (⟨mkE 41 0 [(1, .dat (.int .i64) x3965), (5, .ptr 0 0), (20, .dat (.list (.int .i64)) x3964), (21, .dat (.int .i64) x3975), (22, .dat (.int .i64) 0)], [some (.seq .bool (List.replicate 9 false))]⟩ : St) (impl_OrderOk_n4 x3965 x3964 x3975) (Sum.elim (fun (t : Bool) => (Exit.ret, (⟨mkE 41 0 [(4, .dat .bool t)], []⟩ : St))) (fun (t : Unit) => ((Exit.exit 0), (⟨mkE 41 0 [], []⟩ : St)))) := by
  unfold impl_OrderOk_n4
  exact Link.cast (by kernel_rfl) (by kernel_rfl) (link_loop (mk := fun (s : Int × (List Bool)) => (⟨mkE 41 0 [(1, .dat (.int .i64) x3965), (5, .ptr 0 0), (20, .dat (.list (.int .i64)) x3964), (21, .dat (.int .i64) x3975), (22, .dat (.int .i64) s.1)], [some (.seq .bool s.2)]⟩ : St)) (fin := (Sum.elim (fun (t : Bool) => (Exit.ret, (⟨mkE 41 0 [(4, .dat .bool t)], []⟩ : St))) (fun (t : Unit) => ((Exit.exit 0), (⟨mkE 41 0 [], []⟩ : St))))) (by
  rintro (t | t) f K h
  · exact h
  · exact h) (fun s => link_map (impl_OrderOk_n3_l x3965 x3964 x3975 s.1 s.2) (Sum.elim (fun (t : Int × (List Bool)) => Sum.inl (t.1, t.2)) (Sum.elim (fun (t : Bool) => Sum.inr (Sum.inl t)) (fun (t : Unit) => Sum.inr (Sum.inr t)))) (by
  rintro (t | t | t)
  · kernel_rfl
  · kernel_rfl
  · kernel_rfl)) (0, (List.replicate 9 false)))

theorem impl_OrderOk_n5_l (x3965 : Int) (x3964 : List Int) (x3975 : Int) : Link impl_OrderOk_ctx LL (Code.snd (Code.fst (Code.snd (Code.snd (Code.snd (bodyOf Tryd.f88)))))) (Ann.snd (Ann.fst (Ann.snd (Ann.snd (Ann.snd impl_OrderOk_an))))) (⟨mkE 41 0 [(1, .dat (.int .i64) x3965), (5, .ptr 0 0), (20, .dat (.list (.int .i64)) x3964), (21, .dat (.int .i64) x3975), (22, .dat (.int .i64) 0)], [some (.seq .bool (List.replicate 9 false))]⟩ : St) (impl_OrderOk_n5 x3965 x3964 x3975) (Sum.elim (fun (t : Unit) => (Exit.normal, (⟨mkE 41 0 [], []⟩ : St))) (fun (t : Bool) => (Exit.ret, (⟨mkE 41 0 [(4, .dat .bool t)], []⟩ : St)))) := by
  unfold impl_OrderOk_n5
  exact Link.cast (by kernel_rfl) (by kernel_rfl) (link_block (id := 0) (impl_OrderOk_n4_l x3965 x3964 x3975) (Sum.elim (fun (t : Bool) => (Sum.inr t)) (fun (t : Unit) => (Sum.inl ()))) (by
  rintro (t | t) K h
  · exact Eq.mp (by kernel_rfl) h
  · exact Eq.mp (by kernel_rfl) h))

theorem impl_OrderOk_n6_l (x3964 : List Int) (x3965 : Int) : Link impl_OrderOk_ctx LL (Code.fst (Code.snd (Code.snd (Code.snd (bodyOf Tryd.f88))))) (Ann.fst (Ann.snd (Ann.snd (Ann.snd impl_OrderOk_an)))) (⟨mkE 41 0 [(0, .dat (.list (.int .i64)) x3964), (1, .dat (.int .i64) x3965), (5, .ptr 0 0)], [some (.seq .bool (List.replicate 9 false))]⟩ : St) (impl_OrderOk_n6 x3964 x3965) (Sum.elim (fun (t : Unit) => (Exit.normal, (⟨mkE 41 0 [], []⟩ : St))) (fun (t : Bool) => (Exit.ret, (⟨mkE 41 0 [(4, .dat .bool t)], []⟩ : St)))) := by
  unfold impl_OrderOk_n6
  exact Link.cast (by kernel_rfl) (by kernel_rfl) (link_seq (b := (Code.snd (Code.fst (Code.snd (Code.snd (Code.snd (bodyOf Tryd.f88))))))) (y := (Ann.snd (Ann.fst (Ann.snd (Ann.snd (Ann.snd impl_OrderOk_an)))))) (impl_OrderOk_n2_l x3964 x3965) (fun (t : Int) => (impl_OrderOk_n5_l x3965 x3964 t)))

theorem impl_OrderOk_n7_l : Link impl_OrderOk_ctx LL (Code.snd (Code.snd (Code.snd (Code.snd (bodyOf Tryd.f88))))) (Ann.snd (Ann.snd (Ann.snd (Ann.snd impl_OrderOk_an)))) (⟨mkE 41 0 [], []⟩ : St) (impl_OrderOk_n7) (fun (t : Bool) => (Exit.ret, (⟨mkE 41 0 [(4, .dat .bool t)], []⟩ : St))) := by
  refine Link.of fun K h => ?_
  simp only [impl_OrderOk_n7, wpO_bind, wpO_cond, wpO_map, wpO_some] at h
  exact Awp.of (by kernel_rfl) h

theorem impl_OrderOk_n8_l (x3964 : List Int) (x3965 : Int) : Link impl_OrderOk_ctx LL (Code.snd (Code.snd (Code.snd (bodyOf Tryd.f88)))) (Ann.snd (Ann.snd (Ann.snd impl_OrderOk_an))) (⟨mkE 41 0 [(0, .dat (.list (.int .i64)) x3964), (1, .dat (.int .i64) x3965), (5, .ptr 0 0)], [some (.seq .bool (List.replicate 9 false))]⟩ : St) (impl_OrderOk_n8 x3964 x3965) (fun (t : Bool) => (Exit.ret, (⟨mkE 41 0 [(4, .dat .bool t)], []⟩ : St))) := by
  unfold impl_OrderOk_n8
  exact Link.cast (by kernel_rfl) (by kernel_rfl) (link_seq2 (b := (Code.snd (Code.snd (Code.snd (Code.snd (bodyOf Tryd.f88)))))) (y := (Ann.snd (Ann.snd (Ann.snd (Ann.snd impl_OrderOk_an))))) (impl_OrderOk_n6_l x3964 x3965) (fun (t : Unit) => (impl_OrderOk_n7_l)) (fun (t : Bool) => t) (by
  rintro t
  · kernel_rfl) (by
  rintro t f K h
  · exact h))

theorem impl_OrderOk_n9_l (x3964 : List Int) (x3965 : Int) : Link impl_OrderOk_ctx LL (bodyOf Tryd.f88) impl_OrderOk_an (⟨mkE 41 0 [(0, .dat (.list (.int .i64)) x3964), (1, .dat (.int .i64) x3965)], []⟩ : St) (impl_OrderOk_n9 x3964 x3965) (fun (t : Bool) => (Exit.ret, (⟨mkE 41 0 [(4, .dat .bool t)], []⟩ : St))) := by
  unfold impl_OrderOk_n9
  exact Link.cast (by kernel_rfl) (by kernel_rfl) (link_group (c := (Code.fst (Code.snd (Code.snd (bodyOf Tryd.f88))))) (a := (Ann.fst (Ann.snd (Ann.snd impl_OrderOk_an)))) [(Code.fst (bodyOf Tryd.f88)), (Code.fst (Code.snd (bodyOf Tryd.f88)))] [(Ann.fst impl_OrderOk_an), (Ann.fst (Ann.snd impl_OrderOk_an))] rfl (link_seq2 (b := (Code.snd (Code.snd (Code.snd (bodyOf Tryd.f88))))) (y := (Ann.snd (Ann.snd (Ann.snd impl_OrderOk_an)))) (impl_OrderOk_n1_l x3964 x3965) (fun (t : Unit) => (impl_OrderOk_n8_l x3964 x3965)) (fun (t : Bool) => t) (by
  rintro t
  · kernel_rfl) (by
  rintro t f K h
  · exact h)))

theorem impl_OrderOk_e (x3964 : List Int) (x3965 : Int) {r : AV} {H' : Heap} (h : (Ans.mk _ (impl_OrderOk x3964 x3965) (fun (t : Bool) => (.dat .bool t, []))).run = some (r, H')) : Awp impl_OrderOk_ctx LL (bodyOf Tryd.f88) impl_OrderOk_an (⟨mkE 41 0 [(0, .dat (.list (.int .i64)) x3964), (1, .dat (.int .i64) x3965)], []⟩ : St) (Ret (tlook tys) Tryd.f88.results.toList r H') :=
  ret_of' (impl_OrderOk_n9_l x3964 x3965) (by unfold impl_OrderOk; kernel_rfl) (by
  intro t
  exact ret_mk [.dat .bool t] (by kernel_rfl) (by kernel_rfl) (by kernel_rfl) (by kernel_rfl)) h

def F_impl_OrderOk : Fun := fun avs H =>
  match avs, H with
  | [.dat (.list (.int .i64)) x3964, .dat (.int .i64) x3965], [] => ⟨_, impl_OrderOk x3964 x3965, fun (t : Bool) => (.dat .bool t, [])⟩
  | _, _ => Ans.no

theorem impl_OrderOk_sound : Sound Tryd.prog 88 F_impl_OrderOk := by
  refine fn_sound' (C := impl_OrderOk_ctx) (c := bodyOf Tryd.f88) (cok_of tys_ok (by simp) (by simp) (by kernel_rfl)) Tryd.func88 (by kernel_rfl) LL impl_OrderOk_an ?_
  intro avs H r H' h
  unfold F_impl_OrderOk at h
  split at h
  · refine Awp.cast ?_ ?_ ?_ (impl_OrderOk_e _ _ h) <;> kernel_rfl
  · simp [Ans.no, Ans.run] at h


/-! loop.example/headtrees/impl.placesIn -/

def impl_placesIn_an : Ann := (.seq (.leaf [0]) (.seq (.leaf [0, 3]) (.seq (.seq (.leaf [3, 10, 11, 12]) (.block (.loop (.seq (.leaf [3, 10, 11, 12, 13]) (.seq (.cond (.leaf [3, 10, 11, 12]) (.leaf [3])) (.seq (.block (.seq (.leaf [3, 4, 5, 10, 11, 12]) (.leaf [3, 10, 11, 12]))) (.leaf [3, 10, 11, 12]))))))) (.seq (.leaf [2]) (.leaf [2])))))

noncomputable def impl_placesIn_ctx : Ctx := ⟨tlook tys, olook [], ioF, 0⟩

theorem impl_placesIn_n1_l (x4032 : List Int) : Link impl_placesIn_ctx LL (Code.seq (Code.fst (bodyOf Tryd.f89)) (Code.fst (Code.snd (bodyOf Tryd.f89)))) (Ann.seq (Ann.fst impl_placesIn_an) (Ann.fst (Ann.snd impl_placesIn_an))) (⟨mkE 24 0 [(0, .dat (.list (.int .i64)) x4032)], []⟩ : St) (impl_placesIn_n1 x4032) (fun (t : (List Int)) => (Exit.normal, (⟨mkE 24 0 [(0, .dat (.list (.int .i64)) x4032), (3, .slc 0)], [some (.seq (.int .i64) t)]⟩ : St))) := by
  refine Link.of fun K h => ?_
  simp only [impl_placesIn_n1, wpO_bind, wpO_cond, wpO_map, wpO_some] at h
  exact Awp.of (by kernel_rfl) h

theorem impl_placesIn_n2_l (x4032 : List Int) (x4036 : List Int) : Link impl_placesIn_ctx LL (Code.fst (Code.fst (Code.snd (Code.snd (bodyOf Tryd.f89))))) (Ann.fst (Ann.fst (Ann.snd (Ann.snd impl_placesIn_an)))) (⟨mkE 24 0 [(0, .dat (.list (.int .i64)) x4032), (3, .slc 0)], [some (.seq (.int .i64) x4036)]⟩ : St) (impl_placesIn_n2 x4032) (fun (t : Int) => (Exit.normal, (⟨mkE 24 0 [(3, .slc 0), (10, .dat (.list (.int .i64)) x4032), (11, .dat (.int .i64) t), (12, .dat (.int .i64) 0)], [some (.seq (.int .i64) x4036)]⟩ : St))) := by
  refine Link.of fun K h => ?_
  simp only [impl_placesIn_n2, wpO_bind, wpO_cond, wpO_map, wpO_some] at h
  exact Awp.of (by kernel_rfl) h

theorem impl_placesIn_n3_l (x4032 : List Int) (x4037 : Int) (x4051 : Int) (x4052 : List Int) : Link impl_placesIn_ctx LL (Code.fst (Code.fst (Code.snd (Code.fst (Code.snd (Code.snd (bodyOf Tryd.f89))))))) (Ann.fst (Ann.fst (Ann.snd (Ann.fst (Ann.snd (Ann.snd impl_placesIn_an)))))) (⟨mkE 24 0 [(3, .slc 0), (10, .dat (.list (.int .i64)) x4032), (11, .dat (.int .i64) x4037), (12, .dat (.int .i64) x4051)], [some (.seq (.int .i64) x4052)]⟩ : St) (impl_placesIn_n3 x4032 x4037 x4051 x4052) (Sum.elim (fun (t : Int × (List Int)) => (Exit.normal, (⟨mkE 24 0 [(3, .slc 0), (10, .dat (.list (.int .i64)) x4032), (11, .dat (.int .i64) x4037), (12, .dat (.int .i64) t.1)], [some (.seq (.int .i64) t.2)]⟩ : St))) (fun (t : (List Int)) => ((Exit.exit 0), (⟨mkE 24 0 [(3, .slc 0)], [some (.seq (.int .i64) t)]⟩ : St)))) := by
  refine Link.of fun K h => ?_
  simp only [impl_placesIn_n3, wpO_bind, wpO_cond, wpO_map, wpO_some] at h
  exact Awp.of (by kernel_rfl) h

theorem impl_placesIn_n4_l (x4032 : List Int) (x4037 : Int) (x4036 : List Int) : Link impl_placesIn_ctx LL (Code.fst (Code.snd (Code.fst (Code.snd (Code.snd (bodyOf Tryd.f89)))))) (Ann.fst (Ann.snd (Ann.fst (Ann.snd (Ann.snd impl_placesIn_an))))) (⟨mkE 24 0 [(3, .slc 0), (10, .dat (.list (.int .i64)) x4032), (11, .dat (.int .i64) x4037), (12, .dat (.int .i64) 0)], [some (.seq (.int .i64) x4036)]⟩ : St) (impl_placesIn_n4 x4032 x4037 x4036) (fun (t : (List Int)) => ((Exit.exit 0), (⟨mkE 24 0 [(3, .slc 0)], [some (.seq (.int .i64) t)]⟩ : St))) := by
  unfold impl_placesIn_n4
  exact Link.cast (by kernel_rfl) (by kernel_rfl) (link_loop (mk := fun (s : Int × (List Int)) => (⟨mkE 24 0 [(3, .slc 0), (10, .dat (.list (.int .i64)) x4032), (11, .dat (.int .i64) x4037), (12, .dat (.int .i64) s.1)], [some (.seq (.int .i64) s.2)]⟩ : St)) (fin := (fun (t : (List Int)) => ((Exit.exit 0), (⟨mkE 24 0 [(3, .slc 0)], [some (.seq (.int .i64) t)]⟩ : St)))) (by
  rintro t f K h
  · exact h) (fun s => link_map (impl_placesIn_n3_l x4032 x4037 s.1 s.2) (Sum.elim (fun (t : Int × (List Int)) => Sum.inl (t.1, t.2)) (fun (t : (List Int)) => Sum.inr t)) (by
  rintro (t | t)
  · kernel_rfl
  · kernel_rfl)) (0, x4036))

theorem impl_placesIn_n5_l (x4032 : List Int) (x4037 : Int) (x4036 : List Int) : Link impl_placesIn_ctx LL (Code.snd (Code.fst (Code.snd (Code.snd (bodyOf Tryd.f89))))) (Ann.snd (Ann.fst (Ann.snd (Ann.snd impl_placesIn_an)))) (⟨mkE 24 0 [(3, .slc 0), (10, .dat (.list (.int .i64)) x4032), (11, .dat (.int .i64) x4037), (12, .dat (.int .i64) 0)], [some (.seq (.int .i64) x4036)]⟩ : St) (impl_placesIn_n5 x4032 x4037 x4036) (fun (t : (List Int)) => (Exit.normal, (⟨mkE 24 0 [(3, .slc 0)], [some (.seq (.int .i64) t)]⟩ : St))) := by
  unfold impl_placesIn_n5
  exact Link.cast (by kernel_rfl) (by kernel_rfl) (link_block (id := 0) (impl_placesIn_n4_l x4032 x4037 x4036) (fun (t : (List Int)) => t) (by
  rintro t K h
  · exact Eq.mp (by kernel_rfl) h))

theorem impl_placesIn_n6_l (x4032 : List Int) (x4036 : List Int) : Link impl_placesIn_ctx LL (Code.fst (Code.snd (Code.snd (bodyOf Tryd.f89)))) (Ann.fst (Ann.snd (Ann.snd impl_placesIn_an))) (⟨mkE 24 0 [(0, .dat (.list (.int .i64)) x4032), (3, .slc 0)], [some (.seq (.int .i64) x4036)]⟩ : St) (impl_placesIn_n6 x4032 x4036) (fun (t : (List Int)) => (Exit.normal, (⟨mkE 24 0 [(3, .slc 0)], [some (.seq (.int .i64) t)]⟩ : St))) := by
  unfold impl_placesIn_n6
  exact Link.cast (by kernel_rfl) (by kernel_rfl) (link_seq (b := (Code.snd (Code.fst (Code.snd (Code.snd (bodyOf Tryd.f89)))))) (y := (Ann.snd (Ann.fst (Ann.snd (Ann.snd impl_placesIn_an))))) (impl_placesIn_n2_l x4032 x4036) (fun (t : Int) => (impl_placesIn_n5_l x4032 t x4036)))

theorem impl_placesIn_n7_l (x4052 : List Int) : Link impl_placesIn_ctx LL (Code.snd (Code.snd (Code.snd (bodyOf Tryd.f89)))) (Ann.snd (Ann.snd (Ann.snd impl_placesIn_an))) (⟨mkE 24 0 [(3, .slc 0)], [some (.seq (.int .i64) x4052)]⟩ : St) (impl_placesIn_n7 x4052) (fun (t : (List Int)) => (Exit.ret, (⟨mkE 24 0 [(2, .slc 0)], [some (.seq (.int .i64) t)]⟩ : St))) := by
  refine Link.of fun K h => ?_
  simp only [impl_placesIn_n7, wpO_bind, wpO_cond, wpO_map, wpO_some] at h
  exact Awp.of (by kernel_rfl) h

theorem impl_placesIn_n8_l (x4032 : List Int) (x4036 : List Int) : Link impl_placesIn_ctx LL (Code.snd (Code.snd (bodyOf Tryd.f89))) (Ann.snd (Ann.snd impl_placesIn_an)) (⟨mkE 24 0 [(0, .dat (.list (.int .i64)) x4032), (3, .slc 0)], [some (.seq (.int .i64) x4036)]⟩ : St) (impl_placesIn_n8 x4032 x4036) (fun (t : (List Int)) => (Exit.ret, (⟨mkE 24 0 [(2, .slc 0)], [some (.seq (.int .i64) t)]⟩ : St))) := by
  unfold impl_placesIn_n8
  exact Link.cast (by kernel_rfl) (by kernel_rfl) (link_seq (b := (Code.snd (Code.snd (Code.snd (bodyOf Tryd.f89))))) (y := (Ann.snd (Ann.snd (Ann.snd impl_placesIn_an)))) (impl_placesIn_n6_l x4032 x4036) (fun (t : (List Int)) => (impl_placesIn_n7_l t)))

theorem impl_placesIn_n9_l (x4032 : List Int) : Link impl_placesIn_ctx LL (bodyOf Tryd.f89) impl_placesIn_an (⟨mkE 24 0 [(0, .dat (.list (.int .i64)) x4032)], []⟩ : St) (impl_placesIn_n9 x4032) (fun (t : (List Int)) => (Exit.ret, (⟨mkE 24 0 [(2, .slc 0)], [some (.seq (.int .i64) t)]⟩ : St))) := by
  unfold impl_placesIn_n9
  exact Link.cast (by kernel_rfl) (by kernel_rfl) (link_group (c := (Code.fst (Code.snd (bodyOf Tryd.f89)))) (a := (Ann.fst (Ann.snd impl_placesIn_an))) [(Code.fst (bodyOf Tryd.f89))] [(Ann.fst impl_placesIn_an)] rfl (link_seq (b := (Code.snd (Code.snd (bodyOf Tryd.f89)))) (y := (Ann.snd (Ann.snd impl_placesIn_an))) (impl_placesIn_n1_l x4032) (fun (t : (List Int)) => (impl_placesIn_n8_l x4032 t))))

theorem impl_placesIn_e (x4032 : List Int) {r : AV} {H' : Heap} (h : (Ans.mk _ (impl_placesIn x4032) (fun (t : (List Int)) => (.slc 0, [some (.seq (.int .i64) t)]))).run = some (r, H')) : Awp impl_placesIn_ctx LL (bodyOf Tryd.f89) impl_placesIn_an (⟨mkE 24 0 [(0, .dat (.list (.int .i64)) x4032)], []⟩ : St) (Ret (tlook tys) Tryd.f89.results.toList r H') :=
  ret_of' (impl_placesIn_n9_l x4032) (by unfold impl_placesIn; kernel_rfl) (by
  intro t
  exact ret_mk [.slc 0] (by kernel_rfl) (by kernel_rfl) (by kernel_rfl) (by kernel_rfl)) h

def F_impl_placesIn : Fun := fun avs H =>
  match avs, H with
  | [.dat (.list (.int .i64)) x4032], [] => ⟨_, impl_placesIn x4032, fun (t : (List Int)) => (.slc 0, [some (.seq (.int .i64) t)])⟩
  | _, _ => Ans.no

theorem impl_placesIn_sound : Sound Tryd.prog 89 F_impl_placesIn := by
  refine fn_sound' (C := impl_placesIn_ctx) (c := bodyOf Tryd.f89) (cok_of tys_ok (by simp) (by simp) (by kernel_rfl)) Tryd.func89 (by kernel_rfl) LL impl_placesIn_an ?_
  intro avs H r H' h
  unfold F_impl_placesIn at h
  split at h
  · refine Awp.cast ?_ ?_ ?_ (impl_placesIn_e _ h) <;> kernel_rfl
  · simp [Ans.no, Ans.run] at h


/-! loop.example/headtrees/impl.PutInOrder$1 -/

def impl_PutInOrder_1_an : Ann := (.seq (.leaf [0, 1]) (.seq (.leaf [3]) (.leaf [3])))

noncomputable def impl_PutInOrder_1_ctx : Ctx := ⟨tlook tys, olook [], ioF, 2⟩

theorem impl_PutInOrder_1_n1_l (x4086 : Int) (x4087 : List Int) : Link impl_PutInOrder_1_ctx LL (bodyOf Tryd.f91) impl_PutInOrder_1_an (⟨mkE 8 0 [(0, .dat (.int .i64) x4086), (1, .ptr 0 0)], [some (.box [.slc 1]), some (.seq (.int .i64) x4087)]⟩ : St) (impl_PutInOrder_1_n1 x4086 x4087) (fun (t : Int) => (Exit.ret, (⟨mkE 8 0 [(3, .dat (.int .i64) t)], [some (.box [.slc 1]), some (.seq (.int .i64) x4087)]⟩ : St))) := by
  refine Link.of fun K h => ?_
  simp only [impl_PutInOrder_1_n1, wpO_bind, wpO_cond, wpO_map, wpO_some] at h
  exact Awp.of (by kernel_rfl) h

theorem impl_PutInOrder_1_e (x4086 : Int) (x4087 : List Int) {r : AV} {H' : Heap} (h : (Ans.mk _ (impl_PutInOrder_1 x4086 x4087) (fun (t : Int) => (.dat (.int .i64) t, [some (.box [.slc 1]), some (.seq (.int .i64) x4087)]))).run = some (r, H')) : Awp impl_PutInOrder_1_ctx LL (bodyOf Tryd.f91) impl_PutInOrder_1_an (⟨mkE 8 0 [(0, .dat (.int .i64) x4086), (1, .ptr 0 0)], [some (.box [.slc 1]), some (.seq (.int .i64) x4087)]⟩ : St) (Ret (tlook tys) Tryd.f91.results.toList r H') :=
  ret_of' (impl_PutInOrder_1_n1_l x4086 x4087) (by unfold impl_PutInOrder_1; kernel_rfl) (by
  intro t
  exact ret_mk [.dat (.int .i64) t] (by kernel_rfl) (by kernel_rfl) (by kernel_rfl) (by kernel_rfl)) h

def F_impl_PutInOrder_1 : Fun := fun avs H =>
  match avs, H with
  | [.dat (.int .i64) x4086, .ptr 0 0], [some (.box [.slc 1]), some (.seq (.int .i64) x4087)] => ⟨_, impl_PutInOrder_1 x4086 x4087, fun (t : Int) => (.dat (.int .i64) t, [some (.box [.slc 1]), some (.seq (.int .i64) x4087)])⟩
  | _, _ => Ans.no

theorem impl_PutInOrder_1_sound : Sound Tryd.prog 91 F_impl_PutInOrder_1 := by
  refine fn_sound' (C := impl_PutInOrder_1_ctx) (c := bodyOf Tryd.f91) (cok_of tys_ok (by simp) (by simp) (by kernel_rfl)) Tryd.func91 (by kernel_rfl) LL impl_PutInOrder_1_an ?_
  intro avs H r H' h
  unfold F_impl_PutInOrder_1 at h
  split at h
  · refine Awp.cast ?_ ?_ ?_ (impl_PutInOrder_1_e _ _ h) <;> kernel_rfl
  · simp [Ans.no, Ans.run] at h


/-! loop.example/headtrees/impl.renamed[int] -/

def impl_renamed_int_an : Ann := (.seq (.leaf [0, 1, 2]) (.seq (.leaf [0, 1, 2, 7]) (.seq (.seq (.leaf [0, 2, 7, 13, 14, 15]) (.block (.loop (.seq (.leaf [0, 2, 7, 13, 14, 15, 16]) (.seq (.cond (.leaf [0, 2, 7, 13, 14, 15]) (.leaf [7])) (.seq (.block (.seq (.leaf [0, 2, 7, 8, 9, 13, 14, 15]) (.leaf [0, 2, 7, 13, 14, 15]))) (.leaf [0, 2, 7, 13, 14, 15]))))))) (.seq (.leaf [6]) (.leaf [6])))))

noncomputable def impl_renamed_int_ctx : Ctx := ⟨tlook tys, olook [(91, F_impl_PutInOrder_1)], ioF, 2⟩

theorem impl_renamed_int_n1_l (x4073 : List Int) (x4074 : List Int) (x4075 : List Int) : Link impl_renamed_int_ctx LL (Code.seq (Code.fst (bodyOf Tryd.f90)) (Code.fst (Code.snd (bodyOf Tryd.f90)))) (Ann.seq (Ann.fst impl_renamed_int_an) (Ann.fst (Ann.snd impl_renamed_int_an))) (⟨mkE 32 0 [(0, .dat (.list (.int .i64)) x4073), (1, .dat (.list (.int .i64)) x4074), (2, .fn 91 [] [.ptr 0 0])], [some (.box [.slc 1]), some (.seq (.int .i64) x4075)]⟩ : St) (impl_renamed_int_n1 x4074) (fun (t : (List Int)) => (Exit.normal, (⟨mkE 32 0 [(0, .dat (.list (.int .i64)) x4073), (1, .dat (.list (.int .i64)) x4074), (2, .fn 91 [] [.ptr 0 0]), (7, .slc 2)], [some (.box [.slc 1]), some (.seq (.int .i64) x4075), some (.seq (.int .i64) t)]⟩ : St))) := by
  refine Link.of fun K h => ?_
  simp only [impl_renamed_int_n1, wpO_bind, wpO_cond, wpO_map, wpO_some] at h
  exact Awp.of (by kernel_rfl) h

theorem impl_renamed_int_n2_l (x4073 : List Int) (x4074 : List Int) (x4075 : List Int) (x4078 : List Int) : Link impl_renamed_int_ctx LL (Code.fst (Code.fst (Code.snd (Code.snd (bodyOf Tryd.f90))))) (Ann.fst (Ann.fst (Ann.snd (Ann.snd impl_renamed_int_an)))) (⟨mkE 32 0 [(0, .dat (.list (.int .i64)) x4073), (1, .dat (.list (.int .i64)) x4074), (2, .fn 91 [] [.ptr 0 0]), (7, .slc 2)], [some (.box [.slc 1]), some (.seq (.int .i64) x4075), some (.seq (.int .i64) x4078)]⟩ : St) (impl_renamed_int_n2 x4074) (fun (t : Int) => (Exit.normal, (⟨mkE 32 0 [(0, .dat (.list (.int .i64)) x4073), (2, .fn 91 [] [.ptr 0 0]), (7, .slc 2), (13, .dat (.list (.int .i64)) x4074), (14, .dat (.int .i64) t), (15, .dat (.int .i64) 0)], [some (.box [.slc 1]), some (.seq (.int .i64) x4075), some (.seq (.int .i64) x4078)]⟩ : St))) := by
  refine Link.of fun K h => ?_
  simp only [impl_renamed_int_n2, wpO_bind, wpO_cond, wpO_map, wpO_some] at h
  exact Awp.of (by kernel_rfl) h

theorem impl_renamed_int_n3_l (x4073 : List Int) (x4074 : List Int) (x4079 : Int) (x4103 : Int) (x4075 : List Int) (x4104 : List Int) : Link impl_renamed_int_ctx LL (Code.fst (Code.fst (Code.snd (Code.fst (Code.snd (Code.snd (bodyOf Tryd.f90))))))) (Ann.fst (Ann.fst (Ann.snd (Ann.fst (Ann.snd (Ann.snd impl_renamed_int_an)))))) (⟨mkE 32 0 [(0, .dat (.list (.int .i64)) x4073), (2, .fn 91 [] [.ptr 0 0]), (7, .slc 2), (13, .dat (.list (.int .i64)) x4074), (14, .dat (.int .i64) x4079), (15, .dat (.int .i64) x4103)], [some (.box [.slc 1]), some (.seq (.int .i64) x4075), some (.seq (.int .i64) x4104)]⟩ : St) (impl_renamed_int_n3 x4073 x4074 x4079 x4103 x4075 x4104) (Sum.elim (fun (t : Int × (List Int)) => (Exit.normal, (⟨mkE 32 0 [(0, .dat (.list (.int .i64)) x4073), (2, .fn 91 [] [.ptr 0 0]), (7, .slc 2), (13, .dat (.list (.int .i64)) x4074), (14, .dat (.int .i64) x4079), (15, .dat (.int .i64) t.1)], [some (.box [.slc 1]), some (.seq (.int .i64) x4075), some (.seq (.int .i64) t.2)]⟩ : St))) (fun (t : (List Int)) => ((Exit.exit 0), (⟨mkE 32 0 [(7, .slc 2)], [some (.box [.slc 1]), some (.seq (.int .i64) x4075), some (.seq (.int .i64) t)]⟩ : St)))) := by
  refine Link.of fun K h => ?_
  simp only [impl_renamed_int_n3, wpO_bind, wpO_cond, wpO_map, wpO_some] at h
  exact Awp.of (by kernel_rfl) h

theorem impl_renamed_int_n4_l (x4073 : List Int) (x4074 : List Int) (x4079 : Int) (x4075 : List Int) (x4078 : List Int) : Link impl_renamed_int_ctx LL (Code.fst (Code.snd (Code.fst (Code.snd (Code.snd (bodyOf Tryd.f90)))))) (Ann.fst (Ann.snd (Ann.fst (Ann.snd (Ann.snd impl_renamed_int_an))))) (⟨mkE 32 0 [(0, .dat (.list (.int .i64)) x4073), (2, .fn 91 [] [.ptr 0 0]), (7, .slc 2), (13, .dat (.list (.int .i64)) x4074), (14, .dat (.int .i64) x4079), (15, .dat (.int .i64) 0)], [some (.box [.slc 1]), some (.seq (.int .i64) x4075), some (.seq (.int .i64) x4078)]⟩ : St) (impl_renamed_int_n4 x4073 x4074 x4079 x4075 x4078) (fun (t : (List Int)) => ((Exit.exit 0), (⟨mkE 32 0 [(7, .slc 2)], [some (.box [.slc 1]), some (.seq (.int .i64) x4075), some (.seq (.int .i64) t)]⟩ : St))) := by
  unfold impl_renamed_int_n4
  exact Link.cast (by kernel_rfl) (by kernel_rfl) (link_loop (mk := fun (s : Int × (List Int)) => (⟨mkE 32 0 [(0, .dat (.list (.int .i64)) x4073), (2, .fn 91 [] [.ptr 0 0]), (7, .slc 2), (13, .dat (.list (.int .i64)) x4074), (14, .dat (.int .i64) x4079), (15, .dat (.int .i64) s.1)], [some (.box [.slc 1]), some (.seq (.int .i64) x4075), some (.seq (.int .i64) s.2)]⟩ : St)) (fin := (fun (t : (List Int)) => ((Exit.exit 0), (⟨mkE 32 0 [(7, .slc 2)], [some (.box [.slc 1]), some (.seq (.int .i64) x4075), some (.seq (.int .i64) t)]⟩ : St)))) (by
  rintro t f K h
  · exact h) (fun s => link_map (impl_renamed_int_n3_l x4073 x4074 x4079 s.1 x4075 s.2) (Sum.elim (fun (t : Int × (List Int)) => Sum.inl (t.1, t.2)) (fun (t : (List Int)) => Sum.inr t)) (by
  rintro (t | t)
  · kernel_rfl
  · kernel_rfl)) (0, x4078))

theorem impl_renamed_int_n5_l (x4073 : List Int) (x4074 : List Int) (x4079 : Int) (x4075 : List Int) (x4078 : List Int) : Link impl_renamed_int_ctx LL (Code.snd (Code.fst (Code.snd (Code.snd (bodyOf Tryd.f90))))) (Ann.snd (Ann.fst (Ann.snd (Ann.snd impl_renamed_int_an)))) (⟨mkE 32 0 [(0, .dat (.list (.int .i64)) x4073), (2, .fn 91 [] [.ptr 0 0]), (7, .slc 2), (13, .dat (.list (.int .i64)) x4074), (14, .dat (.int .i64) x4079), (15, .dat (.int .i64) 0)], [some (.box [.slc 1]), some (.seq (.int .i64) x4075), some (.seq (.int .i64) x4078)]⟩ : St) (impl_renamed_int_n5 x4073 x4074 x4079 x4075 x4078) (fun (t : (List Int)) => (Exit.normal, (⟨mkE 32 0 [(7, .slc 2)], [some (.box [.slc 1]), some (.seq (.int .i64) x4075), some (.seq (.int .i64) t)]⟩ : St))) := by
  unfold impl_renamed_int_n5
  exact Link.cast (by kernel_rfl) (by kernel_rfl) (link_block (id := 0) (impl_renamed_int_n4_l x4073 x4074 x4079 x4075 x4078) (fun (t : (List Int)) => t) (by
  rintro t K h
  · exact Eq.mp (by kernel_rfl) h))

theorem impl_renamed_int_n6_l (x4073 : List Int) (x4074 : List Int) (x4075 : List Int) (x4078 : List Int) : Link impl_renamed_int_ctx LL (Code.fst (Code.snd (Code.snd (bodyOf Tryd.f90)))) (Ann.fst (Ann.snd (Ann.snd impl_renamed_int_an))) (⟨mkE 32 0 [(0, .dat (.list (.int .i64)) x4073), (1, .dat (.list (.int .i64)) x4074), (2, .fn 91 [] [.ptr 0 0]), (7, .slc 2)], [some (.box [.slc 1]), some (.seq (.int .i64) x4075), some (.seq (.int .i64) x4078)]⟩ : St) (impl_renamed_int_n6 x4073 x4074 x4075 x4078) (fun (t : (List Int)) => (Exit.normal, (⟨mkE 32 0 [(7, .slc 2)], [some (.box [.slc 1]), some (.seq (.int .i64) x4075), some (.seq (.int .i64) t)]⟩ : St))) := by
  unfold impl_renamed_int_n6
  exact Link.cast (by kernel_rfl) (by kernel_rfl) (link_seq (b := (Code.snd (Code.fst (Code.snd (Code.snd (bodyOf Tryd.f90)))))) (y := (Ann.snd (Ann.fst (Ann.snd (Ann.snd impl_renamed_int_an))))) (impl_renamed_int_n2_l x4073 x4074 x4075 x4078) (fun (t : Int) => (impl_renamed_int_n5_l x4073 x4074 t x4075 x4078)))

theorem impl_renamed_int_n7_l (x4075 : List Int) (x4104 : List Int) : Link impl_renamed_int_ctx LL (Code.snd (Code.snd (Code.snd (bodyOf Tryd.f90)))) (Ann.snd (Ann.snd (Ann.snd impl_renamed_int_an))) (⟨mkE 32 0 [(7, .slc 2)], [some (.box [.slc 1]), some (.seq (.int .i64) x4075), some (.seq (.int .i64) x4104)]⟩ : St) (impl_renamed_int_n7 x4104) (fun (t : (List Int)) => (Exit.ret, (⟨mkE 32 0 [(6, .slc 2)], [some (.box [.slc 1]), some (.seq (.int .i64) x4075), some (.seq (.int .i64) t)]⟩ : St))) := by
  refine Link.of fun K h => ?_
  simp only [impl_renamed_int_n7, wpO_bind, wpO_cond, wpO_map, wpO_some] at h
  exact Awp.of (by kernel_rfl) h

theorem impl_renamed_int_n8_l (x4073 : List Int) (x4074 : List Int) (x4075 : List Int) (x4078 : List Int) : Link impl_renamed_int_ctx LL (Code.snd (Code.snd (bodyOf Tryd.f90))) (Ann.snd (Ann.snd impl_renamed_int_an)) (⟨mkE 32 0 [(0, .dat (.list (.int .i64)) x4073), (1, .dat (.list (.int .i64)) x4074), (2, .fn 91 [] [.ptr 0 0]), (7, .slc 2)], [some (.box [.slc 1]), some (.seq (.int .i64) x4075), some (.seq (.int .i64) x4078)]⟩ : St) (impl_renamed_int_n8 x4073 x4074 x4075 x4078) (fun (t : (List Int)) => (Exit.ret, (⟨mkE 32 0 [(6, .slc 2)], [some (.box [.slc 1]), some (.seq (.int .i64) x4075), some (.seq (.int .i64) t)]⟩ : St))) := by
  unfold impl_renamed_int_n8
  exact Link.cast (by kernel_rfl) (by kernel_rfl) (link_seq (b := (Code.snd (Code.snd (Code.snd (bodyOf Tryd.f90))))) (y := (Ann.snd (Ann.snd (Ann.snd impl_renamed_int_an)))) (impl_renamed_int_n6_l x4073 x4074 x4075 x4078) (fun (t : (List Int)) => (impl_renamed_int_n7_l x4075 t)))

theorem impl_renamed_int_n9_l (x4073 : List Int) (x4074 : List Int) (x4075 : List Int) : Link impl_renamed_int_ctx LL (bodyOf Tryd.f90) impl_renamed_int_an (⟨mkE 32 0 [(0, .dat (.list (.int .i64)) x4073), (1, .dat (.list (.int .i64)) x4074), (2, .fn 91 [] [.ptr 0 0])], [some (.box [.slc 1]), some (.seq (.int .i64) x4075)]⟩ : St) (impl_renamed_int_n9 x4073 x4074 x4075) (fun (t : (List Int)) => (Exit.ret, (⟨mkE 32 0 [(6, .slc 2)], [some (.box [.slc 1]), some (.seq (.int .i64) x4075), some (.seq (.int .i64) t)]⟩ : St))) := by
  unfold impl_renamed_int_n9
  exact Link.cast (by kernel_rfl) (by kernel_rfl) (link_group (c := (Code.fst (Code.snd (bodyOf Tryd.f90)))) (a := (Ann.fst (Ann.snd impl_renamed_int_an))) [(Code.fst (bodyOf Tryd.f90))] [(Ann.fst impl_renamed_int_an)] rfl (link_seq (b := (Code.snd (Code.snd (bodyOf Tryd.f90)))) (y := (Ann.snd (Ann.snd impl_renamed_int_an))) (impl_renamed_int_n1_l x4073 x4074 x4075) (fun (t : (List Int)) => (impl_renamed_int_n8_l x4073 x4074 x4075 t))))

theorem impl_renamed_int_e (x4073 : List Int) (x4074 : List Int) (x4075 : List Int) {r : AV} {H' : Heap} (h : (Ans.mk _ (impl_renamed_int x4073 x4074 x4075) (fun (t : (List Int)) => (.slc 2, [some (.box [.slc 1]), some (.seq (.int .i64) x4075), some (.seq (.int .i64) t)]))).run = some (r, H')) : Awp impl_renamed_int_ctx LL (bodyOf Tryd.f90) impl_renamed_int_an (⟨mkE 32 0 [(0, .dat (.list (.int .i64)) x4073), (1, .dat (.list (.int .i64)) x4074), (2, .fn 91 [] [.ptr 0 0])], [some (.box [.slc 1]), some (.seq (.int .i64) x4075)]⟩ : St) (Ret (tlook tys) Tryd.f90.results.toList r H') :=
  ret_of' (impl_renamed_int_n9_l x4073 x4074 x4075) (by unfold impl_renamed_int; kernel_rfl) (by
  intro t
  exact ret_mk [.slc 2] (by kernel_rfl) (by kernel_rfl) (by kernel_rfl) (by kernel_rfl)) h

def F_impl_renamed_int : Fun := fun avs H =>
  match avs, H with
  | [.dat (.list (.int .i64)) x4073, .dat (.list (.int .i64)) x4074, .fn 91 [] [.ptr 0 0]], [some (.box [.slc 1]), some (.seq (.int .i64) x4075)] => ⟨_, impl_renamed_int x4073 x4074 x4075, fun (t : (List Int)) => (.slc 2, [some (.box [.slc 1]), some (.seq (.int .i64) x4075), some (.seq (.int .i64) t)])⟩
  | _, _ => Ans.no

theorem impl_renamed_int_sound : Sound Tryd.prog 90 F_impl_renamed_int := by
  refine fn_sound' (C := impl_renamed_int_ctx) (c := bodyOf Tryd.f90) (cok_of tys_ok (List.forall_mem_cons.2 ⟨impl_PutInOrder_1_sound, by simp⟩) (List.forall_mem_cons.2 ⟨Tryd.call91, by simp⟩) (by kernel_rfl)) Tryd.func90 (by kernel_rfl) LL impl_renamed_int_an ?_
  intro avs H r H' h
  unfold F_impl_renamed_int at h
  split at h
  · refine Awp.cast ?_ ?_ ?_ (impl_renamed_int_e _ _ _ h) <;> kernel_rfl
  · simp [Ans.no, Ans.run] at h


/-! loop.example/headtrees/impl.PutInOrder -/

def impl_PutInOrder_an : Ann := (.seq (.leaf [0, 1]) (.seq (.seq (.leaf [0, 1, 16]) (.cond (.seq (.leaf [4, 5]) (.leaf [4, 5])) (.leaf [0, 1]))) (.seq (.leaf [0, 1, 6]) (.seq (.leaf [4, 5]) (.leaf [4, 5])))))

noncomputable def impl_PutInOrder_ctx : Ctx := ⟨tlook tys, olook [(40, F_impl_TreeOk), (88, F_impl_OrderOk), (89, F_impl_placesIn), (90, F_impl_renamed_int)], ioF, 0⟩

theorem impl_PutInOrder_n1_l (x3959 : List Int) (x3960 : List Int) : Link impl_PutInOrder_ctx LL (bodyOf Tryd.f77) impl_PutInOrder_an (⟨mkE 23 0 [(0, .dat (.list (.int .i64)) x3959), (1, .dat (.list (.int .i64)) x3960)], []⟩ : St) (impl_PutInOrder_n1 x3959 x3960) (fun (t : Bool × (List Int)) => (Exit.ret, (⟨mkE 23 0 [(4, .slc 0), (5, .dat .bool t.1)], [some (.seq (.int .i64) t.2)]⟩ : St))) := by
  refine Link.of fun K h => ?_
  simp only [impl_PutInOrder_n1, wpO_bind, wpO_cond, wpO_map, wpO_some] at h
  exact Awp.of (by kernel_rfl) h

theorem impl_PutInOrder_e (x3959 : List Int) (x3960 : List Int) {r : AV} {H' : Heap} (h : (Ans.mk _ (impl_PutInOrder x3959 x3960) (fun (t : Bool × (List Int)) => (.tup [.slc 0, .dat .bool t.1], [some (.seq (.int .i64) t.2)]))).run = some (r, H')) : Awp impl_PutInOrder_ctx LL (bodyOf Tryd.f77) impl_PutInOrder_an (⟨mkE 23 0 [(0, .dat (.list (.int .i64)) x3959), (1, .dat (.list (.int .i64)) x3960)], []⟩ : St) (Ret (tlook tys) Tryd.f77.results.toList r H') :=
  ret_of' (impl_PutInOrder_n1_l x3959 x3960) (by unfold impl_PutInOrder; kernel_rfl) (by
  intro t
  exact ret_mk [.slc 0, .dat .bool t.1] (by kernel_rfl) (by kernel_rfl) (by kernel_rfl) (by kernel_rfl)) h

def F_impl_PutInOrder : Fun := fun avs H =>
  match avs, H with
  | [.dat (.list (.int .i64)) x3959, .dat (.list (.int .i64)) x3960], [] => ⟨_, impl_PutInOrder x3959 x3960, fun (t : Bool × (List Int)) => (.tup [.slc 0, .dat .bool t.1], [some (.seq (.int .i64) t.2)])⟩
  | _, _ => Ans.no

theorem impl_PutInOrder_sound : Sound Tryd.prog 77 F_impl_PutInOrder := by
  refine fn_sound' (C := impl_PutInOrder_ctx) (c := bodyOf Tryd.f77) (cok_of tys_ok (List.forall_mem_cons.2 ⟨impl_TreeOk_sound, List.forall_mem_cons.2 ⟨impl_OrderOk_sound, List.forall_mem_cons.2 ⟨impl_placesIn_sound, List.forall_mem_cons.2 ⟨impl_renamed_int_sound, by simp⟩⟩⟩⟩) (List.forall_mem_cons.2 ⟨Tryd.call40, List.forall_mem_cons.2 ⟨Tryd.call88, List.forall_mem_cons.2 ⟨Tryd.call89, List.forall_mem_cons.2 ⟨Tryd.call90, by simp⟩⟩⟩⟩) (by kernel_rfl)) Tryd.func77 (by kernel_rfl) LL impl_PutInOrder_an ?_
  intro avs H r H' h
  unfold F_impl_PutInOrder at h
  split at h
  · refine Awp.cast ?_ ?_ ?_ (impl_PutInOrder_e _ _ h) <;> kernel_rfl
  · simp [Ans.no, Ans.run] at h


/-! loop.example/headtrees/impl.BackOf -/

def impl_BackOf_an : Ann := (.seq (.leaf [0]) (.seq (.seq (.leaf [0, 7]) (.cond (.seq (.leaf [2]) (.leaf [2])) (.leaf [0]))) (.seq (.leaf [3]) (.seq (.leaf [2]) (.leaf [2])))))

noncomputable def impl_BackOf_ctx : Ctx := ⟨tlook tys, olook [(40, F_impl_TreeOk), (78, F_impl_lastToFirst), (77, F_impl_PutInOrder)], ioF, 0⟩

theorem impl_BackOf_n1_l (x3924 : List Int) : Link impl_BackOf_ctx LL (bodyOf Tryd.f42) impl_BackOf_an (⟨mkE 17 0 [(0, .dat (.list (.int .i64)) x3924)], []⟩ : St) (impl_BackOf_n1 x3924) (fun (t : (List Int)) => (Exit.ret, (⟨mkE 17 0 [(2, .slc 0)], [some (.seq (.int .i64) t)]⟩ : St))) := by
  refine Link.of fun K h => ?_
  simp only [impl_BackOf_n1, wpO_bind, wpO_cond, wpO_map, wpO_some] at h
  exact Awp.of (by kernel_rfl) h

theorem impl_BackOf_e (x3924 : List Int) {r : AV} {H' : Heap} (h : (Ans.mk _ (impl_BackOf x3924) (fun (t : (List Int)) => (.slc 0, [some (.seq (.int .i64) t)]))).run = some (r, H')) : Awp impl_BackOf_ctx LL (bodyOf Tryd.f42) impl_BackOf_an (⟨mkE 17 0 [(0, .dat (.list (.int .i64)) x3924)], []⟩ : St) (Ret (tlook tys) Tryd.f42.results.toList r H') :=
  ret_of' (impl_BackOf_n1_l x3924) (by unfold impl_BackOf; kernel_rfl) (by
  intro t
  exact ret_mk [.slc 0] (by kernel_rfl) (by kernel_rfl) (by kernel_rfl) (by kernel_rfl)) h

def F_impl_BackOf : Fun := fun avs H =>
  match avs, H with
  | [.dat (.list (.int .i64)) x3924], [] => ⟨_, impl_BackOf x3924, fun (t : (List Int)) => (.slc 0, [some (.seq (.int .i64) t)])⟩
  | _, _ => Ans.no

theorem impl_BackOf_sound : Sound Tryd.prog 42 F_impl_BackOf := by
  refine fn_sound' (C := impl_BackOf_ctx) (c := bodyOf Tryd.f42) (cok_of tys_ok (List.forall_mem_cons.2 ⟨impl_TreeOk_sound, List.forall_mem_cons.2 ⟨impl_lastToFirst_sound, List.forall_mem_cons.2 ⟨impl_PutInOrder_sound, by simp⟩⟩⟩) (List.forall_mem_cons.2 ⟨Tryd.call40, List.forall_mem_cons.2 ⟨Tryd.call78, List.forall_mem_cons.2 ⟨Tryd.call77, by simp⟩⟩⟩) (by kernel_rfl)) Tryd.func42 (by kernel_rfl) LL impl_BackOf_an ?_
  intro avs H r H' h
  unfold F_impl_BackOf at h
  split at h
  · refine Awp.cast ?_ ?_ ?_ (impl_BackOf_e _ h) <;> kernel_rfl
  · simp [Ans.no, Ans.run] at h


/-! (loop.example/headtrees/impl.wordSet).isRow -/

def impl_wordSet_isRow_an : Ann := (.seq (.leaf [0]) (.seq (.leaf [0, 3]) (.seq (.leaf [2]) (.leaf [2]))))

noncomputable def impl_wordSet_isRow_ctx : Ctx := ⟨tlook tys, olook [], ioF, 0⟩

theorem impl_wordSet_isRow_n1_l (x4164 : Int) : Link impl_wordSet_isRow_ctx LL (bodyOf Tryd.f76) impl_wordSet_isRow_an (⟨mkE 14 0 [(0, .dat (.int .u64) x4164)], []⟩ : St) (impl_wordSet_isRow_n1 x4164) (fun (t : Bool) => (Exit.ret, (⟨mkE 14 0 [(2, .dat .bool t)], []⟩ : St))) := by
  refine Link.of fun K h => ?_
  simp only [impl_wordSet_isRow_n1, wpO_bind, wpO_cond, wpO_map, wpO_some] at h
  exact Awp.of (by kernel_rfl) h

theorem impl_wordSet_isRow_e (x4164 : Int) {r : AV} {H' : Heap} (h : (Ans.mk _ (impl_wordSet_isRow x4164) (fun (t : Bool) => (.dat .bool t, []))).run = some (r, H')) : Awp impl_wordSet_isRow_ctx LL (bodyOf Tryd.f76) impl_wordSet_isRow_an (⟨mkE 14 0 [(0, .dat (.int .u64) x4164)], []⟩ : St) (Ret (tlook tys) Tryd.f76.results.toList r H') :=
  ret_of' (impl_wordSet_isRow_n1_l x4164) (by unfold impl_wordSet_isRow; kernel_rfl) (by
  intro t
  exact ret_mk [.dat .bool t] (by kernel_rfl) (by kernel_rfl) (by kernel_rfl) (by kernel_rfl)) h

def F_impl_wordSet_isRow : Fun := fun avs H =>
  match avs, H with
  | [.dat (.int .u64) x4164], [] => ⟨_, impl_wordSet_isRow x4164, fun (t : Bool) => (.dat .bool t, [])⟩
  | _, _ => Ans.no

theorem impl_wordSet_isRow_sound : Sound Tryd.prog 76 F_impl_wordSet_isRow := by
  refine fn_sound' (C := impl_wordSet_isRow_ctx) (c := bodyOf Tryd.f76) (cok_of tys_ok (by simp) (by simp) (by kernel_rfl)) Tryd.func76 (by kernel_rfl) LL impl_wordSet_isRow_an ?_
  intro avs H r H' h
  unfold F_impl_wordSet_isRow at h
  split at h
  · refine Awp.cast ?_ ?_ ?_ (impl_wordSet_isRow_e _ h) <;> kernel_rfl
  · simp [Ans.no, Ans.run] at h


/-! loop.example/headtrees/impl.FlatOk -/

def impl_FlatOk_an : Ann := (.seq (.leaf [0]) (.seq (.seq (.leaf [0, 7]) (.cond (.seq (.leaf [2]) (.leaf [2])) (.leaf [0]))) (.seq (.seq (.leaf [9, 10, 11]) (.block (.loop (.seq (.leaf [9, 10, 11, 12]) (.seq (.cond (.leaf [9, 10, 11]) (.leaf [])) (.seq (.block (.seq (.leaf [4, 9, 10, 11]) (.seq (.leaf [9, 10, 11, 17]) (.cond (.seq (.leaf [2]) (.leaf [2])) (.leaf [9, 10, 11]))))) (.leaf [9, 10, 11]))))))) (.seq (.leaf [2]) (.leaf [2])))))

noncomputable def impl_FlatOk_ctx : Ctx := ⟨tlook tys, olook [(40, F_impl_TreeOk), (56, F_impl_yieldsOf), (76, F_impl_wordSet_isRow)], ioF, 0⟩

theorem impl_FlatOk_n1_l (x4154 : List Int) : Link impl_FlatOk_ctx LL (Code.seq (Code.fst (bodyOf Tryd.f41)) (Code.fst (Code.snd (bodyOf Tryd.f41)))) (Ann.seq (Ann.fst impl_FlatOk_an) (Ann.fst (Ann.snd impl_FlatOk_an))) (⟨mkE 19 0 [(0, .dat (.list (.int .i64)) x4154)], []⟩ : St) (impl_FlatOk_n1 x4154) (Sum.elim (fun (t : Unit) => (Exit.normal, (⟨mkE 19 0 [(0, .dat (.list (.int .i64)) x4154)], []⟩ : St))) (fun (t : Bool) => (Exit.ret, (⟨mkE 19 0 [(2, .dat .bool t)], []⟩ : St)))) := by
  refine Link.of fun K h => ?_
  simp only [impl_FlatOk_n1, wpO_bind, wpO_cond, wpO_map, wpO_some] at h
  exact Awp.of (by kernel_rfl) h

theorem impl_FlatOk_n2_l (x4154 : List Int) : Link impl_FlatOk_ctx LL (Code.fst (Code.fst (Code.snd (Code.snd (bodyOf Tryd.f41))))) (Ann.fst (Ann.fst (Ann.snd (Ann.snd impl_FlatOk_an)))) (⟨mkE 19 0 [(0, .dat (.list (.int .i64)) x4154)], []⟩ : St) (impl_FlatOk_n2 x4154) (fun (t : Int × (List Int)) => (Exit.normal, (⟨mkE 19 0 [(9, .slc 0), (10, .dat (.int .i64) t.1), (11, .dat (.int .i64) 0)], [some (.seq (.int .u64) t.2)]⟩ : St))) := by
  refine Link.of fun K h => ?_
  simp only [impl_FlatOk_n2, wpO_bind, wpO_cond, wpO_map, wpO_some] at h
  exact Awp.of (by kernel_rfl) h

theorem impl_FlatOk_n3_l (x4158 : Int) (x4185 : Int) (x4157 : List Int) : Link impl_FlatOk_ctx LL (Code.fst (Code.fst (Code.snd (Code.fst (Code.snd (Code.snd (bodyOf Tryd.f41))))))) (Ann.fst (Ann.fst (Ann.snd (Ann.fst (Ann.snd (Ann.snd impl_FlatOk_an)))))) (⟨mkE 19 0 [(9, .slc 0), (10, .dat (.int .i64) x4158), (11, .dat (.int .i64) x4185)], [some (.seq (.int .u64) x4157)]⟩ : St) (impl_FlatOk_n3 x4158 x4185 x4157) (Sum.elim (fun (t : Int) => (Exit.normal, (⟨mkE 19 0 [(9, .slc 0), (10, .dat (.int .i64) x4158), (11, .dat (.int .i64) t)], [some (.seq (.int .u64) x4157)]⟩ : St))) (Sum.elim (fun (t : Bool) => (Exit.ret, (⟨mkE 19 0 [(2, .dat .bool t)], []⟩ : St))) (fun (t : Unit) => ((Exit.exit 0), (⟨mkE 19 0 [], []⟩ : St))))) := by
  refine Link.of fun K h => ?_
  simp only [impl_FlatOk_n3, wpO_bind, wpO_cond, wpO_map, wpO_some] at h
  exact Awp.of (by kernel_rfl) h

theorem impl_FlatOk_n4_l (x4158 : Int) (x4157 : List Int) : Link impl_FlatOk_ctx LL (Code.fst (Code.snd (Code.fst (Code.snd (Code.snd (bodyOf Tryd.f41)))))) (Ann.fst (Ann.snd (Ann.fst (Ann.snd (Ann.snd impl_FlatOk_an))))) (⟨mkE 19 0 [(9, .slc 0), (10, .dat (.int .i64) x4158), (11, .dat (.int .i64) 0)], [some (.seq (.int .u64) x4157)]⟩ : St) (impl_FlatOk_n4 x4158 x4157) (Sum.elim (fun (t : Bool) => (Exit.ret, (⟨mkE 19 0 [(2, .dat .bool t)], []⟩ : St))) (fun (t : Unit) => ((Exit.exit 0), (⟨mkE 19 0 [], []⟩ : St)))) := by
  unfold impl_FlatOk_n4
  exact Link.cast (by kernel_rfl) (by kernel_rfl) (link_loop (mk := fun (s : Int) => (⟨mkE 19 0 [(9, .slc 0), (10, .dat (.int .i64) x4158), (11, .dat (.int .i64) s)], [some (.seq (.int .u64) x4157)]⟩ : St)) (fin := (Sum.elim (fun (t : Bool) => (Exit.ret, (⟨mkE 19 0 [(2, .dat .bool t)], []⟩ : St))) (fun (t : Unit) => ((Exit.exit 0), (⟨mkE 19 0 [], []⟩ : St))))) (by
  rintro (t | t) f K h
  · exact h
  · exact h) (fun s => link_map (impl_FlatOk_n3_l x4158 s x4157) (Sum.elim (fun (t : Int) => Sum.inl t) (Sum.elim (fun (t : Bool) => Sum.inr (Sum.inl t)) (fun (t : Unit) => Sum.inr (Sum.inr t)))) (by
  rintro (t | t | t)
  · kernel_rfl
  · kernel_rfl
  · kernel_rfl)) 0)

theorem impl_FlatOk_n5_l (x4158 : Int) (x4157 : List Int) : Link impl_FlatOk_ctx LL (Code.snd (Code.fst (Code.snd (Code.snd (bodyOf Tryd.f41))))) (Ann.snd (Ann.fst (Ann.snd (Ann.snd impl_FlatOk_an)))) (⟨mkE 19 0 [(9, .slc 0), (10, .dat (.int .i64) x4158), (11, .dat (.int .i64) 0)], [some (.seq (.int .u64) x4157)]⟩ : St) (impl_FlatOk_n5 x4158 x4157) (Sum.elim (fun (t : Unit) => (Exit.normal, (⟨mkE 19 0 [], []⟩ : St))) (fun (t : Bool) => (Exit.ret, (⟨mkE 19 0 [(2, .dat .bool t)], []⟩ : St)))) := by
  unfold impl_FlatOk_n5
  exact Link.cast (by kernel_rfl) (by kernel_rfl) (link_block (id := 0) (impl_FlatOk_n4_l x4158 x4157) (Sum.elim (fun (t : Bool) => (Sum.inr t)) (fun (t : Unit) => (Sum.inl ()))) (by
  rintro (t | t) K h
  · exact Eq.mp (by kernel_rfl) h
  · exact Eq.mp (by kernel_rfl) h))

theorem impl_FlatOk_n6_l (x4154 : List Int) : Link impl_FlatOk_ctx LL (Code.fst (Code.snd (Code.snd (bodyOf Tryd.f41)))) (Ann.fst (Ann.snd (Ann.snd impl_FlatOk_an))) (⟨mkE 19 0 [(0, .dat (.list (.int .i64)) x4154)], []⟩ : St) (impl_FlatOk_n6 x4154) (Sum.elim (fun (t : Unit) => (Exit.normal, (⟨mkE 19 0 [], []⟩ : St))) (fun (t : Bool) => (Exit.ret, (⟨mkE 19 0 [(2, .dat .bool t)], []⟩ : St)))) := by
  unfold impl_FlatOk_n6
  exact Link.cast (by kernel_rfl) (by kernel_rfl) (link_seq (b := (Code.snd (Code.fst (Code.snd (Code.snd (bodyOf Tryd.f41)))))) (y := (Ann.snd (Ann.fst (Ann.snd (Ann.snd impl_FlatOk_an))))) (impl_FlatOk_n2_l x4154) (fun (t : Int × (List Int)) => (impl_FlatOk_n5_l t.1 t.2)))

theorem impl_FlatOk_n7_l : Link impl_FlatOk_ctx LL (Code.snd (Code.snd (Code.snd (bodyOf Tryd.f41)))) (Ann.snd (Ann.snd (Ann.snd impl_FlatOk_an))) (⟨mkE 19 0 [], []⟩ : St) (impl_FlatOk_n7) (fun (t : Bool) => (Exit.ret, (⟨mkE 19 0 [(2, .dat .bool t)], []⟩ : St))) := by
  refine Link.of fun K h => ?_
  simp only [impl_FlatOk_n7, wpO_bind, wpO_cond, wpO_map, wpO_some] at h
  exact Awp.of (by kernel_rfl) h

theorem impl_FlatOk_n8_l (x4154 : List Int) : Link impl_FlatOk_ctx LL (Code.snd (Code.snd (bodyOf Tryd.f41))) (Ann.snd (Ann.snd impl_FlatOk_an)) (⟨mkE 19 0 [(0, .dat (.list (.int .i64)) x4154)], []⟩ : St) (impl_FlatOk_n8 x4154) (fun (t : Bool) => (Exit.ret, (⟨mkE 19 0 [(2, .dat .bool t)], []⟩ : St))) := by
  unfold impl_FlatOk_n8
  exact Link.cast (by kernel_rfl) (by kernel_rfl) (link_seq2 (b := (Code.snd (Code.snd (Code.snd (bodyOf Tryd.f41))))) (y := (Ann.snd (Ann.snd (Ann.snd impl_FlatOk_an)))) (impl_FlatOk_n6_l x4154) (fun (t : Unit) => (impl_FlatOk_n7_l)) (fun (t : Bool) => t) (by
  rintro t
  · kernel_rfl) (by
  rintro t f K h
  · exact h))

theorem impl_FlatOk_n9_l (x4154 : List Int) : Link impl_FlatOk_ctx LL (bodyOf Tryd.f41) impl_FlatOk_an (⟨mkE 19 0 [(0, .dat (.list (.int .i64)) x4154)], []⟩ : St) (impl_FlatOk_n9 x4154) (fun (t : Bool) => (Exit.ret, (⟨mkE 19 0 [(2, .dat .bool t)], []⟩ : St))) := by
  unfold impl_FlatOk_n9
  exact Link.cast (by kernel_rfl) (by kernel_rfl) (link_group (c := (Code.fst (Code.snd (bodyOf Tryd.f41)))) (a := (Ann.fst (Ann.snd impl_FlatOk_an))) [(Code.fst (bodyOf Tryd.f41))] [(Ann.fst impl_FlatOk_an)] rfl (link_seq2 (b := (Code.snd (Code.snd (bodyOf Tryd.f41)))) (y := (Ann.snd (Ann.snd impl_FlatOk_an))) (impl_FlatOk_n1_l x4154) (fun (t : Unit) => (impl_FlatOk_n8_l x4154)) (fun (t : Bool) => t) (by
  rintro t
  · kernel_rfl) (by
  rintro t f K h
  · exact h)))

theorem impl_FlatOk_e (x4154 : List Int) {r : AV} {H' : Heap} (h : (Ans.mk _ (impl_FlatOk x4154) (fun (t : Bool) => (.dat .bool t, []))).run = some (r, H')) : Awp impl_FlatOk_ctx LL (bodyOf Tryd.f41) impl_FlatOk_an (⟨mkE 19 0 [(0, .dat (.list (.int .i64)) x4154)], []⟩ : St) (Ret (tlook tys) Tryd.f41.results.toList r H') :=
  ret_of' (impl_FlatOk_n9_l x4154) (by unfold impl_FlatOk; kernel_rfl) (by
  intro t
  exact ret_mk [.dat .bool t] (by kernel_rfl) (by kernel_rfl) (by kernel_rfl) (by kernel_rfl)) h

def F_impl_FlatOk : Fun := fun avs H =>
  match avs, H with
  | [.dat (.list (.int .i64)) x4154], [] => ⟨_, impl_FlatOk x4154, fun (t : Bool) => (.dat .bool t, [])⟩
  | _, _ => Ans.no

theorem impl_FlatOk_sound : Sound Tryd.prog 41 F_impl_FlatOk := by
  refine fn_sound' (C := impl_FlatOk_ctx) (c := bodyOf Tryd.f41) (cok_of tys_ok (List.forall_mem_cons.2 ⟨impl_TreeOk_sound, List.forall_mem_cons.2 ⟨impl_yieldsOf_sound, List.forall_mem_cons.2 ⟨impl_wordSet_isRow_sound, by simp⟩⟩⟩) (List.forall_mem_cons.2 ⟨Tryd.call40, List.forall_mem_cons.2 ⟨Tryd.call56, List.forall_mem_cons.2 ⟨Tryd.call76, by simp⟩⟩⟩) (by kernel_rfl)) Tryd.func41 (by kernel_rfl) LL impl_FlatOk_an ?_
  intro avs H r H' h
  unfold F_impl_FlatOk at h
  split at h
  · refine Awp.cast ?_ ?_ ?_ (impl_FlatOk_e _ h) <;> kernel_rfl
  · simp [Ans.no, Ans.run] at h


/-! loop.example/headtrees/laws.FnCrossingsOf -/

def laws_FnCrossingsOf_an : Ann := (.seq (.leaf [0]) (.seq (.seq (.leaf [0, 7]) (.cond (.seq (.leaf [2]) (.leaf [2])) (.leaf [0]))) (.seq (.leaf [3]) (.seq (.leaf [3, 4]) (.seq (.seq (.leaf [3, 4, 15]) (.cond (.seq (.leaf [2]) (.leaf [2])) (.leaf [3, 4]))) (.seq (.seq (.leaf [3, 4, 17]) (.cond (.seq (.leaf [2]) (.leaf [2])) (.leaf [3, 4]))) (.seq (.leaf [2]) (.leaf [2]))))))))

noncomputable def laws_FnCrossingsOf_ctx : Ctx := ⟨tlook tys, olook [(37, F_spec_DrawCrossingsOf), (38, F_impl_CrossingsOf), (39, F_spec_CrossingsOf), (40, F_impl_TreeOk), (20, F_laws_alive), (42, F_impl_BackOf), (41, F_impl_FlatOk)], ioF, 0⟩

theorem laws_FnCrossingsOf_n1_l (x3048 : List Int) : Link laws_FnCrossingsOf_ctx LL (bodyOf Tryd.f8) laws_FnCrossingsOf_an (⟨mkE 50 0 [(0, .dat (.list (.int .u8)) x3048)], []⟩ : St) (laws_FnCrossingsOf_n1 x3048) (fun (t : Bool) => (Exit.ret, (⟨mkE 50 0 [(2, .dat .bool t)], []⟩ : St))) := by
  refine Link.of fun K h => ?_
  simp only [laws_FnCrossingsOf_n1, wpO_bind, wpO_cond, wpO_map, wpO_some] at h
  exact Awp.of (by kernel_rfl) h

theorem laws_FnCrossingsOf_e (x3048 : List Int) {r : AV} {H' : Heap} (h : (Ans.mk _ (laws_FnCrossingsOf x3048) (fun (t : Bool) => (.dat .bool t, []))).run = some (r, H')) : Awp laws_FnCrossingsOf_ctx LL (bodyOf Tryd.f8) laws_FnCrossingsOf_an (⟨mkE 50 0 [(0, .dat (.list (.int .u8)) x3048)], []⟩ : St) (Ret (tlook tys) Tryd.f8.results.toList r H') :=
  ret_of' (laws_FnCrossingsOf_n1_l x3048) (by unfold laws_FnCrossingsOf; kernel_rfl) (by
  intro t
  exact ret_mk [.dat .bool t] (by kernel_rfl) (by kernel_rfl) (by kernel_rfl) (by kernel_rfl)) h

def F_laws_FnCrossingsOf : Fun := fun avs H =>
  match avs, H with
  | [.dat (.list (.int .u8)) x3048], [] => ⟨_, laws_FnCrossingsOf x3048, fun (t : Bool) => (.dat .bool t, [])⟩
  | _, _ => Ans.no

theorem laws_FnCrossingsOf_sound : Sound Tryd.prog 8 F_laws_FnCrossingsOf := by
  refine fn_sound' (C := laws_FnCrossingsOf_ctx) (c := bodyOf Tryd.f8) (cok_of tys_ok (List.forall_mem_cons.2 ⟨spec_DrawCrossingsOf_sound, List.forall_mem_cons.2 ⟨impl_CrossingsOf_sound, List.forall_mem_cons.2 ⟨spec_CrossingsOf_sound, List.forall_mem_cons.2 ⟨impl_TreeOk_sound, List.forall_mem_cons.2 ⟨laws_alive_sound, List.forall_mem_cons.2 ⟨impl_BackOf_sound, List.forall_mem_cons.2 ⟨impl_FlatOk_sound, by simp⟩⟩⟩⟩⟩⟩⟩) (List.forall_mem_cons.2 ⟨Tryd.call37, List.forall_mem_cons.2 ⟨Tryd.call38, List.forall_mem_cons.2 ⟨Tryd.call39, List.forall_mem_cons.2 ⟨Tryd.call40, List.forall_mem_cons.2 ⟨Tryd.call20, List.forall_mem_cons.2 ⟨Tryd.call42, List.forall_mem_cons.2 ⟨Tryd.call41, by simp⟩⟩⟩⟩⟩⟩⟩) (by kernel_rfl)) Tryd.func8 (by kernel_rfl) LL laws_FnCrossingsOf_an ?_
  intro avs H r H' h
  unfold F_laws_FnCrossingsOf at h
  split at h
  · refine Awp.cast ?_ ?_ ?_ (laws_FnCrossingsOf_e _ h) <;> kernel_rfl
  · simp [Ans.no, Ans.run] at h


end Go.Rv
