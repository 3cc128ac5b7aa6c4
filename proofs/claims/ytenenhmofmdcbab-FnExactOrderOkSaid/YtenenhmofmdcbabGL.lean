/-
  The checked code answers as the plain functions do; written by program. Conditions: none.
-/
import Derived.Test.YtenenhmofmdcbabGLa
set_option linter.unusedVariables false
set_option linter.unusedSimpArgs false
set_option maxRecDepth 100000
namespace Go.Rv
open Go.Proofs
/-! loop.example/headtrees/spec.OrderOk -/

def spec_OrderOk_an : Ann := (.seq (.leaf [0, 1]) (.seq (.seq (.leaf [0, 1, 5]) (.block (.loop (.seq (.seq (.leaf [0, 1, 5, 10]) (.cond (.leaf [0, 1, 5]) (.leaf [0, 1]))) (.seq (.block (.seq (.seq (.leaf [0, 1, 5, 19]) (.cond (.seq (.leaf [4]) (.leaf [4])) (.leaf [0, 1, 5]))) (.seq (.leaf [0, 1, 5, 6]) (.block (.loop (.seq (.seq (.leaf [0, 1, 5, 6, 22]) (.cond (.leaf [0, 1, 5, 6]) (.leaf [0, 1, 5]))) (.seq (.block (.seq (.draw [] [0, 1, 2, 3, 4, 5, 6, 7, 8] [] [0, 1, 5, 6, 33]) (.cond (.seq (.leaf [4]) (.leaf [4])) (.leaf [0, 1, 5, 6])))) (.leaf [0, 1, 5, 6])))))))) (.leaf [0, 1, 5])))))) (.seq (.leaf [4]) (.leaf [4]))))

noncomputable def spec_OrderOk_ctx : Ctx := ⟨tlook tys, olook [(29, F_spec_l1In)], ioF, 0⟩

theorem spec_OrderOk_n1_l (x1168 : List Int) (x1169 : Int) : Link spec_OrderOk_ctx LL (Code.fst (bodyOf Try.f19)) (Ann.fst spec_OrderOk_an) (⟨mkE 42 0 [(0, .dat (.list (.int .i64)) x1168), (1, .dat (.int .i64) x1169)], []⟩ : St) (spec_OrderOk_n1) (fun (t : Unit) => (Exit.normal, (⟨mkE 42 0 [(0, .dat (.list (.int .i64)) x1168), (1, .dat (.int .i64) x1169)], []⟩ : St))) := by
  refine Link.of fun K h => ?_
  simp only [spec_OrderOk_n1, wpO_bind, wpO_cond, wpO_map, wpO_some] at h
  exact Awp.of (by kernel_rfl) h

theorem spec_OrderOk_n2_l (x1168 : List Int) (x1169 : Int) : Link spec_OrderOk_ctx LL (Code.fst (Code.fst (Code.snd (bodyOf Try.f19)))) (Ann.fst (Ann.fst (Ann.snd spec_OrderOk_an))) (⟨mkE 42 0 [(0, .dat (.list (.int .i64)) x1168), (1, .dat (.int .i64) x1169)], []⟩ : St) (spec_OrderOk_n2) (fun (t : Unit) => (Exit.normal, (⟨mkE 42 0 [(0, .dat (.list (.int .i64)) x1168), (1, .dat (.int .i64) x1169), (5, .dat (.int .i64) 0)], []⟩ : St))) := by
  refine Link.of fun K h => ?_
  simp only [spec_OrderOk_n2, wpO_bind, wpO_cond, wpO_map, wpO_some] at h
  exact Awp.of (by kernel_rfl) h

theorem spec_OrderOk_n3_l (x1168 : List Int) (x1169 : Int) (x1200 : Int) : Link spec_OrderOk_ctx LL (Code.fst (Code.fst (Code.fst (Code.snd (Code.fst (Code.snd (bodyOf Try.f19))))))) (Ann.fst (Ann.fst (Ann.fst (Ann.snd (Ann.fst (Ann.snd spec_OrderOk_an)))))) (⟨mkE 42 0 [(0, .dat (.list (.int .i64)) x1168), (1, .dat (.int .i64) x1169), (5, .dat (.int .i64) x1200)], []⟩ : St) (spec_OrderOk_n3 x1168 x1200) (Sum.elim (fun (t : Unit) => (Exit.normal, (⟨mkE 42 0 [(0, .dat (.list (.int .i64)) x1168), (1, .dat (.int .i64) x1169), (5, .dat (.int .i64) x1200)], []⟩ : St))) (fun (t : Unit) => ((Exit.exit 0), (⟨mkE 42 0 [(0, .dat (.list (.int .i64)) x1168), (1, .dat (.int .i64) x1169)], []⟩ : St)))) := by
  refine Link.of fun K h => ?_
  simp only [spec_OrderOk_n3, wpO_bind, wpO_cond, wpO_map, wpO_some] at h
  exact Awp.of (by kernel_rfl) h

theorem spec_OrderOk_n4_l (x1168 : List Int) (x1169 : Int) (x1200 : Int) : Link spec_OrderOk_ctx LL (Code.seq (Code.fst (Code.fst (Code.fst (Code.snd (Code.fst (Code.fst (Code.snd (Code.fst (Code.snd (bodyOf Try.f19)))))))))) (Code.fst (Code.snd (Code.fst (Code.fst (Code.snd (Code.fst (Code.fst (Code.snd (Code.fst (Code.snd (bodyOf Try.f19)))))))))))) (Ann.seq (Ann.fst (Ann.fst (Ann.fst (Ann.snd (Ann.fst (Ann.fst (Ann.snd (Ann.fst (Ann.snd spec_OrderOk_an))))))))) (Ann.fst (Ann.snd (Ann.fst (Ann.fst (Ann.snd (Ann.fst (Ann.fst (Ann.snd (Ann.fst (Ann.snd spec_OrderOk_an))))))))))) (⟨mkE 42 0 [(0, .dat (.list (.int .i64)) x1168), (1, .dat (.int .i64) x1169), (5, .dat (.int .i64) x1200)], []⟩ : St) (spec_OrderOk_n4 x1168 x1169 x1200) (Sum.elim (fun (t : Unit) => (Exit.normal, (⟨mkE 42 0 [(0, .dat (.list (.int .i64)) x1168), (1, .dat (.int .i64) x1169), (5, .dat (.int .i64) x1200), (6, .dat (.int .i64) 0)], []⟩ : St))) (fun (t : Bool) => (Exit.ret, (⟨mkE 42 0 [(4, .dat .bool t)], []⟩ : St)))) := by
  refine Link.of fun K h => ?_
  simp only [spec_OrderOk_n4, wpO_bind, wpO_cond, wpO_map, wpO_some] at h
  exact Awp.of (by kernel_rfl) h

theorem spec_OrderOk_n5_l (x1168 : List Int) (x1169 : Int) (x1200 : Int) (x1219 : Int) : Link spec_OrderOk_ctx LL (Code.fst (Code.fst (Code.snd (Code.snd (Code.fst (Code.fst (Code.snd (Code.fst (Code.fst (Code.snd (Code.fst (Code.snd (bodyOf Try.f19))))))))))))) (Ann.fst (Ann.fst (Ann.snd (Ann.snd (Ann.fst (Ann.fst (Ann.snd (Ann.fst (Ann.fst (Ann.snd (Ann.fst (Ann.snd spec_OrderOk_an)))))))))))) (⟨mkE 42 0 [(0, .dat (.list (.int .i64)) x1168), (1, .dat (.int .i64) x1169), (5, .dat (.int .i64) x1200), (6, .dat (.int .i64) x1219)], []⟩ : St) (spec_OrderOk_n5 x1168 x1200 x1219) (Sum.elim (fun (t : Int) => (Exit.normal, (⟨mkE 42 0 [(0, .dat (.list (.int .i64)) x1168), (1, .dat (.int .i64) x1169), (5, .dat (.int .i64) x1200), (6, .dat (.int .i64) t)], []⟩ : St))) (Sum.elim (fun (t : Bool) => (Exit.ret, (⟨mkE 42 0 [(4, .dat .bool t)], []⟩ : St))) (fun (t : Unit) => ((Exit.exit 2), (⟨mkE 42 0 [(0, .dat (.list (.int .i64)) x1168), (1, .dat (.int .i64) x1169), (5, .dat (.int .i64) x1200)], []⟩ : St))))) := by
  refine Link.of fun K h => ?_
  simp only [spec_OrderOk_n5, wpO_bind, wpO_cond, wpO_map, wpO_some] at h
  exact Awp.of (by kernel_rfl) h

theorem spec_OrderOk_n6_l (x1168 : List Int) (x1169 : Int) (x1200 : Int) : Link spec_OrderOk_ctx LL (Code.fst (Code.snd (Code.snd (Code.fst (Code.fst (Code.snd (Code.fst (Code.fst (Code.snd (Code.fst (Code.snd (bodyOf Try.f19)))))))))))) (Ann.fst (Ann.snd (Ann.snd (Ann.fst (Ann.fst (Ann.snd (Ann.fst (Ann.fst (Ann.snd (Ann.fst (Ann.snd spec_OrderOk_an))))))))))) (⟨mkE 42 0 [(0, .dat (.list (.int .i64)) x1168), (1, .dat (.int .i64) x1169), (5, .dat (.int .i64) x1200), (6, .dat (.int .i64) 0)], []⟩ : St) (spec_OrderOk_n6 x1168 x1200) (Sum.elim (fun (t : Bool) => (Exit.ret, (⟨mkE 42 0 [(4, .dat .bool t)], []⟩ : St))) (fun (t : Unit) => ((Exit.exit 2), (⟨mkE 42 0 [(0, .dat (.list (.int .i64)) x1168), (1, .dat (.int .i64) x1169), (5, .dat (.int .i64) x1200)], []⟩ : St)))) := by
  unfold spec_OrderOk_n6
  exact Link.cast (by kernel_rfl) (by kernel_rfl) (link_loop (mk := fun (s : Int) => (⟨mkE 42 0 [(0, .dat (.list (.int .i64)) x1168), (1, .dat (.int .i64) x1169), (5, .dat (.int .i64) x1200), (6, .dat (.int .i64) s)], []⟩ : St)) (fin := (Sum.elim (fun (t : Bool) => (Exit.ret, (⟨mkE 42 0 [(4, .dat .bool t)], []⟩ : St))) (fun (t : Unit) => ((Exit.exit 2), (⟨mkE 42 0 [(0, .dat (.list (.int .i64)) x1168), (1, .dat (.int .i64) x1169), (5, .dat (.int .i64) x1200)], []⟩ : St))))) (by
  rintro (t | t) f K h
  · exact h
  · exact h) (fun s => link_map (spec_OrderOk_n5_l x1168 x1169 x1200 s) (Sum.elim (fun (t : Int) => Sum.inl t) (Sum.elim (fun (t : Bool) => Sum.inr (Sum.inl t)) (fun (t : Unit) => Sum.inr (Sum.inr t)))) (by
  rintro (t | t | t)
  · kernel_rfl
  · kernel_rfl
  · kernel_rfl)) 0)

theorem spec_OrderOk_n7_l (x1168 : List Int) (x1169 : Int) (x1200 : Int) : Link spec_OrderOk_ctx LL (Code.snd (Code.snd (Code.fst (Code.fst (Code.snd (Code.fst (Code.fst (Code.snd (Code.fst (Code.snd (bodyOf Try.f19))))))))))) (Ann.snd (Ann.snd (Ann.fst (Ann.fst (Ann.snd (Ann.fst (Ann.fst (Ann.snd (Ann.fst (Ann.snd spec_OrderOk_an)))))))))) (⟨mkE 42 0 [(0, .dat (.list (.int .i64)) x1168), (1, .dat (.int .i64) x1169), (5, .dat (.int .i64) x1200), (6, .dat (.int .i64) 0)], []⟩ : St) (spec_OrderOk_n7 x1168 x1200) (Sum.elim (fun (t : Unit) => (Exit.normal, (⟨mkE 42 0 [(0, .dat (.list (.int .i64)) x1168), (1, .dat (.int .i64) x1169), (5, .dat (.int .i64) x1200)], []⟩ : St))) (fun (t : Bool) => (Exit.ret, (⟨mkE 42 0 [(4, .dat .bool t)], []⟩ : St)))) := by
  unfold spec_OrderOk_n7
  exact Link.cast (by kernel_rfl) (by kernel_rfl) (link_block (id := 2) (spec_OrderOk_n6_l x1168 x1169 x1200) (Sum.elim (fun (t : Bool) => (Sum.inr t)) (fun (t : Unit) => (Sum.inl ()))) (by
  rintro (t | t) K h
  · exact Eq.mp (by kernel_rfl) h
  · exact Eq.mp (by kernel_rfl) h))

theorem spec_OrderOk_n8_l (x1168 : List Int) (x1169 : Int) (x1200 : Int) : Link spec_OrderOk_ctx LL (Code.fst (Code.fst (Code.snd (Code.fst (Code.fst (Code.snd (Code.fst (Code.snd (bodyOf Try.f19))))))))) (Ann.fst (Ann.fst (Ann.snd (Ann.fst (Ann.fst (Ann.snd (Ann.fst (Ann.snd spec_OrderOk_an)))))))) (⟨mkE 42 0 [(0, .dat (.list (.int .i64)) x1168), (1, .dat (.int .i64) x1169), (5, .dat (.int .i64) x1200)], []⟩ : St) (spec_OrderOk_n8 x1168 x1169 x1200) (Sum.elim (fun (t : Unit) => (Exit.normal, (⟨mkE 42 0 [(0, .dat (.list (.int .i64)) x1168), (1, .dat (.int .i64) x1169), (5, .dat (.int .i64) x1200)], []⟩ : St))) (fun (t : Bool) => (Exit.ret, (⟨mkE 42 0 [(4, .dat .bool t)], []⟩ : St)))) := by
  unfold spec_OrderOk_n8
  exact Link.cast (by kernel_rfl) (by kernel_rfl) (link_group (c := (Code.fst (Code.snd (Code.fst (Code.fst (Code.snd (Code.fst (Code.fst (Code.snd (Code.fst (Code.snd (bodyOf Try.f19)))))))))))) (a := (Ann.fst (Ann.snd (Ann.fst (Ann.fst (Ann.snd (Ann.fst (Ann.fst (Ann.snd (Ann.fst (Ann.snd spec_OrderOk_an))))))))))) [(Code.fst (Code.fst (Code.fst (Code.snd (Code.fst (Code.fst (Code.snd (Code.fst (Code.snd (bodyOf Try.f19))))))))))] [(Ann.fst (Ann.fst (Ann.fst (Ann.snd (Ann.fst (Ann.fst (Ann.snd (Ann.fst (Ann.snd spec_OrderOk_an)))))))))] rfl (link_seq2 (b := (Code.snd (Code.snd (Code.fst (Code.fst (Code.snd (Code.fst (Code.fst (Code.snd (Code.fst (Code.snd (bodyOf Try.f19)))))))))))) (y := (Ann.snd (Ann.snd (Ann.fst (Ann.fst (Ann.snd (Ann.fst (Ann.fst (Ann.snd (Ann.fst (Ann.snd spec_OrderOk_an))))))))))) (spec_OrderOk_n4_l x1168 x1169 x1200) (fun (t : Unit) => (spec_OrderOk_n7_l x1168 x1169 x1200)) (fun (t : Bool) => (Sum.inr t)) (by
  rintro t
  · kernel_rfl) (by
  rintro t f K h
  · exact h)))

theorem spec_OrderOk_n9_l (x1168 : List Int) (x1169 : Int) (x1200 : Int) : Link spec_OrderOk_ctx LL (Code.fst (Code.snd (Code.fst (Code.fst (Code.snd (Code.fst (Code.snd (bodyOf Try.f19)))))))) (Ann.fst (Ann.snd (Ann.fst (Ann.fst (Ann.snd (Ann.fst (Ann.snd spec_OrderOk_an))))))) (⟨mkE 42 0 [(0, .dat (.list (.int .i64)) x1168), (1, .dat (.int .i64) x1169), (5, .dat (.int .i64) x1200)], []⟩ : St) (spec_OrderOk_n9 x1168 x1169 x1200) (Sum.elim (fun (t : Unit) => (Exit.normal, (⟨mkE 42 0 [(0, .dat (.list (.int .i64)) x1168), (1, .dat (.int .i64) x1169), (5, .dat (.int .i64) x1200)], []⟩ : St))) (fun (t : Bool) => (Exit.ret, (⟨mkE 42 0 [(4, .dat .bool t)], []⟩ : St)))) := by
  unfold spec_OrderOk_n9
  exact Link.cast (by kernel_rfl) (by kernel_rfl) (link_block (id := 1) (spec_OrderOk_n8_l x1168 x1169 x1200) (Sum.elim (fun (t : Unit) => (Sum.inl ())) (fun (t : Bool) => (Sum.inr t))) (by
  rintro (t | t) K h
  · exact Eq.mp (by kernel_rfl) h
  · exact Eq.mp (by kernel_rfl) h))

theorem spec_OrderOk_n10_l (x1168 : List Int) (x1169 : Int) (x1200 : Int) : Link spec_OrderOk_ctx LL (Code.snd (Code.snd (Code.fst (Code.fst (Code.snd (Code.fst (Code.snd (bodyOf Try.f19)))))))) (Ann.snd (Ann.snd (Ann.fst (Ann.fst (Ann.snd (Ann.fst (Ann.snd spec_OrderOk_an))))))) (⟨mkE 42 0 [(0, .dat (.list (.int .i64)) x1168), (1, .dat (.int .i64) x1169), (5, .dat (.int .i64) x1200)], []⟩ : St) (spec_OrderOk_n10 x1200) (fun (t : Int) => (Exit.normal, (⟨mkE 42 0 [(0, .dat (.list (.int .i64)) x1168), (1, .dat (.int .i64) x1169), (5, .dat (.int .i64) t)], []⟩ : St))) := by
  refine Link.of fun K h => ?_
  simp only [spec_OrderOk_n10, wpO_bind, wpO_cond, wpO_map, wpO_some] at h
  exact Awp.of (by kernel_rfl) h

theorem spec_OrderOk_n11_l (x1168 : List Int) (x1169 : Int) (x1200 : Int) : Link spec_OrderOk_ctx LL (Code.snd (Code.fst (Code.fst (Code.snd (Code.fst (Code.snd (bodyOf Try.f19))))))) (Ann.snd (Ann.fst (Ann.fst (Ann.snd (Ann.fst (Ann.snd spec_OrderOk_an)))))) (⟨mkE 42 0 [(0, .dat (.list (.int .i64)) x1168), (1, .dat (.int .i64) x1169), (5, .dat (.int .i64) x1200)], []⟩ : St) (spec_OrderOk_n11 x1168 x1169 x1200) (Sum.elim (fun (t : Int) => (Exit.normal, (⟨mkE 42 0 [(0, .dat (.list (.int .i64)) x1168), (1, .dat (.int .i64) x1169), (5, .dat (.int .i64) t)], []⟩ : St))) (fun (t : Bool) => (Exit.ret, (⟨mkE 42 0 [(4, .dat .bool t)], []⟩ : St)))) := by
  unfold spec_OrderOk_n11
  exact Link.cast (by kernel_rfl) (by kernel_rfl) (link_seq2 (b := (Code.snd (Code.snd (Code.fst (Code.fst (Code.snd (Code.fst (Code.snd (bodyOf Try.f19))))))))) (y := (Ann.snd (Ann.snd (Ann.fst (Ann.fst (Ann.snd (Ann.fst (Ann.snd spec_OrderOk_an)))))))) (spec_OrderOk_n9_l x1168 x1169 x1200) (fun (t : Unit) => (link_map (spec_OrderOk_n10_l x1168 x1169 x1200) (fun (t : Int) => (Sum.inl t)) (by
  rintro t
  · kernel_rfl))) (fun (t : Bool) => (Sum.inr t)) (by
  rintro t
  · kernel_rfl) (by
  rintro t f K h
  · exact h))

theorem spec_OrderOk_n12_l (x1168 : List Int) (x1169 : Int) (x1200 : Int) : Link spec_OrderOk_ctx LL (Code.fst (Code.fst (Code.snd (Code.fst (Code.snd (bodyOf Try.f19)))))) (Ann.fst (Ann.fst (Ann.snd (Ann.fst (Ann.snd spec_OrderOk_an))))) (⟨mkE 42 0 [(0, .dat (.list (.int .i64)) x1168), (1, .dat (.int .i64) x1169), (5, .dat (.int .i64) x1200)], []⟩ : St) (spec_OrderOk_n12 x1168 x1169 x1200) (Sum.elim (fun (t : Int) => (Exit.normal, (⟨mkE 42 0 [(0, .dat (.list (.int .i64)) x1168), (1, .dat (.int .i64) x1169), (5, .dat (.int .i64) t)], []⟩ : St))) (Sum.elim (fun (t : Bool) => (Exit.ret, (⟨mkE 42 0 [(4, .dat .bool t)], []⟩ : St))) (fun (t : Unit) => ((Exit.exit 0), (⟨mkE 42 0 [(0, .dat (.list (.int .i64)) x1168), (1, .dat (.int .i64) x1169)], []⟩ : St))))) := by
  unfold spec_OrderOk_n12
  exact Link.cast (by kernel_rfl) (by kernel_rfl) (link_seq2 (b := (Code.snd (Code.fst (Code.fst (Code.snd (Code.fst (Code.snd (bodyOf Try.f19)))))))) (y := (Ann.snd (Ann.fst (Ann.fst (Ann.snd (Ann.fst (Ann.snd spec_OrderOk_an))))))) (spec_OrderOk_n3_l x1168 x1169 x1200) (fun (t : Unit) => (link_map (spec_OrderOk_n11_l x1168 x1169 x1200) (Sum.elim (fun (t : Int) => (Sum.inl t)) (fun (t : Bool) => (Sum.inr (Sum.inl t)))) (by
  rintro (t | t)
  · kernel_rfl
  · kernel_rfl))) (fun (t : Unit) => (Sum.inr (Sum.inr t))) (by
  rintro t
  · kernel_rfl) (by
  rintro t f K h
  · exact h))

theorem spec_OrderOk_n13_l (x1168 : List Int) (x1169 : Int) : Link spec_OrderOk_ctx LL (Code.fst (Code.snd (Code.fst (Code.snd (bodyOf Try.f19))))) (Ann.fst (Ann.snd (Ann.fst (Ann.snd spec_OrderOk_an)))) (⟨mkE 42 0 [(0, .dat (.list (.int .i64)) x1168), (1, .dat (.int .i64) x1169), (5, .dat (.int .i64) 0)], []⟩ : St) (spec_OrderOk_n13 x1168 x1169) (Sum.elim (fun (t : Bool) => (Exit.ret, (⟨mkE 42 0 [(4, .dat .bool t)], []⟩ : St))) (fun (t : Unit) => ((Exit.exit 0), (⟨mkE 42 0 [(0, .dat (.list (.int .i64)) x1168), (1, .dat (.int .i64) x1169)], []⟩ : St)))) := by
  unfold spec_OrderOk_n13
  exact Link.cast (by kernel_rfl) (by kernel_rfl) (link_loop (mk := fun (s : Int) => (⟨mkE 42 0 [(0, .dat (.list (.int .i64)) x1168), (1, .dat (.int .i64) x1169), (5, .dat (.int .i64) s)], []⟩ : St)) (fin := (Sum.elim (fun (t : Bool) => (Exit.ret, (⟨mkE 42 0 [(4, .dat .bool t)], []⟩ : St))) (fun (t : Unit) => ((Exit.exit 0), (⟨mkE 42 0 [(0, .dat (.list (.int .i64)) x1168), (1, .dat (.int .i64) x1169)], []⟩ : St))))) (by
  rintro (t | t) f K h
  · exact h
  · exact h) (fun s => link_map (spec_OrderOk_n12_l x1168 x1169 s) (Sum.elim (fun (t : Int) => Sum.inl t) (Sum.elim (fun (t : Bool) => Sum.inr (Sum.inl t)) (fun (t : Unit) => Sum.inr (Sum.inr t)))) (by
  rintro (t | t | t)
  · kernel_rfl
  · kernel_rfl
  · kernel_rfl)) 0)

theorem spec_OrderOk_n14_l (x1168 : List Int) (x1169 : Int) : Link spec_OrderOk_ctx LL (Code.snd (Code.fst (Code.snd (bodyOf Try.f19)))) (Ann.snd (Ann.fst (Ann.snd spec_OrderOk_an))) (⟨mkE 42 0 [(0, .dat (.list (.int .i64)) x1168), (1, .dat (.int .i64) x1169), (5, .dat (.int .i64) 0)], []⟩ : St) (spec_OrderOk_n14 x1168 x1169) (Sum.elim (fun (t : Unit) => (Exit.normal, (⟨mkE 42 0 [(0, .dat (.list (.int .i64)) x1168), (1, .dat (.int .i64) x1169)], []⟩ : St))) (fun (t : Bool) => (Exit.ret, (⟨mkE 42 0 [(4, .dat .bool t)], []⟩ : St)))) := by
  unfold spec_OrderOk_n14
  exact Link.cast (by kernel_rfl) (by kernel_rfl) (link_block (id := 0) (spec_OrderOk_n13_l x1168 x1169) (Sum.elim (fun (t : Bool) => (Sum.inr t)) (fun (t : Unit) => (Sum.inl ()))) (by
  rintro (t | t) K h
  · exact Eq.mp (by kernel_rfl) h
  · exact Eq.mp (by kernel_rfl) h))

theorem spec_OrderOk_n15_l (x1168 : List Int) (x1169 : Int) : Link spec_OrderOk_ctx LL (Code.fst (Code.snd (bodyOf Try.f19))) (Ann.fst (Ann.snd spec_OrderOk_an)) (⟨mkE 42 0 [(0, .dat (.list (.int .i64)) x1168), (1, .dat (.int .i64) x1169)], []⟩ : St) (spec_OrderOk_n15 x1168 x1169) (Sum.elim (fun (t : Unit) => (Exit.normal, (⟨mkE 42 0 [(0, .dat (.list (.int .i64)) x1168), (1, .dat (.int .i64) x1169)], []⟩ : St))) (fun (t : Bool) => (Exit.ret, (⟨mkE 42 0 [(4, .dat .bool t)], []⟩ : St)))) := by
  unfold spec_OrderOk_n15
  exact Link.cast (by kernel_rfl) (by kernel_rfl) (link_seq (b := (Code.snd (Code.fst (Code.snd (bodyOf Try.f19))))) (y := (Ann.snd (Ann.fst (Ann.snd spec_OrderOk_an)))) (spec_OrderOk_n2_l x1168 x1169) (fun (t : Unit) => (spec_OrderOk_n14_l x1168 x1169)))

theorem spec_OrderOk_n16_l (x1168 : List Int) (x1169 : Int) : Link spec_OrderOk_ctx LL (Code.snd (Code.snd (bodyOf Try.f19))) (Ann.snd (Ann.snd spec_OrderOk_an)) (⟨mkE 42 0 [(0, .dat (.list (.int .i64)) x1168), (1, .dat (.int .i64) x1169)], []⟩ : St) (spec_OrderOk_n16 x1168 x1169) (fun (t : Bool) => (Exit.ret, (⟨mkE 42 0 [(4, .dat .bool t)], []⟩ : St))) := by
  refine Link.of fun K h => ?_
  simp only [spec_OrderOk_n16, wpO_bind, wpO_cond, wpO_map, wpO_some] at h
  exact Awp.of (by kernel_rfl) h

theorem spec_OrderOk_n17_l (x1168 : List Int) (x1169 : Int) : Link spec_OrderOk_ctx LL (Code.snd (bodyOf Try.f19)) (Ann.snd spec_OrderOk_an) (⟨mkE 42 0 [(0, .dat (.list (.int .i64)) x1168), (1, .dat (.int .i64) x1169)], []⟩ : St) (spec_OrderOk_n17 x1168 x1169) (fun (t : Bool) => (Exit.ret, (⟨mkE 42 0 [(4, .dat .bool t)], []⟩ : St))) := by
  unfold spec_OrderOk_n17
  exact Link.cast (by kernel_rfl) (by kernel_rfl) (link_seq2 (b := (Code.snd (Code.snd (bodyOf Try.f19)))) (y := (Ann.snd (Ann.snd spec_OrderOk_an))) (spec_OrderOk_n15_l x1168 x1169) (fun (t : Unit) => (spec_OrderOk_n16_l x1168 x1169)) (fun (t : Bool) => t) (by
  rintro t
  · kernel_rfl) (by
  rintro t f K h
  · exact h))

theorem spec_OrderOk_n18_l (x1168 : List Int) (x1169 : Int) : Link spec_OrderOk_ctx LL (bodyOf Try.f19) spec_OrderOk_an (⟨mkE 42 0 [(0, .dat (.list (.int .i64)) x1168), (1, .dat (.int .i64) x1169)], []⟩ : St) (spec_OrderOk_n18 x1168 x1169) (fun (t : Bool) => (Exit.ret, (⟨mkE 42 0 [(4, .dat .bool t)], []⟩ : St))) := by
  unfold spec_OrderOk_n18
  exact Link.cast (by kernel_rfl) (by kernel_rfl) (link_seq (b := (Code.snd (bodyOf Try.f19))) (y := (Ann.snd spec_OrderOk_an)) (spec_OrderOk_n1_l x1168 x1169) (fun (t : Unit) => (spec_OrderOk_n17_l x1168 x1169)))

theorem spec_OrderOk_e (x1168 : List Int) (x1169 : Int) {r : AV} {H' : Heap} (h : (Ans.mk _ (spec_OrderOk x1168 x1169) (fun (t : Bool) => (.dat .bool t, []))).run = some (r, H')) : Awp spec_OrderOk_ctx LL (bodyOf Try.f19) spec_OrderOk_an (⟨mkE 42 0 [(0, .dat (.list (.int .i64)) x1168), (1, .dat (.int .i64) x1169)], []⟩ : St) (Ret (tlook tys) Try.f19.results.toList r H') :=
  ret_of' (spec_OrderOk_n18_l x1168 x1169) (by unfold spec_OrderOk; kernel_rfl) (by
  intro t
  exact ret_mk [.dat .bool t] (by kernel_rfl) (by kernel_rfl) (by kernel_rfl) (by kernel_rfl)) h

def F_spec_OrderOk : Fun := fun avs H =>
  match avs, H with
  | [.dat (.list (.int .i64)) x1168, .dat (.int .i64) x1169], [] => ⟨_, spec_OrderOk x1168 x1169, fun (t : Bool) => (.dat .bool t, [])⟩
  | _, _ => Ans.no

theorem spec_OrderOk_sound : Sound Try.prog 19 F_spec_OrderOk := by
  refine fn_sound' (C := spec_OrderOk_ctx) (c := bodyOf Try.f19) (cok_of tys_ok (List.forall_mem_cons.2 ⟨spec_l1In_sound, by simp⟩) (List.forall_mem_cons.2 ⟨Try.call29, by simp⟩) (by kernel_rfl)) Try.func19 (by kernel_rfl) LL spec_OrderOk_an ?_
  intro avs H r H' h
  unfold F_spec_OrderOk at h
  split at h
  · refine Awp.cast ?_ ?_ ?_ (spec_OrderOk_e _ _ h) <;> kernel_rfl
  · simp [Ans.no, Ans.run] at h

/-! loop.example/headtrees/impl.OrderOk -/

def impl_OrderOk_an : Ann := (.seq (.leaf [0, 1]) (.seq (.seq (.leaf [0, 1, 19]) (.cond (.seq (.leaf [4]) (.leaf [4])) (.leaf [0, 1]))) (.seq (.leaf [0, 1, 5]) (.seq (.seq (.leaf [1, 5, 20, 21, 22]) (.block (.loop (.seq (.leaf [1, 5, 20, 21, 22, 23]) (.seq (.cond (.leaf [1, 5, 20, 21, 22]) (.leaf [])) (.seq (.block (.seq (.leaf [1, 5, 7, 20, 21, 22]) (.seq (.seq (.leaf [1, 5, 7, 20, 21, 22, 37]) (.cond (.seq (.leaf [4]) (.leaf [4])) (.leaf [1, 5, 7, 20, 21, 22]))) (.leaf [1, 5, 20, 21, 22])))) (.leaf [1, 5, 20, 21, 22]))))))) (.seq (.leaf [4]) (.leaf [4]))))))

noncomputable def impl_OrderOk_ctx : Ctx := ⟨tlook tys, olook [], ioF, 0⟩

theorem impl_OrderOk_n1_l (x1249 : List Int) (x1250 : Int) : Link impl_OrderOk_ctx LL (Code.seq (Code.fst (bodyOf Try.f20)) (Code.seq (Code.fst (Code.snd (bodyOf Try.f20))) (Code.fst (Code.snd (Code.snd (bodyOf Try.f20)))))) (Ann.seq (Ann.fst impl_OrderOk_an) (Ann.seq (Ann.fst (Ann.snd impl_OrderOk_an)) (Ann.fst (Ann.snd (Ann.snd impl_OrderOk_an))))) (⟨mkE 41 0 [(0, .dat (.list (.int .i64)) x1249), (1, .dat (.int .i64) x1250)], []⟩ : St) (impl_OrderOk_n1 x1249 x1250) (Sum.elim (fun (t : Unit) => (Exit.normal, (⟨mkE 41 0 [(0, .dat (.list (.int .i64)) x1249), (1, .dat (.int .i64) x1250), (5, .ptr 0 0)], [some (.seq .bool (List.replicate 9 false))]⟩ : St))) (fun (t : Bool) => (Exit.ret, (⟨mkE 41 0 [(4, .dat .bool t)], []⟩ : St)))) := by
  refine Link.of fun K h => ?_
  simp only [impl_OrderOk_n1, wpO_bind, wpO_cond, wpO_map, wpO_some] at h
  exact Awp.of (by kernel_rfl) h

theorem impl_OrderOk_n2_l (x1249 : List Int) (x1250 : Int) : Link impl_OrderOk_ctx LL (Code.fst (Code.fst (Code.snd (Code.snd (Code.snd (bodyOf Try.f20)))))) (Ann.fst (Ann.fst (Ann.snd (Ann.snd (Ann.snd impl_OrderOk_an))))) (⟨mkE 41 0 [(0, .dat (.list (.int .i64)) x1249), (1, .dat (.int .i64) x1250), (5, .ptr 0 0)], [some (.seq .bool (List.replicate 9 false))]⟩ : St) (impl_OrderOk_n2 x1249) (fun (t : Int) => (Exit.normal, (⟨mkE 41 0 [(1, .dat (.int .i64) x1250), (5, .ptr 0 0), (20, .dat (.list (.int .i64)) x1249), (21, .dat (.int .i64) t), (22, .dat (.int .i64) 0)], [some (.seq .bool (List.replicate 9 false))]⟩ : St))) := by
  refine Link.of fun K h => ?_
  simp only [impl_OrderOk_n2, wpO_bind, wpO_cond, wpO_map, wpO_some] at h
  exact Awp.of (by kernel_rfl) h

theorem impl_OrderOk_n3_l (x1250 : Int) (x1249 : List Int) (x1260 : Int) (x1284 : Int) (x1285 : List Bool) : Link impl_OrderOk_ctx LL (Code.fst (Code.fst (Code.snd (Code.fst (Code.snd (Code.snd (Code.snd (bodyOf Try.f20)))))))) (Ann.fst (Ann.fst (Ann.snd (Ann.fst (Ann.snd (Ann.snd (Ann.snd impl_OrderOk_an))))))) (⟨mkE 41 0 [(1, .dat (.int .i64) x1250), (5, .ptr 0 0), (20, .dat (.list (.int .i64)) x1249), (21, .dat (.int .i64) x1260), (22, .dat (.int .i64) x1284)], [some (.seq .bool x1285)]⟩ : St) (impl_OrderOk_n3 x1250 x1249 x1260 x1284 x1285) (Sum.elim (fun (t : Int × (List Bool)) => (Exit.normal, (⟨mkE 41 0 [(1, .dat (.int .i64) x1250), (5, .ptr 0 0), (20, .dat (.list (.int .i64)) x1249), (21, .dat (.int .i64) x1260), (22, .dat (.int .i64) t.1)], [some (.seq .bool t.2)]⟩ : St))) (Sum.elim (fun (t : Bool) => (Exit.ret, (⟨mkE 41 0 [(4, .dat .bool t)], []⟩ : St))) (fun (t : Unit) => ((Exit.exit 0), (⟨mkE 41 0 [], []⟩ : St))))) := by
  refine Link.of fun K h => ?_
  simp only [impl_OrderOk_n3, wpO_bind, wpO_cond, wpO_map, wpO_some] at h
  exact Awp.of (by kernel_rfl) h

theorem impl_OrderOk_n4_l (x1250 : Int) (x1249 : List Int) (x1260 : Int) : Link impl_OrderOk_ctx LL (Code.fst (Code.snd (Code.fst (Code.snd (Code.snd (Code.snd (bodyOf Try.f20))))))) (Ann.fst (Ann.snd (Ann.fst (Ann.snd (Ann.snd (Ann.snd impl_OrderOk_an)))))) (⟨mkE 41 0 [(1, .dat (.int .i64) x1250), (5, .ptr 0 0), (20, .dat (.list (.int .i64)) x1249), (21, .dat (.int .i64) x1260), (22, .dat (.int .i64) 0)], [some (.seq .bool (List.replicate 9 false))]⟩ : St) (impl_OrderOk_n4 x1250 x1249 x1260) (Sum.elim (fun (t : Bool) => (Exit.ret, (⟨mkE 41 0 [(4, .dat .bool t)], []⟩ : St))) (fun (t : Unit) => ((Exit.exit 0), (⟨mkE 41 0 [], []⟩ : St)))) := by
  unfold impl_OrderOk_n4
  exact Link.cast (by kernel_rfl) (by kernel_rfl) (link_loop (mk := fun (s : Int × (List Bool)) => (⟨mkE 41 0 [(1, .dat (.int .i64) x1250), (5, .ptr 0 0), (20, .dat (.list (.int .i64)) x1249), (21, .dat (.int .i64) x1260), (22, .dat (.int .i64) s.1)], [some (.seq .bool s.2)]⟩ : St)) (fin := (Sum.elim (fun (t : Bool) => (Exit.ret, (⟨mkE 41 0 [(4, .dat .bool t)], []⟩ : St))) (fun (t : Unit) => ((Exit.exit 0), (⟨mkE 41 0 [], []⟩ : St))))) (by
  rintro (t | t) f K h
  · exact h
  · exact h) (fun s => link_map (impl_OrderOk_n3_l x1250 x1249 x1260 s.1 s.2) (Sum.elim (fun (t : Int × (List Bool)) => Sum.inl (t.1, t.2)) (Sum.elim (fun (t : Bool) => Sum.inr (Sum.inl t)) (fun (t : Unit) => Sum.inr (Sum.inr t)))) (by
  rintro (t | t | t)
  · kernel_rfl
  · kernel_rfl
  · kernel_rfl)) (0, (List.replicate 9 false)))

theorem impl_OrderOk_n5_l (x1250 : Int) (x1249 : List Int) (x1260 : Int) : Link impl_OrderOk_ctx LL (Code.snd (Code.fst (Code.snd (Code.snd (Code.snd (bodyOf Try.f20)))))) (Ann.snd (Ann.fst (Ann.snd (Ann.snd (Ann.snd impl_OrderOk_an))))) (⟨mkE 41 0 [(1, .dat (.int .i64) x1250), (5, .ptr 0 0), (20, .dat (.list (.int .i64)) x1249), (21, .dat (.int .i64) x1260), (22, .dat (.int .i64) 0)], [some (.seq .bool (List.replicate 9 false))]⟩ : St) (impl_OrderOk_n5 x1250 x1249 x1260) (Sum.elim (fun (t : Unit) => (Exit.normal, (⟨mkE 41 0 [], []⟩ : St))) (fun (t : Bool) => (Exit.ret, (⟨mkE 41 0 [(4, .dat .bool t)], []⟩ : St)))) := by
  unfold impl_OrderOk_n5
  exact Link.cast (by kernel_rfl) (by kernel_rfl) (link_block (id := 0) (impl_OrderOk_n4_l x1250 x1249 x1260) (Sum.elim (fun (t : Bool) => (Sum.inr t)) (fun (t : Unit) => (Sum.inl ()))) (by
  rintro (t | t) K h
  · exact Eq.mp (by kernel_rfl) h
  · exact Eq.mp (by kernel_rfl) h))

theorem impl_OrderOk_n6_l (x1249 : List Int) (x1250 : Int) : Link impl_OrderOk_ctx LL (Code.fst (Code.snd (Code.snd (Code.snd (bodyOf Try.f20))))) (Ann.fst (Ann.snd (Ann.snd (Ann.snd impl_OrderOk_an)))) (⟨mkE 41 0 [(0, .dat (.list (.int .i64)) x1249), (1, .dat (.int .i64) x1250), (5, .ptr 0 0)], [some (.seq .bool (List.replicate 9 false))]⟩ : St) (impl_OrderOk_n6 x1249 x1250) (Sum.elim (fun (t : Unit) => (Exit.normal, (⟨mkE 41 0 [], []⟩ : St))) (fun (t : Bool) => (Exit.ret, (⟨mkE 41 0 [(4, .dat .bool t)], []⟩ : St)))) := by
  unfold impl_OrderOk_n6
  exact Link.cast (by kernel_rfl) (by kernel_rfl) (link_seq (b := (Code.snd (Code.fst (Code.snd (Code.snd (Code.snd (bodyOf Try.f20))))))) (y := (Ann.snd (Ann.fst (Ann.snd (Ann.snd (Ann.snd impl_OrderOk_an)))))) (impl_OrderOk_n2_l x1249 x1250) (fun (t : Int) => (impl_OrderOk_n5_l x1250 x1249 t)))

theorem impl_OrderOk_n7_l : Link impl_OrderOk_ctx LL (Code.snd (Code.snd (Code.snd (Code.snd (bodyOf Try.f20))))) (Ann.snd (Ann.snd (Ann.snd (Ann.snd impl_OrderOk_an)))) (⟨mkE 41 0 [], []⟩ : St) (impl_OrderOk_n7) (fun (t : Bool) => (Exit.ret, (⟨mkE 41 0 [(4, .dat .bool t)], []⟩ : St))) := by
  refine Link.of fun K h => ?_
  simp only [impl_OrderOk_n7, wpO_bind, wpO_cond, wpO_map, wpO_some] at h
  exact Awp.of (by kernel_rfl) h

theorem impl_OrderOk_n8_l (x1249 : List Int) (x1250 : Int) : Link impl_OrderOk_ctx LL (Code.snd (Code.snd (Code.snd (bodyOf Try.f20)))) (Ann.snd (Ann.snd (Ann.snd impl_OrderOk_an))) (⟨mkE 41 0 [(0, .dat (.list (.int .i64)) x1249), (1, .dat (.int .i64) x1250), (5, .ptr 0 0)], [some (.seq .bool (List.replicate 9 false))]⟩ : St) (impl_OrderOk_n8 x1249 x1250) (fun (t : Bool) => (Exit.ret, (⟨mkE 41 0 [(4, .dat .bool t)], []⟩ : St))) := by
  unfold impl_OrderOk_n8
  exact Link.cast (by kernel_rfl) (by kernel_rfl) (link_seq2 (b := (Code.snd (Code.snd (Code.snd (Code.snd (bodyOf Try.f20)))))) (y := (Ann.snd (Ann.snd (Ann.snd (Ann.snd impl_OrderOk_an))))) (impl_OrderOk_n6_l x1249 x1250) (fun (t : Unit) => (impl_OrderOk_n7_l)) (fun (t : Bool) => t) (by
  rintro t
  · kernel_rfl) (by
  rintro t f K h
  · exact h))

theorem impl_OrderOk_n9_l (x1249 : List Int) (x1250 : Int) : Link impl_OrderOk_ctx LL (bodyOf Try.f20) impl_OrderOk_an (⟨mkE 41 0 [(0, .dat (.list (.int .i64)) x1249), (1, .dat (.int .i64) x1250)], []⟩ : St) (impl_OrderOk_n9 x1249 x1250) (fun (t : Bool) => (Exit.ret, (⟨mkE 41 0 [(4, .dat .bool t)], []⟩ : St))) := by
  unfold impl_OrderOk_n9
  exact Link.cast (by kernel_rfl) (by kernel_rfl) (link_group (c := (Code.fst (Code.snd (Code.snd (bodyOf Try.f20))))) (a := (Ann.fst (Ann.snd (Ann.snd impl_OrderOk_an)))) [(Code.fst (bodyOf Try.f20)), (Code.fst (Code.snd (bodyOf Try.f20)))] [(Ann.fst impl_OrderOk_an), (Ann.fst (Ann.snd impl_OrderOk_an))] rfl (link_seq2 (b := (Code.snd (Code.snd (Code.snd (bodyOf Try.f20))))) (y := (Ann.snd (Ann.snd (Ann.snd impl_OrderOk_an)))) (impl_OrderOk_n1_l x1249 x1250) (fun (t : Unit) => (impl_OrderOk_n8_l x1249 x1250)) (fun (t : Bool) => t) (by
  rintro t
  · kernel_rfl) (by
  rintro t f K h
  · exact h)))

theorem impl_OrderOk_e (x1249 : List Int) (x1250 : Int) {r : AV} {H' : Heap} (h : (Ans.mk _ (impl_OrderOk x1249 x1250) (fun (t : Bool) => (.dat .bool t, []))).run = some (r, H')) : Awp impl_OrderOk_ctx LL (bodyOf Try.f20) impl_OrderOk_an (⟨mkE 41 0 [(0, .dat (.list (.int .i64)) x1249), (1, .dat (.int .i64) x1250)], []⟩ : St) (Ret (tlook tys) Try.f20.results.toList r H') :=
  ret_of' (impl_OrderOk_n9_l x1249 x1250) (by unfold impl_OrderOk; kernel_rfl) (by
  intro t
  exact ret_mk [.dat .bool t] (by kernel_rfl) (by kernel_rfl) (by kernel_rfl) (by kernel_rfl)) h

def F_impl_OrderOk : Fun := fun avs H =>
  match avs, H with
  | [.dat (.list (.int .i64)) x1249, .dat (.int .i64) x1250], [] => ⟨_, impl_OrderOk x1249 x1250, fun (t : Bool) => (.dat .bool t, [])⟩
  | _, _ => Ans.no

theorem impl_OrderOk_sound : Sound Try.prog 20 F_impl_OrderOk := by
  refine fn_sound' (C := impl_OrderOk_ctx) (c := bodyOf Try.f20) (cok_of tys_ok (by simp) (by simp) (by kernel_rfl)) Try.func20 (by kernel_rfl) LL impl_OrderOk_an ?_
  intro avs H r H' h
  unfold F_impl_OrderOk at h
  split at h
  · refine Awp.cast ?_ ?_ ?_ (impl_OrderOk_e _ _ h) <;> kernel_rfl
  · simp [Ans.no, Ans.run] at h

/-! loop.example/headtrees/laws.FnExactOrderOk -/

def laws_FnExactOrderOk_an : Ann := (.seq (.leaf [0, 1]) (.seq (.seq (.leaf [0, 1, 10]) (.cond (.seq (.leaf [4]) (.leaf [4])) (.leaf [0, 1]))) (.seq (.leaf [0, 1, 5]) (.seq (.leaf [0, 1, 5, 6]) (.seq (.leaf [0, 5, 6, 7]) (.seq (.seq (.leaf [0, 6, 22]) (.cond (.seq (.leaf [4]) (.leaf [4])) (.leaf [0, 6]))) (.seq (.seq (.leaf [27]) (.cond (.seq (.leaf [4]) (.leaf [4])) (.leaf []))) (.seq (.leaf [4]) (.leaf [4])))))))))

noncomputable def laws_FnExactOrderOk_ctx : Ctx := ⟨tlook tys, olook [(10, F_laws_toIntS), (19, F_spec_OrderOk), (20, F_impl_OrderOk), (12, F_laws_eqIntS)], ioF, 0⟩

theorem laws_FnExactOrderOk_n1_l (x1161 : List Int) (x1162 : Int) : Link laws_FnExactOrderOk_ctx LL (bodyOf Try.f6) laws_FnExactOrderOk_an (⟨mkE 28 0 [(0, .dat (.list (.int .i64)) x1161), (1, .dat (.int .i64) x1162)], []⟩ : St) (laws_FnExactOrderOk_n1 x1161 x1162) (fun (t : Bool) => (Exit.ret, (⟨mkE 28 0 [(4, .dat .bool t)], []⟩ : St))) := by
  refine Link.of fun K h => ?_
  simp only [laws_FnExactOrderOk_n1, wpO_bind, wpO_cond, wpO_map, wpO_some] at h
  exact Awp.of (by kernel_rfl) h

theorem laws_FnExactOrderOk_e (x1161 : List Int) (x1162 : Int) {r : AV} {H' : Heap} (h : (Ans.mk _ (laws_FnExactOrderOk x1161 x1162) (fun (t : Bool) => (.dat .bool t, []))).run = some (r, H')) : Awp laws_FnExactOrderOk_ctx LL (bodyOf Try.f6) laws_FnExactOrderOk_an (⟨mkE 28 0 [(0, .dat (.list (.int .i64)) x1161), (1, .dat (.int .i64) x1162)], []⟩ : St) (Ret (tlook tys) Try.f6.results.toList r H') :=
  ret_of' (laws_FnExactOrderOk_n1_l x1161 x1162) (by unfold laws_FnExactOrderOk; kernel_rfl) (by
  intro t
  exact ret_mk [.dat .bool t] (by kernel_rfl) (by kernel_rfl) (by kernel_rfl) (by kernel_rfl)) h

def F_laws_FnExactOrderOk : Fun := fun avs H =>
  match avs, H with
  | [.dat (.list (.int .i64)) x1161, .dat (.int .i64) x1162], [] => ⟨_, laws_FnExactOrderOk x1161 x1162, fun (t : Bool) => (.dat .bool t, [])⟩
  | _, _ => Ans.no

theorem laws_FnExactOrderOk_sound : Sound Try.prog 6 F_laws_FnExactOrderOk := by
  refine fn_sound' (C := laws_FnExactOrderOk_ctx) (c := bodyOf Try.f6) (cok_of tys_ok (List.forall_mem_cons.2 ⟨laws_toIntS_sound, List.forall_mem_cons.2 ⟨spec_OrderOk_sound, List.forall_mem_cons.2 ⟨impl_OrderOk_sound, List.forall_mem_cons.2 ⟨laws_eqIntS_sound, by simp⟩⟩⟩⟩) (List.forall_mem_cons.2 ⟨Try.call10, List.forall_mem_cons.2 ⟨Try.call19, List.forall_mem_cons.2 ⟨Try.call20, List.forall_mem_cons.2 ⟨Try.call12, by simp⟩⟩⟩⟩) (by kernel_rfl)) Try.func6 (by kernel_rfl) LL laws_FnExactOrderOk_an ?_
  intro avs H r H' h
  unfold F_laws_FnExactOrderOk at h
  split at h
  · refine Awp.cast ?_ ?_ ?_ (laws_FnExactOrderOk_e _ _ h) <;> kernel_rfl
  · simp [Ans.no, Ans.run] at h

/-! loop.example/headtrees/spec.PutInOrder -/

def spec_PutInOrder_an : Ann := (.seq (.leaf [0, 1]) (.seq (.seq (.leaf [0, 1, 19]) (.cond (.seq (.leaf [4, 5]) (.leaf [4, 5])) (.leaf [0, 1]))) (.seq (.leaf [0, 1, 6]) (.seq (.seq (.leaf [0, 1, 6, 7]) (.block (.loop (.seq (.seq (.leaf [0, 1, 6, 7, 28]) (.cond (.leaf [0, 1, 6, 7]) (.leaf [0, 1, 6]))) (.seq (.block (.leaf [0, 1, 6, 7])) (.leaf [0, 1, 6, 7])))))) (.seq (.leaf [0, 1, 6, 8]) (.seq (.seq (.leaf [0, 1, 6, 8, 9]) (.block (.loop (.seq (.seq (.leaf [0, 1, 6, 8, 9, 43]) (.cond (.leaf [0, 1, 6, 8, 9]) (.leaf [8]))) (.seq (.block (.leaf [0, 1, 6, 8, 9])) (.leaf [0, 1, 6, 8, 9])))))) (.seq (.leaf [4, 5]) (.leaf [4, 5]))))))))

noncomputable def spec_PutInOrder_ctx : Ctx := ⟨tlook tys, olook [(25, F_spec_TreeOk), (19, F_spec_OrderOk)], ioF, 0⟩

theorem spec_PutInOrder_n1_l (x1365 : List Int) (x1366 : List Int) : Link spec_PutInOrder_ctx LL (Code.seq (Code.fst (bodyOf Try.f21)) (Code.seq (Code.fst (Code.snd (bodyOf Try.f21))) (Code.fst (Code.snd (Code.snd (bodyOf Try.f21)))))) (Ann.seq (Ann.fst spec_PutInOrder_an) (Ann.seq (Ann.fst (Ann.snd spec_PutInOrder_an)) (Ann.fst (Ann.snd (Ann.snd spec_PutInOrder_an))))) (⟨mkE 61 0 [(0, .dat (.list (.int .i64)) x1365), (1, .dat (.list (.int .i64)) x1366)], []⟩ : St) (spec_PutInOrder_n1 x1365 x1366) (Sum.elim (fun (t : (List Int)) => (Exit.normal, (⟨mkE 61 0 [(0, .dat (.list (.int .i64)) x1365), (1, .dat (.list (.int .i64)) x1366), (6, .slc 0)], [some (.seq (.int .i64) t)]⟩ : St))) (fun (t : Bool × (List Int)) => (Exit.ret, (⟨mkE 61 0 [(4, .slc 0), (5, .dat .bool t.1)], [some (.seq (.int .i64) t.2)]⟩ : St)))) := by
  refine Link.of fun K h => ?_
  simp only [spec_PutInOrder_n1, wpO_bind, wpO_cond, wpO_map, wpO_some] at h
  exact Awp.of (by kernel_rfl) h

theorem spec_PutInOrder_n2_l (x1365 : List Int) (x1366 : List Int) (x1380 : List Int) : Link spec_PutInOrder_ctx LL (Code.fst (Code.fst (Code.snd (Code.snd (Code.snd (bodyOf Try.f21)))))) (Ann.fst (Ann.fst (Ann.snd (Ann.snd (Ann.snd spec_PutInOrder_an))))) (⟨mkE 61 0 [(0, .dat (.list (.int .i64)) x1365), (1, .dat (.list (.int .i64)) x1366), (6, .slc 0)], [some (.seq (.int .i64) x1380)]⟩ : St) (spec_PutInOrder_n2) (fun (t : Unit) => (Exit.normal, (⟨mkE 61 0 [(0, .dat (.list (.int .i64)) x1365), (1, .dat (.list (.int .i64)) x1366), (6, .slc 0), (7, .dat (.int .i64) 0)], [some (.seq (.int .i64) x1380)]⟩ : St))) := by
  refine Link.of fun K h => ?_
  simp only [spec_PutInOrder_n2, wpO_bind, wpO_cond, wpO_map, wpO_some] at h
  exact Awp.of (by kernel_rfl) h

theorem spec_PutInOrder_n3_l (x1365 : List Int) (x1366 : List Int) (x1396 : Int) (x1397 : List Int) : Link spec_PutInOrder_ctx LL (Code.fst (Code.fst (Code.snd (Code.fst (Code.snd (Code.snd (Code.snd (bodyOf Try.f21)))))))) (Ann.fst (Ann.fst (Ann.snd (Ann.fst (Ann.snd (Ann.snd (Ann.snd spec_PutInOrder_an))))))) (⟨mkE 61 0 [(0, .dat (.list (.int .i64)) x1365), (1, .dat (.list (.int .i64)) x1366), (6, .slc 0), (7, .dat (.int .i64) x1396)], [some (.seq (.int .i64) x1397)]⟩ : St) (spec_PutInOrder_n3 x1366 x1396 x1397) (Sum.elim (fun (t : Int × (List Int)) => (Exit.normal, (⟨mkE 61 0 [(0, .dat (.list (.int .i64)) x1365), (1, .dat (.list (.int .i64)) x1366), (6, .slc 0), (7, .dat (.int .i64) t.1)], [some (.seq (.int .i64) t.2)]⟩ : St))) (fun (t : (List Int)) => ((Exit.exit 0), (⟨mkE 61 0 [(0, .dat (.list (.int .i64)) x1365), (1, .dat (.list (.int .i64)) x1366), (6, .slc 0)], [some (.seq (.int .i64) t)]⟩ : St)))) := by
  refine Link.of fun K h => ?_
  simp only [spec_PutInOrder_n3, wpO_bind, wpO_cond, wpO_map, wpO_some] at h
  exact Awp.of (by kernel_rfl) h

theorem spec_PutInOrder_n4_l (x1365 : List Int) (x1366 : List Int) (x1380 : List Int) : Link spec_PutInOrder_ctx LL (Code.fst (Code.snd (Code.fst (Code.snd (Code.snd (Code.snd (bodyOf Try.f21))))))) (Ann.fst (Ann.snd (Ann.fst (Ann.snd (Ann.snd (Ann.snd spec_PutInOrder_an)))))) (⟨mkE 61 0 [(0, .dat (.list (.int .i64)) x1365), (1, .dat (.list (.int .i64)) x1366), (6, .slc 0), (7, .dat (.int .i64) 0)], [some (.seq (.int .i64) x1380)]⟩ : St) (spec_PutInOrder_n4 x1366 x1380) (fun (t : (List Int)) => ((Exit.exit 0), (⟨mkE 61 0 [(0, .dat (.list (.int .i64)) x1365), (1, .dat (.list (.int .i64)) x1366), (6, .slc 0)], [some (.seq (.int .i64) t)]⟩ : St))) := by
  unfold spec_PutInOrder_n4
  exact Link.cast (by kernel_rfl) (by kernel_rfl) (link_loop (mk := fun (s : Int × (List Int)) => (⟨mkE 61 0 [(0, .dat (.list (.int .i64)) x1365), (1, .dat (.list (.int .i64)) x1366), (6, .slc 0), (7, .dat (.int .i64) s.1)], [some (.seq (.int .i64) s.2)]⟩ : St)) (fin := (fun (t : (List Int)) => ((Exit.exit 0), (⟨mkE 61 0 [(0, .dat (.list (.int .i64)) x1365), (1, .dat (.list (.int .i64)) x1366), (6, .slc 0)], [some (.seq (.int .i64) t)]⟩ : St)))) (by
  rintro t f K h
  · exact h) (fun s => link_map (spec_PutInOrder_n3_l x1365 x1366 s.1 s.2) (Sum.elim (fun (t : Int × (List Int)) => Sum.inl (t.1, t.2)) (fun (t : (List Int)) => Sum.inr t)) (by
  rintro (t | t)
  · kernel_rfl
  · kernel_rfl)) (0, x1380))

theorem spec_PutInOrder_n5_l (x1365 : List Int) (x1366 : List Int) (x1380 : List Int) : Link spec_PutInOrder_ctx LL (Code.snd (Code.fst (Code.snd (Code.snd (Code.snd (bodyOf Try.f21)))))) (Ann.snd (Ann.fst (Ann.snd (Ann.snd (Ann.snd spec_PutInOrder_an))))) (⟨mkE 61 0 [(0, .dat (.list (.int .i64)) x1365), (1, .dat (.list (.int .i64)) x1366), (6, .slc 0), (7, .dat (.int .i64) 0)], [some (.seq (.int .i64) x1380)]⟩ : St) (spec_PutInOrder_n5 x1366 x1380) (fun (t : (List Int)) => (Exit.normal, (⟨mkE 61 0 [(0, .dat (.list (.int .i64)) x1365), (1, .dat (.list (.int .i64)) x1366), (6, .slc 0)], [some (.seq (.int .i64) t)]⟩ : St))) := by
  unfold spec_PutInOrder_n5
  exact Link.cast (by kernel_rfl) (by kernel_rfl) (link_block (id := 0) (spec_PutInOrder_n4_l x1365 x1366 x1380) (fun (t : (List Int)) => t) (by
  rintro t K h
  · exact Eq.mp (by kernel_rfl) h))

theorem spec_PutInOrder_n6_l (x1365 : List Int) (x1366 : List Int) (x1380 : List Int) : Link spec_PutInOrder_ctx LL (Code.fst (Code.snd (Code.snd (Code.snd (bodyOf Try.f21))))) (Ann.fst (Ann.snd (Ann.snd (Ann.snd spec_PutInOrder_an)))) (⟨mkE 61 0 [(0, .dat (.list (.int .i64)) x1365), (1, .dat (.list (.int .i64)) x1366), (6, .slc 0)], [some (.seq (.int .i64) x1380)]⟩ : St) (spec_PutInOrder_n6 x1366 x1380) (fun (t : (List Int)) => (Exit.normal, (⟨mkE 61 0 [(0, .dat (.list (.int .i64)) x1365), (1, .dat (.list (.int .i64)) x1366), (6, .slc 0)], [some (.seq (.int .i64) t)]⟩ : St))) := by
  unfold spec_PutInOrder_n6
  exact Link.cast (by kernel_rfl) (by kernel_rfl) (link_seq (b := (Code.snd (Code.fst (Code.snd (Code.snd (Code.snd (bodyOf Try.f21))))))) (y := (Ann.snd (Ann.fst (Ann.snd (Ann.snd (Ann.snd spec_PutInOrder_an)))))) (spec_PutInOrder_n2_l x1365 x1366 x1380) (fun (t : Unit) => (spec_PutInOrder_n5_l x1365 x1366 x1380)))

theorem spec_PutInOrder_n7_l (x1365 : List Int) (x1366 : List Int) (x1397 : List Int) : Link spec_PutInOrder_ctx LL (Code.fst (Code.snd (Code.snd (Code.snd (Code.snd (bodyOf Try.f21)))))) (Ann.fst (Ann.snd (Ann.snd (Ann.snd (Ann.snd spec_PutInOrder_an))))) (⟨mkE 61 0 [(0, .dat (.list (.int .i64)) x1365), (1, .dat (.list (.int .i64)) x1366), (6, .slc 0)], [some (.seq (.int .i64) x1397)]⟩ : St) (spec_PutInOrder_n7) (fun (t : Unit) => (Exit.normal, (⟨mkE 61 0 [(0, .dat (.list (.int .i64)) x1365), (1, .dat (.list (.int .i64)) x1366), (6, .slc 0), (8, .slc 1)], [some (.seq (.int .i64) x1397), some (.seq (.int .i64) ([] : List Int))]⟩ : St))) := by
  refine Link.of fun K h => ?_
  simp only [spec_PutInOrder_n7, wpO_bind, wpO_cond, wpO_map, wpO_some] at h
  exact Awp.of (by kernel_rfl) h

theorem spec_PutInOrder_n8_l (x1365 : List Int) (x1366 : List Int) (x1397 : List Int) : Link spec_PutInOrder_ctx LL (Code.fst (Code.fst (Code.snd (Code.snd (Code.snd (Code.snd (Code.snd (bodyOf Try.f21)))))))) (Ann.fst (Ann.fst (Ann.snd (Ann.snd (Ann.snd (Ann.snd (Ann.snd spec_PutInOrder_an))))))) (⟨mkE 61 0 [(0, .dat (.list (.int .i64)) x1365), (1, .dat (.list (.int .i64)) x1366), (6, .slc 0), (8, .slc 1)], [some (.seq (.int .i64) x1397), some (.seq (.int .i64) ([] : List Int))]⟩ : St) (spec_PutInOrder_n8) (fun (t : Unit) => (Exit.normal, (⟨mkE 61 0 [(0, .dat (.list (.int .i64)) x1365), (1, .dat (.list (.int .i64)) x1366), (6, .slc 0), (8, .slc 1), (9, .dat (.int .i64) 0)], [some (.seq (.int .i64) x1397), some (.seq (.int .i64) ([] : List Int))]⟩ : St))) := by
  refine Link.of fun K h => ?_
  simp only [spec_PutInOrder_n8, wpO_bind, wpO_cond, wpO_map, wpO_some] at h
  exact Awp.of (by kernel_rfl) h

theorem spec_PutInOrder_n9_l (x1365 : List Int) (x1366 : List Int) (x1438 : Int) (x1397 : List Int) (x1439 : List Int) : Link spec_PutInOrder_ctx LL (Code.fst (Code.fst (Code.snd (Code.fst (Code.snd (Code.snd (Code.snd (Code.snd (Code.snd (bodyOf Try.f21)))))))))) (Ann.fst (Ann.fst (Ann.snd (Ann.fst (Ann.snd (Ann.snd (Ann.snd (Ann.snd (Ann.snd spec_PutInOrder_an))))))))) (⟨mkE 61 0 [(0, .dat (.list (.int .i64)) x1365), (1, .dat (.list (.int .i64)) x1366), (6, .slc 0), (8, .slc 1), (9, .dat (.int .i64) x1438)], [some (.seq (.int .i64) x1397), some (.seq (.int .i64) x1439)]⟩ : St) (spec_PutInOrder_n9 x1365 x1366 x1438 x1397 x1439) (Sum.elim (fun (t : Int × (List Int)) => (Exit.normal, (⟨mkE 61 0 [(0, .dat (.list (.int .i64)) x1365), (1, .dat (.list (.int .i64)) x1366), (6, .slc 0), (8, .slc 1), (9, .dat (.int .i64) t.1)], [some (.seq (.int .i64) x1397), some (.seq (.int .i64) t.2)]⟩ : St))) (fun (t : (List Int)) => ((Exit.exit 2), (⟨mkE 61 0 [(8, .slc 0)], [some (.seq (.int .i64) t)]⟩ : St)))) := by
  refine Link.of fun K h => ?_
  simp only [spec_PutInOrder_n9, wpO_bind, wpO_cond, wpO_map, wpO_some] at h
  exact Awp.of (by kernel_rfl) h

theorem spec_PutInOrder_n10_l (x1365 : List Int) (x1366 : List Int) (x1397 : List Int) : Link spec_PutInOrder_ctx LL (Code.fst (Code.snd (Code.fst (Code.snd (Code.snd (Code.snd (Code.snd (Code.snd (bodyOf Try.f21))))))))) (Ann.fst (Ann.snd (Ann.fst (Ann.snd (Ann.snd (Ann.snd (Ann.snd (Ann.snd spec_PutInOrder_an)))))))) (⟨mkE 61 0 [(0, .dat (.list (.int .i64)) x1365), (1, .dat (.list (.int .i64)) x1366), (6, .slc 0), (8, .slc 1), (9, .dat (.int .i64) 0)], [some (.seq (.int .i64) x1397), some (.seq (.int .i64) ([] : List Int))]⟩ : St) (spec_PutInOrder_n10 x1365 x1366 x1397) (fun (t : (List Int)) => ((Exit.exit 2), (⟨mkE 61 0 [(8, .slc 0)], [some (.seq (.int .i64) t)]⟩ : St))) := by
  unfold spec_PutInOrder_n10
  exact Link.cast (by kernel_rfl) (by kernel_rfl) (link_loop (mk := fun (s : Int × (List Int)) => (⟨mkE 61 0 [(0, .dat (.list (.int .i64)) x1365), (1, .dat (.list (.int .i64)) x1366), (6, .slc 0), (8, .slc 1), (9, .dat (.int .i64) s.1)], [some (.seq (.int .i64) x1397), some (.seq (.int .i64) s.2)]⟩ : St)) (fin := (fun (t : (List Int)) => ((Exit.exit 2), (⟨mkE 61 0 [(8, .slc 0)], [some (.seq (.int .i64) t)]⟩ : St)))) (by
  rintro t f K h
  · exact h) (fun s => link_map (spec_PutInOrder_n9_l x1365 x1366 s.1 x1397 s.2) (Sum.elim (fun (t : Int × (List Int)) => Sum.inl (t.1, t.2)) (fun (t : (List Int)) => Sum.inr t)) (by
  rintro (t | t)
  · kernel_rfl
  · kernel_rfl)) (0, ([] : List Int)))

theorem spec_PutInOrder_n11_l (x1365 : List Int) (x1366 : List Int) (x1397 : List Int) : Link spec_PutInOrder_ctx LL (Code.snd (Code.fst (Code.snd (Code.snd (Code.snd (Code.snd (Code.snd (bodyOf Try.f21)))))))) (Ann.snd (Ann.fst (Ann.snd (Ann.snd (Ann.snd (Ann.snd (Ann.snd spec_PutInOrder_an))))))) (⟨mkE 61 0 [(0, .dat (.list (.int .i64)) x1365), (1, .dat (.list (.int .i64)) x1366), (6, .slc 0), (8, .slc 1), (9, .dat (.int .i64) 0)], [some (.seq (.int .i64) x1397), some (.seq (.int .i64) ([] : List Int))]⟩ : St) (spec_PutInOrder_n11 x1365 x1366 x1397) (fun (t : (List Int)) => (Exit.normal, (⟨mkE 61 0 [(8, .slc 0)], [some (.seq (.int .i64) t)]⟩ : St))) := by
  unfold spec_PutInOrder_n11
  exact Link.cast (by kernel_rfl) (by kernel_rfl) (link_block (id := 2) (spec_PutInOrder_n10_l x1365 x1366 x1397) (fun (t : (List Int)) => t) (by
  rintro t K h
  · exact Eq.mp (by kernel_rfl) h))

theorem spec_PutInOrder_n12_l (x1365 : List Int) (x1366 : List Int) (x1397 : List Int) : Link spec_PutInOrder_ctx LL (Code.fst (Code.snd (Code.snd (Code.snd (Code.snd (Code.snd (bodyOf Try.f21))))))) (Ann.fst (Ann.snd (Ann.snd (Ann.snd (Ann.snd (Ann.snd spec_PutInOrder_an)))))) (⟨mkE 61 0 [(0, .dat (.list (.int .i64)) x1365), (1, .dat (.list (.int .i64)) x1366), (6, .slc 0), (8, .slc 1)], [some (.seq (.int .i64) x1397), some (.seq (.int .i64) ([] : List Int))]⟩ : St) (spec_PutInOrder_n12 x1365 x1366 x1397) (fun (t : (List Int)) => (Exit.normal, (⟨mkE 61 0 [(8, .slc 0)], [some (.seq (.int .i64) t)]⟩ : St))) := by
  unfold spec_PutInOrder_n12
  exact Link.cast (by kernel_rfl) (by kernel_rfl) (link_seq (b := (Code.snd (Code.fst (Code.snd (Code.snd (Code.snd (Code.snd (Code.snd (bodyOf Try.f21))))))))) (y := (Ann.snd (Ann.fst (Ann.snd (Ann.snd (Ann.snd (Ann.snd (Ann.snd spec_PutInOrder_an)))))))) (spec_PutInOrder_n8_l x1365 x1366 x1397) (fun (t : Unit) => (spec_PutInOrder_n11_l x1365 x1366 x1397)))

theorem spec_PutInOrder_n13_l (x1439 : List Int) : Link spec_PutInOrder_ctx LL (Code.snd (Code.snd (Code.snd (Code.snd (Code.snd (Code.snd (bodyOf Try.f21))))))) (Ann.snd (Ann.snd (Ann.snd (Ann.snd (Ann.snd (Ann.snd spec_PutInOrder_an)))))) (⟨mkE 61 0 [(8, .slc 0)], [some (.seq (.int .i64) x1439)]⟩ : St) (spec_PutInOrder_n13 x1439) (fun (t : Bool × (List Int)) => (Exit.ret, (⟨mkE 61 0 [(4, .slc 0), (5, .dat .bool t.1)], [some (.seq (.int .i64) t.2)]⟩ : St))) := by
  refine Link.of fun K h => ?_
  simp only [spec_PutInOrder_n13, wpO_bind, wpO_cond, wpO_map, wpO_some] at h
  exact Awp.of (by kernel_rfl) h

theorem spec_PutInOrder_n14_l (x1365 : List Int) (x1366 : List Int) (x1397 : List Int) : Link spec_PutInOrder_ctx LL (Code.snd (Code.snd (Code.snd (Code.snd (Code.snd (bodyOf Try.f21)))))) (Ann.snd (Ann.snd (Ann.snd (Ann.snd (Ann.snd spec_PutInOrder_an))))) (⟨mkE 61 0 [(0, .dat (.list (.int .i64)) x1365), (1, .dat (.list (.int .i64)) x1366), (6, .slc 0), (8, .slc 1)], [some (.seq (.int .i64) x1397), some (.seq (.int .i64) ([] : List Int))]⟩ : St) (spec_PutInOrder_n14 x1365 x1366 x1397) (fun (t : Bool × (List Int)) => (Exit.ret, (⟨mkE 61 0 [(4, .slc 0), (5, .dat .bool t.1)], [some (.seq (.int .i64) t.2)]⟩ : St))) := by
  unfold spec_PutInOrder_n14
  exact Link.cast (by kernel_rfl) (by kernel_rfl) (link_seq (b := (Code.snd (Code.snd (Code.snd (Code.snd (Code.snd (Code.snd (bodyOf Try.f21)))))))) (y := (Ann.snd (Ann.snd (Ann.snd (Ann.snd (Ann.snd (Ann.snd spec_PutInOrder_an))))))) (spec_PutInOrder_n12_l x1365 x1366 x1397) (fun (t : (List Int)) => (spec_PutInOrder_n13_l t)))

theorem spec_PutInOrder_n15_l (x1365 : List Int) (x1366 : List Int) (x1397 : List Int) : Link spec_PutInOrder_ctx LL (Code.snd (Code.snd (Code.snd (Code.snd (bodyOf Try.f21))))) (Ann.snd (Ann.snd (Ann.snd (Ann.snd spec_PutInOrder_an)))) (⟨mkE 61 0 [(0, .dat (.list (.int .i64)) x1365), (1, .dat (.list (.int .i64)) x1366), (6, .slc 0)], [some (.seq (.int .i64) x1397)]⟩ : St) (spec_PutInOrder_n15 x1365 x1366 x1397) (fun (t : Bool × (List Int)) => (Exit.ret, (⟨mkE 61 0 [(4, .slc 0), (5, .dat .bool t.1)], [some (.seq (.int .i64) t.2)]⟩ : St))) := by
  unfold spec_PutInOrder_n15
  exact Link.cast (by kernel_rfl) (by kernel_rfl) (link_seq (b := (Code.snd (Code.snd (Code.snd (Code.snd (Code.snd (bodyOf Try.f21))))))) (y := (Ann.snd (Ann.snd (Ann.snd (Ann.snd (Ann.snd spec_PutInOrder_an)))))) (spec_PutInOrder_n7_l x1365 x1366 x1397) (fun (t : Unit) => (spec_PutInOrder_n14_l x1365 x1366 x1397)))

theorem spec_PutInOrder_n16_l (x1365 : List Int) (x1366 : List Int) (x1380 : List Int) : Link spec_PutInOrder_ctx LL (Code.snd (Code.snd (Code.snd (bodyOf Try.f21)))) (Ann.snd (Ann.snd (Ann.snd spec_PutInOrder_an))) (⟨mkE 61 0 [(0, .dat (.list (.int .i64)) x1365), (1, .dat (.list (.int .i64)) x1366), (6, .slc 0)], [some (.seq (.int .i64) x1380)]⟩ : St) (spec_PutInOrder_n16 x1365 x1366 x1380) (fun (t : Bool × (List Int)) => (Exit.ret, (⟨mkE 61 0 [(4, .slc 0), (5, .dat .bool t.1)], [some (.seq (.int .i64) t.2)]⟩ : St))) := by
  unfold spec_PutInOrder_n16
  exact Link.cast (by kernel_rfl) (by kernel_rfl) (link_seq (b := (Code.snd (Code.snd (Code.snd (Code.snd (bodyOf Try.f21)))))) (y := (Ann.snd (Ann.snd (Ann.snd (Ann.snd spec_PutInOrder_an))))) (spec_PutInOrder_n6_l x1365 x1366 x1380) (fun (t : (List Int)) => (spec_PutInOrder_n15_l x1365 x1366 t)))

theorem spec_PutInOrder_n17_l (x1365 : List Int) (x1366 : List Int) : Link spec_PutInOrder_ctx LL (bodyOf Try.f21) spec_PutInOrder_an (⟨mkE 61 0 [(0, .dat (.list (.int .i64)) x1365), (1, .dat (.list (.int .i64)) x1366)], []⟩ : St) (spec_PutInOrder_n17 x1365 x1366) (fun (t : Bool × (List Int)) => (Exit.ret, (⟨mkE 61 0 [(4, .slc 0), (5, .dat .bool t.1)], [some (.seq (.int .i64) t.2)]⟩ : St))) := by
  unfold spec_PutInOrder_n17
  exact Link.cast (by kernel_rfl) (by kernel_rfl) (link_group (c := (Code.fst (Code.snd (Code.snd (bodyOf Try.f21))))) (a := (Ann.fst (Ann.snd (Ann.snd spec_PutInOrder_an)))) [(Code.fst (bodyOf Try.f21)), (Code.fst (Code.snd (bodyOf Try.f21)))] [(Ann.fst spec_PutInOrder_an), (Ann.fst (Ann.snd spec_PutInOrder_an))] rfl (link_seq2 (b := (Code.snd (Code.snd (Code.snd (bodyOf Try.f21))))) (y := (Ann.snd (Ann.snd (Ann.snd spec_PutInOrder_an)))) (spec_PutInOrder_n1_l x1365 x1366) (fun (t : (List Int)) => (spec_PutInOrder_n16_l x1365 x1366 t)) (fun (t : Bool × (List Int)) => t) (by
  rintro t
  · kernel_rfl) (by
  rintro t f K h
  · exact h)))

theorem spec_PutInOrder_e (x1365 : List Int) (x1366 : List Int) {r : AV} {H' : Heap} (h : (Ans.mk _ (spec_PutInOrder x1365 x1366) (fun (t : Bool × (List Int)) => (.tup [.slc 0, .dat .bool t.1], [some (.seq (.int .i64) t.2)]))).run = some (r, H')) : Awp spec_PutInOrder_ctx LL (bodyOf Try.f21) spec_PutInOrder_an (⟨mkE 61 0 [(0, .dat (.list (.int .i64)) x1365), (1, .dat (.list (.int .i64)) x1366)], []⟩ : St) (Ret (tlook tys) Try.f21.results.toList r H') :=
  ret_of' (spec_PutInOrder_n17_l x1365 x1366) (by unfold spec_PutInOrder; kernel_rfl) (by
  intro t
  exact ret_mk [.slc 0, .dat .bool t.1] (by kernel_rfl) (by kernel_rfl) (by kernel_rfl) (by kernel_rfl)) h

def F_spec_PutInOrder : Fun := fun avs H =>
  match avs, H with
  | [.dat (.list (.int .i64)) x1365, .dat (.list (.int .i64)) x1366], [] => ⟨_, spec_PutInOrder x1365 x1366, fun (t : Bool × (List Int)) => (.tup [.slc 0, .dat .bool t.1], [some (.seq (.int .i64) t.2)])⟩
  | _, _ => Ans.no

theorem spec_PutInOrder_sound : Sound Try.prog 21 F_spec_PutInOrder := by
  refine fn_sound' (C := spec_PutInOrder_ctx) (c := bodyOf Try.f21) (cok_of tys_ok (List.forall_mem_cons.2 ⟨spec_TreeOk_sound, List.forall_mem_cons.2 ⟨spec_OrderOk_sound, by simp⟩⟩) (List.forall_mem_cons.2 ⟨Try.call25, List.forall_mem_cons.2 ⟨Try.call19, by simp⟩⟩) (by kernel_rfl)) Try.func21 (by kernel_rfl) LL spec_PutInOrder_an ?_
  intro avs H r H' h
  unfold F_spec_PutInOrder at h
  split at h
  · refine Awp.cast ?_ ?_ ?_ (spec_PutInOrder_e _ _ h) <;> kernel_rfl
  · simp [Ans.no, Ans.run] at h

/-! loop.example/headtrees/impl.placesIn -/

def impl_placesIn_an : Ann := (.seq (.leaf [0]) (.seq (.leaf [0, 3]) (.seq (.seq (.leaf [3, 10, 11, 12]) (.block (.loop (.seq (.leaf [3, 10, 11, 12, 13]) (.seq (.cond (.leaf [3, 10, 11, 12]) (.leaf [3])) (.seq (.block (.seq (.leaf [3, 4, 5, 10, 11, 12]) (.leaf [3, 10, 11, 12]))) (.leaf [3, 10, 11, 12]))))))) (.seq (.leaf [2]) (.leaf [2])))))

noncomputable def impl_placesIn_ctx : Ctx := ⟨tlook tys, olook [], ioF, 0⟩

theorem impl_placesIn_n1_l (x1514 : List Int) : Link impl_placesIn_ctx LL (Code.seq (Code.fst (bodyOf Try.f31)) (Code.fst (Code.snd (bodyOf Try.f31)))) (Ann.seq (Ann.fst impl_placesIn_an) (Ann.fst (Ann.snd impl_placesIn_an))) (⟨mkE 24 0 [(0, .dat (.list (.int .i64)) x1514)], []⟩ : St) (impl_placesIn_n1 x1514) (fun (t : (List Int)) => (Exit.normal, (⟨mkE 24 0 [(0, .dat (.list (.int .i64)) x1514), (3, .slc 0)], [some (.seq (.int .i64) t)]⟩ : St))) := by
  refine Link.of fun K h => ?_
  simp only [impl_placesIn_n1, wpO_bind, wpO_cond, wpO_map, wpO_some] at h
  exact Awp.of (by kernel_rfl) h

theorem impl_placesIn_n2_l (x1514 : List Int) (x1518 : List Int) : Link impl_placesIn_ctx LL (Code.fst (Code.fst (Code.snd (Code.snd (bodyOf Try.f31))))) (Ann.fst (Ann.fst (Ann.snd (Ann.snd impl_placesIn_an)))) (⟨mkE 24 0 [(0, .dat (.list (.int .i64)) x1514), (3, .slc 0)], [some (.seq (.int .i64) x1518)]⟩ : St) (impl_placesIn_n2 x1514) (fun (t : Int) => (Exit.normal, (⟨mkE 24 0 [(3, .slc 0), (10, .dat (.list (.int .i64)) x1514), (11, .dat (.int .i64) t), (12, .dat (.int .i64) 0)], [some (.seq (.int .i64) x1518)]⟩ : St))) := by
  refine Link.of fun K h => ?_
  simp only [impl_placesIn_n2, wpO_bind, wpO_cond, wpO_map, wpO_some] at h
  exact Awp.of (by kernel_rfl) h

theorem impl_placesIn_n3_l (x1514 : List Int) (x1519 : Int) (x1533 : Int) (x1534 : List Int) : Link impl_placesIn_ctx LL (Code.fst (Code.fst (Code.snd (Code.fst (Code.snd (Code.snd (bodyOf Try.f31))))))) (Ann.fst (Ann.fst (Ann.snd (Ann.fst (Ann.snd (Ann.snd impl_placesIn_an)))))) (⟨mkE 24 0 [(3, .slc 0), (10, .dat (.list (.int .i64)) x1514), (11, .dat (.int .i64) x1519), (12, .dat (.int .i64) x1533)], [some (.seq (.int .i64) x1534)]⟩ : St) (impl_placesIn_n3 x1514 x1519 x1533 x1534) (Sum.elim (fun (t : Int × (List Int)) => (Exit.normal, (⟨mkE 24 0 [(3, .slc 0), (10, .dat (.list (.int .i64)) x1514), (11, .dat (.int .i64) x1519), (12, .dat (.int .i64) t.1)], [some (.seq (.int .i64) t.2)]⟩ : St))) (fun (t : (List Int)) => ((Exit.exit 0), (⟨mkE 24 0 [(3, .slc 0)], [some (.seq (.int .i64) t)]⟩ : St)))) := by
  refine Link.of fun K h => ?_
  simp only [impl_placesIn_n3, wpO_bind, wpO_cond, wpO_map, wpO_some] at h
  exact Awp.of (by kernel_rfl) h

theorem impl_placesIn_n4_l (x1514 : List Int) (x1519 : Int) (x1518 : List Int) : Link impl_placesIn_ctx LL (Code.fst (Code.snd (Code.fst (Code.snd (Code.snd (bodyOf Try.f31)))))) (Ann.fst (Ann.snd (Ann.fst (Ann.snd (Ann.snd impl_placesIn_an))))) (⟨mkE 24 0 [(3, .slc 0), (10, .dat (.list (.int .i64)) x1514), (11, .dat (.int .i64) x1519), (12, .dat (.int .i64) 0)], [some (.seq (.int .i64) x1518)]⟩ : St) (impl_placesIn_n4 x1514 x1519 x1518) (fun (t : (List Int)) => ((Exit.exit 0), (⟨mkE 24 0 [(3, .slc 0)], [some (.seq (.int .i64) t)]⟩ : St))) := by
  unfold impl_placesIn_n4
  exact Link.cast (by kernel_rfl) (by kernel_rfl) (link_loop (mk := fun (s : Int × (List Int)) => (⟨mkE 24 0 [(3, .slc 0), (10, .dat (.list (.int .i64)) x1514), (11, .dat (.int .i64) x1519), (12, .dat (.int .i64) s.1)], [some (.seq (.int .i64) s.2)]⟩ : St)) (fin := (fun (t : (List Int)) => ((Exit.exit 0), (⟨mkE 24 0 [(3, .slc 0)], [some (.seq (.int .i64) t)]⟩ : St)))) (by
  rintro t f K h
  · exact h) (fun s => link_map (impl_placesIn_n3_l x1514 x1519 s.1 s.2) (Sum.elim (fun (t : Int × (List Int)) => Sum.inl (t.1, t.2)) (fun (t : (List Int)) => Sum.inr t)) (by
  rintro (t | t)
  · kernel_rfl
  · kernel_rfl)) (0, x1518))

theorem impl_placesIn_n5_l (x1514 : List Int) (x1519 : Int) (x1518 : List Int) : Link impl_placesIn_ctx LL (Code.snd (Code.fst (Code.snd (Code.snd (bodyOf Try.f31))))) (Ann.snd (Ann.fst (Ann.snd (Ann.snd impl_placesIn_an)))) (⟨mkE 24 0 [(3, .slc 0), (10, .dat (.list (.int .i64)) x1514), (11, .dat (.int .i64) x1519), (12, .dat (.int .i64) 0)], [some (.seq (.int .i64) x1518)]⟩ : St) (impl_placesIn_n5 x1514 x1519 x1518) (fun (t : (List Int)) => (Exit.normal, (⟨mkE 24 0 [(3, .slc 0)], [some (.seq (.int .i64) t)]⟩ : St))) := by
  unfold impl_placesIn_n5
  exact Link.cast (by kernel_rfl) (by kernel_rfl) (link_block (id := 0) (impl_placesIn_n4_l x1514 x1519 x1518) (fun (t : (List Int)) => t) (by
  rintro t K h
  · exact Eq.mp (by kernel_rfl) h))

theorem impl_placesIn_n6_l (x1514 : List Int) (x1518 : List Int) : Link impl_placesIn_ctx LL (Code.fst (Code.snd (Code.snd (bodyOf Try.f31)))) (Ann.fst (Ann.snd (Ann.snd impl_placesIn_an))) (⟨mkE 24 0 [(0, .dat (.list (.int .i64)) x1514), (3, .slc 0)], [some (.seq (.int .i64) x1518)]⟩ : St) (impl_placesIn_n6 x1514 x1518) (fun (t : (List Int)) => (Exit.normal, (⟨mkE 24 0 [(3, .slc 0)], [some (.seq (.int .i64) t)]⟩ : St))) := by
  unfold impl_placesIn_n6
  exact Link.cast (by kernel_rfl) (by kernel_rfl) (link_seq (b := (Code.snd (Code.fst (Code.snd (Code.snd (bodyOf Try.f31)))))) (y := (Ann.snd (Ann.fst (Ann.snd (Ann.snd impl_placesIn_an))))) (impl_placesIn_n2_l x1514 x1518) (fun (t : Int) => (impl_placesIn_n5_l x1514 t x1518)))

theorem impl_placesIn_n7_l (x1534 : List Int) : Link impl_placesIn_ctx LL (Code.snd (Code.snd (Code.snd (bodyOf Try.f31)))) (Ann.snd (Ann.snd (Ann.snd impl_placesIn_an))) (⟨mkE 24 0 [(3, .slc 0)], [some (.seq (.int .i64) x1534)]⟩ : St) (impl_placesIn_n7 x1534) (fun (t : (List Int)) => (Exit.ret, (⟨mkE 24 0 [(2, .slc 0)], [some (.seq (.int .i64) t)]⟩ : St))) := by
  refine Link.of fun K h => ?_
  simp only [impl_placesIn_n7, wpO_bind, wpO_cond, wpO_map, wpO_some] at h
  exact Awp.of (by kernel_rfl) h

theorem impl_placesIn_n8_l (x1514 : List Int) (x1518 : List Int) : Link impl_placesIn_ctx LL (Code.snd (Code.snd (bodyOf Try.f31))) (Ann.snd (Ann.snd impl_placesIn_an)) (⟨mkE 24 0 [(0, .dat (.list (.int .i64)) x1514), (3, .slc 0)], [some (.seq (.int .i64) x1518)]⟩ : St) (impl_placesIn_n8 x1514 x1518) (fun (t : (List Int)) => (Exit.ret, (⟨mkE 24 0 [(2, .slc 0)], [some (.seq (.int .i64) t)]⟩ : St))) := by
  unfold impl_placesIn_n8
  exact Link.cast (by kernel_rfl) (by kernel_rfl) (link_seq (b := (Code.snd (Code.snd (Code.snd (bodyOf Try.f31))))) (y := (Ann.snd (Ann.snd (Ann.snd impl_placesIn_an)))) (impl_placesIn_n6_l x1514 x1518) (fun (t : (List Int)) => (impl_placesIn_n7_l t)))

theorem impl_placesIn_n9_l (x1514 : List Int) : Link impl_placesIn_ctx LL (bodyOf Try.f31) impl_placesIn_an (⟨mkE 24 0 [(0, .dat (.list (.int .i64)) x1514)], []⟩ : St) (impl_placesIn_n9 x1514) (fun (t : (List Int)) => (Exit.ret, (⟨mkE 24 0 [(2, .slc 0)], [some (.seq (.int .i64) t)]⟩ : St))) := by
  unfold impl_placesIn_n9
  exact Link.cast (by kernel_rfl) (by kernel_rfl) (link_group (c := (Code.fst (Code.snd (bodyOf Try.f31)))) (a := (Ann.fst (Ann.snd impl_placesIn_an))) [(Code.fst (bodyOf Try.f31))] [(Ann.fst impl_placesIn_an)] rfl (link_seq (b := (Code.snd (Code.snd (bodyOf Try.f31)))) (y := (Ann.snd (Ann.snd impl_placesIn_an))) (impl_placesIn_n1_l x1514) (fun (t : (List Int)) => (impl_placesIn_n8_l x1514 t))))

theorem impl_placesIn_e (x1514 : List Int) {r : AV} {H' : Heap} (h : (Ans.mk _ (impl_placesIn x1514) (fun (t : (List Int)) => (.slc 0, [some (.seq (.int .i64) t)]))).run = some (r, H')) : Awp impl_placesIn_ctx LL (bodyOf Try.f31) impl_placesIn_an (⟨mkE 24 0 [(0, .dat (.list (.int .i64)) x1514)], []⟩ : St) (Ret (tlook tys) Try.f31.results.toList r H') :=
  ret_of' (impl_placesIn_n9_l x1514) (by unfold impl_placesIn; kernel_rfl) (by
  intro t
  exact ret_mk [.slc 0] (by kernel_rfl) (by kernel_rfl) (by kernel_rfl) (by kernel_rfl)) h

def F_impl_placesIn : Fun := fun avs H =>
  match avs, H with
  | [.dat (.list (.int .i64)) x1514], [] => ⟨_, impl_placesIn x1514, fun (t : (List Int)) => (.slc 0, [some (.seq (.int .i64) t)])⟩
  | _, _ => Ans.no

theorem impl_placesIn_sound : Sound Try.prog 31 F_impl_placesIn := by
  refine fn_sound' (C := impl_placesIn_ctx) (c := bodyOf Try.f31) (cok_of tys_ok (by simp) (by simp) (by kernel_rfl)) Try.func31 (by kernel_rfl) LL impl_placesIn_an ?_
  intro avs H r H' h
  unfold F_impl_placesIn at h
  split at h
  · refine Awp.cast ?_ ?_ ?_ (impl_placesIn_e _ h) <;> kernel_rfl
  · simp [Ans.no, Ans.run] at h

/-! loop.example/headtrees/impl.PutInOrder$1 -/

def impl_PutInOrder_1_an : Ann := (.seq (.leaf [0, 1]) (.seq (.leaf [3]) (.leaf [3])))

noncomputable def impl_PutInOrder_1_ctx : Ctx := ⟨tlook tys, olook [], ioF, 2⟩

theorem impl_PutInOrder_1_n1_l (x1568 : Int) (x1569 : List Int) : Link impl_PutInOrder_1_ctx LL (bodyOf Try.f33) impl_PutInOrder_1_an (⟨mkE 8 0 [(0, .dat (.int .i64) x1568), (1, .ptr 0 0)], [some (.box [.slc 1]), some (.seq (.int .i64) x1569)]⟩ : St) (impl_PutInOrder_1_n1 x1568 x1569) (fun (t : Int) => (Exit.ret, (⟨mkE 8 0 [(3, .dat (.int .i64) t)], [some (.box [.slc 1]), some (.seq (.int .i64) x1569)]⟩ : St))) := by
  refine Link.of fun K h => ?_
  simp only [impl_PutInOrder_1_n1, wpO_bind, wpO_cond, wpO_map, wpO_some] at h
  exact Awp.of (by kernel_rfl) h

theorem impl_PutInOrder_1_e (x1568 : Int) (x1569 : List Int) {r : AV} {H' : Heap} (h : (Ans.mk _ (impl_PutInOrder_1 x1568 x1569) (fun (t : Int) => (.dat (.int .i64) t, [some (.box [.slc 1]), some (.seq (.int .i64) x1569)]))).run = some (r, H')) : Awp impl_PutInOrder_1_ctx LL (bodyOf Try.f33) impl_PutInOrder_1_an (⟨mkE 8 0 [(0, .dat (.int .i64) x1568), (1, .ptr 0 0)], [some (.box [.slc 1]), some (.seq (.int .i64) x1569)]⟩ : St) (Ret (tlook tys) Try.f33.results.toList r H') :=
  ret_of' (impl_PutInOrder_1_n1_l x1568 x1569) (by unfold impl_PutInOrder_1; kernel_rfl) (by
  intro t
  exact ret_mk [.dat (.int .i64) t] (by kernel_rfl) (by kernel_rfl) (by kernel_rfl) (by kernel_rfl)) h

def F_impl_PutInOrder_1 : Fun := fun avs H =>
  match avs, H with
  | [.dat (.int .i64) x1568, .ptr 0 0], [some (.box [.slc 1]), some (.seq (.int .i64) x1569)] => ⟨_, impl_PutInOrder_1 x1568 x1569, fun (t : Int) => (.dat (.int .i64) t, [some (.box [.slc 1]), some (.seq (.int .i64) x1569)])⟩
  | _, _ => Ans.no

theorem impl_PutInOrder_1_sound : Sound Try.prog 33 F_impl_PutInOrder_1 := by
  refine fn_sound' (C := impl_PutInOrder_1_ctx) (c := bodyOf Try.f33) (cok_of tys_ok (by simp) (by simp) (by kernel_rfl)) Try.func33 (by kernel_rfl) LL impl_PutInOrder_1_an ?_
  intro avs H r H' h
  unfold F_impl_PutInOrder_1 at h
  split at h
  · refine Awp.cast ?_ ?_ ?_ (impl_PutInOrder_1_e _ _ h) <;> kernel_rfl
  · simp [Ans.no, Ans.run] at h

/-! loop.example/headtrees/impl.renamed[int] -/

def impl_renamed_int_an : Ann := (.seq (.leaf [0, 1, 2]) (.seq (.leaf [0, 1, 2, 7]) (.seq (.seq (.leaf [0, 2, 7, 13, 14, 15]) (.block (.loop (.seq (.leaf [0, 2, 7, 13, 14, 15, 16]) (.seq (.cond (.leaf [0, 2, 7, 13, 14, 15]) (.leaf [7])) (.seq (.block (.seq (.leaf [0, 2, 7, 8, 9, 13, 14, 15]) (.leaf [0, 2, 7, 13, 14, 15]))) (.leaf [0, 2, 7, 13, 14, 15]))))))) (.seq (.leaf [6]) (.leaf [6])))))

noncomputable def impl_renamed_int_ctx : Ctx := ⟨tlook tys, olook [(33, F_impl_PutInOrder_1)], ioF, 2⟩

theorem impl_renamed_int_n1_l (x1555 : List Int) (x1556 : List Int) (x1557 : List Int) : Link impl_renamed_int_ctx LL (Code.seq (Code.fst (bodyOf Try.f32)) (Code.fst (Code.snd (bodyOf Try.f32)))) (Ann.seq (Ann.fst impl_renamed_int_an) (Ann.fst (Ann.snd impl_renamed_int_an))) (⟨mkE 32 0 [(0, .dat (.list (.int .i64)) x1555), (1, .dat (.list (.int .i64)) x1556), (2, .fn 33 [] [.ptr 0 0])], [some (.box [.slc 1]), some (.seq (.int .i64) x1557)]⟩ : St) (impl_renamed_int_n1 x1556) (fun (t : (List Int)) => (Exit.normal, (⟨mkE 32 0 [(0, .dat (.list (.int .i64)) x1555), (1, .dat (.list (.int .i64)) x1556), (2, .fn 33 [] [.ptr 0 0]), (7, .slc 2)], [some (.box [.slc 1]), some (.seq (.int .i64) x1557), some (.seq (.int .i64) t)]⟩ : St))) := by
  refine Link.of fun K h => ?_
  simp only [impl_renamed_int_n1, wpO_bind, wpO_cond, wpO_map, wpO_some] at h
  exact Awp.of (by kernel_rfl) h

theorem impl_renamed_int_n2_l (x1555 : List Int) (x1556 : List Int) (x1557 : List Int) (x1560 : List Int) : Link impl_renamed_int_ctx LL (Code.fst (Code.fst (Code.snd (Code.snd (bodyOf Try.f32))))) (Ann.fst (Ann.fst (Ann.snd (Ann.snd impl_renamed_int_an)))) (⟨mkE 32 0 [(0, .dat (.list (.int .i64)) x1555), (1, .dat (.list (.int .i64)) x1556), (2, .fn 33 [] [.ptr 0 0]), (7, .slc 2)], [some (.box [.slc 1]), some (.seq (.int .i64) x1557), some (.seq (.int .i64) x1560)]⟩ : St) (impl_renamed_int_n2 x1556) (fun (t : Int) => (Exit.normal, (⟨mkE 32 0 [(0, .dat (.list (.int .i64)) x1555), (2, .fn 33 [] [.ptr 0 0]), (7, .slc 2), (13, .dat (.list (.int .i64)) x1556), (14, .dat (.int .i64) t), (15, .dat (.int .i64) 0)], [some (.box [.slc 1]), some (.seq (.int .i64) x1557), some (.seq (.int .i64) x1560)]⟩ : St))) := by
  refine Link.of fun K h => ?_
  simp only [impl_renamed_int_n2, wpO_bind, wpO_cond, wpO_map, wpO_some] at h
  exact Awp.of (by kernel_rfl) h

theorem impl_renamed_int_n3_l (x1555 : List Int) (x1556 : List Int) (x1561 : Int) (x1585 : Int) (x1557 : List Int) (x1586 : List Int) : Link impl_renamed_int_ctx LL (Code.fst (Code.fst (Code.snd (Code.fst (Code.snd (Code.snd (bodyOf Try.f32))))))) (Ann.fst (Ann.fst (Ann.snd (Ann.fst (Ann.snd (Ann.snd impl_renamed_int_an)))))) (⟨mkE 32 0 [(0, .dat (.list (.int .i64)) x1555), (2, .fn 33 [] [.ptr 0 0]), (7, .slc 2), (13, .dat (.list (.int .i64)) x1556), (14, .dat (.int .i64) x1561), (15, .dat (.int .i64) x1585)], [some (.box [.slc 1]), some (.seq (.int .i64) x1557), some (.seq (.int .i64) x1586)]⟩ : St) (impl_renamed_int_n3 x1555 x1556 x1561 x1585 x1557 x1586) (Sum.elim (fun (t : Int × (List Int)) => (Exit.normal, (⟨mkE 32 0 [(0, .dat (.list (.int .i64)) x1555), (2, .fn 33 [] [.ptr 0 0]), (7, .slc 2), (13, .dat (.list (.int .i64)) x1556), (14, .dat (.int .i64) x1561), (15, .dat (.int .i64) t.1)], [some (.box [.slc 1]), some (.seq (.int .i64) x1557), some (.seq (.int .i64) t.2)]⟩ : St))) (fun (t : (List Int)) => ((Exit.exit 0), (⟨mkE 32 0 [(7, .slc 2)], [some (.box [.slc 1]), some (.seq (.int .i64) x1557), some (.seq (.int .i64) t)]⟩ : St)))) := by
  refine Link.of fun K h => ?_
  simp only [impl_renamed_int_n3, wpO_bind, wpO_cond, wpO_map, wpO_some] at h
  exact Awp.of (by kernel_rfl) h

theorem impl_renamed_int_n4_l (x1555 : List Int) (x1556 : List Int) (x1561 : Int) (x1557 : List Int) (x1560 : List Int) : Link impl_renamed_int_ctx LL (Code.fst (Code.snd (Code.fst (Code.snd (Code.snd (bodyOf Try.f32)))))) (Ann.fst (Ann.snd (Ann.fst (Ann.snd (Ann.snd impl_renamed_int_an))))) (⟨mkE 32 0 [(0, .dat (.list (.int .i64)) x1555), (2, .fn 33 [] [.ptr 0 0]), (7, .slc 2), (13, .dat (.list (.int .i64)) x1556), (14, .dat (.int .i64) x1561), (15, .dat (.int .i64) 0)], [some (.box [.slc 1]), some (.seq (.int .i64) x1557), some (.seq (.int .i64) x1560)]⟩ : St) (impl_renamed_int_n4 x1555 x1556 x1561 x1557 x1560) (fun (t : (List Int)) => ((Exit.exit 0), (⟨mkE 32 0 [(7, .slc 2)], [some (.box [.slc 1]), some (.seq (.int .i64) x1557), some (.seq (.int .i64) t)]⟩ : St))) := by
  unfold impl_renamed_int_n4
  exact Link.cast (by kernel_rfl) (by kernel_rfl) (link_loop (mk := fun (s : Int × (List Int)) => (⟨mkE 32 0 [(0, .dat (.list (.int .i64)) x1555), (2, .fn 33 [] [.ptr 0 0]), (7, .slc 2), (13, .dat (.list (.int .i64)) x1556), (14, .dat (.int .i64) x1561), (15, .dat (.int .i64) s.1)], [some (.box [.slc 1]), some (.seq (.int .i64) x1557), some (.seq (.int .i64) s.2)]⟩ : St)) (fin := (fun (t : (List Int)) => ((Exit.exit 0), (⟨mkE 32 0 [(7, .slc 2)], [some (.box [.slc 1]), some (.seq (.int .i64) x1557), some (.seq (.int .i64) t)]⟩ : St)))) (by
  rintro t f K h
  · exact h) (fun s => link_map (impl_renamed_int_n3_l x1555 x1556 x1561 s.1 x1557 s.2) (Sum.elim (fun (t : Int × (List Int)) => Sum.inl (t.1, t.2)) (fun (t : (List Int)) => Sum.inr t)) (by
  rintro (t | t)
  · kernel_rfl
  · kernel_rfl)) (0, x1560))

theorem impl_renamed_int_n5_l (x1555 : List Int) (x1556 : List Int) (x1561 : Int) (x1557 : List Int) (x1560 : List Int) : Link impl_renamed_int_ctx LL (Code.snd (Code.fst (Code.snd (Code.snd (bodyOf Try.f32))))) (Ann.snd (Ann.fst (Ann.snd (Ann.snd impl_renamed_int_an)))) (⟨mkE 32 0 [(0, .dat (.list (.int .i64)) x1555), (2, .fn 33 [] [.ptr 0 0]), (7, .slc 2), (13, .dat (.list (.int .i64)) x1556), (14, .dat (.int .i64) x1561), (15, .dat (.int .i64) 0)], [some (.box [.slc 1]), some (.seq (.int .i64) x1557), some (.seq (.int .i64) x1560)]⟩ : St) (impl_renamed_int_n5 x1555 x1556 x1561 x1557 x1560) (fun (t : (List Int)) => (Exit.normal, (⟨mkE 32 0 [(7, .slc 2)], [some (.box [.slc 1]), some (.seq (.int .i64) x1557), some (.seq (.int .i64) t)]⟩ : St))) := by
  unfold impl_renamed_int_n5
  exact Link.cast (by kernel_rfl) (by kernel_rfl) (link_block (id := 0) (impl_renamed_int_n4_l x1555 x1556 x1561 x1557 x1560) (fun (t : (List Int)) => t) (by
  rintro t K h
  · exact Eq.mp (by kernel_rfl) h))

theorem impl_renamed_int_n6_l (x1555 : List Int) (x1556 : List Int) (x1557 : List Int) (x1560 : List Int) : Link impl_renamed_int_ctx LL (Code.fst (Code.snd (Code.snd (bodyOf Try.f32)))) (Ann.fst (Ann.snd (Ann.snd impl_renamed_int_an))) (⟨mkE 32 0 [(0, .dat (.list (.int .i64)) x1555), (1, .dat (.list (.int .i64)) x1556), (2, .fn 33 [] [.ptr 0 0]), (7, .slc 2)], [some (.box [.slc 1]), some (.seq (.int .i64) x1557), some (.seq (.int .i64) x1560)]⟩ : St) (impl_renamed_int_n6 x1555 x1556 x1557 x1560) (fun (t : (List Int)) => (Exit.normal, (⟨mkE 32 0 [(7, .slc 2)], [some (.box [.slc 1]), some (.seq (.int .i64) x1557), some (.seq (.int .i64) t)]⟩ : St))) := by
  unfold impl_renamed_int_n6
  exact Link.cast (by kernel_rfl) (by kernel_rfl) (link_seq (b := (Code.snd (Code.fst (Code.snd (Code.snd (bodyOf Try.f32)))))) (y := (Ann.snd (Ann.fst (Ann.snd (Ann.snd impl_renamed_int_an))))) (impl_renamed_int_n2_l x1555 x1556 x1557 x1560) (fun (t : Int) => (impl_renamed_int_n5_l x1555 x1556 t x1557 x1560)))

theorem impl_renamed_int_n7_l (x1557 : List Int) (x1586 : List Int) : Link impl_renamed_int_ctx LL (Code.snd (Code.snd (Code.snd (bodyOf Try.f32)))) (Ann.snd (Ann.snd (Ann.snd impl_renamed_int_an))) (⟨mkE 32 0 [(7, .slc 2)], [some (.box [.slc 1]), some (.seq (.int .i64) x1557), some (.seq (.int .i64) x1586)]⟩ : St) (impl_renamed_int_n7 x1586) (fun (t : (List Int)) => (Exit.ret, (⟨mkE 32 0 [(6, .slc 2)], [some (.box [.slc 1]), some (.seq (.int .i64) x1557), some (.seq (.int .i64) t)]⟩ : St))) := by
  refine Link.of fun K h => ?_
  simp only [impl_renamed_int_n7, wpO_bind, wpO_cond, wpO_map, wpO_some] at h
  exact Awp.of (by kernel_rfl) h

theorem impl_renamed_int_n8_l (x1555 : List Int) (x1556 : List Int) (x1557 : List Int) (x1560 : List Int) : Link impl_renamed_int_ctx LL (Code.snd (Code.snd (bodyOf Try.f32))) (Ann.snd (Ann.snd impl_renamed_int_an)) (⟨mkE 32 0 [(0, .dat (.list (.int .i64)) x1555), (1, .dat (.list (.int .i64)) x1556), (2, .fn 33 [] [.ptr 0 0]), (7, .slc 2)], [some (.box [.slc 1]), some (.seq (.int .i64) x1557), some (.seq (.int .i64) x1560)]⟩ : St) (impl_renamed_int_n8 x1555 x1556 x1557 x1560) (fun (t : (List Int)) => (Exit.ret, (⟨mkE 32 0 [(6, .slc 2)], [some (.box [.slc 1]), some (.seq (.int .i64) x1557), some (.seq (.int .i64) t)]⟩ : St))) := by
  unfold impl_renamed_int_n8
  exact Link.cast (by kernel_rfl) (by kernel_rfl) (link_seq (b := (Code.snd (Code.snd (Code.snd (bodyOf Try.f32))))) (y := (Ann.snd (Ann.snd (Ann.snd impl_renamed_int_an)))) (impl_renamed_int_n6_l x1555 x1556 x1557 x1560) (fun (t : (List Int)) => (impl_renamed_int_n7_l x1557 t)))

theorem impl_renamed_int_n9_l (x1555 : List Int) (x1556 : List Int) (x1557 : List Int) : Link impl_renamed_int_ctx LL (bodyOf Try.f32) impl_renamed_int_an (⟨mkE 32 0 [(0, .dat (.list (.int .i64)) x1555), (1, .dat (.list (.int .i64)) x1556), (2, .fn 33 [] [.ptr 0 0])], [some (.box [.slc 1]), some (.seq (.int .i64) x1557)]⟩ : St) (impl_renamed_int_n9 x1555 x1556 x1557) (fun (t : (List Int)) => (Exit.ret, (⟨mkE 32 0 [(6, .slc 2)], [some (.box [.slc 1]), some (.seq (.int .i64) x1557), some (.seq (.int .i64) t)]⟩ : St))) := by
  unfold impl_renamed_int_n9
  exact Link.cast (by kernel_rfl) (by kernel_rfl) (link_group (c := (Code.fst (Code.snd (bodyOf Try.f32)))) (a := (Ann.fst (Ann.snd impl_renamed_int_an))) [(Code.fst (bodyOf Try.f32))] [(Ann.fst impl_renamed_int_an)] rfl (link_seq (b := (Code.snd (Code.snd (bodyOf Try.f32)))) (y := (Ann.snd (Ann.snd impl_renamed_int_an))) (impl_renamed_int_n1_l x1555 x1556 x1557) (fun (t : (List Int)) => (impl_renamed_int_n8_l x1555 x1556 x1557 t))))

theorem impl_renamed_int_e (x1555 : List Int) (x1556 : List Int) (x1557 : List Int) {r : AV} {H' : Heap} (h : (Ans.mk _ (impl_renamed_int x1555 x1556 x1557) (fun (t : (List Int)) => (.slc 2, [some (.box [.slc 1]), some (.seq (.int .i64) x1557), some (.seq (.int .i64) t)]))).run = some (r, H')) : Awp impl_renamed_int_ctx LL (bodyOf Try.f32) impl_renamed_int_an (⟨mkE 32 0 [(0, .dat (.list (.int .i64)) x1555), (1, .dat (.list (.int .i64)) x1556), (2, .fn 33 [] [.ptr 0 0])], [some (.box [.slc 1]), some (.seq (.int .i64) x1557)]⟩ : St) (Ret (tlook tys) Try.f32.results.toList r H') :=
  ret_of' (impl_renamed_int_n9_l x1555 x1556 x1557) (by unfold impl_renamed_int; kernel_rfl) (by
  intro t
  exact ret_mk [.slc 2] (by kernel_rfl) (by kernel_rfl) (by kernel_rfl) (by kernel_rfl)) h

def F_impl_renamed_int : Fun := fun avs H =>
  match avs, H with
  | [.dat (.list (.int .i64)) x1555, .dat (.list (.int .i64)) x1556, .fn 33 [] [.ptr 0 0]], [some (.box [.slc 1]), some (.seq (.int .i64) x1557)] => ⟨_, impl_renamed_int x1555 x1556 x1557, fun (t : (List Int)) => (.slc 2, [some (.box [.slc 1]), some (.seq (.int .i64) x1557), some (.seq (.int .i64) t)])⟩
  | _, _ => Ans.no

theorem impl_renamed_int_sound : Sound Try.prog 32 F_impl_renamed_int := by
  refine fn_sound' (C := impl_renamed_int_ctx) (c := bodyOf Try.f32) (cok_of tys_ok (List.forall_mem_cons.2 ⟨impl_PutInOrder_1_sound, by simp⟩) (List.forall_mem_cons.2 ⟨Try.call33, by simp⟩) (by kernel_rfl)) Try.func32 (by kernel_rfl) LL impl_renamed_int_an ?_
  intro avs H r H' h
  unfold F_impl_renamed_int at h
  split at h
  · refine Awp.cast ?_ ?_ ?_ (impl_renamed_int_e _ _ _ h) <;> kernel_rfl
  · simp [Ans.no, Ans.run] at h

/-! loop.example/headtrees/impl.PutInOrder -/

def impl_PutInOrder_an : Ann := (.seq (.leaf [0, 1]) (.seq (.seq (.leaf [0, 1, 16]) (.cond (.seq (.leaf [4, 5]) (.leaf [4, 5])) (.leaf [0, 1]))) (.seq (.leaf [0, 1, 6]) (.seq (.leaf [4, 5]) (.leaf [4, 5])))))

noncomputable def impl_PutInOrder_ctx : Ctx := ⟨tlook tys, olook [(26, F_impl_TreeOk), (20, F_impl_OrderOk), (31, F_impl_placesIn), (32, F_impl_renamed_int)], ioF, 0⟩

theorem impl_PutInOrder_n1_l (x1502 : List Int) (x1503 : List Int) : Link impl_PutInOrder_ctx LL (bodyOf Try.f22) impl_PutInOrder_an (⟨mkE 23 0 [(0, .dat (.list (.int .i64)) x1502), (1, .dat (.list (.int .i64)) x1503)], []⟩ : St) (impl_PutInOrder_n1 x1502 x1503) (fun (t : Bool × (List Int)) => (Exit.ret, (⟨mkE 23 0 [(4, .slc 0), (5, .dat .bool t.1)], [some (.seq (.int .i64) t.2)]⟩ : St))) := by
  refine Link.of fun K h => ?_
  simp only [impl_PutInOrder_n1, wpO_bind, wpO_cond, wpO_map, wpO_some] at h
  exact Awp.of (by kernel_rfl) h

theorem impl_PutInOrder_e (x1502 : List Int) (x1503 : List Int) {r : AV} {H' : Heap} (h : (Ans.mk _ (impl_PutInOrder x1502 x1503) (fun (t : Bool × (List Int)) => (.tup [.slc 0, .dat .bool t.1], [some (.seq (.int .i64) t.2)]))).run = some (r, H')) : Awp impl_PutInOrder_ctx LL (bodyOf Try.f22) impl_PutInOrder_an (⟨mkE 23 0 [(0, .dat (.list (.int .i64)) x1502), (1, .dat (.list (.int .i64)) x1503)], []⟩ : St) (Ret (tlook tys) Try.f22.results.toList r H') :=
  ret_of' (impl_PutInOrder_n1_l x1502 x1503) (by unfold impl_PutInOrder; kernel_rfl) (by
  intro t
  exact ret_mk [.slc 0, .dat .bool t.1] (by kernel_rfl) (by kernel_rfl) (by kernel_rfl) (by kernel_rfl)) h

def F_impl_PutInOrder : Fun := fun avs H =>
  match avs, H with
  | [.dat (.list (.int .i64)) x1502, .dat (.list (.int .i64)) x1503], [] => ⟨_, impl_PutInOrder x1502 x1503, fun (t : Bool × (List Int)) => (.tup [.slc 0, .dat .bool t.1], [some (.seq (.int .i64) t.2)])⟩
  | _, _ => Ans.no

theorem impl_PutInOrder_sound : Sound Try.prog 22 F_impl_PutInOrder := by
  refine fn_sound' (C := impl_PutInOrder_ctx) (c := bodyOf Try.f22) (cok_of tys_ok (List.forall_mem_cons.2 ⟨impl_TreeOk_sound, List.forall_mem_cons.2 ⟨impl_OrderOk_sound, List.forall_mem_cons.2 ⟨impl_placesIn_sound, List.forall_mem_cons.2 ⟨impl_renamed_int_sound, by simp⟩⟩⟩⟩) (List.forall_mem_cons.2 ⟨Try.call26, List.forall_mem_cons.2 ⟨Try.call20, List.forall_mem_cons.2 ⟨Try.call31, List.forall_mem_cons.2 ⟨Try.call32, by simp⟩⟩⟩⟩) (by kernel_rfl)) Try.func22 (by kernel_rfl) LL impl_PutInOrder_an ?_
  intro avs H r H' h
  unfold F_impl_PutInOrder at h
  split at h
  · refine Awp.cast ?_ ?_ ?_ (impl_PutInOrder_e _ _ h) <;> kernel_rfl
  · simp [Ans.no, Ans.run] at h

/-! loop.example/headtrees/laws.FnExactPutInOrder -/

def laws_FnExactPutInOrder_an : Ann := (.seq (.leaf [0, 1]) (.seq (.seq (.leaf [0, 1, 18]) (.cond (.seq (.leaf [4]) (.leaf [4])) (.leaf [0, 1]))) (.seq (.seq (.leaf [0, 1, 21]) (.cond (.seq (.leaf [4]) (.leaf [4])) (.leaf [0, 1]))) (.seq (.leaf [0, 1, 5, 6]) (.seq (.leaf [0, 1, 5, 6, 7]) (.seq (.leaf [0, 1, 5, 6, 7, 8]) (.seq (.leaf [0, 1, 5, 6, 7, 8, 9, 10]) (.seq (.seq (.leaf [0, 1, 5, 6, 7, 8, 9, 10, 48]) (.cond (.seq (.leaf [4]) (.leaf [4])) (.leaf [0, 1, 5, 6, 7, 8, 9, 10]))) (.seq (.seq (.leaf [0, 1, 5, 6, 7, 8, 9, 10, 53]) (.cond (.seq (.leaf [4]) (.leaf [4])) (.leaf [0, 1, 5, 6, 7, 8, 9, 10]))) (.seq (.seq (.leaf [0, 1, 5, 6, 7, 8, 9, 10, 58]) (.cond (.seq (.leaf [4]) (.leaf [4])) (.leaf [0, 1, 5, 6, 7, 8, 9, 10]))) (.seq (.leaf [0, 1, 5, 6, 7, 8, 9, 10, 11]) (.seq (.leaf [0, 1, 5, 6, 8, 9, 10, 11]) (.seq (.leaf [0, 1, 5, 6, 9, 10, 11]) (.seq (.seq (.leaf [0, 1, 5, 6, 9, 77]) (.cond (.seq (.leaf [4]) (.leaf [4])) (.leaf [0, 1, 5, 6, 9]))) (.seq (.leaf [0, 1, 5, 6, 9, 12]) (.seq (.leaf [0, 1, 5, 6, 9, 12]) (.seq (.leaf [0, 1, 5, 6, 9, 12, 13]) (.seq (.leaf [0, 1, 5, 6, 9, 12, 13]) (.seq (.seq (.leaf [0, 1, 5, 6, 9, 12, 13, 85]) (.cond (.seq (.leaf [4]) (.leaf [4])) (.leaf [0, 1, 5, 6, 9, 12, 13]))) (.seq (.seq (.leaf [0, 1, 5, 6, 9, 12, 88]) (.cond (.seq (.leaf [4]) (.leaf [4])) (.leaf [0, 1, 5, 6, 9, 12]))) (.seq (.leaf [5, 6, 9, 12, 14, 15]) (.seq (.seq (.leaf [9, 12, 105]) (.cond (.seq (.leaf [4]) (.leaf [4])) (.leaf [9, 12]))) (.seq (.leaf [9, 12, 13]) (.seq (.leaf [12, 13]) (.seq (.seq (.leaf [12, 13, 110]) (.cond (.seq (.leaf [4]) (.leaf [4])) (.leaf [12, 13]))) (.seq (.seq (.leaf [113]) (.cond (.seq (.leaf [4]) (.leaf [4])) (.leaf []))) (.seq (.leaf [4]) (.leaf [4]))))))))))))))))))))))))))))

noncomputable def laws_FnExactPutInOrder_ctx : Ctx := ⟨tlook tys, olook [(10, F_laws_toIntS), (21, F_spec_PutInOrder), (22, F_impl_PutInOrder), (12, F_laws_eqIntS), (15, F_laws_markIntS), (16, F_laws_heldIntS)], ioF, 0⟩

theorem laws_FnExactPutInOrder_n1_l (x1351 : List Int) (x1352 : List Int) : Link laws_FnExactPutInOrder_ctx LL (Code.seq (Code.fst (bodyOf Try.f7)) (Code.seq (Code.fst (Code.snd (bodyOf Try.f7))) (Code.seq (Code.fst (Code.snd (Code.snd (bodyOf Try.f7)))) (Code.seq (Code.fst (Code.snd (Code.snd (Code.snd (bodyOf Try.f7))))) (Code.seq (Code.fst (Code.snd (Code.snd (Code.snd (Code.snd (bodyOf Try.f7)))))) (Code.seq (Code.fst (Code.snd (Code.snd (Code.snd (Code.snd (Code.snd (bodyOf Try.f7))))))) (Code.seq (Code.fst (Code.snd (Code.snd (Code.snd (Code.snd (Code.snd (Code.snd (bodyOf Try.f7)))))))) (Code.seq (Code.fst (Code.snd (Code.snd (Code.snd (Code.snd (Code.snd (Code.snd (Code.snd (bodyOf Try.f7))))))))) (Code.seq (Code.fst (Code.snd (Code.snd (Code.snd (Code.snd (Code.snd (Code.snd (Code.snd (Code.snd (bodyOf Try.f7)))))))))) (Code.seq (Code.fst (Code.snd (Code.snd (Code.snd (Code.snd (Code.snd (Code.snd (Code.snd (Code.snd (Code.snd (bodyOf Try.f7))))))))))) (Code.seq (Code.fst (Code.snd (Code.snd (Code.snd (Code.snd (Code.snd (Code.snd (Code.snd (Code.snd (Code.snd (Code.snd (bodyOf Try.f7)))))))))))) (Code.seq (Code.fst (Code.snd (Code.snd (Code.snd (Code.snd (Code.snd (Code.snd (Code.snd (Code.snd (Code.snd (Code.snd (Code.snd (bodyOf Try.f7))))))))))))) (Code.seq (Code.fst (Code.snd (Code.snd (Code.snd (Code.snd (Code.snd (Code.snd (Code.snd (Code.snd (Code.snd (Code.snd (Code.snd (Code.snd (bodyOf Try.f7)))))))))))))) (Code.seq (Code.fst (Code.snd (Code.snd (Code.snd (Code.snd (Code.snd (Code.snd (Code.snd (Code.snd (Code.snd (Code.snd (Code.snd (Code.snd (Code.snd (bodyOf Try.f7))))))))))))))) (Code.seq (Code.fst (Code.snd (Code.snd (Code.snd (Code.snd (Code.snd (Code.snd (Code.snd (Code.snd (Code.snd (Code.snd (Code.snd (Code.snd (Code.snd (Code.snd (bodyOf Try.f7)))))))))))))))) (Code.seq (Code.fst (Code.snd (Code.snd (Code.snd (Code.snd (Code.snd (Code.snd (Code.snd (Code.snd (Code.snd (Code.snd (Code.snd (Code.snd (Code.snd (Code.snd (Code.snd (bodyOf Try.f7))))))))))))))))) (Code.seq (Code.fst (Code.snd (Code.snd (Code.snd (Code.snd (Code.snd (Code.snd (Code.snd (Code.snd (Code.snd (Code.snd (Code.snd (Code.snd (Code.snd (Code.snd (Code.snd (Code.snd (bodyOf Try.f7)))))))))))))))))) (Code.seq (Code.fst (Code.snd (Code.snd (Code.snd (Code.snd (Code.snd (Code.snd (Code.snd (Code.snd (Code.snd (Code.snd (Code.snd (Code.snd (Code.snd (Code.snd (Code.snd (Code.snd (Code.snd (bodyOf Try.f7))))))))))))))))))) (Code.seq (Code.fst (Code.snd (Code.snd (Code.snd (Code.snd (Code.snd (Code.snd (Code.snd (Code.snd (Code.snd (Code.snd (Code.snd (Code.snd (Code.snd (Code.snd (Code.snd (Code.snd (Code.snd (Code.snd (bodyOf Try.f7)))))))))))))))))))) (Code.seq (Code.fst (Code.snd (Code.snd (Code.snd (Code.snd (Code.snd (Code.snd (Code.snd (Code.snd (Code.snd (Code.snd (Code.snd (Code.snd (Code.snd (Code.snd (Code.snd (Code.snd (Code.snd (Code.snd (Code.snd (bodyOf Try.f7))))))))))))))))))))) (Code.seq (Code.fst (Code.snd (Code.snd (Code.snd (Code.snd (Code.snd (Code.snd (Code.snd (Code.snd (Code.snd (Code.snd (Code.snd (Code.snd (Code.snd (Code.snd (Code.snd (Code.snd (Code.snd (Code.snd (Code.snd (Code.snd (bodyOf Try.f7)))))))))))))))))))))) (Code.seq (Code.fst (Code.snd (Code.snd (Code.snd (Code.snd (Code.snd (Code.snd (Code.snd (Code.snd (Code.snd (Code.snd (Code.snd (Code.snd (Code.snd (Code.snd (Code.snd (Code.snd (Code.snd (Code.snd (Code.snd (Code.snd (Code.snd (bodyOf Try.f7))))))))))))))))))))))) (Code.seq (Code.fst (Code.snd (Code.snd (Code.snd (Code.snd (Code.snd (Code.snd (Code.snd (Code.snd (Code.snd (Code.snd (Code.snd (Code.snd (Code.snd (Code.snd (Code.snd (Code.snd (Code.snd (Code.snd (Code.snd (Code.snd (Code.snd (Code.snd (bodyOf Try.f7)))))))))))))))))))))))) (Code.fst (Code.snd (Code.snd (Code.snd (Code.snd (Code.snd (Code.snd (Code.snd (Code.snd (Code.snd (Code.snd (Code.snd (Code.snd (Code.snd (Code.snd (Code.snd (Code.snd (Code.snd (Code.snd (Code.snd (Code.snd (Code.snd (Code.snd (Code.snd (bodyOf Try.f7)))))))))))))))))))))))))))))))))))))))))))))))) (Ann.seq (Ann.fst laws_FnExactPutInOrder_an) (Ann.seq (Ann.fst (Ann.snd laws_FnExactPutInOrder_an)) (Ann.seq (Ann.fst (Ann.snd (Ann.snd laws_FnExactPutInOrder_an))) (Ann.seq (Ann.fst (Ann.snd (Ann.snd (Ann.snd laws_FnExactPutInOrder_an)))) (Ann.seq (Ann.fst (Ann.snd (Ann.snd (Ann.snd (Ann.snd laws_FnExactPutInOrder_an))))) (Ann.seq (Ann.fst (Ann.snd (Ann.snd (Ann.snd (Ann.snd (Ann.snd laws_FnExactPutInOrder_an)))))) (Ann.seq (Ann.fst (Ann.snd (Ann.snd (Ann.snd (Ann.snd (Ann.snd (Ann.snd laws_FnExactPutInOrder_an))))))) (Ann.seq (Ann.fst (Ann.snd (Ann.snd (Ann.snd (Ann.snd (Ann.snd (Ann.snd (Ann.snd laws_FnExactPutInOrder_an)))))))) (Ann.seq (Ann.fst (Ann.snd (Ann.snd (Ann.snd (Ann.snd (Ann.snd (Ann.snd (Ann.snd (Ann.snd laws_FnExactPutInOrder_an))))))))) (Ann.seq (Ann.fst (Ann.snd (Ann.snd (Ann.snd (Ann.snd (Ann.snd (Ann.snd (Ann.snd (Ann.snd (Ann.snd laws_FnExactPutInOrder_an)))))))))) (Ann.seq (Ann.fst (Ann.snd (Ann.snd (Ann.snd (Ann.snd (Ann.snd (Ann.snd (Ann.snd (Ann.snd (Ann.snd (Ann.snd laws_FnExactPutInOrder_an))))))))))) (Ann.seq (Ann.fst (Ann.snd (Ann.snd (Ann.snd (Ann.snd (Ann.snd (Ann.snd (Ann.snd (Ann.snd (Ann.snd (Ann.snd (Ann.snd laws_FnExactPutInOrder_an)))))))))))) (Ann.seq (Ann.fst (Ann.snd (Ann.snd (Ann.snd (Ann.snd (Ann.snd (Ann.snd (Ann.snd (Ann.snd (Ann.snd (Ann.snd (Ann.snd (Ann.snd laws_FnExactPutInOrder_an))))))))))))) (Ann.seq (Ann.fst (Ann.snd (Ann.snd (Ann.snd (Ann.snd (Ann.snd (Ann.snd (Ann.snd (Ann.snd (Ann.snd (Ann.snd (Ann.snd (Ann.snd (Ann.snd laws_FnExactPutInOrder_an)))))))))))))) (Ann.seq (Ann.fst (Ann.snd (Ann.snd (Ann.snd (Ann.snd (Ann.snd (Ann.snd (Ann.snd (Ann.snd (Ann.snd (Ann.snd (Ann.snd (Ann.snd (Ann.snd (Ann.snd laws_FnExactPutInOrder_an))))))))))))))) (Ann.seq (Ann.fst (Ann.snd (Ann.snd (Ann.snd (Ann.snd (Ann.snd (Ann.snd (Ann.snd (Ann.snd (Ann.snd (Ann.snd (Ann.snd (Ann.snd (Ann.snd (Ann.snd (Ann.snd laws_FnExactPutInOrder_an)))))))))))))))) (Ann.seq (Ann.fst (Ann.snd (Ann.snd (Ann.snd (Ann.snd (Ann.snd (Ann.snd (Ann.snd (Ann.snd (Ann.snd (Ann.snd (Ann.snd (Ann.snd (Ann.snd (Ann.snd (Ann.snd (Ann.snd laws_FnExactPutInOrder_an))))))))))))))))) (Ann.seq (Ann.fst (Ann.snd (Ann.snd (Ann.snd (Ann.snd (Ann.snd (Ann.snd (Ann.snd (Ann.snd (Ann.snd (Ann.snd (Ann.snd (Ann.snd (Ann.snd (Ann.snd (Ann.snd (Ann.snd (Ann.snd laws_FnExactPutInOrder_an)))))))))))))))))) (Ann.seq (Ann.fst (Ann.snd (Ann.snd (Ann.snd (Ann.snd (Ann.snd (Ann.snd (Ann.snd (Ann.snd (Ann.snd (Ann.snd (Ann.snd (Ann.snd (Ann.snd (Ann.snd (Ann.snd (Ann.snd (Ann.snd (Ann.snd laws_FnExactPutInOrder_an))))))))))))))))))) (Ann.seq (Ann.fst (Ann.snd (Ann.snd (Ann.snd (Ann.snd (Ann.snd (Ann.snd (Ann.snd (Ann.snd (Ann.snd (Ann.snd (Ann.snd (Ann.snd (Ann.snd (Ann.snd (Ann.snd (Ann.snd (Ann.snd (Ann.snd (Ann.snd laws_FnExactPutInOrder_an)))))))))))))))))))) (Ann.seq (Ann.fst (Ann.snd (Ann.snd (Ann.snd (Ann.snd (Ann.snd (Ann.snd (Ann.snd (Ann.snd (Ann.snd (Ann.snd (Ann.snd (Ann.snd (Ann.snd (Ann.snd (Ann.snd (Ann.snd (Ann.snd (Ann.snd (Ann.snd (Ann.snd laws_FnExactPutInOrder_an))))))))))))))))))))) (Ann.seq (Ann.fst (Ann.snd (Ann.snd (Ann.snd (Ann.snd (Ann.snd (Ann.snd (Ann.snd (Ann.snd (Ann.snd (Ann.snd (Ann.snd (Ann.snd (Ann.snd (Ann.snd (Ann.snd (Ann.snd (Ann.snd (Ann.snd (Ann.snd (Ann.snd (Ann.snd laws_FnExactPutInOrder_an)))))))))))))))))))))) (Ann.seq (Ann.fst (Ann.snd (Ann.snd (Ann.snd (Ann.snd (Ann.snd (Ann.snd (Ann.snd (Ann.snd (Ann.snd (Ann.snd (Ann.snd (Ann.snd (Ann.snd (Ann.snd (Ann.snd (Ann.snd (Ann.snd (Ann.snd (Ann.snd (Ann.snd (Ann.snd (Ann.snd laws_FnExactPutInOrder_an))))))))))))))))))))))) (Ann.fst (Ann.snd (Ann.snd (Ann.snd (Ann.snd (Ann.snd (Ann.snd (Ann.snd (Ann.snd (Ann.snd (Ann.snd (Ann.snd (Ann.snd (Ann.snd (Ann.snd (Ann.snd (Ann.snd (Ann.snd (Ann.snd (Ann.snd (Ann.snd (Ann.snd (Ann.snd (Ann.snd laws_FnExactPutInOrder_an))))))))))))))))))))))))))))))))))))))))))))))) (⟨mkE 114 0 [(0, .dat (.list (.int .i64)) x1351), (1, .dat (.list (.int .i64)) x1352)], []⟩ : St) (laws_FnExactPutInOrder_n1 x1351 x1352) (Sum.elim (fun (t : Int × Int) => (Exit.normal, (⟨mkE 114 0 [(12, .dat (.int .i64) t.1), (13, .dat (.int .i64) t.2)], []⟩ : St))) (fun (t : Bool) => (Exit.ret, (⟨mkE 114 0 [(4, .dat .bool t)], []⟩ : St)))) := by
  refine Link.of fun K h => ?_
  simp only [laws_FnExactPutInOrder_n1, wpO_bind, wpO_cond, wpO_map, wpO_some] at h
  exact Awp.of (by kernel_rfl) h

theorem laws_FnExactPutInOrder_n2_l (x2179 : Int) (x2192 : Int) : Link laws_FnExactPutInOrder_ctx LL (Code.snd (Code.snd (Code.snd (Code.snd (Code.snd (Code.snd (Code.snd (Code.snd (Code.snd (Code.snd (Code.snd (Code.snd (Code.snd (Code.snd (Code.snd (Code.snd (Code.snd (Code.snd (Code.snd (Code.snd (Code.snd (Code.snd (Code.snd (Code.snd (bodyOf Try.f7))))))))))))))))))))))))) (Ann.snd (Ann.snd (Ann.snd (Ann.snd (Ann.snd (Ann.snd (Ann.snd (Ann.snd (Ann.snd (Ann.snd (Ann.snd (Ann.snd (Ann.snd (Ann.snd (Ann.snd (Ann.snd (Ann.snd (Ann.snd (Ann.snd (Ann.snd (Ann.snd (Ann.snd (Ann.snd (Ann.snd laws_FnExactPutInOrder_an)))))))))))))))))))))))) (⟨mkE 114 0 [(12, .dat (.int .i64) x2179), (13, .dat (.int .i64) x2192)], []⟩ : St) (laws_FnExactPutInOrder_n2 x2179 x2192) (fun (t : Bool) => (Exit.ret, (⟨mkE 114 0 [(4, .dat .bool t)], []⟩ : St))) := by
  refine Link.of fun K h => ?_
  simp only [laws_FnExactPutInOrder_n2, wpO_bind, wpO_cond, wpO_map, wpO_some] at h
  exact Awp.of (by kernel_rfl) h

theorem laws_FnExactPutInOrder_n3_l (x1351 : List Int) (x1352 : List Int) : Link laws_FnExactPutInOrder_ctx LL (bodyOf Try.f7) laws_FnExactPutInOrder_an (⟨mkE 114 0 [(0, .dat (.list (.int .i64)) x1351), (1, .dat (.list (.int .i64)) x1352)], []⟩ : St) (laws_FnExactPutInOrder_n3 x1351 x1352) (fun (t : Bool) => (Exit.ret, (⟨mkE 114 0 [(4, .dat .bool t)], []⟩ : St))) := by
  unfold laws_FnExactPutInOrder_n3
  exact Link.cast (by kernel_rfl) (by kernel_rfl) (link_group (c := (Code.fst (Code.snd (Code.snd (Code.snd (Code.snd (Code.snd (Code.snd (Code.snd (Code.snd (Code.snd (Code.snd (Code.snd (Code.snd (Code.snd (Code.snd (Code.snd (Code.snd (Code.snd (Code.snd (Code.snd (Code.snd (Code.snd (Code.snd (Code.snd (bodyOf Try.f7)))))))))))))))))))))))))) (a := (Ann.fst (Ann.snd (Ann.snd (Ann.snd (Ann.snd (Ann.snd (Ann.snd (Ann.snd (Ann.snd (Ann.snd (Ann.snd (Ann.snd (Ann.snd (Ann.snd (Ann.snd (Ann.snd (Ann.snd (Ann.snd (Ann.snd (Ann.snd (Ann.snd (Ann.snd (Ann.snd (Ann.snd laws_FnExactPutInOrder_an))))))))))))))))))))))))) [(Code.fst (bodyOf Try.f7)), (Code.fst (Code.snd (bodyOf Try.f7))), (Code.fst (Code.snd (Code.snd (bodyOf Try.f7)))), (Code.fst (Code.snd (Code.snd (Code.snd (bodyOf Try.f7))))), (Code.fst (Code.snd (Code.snd (Code.snd (Code.snd (bodyOf Try.f7)))))), (Code.fst (Code.snd (Code.snd (Code.snd (Code.snd (Code.snd (bodyOf Try.f7))))))), (Code.fst (Code.snd (Code.snd (Code.snd (Code.snd (Code.snd (Code.snd (bodyOf Try.f7)))))))), (Code.fst (Code.snd (Code.snd (Code.snd (Code.snd (Code.snd (Code.snd (Code.snd (bodyOf Try.f7))))))))), (Code.fst (Code.snd (Code.snd (Code.snd (Code.snd (Code.snd (Code.snd (Code.snd (Code.snd (bodyOf Try.f7)))))))))), (Code.fst (Code.snd (Code.snd (Code.snd (Code.snd (Code.snd (Code.snd (Code.snd (Code.snd (Code.snd (bodyOf Try.f7))))))))))), (Code.fst (Code.snd (Code.snd (Code.snd (Code.snd (Code.snd (Code.snd (Code.snd (Code.snd (Code.snd (Code.snd (bodyOf Try.f7)))))))))))), (Code.fst (Code.snd (Code.snd (Code.snd (Code.snd (Code.snd (Code.snd (Code.snd (Code.snd (Code.snd (Code.snd (Code.snd (bodyOf Try.f7))))))))))))), (Code.fst (Code.snd (Code.snd (Code.snd (Code.snd (Code.snd (Code.snd (Code.snd (Code.snd (Code.snd (Code.snd (Code.snd (Code.snd (bodyOf Try.f7)))))))))))))), (Code.fst (Code.snd (Code.snd (Code.snd (Code.snd (Code.snd (Code.snd (Code.snd (Code.snd (Code.snd (Code.snd (Code.snd (Code.snd (Code.snd (bodyOf Try.f7))))))))))))))), (Code.fst (Code.snd (Code.snd (Code.snd (Code.snd (Code.snd (Code.snd (Code.snd (Code.snd (Code.snd (Code.snd (Code.snd (Code.snd (Code.snd (Code.snd (bodyOf Try.f7)))))))))))))))), (Code.fst (Code.snd (Code.snd (Code.snd (Code.snd (Code.snd (Code.snd (Code.snd (Code.snd (Code.snd (Code.snd (Code.snd (Code.snd (Code.snd (Code.snd (Code.snd (bodyOf Try.f7))))))))))))))))), (Code.fst (Code.snd (Code.snd (Code.snd (Code.snd (Code.snd (Code.snd (Code.snd (Code.snd (Code.snd (Code.snd (Code.snd (Code.snd (Code.snd (Code.snd (Code.snd (Code.snd (bodyOf Try.f7)))))))))))))))))), (Code.fst (Code.snd (Code.snd (Code.snd (Code.snd (Code.snd (Code.snd (Code.snd (Code.snd (Code.snd (Code.snd (Code.snd (Code.snd (Code.snd (Code.snd (Code.snd (Code.snd (Code.snd (bodyOf Try.f7))))))))))))))))))), (Code.fst (Code.snd (Code.snd (Code.snd (Code.snd (Code.snd (Code.snd (Code.snd (Code.snd (Code.snd (Code.snd (Code.snd (Code.snd (Code.snd (Code.snd (Code.snd (Code.snd (Code.snd (Code.snd (bodyOf Try.f7)))))))))))))))))))), (Code.fst (Code.snd (Code.snd (Code.snd (Code.snd (Code.snd (Code.snd (Code.snd (Code.snd (Code.snd (Code.snd (Code.snd (Code.snd (Code.snd (Code.snd (Code.snd (Code.snd (Code.snd (Code.snd (Code.snd (bodyOf Try.f7))))))))))))))))))))), (Code.fst (Code.snd (Code.snd (Code.snd (Code.snd (Code.snd (Code.snd (Code.snd (Code.snd (Code.snd (Code.snd (Code.snd (Code.snd (Code.snd (Code.snd (Code.snd (Code.snd (Code.snd (Code.snd (Code.snd (Code.snd (bodyOf Try.f7)))))))))))))))))))))), (Code.fst (Code.snd (Code.snd (Code.snd (Code.snd (Code.snd (Code.snd (Code.snd (Code.snd (Code.snd (Code.snd (Code.snd (Code.snd (Code.snd (Code.snd (Code.snd (Code.snd (Code.snd (Code.snd (Code.snd (Code.snd (Code.snd (bodyOf Try.f7))))))))))))))))))))))), (Code.fst (Code.snd (Code.snd (Code.snd (Code.snd (Code.snd (Code.snd (Code.snd (Code.snd (Code.snd (Code.snd (Code.snd (Code.snd (Code.snd (Code.snd (Code.snd (Code.snd (Code.snd (Code.snd (Code.snd (Code.snd (Code.snd (Code.snd (bodyOf Try.f7))))))))))))))))))))))))] [(Ann.fst laws_FnExactPutInOrder_an), (Ann.fst (Ann.snd laws_FnExactPutInOrder_an)), (Ann.fst (Ann.snd (Ann.snd laws_FnExactPutInOrder_an))), (Ann.fst (Ann.snd (Ann.snd (Ann.snd laws_FnExactPutInOrder_an)))), (Ann.fst (Ann.snd (Ann.snd (Ann.snd (Ann.snd laws_FnExactPutInOrder_an))))), (Ann.fst (Ann.snd (Ann.snd (Ann.snd (Ann.snd (Ann.snd laws_FnExactPutInOrder_an)))))), (Ann.fst (Ann.snd (Ann.snd (Ann.snd (Ann.snd (Ann.snd (Ann.snd laws_FnExactPutInOrder_an))))))), (Ann.fst (Ann.snd (Ann.snd (Ann.snd (Ann.snd (Ann.snd (Ann.snd (Ann.snd laws_FnExactPutInOrder_an)))))))), (Ann.fst (Ann.snd (Ann.snd (Ann.snd (Ann.snd (Ann.snd (Ann.snd (Ann.snd (Ann.snd laws_FnExactPutInOrder_an))))))))), (Ann.fst (Ann.snd (Ann.snd (Ann.snd (Ann.snd (Ann.snd (Ann.snd (Ann.snd (Ann.snd (Ann.snd laws_FnExactPutInOrder_an)))))))))), (Ann.fst (Ann.snd (Ann.snd (Ann.snd (Ann.snd (Ann.snd (Ann.snd (Ann.snd (Ann.snd (Ann.snd (Ann.snd laws_FnExactPutInOrder_an))))))))))), (Ann.fst (Ann.snd (Ann.snd (Ann.snd (Ann.snd (Ann.snd (Ann.snd (Ann.snd (Ann.snd (Ann.snd (Ann.snd (Ann.snd laws_FnExactPutInOrder_an)))))))))))), (Ann.fst (Ann.snd (Ann.snd (Ann.snd (Ann.snd (Ann.snd (Ann.snd (Ann.snd (Ann.snd (Ann.snd (Ann.snd (Ann.snd (Ann.snd laws_FnExactPutInOrder_an))))))))))))), (Ann.fst (Ann.snd (Ann.snd (Ann.snd (Ann.snd (Ann.snd (Ann.snd (Ann.snd (Ann.snd (Ann.snd (Ann.snd (Ann.snd (Ann.snd (Ann.snd laws_FnExactPutInOrder_an)))))))))))))), (Ann.fst (Ann.snd (Ann.snd (Ann.snd (Ann.snd (Ann.snd (Ann.snd (Ann.snd (Ann.snd (Ann.snd (Ann.snd (Ann.snd (Ann.snd (Ann.snd (Ann.snd laws_FnExactPutInOrder_an))))))))))))))), (Ann.fst (Ann.snd (Ann.snd (Ann.snd (Ann.snd (Ann.snd (Ann.snd (Ann.snd (Ann.snd (Ann.snd (Ann.snd (Ann.snd (Ann.snd (Ann.snd (Ann.snd (Ann.snd laws_FnExactPutInOrder_an)))))))))))))))), (Ann.fst (Ann.snd (Ann.snd (Ann.snd (Ann.snd (Ann.snd (Ann.snd (Ann.snd (Ann.snd (Ann.snd (Ann.snd (Ann.snd (Ann.snd (Ann.snd (Ann.snd (Ann.snd (Ann.snd laws_FnExactPutInOrder_an))))))))))))))))), (Ann.fst (Ann.snd (Ann.snd (Ann.snd (Ann.snd (Ann.snd (Ann.snd (Ann.snd (Ann.snd (Ann.snd (Ann.snd (Ann.snd (Ann.snd (Ann.snd (Ann.snd (Ann.snd (Ann.snd (Ann.snd laws_FnExactPutInOrder_an)))))))))))))))))), (Ann.fst (Ann.snd (Ann.snd (Ann.snd (Ann.snd (Ann.snd (Ann.snd (Ann.snd (Ann.snd (Ann.snd (Ann.snd (Ann.snd (Ann.snd (Ann.snd (Ann.snd (Ann.snd (Ann.snd (Ann.snd (Ann.snd laws_FnExactPutInOrder_an))))))))))))))))))), (Ann.fst (Ann.snd (Ann.snd (Ann.snd (Ann.snd (Ann.snd (Ann.snd (Ann.snd (Ann.snd (Ann.snd (Ann.snd (Ann.snd (Ann.snd (Ann.snd (Ann.snd (Ann.snd (Ann.snd (Ann.snd (Ann.snd (Ann.snd laws_FnExactPutInOrder_an)))))))))))))))))))), (Ann.fst (Ann.snd (Ann.snd (Ann.snd (Ann.snd (Ann.snd (Ann.snd (Ann.snd (Ann.snd (Ann.snd (Ann.snd (Ann.snd (Ann.snd (Ann.snd (Ann.snd (Ann.snd (Ann.snd (Ann.snd (Ann.snd (Ann.snd (Ann.snd laws_FnExactPutInOrder_an))))))))))))))))))))), (Ann.fst (Ann.snd (Ann.snd (Ann.snd (Ann.snd (Ann.snd (Ann.snd (Ann.snd (Ann.snd (Ann.snd (Ann.snd (Ann.snd (Ann.snd (Ann.snd (Ann.snd (Ann.snd (Ann.snd (Ann.snd (Ann.snd (Ann.snd (Ann.snd (Ann.snd laws_FnExactPutInOrder_an)))))))))))))))))))))), (Ann.fst (Ann.snd (Ann.snd (Ann.snd (Ann.snd (Ann.snd (Ann.snd (Ann.snd (Ann.snd (Ann.snd (Ann.snd (Ann.snd (Ann.snd (Ann.snd (Ann.snd (Ann.snd (Ann.snd (Ann.snd (Ann.snd (Ann.snd (Ann.snd (Ann.snd (Ann.snd laws_FnExactPutInOrder_an)))))))))))))))))))))))] rfl (link_seq2 (b := (Code.snd (Code.snd (Code.snd (Code.snd (Code.snd (Code.snd (Code.snd (Code.snd (Code.snd (Code.snd (Code.snd (Code.snd (Code.snd (Code.snd (Code.snd (Code.snd (Code.snd (Code.snd (Code.snd (Code.snd (Code.snd (Code.snd (Code.snd (Code.snd (bodyOf Try.f7)))))))))))))))))))))))))) (y := (Ann.snd (Ann.snd (Ann.snd (Ann.snd (Ann.snd (Ann.snd (Ann.snd (Ann.snd (Ann.snd (Ann.snd (Ann.snd (Ann.snd (Ann.snd (Ann.snd (Ann.snd (Ann.snd (Ann.snd (Ann.snd (Ann.snd (Ann.snd (Ann.snd (Ann.snd (Ann.snd (Ann.snd laws_FnExactPutInOrder_an))))))))))))))))))))))))) (laws_FnExactPutInOrder_n1_l x1351 x1352) (fun (t : Int × Int) => (laws_FnExactPutInOrder_n2_l t.1 t.2)) (fun (t : Bool) => t) (by
  rintro t
  · kernel_rfl) (by
  rintro t f K h
  · exact h)))

theorem laws_FnExactPutInOrder_e (x1351 : List Int) (x1352 : List Int) {r : AV} {H' : Heap} (h : (Ans.mk _ (laws_FnExactPutInOrder x1351 x1352) (fun (t : Bool) => (.dat .bool t, []))).run = some (r, H')) : Awp laws_FnExactPutInOrder_ctx LL (bodyOf Try.f7) laws_FnExactPutInOrder_an (⟨mkE 114 0 [(0, .dat (.list (.int .i64)) x1351), (1, .dat (.list (.int .i64)) x1352)], []⟩ : St) (Ret (tlook tys) Try.f7.results.toList r H') :=
  ret_of' (laws_FnExactPutInOrder_n3_l x1351 x1352) (by unfold laws_FnExactPutInOrder; kernel_rfl) (by
  intro t
  exact ret_mk [.dat .bool t] (by kernel_rfl) (by kernel_rfl) (by kernel_rfl) (by kernel_rfl)) h

def F_laws_FnExactPutInOrder : Fun := fun avs H =>
  match avs, H with
  | [.dat (.list (.int .i64)) x1351, .dat (.list (.int .i64)) x1352], [] => ⟨_, laws_FnExactPutInOrder x1351 x1352, fun (t : Bool) => (.dat .bool t, [])⟩
  | _, _ => Ans.no

theorem laws_FnExactPutInOrder_sound : Sound Try.prog 7 F_laws_FnExactPutInOrder := by
  refine fn_sound' (C := laws_FnExactPutInOrder_ctx) (c := bodyOf Try.f7) (cok_of tys_ok (List.forall_mem_cons.2 ⟨laws_toIntS_sound, List.forall_mem_cons.2 ⟨spec_PutInOrder_sound, List.forall_mem_cons.2 ⟨impl_PutInOrder_sound, List.forall_mem_cons.2 ⟨laws_eqIntS_sound, List.forall_mem_cons.2 ⟨laws_markIntS_sound, List.forall_mem_cons.2 ⟨laws_heldIntS_sound, by simp⟩⟩⟩⟩⟩⟩) (List.forall_mem_cons.2 ⟨Try.call10, List.forall_mem_cons.2 ⟨Try.call21, List.forall_mem_cons.2 ⟨Try.call22, List.forall_mem_cons.2 ⟨Try.call12, List.forall_mem_cons.2 ⟨Try.call15, List.forall_mem_cons.2 ⟨Try.call16, by simp⟩⟩⟩⟩⟩⟩) (by kernel_rfl)) Try.func7 (by kernel_rfl) LL laws_FnExactPutInOrder_an ?_
  intro avs H r H' h
  unfold F_laws_FnExactPutInOrder at h
  split at h
  · refine Awp.cast ?_ ?_ ?_ (laws_FnExactPutInOrder_e _ _ h) <;> kernel_rfl
  · simp [Ans.no, Ans.run] at h

/-! loop.example/headtrees/spec.SidesOf -/

def spec_SidesOf_an : Ann := (.seq (.leaf [0, 1]) (.seq (.seq (.leaf [0, 1, 19]) (.cond (.seq (.leaf [4, 5, 6]) (.leaf [4, 5, 6])) (.leaf [0, 1]))) (.seq (.leaf [0, 1, 7]) (.seq (.leaf [0, 1, 7, 8]) (.seq (.seq (.leaf [0, 1, 7, 8, 9]) (.block (.loop (.seq (.seq (.leaf [0, 1, 7, 8, 9, 23]) (.cond (.leaf [0, 1, 7, 8, 9]) (.leaf [7, 8]))) (.seq (.block (.seq (.seq (.leaf [0, 1, 7, 8, 9, 37]) (.cond (.leaf [0, 1, 7, 8, 9]) (.leaf [0, 1, 7, 8, 9]))) (.seq (.leaf [0, 1, 7, 8, 9, 51]) (.cond (.leaf [0, 1, 7, 8, 9]) (.leaf [0, 1, 7, 8, 9]))))) (.leaf [0, 1, 7, 8, 9])))))) (.seq (.leaf [4, 5, 6]) (.leaf [4, 5, 6])))))))

noncomputable def spec_SidesOf_ctx : Ctx := ⟨tlook tys, olook [(25, F_spec_TreeOk), (29, F_spec_l1In)], ioF, 0⟩

theorem spec_SidesOf_n1_l (x2259 : List Int) (x2260 : Int) : Link spec_SidesOf_ctx LL (Code.seq (Code.fst (bodyOf Try.f23)) (Code.seq (Code.fst (Code.snd (bodyOf Try.f23))) (Code.seq (Code.fst (Code.snd (Code.snd (bodyOf Try.f23)))) (Code.fst (Code.snd (Code.snd (Code.snd (bodyOf Try.f23)))))))) (Ann.seq (Ann.fst spec_SidesOf_an) (Ann.seq (Ann.fst (Ann.snd spec_SidesOf_an)) (Ann.seq (Ann.fst (Ann.snd (Ann.snd spec_SidesOf_an))) (Ann.fst (Ann.snd (Ann.snd (Ann.snd spec_SidesOf_an))))))) (⟨mkE 56 0 [(0, .dat (.list (.int .i64)) x2259), (1, .dat (.int .i64) x2260)], []⟩ : St) (spec_SidesOf_n1 x2259 x2260) (Sum.elim (fun (t : Unit) => (Exit.normal, (⟨mkE 56 0 [(0, .dat (.list (.int .i64)) x2259), (1, .dat (.int .i64) x2260), (7, .dat (.int .i64) 0), (8, .dat (.int .i64) 0)], []⟩ : St))) (fun (t : Int × Int × Bool) => (Exit.ret, (⟨mkE 56 0 [(4, .dat (.int .i64) t.1), (5, .dat (.int .i64) t.2.1), (6, .dat .bool t.2.2)], []⟩ : St)))) := by
  refine Link.of fun K h => ?_
  simp only [spec_SidesOf_n1, wpO_bind, wpO_cond, wpO_map, wpO_some] at h
  exact Awp.of (by kernel_rfl) h

theorem spec_SidesOf_n2_l (x2259 : List Int) (x2260 : Int) : Link spec_SidesOf_ctx LL (Code.fst (Code.fst (Code.snd (Code.snd (Code.snd (Code.snd (bodyOf Try.f23))))))) (Ann.fst (Ann.fst (Ann.snd (Ann.snd (Ann.snd (Ann.snd spec_SidesOf_an)))))) (⟨mkE 56 0 [(0, .dat (.list (.int .i64)) x2259), (1, .dat (.int .i64) x2260), (7, .dat (.int .i64) 0), (8, .dat (.int .i64) 0)], []⟩ : St) (spec_SidesOf_n2) (fun (t : Unit) => (Exit.normal, (⟨mkE 56 0 [(0, .dat (.list (.int .i64)) x2259), (1, .dat (.int .i64) x2260), (7, .dat (.int .i64) 0), (8, .dat (.int .i64) 0), (9, .dat (.int .i64) 0)], []⟩ : St))) := by
  refine Link.of fun K h => ?_
  simp only [spec_SidesOf_n2, wpO_bind, wpO_cond, wpO_map, wpO_some] at h
  exact Awp.of (by kernel_rfl) h

theorem spec_SidesOf_n3_l (x2259 : List Int) (x2260 : Int) (x2334 : Int) (x2335 : Int) (x2336 : Int) : Link spec_SidesOf_ctx LL (Code.fst (Code.fst (Code.snd (Code.fst (Code.snd (Code.snd (Code.snd (Code.snd (bodyOf Try.f23))))))))) (Ann.fst (Ann.fst (Ann.snd (Ann.fst (Ann.snd (Ann.snd (Ann.snd (Ann.snd spec_SidesOf_an)))))))) (⟨mkE 56 0 [(0, .dat (.list (.int .i64)) x2259), (1, .dat (.int .i64) x2260), (7, .dat (.int .i64) x2334), (8, .dat (.int .i64) x2335), (9, .dat (.int .i64) x2336)], []⟩ : St) (spec_SidesOf_n3 x2259 x2260 x2334 x2335 x2336) (Sum.elim (fun (t : Int × Int × Int) => (Exit.normal, (⟨mkE 56 0 [(0, .dat (.list (.int .i64)) x2259), (1, .dat (.int .i64) x2260), (7, .dat (.int .i64) t.1), (8, .dat (.int .i64) t.2.1), (9, .dat (.int .i64) t.2.2)], []⟩ : St))) (fun (t : Int × Int) => ((Exit.exit 0), (⟨mkE 56 0 [(7, .dat (.int .i64) t.1), (8, .dat (.int .i64) t.2)], []⟩ : St)))) := by
  refine Link.of fun K h => ?_
  simp only [spec_SidesOf_n3, wpO_bind, wpO_cond, wpO_map, wpO_some] at h
  exact Awp.of (by kernel_rfl) h

theorem spec_SidesOf_n4_l (x2259 : List Int) (x2260 : Int) : Link spec_SidesOf_ctx LL (Code.fst (Code.snd (Code.fst (Code.snd (Code.snd (Code.snd (Code.snd (bodyOf Try.f23)))))))) (Ann.fst (Ann.snd (Ann.fst (Ann.snd (Ann.snd (Ann.snd (Ann.snd spec_SidesOf_an))))))) (⟨mkE 56 0 [(0, .dat (.list (.int .i64)) x2259), (1, .dat (.int .i64) x2260), (7, .dat (.int .i64) 0), (8, .dat (.int .i64) 0), (9, .dat (.int .i64) 0)], []⟩ : St) (spec_SidesOf_n4 x2259 x2260) (fun (t : Int × Int) => ((Exit.exit 0), (⟨mkE 56 0 [(7, .dat (.int .i64) t.1), (8, .dat (.int .i64) t.2)], []⟩ : St))) := by
  unfold spec_SidesOf_n4
  exact Link.cast (by kernel_rfl) (by kernel_rfl) (link_loop (mk := fun (s : Int × Int × Int) => (⟨mkE 56 0 [(0, .dat (.list (.int .i64)) x2259), (1, .dat (.int .i64) x2260), (7, .dat (.int .i64) s.1), (8, .dat (.int .i64) s.2.1), (9, .dat (.int .i64) s.2.2)], []⟩ : St)) (fin := (fun (t : Int × Int) => ((Exit.exit 0), (⟨mkE 56 0 [(7, .dat (.int .i64) t.1), (8, .dat (.int .i64) t.2)], []⟩ : St)))) (by
  rintro t f K h
  · exact h) (fun s => link_map (spec_SidesOf_n3_l x2259 x2260 s.1 s.2.1 s.2.2) (Sum.elim (fun (t : Int × Int × Int) => Sum.inl (t.1, t.2.1, t.2.2)) (fun (t : Int × Int) => Sum.inr t)) (by
  rintro (t | t)
  · kernel_rfl
  · kernel_rfl)) (0, 0, 0))

theorem spec_SidesOf_n5_l (x2259 : List Int) (x2260 : Int) : Link spec_SidesOf_ctx LL (Code.snd (Code.fst (Code.snd (Code.snd (Code.snd (Code.snd (bodyOf Try.f23))))))) (Ann.snd (Ann.fst (Ann.snd (Ann.snd (Ann.snd (Ann.snd spec_SidesOf_an)))))) (⟨mkE 56 0 [(0, .dat (.list (.int .i64)) x2259), (1, .dat (.int .i64) x2260), (7, .dat (.int .i64) 0), (8, .dat (.int .i64) 0), (9, .dat (.int .i64) 0)], []⟩ : St) (spec_SidesOf_n5 x2259 x2260) (fun (t : Int × Int) => (Exit.normal, (⟨mkE 56 0 [(7, .dat (.int .i64) t.1), (8, .dat (.int .i64) t.2)], []⟩ : St))) := by
  unfold spec_SidesOf_n5
  exact Link.cast (by kernel_rfl) (by kernel_rfl) (link_block (id := 0) (spec_SidesOf_n4_l x2259 x2260) (fun (t : Int × Int) => (t.1, t.2)) (by
  rintro t K h
  · exact Eq.mp (by kernel_rfl) h))

theorem spec_SidesOf_n6_l (x2259 : List Int) (x2260 : Int) : Link spec_SidesOf_ctx LL (Code.fst (Code.snd (Code.snd (Code.snd (Code.snd (bodyOf Try.f23)))))) (Ann.fst (Ann.snd (Ann.snd (Ann.snd (Ann.snd spec_SidesOf_an))))) (⟨mkE 56 0 [(0, .dat (.list (.int .i64)) x2259), (1, .dat (.int .i64) x2260), (7, .dat (.int .i64) 0), (8, .dat (.int .i64) 0)], []⟩ : St) (spec_SidesOf_n6 x2259 x2260) (fun (t : Int × Int) => (Exit.normal, (⟨mkE 56 0 [(7, .dat (.int .i64) t.1), (8, .dat (.int .i64) t.2)], []⟩ : St))) := by
  unfold spec_SidesOf_n6
  exact Link.cast (by kernel_rfl) (by kernel_rfl) (link_seq (b := (Code.snd (Code.fst (Code.snd (Code.snd (Code.snd (Code.snd (bodyOf Try.f23)))))))) (y := (Ann.snd (Ann.fst (Ann.snd (Ann.snd (Ann.snd (Ann.snd spec_SidesOf_an))))))) (spec_SidesOf_n2_l x2259 x2260) (fun (t : Unit) => (spec_SidesOf_n5_l x2259 x2260)))

theorem spec_SidesOf_n7_l (x2334 : Int) (x2335 : Int) : Link spec_SidesOf_ctx LL (Code.snd (Code.snd (Code.snd (Code.snd (Code.snd (bodyOf Try.f23)))))) (Ann.snd (Ann.snd (Ann.snd (Ann.snd (Ann.snd spec_SidesOf_an))))) (⟨mkE 56 0 [(7, .dat (.int .i64) x2334), (8, .dat (.int .i64) x2335)], []⟩ : St) (spec_SidesOf_n7 x2334 x2335) (fun (t : Int × Int × Bool) => (Exit.ret, (⟨mkE 56 0 [(4, .dat (.int .i64) t.1), (5, .dat (.int .i64) t.2.1), (6, .dat .bool t.2.2)], []⟩ : St))) := by
  refine Link.of fun K h => ?_
  simp only [spec_SidesOf_n7, wpO_bind, wpO_cond, wpO_map, wpO_some] at h
  exact Awp.of (by kernel_rfl) h

theorem spec_SidesOf_n8_l (x2259 : List Int) (x2260 : Int) : Link spec_SidesOf_ctx LL (Code.snd (Code.snd (Code.snd (Code.snd (bodyOf Try.f23))))) (Ann.snd (Ann.snd (Ann.snd (Ann.snd spec_SidesOf_an)))) (⟨mkE 56 0 [(0, .dat (.list (.int .i64)) x2259), (1, .dat (.int .i64) x2260), (7, .dat (.int .i64) 0), (8, .dat (.int .i64) 0)], []⟩ : St) (spec_SidesOf_n8 x2259 x2260) (fun (t : Int × Int × Bool) => (Exit.ret, (⟨mkE 56 0 [(4, .dat (.int .i64) t.1), (5, .dat (.int .i64) t.2.1), (6, .dat .bool t.2.2)], []⟩ : St))) := by
  unfold spec_SidesOf_n8
  exact Link.cast (by kernel_rfl) (by kernel_rfl) (link_seq (b := (Code.snd (Code.snd (Code.snd (Code.snd (Code.snd (bodyOf Try.f23))))))) (y := (Ann.snd (Ann.snd (Ann.snd (Ann.snd (Ann.snd spec_SidesOf_an)))))) (spec_SidesOf_n6_l x2259 x2260) (fun (t : Int × Int) => (spec_SidesOf_n7_l t.1 t.2)))

theorem spec_SidesOf_n9_l (x2259 : List Int) (x2260 : Int) : Link spec_SidesOf_ctx LL (bodyOf Try.f23) spec_SidesOf_an (⟨mkE 56 0 [(0, .dat (.list (.int .i64)) x2259), (1, .dat (.int .i64) x2260)], []⟩ : St) (spec_SidesOf_n9 x2259 x2260) (fun (t : Int × Int × Bool) => (Exit.ret, (⟨mkE 56 0 [(4, .dat (.int .i64) t.1), (5, .dat (.int .i64) t.2.1), (6, .dat .bool t.2.2)], []⟩ : St))) := by
  unfold spec_SidesOf_n9
  exact Link.cast (by kernel_rfl) (by kernel_rfl) (link_group (c := (Code.fst (Code.snd (Code.snd (Code.snd (bodyOf Try.f23)))))) (a := (Ann.fst (Ann.snd (Ann.snd (Ann.snd spec_SidesOf_an))))) [(Code.fst (bodyOf Try.f23)), (Code.fst (Code.snd (bodyOf Try.f23))), (Code.fst (Code.snd (Code.snd (bodyOf Try.f23))))] [(Ann.fst spec_SidesOf_an), (Ann.fst (Ann.snd spec_SidesOf_an)), (Ann.fst (Ann.snd (Ann.snd spec_SidesOf_an)))] rfl (link_seq2 (b := (Code.snd (Code.snd (Code.snd (Code.snd (bodyOf Try.f23)))))) (y := (Ann.snd (Ann.snd (Ann.snd (Ann.snd spec_SidesOf_an))))) (spec_SidesOf_n1_l x2259 x2260) (fun (t : Unit) => (spec_SidesOf_n8_l x2259 x2260)) (fun (t : Int × Int × Bool) => t) (by
  rintro t
  · kernel_rfl) (by
  rintro t f K h
  · exact h)))

theorem spec_SidesOf_e (x2259 : List Int) (x2260 : Int) {r : AV} {H' : Heap} (h : (Ans.mk _ (spec_SidesOf x2259 x2260) (fun (t : Int × Int × Bool) => (.tup [.dat (.int .i64) t.1, .dat (.int .i64) t.2.1, .dat .bool t.2.2], []))).run = some (r, H')) : Awp spec_SidesOf_ctx LL (bodyOf Try.f23) spec_SidesOf_an (⟨mkE 56 0 [(0, .dat (.list (.int .i64)) x2259), (1, .dat (.int .i64) x2260)], []⟩ : St) (Ret (tlook tys) Try.f23.results.toList r H') :=
  ret_of' (spec_SidesOf_n9_l x2259 x2260) (by unfold spec_SidesOf; kernel_rfl) (by
  intro t
  exact ret_mk [.dat (.int .i64) t.1, .dat (.int .i64) t.2.1, .dat .bool t.2.2] (by kernel_rfl) (by kernel_rfl) (by kernel_rfl) (by kernel_rfl)) h

def F_spec_SidesOf : Fun := fun avs H =>
  match avs, H with
  | [.dat (.list (.int .i64)) x2259, .dat (.int .i64) x2260], [] => ⟨_, spec_SidesOf x2259 x2260, fun (t : Int × Int × Bool) => (.tup [.dat (.int .i64) t.1, .dat (.int .i64) t.2.1, .dat .bool t.2.2], [])⟩
  | _, _ => Ans.no

theorem spec_SidesOf_sound : Sound Try.prog 23 F_spec_SidesOf := by
  refine fn_sound' (C := spec_SidesOf_ctx) (c := bodyOf Try.f23) (cok_of tys_ok (List.forall_mem_cons.2 ⟨spec_TreeOk_sound, List.forall_mem_cons.2 ⟨spec_l1In_sound, by simp⟩⟩) (List.forall_mem_cons.2 ⟨Try.call25, List.forall_mem_cons.2 ⟨Try.call29, by simp⟩⟩) (by kernel_rfl)) Try.func23 (by kernel_rfl) LL spec_SidesOf_an ?_
  intro avs H r H' h
  unfold F_spec_SidesOf at h
  split at h
  · refine Awp.cast ?_ ?_ ?_ (spec_SidesOf_e _ _ h) <;> kernel_rfl
  · simp [Ans.no, Ans.run] at h

/-! loop.example/headtrees/impl.wordOk -/

def impl_wordOk_an : Ann := (.seq (.leaf [0, 1]) (.seq (.leaf [4]) (.leaf [4])))

noncomputable def impl_wordOk_ctx : Ctx := ⟨tlook tys, olook [(26, F_impl_TreeOk)], ioF, 0⟩

theorem impl_wordOk_n1_l (x2420 : List Int) (x2421 : Int) : Link impl_wordOk_ctx LL (bodyOf Try.f34) impl_wordOk_an (⟨mkE 17 0 [(0, .dat (.list (.int .i64)) x2420), (1, .dat (.int .i64) x2421)], []⟩ : St) (impl_wordOk_n1 x2420 x2421) (fun (t : Bool) => (Exit.ret, (⟨mkE 17 0 [(4, .dat .bool t)], []⟩ : St))) := by
  refine Link.of fun K h => ?_
  simp only [impl_wordOk_n1, wpO_bind, wpO_cond, wpO_map, wpO_some] at h
  exact Awp.of (by kernel_rfl) h

theorem impl_wordOk_e (x2420 : List Int) (x2421 : Int) {r : AV} {H' : Heap} (h : (Ans.mk _ (impl_wordOk x2420 x2421) (fun (t : Bool) => (.dat .bool t, []))).run = some (r, H')) : Awp impl_wordOk_ctx LL (bodyOf Try.f34) impl_wordOk_an (⟨mkE 17 0 [(0, .dat (.list (.int .i64)) x2420), (1, .dat (.int .i64) x2421)], []⟩ : St) (Ret (tlook tys) Try.f34.results.toList r H') :=
  ret_of' (impl_wordOk_n1_l x2420 x2421) (by unfold impl_wordOk; kernel_rfl) (by
  intro t
  exact ret_mk [.dat .bool t] (by kernel_rfl) (by kernel_rfl) (by kernel_rfl) (by kernel_rfl)) h

def F_impl_wordOk : Fun := fun avs H =>
  match avs, H with
  | [.dat (.list (.int .i64)) x2420, .dat (.int .i64) x2421], [] => ⟨_, impl_wordOk x2420 x2421, fun (t : Bool) => (.dat .bool t, [])⟩
  | _, _ => Ans.no

theorem impl_wordOk_sound : Sound Try.prog 34 F_impl_wordOk := by
  refine fn_sound' (C := impl_wordOk_ctx) (c := bodyOf Try.f34) (cok_of tys_ok (List.forall_mem_cons.2 ⟨impl_TreeOk_sound, by simp⟩) (List.forall_mem_cons.2 ⟨Try.call26, by simp⟩) (by kernel_rfl)) Try.func34 (by kernel_rfl) LL impl_wordOk_an ?_
  intro avs H r H' h
  unfold F_impl_wordOk at h
  split at h
  · refine Awp.cast ?_ ?_ ?_ (impl_wordOk_e _ _ h) <;> kernel_rfl
  · simp [Ans.no, Ans.run] at h

/-! loop.example/headtrees/impl.only -/

def impl_only_an : Ann := (.seq (.leaf [0]) (.seq (.leaf [2]) (.leaf [2])))

noncomputable def impl_only_ctx : Ctx := ⟨tlook tys, olook [], ioF, 0⟩

theorem impl_only_n1_l (x2444 : Int) : Link impl_only_ctx LL (bodyOf Try.f39) impl_only_an (⟨mkE 6 0 [(0, .dat (.int .i64) x2444)], []⟩ : St) (impl_only_n1 x2444) (fun (t : Int) => (Exit.ret, (⟨mkE 6 0 [(2, .dat (.int .u64) t)], []⟩ : St))) := by
  refine Link.of fun K h => ?_
  simp only [impl_only_n1, wpO_bind, wpO_cond, wpO_map, wpO_some] at h
  exact Awp.of (by kernel_rfl) h

theorem impl_only_e (x2444 : Int) {r : AV} {H' : Heap} (h : (Ans.mk _ (impl_only x2444) (fun (t : Int) => (.dat (.int .u64) t, []))).run = some (r, H')) : Awp impl_only_ctx LL (bodyOf Try.f39) impl_only_an (⟨mkE 6 0 [(0, .dat (.int .i64) x2444)], []⟩ : St) (Ret (tlook tys) Try.f39.results.toList r H') :=
  ret_of' (impl_only_n1_l x2444) (by unfold impl_only; kernel_rfl) (by
  intro t
  exact ret_mk [.dat (.int .u64) t] (by kernel_rfl) (by kernel_rfl) (by kernel_rfl) (by kernel_rfl)) h

def F_impl_only : Fun := fun avs H =>
  match avs, H with
  | [.dat (.int .i64) x2444], [] => ⟨_, impl_only x2444, fun (t : Int) => (.dat (.int .u64) t, [])⟩
  | _, _ => Ans.no

theorem impl_only_sound : Sound Try.prog 39 F_impl_only := by
  refine fn_sound' (C := impl_only_ctx) (c := bodyOf Try.f39) (cok_of tys_ok (by simp) (by simp) (by kernel_rfl)) Try.func39 (by kernel_rfl) LL impl_only_an ?_
  intro avs H r H' h
  unfold F_impl_only at h
  split at h
  · refine Awp.cast ?_ ?_ ?_ (impl_only_e _ h) <;> kernel_rfl
  · simp [Ans.no, Ans.run] at h

/-! loop.example/headtrees/impl.dependents -/

def impl_dependents_an : Ann := (.seq (.leaf [0, 1]) (.seq (.leaf [0, 1, 5]) (.seq (.seq (.leaf [0, 1, 5, 8, 9]) (.block (.loop (.seq (.leaf [0, 1, 5, 8, 9, 10]) (.seq (.cond (.leaf [0, 1, 5, 8, 9]) (.leaf [5])) (.seq (.block (.seq (.leaf [0, 1, 5, 6, 8, 9]) (.seq (.leaf [0, 1, 5, 6, 8, 9, 17]) (.cond (.leaf [0, 1, 5, 8, 9]) (.leaf [0, 1, 5, 8, 9]))))) (.leaf [0, 1, 5, 8, 9]))))))) (.seq (.leaf [4]) (.leaf [4])))))

noncomputable def impl_dependents_ctx : Ctx := ⟨tlook tys, olook [(39, F_impl_only)], ioF, 0⟩

theorem impl_dependents_n1_l (x2435 : List Int) (x2436 : Int) : Link impl_dependents_ctx LL (Code.seq (Code.fst (bodyOf Try.f35)) (Code.fst (Code.snd (bodyOf Try.f35)))) (Ann.seq (Ann.fst impl_dependents_an) (Ann.fst (Ann.snd impl_dependents_an))) (⟨mkE 25 0 [(0, .dat (.list (.int .i64)) x2435), (1, .dat (.int .i64) x2436)], []⟩ : St) (impl_dependents_n1) (fun (t : Unit) => (Exit.normal, (⟨mkE 25 0 [(0, .dat (.list (.int .i64)) x2435), (1, .dat (.int .i64) x2436), (5, .dat (.int .u64) 0)], []⟩ : St))) := by
  refine Link.of fun K h => ?_
  simp only [impl_dependents_n1, wpO_bind, wpO_cond, wpO_map, wpO_some] at h
  exact Awp.of (by kernel_rfl) h

theorem impl_dependents_n2_l (x2435 : List Int) (x2436 : Int) : Link impl_dependents_ctx LL (Code.fst (Code.fst (Code.snd (Code.snd (bodyOf Try.f35))))) (Ann.fst (Ann.fst (Ann.snd (Ann.snd impl_dependents_an)))) (⟨mkE 25 0 [(0, .dat (.list (.int .i64)) x2435), (1, .dat (.int .i64) x2436), (5, .dat (.int .u64) 0)], []⟩ : St) (impl_dependents_n2 x2435) (fun (t : Int) => (Exit.normal, (⟨mkE 25 0 [(0, .dat (.list (.int .i64)) x2435), (1, .dat (.int .i64) x2436), (5, .dat (.int .u64) 0), (8, .dat (.int .i64) t), (9, .dat (.int .i64) 0)], []⟩ : St))) := by
  refine Link.of fun K h => ?_
  simp only [impl_dependents_n2, wpO_bind, wpO_cond, wpO_map, wpO_some] at h
  exact Awp.of (by kernel_rfl) h

theorem impl_dependents_n3_l (x2435 : List Int) (x2436 : Int) (x2461 : Int) (x2437 : Int) (x2462 : Int) : Link impl_dependents_ctx LL (Code.fst (Code.fst (Code.snd (Code.fst (Code.snd (Code.snd (bodyOf Try.f35))))))) (Ann.fst (Ann.fst (Ann.snd (Ann.fst (Ann.snd (Ann.snd impl_dependents_an)))))) (⟨mkE 25 0 [(0, .dat (.list (.int .i64)) x2435), (1, .dat (.int .i64) x2436), (5, .dat (.int .u64) x2461), (8, .dat (.int .i64) x2437), (9, .dat (.int .i64) x2462)], []⟩ : St) (impl_dependents_n3 x2435 x2436 x2461 x2437 x2462) (Sum.elim (fun (t : Int × Int) => (Exit.normal, (⟨mkE 25 0 [(0, .dat (.list (.int .i64)) x2435), (1, .dat (.int .i64) x2436), (5, .dat (.int .u64) t.1), (8, .dat (.int .i64) x2437), (9, .dat (.int .i64) t.2)], []⟩ : St))) (fun (t : Int) => ((Exit.exit 0), (⟨mkE 25 0 [(5, .dat (.int .u64) t)], []⟩ : St)))) := by
  refine Link.of fun K h => ?_
  simp only [impl_dependents_n3, wpO_bind, wpO_cond, wpO_map, wpO_some] at h
  exact Awp.of (by kernel_rfl) h

theorem impl_dependents_n4_l (x2435 : List Int) (x2436 : Int) (x2437 : Int) : Link impl_dependents_ctx LL (Code.fst (Code.snd (Code.fst (Code.snd (Code.snd (bodyOf Try.f35)))))) (Ann.fst (Ann.snd (Ann.fst (Ann.snd (Ann.snd impl_dependents_an))))) (⟨mkE 25 0 [(0, .dat (.list (.int .i64)) x2435), (1, .dat (.int .i64) x2436), (5, .dat (.int .u64) 0), (8, .dat (.int .i64) x2437), (9, .dat (.int .i64) 0)], []⟩ : St) (impl_dependents_n4 x2435 x2436 x2437) (fun (t : Int) => ((Exit.exit 0), (⟨mkE 25 0 [(5, .dat (.int .u64) t)], []⟩ : St))) := by
  unfold impl_dependents_n4
  exact Link.cast (by kernel_rfl) (by kernel_rfl) (link_loop (mk := fun (s : Int × Int) => (⟨mkE 25 0 [(0, .dat (.list (.int .i64)) x2435), (1, .dat (.int .i64) x2436), (5, .dat (.int .u64) s.1), (8, .dat (.int .i64) x2437), (9, .dat (.int .i64) s.2)], []⟩ : St)) (fin := (fun (t : Int) => ((Exit.exit 0), (⟨mkE 25 0 [(5, .dat (.int .u64) t)], []⟩ : St)))) (by
  rintro t f K h
  · exact h) (fun s => link_map (impl_dependents_n3_l x2435 x2436 s.1 x2437 s.2) (Sum.elim (fun (t : Int × Int) => Sum.inl (t.1, t.2)) (fun (t : Int) => Sum.inr t)) (by
  rintro (t | t)
  · kernel_rfl
  · kernel_rfl)) (0, 0))

theorem impl_dependents_n5_l (x2435 : List Int) (x2436 : Int) (x2437 : Int) : Link impl_dependents_ctx LL (Code.snd (Code.fst (Code.snd (Code.snd (bodyOf Try.f35))))) (Ann.snd (Ann.fst (Ann.snd (Ann.snd impl_dependents_an)))) (⟨mkE 25 0 [(0, .dat (.list (.int .i64)) x2435), (1, .dat (.int .i64) x2436), (5, .dat (.int .u64) 0), (8, .dat (.int .i64) x2437), (9, .dat (.int .i64) 0)], []⟩ : St) (impl_dependents_n5 x2435 x2436 x2437) (fun (t : Int) => (Exit.normal, (⟨mkE 25 0 [(5, .dat (.int .u64) t)], []⟩ : St))) := by
  unfold impl_dependents_n5
  exact Link.cast (by kernel_rfl) (by kernel_rfl) (link_block (id := 0) (impl_dependents_n4_l x2435 x2436 x2437) (fun (t : Int) => t) (by
  rintro t K h
  · exact Eq.mp (by kernel_rfl) h))

theorem impl_dependents_n6_l (x2435 : List Int) (x2436 : Int) : Link impl_dependents_ctx LL (Code.fst (Code.snd (Code.snd (bodyOf Try.f35)))) (Ann.fst (Ann.snd (Ann.snd impl_dependents_an))) (⟨mkE 25 0 [(0, .dat (.list (.int .i64)) x2435), (1, .dat (.int .i64) x2436), (5, .dat (.int .u64) 0)], []⟩ : St) (impl_dependents_n6 x2435 x2436) (fun (t : Int) => (Exit.normal, (⟨mkE 25 0 [(5, .dat (.int .u64) t)], []⟩ : St))) := by
  unfold impl_dependents_n6
  exact Link.cast (by kernel_rfl) (by kernel_rfl) (link_seq (b := (Code.snd (Code.fst (Code.snd (Code.snd (bodyOf Try.f35)))))) (y := (Ann.snd (Ann.fst (Ann.snd (Ann.snd impl_dependents_an))))) (impl_dependents_n2_l x2435 x2436) (fun (t : Int) => (impl_dependents_n5_l x2435 x2436 t)))

theorem impl_dependents_n7_l (x2461 : Int) : Link impl_dependents_ctx LL (Code.snd (Code.snd (Code.snd (bodyOf Try.f35)))) (Ann.snd (Ann.snd (Ann.snd impl_dependents_an))) (⟨mkE 25 0 [(5, .dat (.int .u64) x2461)], []⟩ : St) (impl_dependents_n7 x2461) (fun (t : Int) => (Exit.ret, (⟨mkE 25 0 [(4, .dat (.int .u64) t)], []⟩ : St))) := by
  refine Link.of fun K h => ?_
  simp only [impl_dependents_n7, wpO_bind, wpO_cond, wpO_map, wpO_some] at h
  exact Awp.of (by kernel_rfl) h

theorem impl_dependents_n8_l (x2435 : List Int) (x2436 : Int) : Link impl_dependents_ctx LL (Code.snd (Code.snd (bodyOf Try.f35))) (Ann.snd (Ann.snd impl_dependents_an)) (⟨mkE 25 0 [(0, .dat (.list (.int .i64)) x2435), (1, .dat (.int .i64) x2436), (5, .dat (.int .u64) 0)], []⟩ : St) (impl_dependents_n8 x2435 x2436) (fun (t : Int) => (Exit.ret, (⟨mkE 25 0 [(4, .dat (.int .u64) t)], []⟩ : St))) := by
  unfold impl_dependents_n8
  exact Link.cast (by kernel_rfl) (by kernel_rfl) (link_seq (b := (Code.snd (Code.snd (Code.snd (bodyOf Try.f35))))) (y := (Ann.snd (Ann.snd (Ann.snd impl_dependents_an)))) (impl_dependents_n6_l x2435 x2436) (fun (t : Int) => (impl_dependents_n7_l t)))

theorem impl_dependents_n9_l (x2435 : List Int) (x2436 : Int) : Link impl_dependents_ctx LL (bodyOf Try.f35) impl_dependents_an (⟨mkE 25 0 [(0, .dat (.list (.int .i64)) x2435), (1, .dat (.int .i64) x2436)], []⟩ : St) (impl_dependents_n9 x2435 x2436) (fun (t : Int) => (Exit.ret, (⟨mkE 25 0 [(4, .dat (.int .u64) t)], []⟩ : St))) := by
  unfold impl_dependents_n9
  exact Link.cast (by kernel_rfl) (by kernel_rfl) (link_group (c := (Code.fst (Code.snd (bodyOf Try.f35)))) (a := (Ann.fst (Ann.snd impl_dependents_an))) [(Code.fst (bodyOf Try.f35))] [(Ann.fst impl_dependents_an)] rfl (link_seq (b := (Code.snd (Code.snd (bodyOf Try.f35)))) (y := (Ann.snd (Ann.snd impl_dependents_an))) (impl_dependents_n1_l x2435 x2436) (fun (t : Unit) => (impl_dependents_n8_l x2435 x2436))))

theorem impl_dependents_e (x2435 : List Int) (x2436 : Int) {r : AV} {H' : Heap} (h : (Ans.mk _ (impl_dependents x2435 x2436) (fun (t : Int) => (.dat (.int .u64) t, []))).run = some (r, H')) : Awp impl_dependents_ctx LL (bodyOf Try.f35) impl_dependents_an (⟨mkE 25 0 [(0, .dat (.list (.int .i64)) x2435), (1, .dat (.int .i64) x2436)], []⟩ : St) (Ret (tlook tys) Try.f35.results.toList r H') :=
  ret_of' (impl_dependents_n9_l x2435 x2436) (by unfold impl_dependents; kernel_rfl) (by
  intro t
  exact ret_mk [.dat (.int .u64) t] (by kernel_rfl) (by kernel_rfl) (by kernel_rfl) (by kernel_rfl)) h

def F_impl_dependents : Fun := fun avs H =>
  match avs, H with
  | [.dat (.list (.int .i64)) x2435, .dat (.int .i64) x2436], [] => ⟨_, impl_dependents x2435 x2436, fun (t : Int) => (.dat (.int .u64) t, [])⟩
  | _, _ => Ans.no

theorem impl_dependents_sound : Sound Try.prog 35 F_impl_dependents := by
  refine fn_sound' (C := impl_dependents_ctx) (c := bodyOf Try.f35) (cok_of tys_ok (List.forall_mem_cons.2 ⟨impl_only_sound, by simp⟩) (List.forall_mem_cons.2 ⟨Try.call39, by simp⟩) (by kernel_rfl)) Try.func35 (by kernel_rfl) LL impl_dependents_an ?_
  intro avs H r H' h
  unfold F_impl_dependents at h
  split at h
  · refine Awp.cast ?_ ?_ ?_ (impl_dependents_e _ _ h) <;> kernel_rfl
  · simp [Ans.no, Ans.run] at h

/-! loop.example/headtrees/impl.before -/

def impl_before_an : Ann := (.seq (.leaf [0]) (.seq (.leaf [2]) (.leaf [2])))

noncomputable def impl_before_ctx : Ctx := ⟨tlook tys, olook [(39, F_impl_only)], ioF, 0⟩

theorem impl_before_n1_l (x2485 : Int) : Link impl_before_ctx LL (bodyOf Try.f36) impl_before_an (⟨mkE 6 0 [(0, .dat (.int .i64) x2485)], []⟩ : St) (impl_before_n1 x2485) (fun (t : Int) => (Exit.ret, (⟨mkE 6 0 [(2, .dat (.int .u64) t)], []⟩ : St))) := by
  refine Link.of fun K h => ?_
  simp only [impl_before_n1, wpO_bind, wpO_cond, wpO_map, wpO_some] at h
  exact Awp.of (by kernel_rfl) h

theorem impl_before_e (x2485 : Int) {r : AV} {H' : Heap} (h : (Ans.mk _ (impl_before x2485) (fun (t : Int) => (.dat (.int .u64) t, []))).run = some (r, H')) : Awp impl_before_ctx LL (bodyOf Try.f36) impl_before_an (⟨mkE 6 0 [(0, .dat (.int .i64) x2485)], []⟩ : St) (Ret (tlook tys) Try.f36.results.toList r H') :=
  ret_of' (impl_before_n1_l x2485) (by unfold impl_before; kernel_rfl) (by
  intro t
  exact ret_mk [.dat (.int .u64) t] (by kernel_rfl) (by kernel_rfl) (by kernel_rfl) (by kernel_rfl)) h

def F_impl_before : Fun := fun avs H =>
  match avs, H with
  | [.dat (.int .i64) x2485], [] => ⟨_, impl_before x2485, fun (t : Int) => (.dat (.int .u64) t, [])⟩
  | _, _ => Ans.no

theorem impl_before_sound : Sound Try.prog 36 F_impl_before := by
  refine fn_sound' (C := impl_before_ctx) (c := bodyOf Try.f36) (cok_of tys_ok (List.forall_mem_cons.2 ⟨impl_only_sound, by simp⟩) (List.forall_mem_cons.2 ⟨Try.call39, by simp⟩) (by kernel_rfl)) Try.func36 (by kernel_rfl) LL impl_before_an ?_
  intro avs H r H' h
  unfold F_impl_before at h
  split at h
  · refine Awp.cast ?_ ?_ ?_ (impl_before_e _ h) <;> kernel_rfl
  · simp [Ans.no, Ans.run] at h

/-! math/bits.OnesCount64 -/

def math_bits_OnesCount64_an : Ann := (.seq (.leaf [0]) (.seq (.leaf [0]) (.seq (.leaf [0]) (.seq (.leaf [0]) (.seq (.leaf [0]) (.seq (.leaf [0]) (.seq (.leaf [0]) (.seq (.leaf [2]) (.leaf [2])))))))))

noncomputable def math_bits_OnesCount64_ctx : Ctx := ⟨tlook tys, olook [], ioF, 0⟩

theorem math_bits_OnesCount64_n1_l (x2494 : Int) : Link math_bits_OnesCount64_ctx LL (Code.seq (Code.fst (bodyOf Try.f42)) (Code.fst (Code.snd (bodyOf Try.f42)))) (Ann.seq (Ann.fst math_bits_OnesCount64_an) (Ann.fst (Ann.snd math_bits_OnesCount64_an))) (⟨mkE 35 0 [(0, .dat (.int .u64) x2494)], []⟩ : St) (math_bits_OnesCount64_n1 x2494) (fun (t : Int) => (Exit.normal, (⟨mkE 35 0 [(0, .dat (.int .u64) t)], []⟩ : St))) := by
  refine Link.of fun K h => ?_
  simp only [math_bits_OnesCount64_n1, wpO_bind, wpO_cond, wpO_map, wpO_some] at h
  exact Awp.of (by kernel_rfl) h

theorem math_bits_OnesCount64_n2_l (x2499 : Int) : Link math_bits_OnesCount64_ctx LL (Code.fst (Code.snd (Code.snd (bodyOf Try.f42)))) (Ann.fst (Ann.snd (Ann.snd math_bits_OnesCount64_an))) (⟨mkE 35 0 [(0, .dat (.int .u64) x2499)], []⟩ : St) (math_bits_OnesCount64_n2 x2499) (fun (t : Int) => (Exit.normal, (⟨mkE 35 0 [(0, .dat (.int .u64) t)], []⟩ : St))) := by
  refine Link.of fun K h => ?_
  simp only [math_bits_OnesCount64_n2, wpO_bind, wpO_cond, wpO_map, wpO_some] at h
  exact Awp.of (by kernel_rfl) h

theorem math_bits_OnesCount64_n3_l (x2517 : Int) : Link math_bits_OnesCount64_ctx LL (Code.fst (Code.snd (Code.snd (Code.snd (bodyOf Try.f42))))) (Ann.fst (Ann.snd (Ann.snd (Ann.snd math_bits_OnesCount64_an)))) (⟨mkE 35 0 [(0, .dat (.int .u64) x2517)], []⟩ : St) (math_bits_OnesCount64_n3 x2517) (fun (t : Int) => (Exit.normal, (⟨mkE 35 0 [(0, .dat (.int .u64) t)], []⟩ : St))) := by
  refine Link.of fun K h => ?_
  simp only [math_bits_OnesCount64_n3, wpO_bind, wpO_cond, wpO_map, wpO_some] at h
  exact Awp.of (by kernel_rfl) h

theorem math_bits_OnesCount64_n4_l (x2525 : Int) : Link math_bits_OnesCount64_ctx LL (Code.fst (Code.snd (Code.snd (Code.snd (Code.snd (bodyOf Try.f42)))))) (Ann.fst (Ann.snd (Ann.snd (Ann.snd (Ann.snd math_bits_OnesCount64_an))))) (⟨mkE 35 0 [(0, .dat (.int .u64) x2525)], []⟩ : St) (math_bits_OnesCount64_n4 x2525) (fun (t : Int) => (Exit.normal, (⟨mkE 35 0 [(0, .dat (.int .u64) t)], []⟩ : St))) := by
  refine Link.of fun K h => ?_
  simp only [math_bits_OnesCount64_n4, wpO_bind, wpO_cond, wpO_map, wpO_some] at h
  exact Awp.of (by kernel_rfl) h

theorem math_bits_OnesCount64_n5_l (x2529 : Int) : Link math_bits_OnesCount64_ctx LL (Code.fst (Code.snd (Code.snd (Code.snd (Code.snd (Code.snd (bodyOf Try.f42))))))) (Ann.fst (Ann.snd (Ann.snd (Ann.snd (Ann.snd (Ann.snd math_bits_OnesCount64_an)))))) (⟨mkE 35 0 [(0, .dat (.int .u64) x2529)], []⟩ : St) (math_bits_OnesCount64_n5 x2529) (fun (t : Int) => (Exit.normal, (⟨mkE 35 0 [(0, .dat (.int .u64) t)], []⟩ : St))) := by
  refine Link.of fun K h => ?_
  simp only [math_bits_OnesCount64_n5, wpO_bind, wpO_cond, wpO_map, wpO_some] at h
  exact Awp.of (by kernel_rfl) h

theorem math_bits_OnesCount64_n6_l (x2534 : Int) : Link math_bits_OnesCount64_ctx LL (Code.fst (Code.snd (Code.snd (Code.snd (Code.snd (Code.snd (Code.snd (bodyOf Try.f42)))))))) (Ann.fst (Ann.snd (Ann.snd (Ann.snd (Ann.snd (Ann.snd (Ann.snd math_bits_OnesCount64_an))))))) (⟨mkE 35 0 [(0, .dat (.int .u64) x2534)], []⟩ : St) (math_bits_OnesCount64_n6 x2534) (fun (t : Int) => (Exit.normal, (⟨mkE 35 0 [(0, .dat (.int .u64) t)], []⟩ : St))) := by
  refine Link.of fun K h => ?_
  simp only [math_bits_OnesCount64_n6, wpO_bind, wpO_cond, wpO_map, wpO_some] at h
  exact Awp.of (by kernel_rfl) h

theorem math_bits_OnesCount64_n7_l (x2539 : Int) : Link math_bits_OnesCount64_ctx LL (Code.fst (Code.snd (Code.snd (Code.snd (Code.snd (Code.snd (Code.snd (Code.snd (bodyOf Try.f42))))))))) (Ann.fst (Ann.snd (Ann.snd (Ann.snd (Ann.snd (Ann.snd (Ann.snd (Ann.snd math_bits_OnesCount64_an)))))))) (⟨mkE 35 0 [(0, .dat (.int .u64) x2539)], []⟩ : St) (math_bits_OnesCount64_n7 x2539) (fun (t : Int) => (Exit.normal, (⟨mkE 35 0 [(2, .dat (.int .i64) t)], []⟩ : St))) := by
  refine Link.of fun K h => ?_
  simp only [math_bits_OnesCount64_n7, wpO_bind, wpO_cond, wpO_map, wpO_some] at h
  exact Awp.of (by kernel_rfl) h

theorem math_bits_OnesCount64_n8_l (x2544 : Int) : Link math_bits_OnesCount64_ctx LL (Code.snd (Code.snd (Code.snd (Code.snd (Code.snd (Code.snd (Code.snd (Code.snd (bodyOf Try.f42))))))))) (Ann.snd (Ann.snd (Ann.snd (Ann.snd (Ann.snd (Ann.snd (Ann.snd (Ann.snd math_bits_OnesCount64_an)))))))) (⟨mkE 35 0 [(2, .dat (.int .i64) x2544)], []⟩ : St) (math_bits_OnesCount64_n8 x2544) (fun (t : Int) => (Exit.ret, (⟨mkE 35 0 [(2, .dat (.int .i64) t)], []⟩ : St))) := by
  refine Link.of fun K h => ?_
  simp only [math_bits_OnesCount64_n8, wpO_bind, wpO_cond, wpO_map, wpO_some] at h
  exact Awp.of (by kernel_rfl) h

theorem math_bits_OnesCount64_n9_l (x2539 : Int) : Link math_bits_OnesCount64_ctx LL (Code.snd (Code.snd (Code.snd (Code.snd (Code.snd (Code.snd (Code.snd (bodyOf Try.f42)))))))) (Ann.snd (Ann.snd (Ann.snd (Ann.snd (Ann.snd (Ann.snd (Ann.snd math_bits_OnesCount64_an))))))) (⟨mkE 35 0 [(0, .dat (.int .u64) x2539)], []⟩ : St) (math_bits_OnesCount64_n9 x2539) (fun (t : Int) => (Exit.ret, (⟨mkE 35 0 [(2, .dat (.int .i64) t)], []⟩ : St))) := by
  unfold math_bits_OnesCount64_n9
  exact Link.cast (by kernel_rfl) (by kernel_rfl) (link_seq (b := (Code.snd (Code.snd (Code.snd (Code.snd (Code.snd (Code.snd (Code.snd (Code.snd (bodyOf Try.f42)))))))))) (y := (Ann.snd (Ann.snd (Ann.snd (Ann.snd (Ann.snd (Ann.snd (Ann.snd (Ann.snd math_bits_OnesCount64_an))))))))) (math_bits_OnesCount64_n7_l x2539) (fun (t : Int) => (math_bits_OnesCount64_n8_l t)))

theorem math_bits_OnesCount64_n10_l (x2534 : Int) : Link math_bits_OnesCount64_ctx LL (Code.snd (Code.snd (Code.snd (Code.snd (Code.snd (Code.snd (bodyOf Try.f42))))))) (Ann.snd (Ann.snd (Ann.snd (Ann.snd (Ann.snd (Ann.snd math_bits_OnesCount64_an)))))) (⟨mkE 35 0 [(0, .dat (.int .u64) x2534)], []⟩ : St) (math_bits_OnesCount64_n10 x2534) (fun (t : Int) => (Exit.ret, (⟨mkE 35 0 [(2, .dat (.int .i64) t)], []⟩ : St))) := by
  unfold math_bits_OnesCount64_n10
  exact Link.cast (by kernel_rfl) (by kernel_rfl) (link_seq (b := (Code.snd (Code.snd (Code.snd (Code.snd (Code.snd (Code.snd (Code.snd (bodyOf Try.f42))))))))) (y := (Ann.snd (Ann.snd (Ann.snd (Ann.snd (Ann.snd (Ann.snd (Ann.snd math_bits_OnesCount64_an)))))))) (math_bits_OnesCount64_n6_l x2534) (fun (t : Int) => (math_bits_OnesCount64_n9_l t)))

theorem math_bits_OnesCount64_n11_l (x2529 : Int) : Link math_bits_OnesCount64_ctx LL (Code.snd (Code.snd (Code.snd (Code.snd (Code.snd (bodyOf Try.f42)))))) (Ann.snd (Ann.snd (Ann.snd (Ann.snd (Ann.snd math_bits_OnesCount64_an))))) (⟨mkE 35 0 [(0, .dat (.int .u64) x2529)], []⟩ : St) (math_bits_OnesCount64_n11 x2529) (fun (t : Int) => (Exit.ret, (⟨mkE 35 0 [(2, .dat (.int .i64) t)], []⟩ : St))) := by
  unfold math_bits_OnesCount64_n11
  exact Link.cast (by kernel_rfl) (by kernel_rfl) (link_seq (b := (Code.snd (Code.snd (Code.snd (Code.snd (Code.snd (Code.snd (bodyOf Try.f42)))))))) (y := (Ann.snd (Ann.snd (Ann.snd (Ann.snd (Ann.snd (Ann.snd math_bits_OnesCount64_an))))))) (math_bits_OnesCount64_n5_l x2529) (fun (t : Int) => (math_bits_OnesCount64_n10_l t)))

theorem math_bits_OnesCount64_n12_l (x2525 : Int) : Link math_bits_OnesCount64_ctx LL (Code.snd (Code.snd (Code.snd (Code.snd (bodyOf Try.f42))))) (Ann.snd (Ann.snd (Ann.snd (Ann.snd math_bits_OnesCount64_an)))) (⟨mkE 35 0 [(0, .dat (.int .u64) x2525)], []⟩ : St) (math_bits_OnesCount64_n12 x2525) (fun (t : Int) => (Exit.ret, (⟨mkE 35 0 [(2, .dat (.int .i64) t)], []⟩ : St))) := by
  unfold math_bits_OnesCount64_n12
  exact Link.cast (by kernel_rfl) (by kernel_rfl) (link_seq (b := (Code.snd (Code.snd (Code.snd (Code.snd (Code.snd (bodyOf Try.f42))))))) (y := (Ann.snd (Ann.snd (Ann.snd (Ann.snd (Ann.snd math_bits_OnesCount64_an)))))) (math_bits_OnesCount64_n4_l x2525) (fun (t : Int) => (math_bits_OnesCount64_n11_l t)))

theorem math_bits_OnesCount64_n13_l (x2517 : Int) : Link math_bits_OnesCount64_ctx LL (Code.snd (Code.snd (Code.snd (bodyOf Try.f42)))) (Ann.snd (Ann.snd (Ann.snd math_bits_OnesCount64_an))) (⟨mkE 35 0 [(0, .dat (.int .u64) x2517)], []⟩ : St) (math_bits_OnesCount64_n13 x2517) (fun (t : Int) => (Exit.ret, (⟨mkE 35 0 [(2, .dat (.int .i64) t)], []⟩ : St))) := by
  unfold math_bits_OnesCount64_n13
  exact Link.cast (by kernel_rfl) (by kernel_rfl) (link_seq (b := (Code.snd (Code.snd (Code.snd (Code.snd (bodyOf Try.f42)))))) (y := (Ann.snd (Ann.snd (Ann.snd (Ann.snd math_bits_OnesCount64_an))))) (math_bits_OnesCount64_n3_l x2517) (fun (t : Int) => (math_bits_OnesCount64_n12_l t)))

theorem math_bits_OnesCount64_n14_l (x2499 : Int) : Link math_bits_OnesCount64_ctx LL (Code.snd (Code.snd (bodyOf Try.f42))) (Ann.snd (Ann.snd math_bits_OnesCount64_an)) (⟨mkE 35 0 [(0, .dat (.int .u64) x2499)], []⟩ : St) (math_bits_OnesCount64_n14 x2499) (fun (t : Int) => (Exit.ret, (⟨mkE 35 0 [(2, .dat (.int .i64) t)], []⟩ : St))) := by
  unfold math_bits_OnesCount64_n14
  exact Link.cast (by kernel_rfl) (by kernel_rfl) (link_seq (b := (Code.snd (Code.snd (Code.snd (bodyOf Try.f42))))) (y := (Ann.snd (Ann.snd (Ann.snd math_bits_OnesCount64_an)))) (math_bits_OnesCount64_n2_l x2499) (fun (t : Int) => (math_bits_OnesCount64_n13_l t)))

theorem math_bits_OnesCount64_n15_l (x2494 : Int) : Link math_bits_OnesCount64_ctx LL (bodyOf Try.f42) math_bits_OnesCount64_an (⟨mkE 35 0 [(0, .dat (.int .u64) x2494)], []⟩ : St) (math_bits_OnesCount64_n15 x2494) (fun (t : Int) => (Exit.ret, (⟨mkE 35 0 [(2, .dat (.int .i64) t)], []⟩ : St))) := by
  unfold math_bits_OnesCount64_n15
  exact Link.cast (by kernel_rfl) (by kernel_rfl) (link_group (c := (Code.fst (Code.snd (bodyOf Try.f42)))) (a := (Ann.fst (Ann.snd math_bits_OnesCount64_an))) [(Code.fst (bodyOf Try.f42))] [(Ann.fst math_bits_OnesCount64_an)] rfl (link_seq (b := (Code.snd (Code.snd (bodyOf Try.f42)))) (y := (Ann.snd (Ann.snd math_bits_OnesCount64_an))) (math_bits_OnesCount64_n1_l x2494) (fun (t : Int) => (math_bits_OnesCount64_n14_l t))))

theorem math_bits_OnesCount64_e (x2494 : Int) {r : AV} {H' : Heap} (h : (Ans.mk _ (math_bits_OnesCount64 x2494) (fun (t : Int) => (.dat (.int .i64) t, []))).run = some (r, H')) : Awp math_bits_OnesCount64_ctx LL (bodyOf Try.f42) math_bits_OnesCount64_an (⟨mkE 35 0 [(0, .dat (.int .u64) x2494)], []⟩ : St) (Ret (tlook tys) Try.f42.results.toList r H') :=
  ret_of' (math_bits_OnesCount64_n15_l x2494) (by unfold math_bits_OnesCount64; kernel_rfl) (by
  intro t
  exact ret_mk [.dat (.int .i64) t] (by kernel_rfl) (by kernel_rfl) (by kernel_rfl) (by kernel_rfl)) h

def F_math_bits_OnesCount64 : Fun := fun avs H =>
  match avs, H with
  | [.dat (.int .u64) x2494], [] => ⟨_, math_bits_OnesCount64 x2494, fun (t : Int) => (.dat (.int .i64) t, [])⟩
  | _, _ => Ans.no

theorem math_bits_OnesCount64_sound : Sound Try.prog 42 F_math_bits_OnesCount64 := by
  refine fn_sound' (C := math_bits_OnesCount64_ctx) (c := bodyOf Try.f42) (cok_of tys_ok (by simp) (by simp) (by kernel_rfl)) Try.func42 (by kernel_rfl) LL math_bits_OnesCount64_an ?_
  intro avs H r H' h
  unfold F_math_bits_OnesCount64 at h
  split at h
  · refine Awp.cast ?_ ?_ ?_ (math_bits_OnesCount64_e _ h) <;> kernel_rfl
  · simp [Ans.no, Ans.run] at h

/-! math/bits.OnesCount -/

def math_bits_OnesCount_an : Ann := (.seq (.leaf [0]) (.seq (.cond (.seq (.leaf [2]) (.leaf [2])) (.leaf [0])) (.seq (.leaf [2]) (.leaf [2]))))

noncomputable def math_bits_OnesCount_ctx : Ctx := ⟨tlook tys, olook [(42, F_math_bits_OnesCount64)], ioF, 0⟩

theorem math_bits_OnesCount_n1_l (x2493 : Int) : Link math_bits_OnesCount_ctx LL (bodyOf Try.f40) math_bits_OnesCount_an (⟨mkE 8 0 [(0, .dat (.int .u64) x2493)], []⟩ : St) (math_bits_OnesCount_n1 x2493) (fun (t : Int) => (Exit.ret, (⟨mkE 8 0 [(2, .dat (.int .i64) t)], []⟩ : St))) := by
  refine Link.of fun K h => ?_
  simp only [math_bits_OnesCount_n1, wpO_bind, wpO_cond, wpO_map, wpO_some] at h
  exact Awp.of (by kernel_rfl) h

theorem math_bits_OnesCount_e (x2493 : Int) {r : AV} {H' : Heap} (h : (Ans.mk _ (math_bits_OnesCount x2493) (fun (t : Int) => (.dat (.int .i64) t, []))).run = some (r, H')) : Awp math_bits_OnesCount_ctx LL (bodyOf Try.f40) math_bits_OnesCount_an (⟨mkE 8 0 [(0, .dat (.int .u64) x2493)], []⟩ : St) (Ret (tlook tys) Try.f40.results.toList r H') :=
  ret_of' (math_bits_OnesCount_n1_l x2493) (by unfold math_bits_OnesCount; kernel_rfl) (by
  intro t
  exact ret_mk [.dat (.int .i64) t] (by kernel_rfl) (by kernel_rfl) (by kernel_rfl) (by kernel_rfl)) h

def F_math_bits_OnesCount : Fun := fun avs H =>
  match avs, H with
  | [.dat (.int .u64) x2493], [] => ⟨_, math_bits_OnesCount x2493, fun (t : Int) => (.dat (.int .i64) t, [])⟩
  | _, _ => Ans.no

theorem math_bits_OnesCount_sound : Sound Try.prog 40 F_math_bits_OnesCount := by
  refine fn_sound' (C := math_bits_OnesCount_ctx) (c := bodyOf Try.f40) (cok_of tys_ok (List.forall_mem_cons.2 ⟨math_bits_OnesCount64_sound, by simp⟩) (List.forall_mem_cons.2 ⟨Try.call42, by simp⟩) (by kernel_rfl)) Try.func40 (by kernel_rfl) LL math_bits_OnesCount_an ?_
  intro avs H r H' h
  unfold F_math_bits_OnesCount at h
  split at h
  · refine Awp.cast ?_ ?_ ?_ (math_bits_OnesCount_e _ h) <;> kernel_rfl
  · simp [Ans.no, Ans.run] at h

/-! (loop.example/headtrees/impl.wordSet).count -/

def impl_wordSet_count_an : Ann := (.seq (.leaf [0]) (.seq (.leaf [2]) (.leaf [2])))

noncomputable def impl_wordSet_count_ctx : Ctx := ⟨tlook tys, olook [(40, F_math_bits_OnesCount)], ioF, 0⟩

theorem impl_wordSet_count_n1_l (x2492 : Int) : Link impl_wordSet_count_ctx LL (bodyOf Try.f37) impl_wordSet_count_an (⟨mkE 5 0 [(0, .dat (.int .u64) x2492)], []⟩ : St) (impl_wordSet_count_n1 x2492) (fun (t : Int) => (Exit.ret, (⟨mkE 5 0 [(2, .dat (.int .i64) t)], []⟩ : St))) := by
  refine Link.of fun K h => ?_
  simp only [impl_wordSet_count_n1, wpO_bind, wpO_cond, wpO_map, wpO_some] at h
  exact Awp.of (by kernel_rfl) h

theorem impl_wordSet_count_e (x2492 : Int) {r : AV} {H' : Heap} (h : (Ans.mk _ (impl_wordSet_count x2492) (fun (t : Int) => (.dat (.int .i64) t, []))).run = some (r, H')) : Awp impl_wordSet_count_ctx LL (bodyOf Try.f37) impl_wordSet_count_an (⟨mkE 5 0 [(0, .dat (.int .u64) x2492)], []⟩ : St) (Ret (tlook tys) Try.f37.results.toList r H') :=
  ret_of' (impl_wordSet_count_n1_l x2492) (by unfold impl_wordSet_count; kernel_rfl) (by
  intro t
  exact ret_mk [.dat (.int .i64) t] (by kernel_rfl) (by kernel_rfl) (by kernel_rfl) (by kernel_rfl)) h

def F_impl_wordSet_count : Fun := fun avs H =>
  match avs, H with
  | [.dat (.int .u64) x2492], [] => ⟨_, impl_wordSet_count x2492, fun (t : Int) => (.dat (.int .i64) t, [])⟩
  | _, _ => Ans.no

theorem impl_wordSet_count_sound : Sound Try.prog 37 F_impl_wordSet_count := by
  refine fn_sound' (C := impl_wordSet_count_ctx) (c := bodyOf Try.f37) (cok_of tys_ok (List.forall_mem_cons.2 ⟨math_bits_OnesCount_sound, by simp⟩) (List.forall_mem_cons.2 ⟨Try.call40, by simp⟩) (by kernel_rfl)) Try.func37 (by kernel_rfl) LL impl_wordSet_count_an ?_
  intro avs H r H' h
  unfold F_impl_wordSet_count at h
  split at h
  · refine Awp.cast ?_ ?_ ?_ (impl_wordSet_count_e _ h) <;> kernel_rfl
  · simp [Ans.no, Ans.run] at h

/-! loop.example/headtrees/impl.SidesOf -/

def impl_SidesOf_an : Ann := (.seq (.leaf [0, 1]) (.seq (.seq (.leaf [0, 1, 11]) (.cond (.seq (.leaf [4, 5, 6]) (.leaf [4, 5, 6])) (.leaf [0, 1]))) (.seq (.leaf [1, 7]) (.seq (.leaf [4, 5, 6]) (.leaf [4, 5, 6])))))

noncomputable def impl_SidesOf_ctx : Ctx := ⟨tlook tys, olook [(34, F_impl_wordOk), (35, F_impl_dependents), (36, F_impl_before), (37, F_impl_wordSet_count)], ioF, 0⟩

theorem impl_SidesOf_n1_l (x2418 : List Int) (x2419 : Int) : Link impl_SidesOf_ctx LL (bodyOf Try.f24) impl_SidesOf_an (⟨mkE 25 0 [(0, .dat (.list (.int .i64)) x2418), (1, .dat (.int .i64) x2419)], []⟩ : St) (impl_SidesOf_n1 x2418 x2419) (fun (t : Int × Int × Bool) => (Exit.ret, (⟨mkE 25 0 [(4, .dat (.int .i64) t.1), (5, .dat (.int .i64) t.2.1), (6, .dat .bool t.2.2)], []⟩ : St))) := by
  refine Link.of fun K h => ?_
  simp only [impl_SidesOf_n1, wpO_bind, wpO_cond, wpO_map, wpO_some] at h
  exact Awp.of (by kernel_rfl) h

theorem impl_SidesOf_e (x2418 : List Int) (x2419 : Int) {r : AV} {H' : Heap} (h : (Ans.mk _ (impl_SidesOf x2418 x2419) (fun (t : Int × Int × Bool) => (.tup [.dat (.int .i64) t.1, .dat (.int .i64) t.2.1, .dat .bool t.2.2], []))).run = some (r, H')) : Awp impl_SidesOf_ctx LL (bodyOf Try.f24) impl_SidesOf_an (⟨mkE 25 0 [(0, .dat (.list (.int .i64)) x2418), (1, .dat (.int .i64) x2419)], []⟩ : St) (Ret (tlook tys) Try.f24.results.toList r H') :=
  ret_of' (impl_SidesOf_n1_l x2418 x2419) (by unfold impl_SidesOf; kernel_rfl) (by
  intro t
  exact ret_mk [.dat (.int .i64) t.1, .dat (.int .i64) t.2.1, .dat .bool t.2.2] (by kernel_rfl) (by kernel_rfl) (by kernel_rfl) (by kernel_rfl)) h

def F_impl_SidesOf : Fun := fun avs H =>
  match avs, H with
  | [.dat (.list (.int .i64)) x2418, .dat (.int .i64) x2419], [] => ⟨_, impl_SidesOf x2418 x2419, fun (t : Int × Int × Bool) => (.tup [.dat (.int .i64) t.1, .dat (.int .i64) t.2.1, .dat .bool t.2.2], [])⟩
  | _, _ => Ans.no

theorem impl_SidesOf_sound : Sound Try.prog 24 F_impl_SidesOf := by
  refine fn_sound' (C := impl_SidesOf_ctx) (c := bodyOf Try.f24) (cok_of tys_ok (List.forall_mem_cons.2 ⟨impl_wordOk_sound, List.forall_mem_cons.2 ⟨impl_dependents_sound, List.forall_mem_cons.2 ⟨impl_before_sound, List.forall_mem_cons.2 ⟨impl_wordSet_count_sound, by simp⟩⟩⟩⟩) (List.forall_mem_cons.2 ⟨Try.call34, List.forall_mem_cons.2 ⟨Try.call35, List.forall_mem_cons.2 ⟨Try.call36, List.forall_mem_cons.2 ⟨Try.call37, by simp⟩⟩⟩⟩) (by kernel_rfl)) Try.func24 (by kernel_rfl) LL impl_SidesOf_an ?_
  intro avs H r H' h
  unfold F_impl_SidesOf at h
  split at h
  · refine Awp.cast ?_ ?_ ?_ (impl_SidesOf_e _ _ h) <;> kernel_rfl
  · simp [Ans.no, Ans.run] at h

/-! loop.example/headtrees/laws.FnExactSidesOf -/

def laws_FnExactSidesOf_an : Ann := (.seq (.leaf [0, 1]) (.seq (.seq (.leaf [0, 1, 14]) (.cond (.seq (.leaf [4]) (.leaf [4])) (.leaf [0, 1]))) (.seq (.leaf [0, 1, 5, 6, 7]) (.seq (.leaf [0, 1, 5, 6, 7, 8]) (.seq (.leaf [0, 5, 6, 7, 8, 9, 10, 11]) (.seq (.seq (.leaf [0, 8, 44]) (.cond (.seq (.leaf [4]) (.leaf [4])) (.leaf [0, 8]))) (.seq (.seq (.leaf [49]) (.cond (.seq (.leaf [4]) (.leaf [4])) (.leaf []))) (.seq (.leaf [4]) (.leaf [4])))))))))

noncomputable def laws_FnExactSidesOf_ctx : Ctx := ⟨tlook tys, olook [(10, F_laws_toIntS), (23, F_spec_SidesOf), (24, F_impl_SidesOf), (12, F_laws_eqIntS)], ioF, 0⟩

theorem laws_FnExactSidesOf_n1_l (x2252 : List Int) (x2253 : Int) : Link laws_FnExactSidesOf_ctx LL (bodyOf Try.f8) laws_FnExactSidesOf_an (⟨mkE 50 0 [(0, .dat (.list (.int .i64)) x2252), (1, .dat (.int .i64) x2253)], []⟩ : St) (laws_FnExactSidesOf_n1 x2252 x2253) (fun (t : Bool) => (Exit.ret, (⟨mkE 50 0 [(4, .dat .bool t)], []⟩ : St))) := by
  refine Link.of fun K h => ?_
  simp only [laws_FnExactSidesOf_n1, wpO_bind, wpO_cond, wpO_map, wpO_some] at h
  exact Awp.of (by kernel_rfl) h

theorem laws_FnExactSidesOf_e (x2252 : List Int) (x2253 : Int) {r : AV} {H' : Heap} (h : (Ans.mk _ (laws_FnExactSidesOf x2252 x2253) (fun (t : Bool) => (.dat .bool t, []))).run = some (r, H')) : Awp laws_FnExactSidesOf_ctx LL (bodyOf Try.f8) laws_FnExactSidesOf_an (⟨mkE 50 0 [(0, .dat (.list (.int .i64)) x2252), (1, .dat (.int .i64) x2253)], []⟩ : St) (Ret (tlook tys) Try.f8.results.toList r H') :=
  ret_of' (laws_FnExactSidesOf_n1_l x2252 x2253) (by unfold laws_FnExactSidesOf; kernel_rfl) (by
  intro t
  exact ret_mk [.dat .bool t] (by kernel_rfl) (by kernel_rfl) (by kernel_rfl) (by kernel_rfl)) h

def F_laws_FnExactSidesOf : Fun := fun avs H =>
  match avs, H with
  | [.dat (.list (.int .i64)) x2252, .dat (.int .i64) x2253], [] => ⟨_, laws_FnExactSidesOf x2252 x2253, fun (t : Bool) => (.dat .bool t, [])⟩
  | _, _ => Ans.no

theorem laws_FnExactSidesOf_sound : Sound Try.prog 8 F_laws_FnExactSidesOf := by
  refine fn_sound' (C := laws_FnExactSidesOf_ctx) (c := bodyOf Try.f8) (cok_of tys_ok (List.forall_mem_cons.2 ⟨laws_toIntS_sound, List.forall_mem_cons.2 ⟨spec_SidesOf_sound, List.forall_mem_cons.2 ⟨impl_SidesOf_sound, List.forall_mem_cons.2 ⟨laws_eqIntS_sound, by simp⟩⟩⟩⟩) (List.forall_mem_cons.2 ⟨Try.call10, List.forall_mem_cons.2 ⟨Try.call23, List.forall_mem_cons.2 ⟨Try.call24, List.forall_mem_cons.2 ⟨Try.call12, by simp⟩⟩⟩⟩) (by kernel_rfl)) Try.func8 (by kernel_rfl) LL laws_FnExactSidesOf_an ?_
  intro avs H r H' h
  unfold F_laws_FnExactSidesOf at h
  split at h
  · refine Awp.cast ?_ ?_ ?_ (laws_FnExactSidesOf_e _ _ h) <;> kernel_rfl
  · simp [Ans.no, Ans.run] at h

end Go.Rv
