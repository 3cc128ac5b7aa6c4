/-
  The checked code answers as the plain functions do; written by program. Conditions: none.
-/
import Derived.Test.YtgnjabkkcglmkaaDoorKFnExactNestedOka
set_option linter.unusedVariables false
set_option linter.unusedSimpArgs false
set_option maxRecDepth 100000
namespace Go.Rv
open Go.Proofs
/-! loop.example/headtrees/spec.NestedOk -/

def spec_NestedOk_an : Ann := (.seq (.leaf [0]) (.seq (.seq (.leaf [0, 3]) (.block (.loop (.seq (.seq (.leaf [0, 3, 8]) (.cond (.leaf [0, 3]) (.leaf [0]))) (.seq (.block (.seq (.leaf [0, 3, 4]) (.block (.loop (.seq (.seq (.leaf [0, 3, 4, 13]) (.cond (.leaf [0, 3, 4]) (.leaf [0, 3]))) (.seq (.block (.seq (.leaf [0, 3, 4, 19]) (.cond (.seq (.leaf [2]) (.leaf [2])) (.leaf [0, 3, 4])))) (.leaf [0, 3, 4]))))))) (.leaf [0, 3])))))) (.seq (.leaf [2]) (.leaf [2]))))

noncomputable def spec_NestedOk_ctx : Ctx := ⟨tlook tys, olook [(27, F_spec_TurnsOk), (32, F_spec_TreeOk)], ioF, 0, false⟩

theorem spec_NestedOk_n1_l (x3897 : List Int) : Link spec_NestedOk_ctx LL (Code.fst (bodyOf Tryd.f31)) (Ann.fst spec_NestedOk_an) (⟨mkE 22 0 [(0, .dat (.list (.int .i64)) x3897)], []⟩ : St) (spec_NestedOk_n1) (fun (t : Unit) => (Exit.normal, (⟨mkE 22 0 [(0, .dat (.list (.int .i64)) x3897)], []⟩ : St))) := by
  refine Link.of fun K h => ?_
  simp only [spec_NestedOk_n1, wpO_bind, wpO_cond, wpO_map, wpO_some] at h
  exact Awp.of (by kernel_rfl) h

theorem spec_NestedOk_n2_l (x3897 : List Int) : Link spec_NestedOk_ctx LL (Code.fst (Code.fst (Code.snd (bodyOf Tryd.f31)))) (Ann.fst (Ann.fst (Ann.snd spec_NestedOk_an))) (⟨mkE 22 0 [(0, .dat (.list (.int .i64)) x3897)], []⟩ : St) (spec_NestedOk_n2) (fun (t : Unit) => (Exit.normal, (⟨mkE 22 0 [(0, .dat (.list (.int .i64)) x3897), (3, .dat (.int .i64) 1)], []⟩ : St))) := by
  refine Link.of fun K h => ?_
  simp only [spec_NestedOk_n2, wpO_bind, wpO_cond, wpO_map, wpO_some] at h
  exact Awp.of (by kernel_rfl) h

theorem spec_NestedOk_n3_l (x3897 : List Int) (x3914 : Int) : Link spec_NestedOk_ctx LL (Code.fst (Code.fst (Code.fst (Code.snd (Code.fst (Code.snd (bodyOf Tryd.f31))))))) (Ann.fst (Ann.fst (Ann.fst (Ann.snd (Ann.fst (Ann.snd spec_NestedOk_an)))))) (⟨mkE 22 0 [(0, .dat (.list (.int .i64)) x3897), (3, .dat (.int .i64) x3914)], []⟩ : St) (spec_NestedOk_n3 x3897 x3914) (Sum.elim (fun (t : Unit) => (Exit.normal, (⟨mkE 22 0 [(0, .dat (.list (.int .i64)) x3897), (3, .dat (.int .i64) x3914)], []⟩ : St))) (fun (t : Unit) => ((Exit.exit 0), (⟨mkE 22 0 [(0, .dat (.list (.int .i64)) x3897)], []⟩ : St)))) := by
  refine Link.of fun K h => ?_
  simp only [spec_NestedOk_n3, wpO_bind, wpO_cond, wpO_map, wpO_some] at h
  exact Awp.of (by kernel_rfl) h

theorem spec_NestedOk_n4_l (x3897 : List Int) (x3914 : Int) : Link spec_NestedOk_ctx LL (Code.fst (Code.fst (Code.fst (Code.snd (Code.fst (Code.fst (Code.snd (Code.fst (Code.snd (bodyOf Tryd.f31)))))))))) (Ann.fst (Ann.fst (Ann.fst (Ann.snd (Ann.fst (Ann.fst (Ann.snd (Ann.fst (Ann.snd spec_NestedOk_an))))))))) (⟨mkE 22 0 [(0, .dat (.list (.int .i64)) x3897), (3, .dat (.int .i64) x3914)], []⟩ : St) (spec_NestedOk_n4) (fun (t : Unit) => (Exit.normal, (⟨mkE 22 0 [(0, .dat (.list (.int .i64)) x3897), (3, .dat (.int .i64) x3914), (4, .dat (.int .i64) 1)], []⟩ : St))) := by
  refine Link.of fun K h => ?_
  simp only [spec_NestedOk_n4, wpO_bind, wpO_cond, wpO_map, wpO_some] at h
  exact Awp.of (by kernel_rfl) h

theorem spec_NestedOk_n5_l (x3897 : List Int) (x3914 : Int) (x3923 : Int) : Link spec_NestedOk_ctx LL (Code.fst (Code.fst (Code.snd (Code.fst (Code.fst (Code.snd (Code.fst (Code.fst (Code.snd (Code.fst (Code.snd (bodyOf Tryd.f31)))))))))))) (Ann.fst (Ann.fst (Ann.snd (Ann.fst (Ann.fst (Ann.snd (Ann.fst (Ann.fst (Ann.snd (Ann.fst (Ann.snd spec_NestedOk_an))))))))))) (⟨mkE 22 0 [(0, .dat (.list (.int .i64)) x3897), (3, .dat (.int .i64) x3914), (4, .dat (.int .i64) x3923)], []⟩ : St) (spec_NestedOk_n5 x3897 x3914 x3923) (Sum.elim (fun (t : Int) => (Exit.normal, (⟨mkE 22 0 [(0, .dat (.list (.int .i64)) x3897), (3, .dat (.int .i64) x3914), (4, .dat (.int .i64) t)], []⟩ : St))) (Sum.elim (fun (t : Bool) => (Exit.ret, (⟨mkE 22 0 [(2, .dat .bool t)], []⟩ : St))) (fun (t : Unit) => ((Exit.exit 2), (⟨mkE 22 0 [(0, .dat (.list (.int .i64)) x3897), (3, .dat (.int .i64) x3914)], []⟩ : St))))) := by
  refine Link.of fun K h => ?_
  simp only [spec_NestedOk_n5, wpO_bind, wpO_cond, wpO_map, wpO_some] at h
  exact Awp.of (by kernel_rfl) h

theorem spec_NestedOk_n6_l (x3897 : List Int) (x3914 : Int) : Link spec_NestedOk_ctx LL (Code.fst (Code.snd (Code.fst (Code.fst (Code.snd (Code.fst (Code.fst (Code.snd (Code.fst (Code.snd (bodyOf Tryd.f31))))))))))) (Ann.fst (Ann.snd (Ann.fst (Ann.fst (Ann.snd (Ann.fst (Ann.fst (Ann.snd (Ann.fst (Ann.snd spec_NestedOk_an)))))))))) (⟨mkE 22 0 [(0, .dat (.list (.int .i64)) x3897), (3, .dat (.int .i64) x3914), (4, .dat (.int .i64) 1)], []⟩ : St) (spec_NestedOk_n6 x3897 x3914) (Sum.elim (fun (t : Bool) => (Exit.ret, (⟨mkE 22 0 [(2, .dat .bool t)], []⟩ : St))) (fun (t : Unit) => ((Exit.exit 2), (⟨mkE 22 0 [(0, .dat (.list (.int .i64)) x3897), (3, .dat (.int .i64) x3914)], []⟩ : St)))) := by
  unfold spec_NestedOk_n6
  exact Link.cast (by kernel_rfl) (by kernel_rfl) (link_loop (mk := fun (s : Int) => (⟨mkE 22 0 [(0, .dat (.list (.int .i64)) x3897), (3, .dat (.int .i64) x3914), (4, .dat (.int .i64) s)], []⟩ : St)) (fin := (Sum.elim (fun (t : Bool) => (Exit.ret, (⟨mkE 22 0 [(2, .dat .bool t)], []⟩ : St))) (fun (t : Unit) => ((Exit.exit 2), (⟨mkE 22 0 [(0, .dat (.list (.int .i64)) x3897), (3, .dat (.int .i64) x3914)], []⟩ : St))))) (by
  rintro (t | t) f K h
  · exact h
  · exact h) (fun s => link_map (spec_NestedOk_n5_l x3897 x3914 s) (Sum.elim (fun (t : Int) => Sum.inl t) (Sum.elim (fun (t : Bool) => Sum.inr (Sum.inl t)) (fun (t : Unit) => Sum.inr (Sum.inr t)))) (by
  rintro (t | t | t)
  · kernel_rfl
  · kernel_rfl
  · kernel_rfl)) 1)

theorem spec_NestedOk_n7_l (x3897 : List Int) (x3914 : Int) : Link spec_NestedOk_ctx LL (Code.snd (Code.fst (Code.fst (Code.snd (Code.fst (Code.fst (Code.snd (Code.fst (Code.snd (bodyOf Tryd.f31)))))))))) (Ann.snd (Ann.fst (Ann.fst (Ann.snd (Ann.fst (Ann.fst (Ann.snd (Ann.fst (Ann.snd spec_NestedOk_an))))))))) (⟨mkE 22 0 [(0, .dat (.list (.int .i64)) x3897), (3, .dat (.int .i64) x3914), (4, .dat (.int .i64) 1)], []⟩ : St) (spec_NestedOk_n7 x3897 x3914) (Sum.elim (fun (t : Unit) => (Exit.normal, (⟨mkE 22 0 [(0, .dat (.list (.int .i64)) x3897), (3, .dat (.int .i64) x3914)], []⟩ : St))) (fun (t : Bool) => (Exit.ret, (⟨mkE 22 0 [(2, .dat .bool t)], []⟩ : St)))) := by
  unfold spec_NestedOk_n7
  exact Link.cast (by kernel_rfl) (by kernel_rfl) (link_block (id := 2) (spec_NestedOk_n6_l x3897 x3914) (Sum.elim (fun (t : Bool) => (Sum.inr t)) (fun (t : Unit) => (Sum.inl ()))) (by
  rintro (t | t) K h
  · exact Eq.mp (by kernel_rfl) h
  · exact Eq.mp (by kernel_rfl) h))

theorem spec_NestedOk_n8_l (x3897 : List Int) (x3914 : Int) : Link spec_NestedOk_ctx LL (Code.fst (Code.fst (Code.snd (Code.fst (Code.fst (Code.snd (Code.fst (Code.snd (bodyOf Tryd.f31))))))))) (Ann.fst (Ann.fst (Ann.snd (Ann.fst (Ann.fst (Ann.snd (Ann.fst (Ann.snd spec_NestedOk_an)))))))) (⟨mkE 22 0 [(0, .dat (.list (.int .i64)) x3897), (3, .dat (.int .i64) x3914)], []⟩ : St) (spec_NestedOk_n8 x3897 x3914) (Sum.elim (fun (t : Unit) => (Exit.normal, (⟨mkE 22 0 [(0, .dat (.list (.int .i64)) x3897), (3, .dat (.int .i64) x3914)], []⟩ : St))) (fun (t : Bool) => (Exit.ret, (⟨mkE 22 0 [(2, .dat .bool t)], []⟩ : St)))) := by
  unfold spec_NestedOk_n8
  exact Link.cast (by kernel_rfl) (by kernel_rfl) (link_seq (b := (Code.snd (Code.fst (Code.fst (Code.snd (Code.fst (Code.fst (Code.snd (Code.fst (Code.snd (bodyOf Tryd.f31))))))))))) (y := (Ann.snd (Ann.fst (Ann.fst (Ann.snd (Ann.fst (Ann.fst (Ann.snd (Ann.fst (Ann.snd spec_NestedOk_an)))))))))) (spec_NestedOk_n4_l x3897 x3914) (fun (t : Unit) => (spec_NestedOk_n7_l x3897 x3914)))

theorem spec_NestedOk_n9_l (x3897 : List Int) (x3914 : Int) : Link spec_NestedOk_ctx LL (Code.fst (Code.snd (Code.fst (Code.fst (Code.snd (Code.fst (Code.snd (bodyOf Tryd.f31)))))))) (Ann.fst (Ann.snd (Ann.fst (Ann.fst (Ann.snd (Ann.fst (Ann.snd spec_NestedOk_an))))))) (⟨mkE 22 0 [(0, .dat (.list (.int .i64)) x3897), (3, .dat (.int .i64) x3914)], []⟩ : St) (spec_NestedOk_n9 x3897 x3914) (Sum.elim (fun (t : Unit) => (Exit.normal, (⟨mkE 22 0 [(0, .dat (.list (.int .i64)) x3897), (3, .dat (.int .i64) x3914)], []⟩ : St))) (fun (t : Bool) => (Exit.ret, (⟨mkE 22 0 [(2, .dat .bool t)], []⟩ : St)))) := by
  unfold spec_NestedOk_n9
  exact Link.cast (by kernel_rfl) (by kernel_rfl) (link_block (id := 1) (spec_NestedOk_n8_l x3897 x3914) (Sum.elim (fun (t : Unit) => (Sum.inl ())) (fun (t : Bool) => (Sum.inr t))) (by
  rintro (t | t) K h
  · exact Eq.mp (by kernel_rfl) h
  · exact Eq.mp (by kernel_rfl) h))

theorem spec_NestedOk_n10_l (x3897 : List Int) (x3914 : Int) : Link spec_NestedOk_ctx LL (Code.snd (Code.snd (Code.fst (Code.fst (Code.snd (Code.fst (Code.snd (bodyOf Tryd.f31)))))))) (Ann.snd (Ann.snd (Ann.fst (Ann.fst (Ann.snd (Ann.fst (Ann.snd spec_NestedOk_an))))))) (⟨mkE 22 0 [(0, .dat (.list (.int .i64)) x3897), (3, .dat (.int .i64) x3914)], []⟩ : St) (spec_NestedOk_n10 x3914) (fun (t : Int) => (Exit.normal, (⟨mkE 22 0 [(0, .dat (.list (.int .i64)) x3897), (3, .dat (.int .i64) t)], []⟩ : St))) := by
  refine Link.of fun K h => ?_
  simp only [spec_NestedOk_n10, wpO_bind, wpO_cond, wpO_map, wpO_some] at h
  exact Awp.of (by kernel_rfl) h

theorem spec_NestedOk_n11_l (x3897 : List Int) (x3914 : Int) : Link spec_NestedOk_ctx LL (Code.snd (Code.fst (Code.fst (Code.snd (Code.fst (Code.snd (bodyOf Tryd.f31))))))) (Ann.snd (Ann.fst (Ann.fst (Ann.snd (Ann.fst (Ann.snd spec_NestedOk_an)))))) (⟨mkE 22 0 [(0, .dat (.list (.int .i64)) x3897), (3, .dat (.int .i64) x3914)], []⟩ : St) (spec_NestedOk_n11 x3897 x3914) (Sum.elim (fun (t : Int) => (Exit.normal, (⟨mkE 22 0 [(0, .dat (.list (.int .i64)) x3897), (3, .dat (.int .i64) t)], []⟩ : St))) (fun (t : Bool) => (Exit.ret, (⟨mkE 22 0 [(2, .dat .bool t)], []⟩ : St)))) := by
  unfold spec_NestedOk_n11
  exact Link.cast (by kernel_rfl) (by kernel_rfl) (link_seq2 (b := (Code.snd (Code.snd (Code.fst (Code.fst (Code.snd (Code.fst (Code.snd (bodyOf Tryd.f31))))))))) (y := (Ann.snd (Ann.snd (Ann.fst (Ann.fst (Ann.snd (Ann.fst (Ann.snd spec_NestedOk_an)))))))) (spec_NestedOk_n9_l x3897 x3914) (fun (t : Unit) => (link_map (spec_NestedOk_n10_l x3897 x3914) (fun (t : Int) => (Sum.inl t)) (by
  rintro t
  · kernel_rfl))) (fun (t : Bool) => (Sum.inr t)) (by
  rintro t
  · kernel_rfl) (by
  rintro t f K h
  · exact h))

theorem spec_NestedOk_n12_l (x3897 : List Int) (x3914 : Int) : Link spec_NestedOk_ctx LL (Code.fst (Code.fst (Code.snd (Code.fst (Code.snd (bodyOf Tryd.f31)))))) (Ann.fst (Ann.fst (Ann.snd (Ann.fst (Ann.snd spec_NestedOk_an))))) (⟨mkE 22 0 [(0, .dat (.list (.int .i64)) x3897), (3, .dat (.int .i64) x3914)], []⟩ : St) (spec_NestedOk_n12 x3897 x3914) (Sum.elim (fun (t : Int) => (Exit.normal, (⟨mkE 22 0 [(0, .dat (.list (.int .i64)) x3897), (3, .dat (.int .i64) t)], []⟩ : St))) (Sum.elim (fun (t : Bool) => (Exit.ret, (⟨mkE 22 0 [(2, .dat .bool t)], []⟩ : St))) (fun (t : Unit) => ((Exit.exit 0), (⟨mkE 22 0 [(0, .dat (.list (.int .i64)) x3897)], []⟩ : St))))) := by
  unfold spec_NestedOk_n12
  exact Link.cast (by kernel_rfl) (by kernel_rfl) (link_seq2 (b := (Code.snd (Code.fst (Code.fst (Code.snd (Code.fst (Code.snd (bodyOf Tryd.f31)))))))) (y := (Ann.snd (Ann.fst (Ann.fst (Ann.snd (Ann.fst (Ann.snd spec_NestedOk_an))))))) (spec_NestedOk_n3_l x3897 x3914) (fun (t : Unit) => (link_map (spec_NestedOk_n11_l x3897 x3914) (Sum.elim (fun (t : Int) => (Sum.inl t)) (fun (t : Bool) => (Sum.inr (Sum.inl t)))) (by
  rintro (t | t)
  · kernel_rfl
  · kernel_rfl))) (fun (t : Unit) => (Sum.inr (Sum.inr t))) (by
  rintro t
  · kernel_rfl) (by
  rintro t f K h
  · exact h))

theorem spec_NestedOk_n13_l (x3897 : List Int) : Link spec_NestedOk_ctx LL (Code.fst (Code.snd (Code.fst (Code.snd (bodyOf Tryd.f31))))) (Ann.fst (Ann.snd (Ann.fst (Ann.snd spec_NestedOk_an)))) (⟨mkE 22 0 [(0, .dat (.list (.int .i64)) x3897), (3, .dat (.int .i64) 1)], []⟩ : St) (spec_NestedOk_n13 x3897) (Sum.elim (fun (t : Bool) => (Exit.ret, (⟨mkE 22 0 [(2, .dat .bool t)], []⟩ : St))) (fun (t : Unit) => ((Exit.exit 0), (⟨mkE 22 0 [(0, .dat (.list (.int .i64)) x3897)], []⟩ : St)))) := by
  unfold spec_NestedOk_n13
  exact Link.cast (by kernel_rfl) (by kernel_rfl) (link_loop (mk := fun (s : Int) => (⟨mkE 22 0 [(0, .dat (.list (.int .i64)) x3897), (3, .dat (.int .i64) s)], []⟩ : St)) (fin := (Sum.elim (fun (t : Bool) => (Exit.ret, (⟨mkE 22 0 [(2, .dat .bool t)], []⟩ : St))) (fun (t : Unit) => ((Exit.exit 0), (⟨mkE 22 0 [(0, .dat (.list (.int .i64)) x3897)], []⟩ : St))))) (by
  rintro (t | t) f K h
  · exact h
  · exact h) (fun s => link_map (spec_NestedOk_n12_l x3897 s) (Sum.elim (fun (t : Int) => Sum.inl t) (Sum.elim (fun (t : Bool) => Sum.inr (Sum.inl t)) (fun (t : Unit) => Sum.inr (Sum.inr t)))) (by
  rintro (t | t | t)
  · kernel_rfl
  · kernel_rfl
  · kernel_rfl)) 1)

theorem spec_NestedOk_n14_l (x3897 : List Int) : Link spec_NestedOk_ctx LL (Code.snd (Code.fst (Code.snd (bodyOf Tryd.f31)))) (Ann.snd (Ann.fst (Ann.snd spec_NestedOk_an))) (⟨mkE 22 0 [(0, .dat (.list (.int .i64)) x3897), (3, .dat (.int .i64) 1)], []⟩ : St) (spec_NestedOk_n14 x3897) (Sum.elim (fun (t : Unit) => (Exit.normal, (⟨mkE 22 0 [(0, .dat (.list (.int .i64)) x3897)], []⟩ : St))) (fun (t : Bool) => (Exit.ret, (⟨mkE 22 0 [(2, .dat .bool t)], []⟩ : St)))) := by
  unfold spec_NestedOk_n14
  exact Link.cast (by kernel_rfl) (by kernel_rfl) (link_block (id := 0) (spec_NestedOk_n13_l x3897) (Sum.elim (fun (t : Bool) => (Sum.inr t)) (fun (t : Unit) => (Sum.inl ()))) (by
  rintro (t | t) K h
  · exact Eq.mp (by kernel_rfl) h
  · exact Eq.mp (by kernel_rfl) h))

theorem spec_NestedOk_n15_l (x3897 : List Int) : Link spec_NestedOk_ctx LL (Code.fst (Code.snd (bodyOf Tryd.f31))) (Ann.fst (Ann.snd spec_NestedOk_an)) (⟨mkE 22 0 [(0, .dat (.list (.int .i64)) x3897)], []⟩ : St) (spec_NestedOk_n15 x3897) (Sum.elim (fun (t : Unit) => (Exit.normal, (⟨mkE 22 0 [(0, .dat (.list (.int .i64)) x3897)], []⟩ : St))) (fun (t : Bool) => (Exit.ret, (⟨mkE 22 0 [(2, .dat .bool t)], []⟩ : St)))) := by
  unfold spec_NestedOk_n15
  exact Link.cast (by kernel_rfl) (by kernel_rfl) (link_seq (b := (Code.snd (Code.fst (Code.snd (bodyOf Tryd.f31))))) (y := (Ann.snd (Ann.fst (Ann.snd spec_NestedOk_an)))) (spec_NestedOk_n2_l x3897) (fun (t : Unit) => (spec_NestedOk_n14_l x3897)))

theorem spec_NestedOk_n16_l (x3897 : List Int) : Link spec_NestedOk_ctx LL (Code.snd (Code.snd (bodyOf Tryd.f31))) (Ann.snd (Ann.snd spec_NestedOk_an)) (⟨mkE 22 0 [(0, .dat (.list (.int .i64)) x3897)], []⟩ : St) (spec_NestedOk_n16 x3897) (fun (t : Bool) => (Exit.ret, (⟨mkE 22 0 [(2, .dat .bool t)], []⟩ : St))) := by
  refine Link.of fun K h => ?_
  simp only [spec_NestedOk_n16, wpO_bind, wpO_cond, wpO_map, wpO_some] at h
  exact Awp.of (by kernel_rfl) h

theorem spec_NestedOk_n17_l (x3897 : List Int) : Link spec_NestedOk_ctx LL (Code.snd (bodyOf Tryd.f31)) (Ann.snd spec_NestedOk_an) (⟨mkE 22 0 [(0, .dat (.list (.int .i64)) x3897)], []⟩ : St) (spec_NestedOk_n17 x3897) (fun (t : Bool) => (Exit.ret, (⟨mkE 22 0 [(2, .dat .bool t)], []⟩ : St))) := by
  unfold spec_NestedOk_n17
  exact Link.cast (by kernel_rfl) (by kernel_rfl) (link_seq2 (b := (Code.snd (Code.snd (bodyOf Tryd.f31)))) (y := (Ann.snd (Ann.snd spec_NestedOk_an))) (spec_NestedOk_n15_l x3897) (fun (t : Unit) => (spec_NestedOk_n16_l x3897)) (fun (t : Bool) => t) (by
  rintro t
  · kernel_rfl) (by
  rintro t f K h
  · exact h))

theorem spec_NestedOk_n18_l (x3897 : List Int) : Link spec_NestedOk_ctx LL (bodyOf Tryd.f31) spec_NestedOk_an (⟨mkE 22 0 [(0, .dat (.list (.int .i64)) x3897)], []⟩ : St) (spec_NestedOk_n18 x3897) (fun (t : Bool) => (Exit.ret, (⟨mkE 22 0 [(2, .dat .bool t)], []⟩ : St))) := by
  unfold spec_NestedOk_n18
  exact Link.cast (by kernel_rfl) (by kernel_rfl) (link_seq (b := (Code.snd (bodyOf Tryd.f31))) (y := (Ann.snd spec_NestedOk_an)) (spec_NestedOk_n1_l x3897) (fun (t : Unit) => (spec_NestedOk_n17_l x3897)))

theorem spec_NestedOk_e (x3897 : List Int) {r : AV} {H' : Heap} (h : (Ans.mk _ (spec_NestedOk x3897) (fun (t : Bool) => (.dat .bool t, []))).run = some (r, H')) : Awp spec_NestedOk_ctx LL (bodyOf Tryd.f31) spec_NestedOk_an (⟨mkE 22 0 [(0, .dat (.list (.int .i64)) x3897)], []⟩ : St) (Ret (tlook tys) Tryd.f31.results.toList r H') :=
  ret_of' (spec_NestedOk_n18_l x3897) (by unfold spec_NestedOk; kernel_rfl) (by
  intro t
  exact ret_mk [.dat .bool t] (by kernel_rfl) (by kernel_rfl) (by kernel_rfl) (by kernel_rfl)) h

def F_spec_NestedOk : Fun := fun avs H =>
  match avs, H with
  | [.dat (.list (.int .i64)) x3897], [] => ⟨_, spec_NestedOk x3897, fun (t : Bool) => (.dat .bool t, [])⟩
  | _, _ => Ans.no

theorem spec_NestedOk_sound : Sound Tryd.prog 31 F_spec_NestedOk := by
  refine fn_sound' (C := spec_NestedOk_ctx) (c := bodyOf Tryd.f31) (cok_of tys_ok (List.forall_mem_cons.2 ⟨spec_TurnsOk_sound, List.forall_mem_cons.2 ⟨spec_TreeOk_sound, by simp⟩⟩) (List.forall_mem_cons.2 ⟨Tryd.call27, List.forall_mem_cons.2 ⟨Tryd.call32, by simp⟩⟩) (by kernel_rfl)) Tryd.func31 (by kernel_rfl) LL spec_NestedOk_an ?_
  intro avs H r H' h
  unfold F_spec_NestedOk at h
  split at h
  · refine Awp.cast ?_ ?_ ?_ (spec_NestedOk_e _ h) <;> kernel_rfl
  · simp [Ans.no, Ans.run] at h


/-! loop.example/headtrees/laws.toIntS -/

def laws_toIntS_an : Ann := (.seq (.leaf [0]) (.seq (.leaf [0, 3]) (.seq (.seq (.leaf [0, 3, 4]) (.block (.loop (.seq (.seq (.leaf [0, 3, 4, 11]) (.cond (.leaf [0, 3, 4]) (.leaf [3]))) (.seq (.block (.leaf [0, 3, 4])) (.leaf [0, 3, 4])))))) (.seq (.leaf [2]) (.leaf [2])))))

noncomputable def laws_toIntS_ctx : Ctx := ⟨tlook tys, olook [], ioF, 0, false⟩

theorem laws_toIntS_n1_l (x4708 : List Int) : Link laws_toIntS_ctx LL (Code.seq (Code.fst (bodyOf Tryd.f37)) (Code.fst (Code.snd (bodyOf Tryd.f37)))) (Ann.seq (Ann.fst laws_toIntS_an) (Ann.fst (Ann.snd laws_toIntS_an))) (⟨mkE 22 0 [(0, .dat (.list (.int .i64)) x4708)], []⟩ : St) (laws_toIntS_n1 x4708) (fun (t : (List Int)) => (Exit.normal, (⟨mkE 22 0 [(0, .dat (.list (.int .i64)) x4708), (3, .slc 0)], [some (.seq (.int .i64) t)]⟩ : St))) := by
  refine Link.of fun K h => ?_
  simp only [laws_toIntS_n1, wpO_bind, wpO_cond, wpO_map, wpO_some] at h
  exact Awp.of (by kernel_rfl) h

theorem laws_toIntS_n2_l (x4708 : List Int) (x4711 : List Int) : Link laws_toIntS_ctx LL (Code.fst (Code.fst (Code.snd (Code.snd (bodyOf Tryd.f37))))) (Ann.fst (Ann.fst (Ann.snd (Ann.snd laws_toIntS_an)))) (⟨mkE 22 0 [(0, .dat (.list (.int .i64)) x4708), (3, .slc 0)], [some (.seq (.int .i64) x4711)]⟩ : St) (laws_toIntS_n2) (fun (t : Unit) => (Exit.normal, (⟨mkE 22 0 [(0, .dat (.list (.int .i64)) x4708), (3, .slc 0), (4, .dat (.int .i64) 0)], [some (.seq (.int .i64) x4711)]⟩ : St))) := by
  refine Link.of fun K h => ?_
  simp only [laws_toIntS_n2, wpO_bind, wpO_cond, wpO_map, wpO_some] at h
  exact Awp.of (by kernel_rfl) h

theorem laws_toIntS_n3_l (x4708 : List Int) (x4725 : Int) (x4726 : List Int) : Link laws_toIntS_ctx LL (Code.fst (Code.fst (Code.snd (Code.fst (Code.snd (Code.snd (bodyOf Tryd.f37))))))) (Ann.fst (Ann.fst (Ann.snd (Ann.fst (Ann.snd (Ann.snd laws_toIntS_an)))))) (⟨mkE 22 0 [(0, .dat (.list (.int .i64)) x4708), (3, .slc 0), (4, .dat (.int .i64) x4725)], [some (.seq (.int .i64) x4726)]⟩ : St) (laws_toIntS_n3 x4708 x4725 x4726) (Sum.elim (fun (t : Int × (List Int)) => (Exit.normal, (⟨mkE 22 0 [(0, .dat (.list (.int .i64)) x4708), (3, .slc 0), (4, .dat (.int .i64) t.1)], [some (.seq (.int .i64) t.2)]⟩ : St))) (fun (t : (List Int)) => ((Exit.exit 0), (⟨mkE 22 0 [(3, .slc 0)], [some (.seq (.int .i64) t)]⟩ : St)))) := by
  refine Link.of fun K h => ?_
  simp only [laws_toIntS_n3, wpO_bind, wpO_cond, wpO_map, wpO_some] at h
  exact Awp.of (by kernel_rfl) h

theorem laws_toIntS_n4_l (x4708 : List Int) (x4711 : List Int) : Link laws_toIntS_ctx LL (Code.fst (Code.snd (Code.fst (Code.snd (Code.snd (bodyOf Tryd.f37)))))) (Ann.fst (Ann.snd (Ann.fst (Ann.snd (Ann.snd laws_toIntS_an))))) (⟨mkE 22 0 [(0, .dat (.list (.int .i64)) x4708), (3, .slc 0), (4, .dat (.int .i64) 0)], [some (.seq (.int .i64) x4711)]⟩ : St) (laws_toIntS_n4 x4708 x4711) (fun (t : (List Int)) => ((Exit.exit 0), (⟨mkE 22 0 [(3, .slc 0)], [some (.seq (.int .i64) t)]⟩ : St))) := by
  unfold laws_toIntS_n4
  exact Link.cast (by kernel_rfl) (by kernel_rfl) (link_loop (mk := fun (s : Int × (List Int)) => (⟨mkE 22 0 [(0, .dat (.list (.int .i64)) x4708), (3, .slc 0), (4, .dat (.int .i64) s.1)], [some (.seq (.int .i64) s.2)]⟩ : St)) (fin := (fun (t : (List Int)) => ((Exit.exit 0), (⟨mkE 22 0 [(3, .slc 0)], [some (.seq (.int .i64) t)]⟩ : St)))) (by
  rintro t f K h
  · exact h) (fun s => link_map (laws_toIntS_n3_l x4708 s.1 s.2) (Sum.elim (fun (t : Int × (List Int)) => Sum.inl (t.1, t.2)) (fun (t : (List Int)) => Sum.inr t)) (by
  rintro (t | t)
  · kernel_rfl
  · kernel_rfl)) (0, x4711))

theorem laws_toIntS_n5_l (x4708 : List Int) (x4711 : List Int) : Link laws_toIntS_ctx LL (Code.snd (Code.fst (Code.snd (Code.snd (bodyOf Tryd.f37))))) (Ann.snd (Ann.fst (Ann.snd (Ann.snd laws_toIntS_an)))) (⟨mkE 22 0 [(0, .dat (.list (.int .i64)) x4708), (3, .slc 0), (4, .dat (.int .i64) 0)], [some (.seq (.int .i64) x4711)]⟩ : St) (laws_toIntS_n5 x4708 x4711) (fun (t : (List Int)) => (Exit.normal, (⟨mkE 22 0 [(3, .slc 0)], [some (.seq (.int .i64) t)]⟩ : St))) := by
  unfold laws_toIntS_n5
  exact Link.cast (by kernel_rfl) (by kernel_rfl) (link_block (id := 0) (laws_toIntS_n4_l x4708 x4711) (fun (t : (List Int)) => t) (by
  rintro t K h
  · exact Eq.mp (by kernel_rfl) h))

theorem laws_toIntS_n6_l (x4708 : List Int) (x4711 : List Int) : Link laws_toIntS_ctx LL (Code.fst (Code.snd (Code.snd (bodyOf Tryd.f37)))) (Ann.fst (Ann.snd (Ann.snd laws_toIntS_an))) (⟨mkE 22 0 [(0, .dat (.list (.int .i64)) x4708), (3, .slc 0)], [some (.seq (.int .i64) x4711)]⟩ : St) (laws_toIntS_n6 x4708 x4711) (fun (t : (List Int)) => (Exit.normal, (⟨mkE 22 0 [(3, .slc 0)], [some (.seq (.int .i64) t)]⟩ : St))) := by
  unfold laws_toIntS_n6
  exact Link.cast (by kernel_rfl) (by kernel_rfl) (link_seq (b := (Code.snd (Code.fst (Code.snd (Code.snd (bodyOf Tryd.f37)))))) (y := (Ann.snd (Ann.fst (Ann.snd (Ann.snd laws_toIntS_an))))) (laws_toIntS_n2_l x4708 x4711) (fun (t : Unit) => (laws_toIntS_n5_l x4708 x4711)))

theorem laws_toIntS_n7_l (x4726 : List Int) : Link laws_toIntS_ctx LL (Code.snd (Code.snd (Code.snd (bodyOf Tryd.f37)))) (Ann.snd (Ann.snd (Ann.snd laws_toIntS_an))) (⟨mkE 22 0 [(3, .slc 0)], [some (.seq (.int .i64) x4726)]⟩ : St) (laws_toIntS_n7 x4726) (fun (t : (List Int)) => (Exit.ret, (⟨mkE 22 0 [(2, .slc 0)], [some (.seq (.int .i64) t)]⟩ : St))) := by
  refine Link.of fun K h => ?_
  simp only [laws_toIntS_n7, wpO_bind, wpO_cond, wpO_map, wpO_some] at h
  exact Awp.of (by kernel_rfl) h

theorem laws_toIntS_n8_l (x4708 : List Int) (x4711 : List Int) : Link laws_toIntS_ctx LL (Code.snd (Code.snd (bodyOf Tryd.f37))) (Ann.snd (Ann.snd laws_toIntS_an)) (⟨mkE 22 0 [(0, .dat (.list (.int .i64)) x4708), (3, .slc 0)], [some (.seq (.int .i64) x4711)]⟩ : St) (laws_toIntS_n8 x4708 x4711) (fun (t : (List Int)) => (Exit.ret, (⟨mkE 22 0 [(2, .slc 0)], [some (.seq (.int .i64) t)]⟩ : St))) := by
  unfold laws_toIntS_n8
  exact Link.cast (by kernel_rfl) (by kernel_rfl) (link_seq (b := (Code.snd (Code.snd (Code.snd (bodyOf Tryd.f37))))) (y := (Ann.snd (Ann.snd (Ann.snd laws_toIntS_an)))) (laws_toIntS_n6_l x4708 x4711) (fun (t : (List Int)) => (laws_toIntS_n7_l t)))

theorem laws_toIntS_n9_l (x4708 : List Int) : Link laws_toIntS_ctx LL (bodyOf Tryd.f37) laws_toIntS_an (⟨mkE 22 0 [(0, .dat (.list (.int .i64)) x4708)], []⟩ : St) (laws_toIntS_n9 x4708) (fun (t : (List Int)) => (Exit.ret, (⟨mkE 22 0 [(2, .slc 0)], [some (.seq (.int .i64) t)]⟩ : St))) := by
  unfold laws_toIntS_n9
  exact Link.cast (by kernel_rfl) (by kernel_rfl) (link_group (c := (Code.fst (Code.snd (bodyOf Tryd.f37)))) (a := (Ann.fst (Ann.snd laws_toIntS_an))) [(Code.fst (bodyOf Tryd.f37))] [(Ann.fst laws_toIntS_an)] rfl (link_seq (b := (Code.snd (Code.snd (bodyOf Tryd.f37)))) (y := (Ann.snd (Ann.snd laws_toIntS_an))) (laws_toIntS_n1_l x4708) (fun (t : (List Int)) => (laws_toIntS_n8_l x4708 t))))

theorem laws_toIntS_e (x4708 : List Int) {r : AV} {H' : Heap} (h : (Ans.mk _ (laws_toIntS x4708) (fun (t : (List Int)) => (.slc 0, [some (.seq (.int .i64) t)]))).run = some (r, H')) : Awp laws_toIntS_ctx LL (bodyOf Tryd.f37) laws_toIntS_an (⟨mkE 22 0 [(0, .dat (.list (.int .i64)) x4708)], []⟩ : St) (Ret (tlook tys) Tryd.f37.results.toList r H') :=
  ret_of' (laws_toIntS_n9_l x4708) (by unfold laws_toIntS; kernel_rfl) (by
  intro t
  exact ret_mk [.slc 0] (by kernel_rfl) (by kernel_rfl) (by kernel_rfl) (by kernel_rfl)) h

def F_laws_toIntS : Fun := fun avs H =>
  match avs, H with
  | [.dat (.list (.int .i64)) x4708], [] => ⟨_, laws_toIntS x4708, fun (t : (List Int)) => (.slc 0, [some (.seq (.int .i64) t)])⟩
  | _, _ => Ans.no

theorem laws_toIntS_sound : Sound Tryd.prog 37 F_laws_toIntS := by
  refine fn_sound' (C := laws_toIntS_ctx) (c := bodyOf Tryd.f37) (cok_of tys_ok (by simp) (by simp) (by kernel_rfl)) Tryd.func37 (by kernel_rfl) LL laws_toIntS_an ?_
  intro avs H r H' h
  unfold F_laws_toIntS at h
  split at h
  · refine Awp.cast ?_ ?_ ?_ (laws_toIntS_e _ h) <;> kernel_rfl
  · simp [Ans.no, Ans.run] at h


/-! loop.example/headtrees/laws.eqIntS -/

def laws_eqIntS_an : Ann := (.seq (.leaf [0, 1]) (.seq (.seq (.leaf [0, 1, 10]) (.cond (.seq (.leaf [4]) (.leaf [4])) (.leaf [0, 1]))) (.seq (.seq (.leaf [0, 1, 5]) (.block (.loop (.seq (.seq (.leaf [0, 1, 5, 14]) (.cond (.leaf [0, 1, 5]) (.leaf []))) (.seq (.block (.seq (.draw [] [0, 1, 2, 3, 4, 5, 6, 7, 8] [] [0, 1, 5, 25]) (.cond (.seq (.leaf [4]) (.leaf [4])) (.leaf [0, 1, 5])))) (.leaf [0, 1, 5])))))) (.seq (.leaf [4]) (.leaf [4])))))

noncomputable def laws_eqIntS_ctx : Ctx := ⟨tlook tys, olook [], ioF, 0, false⟩

theorem laws_eqIntS_n1_l (x4768 : List Int) (x4769 : List Int) : Link laws_eqIntS_ctx LL (Code.seq (Code.fst (bodyOf Tryd.f38)) (Code.fst (Code.snd (bodyOf Tryd.f38)))) (Ann.seq (Ann.fst laws_eqIntS_an) (Ann.fst (Ann.snd laws_eqIntS_an))) (⟨mkE 26 0 [(0, .dat (.list (.int .i64)) x4768), (1, .dat (.list (.int .i64)) x4769)], []⟩ : St) (laws_eqIntS_n1 x4768 x4769) (Sum.elim (fun (t : Unit) => (Exit.normal, (⟨mkE 26 0 [(0, .dat (.list (.int .i64)) x4768), (1, .dat (.list (.int .i64)) x4769)], []⟩ : St))) (fun (t : Bool) => (Exit.ret, (⟨mkE 26 0 [(4, .dat .bool t)], []⟩ : St)))) := by
  refine Link.of fun K h => ?_
  simp only [laws_eqIntS_n1, wpO_bind, wpO_cond, wpO_map, wpO_some] at h
  exact Awp.of (by kernel_rfl) h

theorem laws_eqIntS_n2_l (x4768 : List Int) (x4769 : List Int) : Link laws_eqIntS_ctx LL (Code.fst (Code.fst (Code.snd (Code.snd (bodyOf Tryd.f38))))) (Ann.fst (Ann.fst (Ann.snd (Ann.snd laws_eqIntS_an)))) (⟨mkE 26 0 [(0, .dat (.list (.int .i64)) x4768), (1, .dat (.list (.int .i64)) x4769)], []⟩ : St) (laws_eqIntS_n2) (fun (t : Unit) => (Exit.normal, (⟨mkE 26 0 [(0, .dat (.list (.int .i64)) x4768), (1, .dat (.list (.int .i64)) x4769), (5, .dat (.int .i64) 0)], []⟩ : St))) := by
  refine Link.of fun K h => ?_
  simp only [laws_eqIntS_n2, wpO_bind, wpO_cond, wpO_map, wpO_some] at h
  exact Awp.of (by kernel_rfl) h

theorem laws_eqIntS_n3_l (x4768 : List Int) (x4769 : List Int) (x4786 : Int) : Link laws_eqIntS_ctx LL (Code.fst (Code.fst (Code.snd (Code.fst (Code.snd (Code.snd (bodyOf Tryd.f38))))))) (Ann.fst (Ann.fst (Ann.snd (Ann.fst (Ann.snd (Ann.snd laws_eqIntS_an)))))) (⟨mkE 26 0 [(0, .dat (.list (.int .i64)) x4768), (1, .dat (.list (.int .i64)) x4769), (5, .dat (.int .i64) x4786)], []⟩ : St) (laws_eqIntS_n3 x4768 x4769 x4786) (Sum.elim (fun (t : Int) => (Exit.normal, (⟨mkE 26 0 [(0, .dat (.list (.int .i64)) x4768), (1, .dat (.list (.int .i64)) x4769), (5, .dat (.int .i64) t)], []⟩ : St))) (Sum.elim (fun (t : Bool) => (Exit.ret, (⟨mkE 26 0 [(4, .dat .bool t)], []⟩ : St))) (fun (t : Unit) => ((Exit.exit 0), (⟨mkE 26 0 [], []⟩ : St))))) := by
  refine Link.of fun K h => ?_
  simp only [laws_eqIntS_n3, wpO_bind, wpO_cond, wpO_map, wpO_some] at h
  exact Awp.of (by kernel_rfl) h

theorem laws_eqIntS_n4_l (x4768 : List Int) (x4769 : List Int) : Link laws_eqIntS_ctx LL (Code.fst (Code.snd (Code.fst (Code.snd (Code.snd (bodyOf Tryd.f38)))))) (Ann.fst (Ann.snd (Ann.fst (Ann.snd (Ann.snd laws_eqIntS_an))))) (⟨mkE 26 0 [(0, .dat (.list (.int .i64)) x4768), (1, .dat (.list (.int .i64)) x4769), (5, .dat (.int .i64) 0)], []⟩ : St) (laws_eqIntS_n4 x4768 x4769) (Sum.elim (fun (t : Bool) => (Exit.ret, (⟨mkE 26 0 [(4, .dat .bool t)], []⟩ : St))) (fun (t : Unit) => ((Exit.exit 0), (⟨mkE 26 0 [], []⟩ : St)))) := by
  unfold laws_eqIntS_n4
  exact Link.cast (by kernel_rfl) (by kernel_rfl) (link_loop (mk := fun (s : Int) => (⟨mkE 26 0 [(0, .dat (.list (.int .i64)) x4768), (1, .dat (.list (.int .i64)) x4769), (5, .dat (.int .i64) s)], []⟩ : St)) (fin := (Sum.elim (fun (t : Bool) => (Exit.ret, (⟨mkE 26 0 [(4, .dat .bool t)], []⟩ : St))) (fun (t : Unit) => ((Exit.exit 0), (⟨mkE 26 0 [], []⟩ : St))))) (by
  rintro (t | t) f K h
  · exact h
  · exact h) (fun s => link_map (laws_eqIntS_n3_l x4768 x4769 s) (Sum.elim (fun (t : Int) => Sum.inl t) (Sum.elim (fun (t : Bool) => Sum.inr (Sum.inl t)) (fun (t : Unit) => Sum.inr (Sum.inr t)))) (by
  rintro (t | t | t)
  · kernel_rfl
  · kernel_rfl
  · kernel_rfl)) 0)

theorem laws_eqIntS_n5_l (x4768 : List Int) (x4769 : List Int) : Link laws_eqIntS_ctx LL (Code.snd (Code.fst (Code.snd (Code.snd (bodyOf Tryd.f38))))) (Ann.snd (Ann.fst (Ann.snd (Ann.snd laws_eqIntS_an)))) (⟨mkE 26 0 [(0, .dat (.list (.int .i64)) x4768), (1, .dat (.list (.int .i64)) x4769), (5, .dat (.int .i64) 0)], []⟩ : St) (laws_eqIntS_n5 x4768 x4769) (Sum.elim (fun (t : Unit) => (Exit.normal, (⟨mkE 26 0 [], []⟩ : St))) (fun (t : Bool) => (Exit.ret, (⟨mkE 26 0 [(4, .dat .bool t)], []⟩ : St)))) := by
  unfold laws_eqIntS_n5
  exact Link.cast (by kernel_rfl) (by kernel_rfl) (link_block (id := 0) (laws_eqIntS_n4_l x4768 x4769) (Sum.elim (fun (t : Bool) => (Sum.inr t)) (fun (t : Unit) => (Sum.inl ()))) (by
  rintro (t | t) K h
  · exact Eq.mp (by kernel_rfl) h
  · exact Eq.mp (by kernel_rfl) h))

theorem laws_eqIntS_n6_l (x4768 : List Int) (x4769 : List Int) : Link laws_eqIntS_ctx LL (Code.fst (Code.snd (Code.snd (bodyOf Tryd.f38)))) (Ann.fst (Ann.snd (Ann.snd laws_eqIntS_an))) (⟨mkE 26 0 [(0, .dat (.list (.int .i64)) x4768), (1, .dat (.list (.int .i64)) x4769)], []⟩ : St) (laws_eqIntS_n6 x4768 x4769) (Sum.elim (fun (t : Unit) => (Exit.normal, (⟨mkE 26 0 [], []⟩ : St))) (fun (t : Bool) => (Exit.ret, (⟨mkE 26 0 [(4, .dat .bool t)], []⟩ : St)))) := by
  unfold laws_eqIntS_n6
  exact Link.cast (by kernel_rfl) (by kernel_rfl) (link_seq (b := (Code.snd (Code.fst (Code.snd (Code.snd (bodyOf Tryd.f38)))))) (y := (Ann.snd (Ann.fst (Ann.snd (Ann.snd laws_eqIntS_an))))) (laws_eqIntS_n2_l x4768 x4769) (fun (t : Unit) => (laws_eqIntS_n5_l x4768 x4769)))

theorem laws_eqIntS_n7_l : Link laws_eqIntS_ctx LL (Code.snd (Code.snd (Code.snd (bodyOf Tryd.f38)))) (Ann.snd (Ann.snd (Ann.snd laws_eqIntS_an))) (⟨mkE 26 0 [], []⟩ : St) (laws_eqIntS_n7) (fun (t : Bool) => (Exit.ret, (⟨mkE 26 0 [(4, .dat .bool t)], []⟩ : St))) := by
  refine Link.of fun K h => ?_
  simp only [laws_eqIntS_n7, wpO_bind, wpO_cond, wpO_map, wpO_some] at h
  exact Awp.of (by kernel_rfl) h

theorem laws_eqIntS_n8_l (x4768 : List Int) (x4769 : List Int) : Link laws_eqIntS_ctx LL (Code.snd (Code.snd (bodyOf Tryd.f38))) (Ann.snd (Ann.snd laws_eqIntS_an)) (⟨mkE 26 0 [(0, .dat (.list (.int .i64)) x4768), (1, .dat (.list (.int .i64)) x4769)], []⟩ : St) (laws_eqIntS_n8 x4768 x4769) (fun (t : Bool) => (Exit.ret, (⟨mkE 26 0 [(4, .dat .bool t)], []⟩ : St))) := by
  unfold laws_eqIntS_n8
  exact Link.cast (by kernel_rfl) (by kernel_rfl) (link_seq2 (b := (Code.snd (Code.snd (Code.snd (bodyOf Tryd.f38))))) (y := (Ann.snd (Ann.snd (Ann.snd laws_eqIntS_an)))) (laws_eqIntS_n6_l x4768 x4769) (fun (t : Unit) => (laws_eqIntS_n7_l)) (fun (t : Bool) => t) (by
  rintro t
  · kernel_rfl) (by
  rintro t f K h
  · exact h))

theorem laws_eqIntS_n9_l (x4768 : List Int) (x4769 : List Int) : Link laws_eqIntS_ctx LL (bodyOf Tryd.f38) laws_eqIntS_an (⟨mkE 26 0 [(0, .dat (.list (.int .i64)) x4768), (1, .dat (.list (.int .i64)) x4769)], []⟩ : St) (laws_eqIntS_n9 x4768 x4769) (fun (t : Bool) => (Exit.ret, (⟨mkE 26 0 [(4, .dat .bool t)], []⟩ : St))) := by
  unfold laws_eqIntS_n9
  exact Link.cast (by kernel_rfl) (by kernel_rfl) (link_group (c := (Code.fst (Code.snd (bodyOf Tryd.f38)))) (a := (Ann.fst (Ann.snd laws_eqIntS_an))) [(Code.fst (bodyOf Tryd.f38))] [(Ann.fst laws_eqIntS_an)] rfl (link_seq2 (b := (Code.snd (Code.snd (bodyOf Tryd.f38)))) (y := (Ann.snd (Ann.snd laws_eqIntS_an))) (laws_eqIntS_n1_l x4768 x4769) (fun (t : Unit) => (laws_eqIntS_n8_l x4768 x4769)) (fun (t : Bool) => t) (by
  rintro t
  · kernel_rfl) (by
  rintro t f K h
  · exact h)))

theorem laws_eqIntS_e (x4768 : List Int) (x4769 : List Int) {r : AV} {H' : Heap} (h : (Ans.mk _ (laws_eqIntS x4768 x4769) (fun (t : Bool) => (.dat .bool t, []))).run = some (r, H')) : Awp laws_eqIntS_ctx LL (bodyOf Tryd.f38) laws_eqIntS_an (⟨mkE 26 0 [(0, .dat (.list (.int .i64)) x4768), (1, .dat (.list (.int .i64)) x4769)], []⟩ : St) (Ret (tlook tys) Tryd.f38.results.toList r H') :=
  ret_of' (laws_eqIntS_n9_l x4768 x4769) (by unfold laws_eqIntS; kernel_rfl) (by
  intro t
  exact ret_mk [.dat .bool t] (by kernel_rfl) (by kernel_rfl) (by kernel_rfl) (by kernel_rfl)) h

def F_laws_eqIntS : Fun := fun avs H =>
  match avs, H with
  | [.dat (.list (.int .i64)) x4768, .dat (.list (.int .i64)) x4769], [] => ⟨_, laws_eqIntS x4768 x4769, fun (t : Bool) => (.dat .bool t, [])⟩
  | _, _ => Ans.no

theorem laws_eqIntS_sound : Sound Tryd.prog 38 F_laws_eqIntS := by
  refine fn_sound' (C := laws_eqIntS_ctx) (c := bodyOf Tryd.f38) (cok_of tys_ok (by simp) (by simp) (by kernel_rfl)) Tryd.func38 (by kernel_rfl) LL laws_eqIntS_an ?_
  intro avs H r H' h
  unfold F_laws_eqIntS at h
  split at h
  · refine Awp.cast ?_ ?_ ?_ (laws_eqIntS_e _ _ h) <;> kernel_rfl
  · simp [Ans.no, Ans.run] at h


/-! loop.example/headtrees/laws.FnExactNestedOk -/

def laws_FnExactNestedOk_an : Ann := (.seq (.leaf [0]) (.seq (.seq (.leaf [0, 8]) (.cond (.seq (.leaf [2]) (.leaf [2])) (.leaf [0]))) (.seq (.leaf [0, 3]) (.seq (.leaf [0, 3, 4]) (.seq (.leaf [0, 3, 4, 5]) (.seq (.seq (.leaf [0, 4, 18]) (.cond (.seq (.leaf [2]) (.leaf [2])) (.leaf [0, 4]))) (.seq (.seq (.leaf [23]) (.cond (.seq (.leaf [2]) (.leaf [2])) (.leaf []))) (.seq (.leaf [2]) (.leaf [2])))))))))

noncomputable def laws_FnExactNestedOk_ctx : Ctx := ⟨tlook tys, olook [(37, F_laws_toIntS), (31, F_spec_NestedOk), (30, F_impl_NestedOk), (38, F_laws_eqIntS)], ioF, 0, false⟩

theorem laws_FnExactNestedOk_n1_l (x4882 : List Int) : Link laws_FnExactNestedOk_ctx LL (bodyOf Tryd.f10) laws_FnExactNestedOk_an (⟨mkE 24 0 [(0, .dat (.list (.int .i64)) x4882)], []⟩ : St) (laws_FnExactNestedOk_n1 x4882) (fun (t : Bool) => (Exit.ret, (⟨mkE 24 0 [(2, .dat .bool t)], []⟩ : St))) := by
  refine Link.of fun K h => ?_
  simp only [laws_FnExactNestedOk_n1, wpO_bind, wpO_cond, wpO_map, wpO_some] at h
  exact Awp.of (by kernel_rfl) h

theorem laws_FnExactNestedOk_e (x4882 : List Int) {r : AV} {H' : Heap} (h : (Ans.mk _ (laws_FnExactNestedOk x4882) (fun (t : Bool) => (.dat .bool t, []))).run = some (r, H')) : Awp laws_FnExactNestedOk_ctx LL (bodyOf Tryd.f10) laws_FnExactNestedOk_an (⟨mkE 24 0 [(0, .dat (.list (.int .i64)) x4882)], []⟩ : St) (Ret (tlook tys) Tryd.f10.results.toList r H') :=
  ret_of' (laws_FnExactNestedOk_n1_l x4882) (by unfold laws_FnExactNestedOk; kernel_rfl) (by
  intro t
  exact ret_mk [.dat .bool t] (by kernel_rfl) (by kernel_rfl) (by kernel_rfl) (by kernel_rfl)) h

def F_laws_FnExactNestedOk : Fun := fun avs H =>
  match avs, H with
  | [.dat (.list (.int .i64)) x4882], [] => ⟨_, laws_FnExactNestedOk x4882, fun (t : Bool) => (.dat .bool t, [])⟩
  | _, _ => Ans.no

theorem laws_FnExactNestedOk_sound : Sound Tryd.prog 10 F_laws_FnExactNestedOk := by
  refine fn_sound' (C := laws_FnExactNestedOk_ctx) (c := bodyOf Tryd.f10) (cok_of tys_ok (List.forall_mem_cons.2 ⟨laws_toIntS_sound, List.forall_mem_cons.2 ⟨spec_NestedOk_sound, List.forall_mem_cons.2 ⟨impl_NestedOk_sound, List.forall_mem_cons.2 ⟨laws_eqIntS_sound, by simp⟩⟩⟩⟩) (List.forall_mem_cons.2 ⟨Tryd.call37, List.forall_mem_cons.2 ⟨Tryd.call31, List.forall_mem_cons.2 ⟨Tryd.call30, List.forall_mem_cons.2 ⟨Tryd.call38, by simp⟩⟩⟩⟩) (by kernel_rfl)) Tryd.func10 (by kernel_rfl) LL laws_FnExactNestedOk_an ?_
  intro avs H r H' h
  unfold F_laws_FnExactNestedOk at h
  split at h
  · refine Awp.cast ?_ ?_ ?_ (laws_FnExactNestedOk_e _ h) <;> kernel_rfl
  · simp [Ans.no, Ans.run] at h

end Go.Rv
