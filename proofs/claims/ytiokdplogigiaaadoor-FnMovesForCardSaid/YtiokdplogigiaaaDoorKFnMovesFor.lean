/-
  The checked code answers as the plain functions do; written by program. Conditions: none.
-/
import Derived.Test.YtiokdplogigiaaaDoorKFnMovesFora
set_option linter.unusedVariables false
set_option linter.unusedSimpArgs false
set_option maxRecDepth 100000
namespace Go.Rv
open Go.Proofs
/-! loop.example/headtrees/spec.TreeOk -/

def spec_TreeOk_an : Ann := (.seq (.leaf [0]) (.seq (.leaf [0, 3]) (.seq (.seq (.leaf [0, 3, 12]) (.cond (.seq (.leaf [2]) (.leaf [2])) (.leaf [0, 3]))) (.seq (.leaf [0, 3, 4]) (.seq (.seq (.leaf [0, 3, 4, 5]) (.block (.loop (.seq (.seq (.leaf [0, 3, 4, 5, 15]) (.cond (.leaf [0, 3, 4, 5]) (.leaf [4]))) (.seq (.block (.seq (.seq (.leaf [0, 3, 4, 5, 33]) (.cond (.seq (.leaf [2]) (.leaf [2])) (.leaf [0, 3, 4, 5]))) (.seq (.seq (.leaf [0, 3, 4, 5, 38]) (.cond (.leaf [0, 3, 4, 5]) (.leaf [0, 3, 4, 5]))) (.seq (.leaf [0, 3, 4, 5, 6]) (.seq (.seq (.leaf [0, 3, 4, 5, 6, 7]) (.block (.loop (.seq (.seq (.leaf [0, 3, 4, 5, 6, 7, 49]) (.cond (.leaf [0, 3, 4, 5, 6, 7]) (.leaf [0, 3, 4, 5, 6]))) (.seq (.block (.seq (.leaf [0, 3, 4, 5, 6, 7]) (.seq (.leaf [0, 3, 4, 5, 6, 7, 60]) (.cond (.seq (.leaf [2]) (.leaf [2])) (.leaf [0, 3, 4, 5, 6, 7]))))) (.leaf [0, 3, 4, 5, 6, 7])))))) (.seq (.leaf [0, 3, 4, 5, 62]) (.cond (.seq (.leaf [2]) (.leaf [2])) (.leaf [0, 3, 4, 5])))))))) (.leaf [0, 3, 4, 5])))))) (.seq (.leaf [2]) (.leaf [2])))))))

noncomputable def spec_TreeOk_ctx : Ctx := ⟨tlook tys, olook [(30, F_spec_l1In)], ioF, 0, false, []⟩

theorem spec_TreeOk_n1_l (x5097 : List Int) : Link spec_TreeOk_ctx LL (Code.seq (Code.fst (bodyOf Tryd.f65)) (Code.seq (Code.fst (Code.snd (bodyOf Tryd.f65))) (Code.seq (Code.fst (Code.snd (Code.snd (bodyOf Tryd.f65)))) (Code.fst (Code.snd (Code.snd (Code.snd (bodyOf Tryd.f65)))))))) (Ann.seq (Ann.fst spec_TreeOk_an) (Ann.seq (Ann.fst (Ann.snd spec_TreeOk_an)) (Ann.seq (Ann.fst (Ann.snd (Ann.snd spec_TreeOk_an))) (Ann.fst (Ann.snd (Ann.snd (Ann.snd spec_TreeOk_an))))))) (⟨mkE 65 0 [(0, .dat (.list (.int .i64)) x5097)], []⟩ : St) (spec_TreeOk_n1 x5097) (Sum.elim (fun (t : Int) => (Exit.normal, (⟨mkE 65 0 [(0, .dat (.list (.int .i64)) x5097), (3, .dat (.int .i64) t), (4, .dat (.int .i64) 0)], []⟩ : St))) (fun (t : Bool) => (Exit.ret, (⟨mkE 65 0 [(2, .dat .bool t)], []⟩ : St)))) := by
  refine Link.of fun K h => ?_
  simp only [spec_TreeOk_n1, wpO_bind, wpO_cond, wpO_map, wpO_some] at h
  exact Awp.of (by kernel_rfl) h

theorem spec_TreeOk_n2_l (x5097 : List Int) (x5102 : Int) : Link spec_TreeOk_ctx LL (Code.fst (Code.fst (Code.snd (Code.snd (Code.snd (Code.snd (bodyOf Tryd.f65))))))) (Ann.fst (Ann.fst (Ann.snd (Ann.snd (Ann.snd (Ann.snd spec_TreeOk_an)))))) (⟨mkE 65 0 [(0, .dat (.list (.int .i64)) x5097), (3, .dat (.int .i64) x5102), (4, .dat (.int .i64) 0)], []⟩ : St) (spec_TreeOk_n2) (fun (t : Unit) => (Exit.normal, (⟨mkE 65 0 [(0, .dat (.list (.int .i64)) x5097), (3, .dat (.int .i64) x5102), (4, .dat (.int .i64) 0), (5, .dat (.int .i64) 0)], []⟩ : St))) := by
  refine Link.of fun K h => ?_
  simp only [spec_TreeOk_n2, wpO_bind, wpO_cond, wpO_map, wpO_some] at h
  exact Awp.of (by kernel_rfl) h

theorem spec_TreeOk_n3_l (x5097 : List Int) (x5102 : Int) (x5169 : Int) (x5170 : Int) : Link spec_TreeOk_ctx LL (Code.fst (Code.fst (Code.fst (Code.snd (Code.fst (Code.snd (Code.snd (Code.snd (Code.snd (bodyOf Tryd.f65)))))))))) (Ann.fst (Ann.fst (Ann.fst (Ann.snd (Ann.fst (Ann.snd (Ann.snd (Ann.snd (Ann.snd spec_TreeOk_an))))))))) (⟨mkE 65 0 [(0, .dat (.list (.int .i64)) x5097), (3, .dat (.int .i64) x5102), (4, .dat (.int .i64) x5169), (5, .dat (.int .i64) x5170)], []⟩ : St) (spec_TreeOk_n3 x5102 x5169 x5170) (Sum.elim (fun (t : Unit) => (Exit.normal, (⟨mkE 65 0 [(0, .dat (.list (.int .i64)) x5097), (3, .dat (.int .i64) x5102), (4, .dat (.int .i64) x5169), (5, .dat (.int .i64) x5170)], []⟩ : St))) (fun (t : Int) => ((Exit.exit 0), (⟨mkE 65 0 [(4, .dat (.int .i64) t)], []⟩ : St)))) := by
  refine Link.of fun K h => ?_
  simp only [spec_TreeOk_n3, wpO_bind, wpO_cond, wpO_map, wpO_some] at h
  exact Awp.of (by kernel_rfl) h

theorem spec_TreeOk_n4_l (x5097 : List Int) (x5102 : Int) (x5169 : Int) (x5170 : Int) : Link spec_TreeOk_ctx LL (Code.seq (Code.fst (Code.fst (Code.fst (Code.snd (Code.fst (Code.fst (Code.snd (Code.fst (Code.snd (Code.snd (Code.snd (Code.snd (bodyOf Tryd.f65))))))))))))) (Code.seq (Code.fst (Code.snd (Code.fst (Code.fst (Code.snd (Code.fst (Code.fst (Code.snd (Code.fst (Code.snd (Code.snd (Code.snd (Code.snd (bodyOf Tryd.f65)))))))))))))) (Code.fst (Code.snd (Code.snd (Code.fst (Code.fst (Code.snd (Code.fst (Code.fst (Code.snd (Code.fst (Code.snd (Code.snd (Code.snd (Code.snd (bodyOf Tryd.f65))))))))))))))))) (Ann.seq (Ann.fst (Ann.fst (Ann.fst (Ann.snd (Ann.fst (Ann.fst (Ann.snd (Ann.fst (Ann.snd (Ann.snd (Ann.snd (Ann.snd spec_TreeOk_an)))))))))))) (Ann.seq (Ann.fst (Ann.snd (Ann.fst (Ann.fst (Ann.snd (Ann.fst (Ann.fst (Ann.snd (Ann.fst (Ann.snd (Ann.snd (Ann.snd (Ann.snd spec_TreeOk_an))))))))))))) (Ann.fst (Ann.snd (Ann.snd (Ann.fst (Ann.fst (Ann.snd (Ann.fst (Ann.fst (Ann.snd (Ann.fst (Ann.snd (Ann.snd (Ann.snd (Ann.snd spec_TreeOk_an)))))))))))))))) (⟨mkE 65 0 [(0, .dat (.list (.int .i64)) x5097), (3, .dat (.int .i64) x5102), (4, .dat (.int .i64) x5169), (5, .dat (.int .i64) x5170)], []⟩ : St) (spec_TreeOk_n4 x5097 x5102 x5169 x5170) (Sum.elim (fun (t : Int × Int) => (Exit.normal, (⟨mkE 65 0 [(0, .dat (.list (.int .i64)) x5097), (3, .dat (.int .i64) x5102), (4, .dat (.int .i64) t.1), (5, .dat (.int .i64) x5170), (6, .dat (.int .i64) t.2)], []⟩ : St))) (fun (t : Bool) => (Exit.ret, (⟨mkE 65 0 [(2, .dat .bool t)], []⟩ : St)))) := by
  refine Link.of fun K h => ?_
  simp only [spec_TreeOk_n4, wpO_bind, wpO_cond, wpO_map, wpO_some] at h
  exact Awp.of (by kernel_rfl) h

theorem spec_TreeOk_n5_l (x5097 : List Int) (x5102 : Int) (x5198 : Int) (x5170 : Int) (x5199 : Int) : Link spec_TreeOk_ctx LL (Code.fst (Code.fst (Code.snd (Code.snd (Code.snd (Code.fst (Code.fst (Code.snd (Code.fst (Code.fst (Code.snd (Code.fst (Code.snd (Code.snd (Code.snd (Code.snd (bodyOf Tryd.f65))))))))))))))))) (Ann.fst (Ann.fst (Ann.snd (Ann.snd (Ann.snd (Ann.fst (Ann.fst (Ann.snd (Ann.fst (Ann.fst (Ann.snd (Ann.fst (Ann.snd (Ann.snd (Ann.snd (Ann.snd spec_TreeOk_an)))))))))))))))) (⟨mkE 65 0 [(0, .dat (.list (.int .i64)) x5097), (3, .dat (.int .i64) x5102), (4, .dat (.int .i64) x5198), (5, .dat (.int .i64) x5170), (6, .dat (.int .i64) x5199)], []⟩ : St) (spec_TreeOk_n5) (fun (t : Unit) => (Exit.normal, (⟨mkE 65 0 [(0, .dat (.list (.int .i64)) x5097), (3, .dat (.int .i64) x5102), (4, .dat (.int .i64) x5198), (5, .dat (.int .i64) x5170), (6, .dat (.int .i64) x5199), (7, .dat (.int .i64) 0)], []⟩ : St))) := by
  refine Link.of fun K h => ?_
  simp only [spec_TreeOk_n5, wpO_bind, wpO_cond, wpO_map, wpO_some] at h
  exact Awp.of (by kernel_rfl) h

theorem spec_TreeOk_n6_l (x5097 : List Int) (x5102 : Int) (x5198 : Int) (x5170 : Int) (x5215 : Int) (x5216 : Int) : Link spec_TreeOk_ctx LL (Code.fst (Code.fst (Code.snd (Code.fst (Code.snd (Code.snd (Code.snd (Code.fst (Code.fst (Code.snd (Code.fst (Code.fst (Code.snd (Code.fst (Code.snd (Code.snd (Code.snd (Code.snd (bodyOf Tryd.f65))))))))))))))))))) (Ann.fst (Ann.fst (Ann.snd (Ann.fst (Ann.snd (Ann.snd (Ann.snd (Ann.fst (Ann.fst (Ann.snd (Ann.fst (Ann.fst (Ann.snd (Ann.fst (Ann.snd (Ann.snd (Ann.snd (Ann.snd spec_TreeOk_an)))))))))))))))))) (⟨mkE 65 0 [(0, .dat (.list (.int .i64)) x5097), (3, .dat (.int .i64) x5102), (4, .dat (.int .i64) x5198), (5, .dat (.int .i64) x5170), (6, .dat (.int .i64) x5215), (7, .dat (.int .i64) x5216)], []⟩ : St) (spec_TreeOk_n6 x5097 x5102 x5215 x5216) (Sum.elim (fun (t : Int × Int) => (Exit.normal, (⟨mkE 65 0 [(0, .dat (.list (.int .i64)) x5097), (3, .dat (.int .i64) x5102), (4, .dat (.int .i64) x5198), (5, .dat (.int .i64) x5170), (6, .dat (.int .i64) t.1), (7, .dat (.int .i64) t.2)], []⟩ : St))) (Sum.elim (fun (t : Bool) => (Exit.ret, (⟨mkE 65 0 [(2, .dat .bool t)], []⟩ : St))) (fun (t : Int) => ((Exit.exit 2), (⟨mkE 65 0 [(0, .dat (.list (.int .i64)) x5097), (3, .dat (.int .i64) x5102), (4, .dat (.int .i64) x5198), (5, .dat (.int .i64) x5170), (6, .dat (.int .i64) t)], []⟩ : St))))) := by
  refine Link.of fun K h => ?_
  simp only [spec_TreeOk_n6, wpO_bind, wpO_cond, wpO_map, wpO_some] at h
  exact Awp.of (by kernel_rfl) h

theorem spec_TreeOk_n7_l (x5097 : List Int) (x5102 : Int) (x5198 : Int) (x5170 : Int) (x5199 : Int) : Link spec_TreeOk_ctx LL (Code.fst (Code.snd (Code.fst (Code.snd (Code.snd (Code.snd (Code.fst (Code.fst (Code.snd (Code.fst (Code.fst (Code.snd (Code.fst (Code.snd (Code.snd (Code.snd (Code.snd (bodyOf Tryd.f65)))))))))))))))))) (Ann.fst (Ann.snd (Ann.fst (Ann.snd (Ann.snd (Ann.snd (Ann.fst (Ann.fst (Ann.snd (Ann.fst (Ann.fst (Ann.snd (Ann.fst (Ann.snd (Ann.snd (Ann.snd (Ann.snd spec_TreeOk_an))))))))))))))))) (⟨mkE 65 0 [(0, .dat (.list (.int .i64)) x5097), (3, .dat (.int .i64) x5102), (4, .dat (.int .i64) x5198), (5, .dat (.int .i64) x5170), (6, .dat (.int .i64) x5199), (7, .dat (.int .i64) 0)], []⟩ : St) (spec_TreeOk_n7 x5097 x5102 x5199) (Sum.elim (fun (t : Bool) => (Exit.ret, (⟨mkE 65 0 [(2, .dat .bool t)], []⟩ : St))) (fun (t : Int) => ((Exit.exit 2), (⟨mkE 65 0 [(0, .dat (.list (.int .i64)) x5097), (3, .dat (.int .i64) x5102), (4, .dat (.int .i64) x5198), (5, .dat (.int .i64) x5170), (6, .dat (.int .i64) t)], []⟩ : St)))) := by
  unfold spec_TreeOk_n7
  exact Link.cast (by kernel_rfl) (by kernel_rfl) (link_loop (mk := fun (s : Int × Int) => (⟨mkE 65 0 [(0, .dat (.list (.int .i64)) x5097), (3, .dat (.int .i64) x5102), (4, .dat (.int .i64) x5198), (5, .dat (.int .i64) x5170), (6, .dat (.int .i64) s.1), (7, .dat (.int .i64) s.2)], []⟩ : St)) (fin := (Sum.elim (fun (t : Bool) => (Exit.ret, (⟨mkE 65 0 [(2, .dat .bool t)], []⟩ : St))) (fun (t : Int) => ((Exit.exit 2), (⟨mkE 65 0 [(0, .dat (.list (.int .i64)) x5097), (3, .dat (.int .i64) x5102), (4, .dat (.int .i64) x5198), (5, .dat (.int .i64) x5170), (6, .dat (.int .i64) t)], []⟩ : St))))) (by
  rintro (t | t) f K h
  · exact h
  · exact h) (fun s => link_map (spec_TreeOk_n6_l x5097 x5102 x5198 x5170 s.1 s.2) (Sum.elim (fun (t : Int × Int) => Sum.inl (t.1, t.2)) (Sum.elim (fun (t : Bool) => Sum.inr (Sum.inl t)) (fun (t : Int) => Sum.inr (Sum.inr t)))) (by
  rintro (t | t | t)
  · kernel_rfl
  · kernel_rfl
  · kernel_rfl)) (x5199, 0))

theorem spec_TreeOk_n8_l (x5097 : List Int) (x5102 : Int) (x5198 : Int) (x5170 : Int) (x5199 : Int) : Link spec_TreeOk_ctx LL (Code.snd (Code.fst (Code.snd (Code.snd (Code.snd (Code.fst (Code.fst (Code.snd (Code.fst (Code.fst (Code.snd (Code.fst (Code.snd (Code.snd (Code.snd (Code.snd (bodyOf Tryd.f65))))))))))))))))) (Ann.snd (Ann.fst (Ann.snd (Ann.snd (Ann.snd (Ann.fst (Ann.fst (Ann.snd (Ann.fst (Ann.fst (Ann.snd (Ann.fst (Ann.snd (Ann.snd (Ann.snd (Ann.snd spec_TreeOk_an)))))))))))))))) (⟨mkE 65 0 [(0, .dat (.list (.int .i64)) x5097), (3, .dat (.int .i64) x5102), (4, .dat (.int .i64) x5198), (5, .dat (.int .i64) x5170), (6, .dat (.int .i64) x5199), (7, .dat (.int .i64) 0)], []⟩ : St) (spec_TreeOk_n8 x5097 x5102 x5199) (Sum.elim (fun (t : Int) => (Exit.normal, (⟨mkE 65 0 [(0, .dat (.list (.int .i64)) x5097), (3, .dat (.int .i64) x5102), (4, .dat (.int .i64) x5198), (5, .dat (.int .i64) x5170), (6, .dat (.int .i64) t)], []⟩ : St))) (fun (t : Bool) => (Exit.ret, (⟨mkE 65 0 [(2, .dat .bool t)], []⟩ : St)))) := by
  unfold spec_TreeOk_n8
  exact Link.cast (by kernel_rfl) (by kernel_rfl) (link_block (id := 2) (spec_TreeOk_n7_l x5097 x5102 x5198 x5170 x5199) (Sum.elim (fun (t : Bool) => (Sum.inr t)) (fun (t : Int) => (Sum.inl t))) (by
  rintro (t | t) K h
  · exact Eq.mp (by kernel_rfl) h
  · exact Eq.mp (by kernel_rfl) h))

theorem spec_TreeOk_n9_l (x5097 : List Int) (x5102 : Int) (x5198 : Int) (x5170 : Int) (x5199 : Int) : Link spec_TreeOk_ctx LL (Code.fst (Code.snd (Code.snd (Code.snd (Code.fst (Code.fst (Code.snd (Code.fst (Code.fst (Code.snd (Code.fst (Code.snd (Code.snd (Code.snd (Code.snd (bodyOf Tryd.f65)))))))))))))))) (Ann.fst (Ann.snd (Ann.snd (Ann.snd (Ann.fst (Ann.fst (Ann.snd (Ann.fst (Ann.fst (Ann.snd (Ann.fst (Ann.snd (Ann.snd (Ann.snd (Ann.snd spec_TreeOk_an))))))))))))))) (⟨mkE 65 0 [(0, .dat (.list (.int .i64)) x5097), (3, .dat (.int .i64) x5102), (4, .dat (.int .i64) x5198), (5, .dat (.int .i64) x5170), (6, .dat (.int .i64) x5199)], []⟩ : St) (spec_TreeOk_n9 x5097 x5102 x5199) (Sum.elim (fun (t : Int) => (Exit.normal, (⟨mkE 65 0 [(0, .dat (.list (.int .i64)) x5097), (3, .dat (.int .i64) x5102), (4, .dat (.int .i64) x5198), (5, .dat (.int .i64) x5170), (6, .dat (.int .i64) t)], []⟩ : St))) (fun (t : Bool) => (Exit.ret, (⟨mkE 65 0 [(2, .dat .bool t)], []⟩ : St)))) := by
  unfold spec_TreeOk_n9
  exact Link.cast (by kernel_rfl) (by kernel_rfl) (link_seq (b := (Code.snd (Code.fst (Code.snd (Code.snd (Code.snd (Code.fst (Code.fst (Code.snd (Code.fst (Code.fst (Code.snd (Code.fst (Code.snd (Code.snd (Code.snd (Code.snd (bodyOf Tryd.f65)))))))))))))))))) (y := (Ann.snd (Ann.fst (Ann.snd (Ann.snd (Ann.snd (Ann.fst (Ann.fst (Ann.snd (Ann.fst (Ann.fst (Ann.snd (Ann.fst (Ann.snd (Ann.snd (Ann.snd (Ann.snd spec_TreeOk_an))))))))))))))))) (spec_TreeOk_n5_l x5097 x5102 x5198 x5170 x5199) (fun (t : Unit) => (spec_TreeOk_n8_l x5097 x5102 x5198 x5170 x5199)))

theorem spec_TreeOk_n10_l (x5097 : List Int) (x5102 : Int) (x5198 : Int) (x5170 : Int) (x5215 : Int) : Link spec_TreeOk_ctx LL (Code.snd (Code.snd (Code.snd (Code.snd (Code.fst (Code.fst (Code.snd (Code.fst (Code.fst (Code.snd (Code.fst (Code.snd (Code.snd (Code.snd (Code.snd (bodyOf Tryd.f65)))))))))))))))) (Ann.snd (Ann.snd (Ann.snd (Ann.snd (Ann.fst (Ann.fst (Ann.snd (Ann.fst (Ann.fst (Ann.snd (Ann.fst (Ann.snd (Ann.snd (Ann.snd (Ann.snd spec_TreeOk_an))))))))))))))) (⟨mkE 65 0 [(0, .dat (.list (.int .i64)) x5097), (3, .dat (.int .i64) x5102), (4, .dat (.int .i64) x5198), (5, .dat (.int .i64) x5170), (6, .dat (.int .i64) x5215)], []⟩ : St) (spec_TreeOk_n10 x5215) (Sum.elim (fun (t : Unit) => (Exit.normal, (⟨mkE 65 0 [(0, .dat (.list (.int .i64)) x5097), (3, .dat (.int .i64) x5102), (4, .dat (.int .i64) x5198), (5, .dat (.int .i64) x5170)], []⟩ : St))) (fun (t : Bool) => (Exit.ret, (⟨mkE 65 0 [(2, .dat .bool t)], []⟩ : St)))) := by
  refine Link.of fun K h => ?_
  simp only [spec_TreeOk_n10, wpO_bind, wpO_cond, wpO_map, wpO_some] at h
  exact Awp.of (by kernel_rfl) h

theorem spec_TreeOk_n11_l (x5097 : List Int) (x5102 : Int) (x5198 : Int) (x5170 : Int) (x5199 : Int) : Link spec_TreeOk_ctx LL (Code.snd (Code.snd (Code.snd (Code.fst (Code.fst (Code.snd (Code.fst (Code.fst (Code.snd (Code.fst (Code.snd (Code.snd (Code.snd (Code.snd (bodyOf Tryd.f65))))))))))))))) (Ann.snd (Ann.snd (Ann.snd (Ann.fst (Ann.fst (Ann.snd (Ann.fst (Ann.fst (Ann.snd (Ann.fst (Ann.snd (Ann.snd (Ann.snd (Ann.snd spec_TreeOk_an)))))))))))))) (⟨mkE 65 0 [(0, .dat (.list (.int .i64)) x5097), (3, .dat (.int .i64) x5102), (4, .dat (.int .i64) x5198), (5, .dat (.int .i64) x5170), (6, .dat (.int .i64) x5199)], []⟩ : St) (spec_TreeOk_n11 x5097 x5102 x5199) (Sum.elim (fun (t : Unit) => (Exit.normal, (⟨mkE 65 0 [(0, .dat (.list (.int .i64)) x5097), (3, .dat (.int .i64) x5102), (4, .dat (.int .i64) x5198), (5, .dat (.int .i64) x5170)], []⟩ : St))) (fun (t : Bool) => (Exit.ret, (⟨mkE 65 0 [(2, .dat .bool t)], []⟩ : St)))) := by
  unfold spec_TreeOk_n11
  exact Link.cast (by kernel_rfl) (by kernel_rfl) (link_seq2 (b := (Code.snd (Code.snd (Code.snd (Code.snd (Code.fst (Code.fst (Code.snd (Code.fst (Code.fst (Code.snd (Code.fst (Code.snd (Code.snd (Code.snd (Code.snd (bodyOf Tryd.f65))))))))))))))))) (y := (Ann.snd (Ann.snd (Ann.snd (Ann.snd (Ann.fst (Ann.fst (Ann.snd (Ann.fst (Ann.fst (Ann.snd (Ann.fst (Ann.snd (Ann.snd (Ann.snd (Ann.snd spec_TreeOk_an)))))))))))))))) (spec_TreeOk_n9_l x5097 x5102 x5198 x5170 x5199) (fun (t : Int) => (spec_TreeOk_n10_l x5097 x5102 x5198 x5170 t)) (fun (t : Bool) => (Sum.inr t)) (by
  rintro t
  · kernel_rfl) (by
  rintro t f K h
  · exact h))

theorem spec_TreeOk_n12_l (x5097 : List Int) (x5102 : Int) (x5169 : Int) (x5170 : Int) : Link spec_TreeOk_ctx LL (Code.fst (Code.fst (Code.snd (Code.fst (Code.fst (Code.snd (Code.fst (Code.snd (Code.snd (Code.snd (Code.snd (bodyOf Tryd.f65)))))))))))) (Ann.fst (Ann.fst (Ann.snd (Ann.fst (Ann.fst (Ann.snd (Ann.fst (Ann.snd (Ann.snd (Ann.snd (Ann.snd spec_TreeOk_an))))))))))) (⟨mkE 65 0 [(0, .dat (.list (.int .i64)) x5097), (3, .dat (.int .i64) x5102), (4, .dat (.int .i64) x5169), (5, .dat (.int .i64) x5170)], []⟩ : St) (spec_TreeOk_n12 x5097 x5102 x5169 x5170) (Sum.elim (fun (t : Int) => (Exit.normal, (⟨mkE 65 0 [(0, .dat (.list (.int .i64)) x5097), (3, .dat (.int .i64) x5102), (4, .dat (.int .i64) t), (5, .dat (.int .i64) x5170)], []⟩ : St))) (fun (t : Bool) => (Exit.ret, (⟨mkE 65 0 [(2, .dat .bool t)], []⟩ : St)))) := by
  unfold spec_TreeOk_n12
  exact Link.cast (by kernel_rfl) (by kernel_rfl) (link_group (c := (Code.fst (Code.snd (Code.snd (Code.fst (Code.fst (Code.snd (Code.fst (Code.fst (Code.snd (Code.fst (Code.snd (Code.snd (Code.snd (Code.snd (bodyOf Tryd.f65)))))))))))))))) (a := (Ann.fst (Ann.snd (Ann.snd (Ann.fst (Ann.fst (Ann.snd (Ann.fst (Ann.fst (Ann.snd (Ann.fst (Ann.snd (Ann.snd (Ann.snd (Ann.snd spec_TreeOk_an))))))))))))))) [(Code.fst (Code.fst (Code.fst (Code.snd (Code.fst (Code.fst (Code.snd (Code.fst (Code.snd (Code.snd (Code.snd (Code.snd (bodyOf Tryd.f65))))))))))))), (Code.fst (Code.snd (Code.fst (Code.fst (Code.snd (Code.fst (Code.fst (Code.snd (Code.fst (Code.snd (Code.snd (Code.snd (Code.snd (bodyOf Tryd.f65))))))))))))))] [(Ann.fst (Ann.fst (Ann.fst (Ann.snd (Ann.fst (Ann.fst (Ann.snd (Ann.fst (Ann.snd (Ann.snd (Ann.snd (Ann.snd spec_TreeOk_an)))))))))))), (Ann.fst (Ann.snd (Ann.fst (Ann.fst (Ann.snd (Ann.fst (Ann.fst (Ann.snd (Ann.fst (Ann.snd (Ann.snd (Ann.snd (Ann.snd spec_TreeOk_an)))))))))))))] rfl (link_seq2 (b := (Code.snd (Code.snd (Code.snd (Code.fst (Code.fst (Code.snd (Code.fst (Code.fst (Code.snd (Code.fst (Code.snd (Code.snd (Code.snd (Code.snd (bodyOf Tryd.f65)))))))))))))))) (y := (Ann.snd (Ann.snd (Ann.snd (Ann.fst (Ann.fst (Ann.snd (Ann.fst (Ann.fst (Ann.snd (Ann.fst (Ann.snd (Ann.snd (Ann.snd (Ann.snd spec_TreeOk_an))))))))))))))) (spec_TreeOk_n4_l x5097 x5102 x5169 x5170) (fun (t : Int × Int) => (link_map (spec_TreeOk_n11_l x5097 x5102 t.1 x5170 t.2) (Sum.elim (fun (u : Unit) => (Sum.inl t.1)) (fun (u : Bool) => (Sum.inr u))) (by
  rintro (t | t)
  · kernel_rfl
  · kernel_rfl))) (fun (t : Bool) => (Sum.inr t)) (by
  rintro t
  · kernel_rfl) (by
  rintro t f K h
  · exact h)))

theorem spec_TreeOk_n13_l (x5097 : List Int) (x5102 : Int) (x5169 : Int) (x5170 : Int) : Link spec_TreeOk_ctx LL (Code.fst (Code.snd (Code.fst (Code.fst (Code.snd (Code.fst (Code.snd (Code.snd (Code.snd (Code.snd (bodyOf Tryd.f65))))))))))) (Ann.fst (Ann.snd (Ann.fst (Ann.fst (Ann.snd (Ann.fst (Ann.snd (Ann.snd (Ann.snd (Ann.snd spec_TreeOk_an)))))))))) (⟨mkE 65 0 [(0, .dat (.list (.int .i64)) x5097), (3, .dat (.int .i64) x5102), (4, .dat (.int .i64) x5169), (5, .dat (.int .i64) x5170)], []⟩ : St) (spec_TreeOk_n13 x5097 x5102 x5169 x5170) (Sum.elim (fun (t : Int) => (Exit.normal, (⟨mkE 65 0 [(0, .dat (.list (.int .i64)) x5097), (3, .dat (.int .i64) x5102), (4, .dat (.int .i64) t), (5, .dat (.int .i64) x5170)], []⟩ : St))) (fun (t : Bool) => (Exit.ret, (⟨mkE 65 0 [(2, .dat .bool t)], []⟩ : St)))) := by
  unfold spec_TreeOk_n13
  exact Link.cast (by kernel_rfl) (by kernel_rfl) (link_block (id := 1) (spec_TreeOk_n12_l x5097 x5102 x5169 x5170) (Sum.elim (fun (t : Int) => (Sum.inl t)) (fun (t : Bool) => (Sum.inr t))) (by
  rintro (t | t) K h
  · exact Eq.mp (by kernel_rfl) h
  · exact Eq.mp (by kernel_rfl) h))

theorem spec_TreeOk_n14_l (x5097 : List Int) (x5102 : Int) (x5198 : Int) (x5170 : Int) : Link spec_TreeOk_ctx LL (Code.snd (Code.snd (Code.fst (Code.fst (Code.snd (Code.fst (Code.snd (Code.snd (Code.snd (Code.snd (bodyOf Tryd.f65))))))))))) (Ann.snd (Ann.snd (Ann.fst (Ann.fst (Ann.snd (Ann.fst (Ann.snd (Ann.snd (Ann.snd (Ann.snd spec_TreeOk_an)))))))))) (⟨mkE 65 0 [(0, .dat (.list (.int .i64)) x5097), (3, .dat (.int .i64) x5102), (4, .dat (.int .i64) x5198), (5, .dat (.int .i64) x5170)], []⟩ : St) (spec_TreeOk_n14 x5170) (fun (t : Int) => (Exit.normal, (⟨mkE 65 0 [(0, .dat (.list (.int .i64)) x5097), (3, .dat (.int .i64) x5102), (4, .dat (.int .i64) x5198), (5, .dat (.int .i64) t)], []⟩ : St))) := by
  refine Link.of fun K h => ?_
  simp only [spec_TreeOk_n14, wpO_bind, wpO_cond, wpO_map, wpO_some] at h
  exact Awp.of (by kernel_rfl) h

theorem spec_TreeOk_n15_l (x5097 : List Int) (x5102 : Int) (x5169 : Int) (x5170 : Int) : Link spec_TreeOk_ctx LL (Code.snd (Code.fst (Code.fst (Code.snd (Code.fst (Code.snd (Code.snd (Code.snd (Code.snd (bodyOf Tryd.f65)))))))))) (Ann.snd (Ann.fst (Ann.fst (Ann.snd (Ann.fst (Ann.snd (Ann.snd (Ann.snd (Ann.snd spec_TreeOk_an))))))))) (⟨mkE 65 0 [(0, .dat (.list (.int .i64)) x5097), (3, .dat (.int .i64) x5102), (4, .dat (.int .i64) x5169), (5, .dat (.int .i64) x5170)], []⟩ : St) (spec_TreeOk_n15 x5097 x5102 x5169 x5170) (Sum.elim (fun (t : Int × Int) => (Exit.normal, (⟨mkE 65 0 [(0, .dat (.list (.int .i64)) x5097), (3, .dat (.int .i64) x5102), (4, .dat (.int .i64) t.1), (5, .dat (.int .i64) t.2)], []⟩ : St))) (fun (t : Bool) => (Exit.ret, (⟨mkE 65 0 [(2, .dat .bool t)], []⟩ : St)))) := by
  unfold spec_TreeOk_n15
  exact Link.cast (by kernel_rfl) (by kernel_rfl) (link_seq2 (b := (Code.snd (Code.snd (Code.fst (Code.fst (Code.snd (Code.fst (Code.snd (Code.snd (Code.snd (Code.snd (bodyOf Tryd.f65)))))))))))) (y := (Ann.snd (Ann.snd (Ann.fst (Ann.fst (Ann.snd (Ann.fst (Ann.snd (Ann.snd (Ann.snd (Ann.snd spec_TreeOk_an))))))))))) (spec_TreeOk_n13_l x5097 x5102 x5169 x5170) (fun (t : Int) => (link_map (spec_TreeOk_n14_l x5097 x5102 t x5170) (fun (u : Int) => (Sum.inl (t, u))) (by
  rintro t
  · kernel_rfl))) (fun (t : Bool) => (Sum.inr t)) (by
  rintro t
  · kernel_rfl) (by
  rintro t f K h
  · exact h))

theorem spec_TreeOk_n16_l (x5097 : List Int) (x5102 : Int) (x5169 : Int) (x5170 : Int) : Link spec_TreeOk_ctx LL (Code.fst (Code.fst (Code.snd (Code.fst (Code.snd (Code.snd (Code.snd (Code.snd (bodyOf Tryd.f65))))))))) (Ann.fst (Ann.fst (Ann.snd (Ann.fst (Ann.snd (Ann.snd (Ann.snd (Ann.snd spec_TreeOk_an)))))))) (⟨mkE 65 0 [(0, .dat (.list (.int .i64)) x5097), (3, .dat (.int .i64) x5102), (4, .dat (.int .i64) x5169), (5, .dat (.int .i64) x5170)], []⟩ : St) (spec_TreeOk_n16 x5097 x5102 x5169 x5170) (Sum.elim (fun (t : Int × Int) => (Exit.normal, (⟨mkE 65 0 [(0, .dat (.list (.int .i64)) x5097), (3, .dat (.int .i64) x5102), (4, .dat (.int .i64) t.1), (5, .dat (.int .i64) t.2)], []⟩ : St))) (Sum.elim (fun (t : Bool) => (Exit.ret, (⟨mkE 65 0 [(2, .dat .bool t)], []⟩ : St))) (fun (t : Int) => ((Exit.exit 0), (⟨mkE 65 0 [(4, .dat (.int .i64) t)], []⟩ : St))))) := by
  unfold spec_TreeOk_n16
  exact Link.cast (by kernel_rfl) (by kernel_rfl) (link_seq2 (b := (Code.snd (Code.fst (Code.fst (Code.snd (Code.fst (Code.snd (Code.snd (Code.snd (Code.snd (bodyOf Tryd.f65))))))))))) (y := (Ann.snd (Ann.fst (Ann.fst (Ann.snd (Ann.fst (Ann.snd (Ann.snd (Ann.snd (Ann.snd spec_TreeOk_an)))))))))) (spec_TreeOk_n3_l x5097 x5102 x5169 x5170) (fun (t : Unit) => (link_map (spec_TreeOk_n15_l x5097 x5102 x5169 x5170) (Sum.elim (fun (t : Int × Int) => (Sum.inl (t.1, t.2))) (fun (t : Bool) => (Sum.inr (Sum.inl t)))) (by
  rintro (t | t)
  · kernel_rfl
  · kernel_rfl))) (fun (t : Int) => (Sum.inr (Sum.inr t))) (by
  rintro t
  · kernel_rfl) (by
  rintro t f K h
  · exact h))

theorem spec_TreeOk_n17_l (x5097 : List Int) (x5102 : Int) : Link spec_TreeOk_ctx LL (Code.fst (Code.snd (Code.fst (Code.snd (Code.snd (Code.snd (Code.snd (bodyOf Tryd.f65)))))))) (Ann.fst (Ann.snd (Ann.fst (Ann.snd (Ann.snd (Ann.snd (Ann.snd spec_TreeOk_an))))))) (⟨mkE 65 0 [(0, .dat (.list (.int .i64)) x5097), (3, .dat (.int .i64) x5102), (4, .dat (.int .i64) 0), (5, .dat (.int .i64) 0)], []⟩ : St) (spec_TreeOk_n17 x5097 x5102) (Sum.elim (fun (t : Bool) => (Exit.ret, (⟨mkE 65 0 [(2, .dat .bool t)], []⟩ : St))) (fun (t : Int) => ((Exit.exit 0), (⟨mkE 65 0 [(4, .dat (.int .i64) t)], []⟩ : St)))) := by
  unfold spec_TreeOk_n17
  exact Link.cast (by kernel_rfl) (by kernel_rfl) (link_loop (mk := fun (s : Int × Int) => (⟨mkE 65 0 [(0, .dat (.list (.int .i64)) x5097), (3, .dat (.int .i64) x5102), (4, .dat (.int .i64) s.1), (5, .dat (.int .i64) s.2)], []⟩ : St)) (fin := (Sum.elim (fun (t : Bool) => (Exit.ret, (⟨mkE 65 0 [(2, .dat .bool t)], []⟩ : St))) (fun (t : Int) => ((Exit.exit 0), (⟨mkE 65 0 [(4, .dat (.int .i64) t)], []⟩ : St))))) (by
  rintro (t | t) f K h
  · exact h
  · exact h) (fun s => link_map (spec_TreeOk_n16_l x5097 x5102 s.1 s.2) (Sum.elim (fun (t : Int × Int) => Sum.inl (t.1, t.2)) (Sum.elim (fun (t : Bool) => Sum.inr (Sum.inl t)) (fun (t : Int) => Sum.inr (Sum.inr t)))) (by
  rintro (t | t | t)
  · kernel_rfl
  · kernel_rfl
  · kernel_rfl)) (0, 0))

theorem spec_TreeOk_n18_l (x5097 : List Int) (x5102 : Int) : Link spec_TreeOk_ctx LL (Code.snd (Code.fst (Code.snd (Code.snd (Code.snd (Code.snd (bodyOf Tryd.f65))))))) (Ann.snd (Ann.fst (Ann.snd (Ann.snd (Ann.snd (Ann.snd spec_TreeOk_an)))))) (⟨mkE 65 0 [(0, .dat (.list (.int .i64)) x5097), (3, .dat (.int .i64) x5102), (4, .dat (.int .i64) 0), (5, .dat (.int .i64) 0)], []⟩ : St) (spec_TreeOk_n18 x5097 x5102) (Sum.elim (fun (t : Int) => (Exit.normal, (⟨mkE 65 0 [(4, .dat (.int .i64) t)], []⟩ : St))) (fun (t : Bool) => (Exit.ret, (⟨mkE 65 0 [(2, .dat .bool t)], []⟩ : St)))) := by
  unfold spec_TreeOk_n18
  exact Link.cast (by kernel_rfl) (by kernel_rfl) (link_block (id := 0) (spec_TreeOk_n17_l x5097 x5102) (Sum.elim (fun (t : Bool) => (Sum.inr t)) (fun (t : Int) => (Sum.inl t))) (by
  rintro (t | t) K h
  · exact Eq.mp (by kernel_rfl) h
  · exact Eq.mp (by kernel_rfl) h))

theorem spec_TreeOk_n19_l (x5097 : List Int) (x5102 : Int) : Link spec_TreeOk_ctx LL (Code.fst (Code.snd (Code.snd (Code.snd (Code.snd (bodyOf Tryd.f65)))))) (Ann.fst (Ann.snd (Ann.snd (Ann.snd (Ann.snd spec_TreeOk_an))))) (⟨mkE 65 0 [(0, .dat (.list (.int .i64)) x5097), (3, .dat (.int .i64) x5102), (4, .dat (.int .i64) 0)], []⟩ : St) (spec_TreeOk_n19 x5097 x5102) (Sum.elim (fun (t : Int) => (Exit.normal, (⟨mkE 65 0 [(4, .dat (.int .i64) t)], []⟩ : St))) (fun (t : Bool) => (Exit.ret, (⟨mkE 65 0 [(2, .dat .bool t)], []⟩ : St)))) := by
  unfold spec_TreeOk_n19
  exact Link.cast (by kernel_rfl) (by kernel_rfl) (link_seq (b := (Code.snd (Code.fst (Code.snd (Code.snd (Code.snd (Code.snd (bodyOf Tryd.f65)))))))) (y := (Ann.snd (Ann.fst (Ann.snd (Ann.snd (Ann.snd (Ann.snd spec_TreeOk_an))))))) (spec_TreeOk_n2_l x5097 x5102) (fun (t : Unit) => (spec_TreeOk_n18_l x5097 x5102)))

theorem spec_TreeOk_n20_l (x5169 : Int) : Link spec_TreeOk_ctx LL (Code.snd (Code.snd (Code.snd (Code.snd (Code.snd (bodyOf Tryd.f65)))))) (Ann.snd (Ann.snd (Ann.snd (Ann.snd (Ann.snd spec_TreeOk_an))))) (⟨mkE 65 0 [(4, .dat (.int .i64) x5169)], []⟩ : St) (spec_TreeOk_n20 x5169) (fun (t : Bool) => (Exit.ret, (⟨mkE 65 0 [(2, .dat .bool t)], []⟩ : St))) := by
  refine Link.of fun K h => ?_
  simp only [spec_TreeOk_n20, wpO_bind, wpO_cond, wpO_map, wpO_some] at h
  exact Awp.of (by kernel_rfl) h

theorem spec_TreeOk_n21_l (x5097 : List Int) (x5102 : Int) : Link spec_TreeOk_ctx LL (Code.snd (Code.snd (Code.snd (Code.snd (bodyOf Tryd.f65))))) (Ann.snd (Ann.snd (Ann.snd (Ann.snd spec_TreeOk_an)))) (⟨mkE 65 0 [(0, .dat (.list (.int .i64)) x5097), (3, .dat (.int .i64) x5102), (4, .dat (.int .i64) 0)], []⟩ : St) (spec_TreeOk_n21 x5097 x5102) (fun (t : Bool) => (Exit.ret, (⟨mkE 65 0 [(2, .dat .bool t)], []⟩ : St))) := by
  unfold spec_TreeOk_n21
  exact Link.cast (by kernel_rfl) (by kernel_rfl) (link_seq2 (b := (Code.snd (Code.snd (Code.snd (Code.snd (Code.snd (bodyOf Tryd.f65))))))) (y := (Ann.snd (Ann.snd (Ann.snd (Ann.snd (Ann.snd spec_TreeOk_an)))))) (spec_TreeOk_n19_l x5097 x5102) (fun (t : Int) => (spec_TreeOk_n20_l t)) (fun (t : Bool) => t) (by
  rintro t
  · kernel_rfl) (by
  rintro t f K h
  · exact h))

theorem spec_TreeOk_n22_l (x5097 : List Int) : Link spec_TreeOk_ctx LL (bodyOf Tryd.f65) spec_TreeOk_an (⟨mkE 65 0 [(0, .dat (.list (.int .i64)) x5097)], []⟩ : St) (spec_TreeOk_n22 x5097) (fun (t : Bool) => (Exit.ret, (⟨mkE 65 0 [(2, .dat .bool t)], []⟩ : St))) := by
  unfold spec_TreeOk_n22
  exact Link.cast (by kernel_rfl) (by kernel_rfl) (link_group (c := (Code.fst (Code.snd (Code.snd (Code.snd (bodyOf Tryd.f65)))))) (a := (Ann.fst (Ann.snd (Ann.snd (Ann.snd spec_TreeOk_an))))) [(Code.fst (bodyOf Tryd.f65)), (Code.fst (Code.snd (bodyOf Tryd.f65))), (Code.fst (Code.snd (Code.snd (bodyOf Tryd.f65))))] [(Ann.fst spec_TreeOk_an), (Ann.fst (Ann.snd spec_TreeOk_an)), (Ann.fst (Ann.snd (Ann.snd spec_TreeOk_an)))] rfl (link_seq2 (b := (Code.snd (Code.snd (Code.snd (Code.snd (bodyOf Tryd.f65)))))) (y := (Ann.snd (Ann.snd (Ann.snd (Ann.snd spec_TreeOk_an))))) (spec_TreeOk_n1_l x5097) (fun (t : Int) => (spec_TreeOk_n21_l x5097 t)) (fun (t : Bool) => t) (by
  rintro t
  · kernel_rfl) (by
  rintro t f K h
  · exact h)))

theorem spec_TreeOk_e (x5097 : List Int) {r : AV} {H' : Heap} (h : (Ans.mk _ (spec_TreeOk x5097) (fun (t : Bool) => (.dat .bool t, [])) [] none).run = some (r, H')) : Awp spec_TreeOk_ctx LL (bodyOf Tryd.f65) spec_TreeOk_an (⟨mkE 65 0 [(0, .dat (.list (.int .i64)) x5097)], []⟩ : St) (Ret (tlook tys) Tryd.f65.results.toList r H') :=
  ret_of' (spec_TreeOk_n22_l x5097) (by unfold spec_TreeOk; kernel_rfl) (by
  intro t
  exact ret_mk [.dat .bool t] (by kernel_rfl) (by kernel_rfl) (by kernel_rfl) (by kernel_rfl)) h

def F_spec_TreeOk : Fun := fun avs H =>
  match avs, H with
  | [.dat (.list (.int .i64)) x5097], [] => ⟨_, spec_TreeOk x5097, fun (t : Bool) => (.dat .bool t, []), [], none⟩
  | _, _ => Ans.no

theorem spec_TreeOk_sound : Sound Tryd.prog 65 F_spec_TreeOk := by
  refine fn_sound' (C := spec_TreeOk_ctx) (c := bodyOf Tryd.f65) (cok_of tys_ok (List.forall_mem_cons.2 ⟨spec_l1In_sound, by simp⟩) (List.forall_mem_cons.2 ⟨Tryd.call30, by simp⟩) (by kernel_rfl)) Tryd.func65 (by kernel_rfl) LL spec_TreeOk_an ?_
  intro avs H r H' h
  unfold F_spec_TreeOk at h
  split at h
  · refine Awp.cast ?_ ?_ ?_ (spec_TreeOk_e _ h) <;> kernel_rfl
  · simp [Ans.no, Ans.run] at h


/-! loop.example/headtrees/spec.l2Yield -/

def spec_l2Yield_an : Ann := (.seq (.leaf [0, 1]) (.seq (.leaf [0, 1, 5]) (.seq (.seq (.leaf [0, 1, 5, 6]) (.block (.loop (.seq (.seq (.leaf [0, 1, 5, 6, 13]) (.cond (.leaf [0, 1, 5, 6]) (.leaf [5]))) (.seq (.block (.seq (.leaf [0, 1, 5, 6, 21]) (.cond (.leaf [0, 1, 5, 6]) (.leaf [0, 1, 5, 6])))) (.leaf [0, 1, 5, 6])))))) (.seq (.leaf [4]) (.leaf [4])))))

def F_spec_l2Yield_fuel (n : Nat) : Fun := fun avs H =>
  match avs, H with
  | [.dat (.list (.int .i64)) x5242, .dat (.int .i64) x5243], [] => ⟨_, spec_l2Yield_fuel n x5242 x5243, fun (t : Int) => (.dat (.int .i64) t, []), [], none⟩
  | _, _ => Ans.no

noncomputable def spec_l2Yield_ctx (n : Nat) : Ctx := ⟨tlook tys, olook [(67, F_spec_l2Yield_fuel n)], ioF, 0, false, []⟩

theorem spec_l2Yield_n1_l (n : Nat) (x5242 : List Int) (x5243 : Int) : Link (spec_l2Yield_ctx n) LL (Code.seq (Code.fst (bodyOf Tryd.f67)) (Code.fst (Code.snd (bodyOf Tryd.f67)))) (Ann.seq (Ann.fst spec_l2Yield_an) (Ann.fst (Ann.snd spec_l2Yield_an))) (⟨mkE 29 0 [(0, .dat (.list (.int .i64)) x5242), (1, .dat (.int .i64) x5243)], []⟩ : St) (spec_l2Yield_n1 (spec_l2Yield_fuel n) x5243) (fun (t : Int) => (Exit.normal, (⟨mkE 29 0 [(0, .dat (.list (.int .i64)) x5242), (1, .dat (.int .i64) x5243), (5, .dat (.int .i64) t)], []⟩ : St))) := by
  refine Link.of fun K h => ?_
  simp only [spec_l2Yield_n1, wpO_bind, wpO_cond, wpO_map, wpO_some] at h
  exact Awp.of (by kernel_rfl) h

theorem spec_l2Yield_n2_l (n : Nat) (x5242 : List Int) (x5243 : Int) (x5274 : Int) : Link (spec_l2Yield_ctx n) LL (Code.fst (Code.fst (Code.snd (Code.snd (bodyOf Tryd.f67))))) (Ann.fst (Ann.fst (Ann.snd (Ann.snd spec_l2Yield_an)))) (⟨mkE 29 0 [(0, .dat (.list (.int .i64)) x5242), (1, .dat (.int .i64) x5243), (5, .dat (.int .i64) x5274)], []⟩ : St) (spec_l2Yield_n2 (spec_l2Yield_fuel n)) (fun (t : Unit) => (Exit.normal, (⟨mkE 29 0 [(0, .dat (.list (.int .i64)) x5242), (1, .dat (.int .i64) x5243), (5, .dat (.int .i64) x5274), (6, .dat (.int .i64) 0)], []⟩ : St))) := by
  refine Link.of fun K h => ?_
  simp only [spec_l2Yield_n2, wpO_bind, wpO_cond, wpO_map, wpO_some] at h
  exact Awp.of (by kernel_rfl) h

theorem spec_l2Yield_n3_l (n : Nat) (x5242 : List Int) (x5243 : Int) (x5295 : Int) (x5296 : Int) : Link (spec_l2Yield_ctx n) LL (Code.fst (Code.fst (Code.snd (Code.fst (Code.snd (Code.snd (bodyOf Tryd.f67))))))) (Ann.fst (Ann.fst (Ann.snd (Ann.fst (Ann.snd (Ann.snd spec_l2Yield_an)))))) (⟨mkE 29 0 [(0, .dat (.list (.int .i64)) x5242), (1, .dat (.int .i64) x5243), (5, .dat (.int .i64) x5295), (6, .dat (.int .i64) x5296)], []⟩ : St) (spec_l2Yield_n3 (spec_l2Yield_fuel n) x5242 x5243 x5295 x5296) (Sum.elim (fun (t : Int × Int) => (Exit.normal, (⟨mkE 29 0 [(0, .dat (.list (.int .i64)) x5242), (1, .dat (.int .i64) x5243), (5, .dat (.int .i64) t.1), (6, .dat (.int .i64) t.2)], []⟩ : St))) (fun (t : Int) => ((Exit.exit 0), (⟨mkE 29 0 [(5, .dat (.int .i64) t)], []⟩ : St)))) := by
  refine Link.of fun K h => ?_
  simp only [spec_l2Yield_n3, wpO_bind, wpO_cond, wpO_map, wpO_some] at h
  exact Awp.of (by kernel_rfl) h

theorem spec_l2Yield_n4_l (n : Nat) (x5242 : List Int) (x5243 : Int) (x5274 : Int) : Link (spec_l2Yield_ctx n) LL (Code.fst (Code.snd (Code.fst (Code.snd (Code.snd (bodyOf Tryd.f67)))))) (Ann.fst (Ann.snd (Ann.fst (Ann.snd (Ann.snd spec_l2Yield_an))))) (⟨mkE 29 0 [(0, .dat (.list (.int .i64)) x5242), (1, .dat (.int .i64) x5243), (5, .dat (.int .i64) x5274), (6, .dat (.int .i64) 0)], []⟩ : St) (spec_l2Yield_n4 (spec_l2Yield_fuel n) x5242 x5243 x5274) (fun (t : Int) => ((Exit.exit 0), (⟨mkE 29 0 [(5, .dat (.int .i64) t)], []⟩ : St))) := by
  unfold spec_l2Yield_n4
  exact Link.cast (by kernel_rfl) (by kernel_rfl) (link_loop (mk := fun (s : Int × Int) => (⟨mkE 29 0 [(0, .dat (.list (.int .i64)) x5242), (1, .dat (.int .i64) x5243), (5, .dat (.int .i64) s.1), (6, .dat (.int .i64) s.2)], []⟩ : St)) (fin := (fun (t : Int) => ((Exit.exit 0), (⟨mkE 29 0 [(5, .dat (.int .i64) t)], []⟩ : St)))) (by
  rintro t f K h
  · exact h) (fun s => link_map (spec_l2Yield_n3_l n x5242 x5243 s.1 s.2) (Sum.elim (fun (t : Int × Int) => Sum.inl (t.1, t.2)) (fun (t : Int) => Sum.inr t)) (by
  rintro (t | t)
  · kernel_rfl
  · kernel_rfl)) (x5274, 0))

theorem spec_l2Yield_n5_l (n : Nat) (x5242 : List Int) (x5243 : Int) (x5274 : Int) : Link (spec_l2Yield_ctx n) LL (Code.snd (Code.fst (Code.snd (Code.snd (bodyOf Tryd.f67))))) (Ann.snd (Ann.fst (Ann.snd (Ann.snd spec_l2Yield_an)))) (⟨mkE 29 0 [(0, .dat (.list (.int .i64)) x5242), (1, .dat (.int .i64) x5243), (5, .dat (.int .i64) x5274), (6, .dat (.int .i64) 0)], []⟩ : St) (spec_l2Yield_n5 (spec_l2Yield_fuel n) x5242 x5243 x5274) (fun (t : Int) => (Exit.normal, (⟨mkE 29 0 [(5, .dat (.int .i64) t)], []⟩ : St))) := by
  unfold spec_l2Yield_n5
  exact Link.cast (by kernel_rfl) (by kernel_rfl) (link_block (id := 0) (spec_l2Yield_n4_l n x5242 x5243 x5274) (fun (t : Int) => t) (by
  rintro t K h
  · exact Eq.mp (by kernel_rfl) h))

theorem spec_l2Yield_n6_l (n : Nat) (x5242 : List Int) (x5243 : Int) (x5274 : Int) : Link (spec_l2Yield_ctx n) LL (Code.fst (Code.snd (Code.snd (bodyOf Tryd.f67)))) (Ann.fst (Ann.snd (Ann.snd spec_l2Yield_an))) (⟨mkE 29 0 [(0, .dat (.list (.int .i64)) x5242), (1, .dat (.int .i64) x5243), (5, .dat (.int .i64) x5274)], []⟩ : St) (spec_l2Yield_n6 (spec_l2Yield_fuel n) x5242 x5243 x5274) (fun (t : Int) => (Exit.normal, (⟨mkE 29 0 [(5, .dat (.int .i64) t)], []⟩ : St))) := by
  unfold spec_l2Yield_n6
  exact Link.cast (by kernel_rfl) (by kernel_rfl) (link_seq (b := (Code.snd (Code.fst (Code.snd (Code.snd (bodyOf Tryd.f67)))))) (y := (Ann.snd (Ann.fst (Ann.snd (Ann.snd spec_l2Yield_an))))) (spec_l2Yield_n2_l n x5242 x5243 x5274) (fun (t : Unit) => (spec_l2Yield_n5_l n x5242 x5243 x5274)))

theorem spec_l2Yield_n7_l (n : Nat) (x5295 : Int) : Link (spec_l2Yield_ctx n) LL (Code.snd (Code.snd (Code.snd (bodyOf Tryd.f67)))) (Ann.snd (Ann.snd (Ann.snd spec_l2Yield_an))) (⟨mkE 29 0 [(5, .dat (.int .i64) x5295)], []⟩ : St) (spec_l2Yield_n7 (spec_l2Yield_fuel n) x5295) (fun (t : Int) => (Exit.ret, (⟨mkE 29 0 [(4, .dat (.int .i64) t)], []⟩ : St))) := by
  refine Link.of fun K h => ?_
  simp only [spec_l2Yield_n7, wpO_bind, wpO_cond, wpO_map, wpO_some] at h
  exact Awp.of (by kernel_rfl) h

theorem spec_l2Yield_n8_l (n : Nat) (x5242 : List Int) (x5243 : Int) (x5274 : Int) : Link (spec_l2Yield_ctx n) LL (Code.snd (Code.snd (bodyOf Tryd.f67))) (Ann.snd (Ann.snd spec_l2Yield_an)) (⟨mkE 29 0 [(0, .dat (.list (.int .i64)) x5242), (1, .dat (.int .i64) x5243), (5, .dat (.int .i64) x5274)], []⟩ : St) (spec_l2Yield_n8 (spec_l2Yield_fuel n) x5242 x5243 x5274) (fun (t : Int) => (Exit.ret, (⟨mkE 29 0 [(4, .dat (.int .i64) t)], []⟩ : St))) := by
  unfold spec_l2Yield_n8
  exact Link.cast (by kernel_rfl) (by kernel_rfl) (link_seq (b := (Code.snd (Code.snd (Code.snd (bodyOf Tryd.f67))))) (y := (Ann.snd (Ann.snd (Ann.snd spec_l2Yield_an)))) (spec_l2Yield_n6_l n x5242 x5243 x5274) (fun (t : Int) => (spec_l2Yield_n7_l n t)))

theorem spec_l2Yield_n9_l (n : Nat) (x5242 : List Int) (x5243 : Int) : Link (spec_l2Yield_ctx n) LL (bodyOf Tryd.f67) spec_l2Yield_an (⟨mkE 29 0 [(0, .dat (.list (.int .i64)) x5242), (1, .dat (.int .i64) x5243)], []⟩ : St) (spec_l2Yield_n9 (spec_l2Yield_fuel n) x5242 x5243) (fun (t : Int) => (Exit.ret, (⟨mkE 29 0 [(4, .dat (.int .i64) t)], []⟩ : St))) := by
  unfold spec_l2Yield_n9
  exact Link.cast (by kernel_rfl) (by kernel_rfl) (link_group (c := (Code.fst (Code.snd (bodyOf Tryd.f67)))) (a := (Ann.fst (Ann.snd spec_l2Yield_an))) [(Code.fst (bodyOf Tryd.f67))] [(Ann.fst spec_l2Yield_an)] rfl (link_seq (b := (Code.snd (Code.snd (bodyOf Tryd.f67)))) (y := (Ann.snd (Ann.snd spec_l2Yield_an))) (spec_l2Yield_n1_l n x5242 x5243) (fun (t : Int) => (spec_l2Yield_n8_l n x5242 x5243 t))))

theorem spec_l2Yield_e (n : Nat) (x5242 : List Int) (x5243 : Int) {r : AV} {H' : Heap} (h : (Ans.mk _ (spec_l2Yield_fuel (n + 1) x5242 x5243) (fun (t : Int) => (.dat (.int .i64) t, [])) [] none).run = some (r, H')) : Awp (spec_l2Yield_ctx n) LL (bodyOf Tryd.f67) spec_l2Yield_an (⟨mkE 29 0 [(0, .dat (.list (.int .i64)) x5242), (1, .dat (.int .i64) x5243)], []⟩ : St) (Ret (tlook tys) Tryd.f67.results.toList r H') :=
  ret_of' (spec_l2Yield_n9_l n x5242 x5243) (by (show _ = _); kernel_rfl) (by
  intro t
  exact ret_mk [.dat (.int .i64) t] (by kernel_rfl) (by kernel_rfl) (by kernel_rfl) (by kernel_rfl)) h

theorem spec_l2Yield_step (n : Nat) (h67 : Sound Tryd.prog 67 (F_spec_l2Yield_fuel n)) : Sound Tryd.prog 67 (F_spec_l2Yield_fuel (n + 1)) := by
  refine fn_sound' (C := spec_l2Yield_ctx n) (c := bodyOf Tryd.f67) (cok_of tys_ok (List.forall_mem_cons.2 ⟨h67, by simp⟩) (List.forall_mem_cons.2 ⟨Tryd.call67, by simp⟩) (by kernel_rfl)) Tryd.func67 (by kernel_rfl) LL spec_l2Yield_an ?_
  intro avs H r H' h
  unfold F_spec_l2Yield_fuel at h
  split at h
  · refine Awp.cast ?_ ?_ ?_ (spec_l2Yield_e n _ _ h) <;> kernel_rfl
  · simp [Ans.no, Ans.run] at h

theorem spec_l2Yield_null : Sound Tryd.prog 67 (F_spec_l2Yield_fuel 0) := by
  intro avs H r H' h
  unfold F_spec_l2Yield_fuel at h
  split at h
  · simp [spec_l2Yield_fuel, spec_l2Yield_knot, Ans.run] at h
  · simp [Ans.no, Ans.run] at h

theorem spec_l2Yield_knot_all : ∀ n, Sound Tryd.prog 67 (F_spec_l2Yield_fuel n)
  | 0 => spec_l2Yield_null
  | n + 1 => by
    have h67 := spec_l2Yield_knot_all n
    exact spec_l2Yield_step n h67

def F_spec_l2Yield : Fun := fun avs H =>
  match avs, H with
  | [.dat (.list (.int .i64)) x5242, .dat (.int .i64) x5243], [] => ⟨_, spec_l2Yield x5242 x5243, fun (t : Int) => (.dat (.int .i64) t, []), [], none⟩
  | _, _ => Ans.no

theorem spec_l2Yield_sound : Sound Tryd.prog 67 F_spec_l2Yield := by
  have e : F_spec_l2Yield = F_spec_l2Yield_fuel RR := by
    funext avs H
    unfold F_spec_l2Yield F_spec_l2Yield_fuel
    split <;> first | rfl | (simp only [spec_l2Yield])
  rw [e]
  exact (spec_l2Yield_knot_all RR)


/-! loop.example/headtrees/spec.l3Row -/

def spec_l3Row_an : Ann := (.seq (.leaf [0]) (.seq (.block (.loop (.seq (.seq (.leaf [0, 5]) (.cond (.leaf [0]) (.leaf [0]))) (.block (.leaf [0]))))) (.seq (.leaf [2]) (.leaf [2]))))

noncomputable def spec_l3Row_ctx : Ctx := ⟨tlook tys, olook [], ioF, 0, false, []⟩

theorem spec_l3Row_n1_l (x5318 : Int) : Link spec_l3Row_ctx LL (Code.fst (bodyOf Tryd.f66)) (Ann.fst spec_l3Row_an) (⟨mkE 13 0 [(0, .dat (.int .i64) x5318)], []⟩ : St) (spec_l3Row_n1) (fun (t : Unit) => (Exit.normal, (⟨mkE 13 0 [(0, .dat (.int .i64) x5318)], []⟩ : St))) := by
  refine Link.of fun K h => ?_
  simp only [spec_l3Row_n1, wpO_bind, wpO_cond, wpO_map, wpO_some] at h
  exact Awp.of (by kernel_rfl) h

theorem spec_l3Row_n2_l (x5324 : Int) : Link spec_l3Row_ctx LL (Code.fst (Code.fst (Code.fst (Code.snd (bodyOf Tryd.f66))))) (Ann.fst (Ann.fst (Ann.fst (Ann.snd spec_l3Row_an)))) (⟨mkE 13 0 [(0, .dat (.int .i64) x5324)], []⟩ : St) (spec_l3Row_n2 x5324) (Sum.elim (fun (t : Int) => (Exit.normal, (⟨mkE 13 0 [(0, .dat (.int .i64) t)], []⟩ : St))) (fun (t : Int) => ((Exit.exit 0), (⟨mkE 13 0 [(0, .dat (.int .i64) t)], []⟩ : St)))) := by
  refine Link.of fun K h => ?_
  simp only [spec_l3Row_n2, wpO_bind, wpO_cond, wpO_map, wpO_some] at h
  exact Awp.of (by kernel_rfl) h

theorem spec_l3Row_n3_l (x5318 : Int) : Link spec_l3Row_ctx LL (Code.fst (Code.fst (Code.snd (bodyOf Tryd.f66)))) (Ann.fst (Ann.fst (Ann.snd spec_l3Row_an))) (⟨mkE 13 0 [(0, .dat (.int .i64) x5318)], []⟩ : St) (spec_l3Row_n3 x5318) (fun (t : Int) => ((Exit.exit 0), (⟨mkE 13 0 [(0, .dat (.int .i64) t)], []⟩ : St))) := by
  unfold spec_l3Row_n3
  exact Link.cast (by kernel_rfl) (by kernel_rfl) (link_loop (mk := fun (s : Int) => (⟨mkE 13 0 [(0, .dat (.int .i64) s)], []⟩ : St)) (fin := (fun (t : Int) => ((Exit.exit 0), (⟨mkE 13 0 [(0, .dat (.int .i64) t)], []⟩ : St)))) (by
  rintro t f K h
  · exact h) (fun s => link_map (spec_l3Row_n2_l s) (Sum.elim (fun (t : Int) => Sum.inl t) (fun (t : Int) => Sum.inr t)) (by
  rintro (t | t)
  · kernel_rfl
  · kernel_rfl)) x5318)

theorem spec_l3Row_n4_l (x5318 : Int) : Link spec_l3Row_ctx LL (Code.fst (Code.snd (bodyOf Tryd.f66))) (Ann.fst (Ann.snd spec_l3Row_an)) (⟨mkE 13 0 [(0, .dat (.int .i64) x5318)], []⟩ : St) (spec_l3Row_n4 x5318) (fun (t : Int) => (Exit.normal, (⟨mkE 13 0 [(0, .dat (.int .i64) t)], []⟩ : St))) := by
  unfold spec_l3Row_n4
  exact Link.cast (by kernel_rfl) (by kernel_rfl) (link_block (id := 0) (spec_l3Row_n3_l x5318) (fun (t : Int) => t) (by
  rintro t K h
  · exact Eq.mp (by kernel_rfl) h))

theorem spec_l3Row_n5_l (x5324 : Int) : Link spec_l3Row_ctx LL (Code.snd (Code.snd (bodyOf Tryd.f66))) (Ann.snd (Ann.snd spec_l3Row_an)) (⟨mkE 13 0 [(0, .dat (.int .i64) x5324)], []⟩ : St) (spec_l3Row_n5 x5324) (fun (t : Bool) => (Exit.ret, (⟨mkE 13 0 [(2, .dat .bool t)], []⟩ : St))) := by
  refine Link.of fun K h => ?_
  simp only [spec_l3Row_n5, wpO_bind, wpO_cond, wpO_map, wpO_some] at h
  exact Awp.of (by kernel_rfl) h

theorem spec_l3Row_n6_l (x5318 : Int) : Link spec_l3Row_ctx LL (Code.snd (bodyOf Tryd.f66)) (Ann.snd spec_l3Row_an) (⟨mkE 13 0 [(0, .dat (.int .i64) x5318)], []⟩ : St) (spec_l3Row_n6 x5318) (fun (t : Bool) => (Exit.ret, (⟨mkE 13 0 [(2, .dat .bool t)], []⟩ : St))) := by
  unfold spec_l3Row_n6
  exact Link.cast (by kernel_rfl) (by kernel_rfl) (link_seq (b := (Code.snd (Code.snd (bodyOf Tryd.f66)))) (y := (Ann.snd (Ann.snd spec_l3Row_an))) (spec_l3Row_n4_l x5318) (fun (t : Int) => (spec_l3Row_n5_l t)))

theorem spec_l3Row_n7_l (x5318 : Int) : Link spec_l3Row_ctx LL (bodyOf Tryd.f66) spec_l3Row_an (⟨mkE 13 0 [(0, .dat (.int .i64) x5318)], []⟩ : St) (spec_l3Row_n7 x5318) (fun (t : Bool) => (Exit.ret, (⟨mkE 13 0 [(2, .dat .bool t)], []⟩ : St))) := by
  unfold spec_l3Row_n7
  exact Link.cast (by kernel_rfl) (by kernel_rfl) (link_seq (b := (Code.snd (bodyOf Tryd.f66))) (y := (Ann.snd spec_l3Row_an)) (spec_l3Row_n1_l x5318) (fun (t : Unit) => (spec_l3Row_n6_l x5318)))

theorem spec_l3Row_e (x5318 : Int) {r : AV} {H' : Heap} (h : (Ans.mk _ (spec_l3Row x5318) (fun (t : Bool) => (.dat .bool t, [])) [] none).run = some (r, H')) : Awp spec_l3Row_ctx LL (bodyOf Tryd.f66) spec_l3Row_an (⟨mkE 13 0 [(0, .dat (.int .i64) x5318)], []⟩ : St) (Ret (tlook tys) Tryd.f66.results.toList r H') :=
  ret_of' (spec_l3Row_n7_l x5318) (by unfold spec_l3Row; kernel_rfl) (by
  intro t
  exact ret_mk [.dat .bool t] (by kernel_rfl) (by kernel_rfl) (by kernel_rfl) (by kernel_rfl)) h

def F_spec_l3Row : Fun := fun avs H =>
  match avs, H with
  | [.dat (.int .i64) x5318], [] => ⟨_, spec_l3Row x5318, fun (t : Bool) => (.dat .bool t, []), [], none⟩
  | _, _ => Ans.no

theorem spec_l3Row_sound : Sound Tryd.prog 66 F_spec_l3Row := by
  refine fn_sound' (C := spec_l3Row_ctx) (c := bodyOf Tryd.f66) (cok_of tys_ok (by simp) (by simp) (by kernel_rfl)) Tryd.func66 (by kernel_rfl) LL spec_l3Row_an ?_
  intro avs H r H' h
  unfold F_spec_l3Row at h
  split at h
  · refine Awp.cast ?_ ?_ ?_ (spec_l3Row_e _ h) <;> kernel_rfl
  · simp [Ans.no, Ans.run] at h


/-! loop.example/headtrees/spec.FlatOk -/

def spec_FlatOk_an : Ann := (.seq (.leaf [0]) (.seq (.seq (.leaf [0, 3]) (.block (.loop (.seq (.seq (.leaf [0, 3, 11]) (.cond (.leaf [0, 3]) (.leaf [0]))) (.seq (.block (.seq (.leaf [0, 3, 18]) (.cond (.seq (.leaf [2]) (.leaf [2])) (.leaf [0, 3])))) (.leaf [0, 3])))))) (.seq (.leaf [2]) (.leaf [2]))))

noncomputable def spec_FlatOk_ctx : Ctx := ⟨tlook tys, olook [(65, F_spec_TreeOk), (67, F_spec_l2Yield), (66, F_spec_l3Row)], ioF, 0, false, []⟩

theorem spec_FlatOk_n1_l (x5094 : List Int) : Link spec_FlatOk_ctx LL (Code.fst (bodyOf Tryd.f39)) (Ann.fst spec_FlatOk_an) (⟨mkE 21 0 [(0, .dat (.list (.int .i64)) x5094)], []⟩ : St) (spec_FlatOk_n1) (fun (t : Unit) => (Exit.normal, (⟨mkE 21 0 [(0, .dat (.list (.int .i64)) x5094)], []⟩ : St))) := by
  refine Link.of fun K h => ?_
  simp only [spec_FlatOk_n1, wpO_bind, wpO_cond, wpO_map, wpO_some] at h
  exact Awp.of (by kernel_rfl) h

theorem spec_FlatOk_n2_l (x5094 : List Int) : Link spec_FlatOk_ctx LL (Code.fst (Code.fst (Code.snd (bodyOf Tryd.f39)))) (Ann.fst (Ann.fst (Ann.snd spec_FlatOk_an))) (⟨mkE 21 0 [(0, .dat (.list (.int .i64)) x5094)], []⟩ : St) (spec_FlatOk_n2) (fun (t : Unit) => (Exit.normal, (⟨mkE 21 0 [(0, .dat (.list (.int .i64)) x5094), (3, .dat (.int .i64) 1)], []⟩ : St))) := by
  refine Link.of fun K h => ?_
  simp only [spec_FlatOk_n2, wpO_bind, wpO_cond, wpO_map, wpO_some] at h
  exact Awp.of (by kernel_rfl) h

theorem spec_FlatOk_n3_l (x5094 : List Int) (x5345 : Int) : Link spec_FlatOk_ctx LL (Code.fst (Code.fst (Code.snd (Code.fst (Code.snd (bodyOf Tryd.f39)))))) (Ann.fst (Ann.fst (Ann.snd (Ann.fst (Ann.snd spec_FlatOk_an))))) (⟨mkE 21 0 [(0, .dat (.list (.int .i64)) x5094), (3, .dat (.int .i64) x5345)], []⟩ : St) (spec_FlatOk_n3 x5094 x5345) (Sum.elim (fun (t : Int) => (Exit.normal, (⟨mkE 21 0 [(0, .dat (.list (.int .i64)) x5094), (3, .dat (.int .i64) t)], []⟩ : St))) (Sum.elim (fun (t : Bool) => (Exit.ret, (⟨mkE 21 0 [(2, .dat .bool t)], []⟩ : St))) (fun (t : Unit) => ((Exit.exit 0), (⟨mkE 21 0 [(0, .dat (.list (.int .i64)) x5094)], []⟩ : St))))) := by
  refine Link.of fun K h => ?_
  simp only [spec_FlatOk_n3, wpO_bind, wpO_cond, wpO_map, wpO_some] at h
  exact Awp.of (by kernel_rfl) h

theorem spec_FlatOk_n4_l (x5094 : List Int) : Link spec_FlatOk_ctx LL (Code.fst (Code.snd (Code.fst (Code.snd (bodyOf Tryd.f39))))) (Ann.fst (Ann.snd (Ann.fst (Ann.snd spec_FlatOk_an)))) (⟨mkE 21 0 [(0, .dat (.list (.int .i64)) x5094), (3, .dat (.int .i64) 1)], []⟩ : St) (spec_FlatOk_n4 x5094) (Sum.elim (fun (t : Bool) => (Exit.ret, (⟨mkE 21 0 [(2, .dat .bool t)], []⟩ : St))) (fun (t : Unit) => ((Exit.exit 0), (⟨mkE 21 0 [(0, .dat (.list (.int .i64)) x5094)], []⟩ : St)))) := by
  unfold spec_FlatOk_n4
  exact Link.cast (by kernel_rfl) (by kernel_rfl) (link_loop (mk := fun (s : Int) => (⟨mkE 21 0 [(0, .dat (.list (.int .i64)) x5094), (3, .dat (.int .i64) s)], []⟩ : St)) (fin := (Sum.elim (fun (t : Bool) => (Exit.ret, (⟨mkE 21 0 [(2, .dat .bool t)], []⟩ : St))) (fun (t : Unit) => ((Exit.exit 0), (⟨mkE 21 0 [(0, .dat (.list (.int .i64)) x5094)], []⟩ : St))))) (by
  rintro (t | t) f K h
  · exact h
  · exact h) (fun s => link_map (spec_FlatOk_n3_l x5094 s) (Sum.elim (fun (t : Int) => Sum.inl t) (Sum.elim (fun (t : Bool) => Sum.inr (Sum.inl t)) (fun (t : Unit) => Sum.inr (Sum.inr t)))) (by
  rintro (t | t | t)
  · kernel_rfl
  · kernel_rfl
  · kernel_rfl)) 1)

theorem spec_FlatOk_n5_l (x5094 : List Int) : Link spec_FlatOk_ctx LL (Code.snd (Code.fst (Code.snd (bodyOf Tryd.f39)))) (Ann.snd (Ann.fst (Ann.snd spec_FlatOk_an))) (⟨mkE 21 0 [(0, .dat (.list (.int .i64)) x5094), (3, .dat (.int .i64) 1)], []⟩ : St) (spec_FlatOk_n5 x5094) (Sum.elim (fun (t : Unit) => (Exit.normal, (⟨mkE 21 0 [(0, .dat (.list (.int .i64)) x5094)], []⟩ : St))) (fun (t : Bool) => (Exit.ret, (⟨mkE 21 0 [(2, .dat .bool t)], []⟩ : St)))) := by
  unfold spec_FlatOk_n5
  exact Link.cast (by kernel_rfl) (by kernel_rfl) (link_block (id := 0) (spec_FlatOk_n4_l x5094) (Sum.elim (fun (t : Bool) => (Sum.inr t)) (fun (t : Unit) => (Sum.inl ()))) (by
  rintro (t | t) K h
  · exact Eq.mp (by kernel_rfl) h
  · exact Eq.mp (by kernel_rfl) h))

theorem spec_FlatOk_n6_l (x5094 : List Int) : Link spec_FlatOk_ctx LL (Code.fst (Code.snd (bodyOf Tryd.f39))) (Ann.fst (Ann.snd spec_FlatOk_an)) (⟨mkE 21 0 [(0, .dat (.list (.int .i64)) x5094)], []⟩ : St) (spec_FlatOk_n6 x5094) (Sum.elim (fun (t : Unit) => (Exit.normal, (⟨mkE 21 0 [(0, .dat (.list (.int .i64)) x5094)], []⟩ : St))) (fun (t : Bool) => (Exit.ret, (⟨mkE 21 0 [(2, .dat .bool t)], []⟩ : St)))) := by
  unfold spec_FlatOk_n6
  exact Link.cast (by kernel_rfl) (by kernel_rfl) (link_seq (b := (Code.snd (Code.fst (Code.snd (bodyOf Tryd.f39))))) (y := (Ann.snd (Ann.fst (Ann.snd spec_FlatOk_an)))) (spec_FlatOk_n2_l x5094) (fun (t : Unit) => (spec_FlatOk_n5_l x5094)))

theorem spec_FlatOk_n7_l (x5094 : List Int) : Link spec_FlatOk_ctx LL (Code.snd (Code.snd (bodyOf Tryd.f39))) (Ann.snd (Ann.snd spec_FlatOk_an)) (⟨mkE 21 0 [(0, .dat (.list (.int .i64)) x5094)], []⟩ : St) (spec_FlatOk_n7 x5094) (fun (t : Bool) => (Exit.ret, (⟨mkE 21 0 [(2, .dat .bool t)], []⟩ : St))) := by
  refine Link.of fun K h => ?_
  simp only [spec_FlatOk_n7, wpO_bind, wpO_cond, wpO_map, wpO_some] at h
  exact Awp.of (by kernel_rfl) h

theorem spec_FlatOk_n8_l (x5094 : List Int) : Link spec_FlatOk_ctx LL (Code.snd (bodyOf Tryd.f39)) (Ann.snd spec_FlatOk_an) (⟨mkE 21 0 [(0, .dat (.list (.int .i64)) x5094)], []⟩ : St) (spec_FlatOk_n8 x5094) (fun (t : Bool) => (Exit.ret, (⟨mkE 21 0 [(2, .dat .bool t)], []⟩ : St))) := by
  unfold spec_FlatOk_n8
  exact Link.cast (by kernel_rfl) (by kernel_rfl) (link_seq2 (b := (Code.snd (Code.snd (bodyOf Tryd.f39)))) (y := (Ann.snd (Ann.snd spec_FlatOk_an))) (spec_FlatOk_n6_l x5094) (fun (t : Unit) => (spec_FlatOk_n7_l x5094)) (fun (t : Bool) => t) (by
  rintro t
  · kernel_rfl) (by
  rintro t f K h
  · exact h))

theorem spec_FlatOk_n9_l (x5094 : List Int) : Link spec_FlatOk_ctx LL (bodyOf Tryd.f39) spec_FlatOk_an (⟨mkE 21 0 [(0, .dat (.list (.int .i64)) x5094)], []⟩ : St) (spec_FlatOk_n9 x5094) (fun (t : Bool) => (Exit.ret, (⟨mkE 21 0 [(2, .dat .bool t)], []⟩ : St))) := by
  unfold spec_FlatOk_n9
  exact Link.cast (by kernel_rfl) (by kernel_rfl) (link_seq (b := (Code.snd (bodyOf Tryd.f39))) (y := (Ann.snd spec_FlatOk_an)) (spec_FlatOk_n1_l x5094) (fun (t : Unit) => (spec_FlatOk_n8_l x5094)))

theorem spec_FlatOk_e (x5094 : List Int) {r : AV} {H' : Heap} (h : (Ans.mk _ (spec_FlatOk x5094) (fun (t : Bool) => (.dat .bool t, [])) [] none).run = some (r, H')) : Awp spec_FlatOk_ctx LL (bodyOf Tryd.f39) spec_FlatOk_an (⟨mkE 21 0 [(0, .dat (.list (.int .i64)) x5094)], []⟩ : St) (Ret (tlook tys) Tryd.f39.results.toList r H') :=
  ret_of' (spec_FlatOk_n9_l x5094) (by unfold spec_FlatOk; kernel_rfl) (by
  intro t
  exact ret_mk [.dat .bool t] (by kernel_rfl) (by kernel_rfl) (by kernel_rfl) (by kernel_rfl)) h

def F_spec_FlatOk : Fun := fun avs H =>
  match avs, H with
  | [.dat (.list (.int .i64)) x5094], [] => ⟨_, spec_FlatOk x5094, fun (t : Bool) => (.dat .bool t, []), [], none⟩
  | _, _ => Ans.no

theorem spec_FlatOk_sound : Sound Tryd.prog 39 F_spec_FlatOk := by
  refine fn_sound' (C := spec_FlatOk_ctx) (c := bodyOf Tryd.f39) (cok_of tys_ok (List.forall_mem_cons.2 ⟨spec_TreeOk_sound, List.forall_mem_cons.2 ⟨spec_l2Yield_sound, List.forall_mem_cons.2 ⟨spec_l3Row_sound, by simp⟩⟩⟩) (List.forall_mem_cons.2 ⟨Tryd.call65, List.forall_mem_cons.2 ⟨Tryd.call67, List.forall_mem_cons.2 ⟨Tryd.call66, by simp⟩⟩⟩) (by kernel_rfl)) Tryd.func39 (by kernel_rfl) LL spec_FlatOk_an ?_
  intro avs H r H' h
  unfold F_spec_FlatOk at h
  split at h
  · refine Awp.cast ?_ ?_ ?_ (spec_FlatOk_e _ h) <;> kernel_rfl
  · simp [Ans.no, Ans.run] at h


/-! loop.example/headtrees/spec.l6Free -/

def spec_l6Free_an : Ann := (.seq (.leaf [0, 1, 2]) (.seq (.seq (.leaf [0, 1, 2, 7]) (.block (.loop (.seq (.seq (.leaf [0, 1, 2, 7, 11]) (.cond (.leaf [0, 1, 2, 7]) (.leaf []))) (.seq (.block (.seq (.leaf [0, 1, 2, 7, 26]) (.cond (.seq (.leaf [6]) (.leaf [6])) (.leaf [0, 1, 2, 7])))) (.leaf [0, 1, 2, 7])))))) (.seq (.leaf [6]) (.leaf [6]))))

noncomputable def spec_l6Free_ctx : Ctx := ⟨tlook tys, olook [], ioF, 0, false, []⟩

theorem spec_l6Free_n1_l (x5407 : List Int) (x5408 : Int) (x5409 : List Bool) : Link spec_l6Free_ctx LL (Code.fst (bodyOf Tryd.f40)) (Ann.fst spec_l6Free_an) (⟨mkE 27 0 [(0, .dat (.list (.int .i64)) x5407), (1, .dat (.int .i64) x5408), (2, .dat (.list .bool) x5409)], []⟩ : St) (spec_l6Free_n1) (fun (t : Unit) => (Exit.normal, (⟨mkE 27 0 [(0, .dat (.list (.int .i64)) x5407), (1, .dat (.int .i64) x5408), (2, .dat (.list .bool) x5409)], []⟩ : St))) := by
  refine Link.of fun K h => ?_
  simp only [spec_l6Free_n1, wpO_bind, wpO_cond, wpO_map, wpO_some] at h
  exact Awp.of (by kernel_rfl) h

theorem spec_l6Free_n2_l (x5407 : List Int) (x5408 : Int) (x5409 : List Bool) : Link spec_l6Free_ctx LL (Code.fst (Code.fst (Code.snd (bodyOf Tryd.f40)))) (Ann.fst (Ann.fst (Ann.snd spec_l6Free_an))) (⟨mkE 27 0 [(0, .dat (.list (.int .i64)) x5407), (1, .dat (.int .i64) x5408), (2, .dat (.list .bool) x5409)], []⟩ : St) (spec_l6Free_n2) (fun (t : Unit) => (Exit.normal, (⟨mkE 27 0 [(0, .dat (.list (.int .i64)) x5407), (1, .dat (.int .i64) x5408), (2, .dat (.list .bool) x5409), (7, .dat (.int .i64) 0)], []⟩ : St))) := by
  refine Link.of fun K h => ?_
  simp only [spec_l6Free_n2, wpO_bind, wpO_cond, wpO_map, wpO_some] at h
  exact Awp.of (by kernel_rfl) h

theorem spec_l6Free_n3_l (x5407 : List Int) (x5408 : Int) (x5409 : List Bool) (x5427 : Int) : Link spec_l6Free_ctx LL (Code.fst (Code.fst (Code.snd (Code.fst (Code.snd (bodyOf Tryd.f40)))))) (Ann.fst (Ann.fst (Ann.snd (Ann.fst (Ann.snd spec_l6Free_an))))) (⟨mkE 27 0 [(0, .dat (.list (.int .i64)) x5407), (1, .dat (.int .i64) x5408), (2, .dat (.list .bool) x5409), (7, .dat (.int .i64) x5427)], []⟩ : St) (spec_l6Free_n3 x5407 x5408 x5409 x5427) (Sum.elim (fun (t : Int) => (Exit.normal, (⟨mkE 27 0 [(0, .dat (.list (.int .i64)) x5407), (1, .dat (.int .i64) x5408), (2, .dat (.list .bool) x5409), (7, .dat (.int .i64) t)], []⟩ : St))) (Sum.elim (fun (t : Bool) => (Exit.ret, (⟨mkE 27 0 [(6, .dat .bool t)], []⟩ : St))) (fun (t : Unit) => ((Exit.exit 0), (⟨mkE 27 0 [], []⟩ : St))))) := by
  refine Link.of fun K h => ?_
  simp only [spec_l6Free_n3, wpO_bind, wpO_cond, wpO_map, wpO_some] at h
  exact Awp.of (by kernel_rfl) h

theorem spec_l6Free_n4_l (x5407 : List Int) (x5408 : Int) (x5409 : List Bool) : Link spec_l6Free_ctx LL (Code.fst (Code.snd (Code.fst (Code.snd (bodyOf Tryd.f40))))) (Ann.fst (Ann.snd (Ann.fst (Ann.snd spec_l6Free_an)))) (⟨mkE 27 0 [(0, .dat (.list (.int .i64)) x5407), (1, .dat (.int .i64) x5408), (2, .dat (.list .bool) x5409), (7, .dat (.int .i64) 0)], []⟩ : St) (spec_l6Free_n4 x5407 x5408 x5409) (Sum.elim (fun (t : Bool) => (Exit.ret, (⟨mkE 27 0 [(6, .dat .bool t)], []⟩ : St))) (fun (t : Unit) => ((Exit.exit 0), (⟨mkE 27 0 [], []⟩ : St)))) := by
  unfold spec_l6Free_n4
  exact Link.cast (by kernel_rfl) (by kernel_rfl) (link_loop (mk := fun (s : Int) => (⟨mkE 27 0 [(0, .dat (.list (.int .i64)) x5407), (1, .dat (.int .i64) x5408), (2, .dat (.list .bool) x5409), (7, .dat (.int .i64) s)], []⟩ : St)) (fin := (Sum.elim (fun (t : Bool) => (Exit.ret, (⟨mkE 27 0 [(6, .dat .bool t)], []⟩ : St))) (fun (t : Unit) => ((Exit.exit 0), (⟨mkE 27 0 [], []⟩ : St))))) (by
  rintro (t | t) f K h
  · exact h
  · exact h) (fun s => link_map (spec_l6Free_n3_l x5407 x5408 x5409 s) (Sum.elim (fun (t : Int) => Sum.inl t) (Sum.elim (fun (t : Bool) => Sum.inr (Sum.inl t)) (fun (t : Unit) => Sum.inr (Sum.inr t)))) (by
  rintro (t | t | t)
  · kernel_rfl
  · kernel_rfl
  · kernel_rfl)) 0)

theorem spec_l6Free_n5_l (x5407 : List Int) (x5408 : Int) (x5409 : List Bool) : Link spec_l6Free_ctx LL (Code.snd (Code.fst (Code.snd (bodyOf Tryd.f40)))) (Ann.snd (Ann.fst (Ann.snd spec_l6Free_an))) (⟨mkE 27 0 [(0, .dat (.list (.int .i64)) x5407), (1, .dat (.int .i64) x5408), (2, .dat (.list .bool) x5409), (7, .dat (.int .i64) 0)], []⟩ : St) (spec_l6Free_n5 x5407 x5408 x5409) (Sum.elim (fun (t : Unit) => (Exit.normal, (⟨mkE 27 0 [], []⟩ : St))) (fun (t : Bool) => (Exit.ret, (⟨mkE 27 0 [(6, .dat .bool t)], []⟩ : St)))) := by
  unfold spec_l6Free_n5
  exact Link.cast (by kernel_rfl) (by kernel_rfl) (link_block (id := 0) (spec_l6Free_n4_l x5407 x5408 x5409) (Sum.elim (fun (t : Bool) => (Sum.inr t)) (fun (t : Unit) => (Sum.inl ()))) (by
  rintro (t | t) K h
  · exact Eq.mp (by kernel_rfl) h
  · exact Eq.mp (by kernel_rfl) h))

theorem spec_l6Free_n6_l (x5407 : List Int) (x5408 : Int) (x5409 : List Bool) : Link spec_l6Free_ctx LL (Code.fst (Code.snd (bodyOf Tryd.f40))) (Ann.fst (Ann.snd spec_l6Free_an)) (⟨mkE 27 0 [(0, .dat (.list (.int .i64)) x5407), (1, .dat (.int .i64) x5408), (2, .dat (.list .bool) x5409)], []⟩ : St) (spec_l6Free_n6 x5407 x5408 x5409) (Sum.elim (fun (t : Unit) => (Exit.normal, (⟨mkE 27 0 [], []⟩ : St))) (fun (t : Bool) => (Exit.ret, (⟨mkE 27 0 [(6, .dat .bool t)], []⟩ : St)))) := by
  unfold spec_l6Free_n6
  exact Link.cast (by kernel_rfl) (by kernel_rfl) (link_seq (b := (Code.snd (Code.fst (Code.snd (bodyOf Tryd.f40))))) (y := (Ann.snd (Ann.fst (Ann.snd spec_l6Free_an)))) (spec_l6Free_n2_l x5407 x5408 x5409) (fun (t : Unit) => (spec_l6Free_n5_l x5407 x5408 x5409)))

theorem spec_l6Free_n7_l : Link spec_l6Free_ctx LL (Code.snd (Code.snd (bodyOf Tryd.f40))) (Ann.snd (Ann.snd spec_l6Free_an)) (⟨mkE 27 0 [], []⟩ : St) (spec_l6Free_n7) (fun (t : Bool) => (Exit.ret, (⟨mkE 27 0 [(6, .dat .bool t)], []⟩ : St))) := by
  refine Link.of fun K h => ?_
  simp only [spec_l6Free_n7, wpO_bind, wpO_cond, wpO_map, wpO_some] at h
  exact Awp.of (by kernel_rfl) h

theorem spec_l6Free_n8_l (x5407 : List Int) (x5408 : Int) (x5409 : List Bool) : Link spec_l6Free_ctx LL (Code.snd (bodyOf Tryd.f40)) (Ann.snd spec_l6Free_an) (⟨mkE 27 0 [(0, .dat (.list (.int .i64)) x5407), (1, .dat (.int .i64) x5408), (2, .dat (.list .bool) x5409)], []⟩ : St) (spec_l6Free_n8 x5407 x5408 x5409) (fun (t : Bool) => (Exit.ret, (⟨mkE 27 0 [(6, .dat .bool t)], []⟩ : St))) := by
  unfold spec_l6Free_n8
  exact Link.cast (by kernel_rfl) (by kernel_rfl) (link_seq2 (b := (Code.snd (Code.snd (bodyOf Tryd.f40)))) (y := (Ann.snd (Ann.snd spec_l6Free_an))) (spec_l6Free_n6_l x5407 x5408 x5409) (fun (t : Unit) => (spec_l6Free_n7_l)) (fun (t : Bool) => t) (by
  rintro t
  · kernel_rfl) (by
  rintro t f K h
  · exact h))

theorem spec_l6Free_n9_l (x5407 : List Int) (x5408 : Int) (x5409 : List Bool) : Link spec_l6Free_ctx LL (bodyOf Tryd.f40) spec_l6Free_an (⟨mkE 27 0 [(0, .dat (.list (.int .i64)) x5407), (1, .dat (.int .i64) x5408), (2, .dat (.list .bool) x5409)], []⟩ : St) (spec_l6Free_n9 x5407 x5408 x5409) (fun (t : Bool) => (Exit.ret, (⟨mkE 27 0 [(6, .dat .bool t)], []⟩ : St))) := by
  unfold spec_l6Free_n9
  exact Link.cast (by kernel_rfl) (by kernel_rfl) (link_seq (b := (Code.snd (bodyOf Tryd.f40))) (y := (Ann.snd spec_l6Free_an)) (spec_l6Free_n1_l x5407 x5408 x5409) (fun (t : Unit) => (spec_l6Free_n8_l x5407 x5408 x5409)))

theorem spec_l6Free_e (x5407 : List Int) (x5408 : Int) (x5409 : List Bool) {r : AV} {H' : Heap} (h : (Ans.mk _ (spec_l6Free x5407 x5408 x5409) (fun (t : Bool) => (.dat .bool t, [])) [] none).run = some (r, H')) : Awp spec_l6Free_ctx LL (bodyOf Tryd.f40) spec_l6Free_an (⟨mkE 27 0 [(0, .dat (.list (.int .i64)) x5407), (1, .dat (.int .i64) x5408), (2, .dat (.list .bool) x5409)], []⟩ : St) (Ret (tlook tys) Tryd.f40.results.toList r H') :=
  ret_of' (spec_l6Free_n9_l x5407 x5408 x5409) (by unfold spec_l6Free; kernel_rfl) (by
  intro t
  exact ret_mk [.dat .bool t] (by kernel_rfl) (by kernel_rfl) (by kernel_rfl) (by kernel_rfl)) h

def F_spec_l6Free : Fun := fun avs H =>
  match avs, H with
  | [.dat (.list (.int .i64)) x5407, .dat (.int .i64) x5408, .dat (.list .bool) x5409], [] => ⟨_, spec_l6Free x5407 x5408 x5409, fun (t : Bool) => (.dat .bool t, []), [], none⟩
  | _, _ => Ans.no

theorem spec_l6Free_sound : Sound Tryd.prog 40 F_spec_l6Free := by
  refine fn_sound' (C := spec_l6Free_ctx) (c := bodyOf Tryd.f40) (cok_of tys_ok (by simp) (by simp) (by kernel_rfl)) Tryd.func40 (by kernel_rfl) LL spec_l6Free_an ?_
  intro avs H r H' h
  unfold F_spec_l6Free at h
  split at h
  · refine Awp.cast ?_ ?_ ?_ (spec_l6Free_e _ _ _ h) <;> kernel_rfl
  · simp [Ans.no, Ans.run] at h


/-! loop.example/headtrees/spec.MovesFor -/

def spec_MovesFor_an : Ann := (.seq (.leaf [0]) (.seq (.seq (.leaf [0, 11]) (.cond (.seq (.leaf [2, 3]) (.leaf [2, 3])) (.leaf [0]))) (.seq (.leaf [0, 4]) (.seq (.leaf [0, 4, 5]) (.seq (.leaf [0, 4, 5, 6]) (.seq (.leaf [0, 4, 5, 6, 7]) (.seq (.block (.loop (.seq (.seq (.leaf [0, 4, 5, 6, 7, 24]) (.cond (.leaf [0, 4, 5, 6, 7]) (.leaf [6]))) (.block (.seq (.leaf [0, 4, 5, 6, 7, 8]) (.block (.seq (.draw [26] [0, 1, 2, 3, 4, 5, 6, 7, 8, 9, 10, 11, 12, 13, 14, 15, 16, 17, 18, 19, 20, 21, 22, 23, 24, 25, 26, 27, 28] [] [0, 4, 5, 6, 7, 8, 36]) (.cond (.seq (.leaf [0, 4, 5, 6, 7, 8]) (.seq (.leaf [0, 4, 5, 6, 7, 8]) (.draw [5, 0, 10] [0, 1, 2, 3, 4, 6, 7, 8, 9, 10, 5, 11, 12] [] [0, 4, 5, 6, 7]))) (.seq (.draw [25] [0, 1, 2, 3, 4, 5, 6, 7, 8, 9, 10, 11, 12, 13, 14, 15, 16, 17, 18, 19, 20, 21, 22, 23, 24, 25, 26, 27] [] [0, 4, 5, 6, 7, 8, 87]) (.cond (.seq (.leaf [0, 4, 5, 6, 7, 8]) (.seq (.leaf [0, 4, 5, 6, 7, 8]) (.leaf [0, 4, 5, 6, 7]))) (.seq (.leaf [0, 4, 5, 6, 7]) (.seq (.leaf [0, 4, 5, 6, 7]) (.leaf [0, 4, 5, 6, 7]))))))))))))) (.seq (.leaf [2, 3]) (.leaf [2, 3])))))))))

noncomputable def spec_MovesFor_ctx : Ctx := ⟨tlook tys, olook [(39, F_spec_FlatOk), (40, F_spec_l6Free)], ioF, 0, false, []⟩

theorem spec_MovesFor_n1_l (x5093 : List Int) : Link spec_MovesFor_ctx LL (Code.seq (Code.fst (bodyOf Tryd.f17)) (Code.seq (Code.fst (Code.snd (bodyOf Tryd.f17))) (Code.seq (Code.fst (Code.snd (Code.snd (bodyOf Tryd.f17)))) (Code.seq (Code.fst (Code.snd (Code.snd (Code.snd (bodyOf Tryd.f17))))) (Code.seq (Code.fst (Code.snd (Code.snd (Code.snd (Code.snd (bodyOf Tryd.f17)))))) (Code.fst (Code.snd (Code.snd (Code.snd (Code.snd (Code.snd (bodyOf Tryd.f17)))))))))))) (Ann.seq (Ann.fst spec_MovesFor_an) (Ann.seq (Ann.fst (Ann.snd spec_MovesFor_an)) (Ann.seq (Ann.fst (Ann.snd (Ann.snd spec_MovesFor_an))) (Ann.seq (Ann.fst (Ann.snd (Ann.snd (Ann.snd spec_MovesFor_an)))) (Ann.seq (Ann.fst (Ann.snd (Ann.snd (Ann.snd (Ann.snd spec_MovesFor_an))))) (Ann.fst (Ann.snd (Ann.snd (Ann.snd (Ann.snd (Ann.snd spec_MovesFor_an))))))))))) (⟨mkE 130 0 [(0, .dat (.list (.int .i64)) x5093)], []⟩ : St) (spec_MovesFor_n1 x5093) (Sum.elim (fun (t : (List Bool)) => (Exit.normal, (⟨mkE 130 0 [(0, .dat (.list (.int .i64)) x5093), (4, .slc 0), (5, .slc 1), (6, .dat .str ByteArray.empty), (7, .dat (.int .i64) 1)], [some (.seq .bool t), some (.seq (.int .i64) ([] : List Int))]⟩ : St))) (fun (t : ByteArray × Bool) => (Exit.ret, (⟨mkE 130 0 [(2, .dat .str t.1), (3, .dat .bool t.2)], []⟩ : St)))) := by
  refine Link.of fun K h => ?_
  simp only [spec_MovesFor_n1, wpO_bind, wpO_cond, wpO_map, wpO_some] at h
  exact Awp.of (by kernel_rfl) h

theorem spec_MovesFor_n2_l (x5093 : List Int) (x5927 : ByteArray) (x5928 : Int) (x5929 : List Bool) (x5930 : List Int) : Link spec_MovesFor_ctx LL (Code.fst (Code.fst (Code.fst (Code.fst (Code.snd (Code.snd (Code.snd (Code.snd (Code.snd (Code.snd (bodyOf Tryd.f17))))))))))) (Ann.fst (Ann.fst (Ann.fst (Ann.fst (Ann.snd (Ann.snd (Ann.snd (Ann.snd (Ann.snd (Ann.snd spec_MovesFor_an)))))))))) (⟨mkE 130 0 [(0, .dat (.list (.int .i64)) x5093), (4, .slc 0), (5, .slc 1), (6, .dat .str x5927), (7, .dat (.int .i64) x5928)], [some (.seq .bool x5929), some (.seq (.int .i64) x5930)]⟩ : St) (spec_MovesFor_n2 x5093 x5927 x5928 x5930) (Sum.elim (fun (t : Unit) => (Exit.normal, (⟨mkE 130 0 [(0, .dat (.list (.int .i64)) x5093), (4, .slc 0), (5, .slc 1), (6, .dat .str x5927), (7, .dat (.int .i64) x5928)], [some (.seq .bool x5929), some (.seq (.int .i64) x5930)]⟩ : St))) (fun (t : ByteArray) => ((Exit.exit 0), (⟨mkE 130 0 [(6, .dat .str t)], []⟩ : St)))) := by
  refine Link.of fun K h => ?_
  simp only [spec_MovesFor_n2, wpO_bind, wpO_cond, wpO_map, wpO_some] at h
  exact Awp.of (by kernel_rfl) h

theorem spec_MovesFor_n3_l (x5093 : List Int) (x5927 : ByteArray) (x5928 : Int) (x5929 : List Bool) (x5930 : List Int) : Link spec_MovesFor_ctx LL (Code.snd (Code.fst (Code.fst (Code.fst (Code.snd (Code.snd (Code.snd (Code.snd (Code.snd (Code.snd (bodyOf Tryd.f17))))))))))) (Ann.snd (Ann.fst (Ann.fst (Ann.fst (Ann.snd (Ann.snd (Ann.snd (Ann.snd (Ann.snd (Ann.snd spec_MovesFor_an)))))))))) (⟨mkE 130 0 [(0, .dat (.list (.int .i64)) x5093), (4, .slc 0), (5, .slc 1), (6, .dat .str x5927), (7, .dat (.int .i64) x5928)], [some (.seq .bool x5929), some (.seq (.int .i64) x5930)]⟩ : St) (spec_MovesFor_n3 x5093 x5927 x5928 x5929 x5930) (fun (t : ByteArray × Int × (List Bool) × (List Int)) => (Exit.normal, (⟨mkE 130 0 [(0, .dat (.list (.int .i64)) x5093), (4, .slc 0), (5, .slc 1), (6, .dat .str t.1), (7, .dat (.int .i64) t.2.1)], [some (.seq .bool t.2.2.1), some (.seq (.int .i64) t.2.2.2)]⟩ : St))) := by
  refine Link.of fun K h => ?_
  simp only [spec_MovesFor_n3, wpO_bind, wpO_cond, wpO_map, wpO_some] at h
  exact Awp.of (by kernel_rfl) h

theorem spec_MovesFor_n4_l (x5093 : List Int) (x5927 : ByteArray) (x5928 : Int) (x5929 : List Bool) (x5930 : List Int) : Link spec_MovesFor_ctx LL (Code.fst (Code.fst (Code.fst (Code.snd (Code.snd (Code.snd (Code.snd (Code.snd (Code.snd (bodyOf Tryd.f17)))))))))) (Ann.fst (Ann.fst (Ann.fst (Ann.snd (Ann.snd (Ann.snd (Ann.snd (Ann.snd (Ann.snd spec_MovesFor_an))))))))) (⟨mkE 130 0 [(0, .dat (.list (.int .i64)) x5093), (4, .slc 0), (5, .slc 1), (6, .dat .str x5927), (7, .dat (.int .i64) x5928)], [some (.seq .bool x5929), some (.seq (.int .i64) x5930)]⟩ : St) (spec_MovesFor_n4 x5093 x5927 x5928 x5929 x5930) (Sum.elim (fun (t : ByteArray × Int × (List Bool) × (List Int)) => (Exit.normal, (⟨mkE 130 0 [(0, .dat (.list (.int .i64)) x5093), (4, .slc 0), (5, .slc 1), (6, .dat .str t.1), (7, .dat (.int .i64) t.2.1)], [some (.seq .bool t.2.2.1), some (.seq (.int .i64) t.2.2.2)]⟩ : St))) (fun (t : ByteArray) => ((Exit.exit 0), (⟨mkE 130 0 [(6, .dat .str t)], []⟩ : St)))) := by
  unfold spec_MovesFor_n4
  exact Link.cast (by kernel_rfl) (by kernel_rfl) (link_seq2 (b := (Code.snd (Code.fst (Code.fst (Code.fst (Code.snd (Code.snd (Code.snd (Code.snd (Code.snd (Code.snd (bodyOf Tryd.f17)))))))))))) (y := (Ann.snd (Ann.fst (Ann.fst (Ann.fst (Ann.snd (Ann.snd (Ann.snd (Ann.snd (Ann.snd (Ann.snd spec_MovesFor_an))))))))))) (spec_MovesFor_n2_l x5093 x5927 x5928 x5929 x5930) (fun (t : Unit) => (link_map (spec_MovesFor_n3_l x5093 x5927 x5928 x5929 x5930) (fun (t : ByteArray × Int × (List Bool) × (List Int)) => (Sum.inl (t.1, t.2.1, t.2.2.1, t.2.2.2))) (by
  rintro t
  · kernel_rfl))) (fun (t : ByteArray) => (Sum.inr t)) (by
  rintro t
  · kernel_rfl) (by
  rintro t f K h
  · exact h))

theorem spec_MovesFor_n5_l (x5093 : List Int) (x5529 : List Bool) : Link spec_MovesFor_ctx LL (Code.fst (Code.fst (Code.snd (Code.snd (Code.snd (Code.snd (Code.snd (Code.snd (bodyOf Tryd.f17))))))))) (Ann.fst (Ann.fst (Ann.snd (Ann.snd (Ann.snd (Ann.snd (Ann.snd (Ann.snd spec_MovesFor_an)))))))) (⟨mkE 130 0 [(0, .dat (.list (.int .i64)) x5093), (4, .slc 0), (5, .slc 1), (6, .dat .str ByteArray.empty), (7, .dat (.int .i64) 1)], [some (.seq .bool x5529), some (.seq (.int .i64) ([] : List Int))]⟩ : St) (spec_MovesFor_n5 x5093 x5529) (fun (t : ByteArray) => ((Exit.exit 0), (⟨mkE 130 0 [(6, .dat .str t)], []⟩ : St))) := by
  unfold spec_MovesFor_n5
  exact Link.cast (by kernel_rfl) (by kernel_rfl) (link_loop (mk := fun (s : ByteArray × Int × (List Bool) × (List Int)) => (⟨mkE 130 0 [(0, .dat (.list (.int .i64)) x5093), (4, .slc 0), (5, .slc 1), (6, .dat .str s.1), (7, .dat (.int .i64) s.2.1)], [some (.seq .bool s.2.2.1), some (.seq (.int .i64) s.2.2.2)]⟩ : St)) (fin := (fun (t : ByteArray) => ((Exit.exit 0), (⟨mkE 130 0 [(6, .dat .str t)], []⟩ : St)))) (by
  rintro t f K h
  · exact h) (fun s => link_map (spec_MovesFor_n4_l x5093 s.1 s.2.1 s.2.2.1 s.2.2.2) (Sum.elim (fun (t : ByteArray × Int × (List Bool) × (List Int)) => Sum.inl (t.1, t.2.1, t.2.2.1, t.2.2.2)) (fun (t : ByteArray) => Sum.inr t)) (by
  rintro (t | t)
  · kernel_rfl
  · kernel_rfl)) (ByteArray.empty, 1, x5529, ([] : List Int)))

theorem spec_MovesFor_n6_l (x5093 : List Int) (x5529 : List Bool) : Link spec_MovesFor_ctx LL (Code.fst (Code.snd (Code.snd (Code.snd (Code.snd (Code.snd (Code.snd (bodyOf Tryd.f17)))))))) (Ann.fst (Ann.snd (Ann.snd (Ann.snd (Ann.snd (Ann.snd (Ann.snd spec_MovesFor_an))))))) (⟨mkE 130 0 [(0, .dat (.list (.int .i64)) x5093), (4, .slc 0), (5, .slc 1), (6, .dat .str ByteArray.empty), (7, .dat (.int .i64) 1)], [some (.seq .bool x5529), some (.seq (.int .i64) ([] : List Int))]⟩ : St) (spec_MovesFor_n6 x5093 x5529) (fun (t : ByteArray) => (Exit.normal, (⟨mkE 130 0 [(6, .dat .str t)], []⟩ : St))) := by
  unfold spec_MovesFor_n6
  exact Link.cast (by kernel_rfl) (by kernel_rfl) (link_block (id := 0) (spec_MovesFor_n5_l x5093 x5529) (fun (t : ByteArray) => t) (by
  rintro t K h
  · exact Eq.mp (by kernel_rfl) h))

theorem spec_MovesFor_n7_l (x5927 : ByteArray) : Link spec_MovesFor_ctx LL (Code.snd (Code.snd (Code.snd (Code.snd (Code.snd (Code.snd (Code.snd (bodyOf Tryd.f17)))))))) (Ann.snd (Ann.snd (Ann.snd (Ann.snd (Ann.snd (Ann.snd (Ann.snd spec_MovesFor_an))))))) (⟨mkE 130 0 [(6, .dat .str x5927)], []⟩ : St) (spec_MovesFor_n7 x5927) (fun (t : ByteArray × Bool) => (Exit.ret, (⟨mkE 130 0 [(2, .dat .str t.1), (3, .dat .bool t.2)], []⟩ : St))) := by
  refine Link.of fun K h => ?_
  simp only [spec_MovesFor_n7, wpO_bind, wpO_cond, wpO_map, wpO_some] at h
  exact Awp.of (by kernel_rfl) h

theorem spec_MovesFor_n8_l (x5093 : List Int) (x5529 : List Bool) : Link spec_MovesFor_ctx LL (Code.snd (Code.snd (Code.snd (Code.snd (Code.snd (Code.snd (bodyOf Tryd.f17))))))) (Ann.snd (Ann.snd (Ann.snd (Ann.snd (Ann.snd (Ann.snd spec_MovesFor_an)))))) (⟨mkE 130 0 [(0, .dat (.list (.int .i64)) x5093), (4, .slc 0), (5, .slc 1), (6, .dat .str ByteArray.empty), (7, .dat (.int .i64) 1)], [some (.seq .bool x5529), some (.seq (.int .i64) ([] : List Int))]⟩ : St) (spec_MovesFor_n8 x5093 x5529) (fun (t : ByteArray × Bool) => (Exit.ret, (⟨mkE 130 0 [(2, .dat .str t.1), (3, .dat .bool t.2)], []⟩ : St))) := by
  unfold spec_MovesFor_n8
  exact Link.cast (by kernel_rfl) (by kernel_rfl) (link_seq (b := (Code.snd (Code.snd (Code.snd (Code.snd (Code.snd (Code.snd (Code.snd (bodyOf Tryd.f17))))))))) (y := (Ann.snd (Ann.snd (Ann.snd (Ann.snd (Ann.snd (Ann.snd (Ann.snd spec_MovesFor_an)))))))) (spec_MovesFor_n6_l x5093 x5529) (fun (t : ByteArray) => (spec_MovesFor_n7_l t)))

theorem spec_MovesFor_n9_l (x5093 : List Int) : Link spec_MovesFor_ctx LL (bodyOf Tryd.f17) spec_MovesFor_an (⟨mkE 130 0 [(0, .dat (.list (.int .i64)) x5093)], []⟩ : St) (spec_MovesFor_n9 x5093) (fun (t : ByteArray × Bool) => (Exit.ret, (⟨mkE 130 0 [(2, .dat .str t.1), (3, .dat .bool t.2)], []⟩ : St))) := by
  unfold spec_MovesFor_n9
  exact Link.cast (by kernel_rfl) (by kernel_rfl) (link_group (c := (Code.fst (Code.snd (Code.snd (Code.snd (Code.snd (Code.snd (bodyOf Tryd.f17)))))))) (a := (Ann.fst (Ann.snd (Ann.snd (Ann.snd (Ann.snd (Ann.snd spec_MovesFor_an))))))) [(Code.fst (bodyOf Tryd.f17)), (Code.fst (Code.snd (bodyOf Tryd.f17))), (Code.fst (Code.snd (Code.snd (bodyOf Tryd.f17)))), (Code.fst (Code.snd (Code.snd (Code.snd (bodyOf Tryd.f17))))), (Code.fst (Code.snd (Code.snd (Code.snd (Code.snd (bodyOf Tryd.f17))))))] [(Ann.fst spec_MovesFor_an), (Ann.fst (Ann.snd spec_MovesFor_an)), (Ann.fst (Ann.snd (Ann.snd spec_MovesFor_an))), (Ann.fst (Ann.snd (Ann.snd (Ann.snd spec_MovesFor_an)))), (Ann.fst (Ann.snd (Ann.snd (Ann.snd (Ann.snd spec_MovesFor_an)))))] rfl (link_seq2 (b := (Code.snd (Code.snd (Code.snd (Code.snd (Code.snd (Code.snd (bodyOf Tryd.f17)))))))) (y := (Ann.snd (Ann.snd (Ann.snd (Ann.snd (Ann.snd (Ann.snd spec_MovesFor_an))))))) (spec_MovesFor_n1_l x5093) (fun (t : (List Bool)) => (spec_MovesFor_n8_l x5093 t)) (fun (t : ByteArray × Bool) => t) (by
  rintro t
  · kernel_rfl) (by
  rintro t f K h
  · exact h)))

theorem spec_MovesFor_e (x5093 : List Int) {r : AV} {H' : Heap} (h : (Ans.mk _ (spec_MovesFor x5093) (fun (t : ByteArray × Bool) => (.tup [.dat .str t.1, .dat .bool t.2], [])) [] none).run = some (r, H')) : Awp spec_MovesFor_ctx LL (bodyOf Tryd.f17) spec_MovesFor_an (⟨mkE 130 0 [(0, .dat (.list (.int .i64)) x5093)], []⟩ : St) (Ret (tlook tys) Tryd.f17.results.toList r H') :=
  ret_of' (spec_MovesFor_n9_l x5093) (by unfold spec_MovesFor; kernel_rfl) (by
  intro t
  exact ret_mk [.dat .str t.1, .dat .bool t.2] (by kernel_rfl) (by kernel_rfl) (by kernel_rfl) (by kernel_rfl)) h

def F_spec_MovesFor : Fun := fun avs H =>
  match avs, H with
  | [.dat (.list (.int .i64)) x5093], [] => ⟨_, spec_MovesFor x5093, fun (t : ByteArray × Bool) => (.tup [.dat .str t.1, .dat .bool t.2], []), [], none⟩
  | _, _ => Ans.no

theorem spec_MovesFor_sound : Sound Tryd.prog 17 F_spec_MovesFor := by
  refine fn_sound' (C := spec_MovesFor_ctx) (c := bodyOf Tryd.f17) (cok_of tys_ok (List.forall_mem_cons.2 ⟨spec_FlatOk_sound, List.forall_mem_cons.2 ⟨spec_l6Free_sound, by simp⟩⟩) (List.forall_mem_cons.2 ⟨Tryd.call39, List.forall_mem_cons.2 ⟨Tryd.call40, by simp⟩⟩) (by kernel_rfl)) Tryd.func17 (by kernel_rfl) LL spec_MovesFor_an ?_
  intro avs H r H' h
  unfold F_spec_MovesFor at h
  split at h
  · refine Awp.cast ?_ ?_ ?_ (spec_MovesFor_e _ h) <;> kernel_rfl
  · simp [Ans.no, Ans.run] at h


/-! loop.example/headtrees/laws.FnMovesFor -/

def laws_FnMovesFor_an : Ann := (.seq (.leaf [0]) (.seq (.seq (.leaf [0, 17]) (.cond (.seq (.leaf [2]) (.leaf [2])) (.leaf [0]))) (.seq (.leaf [3]) (.seq (.leaf [3, 4, 5]) (.seq (.leaf [3, 4, 5, 6, 7]) (.seq (.seq (.leaf [3, 4, 5, 37]) (.cond (.seq (.leaf [2]) (.leaf [2])) (.leaf [3, 4, 5]))) (.seq (.seq (.leaf [3, 4, 39]) (.cond (.seq (.leaf [2]) (.leaf [2])) (.leaf [3, 4]))) (.seq (.leaf [3, 4, 8]) (.seq (.leaf [3, 4, 8, 9]) (.seq (.seq (.leaf [3, 4, 8, 9, 10]) (.block (.loop (.seq (.seq (.leaf [3, 4, 8, 9, 10, 53]) (.cond (.leaf [3, 4, 8, 9, 10]) (.leaf [3, 4, 8, 9]))) (.seq (.block (.seq (.seq (.leaf [3, 4, 8, 9, 10, 59]) (.cond (.leaf [3, 4, 8, 9, 10]) (.leaf [3, 4, 8, 9, 10]))) (.seq (.leaf [3, 4, 8, 9, 10, 65]) (.cond (.leaf [3, 4, 8, 9, 10]) (.leaf [3, 4, 8, 9, 10]))))) (.leaf [3, 4, 8, 9, 10])))))) (.seq (.leaf [3, 4, 8, 9, 11]) (.seq (.seq (.leaf [3, 4, 8, 9, 11, 12]) (.block (.loop (.seq (.seq (.leaf [3, 4, 8, 9, 11, 12, 71]) (.cond (.leaf [3, 4, 8, 9, 11, 12]) (.leaf [3, 4, 8, 9, 11]))) (.seq (.block (.seq (.leaf [3, 4, 8, 9, 11, 12, 80]) (.cond (.leaf [3, 4, 8, 9, 11, 12]) (.leaf [3, 4, 8, 9, 11, 12])))) (.leaf [3, 4, 8, 9, 11, 12])))))) (.seq (.leaf [3, 4, 8, 9, 11, 13, 14]) (.seq (.leaf [2]) (.leaf [2])))))))))))))))

noncomputable def laws_FnMovesFor_ctx : Ctx := ⟨tlook tys, olook [(16, F_spec_DrawMovesFor), (14, F_impl_MovesFor), (17, F_spec_MovesFor), (15, F_impl_FlatOk), (13, F_laws_alive), (10, F_impl_RunStack), (12, F_laws_sameInts)], ioF, 0, false, []⟩

theorem laws_FnMovesFor_n1_l (x4293 : List Int) : Link laws_FnMovesFor_ctx LL (Code.seq (Code.fst (bodyOf Tryd.f4)) (Code.seq (Code.fst (Code.snd (bodyOf Tryd.f4))) (Code.seq (Code.fst (Code.snd (Code.snd (bodyOf Tryd.f4)))) (Code.seq (Code.fst (Code.snd (Code.snd (Code.snd (bodyOf Tryd.f4))))) (Code.seq (Code.fst (Code.snd (Code.snd (Code.snd (Code.snd (bodyOf Tryd.f4)))))) (Code.seq (Code.fst (Code.snd (Code.snd (Code.snd (Code.snd (Code.snd (bodyOf Tryd.f4))))))) (Code.seq (Code.fst (Code.snd (Code.snd (Code.snd (Code.snd (Code.snd (Code.snd (bodyOf Tryd.f4)))))))) (Code.seq (Code.fst (Code.snd (Code.snd (Code.snd (Code.snd (Code.snd (Code.snd (Code.snd (bodyOf Tryd.f4))))))))) (Code.fst (Code.snd (Code.snd (Code.snd (Code.snd (Code.snd (Code.snd (Code.snd (Code.snd (bodyOf Tryd.f4)))))))))))))))))) (Ann.seq (Ann.fst laws_FnMovesFor_an) (Ann.seq (Ann.fst (Ann.snd laws_FnMovesFor_an)) (Ann.seq (Ann.fst (Ann.snd (Ann.snd laws_FnMovesFor_an))) (Ann.seq (Ann.fst (Ann.snd (Ann.snd (Ann.snd laws_FnMovesFor_an)))) (Ann.seq (Ann.fst (Ann.snd (Ann.snd (Ann.snd (Ann.snd laws_FnMovesFor_an))))) (Ann.seq (Ann.fst (Ann.snd (Ann.snd (Ann.snd (Ann.snd (Ann.snd laws_FnMovesFor_an)))))) (Ann.seq (Ann.fst (Ann.snd (Ann.snd (Ann.snd (Ann.snd (Ann.snd (Ann.snd laws_FnMovesFor_an))))))) (Ann.seq (Ann.fst (Ann.snd (Ann.snd (Ann.snd (Ann.snd (Ann.snd (Ann.snd (Ann.snd laws_FnMovesFor_an)))))))) (Ann.fst (Ann.snd (Ann.snd (Ann.snd (Ann.snd (Ann.snd (Ann.snd (Ann.snd (Ann.snd laws_FnMovesFor_an))))))))))))))))) (⟨mkE 116 0 [(0, .dat (.list (.int .u8)) x4293)], []⟩ : St) (laws_FnMovesFor_n1 x4293) (Sum.elim (fun (t : ByteArray × (List Int)) => (Exit.normal, (⟨mkE 116 0 [(3, .slc 0), (4, .dat .str t.1), (8, .dat (.int .i64) 0), (9, .dat (.int .i64) 0)], [some (.seq (.int .i64) t.2)]⟩ : St))) (fun (t : Bool) => (Exit.ret, (⟨mkE 116 0 [(2, .dat .bool t)], []⟩ : St)))) := by
  refine Link.of fun K h => ?_
  simp only [laws_FnMovesFor_n1, wpO_bind, wpO_cond, wpO_map, wpO_some] at h
  exact Awp.of (by kernel_rfl) h

theorem laws_FnMovesFor_n2_l (x6380 : ByteArray) (x6378 : List Int) : Link laws_FnMovesFor_ctx LL (Code.fst (Code.fst (Code.snd (Code.snd (Code.snd (Code.snd (Code.snd (Code.snd (Code.snd (Code.snd (Code.snd (bodyOf Tryd.f4)))))))))))) (Ann.fst (Ann.fst (Ann.snd (Ann.snd (Ann.snd (Ann.snd (Ann.snd (Ann.snd (Ann.snd (Ann.snd (Ann.snd laws_FnMovesFor_an))))))))))) (⟨mkE 116 0 [(3, .slc 0), (4, .dat .str x6380), (8, .dat (.int .i64) 0), (9, .dat (.int .i64) 0)], [some (.seq (.int .i64) x6378)]⟩ : St) (laws_FnMovesFor_n2) (fun (t : Unit) => (Exit.normal, (⟨mkE 116 0 [(3, .slc 0), (4, .dat .str x6380), (8, .dat (.int .i64) 0), (9, .dat (.int .i64) 0), (10, .dat (.int .i64) 0)], [some (.seq (.int .i64) x6378)]⟩ : St))) := by
  refine Link.of fun K h => ?_
  simp only [laws_FnMovesFor_n2, wpO_bind, wpO_cond, wpO_map, wpO_some] at h
  exact Awp.of (by kernel_rfl) h

theorem laws_FnMovesFor_n3_l (x6380 : ByteArray) (x6423 : Int) (x6424 : Int) (x6425 : Int) (x6378 : List Int) : Link laws_FnMovesFor_ctx LL (Code.fst (Code.fst (Code.snd (Code.fst (Code.snd (Code.snd (Code.snd (Code.snd (Code.snd (Code.snd (Code.snd (Code.snd (Code.snd (bodyOf Tryd.f4)))))))))))))) (Ann.fst (Ann.fst (Ann.snd (Ann.fst (Ann.snd (Ann.snd (Ann.snd (Ann.snd (Ann.snd (Ann.snd (Ann.snd (Ann.snd (Ann.snd laws_FnMovesFor_an))))))))))))) (⟨mkE 116 0 [(3, .slc 0), (4, .dat .str x6380), (8, .dat (.int .i64) x6423), (9, .dat (.int .i64) x6424), (10, .dat (.int .i64) x6425)], [some (.seq (.int .i64) x6378)]⟩ : St) (laws_FnMovesFor_n3 x6380 x6423 x6424 x6425) (Sum.elim (fun (t : Int × Int × Int) => (Exit.normal, (⟨mkE 116 0 [(3, .slc 0), (4, .dat .str x6380), (8, .dat (.int .i64) t.1), (9, .dat (.int .i64) t.2.1), (10, .dat (.int .i64) t.2.2)], [some (.seq (.int .i64) x6378)]⟩ : St))) (fun (t : Int × Int) => ((Exit.exit 0), (⟨mkE 116 0 [(3, .slc 0), (4, .dat .str x6380), (8, .dat (.int .i64) t.1), (9, .dat (.int .i64) t.2)], [some (.seq (.int .i64) x6378)]⟩ : St)))) := by
  refine Link.of fun K h => ?_
  simp only [laws_FnMovesFor_n3, wpO_bind, wpO_cond, wpO_map, wpO_some] at h
  exact Awp.of (by kernel_rfl) h

theorem laws_FnMovesFor_n4_l (x6380 : ByteArray) (x6378 : List Int) : Link laws_FnMovesFor_ctx LL (Code.fst (Code.snd (Code.fst (Code.snd (Code.snd (Code.snd (Code.snd (Code.snd (Code.snd (Code.snd (Code.snd (Code.snd (bodyOf Tryd.f4))))))))))))) (Ann.fst (Ann.snd (Ann.fst (Ann.snd (Ann.snd (Ann.snd (Ann.snd (Ann.snd (Ann.snd (Ann.snd (Ann.snd (Ann.snd laws_FnMovesFor_an)))))))))))) (⟨mkE 116 0 [(3, .slc 0), (4, .dat .str x6380), (8, .dat (.int .i64) 0), (9, .dat (.int .i64) 0), (10, .dat (.int .i64) 0)], [some (.seq (.int .i64) x6378)]⟩ : St) (laws_FnMovesFor_n4 x6380) (fun (t : Int × Int) => ((Exit.exit 0), (⟨mkE 116 0 [(3, .slc 0), (4, .dat .str x6380), (8, .dat (.int .i64) t.1), (9, .dat (.int .i64) t.2)], [some (.seq (.int .i64) x6378)]⟩ : St))) := by
  unfold laws_FnMovesFor_n4
  exact Link.cast (by kernel_rfl) (by kernel_rfl) (link_loop (mk := fun (s : Int × Int × Int) => (⟨mkE 116 0 [(3, .slc 0), (4, .dat .str x6380), (8, .dat (.int .i64) s.1), (9, .dat (.int .i64) s.2.1), (10, .dat (.int .i64) s.2.2)], [some (.seq (.int .i64) x6378)]⟩ : St)) (fin := (fun (t : Int × Int) => ((Exit.exit 0), (⟨mkE 116 0 [(3, .slc 0), (4, .dat .str x6380), (8, .dat (.int .i64) t.1), (9, .dat (.int .i64) t.2)], [some (.seq (.int .i64) x6378)]⟩ : St)))) (by
  rintro t f K h
  · exact h) (fun s => link_map (laws_FnMovesFor_n3_l x6380 s.1 s.2.1 s.2.2 x6378) (Sum.elim (fun (t : Int × Int × Int) => Sum.inl (t.1, t.2.1, t.2.2)) (fun (t : Int × Int) => Sum.inr t)) (by
  rintro (t | t)
  · kernel_rfl
  · kernel_rfl)) (0, 0, 0))

theorem laws_FnMovesFor_n5_l (x6380 : ByteArray) (x6378 : List Int) : Link laws_FnMovesFor_ctx LL (Code.snd (Code.fst (Code.snd (Code.snd (Code.snd (Code.snd (Code.snd (Code.snd (Code.snd (Code.snd (Code.snd (bodyOf Tryd.f4)))))))))))) (Ann.snd (Ann.fst (Ann.snd (Ann.snd (Ann.snd (Ann.snd (Ann.snd (Ann.snd (Ann.snd (Ann.snd (Ann.snd laws_FnMovesFor_an))))))))))) (⟨mkE 116 0 [(3, .slc 0), (4, .dat .str x6380), (8, .dat (.int .i64) 0), (9, .dat (.int .i64) 0), (10, .dat (.int .i64) 0)], [some (.seq (.int .i64) x6378)]⟩ : St) (laws_FnMovesFor_n5 x6380) (fun (t : Int × Int) => (Exit.normal, (⟨mkE 116 0 [(3, .slc 0), (4, .dat .str x6380), (8, .dat (.int .i64) t.1), (9, .dat (.int .i64) t.2)], [some (.seq (.int .i64) x6378)]⟩ : St))) := by
  unfold laws_FnMovesFor_n5
  exact Link.cast (by kernel_rfl) (by kernel_rfl) (link_block (id := 0) (laws_FnMovesFor_n4_l x6380 x6378) (fun (t : Int × Int) => (t.1, t.2)) (by
  rintro t K h
  · exact Eq.mp (by kernel_rfl) h))

theorem laws_FnMovesFor_n6_l (x6380 : ByteArray) (x6378 : List Int) : Link laws_FnMovesFor_ctx LL (Code.fst (Code.snd (Code.snd (Code.snd (Code.snd (Code.snd (Code.snd (Code.snd (Code.snd (Code.snd (bodyOf Tryd.f4))))))))))) (Ann.fst (Ann.snd (Ann.snd (Ann.snd (Ann.snd (Ann.snd (Ann.snd (Ann.snd (Ann.snd (Ann.snd laws_FnMovesFor_an)))))))))) (⟨mkE 116 0 [(3, .slc 0), (4, .dat .str x6380), (8, .dat (.int .i64) 0), (9, .dat (.int .i64) 0)], [some (.seq (.int .i64) x6378)]⟩ : St) (laws_FnMovesFor_n6 x6380) (fun (t : Int × Int) => (Exit.normal, (⟨mkE 116 0 [(3, .slc 0), (4, .dat .str x6380), (8, .dat (.int .i64) t.1), (9, .dat (.int .i64) t.2)], [some (.seq (.int .i64) x6378)]⟩ : St))) := by
  unfold laws_FnMovesFor_n6
  exact Link.cast (by kernel_rfl) (by kernel_rfl) (link_seq (b := (Code.snd (Code.fst (Code.snd (Code.snd (Code.snd (Code.snd (Code.snd (Code.snd (Code.snd (Code.snd (Code.snd (bodyOf Tryd.f4))))))))))))) (y := (Ann.snd (Ann.fst (Ann.snd (Ann.snd (Ann.snd (Ann.snd (Ann.snd (Ann.snd (Ann.snd (Ann.snd (Ann.snd laws_FnMovesFor_an)))))))))))) (laws_FnMovesFor_n2_l x6380 x6378) (fun (t : Unit) => (laws_FnMovesFor_n5_l x6380 x6378)))

theorem laws_FnMovesFor_n7_l (x6380 : ByteArray) (x6423 : Int) (x6424 : Int) (x6378 : List Int) : Link laws_FnMovesFor_ctx LL (Code.fst (Code.snd (Code.snd (Code.snd (Code.snd (Code.snd (Code.snd (Code.snd (Code.snd (Code.snd (Code.snd (bodyOf Tryd.f4)))))))))))) (Ann.fst (Ann.snd (Ann.snd (Ann.snd (Ann.snd (Ann.snd (Ann.snd (Ann.snd (Ann.snd (Ann.snd (Ann.snd laws_FnMovesFor_an))))))))))) (⟨mkE 116 0 [(3, .slc 0), (4, .dat .str x6380), (8, .dat (.int .i64) x6423), (9, .dat (.int .i64) x6424)], [some (.seq (.int .i64) x6378)]⟩ : St) (laws_FnMovesFor_n7) (fun (t : Unit) => (Exit.normal, (⟨mkE 116 0 [(3, .slc 0), (4, .dat .str x6380), (8, .dat (.int .i64) x6423), (9, .dat (.int .i64) x6424), (11, .dat (.int .i64) 0)], [some (.seq (.int .i64) x6378)]⟩ : St))) := by
  refine Link.of fun K h => ?_
  simp only [laws_FnMovesFor_n7, wpO_bind, wpO_cond, wpO_map, wpO_some] at h
  exact Awp.of (by kernel_rfl) h

theorem laws_FnMovesFor_n8_l (x6380 : ByteArray) (x6423 : Int) (x6424 : Int) (x6378 : List Int) : Link laws_FnMovesFor_ctx LL (Code.fst (Code.fst (Code.snd (Code.snd (Code.snd (Code.snd (Code.snd (Code.snd (Code.snd (Code.snd (Code.snd (Code.snd (Code.snd (bodyOf Tryd.f4)))))))))))))) (Ann.fst (Ann.fst (Ann.snd (Ann.snd (Ann.snd (Ann.snd (Ann.snd (Ann.snd (Ann.snd (Ann.snd (Ann.snd (Ann.snd (Ann.snd laws_FnMovesFor_an))))))))))))) (⟨mkE 116 0 [(3, .slc 0), (4, .dat .str x6380), (8, .dat (.int .i64) x6423), (9, .dat (.int .i64) x6424), (11, .dat (.int .i64) 0)], [some (.seq (.int .i64) x6378)]⟩ : St) (laws_FnMovesFor_n8) (fun (t : Unit) => (Exit.normal, (⟨mkE 116 0 [(3, .slc 0), (4, .dat .str x6380), (8, .dat (.int .i64) x6423), (9, .dat (.int .i64) x6424), (11, .dat (.int .i64) 0), (12, .dat (.int .i64) 0)], [some (.seq (.int .i64) x6378)]⟩ : St))) := by
  refine Link.of fun K h => ?_
  simp only [laws_FnMovesFor_n8, wpO_bind, wpO_cond, wpO_map, wpO_some] at h
  exact Awp.of (by kernel_rfl) h

theorem laws_FnMovesFor_n9_l (x6380 : ByteArray) (x6423 : Int) (x6424 : Int) (x6477 : Int) (x6478 : Int) (x6378 : List Int) : Link laws_FnMovesFor_ctx LL (Code.fst (Code.fst (Code.snd (Code.fst (Code.snd (Code.snd (Code.snd (Code.snd (Code.snd (Code.snd (Code.snd (Code.snd (Code.snd (Code.snd (Code.snd (bodyOf Tryd.f4)))))))))))))))) (Ann.fst (Ann.fst (Ann.snd (Ann.fst (Ann.snd (Ann.snd (Ann.snd (Ann.snd (Ann.snd (Ann.snd (Ann.snd (Ann.snd (Ann.snd (Ann.snd (Ann.snd laws_FnMovesFor_an))))))))))))))) (⟨mkE 116 0 [(3, .slc 0), (4, .dat .str x6380), (8, .dat (.int .i64) x6423), (9, .dat (.int .i64) x6424), (11, .dat (.int .i64) x6477), (12, .dat (.int .i64) x6478)], [some (.seq (.int .i64) x6378)]⟩ : St) (laws_FnMovesFor_n9 x6477 x6478 x6378) (Sum.elim (fun (t : Int × Int) => (Exit.normal, (⟨mkE 116 0 [(3, .slc 0), (4, .dat .str x6380), (8, .dat (.int .i64) x6423), (9, .dat (.int .i64) x6424), (11, .dat (.int .i64) t.1), (12, .dat (.int .i64) t.2)], [some (.seq (.int .i64) x6378)]⟩ : St))) (fun (t : Int) => ((Exit.exit 2), (⟨mkE 116 0 [(3, .slc 0), (4, .dat .str x6380), (8, .dat (.int .i64) x6423), (9, .dat (.int .i64) x6424), (11, .dat (.int .i64) t)], [some (.seq (.int .i64) x6378)]⟩ : St)))) := by
  refine Link.of fun K h => ?_
  simp only [laws_FnMovesFor_n9, wpO_bind, wpO_cond, wpO_map, wpO_some] at h
  exact Awp.of (by kernel_rfl) h

theorem laws_FnMovesFor_n10_l (x6380 : ByteArray) (x6423 : Int) (x6424 : Int) (x6378 : List Int) : Link laws_FnMovesFor_ctx LL (Code.fst (Code.snd (Code.fst (Code.snd (Code.snd (Code.snd (Code.snd (Code.snd (Code.snd (Code.snd (Code.snd (Code.snd (Code.snd (Code.snd (bodyOf Tryd.f4))))))))))))))) (Ann.fst (Ann.snd (Ann.fst (Ann.snd (Ann.snd (Ann.snd (Ann.snd (Ann.snd (Ann.snd (Ann.snd (Ann.snd (Ann.snd (Ann.snd (Ann.snd laws_FnMovesFor_an)))))))))))))) (⟨mkE 116 0 [(3, .slc 0), (4, .dat .str x6380), (8, .dat (.int .i64) x6423), (9, .dat (.int .i64) x6424), (11, .dat (.int .i64) 0), (12, .dat (.int .i64) 0)], [some (.seq (.int .i64) x6378)]⟩ : St) (laws_FnMovesFor_n10 x6378) (fun (t : Int) => ((Exit.exit 2), (⟨mkE 116 0 [(3, .slc 0), (4, .dat .str x6380), (8, .dat (.int .i64) x6423), (9, .dat (.int .i64) x6424), (11, .dat (.int .i64) t)], [some (.seq (.int .i64) x6378)]⟩ : St))) := by
  unfold laws_FnMovesFor_n10
  exact Link.cast (by kernel_rfl) (by kernel_rfl) (link_loop (mk := fun (s : Int × Int) => (⟨mkE 116 0 [(3, .slc 0), (4, .dat .str x6380), (8, .dat (.int .i64) x6423), (9, .dat (.int .i64) x6424), (11, .dat (.int .i64) s.1), (12, .dat (.int .i64) s.2)], [some (.seq (.int .i64) x6378)]⟩ : St)) (fin := (fun (t : Int) => ((Exit.exit 2), (⟨mkE 116 0 [(3, .slc 0), (4, .dat .str x6380), (8, .dat (.int .i64) x6423), (9, .dat (.int .i64) x6424), (11, .dat (.int .i64) t)], [some (.seq (.int .i64) x6378)]⟩ : St)))) (by
  rintro t f K h
  · exact h) (fun s => link_map (laws_FnMovesFor_n9_l x6380 x6423 x6424 s.1 s.2 x6378) (Sum.elim (fun (t : Int × Int) => Sum.inl (t.1, t.2)) (fun (t : Int) => Sum.inr t)) (by
  rintro (t | t)
  · kernel_rfl
  · kernel_rfl)) (0, 0))

theorem laws_FnMovesFor_n11_l (x6380 : ByteArray) (x6423 : Int) (x6424 : Int) (x6378 : List Int) : Link laws_FnMovesFor_ctx LL (Code.snd (Code.fst (Code.snd (Code.snd (Code.snd (Code.snd (Code.snd (Code.snd (Code.snd (Code.snd (Code.snd (Code.snd (Code.snd (bodyOf Tryd.f4)))))))))))))) (Ann.snd (Ann.fst (Ann.snd (Ann.snd (Ann.snd (Ann.snd (Ann.snd (Ann.snd (Ann.snd (Ann.snd (Ann.snd (Ann.snd (Ann.snd laws_FnMovesFor_an))))))))))))) (⟨mkE 116 0 [(3, .slc 0), (4, .dat .str x6380), (8, .dat (.int .i64) x6423), (9, .dat (.int .i64) x6424), (11, .dat (.int .i64) 0), (12, .dat (.int .i64) 0)], [some (.seq (.int .i64) x6378)]⟩ : St) (laws_FnMovesFor_n11 x6378) (fun (t : Int) => (Exit.normal, (⟨mkE 116 0 [(3, .slc 0), (4, .dat .str x6380), (8, .dat (.int .i64) x6423), (9, .dat (.int .i64) x6424), (11, .dat (.int .i64) t)], [some (.seq (.int .i64) x6378)]⟩ : St))) := by
  unfold laws_FnMovesFor_n11
  exact Link.cast (by kernel_rfl) (by kernel_rfl) (link_block (id := 2) (laws_FnMovesFor_n10_l x6380 x6423 x6424 x6378) (fun (t : Int) => t) (by
  rintro t K h
  · exact Eq.mp (by kernel_rfl) h))

theorem laws_FnMovesFor_n12_l (x6380 : ByteArray) (x6423 : Int) (x6424 : Int) (x6378 : List Int) : Link laws_FnMovesFor_ctx LL (Code.fst (Code.snd (Code.snd (Code.snd (Code.snd (Code.snd (Code.snd (Code.snd (Code.snd (Code.snd (Code.snd (Code.snd (bodyOf Tryd.f4))))))))))))) (Ann.fst (Ann.snd (Ann.snd (Ann.snd (Ann.snd (Ann.snd (Ann.snd (Ann.snd (Ann.snd (Ann.snd (Ann.snd (Ann.snd laws_FnMovesFor_an)))))))))))) (⟨mkE 116 0 [(3, .slc 0), (4, .dat .str x6380), (8, .dat (.int .i64) x6423), (9, .dat (.int .i64) x6424), (11, .dat (.int .i64) 0)], [some (.seq (.int .i64) x6378)]⟩ : St) (laws_FnMovesFor_n12 x6378) (fun (t : Int) => (Exit.normal, (⟨mkE 116 0 [(3, .slc 0), (4, .dat .str x6380), (8, .dat (.int .i64) x6423), (9, .dat (.int .i64) x6424), (11, .dat (.int .i64) t)], [some (.seq (.int .i64) x6378)]⟩ : St))) := by
  unfold laws_FnMovesFor_n12
  exact Link.cast (by kernel_rfl) (by kernel_rfl) (link_seq (b := (Code.snd (Code.fst (Code.snd (Code.snd (Code.snd (Code.snd (Code.snd (Code.snd (Code.snd (Code.snd (Code.snd (Code.snd (Code.snd (bodyOf Tryd.f4))))))))))))))) (y := (Ann.snd (Ann.fst (Ann.snd (Ann.snd (Ann.snd (Ann.snd (Ann.snd (Ann.snd (Ann.snd (Ann.snd (Ann.snd (Ann.snd (Ann.snd laws_FnMovesFor_an)))))))))))))) (laws_FnMovesFor_n8_l x6380 x6423 x6424 x6378) (fun (t : Unit) => (laws_FnMovesFor_n11_l x6380 x6423 x6424 x6378)))

theorem laws_FnMovesFor_n13_l (x6380 : ByteArray) (x6423 : Int) (x6424 : Int) (x6477 : Int) (x6378 : List Int) : Link laws_FnMovesFor_ctx LL (Code.snd (Code.snd (Code.snd (Code.snd (Code.snd (Code.snd (Code.snd (Code.snd (Code.snd (Code.snd (Code.snd (Code.snd (bodyOf Tryd.f4))))))))))))) (Ann.snd (Ann.snd (Ann.snd (Ann.snd (Ann.snd (Ann.snd (Ann.snd (Ann.snd (Ann.snd (Ann.snd (Ann.snd (Ann.snd laws_FnMovesFor_an)))))))))))) (⟨mkE 116 0 [(3, .slc 0), (4, .dat .str x6380), (8, .dat (.int .i64) x6423), (9, .dat (.int .i64) x6424), (11, .dat (.int .i64) x6477)], [some (.seq (.int .i64) x6378)]⟩ : St) (laws_FnMovesFor_n13 x6380 x6423 x6424 x6477 x6378) (fun (t : Bool) => (Exit.ret, (⟨mkE 116 0 [(2, .dat .bool t)], []⟩ : St))) := by
  refine Link.of fun K h => ?_
  simp only [laws_FnMovesFor_n13, wpO_bind, wpO_cond, wpO_map, wpO_some] at h
  exact Awp.of (by kernel_rfl) h

theorem laws_FnMovesFor_n14_l (x6380 : ByteArray) (x6423 : Int) (x6424 : Int) (x6378 : List Int) : Link laws_FnMovesFor_ctx LL (Code.snd (Code.snd (Code.snd (Code.snd (Code.snd (Code.snd (Code.snd (Code.snd (Code.snd (Code.snd (Code.snd (bodyOf Tryd.f4)))))))))))) (Ann.snd (Ann.snd (Ann.snd (Ann.snd (Ann.snd (Ann.snd (Ann.snd (Ann.snd (Ann.snd (Ann.snd (Ann.snd laws_FnMovesFor_an))))))))))) (⟨mkE 116 0 [(3, .slc 0), (4, .dat .str x6380), (8, .dat (.int .i64) x6423), (9, .dat (.int .i64) x6424), (11, .dat (.int .i64) 0)], [some (.seq (.int .i64) x6378)]⟩ : St) (laws_FnMovesFor_n14 x6380 x6423 x6424 x6378) (fun (t : Bool) => (Exit.ret, (⟨mkE 116 0 [(2, .dat .bool t)], []⟩ : St))) := by
  unfold laws_FnMovesFor_n14
  exact Link.cast (by kernel_rfl) (by kernel_rfl) (link_seq (b := (Code.snd (Code.snd (Code.snd (Code.snd (Code.snd (Code.snd (Code.snd (Code.snd (Code.snd (Code.snd (Code.snd (Code.snd (bodyOf Tryd.f4)))))))))))))) (y := (Ann.snd (Ann.snd (Ann.snd (Ann.snd (Ann.snd (Ann.snd (Ann.snd (Ann.snd (Ann.snd (Ann.snd (Ann.snd (Ann.snd laws_FnMovesFor_an))))))))))))) (laws_FnMovesFor_n12_l x6380 x6423 x6424 x6378) (fun (t : Int) => (laws_FnMovesFor_n13_l x6380 x6423 x6424 t x6378)))

theorem laws_FnMovesFor_n15_l (x6380 : ByteArray) (x6423 : Int) (x6424 : Int) (x6378 : List Int) : Link laws_FnMovesFor_ctx LL (Code.snd (Code.snd (Code.snd (Code.snd (Code.snd (Code.snd (Code.snd (Code.snd (Code.snd (Code.snd (bodyOf Tryd.f4))))))))))) (Ann.snd (Ann.snd (Ann.snd (Ann.snd (Ann.snd (Ann.snd (Ann.snd (Ann.snd (Ann.snd (Ann.snd laws_FnMovesFor_an)))))))))) (⟨mkE 116 0 [(3, .slc 0), (4, .dat .str x6380), (8, .dat (.int .i64) x6423), (9, .dat (.int .i64) x6424)], [some (.seq (.int .i64) x6378)]⟩ : St) (laws_FnMovesFor_n15 x6380 x6423 x6424 x6378) (fun (t : Bool) => (Exit.ret, (⟨mkE 116 0 [(2, .dat .bool t)], []⟩ : St))) := by
  unfold laws_FnMovesFor_n15
  exact Link.cast (by kernel_rfl) (by kernel_rfl) (link_seq (b := (Code.snd (Code.snd (Code.snd (Code.snd (Code.snd (Code.snd (Code.snd (Code.snd (Code.snd (Code.snd (Code.snd (bodyOf Tryd.f4))))))))))))) (y := (Ann.snd (Ann.snd (Ann.snd (Ann.snd (Ann.snd (Ann.snd (Ann.snd (Ann.snd (Ann.snd (Ann.snd (Ann.snd laws_FnMovesFor_an)))))))))))) (laws_FnMovesFor_n7_l x6380 x6423 x6424 x6378) (fun (t : Unit) => (laws_FnMovesFor_n14_l x6380 x6423 x6424 x6378)))

theorem laws_FnMovesFor_n16_l (x6380 : ByteArray) (x6378 : List Int) : Link laws_FnMovesFor_ctx LL (Code.snd (Code.snd (Code.snd (Code.snd (Code.snd (Code.snd (Code.snd (Code.snd (Code.snd (bodyOf Tryd.f4)))))))))) (Ann.snd (Ann.snd (Ann.snd (Ann.snd (Ann.snd (Ann.snd (Ann.snd (Ann.snd (Ann.snd laws_FnMovesFor_an))))))))) (⟨mkE 116 0 [(3, .slc 0), (4, .dat .str x6380), (8, .dat (.int .i64) 0), (9, .dat (.int .i64) 0)], [some (.seq (.int .i64) x6378)]⟩ : St) (laws_FnMovesFor_n16 x6380 x6378) (fun (t : Bool) => (Exit.ret, (⟨mkE 116 0 [(2, .dat .bool t)], []⟩ : St))) := by
  unfold laws_FnMovesFor_n16
  exact Link.cast (by kernel_rfl) (by kernel_rfl) (link_seq (b := (Code.snd (Code.snd (Code.snd (Code.snd (Code.snd (Code.snd (Code.snd (Code.snd (Code.snd (Code.snd (bodyOf Tryd.f4)))))))))))) (y := (Ann.snd (Ann.snd (Ann.snd (Ann.snd (Ann.snd (Ann.snd (Ann.snd (Ann.snd (Ann.snd (Ann.snd laws_FnMovesFor_an))))))))))) (laws_FnMovesFor_n6_l x6380 x6378) (fun (t : Int × Int) => (laws_FnMovesFor_n15_l x6380 t.1 t.2 x6378)))

theorem laws_FnMovesFor_n17_l (x4293 : List Int) : Link laws_FnMovesFor_ctx LL (bodyOf Tryd.f4) laws_FnMovesFor_an (⟨mkE 116 0 [(0, .dat (.list (.int .u8)) x4293)], []⟩ : St) (laws_FnMovesFor_n17 x4293) (fun (t : Bool) => (Exit.ret, (⟨mkE 116 0 [(2, .dat .bool t)], []⟩ : St))) := by
  unfold laws_FnMovesFor_n17
  exact Link.cast (by kernel_rfl) (by kernel_rfl) (link_group (c := (Code.fst (Code.snd (Code.snd (Code.snd (Code.snd (Code.snd (Code.snd (Code.snd (Code.snd (bodyOf Tryd.f4))))))))))) (a := (Ann.fst (Ann.snd (Ann.snd (Ann.snd (Ann.snd (Ann.snd (Ann.snd (Ann.snd (Ann.snd laws_FnMovesFor_an)))))))))) [(Code.fst (bodyOf Tryd.f4)), (Code.fst (Code.snd (bodyOf Tryd.f4))), (Code.fst (Code.snd (Code.snd (bodyOf Tryd.f4)))), (Code.fst (Code.snd (Code.snd (Code.snd (bodyOf Tryd.f4))))), (Code.fst (Code.snd (Code.snd (Code.snd (Code.snd (bodyOf Tryd.f4)))))), (Code.fst (Code.snd (Code.snd (Code.snd (Code.snd (Code.snd (bodyOf Tryd.f4))))))), (Code.fst (Code.snd (Code.snd (Code.snd (Code.snd (Code.snd (Code.snd (bodyOf Tryd.f4)))))))), (Code.fst (Code.snd (Code.snd (Code.snd (Code.snd (Code.snd (Code.snd (Code.snd (bodyOf Tryd.f4)))))))))] [(Ann.fst laws_FnMovesFor_an), (Ann.fst (Ann.snd laws_FnMovesFor_an)), (Ann.fst (Ann.snd (Ann.snd laws_FnMovesFor_an))), (Ann.fst (Ann.snd (Ann.snd (Ann.snd laws_FnMovesFor_an)))), (Ann.fst (Ann.snd (Ann.snd (Ann.snd (Ann.snd laws_FnMovesFor_an))))), (Ann.fst (Ann.snd (Ann.snd (Ann.snd (Ann.snd (Ann.snd laws_FnMovesFor_an)))))), (Ann.fst (Ann.snd (Ann.snd (Ann.snd (Ann.snd (Ann.snd (Ann.snd laws_FnMovesFor_an))))))), (Ann.fst (Ann.snd (Ann.snd (Ann.snd (Ann.snd (Ann.snd (Ann.snd (Ann.snd laws_FnMovesFor_an))))))))] rfl (link_seq2 (b := (Code.snd (Code.snd (Code.snd (Code.snd (Code.snd (Code.snd (Code.snd (Code.snd (Code.snd (bodyOf Tryd.f4))))))))))) (y := (Ann.snd (Ann.snd (Ann.snd (Ann.snd (Ann.snd (Ann.snd (Ann.snd (Ann.snd (Ann.snd laws_FnMovesFor_an)))))))))) (laws_FnMovesFor_n1_l x4293) (fun (t : ByteArray × (List Int)) => (laws_FnMovesFor_n16_l t.1 t.2)) (fun (t : Bool) => t) (by
  rintro t
  · kernel_rfl) (by
  rintro t f K h
  · exact h)))

theorem laws_FnMovesFor_e (x4293 : List Int) {r : AV} {H' : Heap} (h : (Ans.mk _ (laws_FnMovesFor x4293) (fun (t : Bool) => (.dat .bool t, [])) [] none).run = some (r, H')) : Awp laws_FnMovesFor_ctx LL (bodyOf Tryd.f4) laws_FnMovesFor_an (⟨mkE 116 0 [(0, .dat (.list (.int .u8)) x4293)], []⟩ : St) (Ret (tlook tys) Tryd.f4.results.toList r H') :=
  ret_of' (laws_FnMovesFor_n17_l x4293) (by unfold laws_FnMovesFor; kernel_rfl) (by
  intro t
  exact ret_mk [.dat .bool t] (by kernel_rfl) (by kernel_rfl) (by kernel_rfl) (by kernel_rfl)) h

def F_laws_FnMovesFor : Fun := fun avs H =>
  match avs, H with
  | [.dat (.list (.int .u8)) x4293], [] => ⟨_, laws_FnMovesFor x4293, fun (t : Bool) => (.dat .bool t, []), [], none⟩
  | _, _ => Ans.no

theorem laws_FnMovesFor_sound : Sound Tryd.prog 4 F_laws_FnMovesFor := by
  refine fn_sound' (C := laws_FnMovesFor_ctx) (c := bodyOf Tryd.f4) (cok_of tys_ok (List.forall_mem_cons.2 ⟨spec_DrawMovesFor_sound, List.forall_mem_cons.2 ⟨impl_MovesFor_sound, List.forall_mem_cons.2 ⟨spec_MovesFor_sound, List.forall_mem_cons.2 ⟨impl_FlatOk_sound, List.forall_mem_cons.2 ⟨laws_alive_sound, List.forall_mem_cons.2 ⟨impl_RunStack_sound, List.forall_mem_cons.2 ⟨laws_sameInts_sound, by simp⟩⟩⟩⟩⟩⟩⟩) (List.forall_mem_cons.2 ⟨Tryd.call16, List.forall_mem_cons.2 ⟨Tryd.call14, List.forall_mem_cons.2 ⟨Tryd.call17, List.forall_mem_cons.2 ⟨Tryd.call15, List.forall_mem_cons.2 ⟨Tryd.call13, List.forall_mem_cons.2 ⟨Tryd.call10, List.forall_mem_cons.2 ⟨Tryd.call12, by simp⟩⟩⟩⟩⟩⟩⟩) (by kernel_rfl)) Tryd.func4 (by kernel_rfl) LL laws_FnMovesFor_an ?_
  intro avs H r H' h
  unfold F_laws_FnMovesFor at h
  split at h
  · refine Awp.cast ?_ ?_ ?_ (laws_FnMovesFor_e _ h) <;> kernel_rfl
  · simp [Ans.no, Ans.run] at h


end Go.Rv
