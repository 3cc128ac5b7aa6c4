/-
  The checked code answers as the plain functions do; written by program. Conditions: none.
-/
import Derived.Test.YtmmfabigcffdfaaDoorGLb
set_option linter.unusedVariables false
set_option linter.unusedSimpArgs false
set_option maxRecDepth 100000
namespace Go.Rv
open Go.Proofs
theorem spec_l3Row_n3_l (x5235 : Int) : Link spec_l3Row_ctx LL (Code.fst (Code.fst (Code.snd (bodyOf Tryd.f48)))) (Ann.fst (Ann.fst (Ann.snd spec_l3Row_an))) (⟨mkE 13 0 [(0, .dat (.int .i64) x5235)], []⟩ : St) (spec_l3Row_n3 x5235) (fun (t : Int) => ((Exit.exit 0), (⟨mkE 13 0 [(0, .dat (.int .i64) t)], []⟩ : St))) := by
  unfold spec_l3Row_n3
  exact Link.cast (by kernel_rfl) (by kernel_rfl) (link_loop (mk := fun (s : Int) => (⟨mkE 13 0 [(0, .dat (.int .i64) s)], []⟩ : St)) (fin := (fun (t : Int) => ((Exit.exit 0), (⟨mkE 13 0 [(0, .dat (.int .i64) t)], []⟩ : St)))) (by
  rintro t f K h
  · exact h) (fun s => link_map (spec_l3Row_n2_l s) (Sum.elim (fun (t : Int) => Sum.inl t) (fun (t : Int) => Sum.inr t)) (by
  rintro (t | t)
  · kernel_rfl
  · kernel_rfl)) x5235)

theorem spec_l3Row_n4_l (x5235 : Int) : Link spec_l3Row_ctx LL (Code.fst (Code.snd (bodyOf Tryd.f48))) (Ann.fst (Ann.snd spec_l3Row_an)) (⟨mkE 13 0 [(0, .dat (.int .i64) x5235)], []⟩ : St) (spec_l3Row_n4 x5235) (fun (t : Int) => (Exit.normal, (⟨mkE 13 0 [(0, .dat (.int .i64) t)], []⟩ : St))) := by
  unfold spec_l3Row_n4
  exact Link.cast (by kernel_rfl) (by kernel_rfl) (link_block (id := 0) (spec_l3Row_n3_l x5235) (fun (t : Int) => t) (by
  rintro t K h
  · exact Eq.mp (by kernel_rfl) h))

theorem spec_l3Row_n5_l (x5241 : Int) : Link spec_l3Row_ctx LL (Code.snd (Code.snd (bodyOf Tryd.f48))) (Ann.snd (Ann.snd spec_l3Row_an)) (⟨mkE 13 0 [(0, .dat (.int .i64) x5241)], []⟩ : St) (spec_l3Row_n5 x5241) (fun (t : Bool) => (Exit.ret, (⟨mkE 13 0 [(2, .dat .bool t)], []⟩ : St))) := by
  refine Link.of fun K h => ?_
  simp only [spec_l3Row_n5, wpO_bind, wpO_cond, wpO_map, wpO_some] at h
  exact Awp.of (by kernel_rfl) h

theorem spec_l3Row_n6_l (x5235 : Int) : Link spec_l3Row_ctx LL (Code.snd (bodyOf Tryd.f48)) (Ann.snd spec_l3Row_an) (⟨mkE 13 0 [(0, .dat (.int .i64) x5235)], []⟩ : St) (spec_l3Row_n6 x5235) (fun (t : Bool) => (Exit.ret, (⟨mkE 13 0 [(2, .dat .bool t)], []⟩ : St))) := by
  unfold spec_l3Row_n6
  exact Link.cast (by kernel_rfl) (by kernel_rfl) (link_seq (b := (Code.snd (Code.snd (bodyOf Tryd.f48)))) (y := (Ann.snd (Ann.snd spec_l3Row_an))) (spec_l3Row_n4_l x5235) (fun (t : Int) => (spec_l3Row_n5_l t)))

theorem spec_l3Row_n7_l (x5235 : Int) : Link spec_l3Row_ctx LL (bodyOf Tryd.f48) spec_l3Row_an (⟨mkE 13 0 [(0, .dat (.int .i64) x5235)], []⟩ : St) (spec_l3Row_n7 x5235) (fun (t : Bool) => (Exit.ret, (⟨mkE 13 0 [(2, .dat .bool t)], []⟩ : St))) := by
  unfold spec_l3Row_n7
  exact Link.cast (by kernel_rfl) (by kernel_rfl) (link_seq (b := (Code.snd (bodyOf Tryd.f48))) (y := (Ann.snd spec_l3Row_an)) (spec_l3Row_n1_l x5235) (fun (t : Unit) => (spec_l3Row_n6_l x5235)))

theorem spec_l3Row_e (x5235 : Int) {r : AV} {H' : Heap} (h : (Ans.mk _ (spec_l3Row x5235) (fun (t : Bool) => (.dat .bool t, [])) [] none).run = some (r, H')) : Awp spec_l3Row_ctx LL (bodyOf Tryd.f48) spec_l3Row_an (⟨mkE 13 0 [(0, .dat (.int .i64) x5235)], []⟩ : St) (Ret (tlook tys) Tryd.f48.results.toList r H') :=
  ret_of' (spec_l3Row_n7_l x5235) (by unfold spec_l3Row; kernel_rfl) (by
  intro t
  exact ret_mk [.dat .bool t] (by kernel_rfl) (by kernel_rfl) (by kernel_rfl) (by kernel_rfl)) h

def F_spec_l3Row : Fun := fun avs H =>
  match avs, H with
  | [.dat (.int .i64) x5235], [] => ⟨_, spec_l3Row x5235, fun (t : Bool) => (.dat .bool t, []), [], none⟩
  | _, _ => Ans.no

theorem spec_l3Row_sound : Sound Tryd.prog 48 F_spec_l3Row := by
  refine fn_sound' (C := spec_l3Row_ctx) (c := bodyOf Tryd.f48) (cok_of tys_ok (by simp) (by simp) (by kernel_rfl)) Tryd.func48 (by kernel_rfl) LL spec_l3Row_an ?_
  intro avs H r H' h
  unfold F_spec_l3Row at h
  split at h
  · refine Awp.cast ?_ ?_ ?_ (spec_l3Row_e _ h) <;> kernel_rfl
  · simp [Ans.no, Ans.run] at h

/-! loop.example/headtrees/spec.FlatOk -/

def spec_FlatOk_an : Ann := (.seq (.leaf [0]) (.seq (.seq (.leaf [0, 3]) (.block (.loop (.seq (.seq (.leaf [0, 3, 11]) (.cond (.leaf [0, 3]) (.leaf [0]))) (.seq (.block (.seq (.leaf [0, 3, 18]) (.cond (.seq (.leaf [2]) (.leaf [2])) (.leaf [0, 3])))) (.leaf [0, 3])))))) (.seq (.leaf [2]) (.leaf [2]))))

noncomputable def spec_FlatOk_ctx : Ctx := ⟨tlook tys, olook [(47, F_spec_TreeOk), (49, F_spec_l2Yield), (48, F_spec_l3Row)], ioF, 0, false, []⟩

theorem spec_FlatOk_n1_l (x5011 : List Int) : Link spec_FlatOk_ctx LL (Code.fst (bodyOf Tryd.f30)) (Ann.fst spec_FlatOk_an) (⟨mkE 21 0 [(0, .dat (.list (.int .i64)) x5011)], []⟩ : St) (spec_FlatOk_n1) (fun (t : Unit) => (Exit.normal, (⟨mkE 21 0 [(0, .dat (.list (.int .i64)) x5011)], []⟩ : St))) := by
  refine Link.of fun K h => ?_
  simp only [spec_FlatOk_n1, wpO_bind, wpO_cond, wpO_map, wpO_some] at h
  exact Awp.of (by kernel_rfl) h

theorem spec_FlatOk_n2_l (x5011 : List Int) : Link spec_FlatOk_ctx LL (Code.fst (Code.fst (Code.snd (bodyOf Tryd.f30)))) (Ann.fst (Ann.fst (Ann.snd spec_FlatOk_an))) (⟨mkE 21 0 [(0, .dat (.list (.int .i64)) x5011)], []⟩ : St) (spec_FlatOk_n2) (fun (t : Unit) => (Exit.normal, (⟨mkE 21 0 [(0, .dat (.list (.int .i64)) x5011), (3, .dat (.int .i64) 1)], []⟩ : St))) := by
  refine Link.of fun K h => ?_
  simp only [spec_FlatOk_n2, wpO_bind, wpO_cond, wpO_map, wpO_some] at h
  exact Awp.of (by kernel_rfl) h

theorem spec_FlatOk_n3_l (x5011 : List Int) (x5262 : Int) : Link spec_FlatOk_ctx LL (Code.fst (Code.fst (Code.snd (Code.fst (Code.snd (bodyOf Tryd.f30)))))) (Ann.fst (Ann.fst (Ann.snd (Ann.fst (Ann.snd spec_FlatOk_an))))) (⟨mkE 21 0 [(0, .dat (.list (.int .i64)) x5011), (3, .dat (.int .i64) x5262)], []⟩ : St) (spec_FlatOk_n3 x5011 x5262) (Sum.elim (fun (t : Int) => (Exit.normal, (⟨mkE 21 0 [(0, .dat (.list (.int .i64)) x5011), (3, .dat (.int .i64) t)], []⟩ : St))) (Sum.elim (fun (t : Bool) => (Exit.ret, (⟨mkE 21 0 [(2, .dat .bool t)], []⟩ : St))) (fun (t : Unit) => ((Exit.exit 0), (⟨mkE 21 0 [(0, .dat (.list (.int .i64)) x5011)], []⟩ : St))))) := by
  refine Link.of fun K h => ?_
  simp only [spec_FlatOk_n3, wpO_bind, wpO_cond, wpO_map, wpO_some] at h
  exact Awp.of (by kernel_rfl) h

theorem spec_FlatOk_n4_l (x5011 : List Int) : Link spec_FlatOk_ctx LL (Code.fst (Code.snd (Code.fst (Code.snd (bodyOf Tryd.f30))))) (Ann.fst (Ann.snd (Ann.fst (Ann.snd spec_FlatOk_an)))) (⟨mkE 21 0 [(0, .dat (.list (.int .i64)) x5011), (3, .dat (.int .i64) 1)], []⟩ : St) (spec_FlatOk_n4 x5011) (Sum.elim (fun (t : Bool) => (Exit.ret, (⟨mkE 21 0 [(2, .dat .bool t)], []⟩ : St))) (fun (t : Unit) => ((Exit.exit 0), (⟨mkE 21 0 [(0, .dat (.list (.int .i64)) x5011)], []⟩ : St)))) := by
  unfold spec_FlatOk_n4
  exact Link.cast (by kernel_rfl) (by kernel_rfl) (link_loop (mk := fun (s : Int) => (⟨mkE 21 0 [(0, .dat (.list (.int .i64)) x5011), (3, .dat (.int .i64) s)], []⟩ : St)) (fin := (Sum.elim (fun (t : Bool) => (Exit.ret, (⟨mkE 21 0 [(2, .dat .bool t)], []⟩ : St))) (fun (t : Unit) => ((Exit.exit 0), (⟨mkE 21 0 [(0, .dat (.list (.int .i64)) x5011)], []⟩ : St))))) (by
  rintro (t | t) f K h
  · exact h
  · exact h) (fun s => link_map (spec_FlatOk_n3_l x5011 s) (Sum.elim (fun (t : Int) => Sum.inl t) (Sum.elim (fun (t : Bool) => Sum.inr (Sum.inl t)) (fun (t : Unit) => Sum.inr (Sum.inr t)))) (by
  rintro (t | t | t)
  · kernel_rfl
  · kernel_rfl
  · kernel_rfl)) 1)

theorem spec_FlatOk_n5_l (x5011 : List Int) : Link spec_FlatOk_ctx LL (Code.snd (Code.fst (Code.snd (bodyOf Tryd.f30)))) (Ann.snd (Ann.fst (Ann.snd spec_FlatOk_an))) (⟨mkE 21 0 [(0, .dat (.list (.int .i64)) x5011), (3, .dat (.int .i64) 1)], []⟩ : St) (spec_FlatOk_n5 x5011) (Sum.elim (fun (t : Unit) => (Exit.normal, (⟨mkE 21 0 [(0, .dat (.list (.int .i64)) x5011)], []⟩ : St))) (fun (t : Bool) => (Exit.ret, (⟨mkE 21 0 [(2, .dat .bool t)], []⟩ : St)))) := by
  unfold spec_FlatOk_n5
  exact Link.cast (by kernel_rfl) (by kernel_rfl) (link_block (id := 0) (spec_FlatOk_n4_l x5011) (Sum.elim (fun (t : Bool) => (Sum.inr t)) (fun (t : Unit) => (Sum.inl ()))) (by
  rintro (t | t) K h
  · exact Eq.mp (by kernel_rfl) h
  · exact Eq.mp (by kernel_rfl) h))

theorem spec_FlatOk_n6_l (x5011 : List Int) : Link spec_FlatOk_ctx LL (Code.fst (Code.snd (bodyOf Tryd.f30))) (Ann.fst (Ann.snd spec_FlatOk_an)) (⟨mkE 21 0 [(0, .dat (.list (.int .i64)) x5011)], []⟩ : St) (spec_FlatOk_n6 x5011) (Sum.elim (fun (t : Unit) => (Exit.normal, (⟨mkE 21 0 [(0, .dat (.list (.int .i64)) x5011)], []⟩ : St))) (fun (t : Bool) => (Exit.ret, (⟨mkE 21 0 [(2, .dat .bool t)], []⟩ : St)))) := by
  unfold spec_FlatOk_n6
  exact Link.cast (by kernel_rfl) (by kernel_rfl) (link_seq (b := (Code.snd (Code.fst (Code.snd (bodyOf Tryd.f30))))) (y := (Ann.snd (Ann.fst (Ann.snd spec_FlatOk_an)))) (spec_FlatOk_n2_l x5011) (fun (t : Unit) => (spec_FlatOk_n5_l x5011)))

theorem spec_FlatOk_n7_l (x5011 : List Int) : Link spec_FlatOk_ctx LL (Code.snd (Code.snd (bodyOf Tryd.f30))) (Ann.snd (Ann.snd spec_FlatOk_an)) (⟨mkE 21 0 [(0, .dat (.list (.int .i64)) x5011)], []⟩ : St) (spec_FlatOk_n7 x5011) (fun (t : Bool) => (Exit.ret, (⟨mkE 21 0 [(2, .dat .bool t)], []⟩ : St))) := by
  refine Link.of fun K h => ?_
  simp only [spec_FlatOk_n7, wpO_bind, wpO_cond, wpO_map, wpO_some] at h
  exact Awp.of (by kernel_rfl) h

theorem spec_FlatOk_n8_l (x5011 : List Int) : Link spec_FlatOk_ctx LL (Code.snd (bodyOf Tryd.f30)) (Ann.snd spec_FlatOk_an) (⟨mkE 21 0 [(0, .dat (.list (.int .i64)) x5011)], []⟩ : St) (spec_FlatOk_n8 x5011) (fun (t : Bool) => (Exit.ret, (⟨mkE 21 0 [(2, .dat .bool t)], []⟩ : St))) := by
  unfold spec_FlatOk_n8
  exact Link.cast (by kernel_rfl) (by kernel_rfl) (link_seq2 (b := (Code.snd (Code.snd (bodyOf Tryd.f30)))) (y := (Ann.snd (Ann.snd spec_FlatOk_an))) (spec_FlatOk_n6_l x5011) (fun (t : Unit) => (spec_FlatOk_n7_l x5011)) (fun (t : Bool) => t) (by
  rintro t
  · kernel_rfl) (by
  rintro t f K h
  · exact h))

theorem spec_FlatOk_n9_l (x5011 : List Int) : Link spec_FlatOk_ctx LL (bodyOf Tryd.f30) spec_FlatOk_an (⟨mkE 21 0 [(0, .dat (.list (.int .i64)) x5011)], []⟩ : St) (spec_FlatOk_n9 x5011) (fun (t : Bool) => (Exit.ret, (⟨mkE 21 0 [(2, .dat .bool t)], []⟩ : St))) := by
  unfold spec_FlatOk_n9
  exact Link.cast (by kernel_rfl) (by kernel_rfl) (link_seq (b := (Code.snd (bodyOf Tryd.f30))) (y := (Ann.snd spec_FlatOk_an)) (spec_FlatOk_n1_l x5011) (fun (t : Unit) => (spec_FlatOk_n8_l x5011)))

theorem spec_FlatOk_e (x5011 : List Int) {r : AV} {H' : Heap} (h : (Ans.mk _ (spec_FlatOk x5011) (fun (t : Bool) => (.dat .bool t, [])) [] none).run = some (r, H')) : Awp spec_FlatOk_ctx LL (bodyOf Tryd.f30) spec_FlatOk_an (⟨mkE 21 0 [(0, .dat (.list (.int .i64)) x5011)], []⟩ : St) (Ret (tlook tys) Tryd.f30.results.toList r H') :=
  ret_of' (spec_FlatOk_n9_l x5011) (by unfold spec_FlatOk; kernel_rfl) (by
  intro t
  exact ret_mk [.dat .bool t] (by kernel_rfl) (by kernel_rfl) (by kernel_rfl) (by kernel_rfl)) h

def F_spec_FlatOk : Fun := fun avs H =>
  match avs, H with
  | [.dat (.list (.int .i64)) x5011], [] => ⟨_, spec_FlatOk x5011, fun (t : Bool) => (.dat .bool t, []), [], none⟩
  | _, _ => Ans.no

theorem spec_FlatOk_sound : Sound Tryd.prog 30 F_spec_FlatOk := by
  refine fn_sound' (C := spec_FlatOk_ctx) (c := bodyOf Tryd.f30) (cok_of tys_ok (List.forall_mem_cons.2 ⟨spec_TreeOk_sound, List.forall_mem_cons.2 ⟨spec_l2Yield_sound, List.forall_mem_cons.2 ⟨spec_l3Row_sound, by simp⟩⟩⟩) (List.forall_mem_cons.2 ⟨Tryd.call47, List.forall_mem_cons.2 ⟨Tryd.call49, List.forall_mem_cons.2 ⟨Tryd.call48, by simp⟩⟩⟩) (by kernel_rfl)) Tryd.func30 (by kernel_rfl) LL spec_FlatOk_an ?_
  intro avs H r H' h
  unfold F_spec_FlatOk at h
  split at h
  · refine Awp.cast ?_ ?_ ?_ (spec_FlatOk_e _ h) <;> kernel_rfl
  · simp [Ans.no, Ans.run] at h

/-! loop.example/headtrees/spec.l6Free -/

def spec_l6Free_an : Ann := (.seq (.leaf [0, 1, 2]) (.seq (.seq (.leaf [0, 1, 2, 7]) (.block (.loop (.seq (.seq (.leaf [0, 1, 2, 7, 11]) (.cond (.leaf [0, 1, 2, 7]) (.leaf []))) (.seq (.block (.seq (.leaf [0, 1, 2, 7, 26]) (.cond (.seq (.leaf [6]) (.leaf [6])) (.leaf [0, 1, 2, 7])))) (.leaf [0, 1, 2, 7])))))) (.seq (.leaf [6]) (.leaf [6]))))

noncomputable def spec_l6Free_ctx : Ctx := ⟨tlook tys, olook [], ioF, 0, false, []⟩

theorem spec_l6Free_n1_l (x5324 : List Int) (x5325 : Int) (x5326 : List Bool) : Link spec_l6Free_ctx LL (Code.fst (bodyOf Tryd.f31)) (Ann.fst spec_l6Free_an) (⟨mkE 27 0 [(0, .dat (.list (.int .i64)) x5324), (1, .dat (.int .i64) x5325), (2, .dat (.list .bool) x5326)], []⟩ : St) (spec_l6Free_n1) (fun (t : Unit) => (Exit.normal, (⟨mkE 27 0 [(0, .dat (.list (.int .i64)) x5324), (1, .dat (.int .i64) x5325), (2, .dat (.list .bool) x5326)], []⟩ : St))) := by
  refine Link.of fun K h => ?_
  simp only [spec_l6Free_n1, wpO_bind, wpO_cond, wpO_map, wpO_some] at h
  exact Awp.of (by kernel_rfl) h

theorem spec_l6Free_n2_l (x5324 : List Int) (x5325 : Int) (x5326 : List Bool) : Link spec_l6Free_ctx LL (Code.fst (Code.fst (Code.snd (bodyOf Tryd.f31)))) (Ann.fst (Ann.fst (Ann.snd spec_l6Free_an))) (⟨mkE 27 0 [(0, .dat (.list (.int .i64)) x5324), (1, .dat (.int .i64) x5325), (2, .dat (.list .bool) x5326)], []⟩ : St) (spec_l6Free_n2) (fun (t : Unit) => (Exit.normal, (⟨mkE 27 0 [(0, .dat (.list (.int .i64)) x5324), (1, .dat (.int .i64) x5325), (2, .dat (.list .bool) x5326), (7, .dat (.int .i64) 0)], []⟩ : St))) := by
  refine Link.of fun K h => ?_
  simp only [spec_l6Free_n2, wpO_bind, wpO_cond, wpO_map, wpO_some] at h
  exact Awp.of (by kernel_rfl) h

theorem spec_l6Free_n3_l (x5324 : List Int) (x5325 : Int) (x5326 : List Bool) (x5344 : Int) : Link spec_l6Free_ctx LL (Code.fst (Code.fst (Code.snd (Code.fst (Code.snd (bodyOf Tryd.f31)))))) (Ann.fst (Ann.fst (Ann.snd (Ann.fst (Ann.snd spec_l6Free_an))))) (⟨mkE 27 0 [(0, .dat (.list (.int .i64)) x5324), (1, .dat (.int .i64) x5325), (2, .dat (.list .bool) x5326), (7, .dat (.int .i64) x5344)], []⟩ : St) (spec_l6Free_n3 x5324 x5325 x5326 x5344) (Sum.elim (fun (t : Int) => (Exit.normal, (⟨mkE 27 0 [(0, .dat (.list (.int .i64)) x5324), (1, .dat (.int .i64) x5325), (2, .dat (.list .bool) x5326), (7, .dat (.int .i64) t)], []⟩ : St))) (Sum.elim (fun (t : Bool) => (Exit.ret, (⟨mkE 27 0 [(6, .dat .bool t)], []⟩ : St))) (fun (t : Unit) => ((Exit.exit 0), (⟨mkE 27 0 [], []⟩ : St))))) := by
  refine Link.of fun K h => ?_
  simp only [spec_l6Free_n3, wpO_bind, wpO_cond, wpO_map, wpO_some] at h
  exact Awp.of (by kernel_rfl) h

theorem spec_l6Free_n4_l (x5324 : List Int) (x5325 : Int) (x5326 : List Bool) : Link spec_l6Free_ctx LL (Code.fst (Code.snd (Code.fst (Code.snd (bodyOf Tryd.f31))))) (Ann.fst (Ann.snd (Ann.fst (Ann.snd spec_l6Free_an)))) (⟨mkE 27 0 [(0, .dat (.list (.int .i64)) x5324), (1, .dat (.int .i64) x5325), (2, .dat (.list .bool) x5326), (7, .dat (.int .i64) 0)], []⟩ : St) (spec_l6Free_n4 x5324 x5325 x5326) (Sum.elim (fun (t : Bool) => (Exit.ret, (⟨mkE 27 0 [(6, .dat .bool t)], []⟩ : St))) (fun (t : Unit) => ((Exit.exit 0), (⟨mkE 27 0 [], []⟩ : St)))) := by
  unfold spec_l6Free_n4
  exact Link.cast (by kernel_rfl) (by kernel_rfl) (link_loop (mk := fun (s : Int) => (⟨mkE 27 0 [(0, .dat (.list (.int .i64)) x5324), (1, .dat (.int .i64) x5325), (2, .dat (.list .bool) x5326), (7, .dat (.int .i64) s)], []⟩ : St)) (fin := (Sum.elim (fun (t : Bool) => (Exit.ret, (⟨mkE 27 0 [(6, .dat .bool t)], []⟩ : St))) (fun (t : Unit) => ((Exit.exit 0), (⟨mkE 27 0 [], []⟩ : St))))) (by
  rintro (t | t) f K h
  · exact h
  · exact h) (fun s => link_map (spec_l6Free_n3_l x5324 x5325 x5326 s) (Sum.elim (fun (t : Int) => Sum.inl t) (Sum.elim (fun (t : Bool) => Sum.inr (Sum.inl t)) (fun (t : Unit) => Sum.inr (Sum.inr t)))) (by
  rintro (t | t | t)
  · kernel_rfl
  · kernel_rfl
  · kernel_rfl)) 0)

theorem spec_l6Free_n5_l (x5324 : List Int) (x5325 : Int) (x5326 : List Bool) : Link spec_l6Free_ctx LL (Code.snd (Code.fst (Code.snd (bodyOf Tryd.f31)))) (Ann.snd (Ann.fst (Ann.snd spec_l6Free_an))) (⟨mkE 27 0 [(0, .dat (.list (.int .i64)) x5324), (1, .dat (.int .i64) x5325), (2, .dat (.list .bool) x5326), (7, .dat (.int .i64) 0)], []⟩ : St) (spec_l6Free_n5 x5324 x5325 x5326) (Sum.elim (fun (t : Unit) => (Exit.normal, (⟨mkE 27 0 [], []⟩ : St))) (fun (t : Bool) => (Exit.ret, (⟨mkE 27 0 [(6, .dat .bool t)], []⟩ : St)))) := by
  unfold spec_l6Free_n5
  exact Link.cast (by kernel_rfl) (by kernel_rfl) (link_block (id := 0) (spec_l6Free_n4_l x5324 x5325 x5326) (Sum.elim (fun (t : Bool) => (Sum.inr t)) (fun (t : Unit) => (Sum.inl ()))) (by
  rintro (t | t) K h
  · exact Eq.mp (by kernel_rfl) h
  · exact Eq.mp (by kernel_rfl) h))

theorem spec_l6Free_n6_l (x5324 : List Int) (x5325 : Int) (x5326 : List Bool) : Link spec_l6Free_ctx LL (Code.fst (Code.snd (bodyOf Tryd.f31))) (Ann.fst (Ann.snd spec_l6Free_an)) (⟨mkE 27 0 [(0, .dat (.list (.int .i64)) x5324), (1, .dat (.int .i64) x5325), (2, .dat (.list .bool) x5326)], []⟩ : St) (spec_l6Free_n6 x5324 x5325 x5326) (Sum.elim (fun (t : Unit) => (Exit.normal, (⟨mkE 27 0 [], []⟩ : St))) (fun (t : Bool) => (Exit.ret, (⟨mkE 27 0 [(6, .dat .bool t)], []⟩ : St)))) := by
  unfold spec_l6Free_n6
  exact Link.cast (by kernel_rfl) (by kernel_rfl) (link_seq (b := (Code.snd (Code.fst (Code.snd (bodyOf Tryd.f31))))) (y := (Ann.snd (Ann.fst (Ann.snd spec_l6Free_an)))) (spec_l6Free_n2_l x5324 x5325 x5326) (fun (t : Unit) => (spec_l6Free_n5_l x5324 x5325 x5326)))

theorem spec_l6Free_n7_l : Link spec_l6Free_ctx LL (Code.snd (Code.snd (bodyOf Tryd.f31))) (Ann.snd (Ann.snd spec_l6Free_an)) (⟨mkE 27 0 [], []⟩ : St) (spec_l6Free_n7) (fun (t : Bool) => (Exit.ret, (⟨mkE 27 0 [(6, .dat .bool t)], []⟩ : St))) := by
  refine Link.of fun K h => ?_
  simp only [spec_l6Free_n7, wpO_bind, wpO_cond, wpO_map, wpO_some] at h
  exact Awp.of (by kernel_rfl) h

theorem spec_l6Free_n8_l (x5324 : List Int) (x5325 : Int) (x5326 : List Bool) : Link spec_l6Free_ctx LL (Code.snd (bodyOf Tryd.f31)) (Ann.snd spec_l6Free_an) (⟨mkE 27 0 [(0, .dat (.list (.int .i64)) x5324), (1, .dat (.int .i64) x5325), (2, .dat (.list .bool) x5326)], []⟩ : St) (spec_l6Free_n8 x5324 x5325 x5326) (fun (t : Bool) => (Exit.ret, (⟨mkE 27 0 [(6, .dat .bool t)], []⟩ : St))) := by
  unfold spec_l6Free_n8
  exact Link.cast (by kernel_rfl) (by kernel_rfl) (link_seq2 (b := (Code.snd (Code.snd (bodyOf Tryd.f31)))) (y := (Ann.snd (Ann.snd spec_l6Free_an))) (spec_l6Free_n6_l x5324 x5325 x5326) (fun (t : Unit) => (spec_l6Free_n7_l)) (fun (t : Bool) => t) (by
  rintro t
  · kernel_rfl) (by
  rintro t f K h
  · exact h))

theorem spec_l6Free_n9_l (x5324 : List Int) (x5325 : Int) (x5326 : List Bool) : Link spec_l6Free_ctx LL (bodyOf Tryd.f31) spec_l6Free_an (⟨mkE 27 0 [(0, .dat (.list (.int .i64)) x5324), (1, .dat (.int .i64) x5325), (2, .dat (.list .bool) x5326)], []⟩ : St) (spec_l6Free_n9 x5324 x5325 x5326) (fun (t : Bool) => (Exit.ret, (⟨mkE 27 0 [(6, .dat .bool t)], []⟩ : St))) := by
  unfold spec_l6Free_n9
  exact Link.cast (by kernel_rfl) (by kernel_rfl) (link_seq (b := (Code.snd (bodyOf Tryd.f31))) (y := (Ann.snd spec_l6Free_an)) (spec_l6Free_n1_l x5324 x5325 x5326) (fun (t : Unit) => (spec_l6Free_n8_l x5324 x5325 x5326)))

theorem spec_l6Free_e (x5324 : List Int) (x5325 : Int) (x5326 : List Bool) {r : AV} {H' : Heap} (h : (Ans.mk _ (spec_l6Free x5324 x5325 x5326) (fun (t : Bool) => (.dat .bool t, [])) [] none).run = some (r, H')) : Awp spec_l6Free_ctx LL (bodyOf Tryd.f31) spec_l6Free_an (⟨mkE 27 0 [(0, .dat (.list (.int .i64)) x5324), (1, .dat (.int .i64) x5325), (2, .dat (.list .bool) x5326)], []⟩ : St) (Ret (tlook tys) Tryd.f31.results.toList r H') :=
  ret_of' (spec_l6Free_n9_l x5324 x5325 x5326) (by unfold spec_l6Free; kernel_rfl) (by
  intro t
  exact ret_mk [.dat .bool t] (by kernel_rfl) (by kernel_rfl) (by kernel_rfl) (by kernel_rfl)) h

def F_spec_l6Free : Fun := fun avs H =>
  match avs, H with
  | [.dat (.list (.int .i64)) x5324, .dat (.int .i64) x5325, .dat (.list .bool) x5326], [] => ⟨_, spec_l6Free x5324 x5325 x5326, fun (t : Bool) => (.dat .bool t, []), [], none⟩
  | _, _ => Ans.no

theorem spec_l6Free_sound : Sound Tryd.prog 31 F_spec_l6Free := by
  refine fn_sound' (C := spec_l6Free_ctx) (c := bodyOf Tryd.f31) (cok_of tys_ok (by simp) (by simp) (by kernel_rfl)) Tryd.func31 (by kernel_rfl) LL spec_l6Free_an ?_
  intro avs H r H' h
  unfold F_spec_l6Free at h
  split at h
  · refine Awp.cast ?_ ?_ ?_ (spec_l6Free_e _ _ _ h) <;> kernel_rfl
  · simp [Ans.no, Ans.run] at h

/-! loop.example/headtrees/spec.MovesFor -/

def spec_MovesFor_an : Ann := (.seq (.leaf [0]) (.seq (.seq (.leaf [0, 11]) (.cond (.seq (.leaf [2, 3]) (.leaf [2, 3])) (.leaf [0]))) (.seq (.leaf [0, 4]) (.seq (.leaf [0, 4, 5]) (.seq (.leaf [0, 4, 5, 6]) (.seq (.leaf [0, 4, 5, 6, 7]) (.seq (.block (.loop (.seq (.seq (.leaf [0, 4, 5, 6, 7, 24]) (.cond (.leaf [0, 4, 5, 6, 7]) (.leaf [6]))) (.block (.seq (.leaf [0, 4, 5, 6, 7, 8]) (.block (.seq (.draw [26] [0, 1, 2, 3, 4, 5, 6, 7, 8, 9, 10, 11, 12, 13, 14, 15, 16, 17, 18, 19, 20, 21, 22, 23, 24, 25, 26, 27, 28] [] [0, 4, 5, 6, 7, 8, 36]) (.cond (.seq (.leaf [0, 4, 5, 6, 7, 8]) (.seq (.leaf [0, 4, 5, 6, 7, 8]) (.draw [5, 0, 10] [0, 1, 2, 3, 4, 6, 7, 8, 9, 10, 5, 11, 12] [] [0, 4, 5, 6, 7]))) (.seq (.draw [25] [0, 1, 2, 3, 4, 5, 6, 7, 8, 9, 10, 11, 12, 13, 14, 15, 16, 17, 18, 19, 20, 21, 22, 23, 24, 25, 26, 27] [] [0, 4, 5, 6, 7, 8, 87]) (.cond (.seq (.leaf [0, 4, 5, 6, 7, 8]) (.seq (.leaf [0, 4, 5, 6, 7, 8]) (.leaf [0, 4, 5, 6, 7]))) (.seq (.leaf [0, 4, 5, 6, 7]) (.seq (.leaf [0, 4, 5, 6, 7]) (.leaf [0, 4, 5, 6, 7]))))))))))))) (.seq (.leaf [2, 3]) (.leaf [2, 3])))))))))

noncomputable def spec_MovesFor_ctx : Ctx := ⟨tlook tys, olook [(30, F_spec_FlatOk), (31, F_spec_l6Free)], ioF, 0, false, []⟩

theorem spec_MovesFor_n1_l (x5010 : List Int) : Link spec_MovesFor_ctx LL (Code.seq (Code.fst (bodyOf Tryd.f14)) (Code.seq (Code.fst (Code.snd (bodyOf Tryd.f14))) (Code.seq (Code.fst (Code.snd (Code.snd (bodyOf Tryd.f14)))) (Code.seq (Code.fst (Code.snd (Code.snd (Code.snd (bodyOf Tryd.f14))))) (Code.seq (Code.fst (Code.snd (Code.snd (Code.snd (Code.snd (bodyOf Tryd.f14)))))) (Code.fst (Code.snd (Code.snd (Code.snd (Code.snd (Code.snd (bodyOf Tryd.f14)))))))))))) (Ann.seq (Ann.fst spec_MovesFor_an) (Ann.seq (Ann.fst (Ann.snd spec_MovesFor_an)) (Ann.seq (Ann.fst (Ann.snd (Ann.snd spec_MovesFor_an))) (Ann.seq (Ann.fst (Ann.snd (Ann.snd (Ann.snd spec_MovesFor_an)))) (Ann.seq (Ann.fst (Ann.snd (Ann.snd (Ann.snd (Ann.snd spec_MovesFor_an))))) (Ann.fst (Ann.snd (Ann.snd (Ann.snd (Ann.snd (Ann.snd spec_MovesFor_an))))))))))) (⟨mkE 130 0 [(0, .dat (.list (.int .i64)) x5010)], []⟩ : St) (spec_MovesFor_n1 x5010) (Sum.elim (fun (t : (List Bool)) => (Exit.normal, (⟨mkE 130 0 [(0, .dat (.list (.int .i64)) x5010), (4, .slc 0), (5, .slc 1), (6, .dat .str ByteArray.empty), (7, .dat (.int .i64) 1)], [some (.seq .bool t), some (.seq (.int .i64) ([] : List Int))]⟩ : St))) (fun (t : ByteArray × Bool) => (Exit.ret, (⟨mkE 130 0 [(2, .dat .str t.1), (3, .dat .bool t.2)], []⟩ : St)))) := by
  refine Link.of fun K h => ?_
  simp only [spec_MovesFor_n1, wpO_bind, wpO_cond, wpO_map, wpO_some] at h
  exact Awp.of (by kernel_rfl) h

theorem spec_MovesFor_n2_l (x5010 : List Int) (x5844 : ByteArray) (x5845 : Int) (x5846 : List Bool) (x5847 : List Int) : Link spec_MovesFor_ctx LL (Code.fst (Code.fst (Code.fst (Code.fst (Code.snd (Code.snd (Code.snd (Code.snd (Code.snd (Code.snd (bodyOf Tryd.f14))))))))))) (Ann.fst (Ann.fst (Ann.fst (Ann.fst (Ann.snd (Ann.snd (Ann.snd (Ann.snd (Ann.snd (Ann.snd spec_MovesFor_an)))))))))) (⟨mkE 130 0 [(0, .dat (.list (.int .i64)) x5010), (4, .slc 0), (5, .slc 1), (6, .dat .str x5844), (7, .dat (.int .i64) x5845)], [some (.seq .bool x5846), some (.seq (.int .i64) x5847)]⟩ : St) (spec_MovesFor_n2 x5010 x5844 x5845 x5847) (Sum.elim (fun (t : Unit) => (Exit.normal, (⟨mkE 130 0 [(0, .dat (.list (.int .i64)) x5010), (4, .slc 0), (5, .slc 1), (6, .dat .str x5844), (7, .dat (.int .i64) x5845)], [some (.seq .bool x5846), some (.seq (.int .i64) x5847)]⟩ : St))) (fun (t : ByteArray) => ((Exit.exit 0), (⟨mkE 130 0 [(6, .dat .str t)], []⟩ : St)))) := by
  refine Link.of fun K h => ?_
  simp only [spec_MovesFor_n2, wpO_bind, wpO_cond, wpO_map, wpO_some] at h
  exact Awp.of (by kernel_rfl) h

theorem spec_MovesFor_n3_l (x5010 : List Int) (x5844 : ByteArray) (x5845 : Int) (x5846 : List Bool) (x5847 : List Int) : Link spec_MovesFor_ctx LL (Code.snd (Code.fst (Code.fst (Code.fst (Code.snd (Code.snd (Code.snd (Code.snd (Code.snd (Code.snd (bodyOf Tryd.f14))))))))))) (Ann.snd (Ann.fst (Ann.fst (Ann.fst (Ann.snd (Ann.snd (Ann.snd (Ann.snd (Ann.snd (Ann.snd spec_MovesFor_an)))))))))) (⟨mkE 130 0 [(0, .dat (.list (.int .i64)) x5010), (4, .slc 0), (5, .slc 1), (6, .dat .str x5844), (7, .dat (.int .i64) x5845)], [some (.seq .bool x5846), some (.seq (.int .i64) x5847)]⟩ : St) (spec_MovesFor_n3 x5010 x5844 x5845 x5846 x5847) (fun (t : ByteArray × Int × (List Bool) × (List Int)) => (Exit.normal, (⟨mkE 130 0 [(0, .dat (.list (.int .i64)) x5010), (4, .slc 0), (5, .slc 1), (6, .dat .str t.1), (7, .dat (.int .i64) t.2.1)], [some (.seq .bool t.2.2.1), some (.seq (.int .i64) t.2.2.2)]⟩ : St))) := by
  refine Link.of fun K h => ?_
  simp only [spec_MovesFor_n3, wpO_bind, wpO_cond, wpO_map, wpO_some] at h
  exact Awp.of (by kernel_rfl) h

theorem spec_MovesFor_n4_l (x5010 : List Int) (x5844 : ByteArray) (x5845 : Int) (x5846 : List Bool) (x5847 : List Int) : Link spec_MovesFor_ctx LL (Code.fst (Code.fst (Code.fst (Code.snd (Code.snd (Code.snd (Code.snd (Code.snd (Code.snd (bodyOf Tryd.f14)))))))))) (Ann.fst (Ann.fst (Ann.fst (Ann.snd (Ann.snd (Ann.snd (Ann.snd (Ann.snd (Ann.snd spec_MovesFor_an))))))))) (⟨mkE 130 0 [(0, .dat (.list (.int .i64)) x5010), (4, .slc 0), (5, .slc 1), (6, .dat .str x5844), (7, .dat (.int .i64) x5845)], [some (.seq .bool x5846), some (.seq (.int .i64) x5847)]⟩ : St) (spec_MovesFor_n4 x5010 x5844 x5845 x5846 x5847) (Sum.elim (fun (t : ByteArray × Int × (List Bool) × (List Int)) => (Exit.normal, (⟨mkE 130 0 [(0, .dat (.list (.int .i64)) x5010), (4, .slc 0), (5, .slc 1), (6, .dat .str t.1), (7, .dat (.int .i64) t.2.1)], [some (.seq .bool t.2.2.1), some (.seq (.int .i64) t.2.2.2)]⟩ : St))) (fun (t : ByteArray) => ((Exit.exit 0), (⟨mkE 130 0 [(6, .dat .str t)], []⟩ : St)))) := by
  unfold spec_MovesFor_n4
  exact Link.cast (by kernel_rfl) (by kernel_rfl) (link_seq2 (b := (Code.snd (Code.fst (Code.fst (Code.fst (Code.snd (Code.snd (Code.snd (Code.snd (Code.snd (Code.snd (bodyOf Tryd.f14)))))))))))) (y := (Ann.snd (Ann.fst (Ann.fst (Ann.fst (Ann.snd (Ann.snd (Ann.snd (Ann.snd (Ann.snd (Ann.snd spec_MovesFor_an))))))))))) (spec_MovesFor_n2_l x5010 x5844 x5845 x5846 x5847) (fun (t : Unit) => (link_map (spec_MovesFor_n3_l x5010 x5844 x5845 x5846 x5847) (fun (t : ByteArray × Int × (List Bool) × (List Int)) => (Sum.inl (t.1, t.2.1, t.2.2.1, t.2.2.2))) (by
  rintro t
  · kernel_rfl))) (fun (t : ByteArray) => (Sum.inr t)) (by
  rintro t
  · kernel_rfl) (by
  rintro t f K h
  · exact h))

theorem spec_MovesFor_n5_l (x5010 : List Int) (x5446 : List Bool) : Link spec_MovesFor_ctx LL (Code.fst (Code.fst (Code.snd (Code.snd (Code.snd (Code.snd (Code.snd (Code.snd (bodyOf Tryd.f14))))))))) (Ann.fst (Ann.fst (Ann.snd (Ann.snd (Ann.snd (Ann.snd (Ann.snd (Ann.snd spec_MovesFor_an)))))))) (⟨mkE 130 0 [(0, .dat (.list (.int .i64)) x5010), (4, .slc 0), (5, .slc 1), (6, .dat .str ByteArray.empty), (7, .dat (.int .i64) 1)], [some (.seq .bool x5446), some (.seq (.int .i64) ([] : List Int))]⟩ : St) (spec_MovesFor_n5 x5010 x5446) (fun (t : ByteArray) => ((Exit.exit 0), (⟨mkE 130 0 [(6, .dat .str t)], []⟩ : St))) := by
  unfold spec_MovesFor_n5
  exact Link.cast (by kernel_rfl) (by kernel_rfl) (link_loop (mk := fun (s : ByteArray × Int × (List Bool) × (List Int)) => (⟨mkE 130 0 [(0, .dat (.list (.int .i64)) x5010), (4, .slc 0), (5, .slc 1), (6, .dat .str s.1), (7, .dat (.int .i64) s.2.1)], [some (.seq .bool s.2.2.1), some (.seq (.int .i64) s.2.2.2)]⟩ : St)) (fin := (fun (t : ByteArray) => ((Exit.exit 0), (⟨mkE 130 0 [(6, .dat .str t)], []⟩ : St)))) (by
  rintro t f K h
  · exact h) (fun s => link_map (spec_MovesFor_n4_l x5010 s.1 s.2.1 s.2.2.1 s.2.2.2) (Sum.elim (fun (t : ByteArray × Int × (List Bool) × (List Int)) => Sum.inl (t.1, t.2.1, t.2.2.1, t.2.2.2)) (fun (t : ByteArray) => Sum.inr t)) (by
  rintro (t | t)
  · kernel_rfl
  · kernel_rfl)) (ByteArray.empty, 1, x5446, ([] : List Int)))

theorem spec_MovesFor_n6_l (x5010 : List Int) (x5446 : List Bool) : Link spec_MovesFor_ctx LL (Code.fst (Code.snd (Code.snd (Code.snd (Code.snd (Code.snd (Code.snd (bodyOf Tryd.f14)))))))) (Ann.fst (Ann.snd (Ann.snd (Ann.snd (Ann.snd (Ann.snd (Ann.snd spec_MovesFor_an))))))) (⟨mkE 130 0 [(0, .dat (.list (.int .i64)) x5010), (4, .slc 0), (5, .slc 1), (6, .dat .str ByteArray.empty), (7, .dat (.int .i64) 1)], [some (.seq .bool x5446), some (.seq (.int .i64) ([] : List Int))]⟩ : St) (spec_MovesFor_n6 x5010 x5446) (fun (t : ByteArray) => (Exit.normal, (⟨mkE 130 0 [(6, .dat .str t)], []⟩ : St))) := by
  unfold spec_MovesFor_n6
  exact Link.cast (by kernel_rfl) (by kernel_rfl) (link_block (id := 0) (spec_MovesFor_n5_l x5010 x5446) (fun (t : ByteArray) => t) (by
  rintro t K h
  · exact Eq.mp (by kernel_rfl) h))

theorem spec_MovesFor_n7_l (x5844 : ByteArray) : Link spec_MovesFor_ctx LL (Code.snd (Code.snd (Code.snd (Code.snd (Code.snd (Code.snd (Code.snd (bodyOf Tryd.f14)))))))) (Ann.snd (Ann.snd (Ann.snd (Ann.snd (Ann.snd (Ann.snd (Ann.snd spec_MovesFor_an))))))) (⟨mkE 130 0 [(6, .dat .str x5844)], []⟩ : St) (spec_MovesFor_n7 x5844) (fun (t : ByteArray × Bool) => (Exit.ret, (⟨mkE 130 0 [(2, .dat .str t.1), (3, .dat .bool t.2)], []⟩ : St))) := by
  refine Link.of fun K h => ?_
  simp only [spec_MovesFor_n7, wpO_bind, wpO_cond, wpO_map, wpO_some] at h
  exact Awp.of (by kernel_rfl) h

theorem spec_MovesFor_n8_l (x5010 : List Int) (x5446 : List Bool) : Link spec_MovesFor_ctx LL (Code.snd (Code.snd (Code.snd (Code.snd (Code.snd (Code.snd (bodyOf Tryd.f14))))))) (Ann.snd (Ann.snd (Ann.snd (Ann.snd (Ann.snd (Ann.snd spec_MovesFor_an)))))) (⟨mkE 130 0 [(0, .dat (.list (.int .i64)) x5010), (4, .slc 0), (5, .slc 1), (6, .dat .str ByteArray.empty), (7, .dat (.int .i64) 1)], [some (.seq .bool x5446), some (.seq (.int .i64) ([] : List Int))]⟩ : St) (spec_MovesFor_n8 x5010 x5446) (fun (t : ByteArray × Bool) => (Exit.ret, (⟨mkE 130 0 [(2, .dat .str t.1), (3, .dat .bool t.2)], []⟩ : St))) := by
  unfold spec_MovesFor_n8
  exact Link.cast (by kernel_rfl) (by kernel_rfl) (link_seq (b := (Code.snd (Code.snd (Code.snd (Code.snd (Code.snd (Code.snd (Code.snd (bodyOf Tryd.f14))))))))) (y := (Ann.snd (Ann.snd (Ann.snd (Ann.snd (Ann.snd (Ann.snd (Ann.snd spec_MovesFor_an)))))))) (spec_MovesFor_n6_l x5010 x5446) (fun (t : ByteArray) => (spec_MovesFor_n7_l t)))

theorem spec_MovesFor_n9_l (x5010 : List Int) : Link spec_MovesFor_ctx LL (bodyOf Tryd.f14) spec_MovesFor_an (⟨mkE 130 0 [(0, .dat (.list (.int .i64)) x5010)], []⟩ : St) (spec_MovesFor_n9 x5010) (fun (t : ByteArray × Bool) => (Exit.ret, (⟨mkE 130 0 [(2, .dat .str t.1), (3, .dat .bool t.2)], []⟩ : St))) := by
  unfold spec_MovesFor_n9
  exact Link.cast (by kernel_rfl) (by kernel_rfl) (link_group (c := (Code.fst (Code.snd (Code.snd (Code.snd (Code.snd (Code.snd (bodyOf Tryd.f14)))))))) (a := (Ann.fst (Ann.snd (Ann.snd (Ann.snd (Ann.snd (Ann.snd spec_MovesFor_an))))))) [(Code.fst (bodyOf Tryd.f14)), (Code.fst (Code.snd (bodyOf Tryd.f14))), (Code.fst (Code.snd (Code.snd (bodyOf Tryd.f14)))), (Code.fst (Code.snd (Code.snd (Code.snd (bodyOf Tryd.f14))))), (Code.fst (Code.snd (Code.snd (Code.snd (Code.snd (bodyOf Tryd.f14))))))] [(Ann.fst spec_MovesFor_an), (Ann.fst (Ann.snd spec_MovesFor_an)), (Ann.fst (Ann.snd (Ann.snd spec_MovesFor_an))), (Ann.fst (Ann.snd (Ann.snd (Ann.snd spec_MovesFor_an)))), (Ann.fst (Ann.snd (Ann.snd (Ann.snd (Ann.snd spec_MovesFor_an)))))] rfl (link_seq2 (b := (Code.snd (Code.snd (Code.snd (Code.snd (Code.snd (Code.snd (bodyOf Tryd.f14)))))))) (y := (Ann.snd (Ann.snd (Ann.snd (Ann.snd (Ann.snd (Ann.snd spec_MovesFor_an))))))) (spec_MovesFor_n1_l x5010) (fun (t : (List Bool)) => (spec_MovesFor_n8_l x5010 t)) (fun (t : ByteArray × Bool) => t) (by
  rintro t
  · kernel_rfl) (by
  rintro t f K h
  · exact h)))

theorem spec_MovesFor_e (x5010 : List Int) {r : AV} {H' : Heap} (h : (Ans.mk _ (spec_MovesFor x5010) (fun (t : ByteArray × Bool) => (.tup [.dat .str t.1, .dat .bool t.2], [])) [] none).run = some (r, H')) : Awp spec_MovesFor_ctx LL (bodyOf Tryd.f14) spec_MovesFor_an (⟨mkE 130 0 [(0, .dat (.list (.int .i64)) x5010)], []⟩ : St) (Ret (tlook tys) Tryd.f14.results.toList r H') :=
  ret_of' (spec_MovesFor_n9_l x5010) (by unfold spec_MovesFor; kernel_rfl) (by
  intro t
  exact ret_mk [.dat .str t.1, .dat .bool t.2] (by kernel_rfl) (by kernel_rfl) (by kernel_rfl) (by kernel_rfl)) h

def F_spec_MovesFor : Fun := fun avs H =>
  match avs, H with
  | [.dat (.list (.int .i64)) x5010], [] => ⟨_, spec_MovesFor x5010, fun (t : ByteArray × Bool) => (.tup [.dat .str t.1, .dat .bool t.2], []), [], none⟩
  | _, _ => Ans.no

theorem spec_MovesFor_sound : Sound Tryd.prog 14 F_spec_MovesFor := by
  refine fn_sound' (C := spec_MovesFor_ctx) (c := bodyOf Tryd.f14) (cok_of tys_ok (List.forall_mem_cons.2 ⟨spec_FlatOk_sound, List.forall_mem_cons.2 ⟨spec_l6Free_sound, by simp⟩⟩) (List.forall_mem_cons.2 ⟨Tryd.call30, List.forall_mem_cons.2 ⟨Tryd.call31, by simp⟩⟩) (by kernel_rfl)) Tryd.func14 (by kernel_rfl) LL spec_MovesFor_an ?_
  intro avs H r H' h
  unfold F_spec_MovesFor at h
  split at h
  · refine Awp.cast ?_ ?_ ?_ (spec_MovesFor_e _ h) <;> kernel_rfl
  · simp [Ans.no, Ans.run] at h

/-! loop.example/headtrees/laws.FnMovesFor -/

def laws_FnMovesFor_an : Ann := (.seq (.leaf [0]) (.seq (.seq (.leaf [0, 17]) (.cond (.seq (.leaf [2]) (.leaf [2])) (.leaf [0]))) (.seq (.leaf [3]) (.seq (.leaf [3, 4, 5]) (.seq (.leaf [3, 4, 5, 6, 7]) (.seq (.seq (.leaf [3, 4, 5, 37]) (.cond (.seq (.leaf [2]) (.leaf [2])) (.leaf [3, 4, 5]))) (.seq (.seq (.leaf [3, 4, 39]) (.cond (.seq (.leaf [2]) (.leaf [2])) (.leaf [3, 4]))) (.seq (.leaf [3, 4, 8]) (.seq (.leaf [3, 4, 8, 9]) (.seq (.seq (.leaf [3, 4, 8, 9, 10]) (.block (.loop (.seq (.seq (.leaf [3, 4, 8, 9, 10, 53]) (.cond (.leaf [3, 4, 8, 9, 10]) (.leaf [3, 4, 8, 9]))) (.seq (.block (.seq (.seq (.leaf [3, 4, 8, 9, 10, 59]) (.cond (.leaf [3, 4, 8, 9, 10]) (.leaf [3, 4, 8, 9, 10]))) (.seq (.leaf [3, 4, 8, 9, 10, 65]) (.cond (.leaf [3, 4, 8, 9, 10]) (.leaf [3, 4, 8, 9, 10]))))) (.leaf [3, 4, 8, 9, 10])))))) (.seq (.leaf [3, 4, 8, 9, 11]) (.seq (.seq (.leaf [3, 4, 8, 9, 11, 12]) (.block (.loop (.seq (.seq (.leaf [3, 4, 8, 9, 11, 12, 71]) (.cond (.leaf [3, 4, 8, 9, 11, 12]) (.leaf [3, 4, 8, 9, 11]))) (.seq (.block (.seq (.leaf [3, 4, 8, 9, 11, 12, 80]) (.cond (.leaf [3, 4, 8, 9, 11, 12]) (.leaf [3, 4, 8, 9, 11, 12])))) (.leaf [3, 4, 8, 9, 11, 12])))))) (.seq (.leaf [3, 4, 8, 9, 11, 13, 14]) (.seq (.leaf [2]) (.leaf [2])))))))))))))))

noncomputable def laws_FnMovesFor_ctx : Ctx := ⟨tlook tys, olook [(13, F_spec_DrawMovesFor), (11, F_impl_MovesFor), (14, F_spec_MovesFor), (12, F_impl_FlatOk), (10, F_laws_alive), (7, F_impl_RunStack), (9, F_laws_sameInts)], ioF, 0, false, []⟩

theorem laws_FnMovesFor_n1_l (x4210 : List Int) : Link laws_FnMovesFor_ctx LL (Code.seq (Code.fst (bodyOf Tryd.f4)) (Code.seq (Code.fst (Code.snd (bodyOf Tryd.f4))) (Code.seq (Code.fst (Code.snd (Code.snd (bodyOf Tryd.f4)))) (Code.seq (Code.fst (Code.snd (Code.snd (Code.snd (bodyOf Tryd.f4))))) (Code.seq (Code.fst (Code.snd (Code.snd (Code.snd (Code.snd (bodyOf Tryd.f4)))))) (Code.seq (Code.fst (Code.snd (Code.snd (Code.snd (Code.snd (Code.snd (bodyOf Tryd.f4))))))) (Code.seq (Code.fst (Code.snd (Code.snd (Code.snd (Code.snd (Code.snd (Code.snd (bodyOf Tryd.f4)))))))) (Code.seq (Code.fst (Code.snd (Code.snd (Code.snd (Code.snd (Code.snd (Code.snd (Code.snd (bodyOf Tryd.f4))))))))) (Code.fst (Code.snd (Code.snd (Code.snd (Code.snd (Code.snd (Code.snd (Code.snd (Code.snd (bodyOf Tryd.f4)))))))))))))))))) (Ann.seq (Ann.fst laws_FnMovesFor_an) (Ann.seq (Ann.fst (Ann.snd laws_FnMovesFor_an)) (Ann.seq (Ann.fst (Ann.snd (Ann.snd laws_FnMovesFor_an))) (Ann.seq (Ann.fst (Ann.snd (Ann.snd (Ann.snd laws_FnMovesFor_an)))) (Ann.seq (Ann.fst (Ann.snd (Ann.snd (Ann.snd (Ann.snd laws_FnMovesFor_an))))) (Ann.seq (Ann.fst (Ann.snd (Ann.snd (Ann.snd (Ann.snd (Ann.snd laws_FnMovesFor_an)))))) (Ann.seq (Ann.fst (Ann.snd (Ann.snd (Ann.snd (Ann.snd (Ann.snd (Ann.snd laws_FnMovesFor_an))))))) (Ann.seq (Ann.fst (Ann.snd (Ann.snd (Ann.snd (Ann.snd (Ann.snd (Ann.snd (Ann.snd laws_FnMovesFor_an)))))))) (Ann.fst (Ann.snd (Ann.snd (Ann.snd (Ann.snd (Ann.snd (Ann.snd (Ann.snd (Ann.snd laws_FnMovesFor_an))))))))))))))))) (⟨mkE 116 0 [(0, .dat (.list (.int .u8)) x4210)], []⟩ : St) (laws_FnMovesFor_n1 x4210) (Sum.elim (fun (t : ByteArray × (List Int)) => (Exit.normal, (⟨mkE 116 0 [(3, .slc 0), (4, .dat .str t.1), (8, .dat (.int .i64) 0), (9, .dat (.int .i64) 0)], [some (.seq (.int .i64) t.2)]⟩ : St))) (fun (t : Bool) => (Exit.ret, (⟨mkE 116 0 [(2, .dat .bool t)], []⟩ : St)))) := by
  refine Link.of fun K h => ?_
  simp only [laws_FnMovesFor_n1, wpO_bind, wpO_cond, wpO_map, wpO_some] at h
  exact Awp.of (by kernel_rfl) h

theorem laws_FnMovesFor_n2_l (x6297 : ByteArray) (x6295 : List Int) : Link laws_FnMovesFor_ctx LL (Code.fst (Code.fst (Code.snd (Code.snd (Code.snd (Code.snd (Code.snd (Code.snd (Code.snd (Code.snd (Code.snd (bodyOf Tryd.f4)))))))))))) (Ann.fst (Ann.fst (Ann.snd (Ann.snd (Ann.snd (Ann.snd (Ann.snd (Ann.snd (Ann.snd (Ann.snd (Ann.snd laws_FnMovesFor_an))))))))))) (⟨mkE 116 0 [(3, .slc 0), (4, .dat .str x6297), (8, .dat (.int .i64) 0), (9, .dat (.int .i64) 0)], [some (.seq (.int .i64) x6295)]⟩ : St) (laws_FnMovesFor_n2) (fun (t : Unit) => (Exit.normal, (⟨mkE 116 0 [(3, .slc 0), (4, .dat .str x6297), (8, .dat (.int .i64) 0), (9, .dat (.int .i64) 0), (10, .dat (.int .i64) 0)], [some (.seq (.int .i64) x6295)]⟩ : St))) := by
  refine Link.of fun K h => ?_
  simp only [laws_FnMovesFor_n2, wpO_bind, wpO_cond, wpO_map, wpO_some] at h
  exact Awp.of (by kernel_rfl) h

theorem laws_FnMovesFor_n3_l (x6297 : ByteArray) (x6340 : Int) (x6341 : Int) (x6342 : Int) (x6295 : List Int) : Link laws_FnMovesFor_ctx LL (Code.fst (Code.fst (Code.snd (Code.fst (Code.snd (Code.snd (Code.snd (Code.snd (Code.snd (Code.snd (Code.snd (Code.snd (Code.snd (bodyOf Tryd.f4)))))))))))))) (Ann.fst (Ann.fst (Ann.snd (Ann.fst (Ann.snd (Ann.snd (Ann.snd (Ann.snd (Ann.snd (Ann.snd (Ann.snd (Ann.snd (Ann.snd laws_FnMovesFor_an))))))))))))) (⟨mkE 116 0 [(3, .slc 0), (4, .dat .str x6297), (8, .dat (.int .i64) x6340), (9, .dat (.int .i64) x6341), (10, .dat (.int .i64) x6342)], [some (.seq (.int .i64) x6295)]⟩ : St) (laws_FnMovesFor_n3 x6297 x6340 x6341 x6342) (Sum.elim (fun (t : Int × Int × Int) => (Exit.normal, (⟨mkE 116 0 [(3, .slc 0), (4, .dat .str x6297), (8, .dat (.int .i64) t.1), (9, .dat (.int .i64) t.2.1), (10, .dat (.int .i64) t.2.2)], [some (.seq (.int .i64) x6295)]⟩ : St))) (fun (t : Int × Int) => ((Exit.exit 0), (⟨mkE 116 0 [(3, .slc 0), (4, .dat .str x6297), (8, .dat (.int .i64) t.1), (9, .dat (.int .i64) t.2)], [some (.seq (.int .i64) x6295)]⟩ : St)))) := by
  refine Link.of fun K h => ?_
  simp only [laws_FnMovesFor_n3, wpO_bind, wpO_cond, wpO_map, wpO_some] at h
  exact Awp.of (by kernel_rfl) h

theorem laws_FnMovesFor_n4_l (x6297 : ByteArray) (x6295 : List Int) : Link laws_FnMovesFor_ctx LL (Code.fst (Code.snd (Code.fst (Code.snd (Code.snd (Code.snd (Code.snd (Code.snd (Code.snd (Code.snd (Code.snd (Code.snd (bodyOf Tryd.f4))))))))))))) (Ann.fst (Ann.snd (Ann.fst (Ann.snd (Ann.snd (Ann.snd (Ann.snd (Ann.snd (Ann.snd (Ann.snd (Ann.snd (Ann.snd laws_FnMovesFor_an)))))))))))) (⟨mkE 116 0 [(3, .slc 0), (4, .dat .str x6297), (8, .dat (.int .i64) 0), (9, .dat (.int .i64) 0), (10, .dat (.int .i64) 0)], [some (.seq (.int .i64) x6295)]⟩ : St) (laws_FnMovesFor_n4 x6297) (fun (t : Int × Int) => ((Exit.exit 0), (⟨mkE 116 0 [(3, .slc 0), (4, .dat .str x6297), (8, .dat (.int .i64) t.1), (9, .dat (.int .i64) t.2)], [some (.seq (.int .i64) x6295)]⟩ : St))) := by
  unfold laws_FnMovesFor_n4
  exact Link.cast (by kernel_rfl) (by kernel_rfl) (link_loop (mk := fun (s : Int × Int × Int) => (⟨mkE 116 0 [(3, .slc 0), (4, .dat .str x6297), (8, .dat (.int .i64) s.1), (9, .dat (.int .i64) s.2.1), (10, .dat (.int .i64) s.2.2)], [some (.seq (.int .i64) x6295)]⟩ : St)) (fin := (fun (t : Int × Int) => ((Exit.exit 0), (⟨mkE 116 0 [(3, .slc 0), (4, .dat .str x6297), (8, .dat (.int .i64) t.1), (9, .dat (.int .i64) t.2)], [some (.seq (.int .i64) x6295)]⟩ : St)))) (by
  rintro t f K h
  · exact h) (fun s => link_map (laws_FnMovesFor_n3_l x6297 s.1 s.2.1 s.2.2 x6295) (Sum.elim (fun (t : Int × Int × Int) => Sum.inl (t.1, t.2.1, t.2.2)) (fun (t : Int × Int) => Sum.inr t)) (by
  rintro (t | t)
  · kernel_rfl
  · kernel_rfl)) (0, 0, 0))

theorem laws_FnMovesFor_n5_l (x6297 : ByteArray) (x6295 : List Int) : Link laws_FnMovesFor_ctx LL (Code.snd (Code.fst (Code.snd (Code.snd (Code.snd (Code.snd (Code.snd (Code.snd (Code.snd (Code.snd (Code.snd (bodyOf Tryd.f4)))))))))))) (Ann.snd (Ann.fst (Ann.snd (Ann.snd (Ann.snd (Ann.snd (Ann.snd (Ann.snd (Ann.snd (Ann.snd (Ann.snd laws_FnMovesFor_an))))))))))) (⟨mkE 116 0 [(3, .slc 0), (4, .dat .str x6297), (8, .dat (.int .i64) 0), (9, .dat (.int .i64) 0), (10, .dat (.int .i64) 0)], [some (.seq (.int .i64) x6295)]⟩ : St) (laws_FnMovesFor_n5 x6297) (fun (t : Int × Int) => (Exit.normal, (⟨mkE 116 0 [(3, .slc 0), (4, .dat .str x6297), (8, .dat (.int .i64) t.1), (9, .dat (.int .i64) t.2)], [some (.seq (.int .i64) x6295)]⟩ : St))) := by
  unfold laws_FnMovesFor_n5
  exact Link.cast (by kernel_rfl) (by kernel_rfl) (link_block (id := 0) (laws_FnMovesFor_n4_l x6297 x6295) (fun (t : Int × Int) => (t.1, t.2)) (by
  rintro t K h
  · exact Eq.mp (by kernel_rfl) h))

theorem laws_FnMovesFor_n6_l (x6297 : ByteArray) (x6295 : List Int) : Link laws_FnMovesFor_ctx LL (Code.fst (Code.snd (Code.snd (Code.snd (Code.snd (Code.snd (Code.snd (Code.snd (Code.snd (Code.snd (bodyOf Tryd.f4))))))))))) (Ann.fst (Ann.snd (Ann.snd (Ann.snd (Ann.snd (Ann.snd (Ann.snd (Ann.snd (Ann.snd (Ann.snd laws_FnMovesFor_an)))))))))) (⟨mkE 116 0 [(3, .slc 0), (4, .dat .str x6297), (8, .dat (.int .i64) 0), (9, .dat (.int .i64) 0)], [some (.seq (.int .i64) x6295)]⟩ : St) (laws_FnMovesFor_n6 x6297) (fun (t : Int × Int) => (Exit.normal, (⟨mkE 116 0 [(3, .slc 0), (4, .dat .str x6297), (8, .dat (.int .i64) t.1), (9, .dat (.int .i64) t.2)], [some (.seq (.int .i64) x6295)]⟩ : St))) := by
  unfold laws_FnMovesFor_n6
  exact Link.cast (by kernel_rfl) (by kernel_rfl) (link_seq (b := (Code.snd (Code.fst (Code.snd (Code.snd (Code.snd (Code.snd (Code.snd (Code.snd (Code.snd (Code.snd (Code.snd (bodyOf Tryd.f4))))))))))))) (y := (Ann.snd (Ann.fst (Ann.snd (Ann.snd (Ann.snd (Ann.snd (Ann.snd (Ann.snd (Ann.snd (Ann.snd (Ann.snd laws_FnMovesFor_an)))))))))))) (laws_FnMovesFor_n2_l x6297 x6295) (fun (t : Unit) => (laws_FnMovesFor_n5_l x6297 x6295)))

theorem laws_FnMovesFor_n7_l (x6297 : ByteArray) (x6340 : Int) (x6341 : Int) (x6295 : List Int) : Link laws_FnMovesFor_ctx LL (Code.fst (Code.snd (Code.snd (Code.snd (Code.snd (Code.snd (Code.snd (Code.snd (Code.snd (Code.snd (Code.snd (bodyOf Tryd.f4)))))))))))) (Ann.fst (Ann.snd (Ann.snd (Ann.snd (Ann.snd (Ann.snd (Ann.snd (Ann.snd (Ann.snd (Ann.snd (Ann.snd laws_FnMovesFor_an))))))))))) (⟨mkE 116 0 [(3, .slc 0), (4, .dat .str x6297), (8, .dat (.int .i64) x6340), (9, .dat (.int .i64) x6341)], [some (.seq (.int .i64) x6295)]⟩ : St) (laws_FnMovesFor_n7) (fun (t : Unit) => (Exit.normal, (⟨mkE 116 0 [(3, .slc 0), (4, .dat .str x6297), (8, .dat (.int .i64) x6340), (9, .dat (.int .i64) x6341), (11, .dat (.int .i64) 0)], [some (.seq (.int .i64) x6295)]⟩ : St))) := by
  refine Link.of fun K h => ?_
  simp only [laws_FnMovesFor_n7, wpO_bind, wpO_cond, wpO_map, wpO_some] at h
  exact Awp.of (by kernel_rfl) h

theorem laws_FnMovesFor_n8_l (x6297 : ByteArray) (x6340 : Int) (x6341 : Int) (x6295 : List Int) : Link laws_FnMovesFor_ctx LL (Code.fst (Code.fst (Code.snd (Code.snd (Code.snd (Code.snd (Code.snd (Code.snd (Code.snd (Code.snd (Code.snd (Code.snd (Code.snd (bodyOf Tryd.f4)))))))))))))) (Ann.fst (Ann.fst (Ann.snd (Ann.snd (Ann.snd (Ann.snd (Ann.snd (Ann.snd (Ann.snd (Ann.snd (Ann.snd (Ann.snd (Ann.snd laws_FnMovesFor_an))))))))))))) (⟨mkE 116 0 [(3, .slc 0), (4, .dat .str x6297), (8, .dat (.int .i64) x6340), (9, .dat (.int .i64) x6341), (11, .dat (.int .i64) 0)], [some (.seq (.int .i64) x6295)]⟩ : St) (laws_FnMovesFor_n8) (fun (t : Unit) => (Exit.normal, (⟨mkE 116 0 [(3, .slc 0), (4, .dat .str x6297), (8, .dat (.int .i64) x6340), (9, .dat (.int .i64) x6341), (11, .dat (.int .i64) 0), (12, .dat (.int .i64) 0)], [some (.seq (.int .i64) x6295)]⟩ : St))) := by
  refine Link.of fun K h => ?_
  simp only [laws_FnMovesFor_n8, wpO_bind, wpO_cond, wpO_map, wpO_some] at h
  exact Awp.of (by kernel_rfl) h

theorem laws_FnMovesFor_n9_l (x6297 : ByteArray) (x6340 : Int) (x6341 : Int) (x6394 : Int) (x6395 : Int) (x6295 : List Int) : Link laws_FnMovesFor_ctx LL (Code.fst (Code.fst (Code.snd (Code.fst (Code.snd (Code.snd (Code.snd (Code.snd (Code.snd (Code.snd (Code.snd (Code.snd (Code.snd (Code.snd (Code.snd (bodyOf Tryd.f4)))))))))))))))) (Ann.fst (Ann.fst (Ann.snd (Ann.fst (Ann.snd (Ann.snd (Ann.snd (Ann.snd (Ann.snd (Ann.snd (Ann.snd (Ann.snd (Ann.snd (Ann.snd (Ann.snd laws_FnMovesFor_an))))))))))))))) (⟨mkE 116 0 [(3, .slc 0), (4, .dat .str x6297), (8, .dat (.int .i64) x6340), (9, .dat (.int .i64) x6341), (11, .dat (.int .i64) x6394), (12, .dat (.int .i64) x6395)], [some (.seq (.int .i64) x6295)]⟩ : St) (laws_FnMovesFor_n9 x6394 x6395 x6295) (Sum.elim (fun (t : Int × Int) => (Exit.normal, (⟨mkE 116 0 [(3, .slc 0), (4, .dat .str x6297), (8, .dat (.int .i64) x6340), (9, .dat (.int .i64) x6341), (11, .dat (.int .i64) t.1), (12, .dat (.int .i64) t.2)], [some (.seq (.int .i64) x6295)]⟩ : St))) (fun (t : Int) => ((Exit.exit 2), (⟨mkE 116 0 [(3, .slc 0), (4, .dat .str x6297), (8, .dat (.int .i64) x6340), (9, .dat (.int .i64) x6341), (11, .dat (.int .i64) t)], [some (.seq (.int .i64) x6295)]⟩ : St)))) := by
  refine Link.of fun K h => ?_
  simp only [laws_FnMovesFor_n9, wpO_bind, wpO_cond, wpO_map, wpO_some] at h
  exact Awp.of (by kernel_rfl) h

theorem laws_FnMovesFor_n10_l (x6297 : ByteArray) (x6340 : Int) (x6341 : Int) (x6295 : List Int) : Link laws_FnMovesFor_ctx LL (Code.fst (Code.snd (Code.fst (Code.snd (Code.snd (Code.snd (Code.snd (Code.snd (Code.snd (Code.snd (Code.snd (Code.snd (Code.snd (Code.snd (bodyOf Tryd.f4))))))))))))))) (Ann.fst (Ann.snd (Ann.fst (Ann.snd (Ann.snd (Ann.snd (Ann.snd (Ann.snd (Ann.snd (Ann.snd (Ann.snd (Ann.snd (Ann.snd (Ann.snd laws_FnMovesFor_an)))))))))))))) (⟨mkE 116 0 [(3, .slc 0), (4, .dat .str x6297), (8, .dat (.int .i64) x6340), (9, .dat (.int .i64) x6341), (11, .dat (.int .i64) 0), (12, .dat (.int .i64) 0)], [some (.seq (.int .i64) x6295)]⟩ : St) (laws_FnMovesFor_n10 x6295) (fun (t : Int) => ((Exit.exit 2), (⟨mkE 116 0 [(3, .slc 0), (4, .dat .str x6297), (8, .dat (.int .i64) x6340), (9, .dat (.int .i64) x6341), (11, .dat (.int .i64) t)], [some (.seq (.int .i64) x6295)]⟩ : St))) := by
  unfold laws_FnMovesFor_n10
  exact Link.cast (by kernel_rfl) (by kernel_rfl) (link_loop (mk := fun (s : Int × Int) => (⟨mkE 116 0 [(3, .slc 0), (4, .dat .str x6297), (8, .dat (.int .i64) x6340), (9, .dat (.int .i64) x6341), (11, .dat (.int .i64) s.1), (12, .dat (.int .i64) s.2)], [some (.seq (.int .i64) x6295)]⟩ : St)) (fin := (fun (t : Int) => ((Exit.exit 2), (⟨mkE 116 0 [(3, .slc 0), (4, .dat .str x6297), (8, .dat (.int .i64) x6340), (9, .dat (.int .i64) x6341), (11, .dat (.int .i64) t)], [some (.seq (.int .i64) x6295)]⟩ : St)))) (by
  rintro t f K h
  · exact h) (fun s => link_map (laws_FnMovesFor_n9_l x6297 x6340 x6341 s.1 s.2 x6295) (Sum.elim (fun (t : Int × Int) => Sum.inl (t.1, t.2)) (fun (t : Int) => Sum.inr t)) (by
  rintro (t | t)
  · kernel_rfl
  · kernel_rfl)) (0, 0))

theorem laws_FnMovesFor_n11_l (x6297 : ByteArray) (x6340 : Int) (x6341 : Int) (x6295 : List Int) : Link laws_FnMovesFor_ctx LL (Code.snd (Code.fst (Code.snd (Code.snd (Code.snd (Code.snd (Code.snd (Code.snd (Code.snd (Code.snd (Code.snd (Code.snd (Code.snd (bodyOf Tryd.f4)))))))))))))) (Ann.snd (Ann.fst (Ann.snd (Ann.snd (Ann.snd (Ann.snd (Ann.snd (Ann.snd (Ann.snd (Ann.snd (Ann.snd (Ann.snd (Ann.snd laws_FnMovesFor_an))))))))))))) (⟨mkE 116 0 [(3, .slc 0), (4, .dat .str x6297), (8, .dat (.int .i64) x6340), (9, .dat (.int .i64) x6341), (11, .dat (.int .i64) 0), (12, .dat (.int .i64) 0)], [some (.seq (.int .i64) x6295)]⟩ : St) (laws_FnMovesFor_n11 x6295) (fun (t : Int) => (Exit.normal, (⟨mkE 116 0 [(3, .slc 0), (4, .dat .str x6297), (8, .dat (.int .i64) x6340), (9, .dat (.int .i64) x6341), (11, .dat (.int .i64) t)], [some (.seq (.int .i64) x6295)]⟩ : St))) := by
  unfold laws_FnMovesFor_n11
  exact Link.cast (by kernel_rfl) (by kernel_rfl) (link_block (id := 2) (laws_FnMovesFor_n10_l x6297 x6340 x6341 x6295) (fun (t : Int) => t) (by
  rintro t K h
  · exact Eq.mp (by kernel_rfl) h))

theorem laws_FnMovesFor_n12_l (x6297 : ByteArray) (x6340 : Int) (x6341 : Int) (x6295 : List Int) : Link laws_FnMovesFor_ctx LL (Code.fst (Code.snd (Code.snd (Code.snd (Code.snd (Code.snd (Code.snd (Code.snd (Code.snd (Code.snd (Code.snd (Code.snd (bodyOf Tryd.f4))))))))))))) (Ann.fst (Ann.snd (Ann.snd (Ann.snd (Ann.snd (Ann.snd (Ann.snd (Ann.snd (Ann.snd (Ann.snd (Ann.snd (Ann.snd laws_FnMovesFor_an)))))))))))) (⟨mkE 116 0 [(3, .slc 0), (4, .dat .str x6297), (8, .dat (.int .i64) x6340), (9, .dat (.int .i64) x6341), (11, .dat (.int .i64) 0)], [some (.seq (.int .i64) x6295)]⟩ : St) (laws_FnMovesFor_n12 x6295) (fun (t : Int) => (Exit.normal, (⟨mkE 116 0 [(3, .slc 0), (4, .dat .str x6297), (8, .dat (.int .i64) x6340), (9, .dat (.int .i64) x6341), (11, .dat (.int .i64) t)], [some (.seq (.int .i64) x6295)]⟩ : St))) := by
  unfold laws_FnMovesFor_n12
  exact Link.cast (by kernel_rfl) (by kernel_rfl) (link_seq (b := (Code.snd (Code.fst (Code.snd (Code.snd (Code.snd (Code.snd (Code.snd (Code.snd (Code.snd (Code.snd (Code.snd (Code.snd (Code.snd (bodyOf Tryd.f4))))))))))))))) (y := (Ann.snd (Ann.fst (Ann.snd (Ann.snd (Ann.snd (Ann.snd (Ann.snd (Ann.snd (Ann.snd (Ann.snd (Ann.snd (Ann.snd (Ann.snd laws_FnMovesFor_an)))))))))))))) (laws_FnMovesFor_n8_l x6297 x6340 x6341 x6295) (fun (t : Unit) => (laws_FnMovesFor_n11_l x6297 x6340 x6341 x6295)))

theorem laws_FnMovesFor_n13_l (x6297 : ByteArray) (x6340 : Int) (x6341 : Int) (x6394 : Int) (x6295 : List Int) : Link laws_FnMovesFor_ctx LL (Code.snd (Code.snd (Code.snd (Code.snd (Code.snd (Code.snd (Code.snd (Code.snd (Code.snd (Code.snd (Code.snd (Code.snd (bodyOf Tryd.f4))))))))))))) (Ann.snd (Ann.snd (Ann.snd (Ann.snd (Ann.snd (Ann.snd (Ann.snd (Ann.snd (Ann.snd (Ann.snd (Ann.snd (Ann.snd laws_FnMovesFor_an)))))))))))) (⟨mkE 116 0 [(3, .slc 0), (4, .dat .str x6297), (8, .dat (.int .i64) x6340), (9, .dat (.int .i64) x6341), (11, .dat (.int .i64) x6394)], [some (.seq (.int .i64) x6295)]⟩ : St) (laws_FnMovesFor_n13 x6297 x6340 x6341 x6394 x6295) (fun (t : Bool) => (Exit.ret, (⟨mkE 116 0 [(2, .dat .bool t)], []⟩ : St))) := by
  refine Link.of fun K h => ?_
  simp only [laws_FnMovesFor_n13, wpO_bind, wpO_cond, wpO_map, wpO_some] at h
  exact Awp.of (by kernel_rfl) h

theorem laws_FnMovesFor_n14_l (x6297 : ByteArray) (x6340 : Int) (x6341 : Int) (x6295 : List Int) : Link laws_FnMovesFor_ctx LL (Code.snd (Code.snd (Code.snd (Code.snd (Code.snd (Code.snd (Code.snd (Code.snd (Code.snd (Code.snd (Code.snd (bodyOf Tryd.f4)))))))))))) (Ann.snd (Ann.snd (Ann.snd (Ann.snd (Ann.snd (Ann.snd (Ann.snd (Ann.snd (Ann.snd (Ann.snd (Ann.snd laws_FnMovesFor_an))))))))))) (⟨mkE 116 0 [(3, .slc 0), (4, .dat .str x6297), (8, .dat (.int .i64) x6340), (9, .dat (.int .i64) x6341), (11, .dat (.int .i64) 0)], [some (.seq (.int .i64) x6295)]⟩ : St) (laws_FnMovesFor_n14 x6297 x6340 x6341 x6295) (fun (t : Bool) => (Exit.ret, (⟨mkE 116 0 [(2, .dat .bool t)], []⟩ : St))) := by
  unfold laws_FnMovesFor_n14
  exact Link.cast (by kernel_rfl) (by kernel_rfl) (link_seq (b := (Code.snd (Code.snd (Code.snd (Code.snd (Code.snd (Code.snd (Code.snd (Code.snd (Code.snd (Code.snd (Code.snd (Code.snd (bodyOf Tryd.f4)))))))))))))) (y := (Ann.snd (Ann.snd (Ann.snd (Ann.snd (Ann.snd (Ann.snd (Ann.snd (Ann.snd (Ann.snd (Ann.snd (Ann.snd (Ann.snd laws_FnMovesFor_an))))))))))))) (laws_FnMovesFor_n12_l x6297 x6340 x6341 x6295) (fun (t : Int) => (laws_FnMovesFor_n13_l x6297 x6340 x6341 t x6295)))

theorem laws_FnMovesFor_n15_l (x6297 : ByteArray) (x6340 : Int) (x6341 : Int) (x6295 : List Int) : Link laws_FnMovesFor_ctx LL (Code.snd (Code.snd (Code.snd (Code.snd (Code.snd (Code.snd (Code.snd (Code.snd (Code.snd (Code.snd (bodyOf Tryd.f4))))))))))) (Ann.snd (Ann.snd (Ann.snd (Ann.snd (Ann.snd (Ann.snd (Ann.snd (Ann.snd (Ann.snd (Ann.snd laws_FnMovesFor_an)))))))))) (⟨mkE 116 0 [(3, .slc 0), (4, .dat .str x6297), (8, .dat (.int .i64) x6340), (9, .dat (.int .i64) x6341)], [some (.seq (.int .i64) x6295)]⟩ : St) (laws_FnMovesFor_n15 x6297 x6340 x6341 x6295) (fun (t : Bool) => (Exit.ret, (⟨mkE 116 0 [(2, .dat .bool t)], []⟩ : St))) := by
  unfold laws_FnMovesFor_n15
  exact Link.cast (by kernel_rfl) (by kernel_rfl) (link_seq (b := (Code.snd (Code.snd (Code.snd (Code.snd (Code.snd (Code.snd (Code.snd (Code.snd (Code.snd (Code.snd (Code.snd (bodyOf Tryd.f4))))))))))))) (y := (Ann.snd (Ann.snd (Ann.snd (Ann.snd (Ann.snd (Ann.snd (Ann.snd (Ann.snd (Ann.snd (Ann.snd (Ann.snd laws_FnMovesFor_an)))))))))))) (laws_FnMovesFor_n7_l x6297 x6340 x6341 x6295) (fun (t : Unit) => (laws_FnMovesFor_n14_l x6297 x6340 x6341 x6295)))

theorem laws_FnMovesFor_n16_l (x6297 : ByteArray) (x6295 : List Int) : Link laws_FnMovesFor_ctx LL (Code.snd (Code.snd (Code.snd (Code.snd (Code.snd (Code.snd (Code.snd (Code.snd (Code.snd (bodyOf Tryd.f4)))))))))) (Ann.snd (Ann.snd (Ann.snd (Ann.snd (Ann.snd (Ann.snd (Ann.snd (Ann.snd (Ann.snd laws_FnMovesFor_an))))))))) (⟨mkE 116 0 [(3, .slc 0), (4, .dat .str x6297), (8, .dat (.int .i64) 0), (9, .dat (.int .i64) 0)], [some (.seq (.int .i64) x6295)]⟩ : St) (laws_FnMovesFor_n16 x6297 x6295) (fun (t : Bool) => (Exit.ret, (⟨mkE 116 0 [(2, .dat .bool t)], []⟩ : St))) := by
  unfold laws_FnMovesFor_n16
  exact Link.cast (by kernel_rfl) (by kernel_rfl) (link_seq (b := (Code.snd (Code.snd (Code.snd (Code.snd (Code.snd (Code.snd (Code.snd (Code.snd (Code.snd (Code.snd (bodyOf Tryd.f4)))))))))))) (y := (Ann.snd (Ann.snd (Ann.snd (Ann.snd (Ann.snd (Ann.snd (Ann.snd (Ann.snd (Ann.snd (Ann.snd laws_FnMovesFor_an))))))))))) (laws_FnMovesFor_n6_l x6297 x6295) (fun (t : Int × Int) => (laws_FnMovesFor_n15_l x6297 t.1 t.2 x6295)))

theorem laws_FnMovesFor_n17_l (x4210 : List Int) : Link laws_FnMovesFor_ctx LL (bodyOf Tryd.f4) laws_FnMovesFor_an (⟨mkE 116 0 [(0, .dat (.list (.int .u8)) x4210)], []⟩ : St) (laws_FnMovesFor_n17 x4210) (fun (t : Bool) => (Exit.ret, (⟨mkE 116 0 [(2, .dat .bool t)], []⟩ : St))) := by
  unfold laws_FnMovesFor_n17
  exact Link.cast (by kernel_rfl) (by kernel_rfl) (link_group (c := (Code.fst (Code.snd (Code.snd (Code.snd (Code.snd (Code.snd (Code.snd (Code.snd (Code.snd (bodyOf Tryd.f4))))))))))) (a := (Ann.fst (Ann.snd (Ann.snd (Ann.snd (Ann.snd (Ann.snd (Ann.snd (Ann.snd (Ann.snd laws_FnMovesFor_an)))))))))) [(Code.fst (bodyOf Tryd.f4)), (Code.fst (Code.snd (bodyOf Tryd.f4))), (Code.fst (Code.snd (Code.snd (bodyOf Tryd.f4)))), (Code.fst (Code.snd (Code.snd (Code.snd (bodyOf Tryd.f4))))), (Code.fst (Code.snd (Code.snd (Code.snd (Code.snd (bodyOf Tryd.f4)))))), (Code.fst (Code.snd (Code.snd (Code.snd (Code.snd (Code.snd (bodyOf Tryd.f4))))))), (Code.fst (Code.snd (Code.snd (Code.snd (Code.snd (Code.snd (Code.snd (bodyOf Tryd.f4)))))))), (Code.fst (Code.snd (Code.snd (Code.snd (Code.snd (Code.snd (Code.snd (Code.snd (bodyOf Tryd.f4)))))))))] [(Ann.fst laws_FnMovesFor_an), (Ann.fst (Ann.snd laws_FnMovesFor_an)), (Ann.fst (Ann.snd (Ann.snd laws_FnMovesFor_an))), (Ann.fst (Ann.snd (Ann.snd (Ann.snd laws_FnMovesFor_an)))), (Ann.fst (Ann.snd (Ann.snd (Ann.snd (Ann.snd laws_FnMovesFor_an))))), (Ann.fst (Ann.snd (Ann.snd (Ann.snd (Ann.snd (Ann.snd laws_FnMovesFor_an)))))), (Ann.fst (Ann.snd (Ann.snd (Ann.snd (Ann.snd (Ann.snd (Ann.snd laws_FnMovesFor_an))))))), (Ann.fst (Ann.snd (Ann.snd (Ann.snd (Ann.snd (Ann.snd (Ann.snd (Ann.snd laws_FnMovesFor_an))))))))] rfl (link_seq2 (b := (Code.snd (Code.snd (Code.snd (Code.snd (Code.snd (Code.snd (Code.snd (Code.snd (Code.snd (bodyOf Tryd.f4))))))))))) (y := (Ann.snd (Ann.snd (Ann.snd (Ann.snd (Ann.snd (Ann.snd (Ann.snd (Ann.snd (Ann.snd laws_FnMovesFor_an)))))))))) (laws_FnMovesFor_n1_l x4210) (fun (t : ByteArray × (List Int)) => (laws_FnMovesFor_n16_l t.1 t.2)) (fun (t : Bool) => t) (by
  rintro t
  · kernel_rfl) (by
  rintro t f K h
  · exact h)))

theorem laws_FnMovesFor_e (x4210 : List Int) {r : AV} {H' : Heap} (h : (Ans.mk _ (laws_FnMovesFor x4210) (fun (t : Bool) => (.dat .bool t, [])) [] none).run = some (r, H')) : Awp laws_FnMovesFor_ctx LL (bodyOf Tryd.f4) laws_FnMovesFor_an (⟨mkE 116 0 [(0, .dat (.list (.int .u8)) x4210)], []⟩ : St) (Ret (tlook tys) Tryd.f4.results.toList r H') :=
  ret_of' (laws_FnMovesFor_n17_l x4210) (by unfold laws_FnMovesFor; kernel_rfl) (by
  intro t
  exact ret_mk [.dat .bool t] (by kernel_rfl) (by kernel_rfl) (by kernel_rfl) (by kernel_rfl)) h

def F_laws_FnMovesFor : Fun := fun avs H =>
  match avs, H with
  | [.dat (.list (.int .u8)) x4210], [] => ⟨_, laws_FnMovesFor x4210, fun (t : Bool) => (.dat .bool t, []), [], none⟩
  | _, _ => Ans.no

theorem laws_FnMovesFor_sound : Sound Tryd.prog 4 F_laws_FnMovesFor := by
  refine fn_sound' (C := laws_FnMovesFor_ctx) (c := bodyOf Tryd.f4) (cok_of tys_ok (List.forall_mem_cons.2 ⟨spec_DrawMovesFor_sound, List.forall_mem_cons.2 ⟨impl_MovesFor_sound, List.forall_mem_cons.2 ⟨spec_MovesFor_sound, List.forall_mem_cons.2 ⟨impl_FlatOk_sound, List.forall_mem_cons.2 ⟨laws_alive_sound, List.forall_mem_cons.2 ⟨impl_RunStack_sound, List.forall_mem_cons.2 ⟨laws_sameInts_sound, by simp⟩⟩⟩⟩⟩⟩⟩) (List.forall_mem_cons.2 ⟨Tryd.call13, List.forall_mem_cons.2 ⟨Tryd.call11, List.forall_mem_cons.2 ⟨Tryd.call14, List.forall_mem_cons.2 ⟨Tryd.call12, List.forall_mem_cons.2 ⟨Tryd.call10, List.forall_mem_cons.2 ⟨Tryd.call7, List.forall_mem_cons.2 ⟨Tryd.call9, by simp⟩⟩⟩⟩⟩⟩⟩) (by kernel_rfl)) Tryd.func4 (by kernel_rfl) LL laws_FnMovesFor_an ?_
  intro avs H r H' h
  unfold F_laws_FnMovesFor at h
  split at h
  · refine Awp.cast ?_ ?_ ?_ (laws_FnMovesFor_e _ h) <;> kernel_rfl
  · simp [Ans.no, Ans.run] at h

/-! loop.example/headtrees/laws.toIntS -/

def laws_toIntS_an : Ann := (.seq (.leaf [0]) (.seq (.leaf [0, 3]) (.seq (.seq (.leaf [0, 3, 4]) (.block (.loop (.seq (.seq (.leaf [0, 3, 4, 11]) (.cond (.leaf [0, 3, 4]) (.leaf [3]))) (.seq (.block (.leaf [0, 3, 4])) (.leaf [0, 3, 4])))))) (.seq (.leaf [2]) (.leaf [2])))))

noncomputable def laws_toIntS_ctx : Ctx := ⟨tlook tys, olook [], ioF, 0, false, []⟩

theorem laws_toIntS_n1_l (x6453 : List Int) : Link laws_toIntS_ctx LL (Code.seq (Code.fst (bodyOf Tryd.f15)) (Code.fst (Code.snd (bodyOf Tryd.f15)))) (Ann.seq (Ann.fst laws_toIntS_an) (Ann.fst (Ann.snd laws_toIntS_an))) (⟨mkE 22 0 [(0, .dat (.list (.int .i64)) x6453)], []⟩ : St) (laws_toIntS_n1 x6453) (fun (t : (List Int)) => (Exit.normal, (⟨mkE 22 0 [(0, .dat (.list (.int .i64)) x6453), (3, .slc 0)], [some (.seq (.int .i64) t)]⟩ : St))) := by
  refine Link.of fun K h => ?_
  simp only [laws_toIntS_n1, wpO_bind, wpO_cond, wpO_map, wpO_some] at h
  exact Awp.of (by kernel_rfl) h

theorem laws_toIntS_n2_l (x6453 : List Int) (x6456 : List Int) : Link laws_toIntS_ctx LL (Code.fst (Code.fst (Code.snd (Code.snd (bodyOf Tryd.f15))))) (Ann.fst (Ann.fst (Ann.snd (Ann.snd laws_toIntS_an)))) (⟨mkE 22 0 [(0, .dat (.list (.int .i64)) x6453), (3, .slc 0)], [some (.seq (.int .i64) x6456)]⟩ : St) (laws_toIntS_n2) (fun (t : Unit) => (Exit.normal, (⟨mkE 22 0 [(0, .dat (.list (.int .i64)) x6453), (3, .slc 0), (4, .dat (.int .i64) 0)], [some (.seq (.int .i64) x6456)]⟩ : St))) := by
  refine Link.of fun K h => ?_
  simp only [laws_toIntS_n2, wpO_bind, wpO_cond, wpO_map, wpO_some] at h
  exact Awp.of (by kernel_rfl) h

theorem laws_toIntS_n3_l (x6453 : List Int) (x6470 : Int) (x6471 : List Int) : Link laws_toIntS_ctx LL (Code.fst (Code.fst (Code.snd (Code.fst (Code.snd (Code.snd (bodyOf Tryd.f15))))))) (Ann.fst (Ann.fst (Ann.snd (Ann.fst (Ann.snd (Ann.snd laws_toIntS_an)))))) (⟨mkE 22 0 [(0, .dat (.list (.int .i64)) x6453), (3, .slc 0), (4, .dat (.int .i64) x6470)], [some (.seq (.int .i64) x6471)]⟩ : St) (laws_toIntS_n3 x6453 x6470 x6471) (Sum.elim (fun (t : Int × (List Int)) => (Exit.normal, (⟨mkE 22 0 [(0, .dat (.list (.int .i64)) x6453), (3, .slc 0), (4, .dat (.int .i64) t.1)], [some (.seq (.int .i64) t.2)]⟩ : St))) (fun (t : (List Int)) => ((Exit.exit 0), (⟨mkE 22 0 [(3, .slc 0)], [some (.seq (.int .i64) t)]⟩ : St)))) := by
  refine Link.of fun K h => ?_
  simp only [laws_toIntS_n3, wpO_bind, wpO_cond, wpO_map, wpO_some] at h
  exact Awp.of (by kernel_rfl) h

theorem laws_toIntS_n4_l (x6453 : List Int) (x6456 : List Int) : Link laws_toIntS_ctx LL (Code.fst (Code.snd (Code.fst (Code.snd (Code.snd (bodyOf Tryd.f15)))))) (Ann.fst (Ann.snd (Ann.fst (Ann.snd (Ann.snd laws_toIntS_an))))) (⟨mkE 22 0 [(0, .dat (.list (.int .i64)) x6453), (3, .slc 0), (4, .dat (.int .i64) 0)], [some (.seq (.int .i64) x6456)]⟩ : St) (laws_toIntS_n4 x6453 x6456) (fun (t : (List Int)) => ((Exit.exit 0), (⟨mkE 22 0 [(3, .slc 0)], [some (.seq (.int .i64) t)]⟩ : St))) := by
  unfold laws_toIntS_n4
  exact Link.cast (by kernel_rfl) (by kernel_rfl) (link_loop (mk := fun (s : Int × (List Int)) => (⟨mkE 22 0 [(0, .dat (.list (.int .i64)) x6453), (3, .slc 0), (4, .dat (.int .i64) s.1)], [some (.seq (.int .i64) s.2)]⟩ : St)) (fin := (fun (t : (List Int)) => ((Exit.exit 0), (⟨mkE 22 0 [(3, .slc 0)], [some (.seq (.int .i64) t)]⟩ : St)))) (by
  rintro t f K h
  · exact h) (fun s => link_map (laws_toIntS_n3_l x6453 s.1 s.2) (Sum.elim (fun (t : Int × (List Int)) => Sum.inl (t.1, t.2)) (fun (t : (List Int)) => Sum.inr t)) (by
  rintro (t | t)
  · kernel_rfl
  · kernel_rfl)) (0, x6456))

theorem laws_toIntS_n5_l (x6453 : List Int) (x6456 : List Int) : Link laws_toIntS_ctx LL (Code.snd (Code.fst (Code.snd (Code.snd (bodyOf Tryd.f15))))) (Ann.snd (Ann.fst (Ann.snd (Ann.snd laws_toIntS_an)))) (⟨mkE 22 0 [(0, .dat (.list (.int .i64)) x6453), (3, .slc 0), (4, .dat (.int .i64) 0)], [some (.seq (.int .i64) x6456)]⟩ : St) (laws_toIntS_n5 x6453 x6456) (fun (t : (List Int)) => (Exit.normal, (⟨mkE 22 0 [(3, .slc 0)], [some (.seq (.int .i64) t)]⟩ : St))) := by
  unfold laws_toIntS_n5
  exact Link.cast (by kernel_rfl) (by kernel_rfl) (link_block (id := 0) (laws_toIntS_n4_l x6453 x6456) (fun (t : (List Int)) => t) (by
  rintro t K h
  · exact Eq.mp (by kernel_rfl) h))

theorem laws_toIntS_n6_l (x6453 : List Int) (x6456 : List Int) : Link laws_toIntS_ctx LL (Code.fst (Code.snd (Code.snd (bodyOf Tryd.f15)))) (Ann.fst (Ann.snd (Ann.snd laws_toIntS_an))) (⟨mkE 22 0 [(0, .dat (.list (.int .i64)) x6453), (3, .slc 0)], [some (.seq (.int .i64) x6456)]⟩ : St) (laws_toIntS_n6 x6453 x6456) (fun (t : (List Int)) => (Exit.normal, (⟨mkE 22 0 [(3, .slc 0)], [some (.seq (.int .i64) t)]⟩ : St))) := by
  unfold laws_toIntS_n6
  exact Link.cast (by kernel_rfl) (by kernel_rfl) (link_seq (b := (Code.snd (Code.fst (Code.snd (Code.snd (bodyOf Tryd.f15)))))) (y := (Ann.snd (Ann.fst (Ann.snd (Ann.snd laws_toIntS_an))))) (laws_toIntS_n2_l x6453 x6456) (fun (t : Unit) => (laws_toIntS_n5_l x6453 x6456)))

theorem laws_toIntS_n7_l (x6471 : List Int) : Link laws_toIntS_ctx LL (Code.snd (Code.snd (Code.snd (bodyOf Tryd.f15)))) (Ann.snd (Ann.snd (Ann.snd laws_toIntS_an))) (⟨mkE 22 0 [(3, .slc 0)], [some (.seq (.int .i64) x6471)]⟩ : St) (laws_toIntS_n7 x6471) (fun (t : (List Int)) => (Exit.ret, (⟨mkE 22 0 [(2, .slc 0)], [some (.seq (.int .i64) t)]⟩ : St))) := by
  refine Link.of fun K h => ?_
  simp only [laws_toIntS_n7, wpO_bind, wpO_cond, wpO_map, wpO_some] at h
  exact Awp.of (by kernel_rfl) h

theorem laws_toIntS_n8_l (x6453 : List Int) (x6456 : List Int) : Link laws_toIntS_ctx LL (Code.snd (Code.snd (bodyOf Tryd.f15))) (Ann.snd (Ann.snd laws_toIntS_an)) (⟨mkE 22 0 [(0, .dat (.list (.int .i64)) x6453), (3, .slc 0)], [some (.seq (.int .i64) x6456)]⟩ : St) (laws_toIntS_n8 x6453 x6456) (fun (t : (List Int)) => (Exit.ret, (⟨mkE 22 0 [(2, .slc 0)], [some (.seq (.int .i64) t)]⟩ : St))) := by
  unfold laws_toIntS_n8
  exact Link.cast (by kernel_rfl) (by kernel_rfl) (link_seq (b := (Code.snd (Code.snd (Code.snd (bodyOf Tryd.f15))))) (y := (Ann.snd (Ann.snd (Ann.snd laws_toIntS_an)))) (laws_toIntS_n6_l x6453 x6456) (fun (t : (List Int)) => (laws_toIntS_n7_l t)))

theorem laws_toIntS_n9_l (x6453 : List Int) : Link laws_toIntS_ctx LL (bodyOf Tryd.f15) laws_toIntS_an (⟨mkE 22 0 [(0, .dat (.list (.int .i64)) x6453)], []⟩ : St) (laws_toIntS_n9 x6453) (fun (t : (List Int)) => (Exit.ret, (⟨mkE 22 0 [(2, .slc 0)], [some (.seq (.int .i64) t)]⟩ : St))) := by
  unfold laws_toIntS_n9
  exact Link.cast (by kernel_rfl) (by kernel_rfl) (link_group (c := (Code.fst (Code.snd (bodyOf Tryd.f15)))) (a := (Ann.fst (Ann.snd laws_toIntS_an))) [(Code.fst (bodyOf Tryd.f15))] [(Ann.fst laws_toIntS_an)] rfl (link_seq (b := (Code.snd (Code.snd (bodyOf Tryd.f15)))) (y := (Ann.snd (Ann.snd laws_toIntS_an))) (laws_toIntS_n1_l x6453) (fun (t : (List Int)) => (laws_toIntS_n8_l x6453 t))))

theorem laws_toIntS_e (x6453 : List Int) {r : AV} {H' : Heap} (h : (Ans.mk _ (laws_toIntS x6453) (fun (t : (List Int)) => (.slc 0, [some (.seq (.int .i64) t)])) [] none).run = some (r, H')) : Awp laws_toIntS_ctx LL (bodyOf Tryd.f15) laws_toIntS_an (⟨mkE 22 0 [(0, .dat (.list (.int .i64)) x6453)], []⟩ : St) (Ret (tlook tys) Tryd.f15.results.toList r H') :=
  ret_of' (laws_toIntS_n9_l x6453) (by unfold laws_toIntS; kernel_rfl) (by
  intro t
  exact ret_mk [.slc 0] (by kernel_rfl) (by kernel_rfl) (by kernel_rfl) (by kernel_rfl)) h

def F_laws_toIntS : Fun := fun avs H =>
  match avs, H with
  | [.dat (.list (.int .i64)) x6453], [] => ⟨_, laws_toIntS x6453, fun (t : (List Int)) => (.slc 0, [some (.seq (.int .i64) t)]), [], none⟩
  | _, _ => Ans.no

theorem laws_toIntS_sound : Sound Tryd.prog 15 F_laws_toIntS := by
  refine fn_sound' (C := laws_toIntS_ctx) (c := bodyOf Tryd.f15) (cok_of tys_ok (by simp) (by simp) (by kernel_rfl)) Tryd.func15 (by kernel_rfl) LL laws_toIntS_an ?_
  intro avs H r H' h
  unfold F_laws_toIntS at h
  split at h
  · refine Awp.cast ?_ ?_ ?_ (laws_toIntS_e _ h) <;> kernel_rfl
  · simp [Ans.no, Ans.run] at h

/-! loop.example/headtrees/laws.eqIntS -/

def laws_eqIntS_an : Ann := (.seq (.leaf [0, 1]) (.seq (.seq (.leaf [0, 1, 10]) (.cond (.seq (.leaf [4]) (.leaf [4])) (.leaf [0, 1]))) (.seq (.seq (.leaf [0, 1, 5]) (.block (.loop (.seq (.seq (.leaf [0, 1, 5, 14]) (.cond (.leaf [0, 1, 5]) (.leaf []))) (.seq (.block (.seq (.draw [] [0, 1, 2, 3, 4, 5, 6, 7, 8] [] [0, 1, 5, 25]) (.cond (.seq (.leaf [4]) (.leaf [4])) (.leaf [0, 1, 5])))) (.leaf [0, 1, 5])))))) (.seq (.leaf [4]) (.leaf [4])))))

noncomputable def laws_eqIntS_ctx : Ctx := ⟨tlook tys, olook [], ioF, 0, false, []⟩

theorem laws_eqIntS_n1_l (x6531 : List Int) (x6532 : List Int) : Link laws_eqIntS_ctx LL (Code.seq (Code.fst (bodyOf Tryd.f16)) (Code.fst (Code.snd (bodyOf Tryd.f16)))) (Ann.seq (Ann.fst laws_eqIntS_an) (Ann.fst (Ann.snd laws_eqIntS_an))) (⟨mkE 26 0 [(0, .dat (.list (.int .i64)) x6531), (1, .dat (.list (.int .i64)) x6532)], []⟩ : St) (laws_eqIntS_n1 x6531 x6532) (Sum.elim (fun (t : Unit) => (Exit.normal, (⟨mkE 26 0 [(0, .dat (.list (.int .i64)) x6531), (1, .dat (.list (.int .i64)) x6532)], []⟩ : St))) (fun (t : Bool) => (Exit.ret, (⟨mkE 26 0 [(4, .dat .bool t)], []⟩ : St)))) := by
  refine Link.of fun K h => ?_
  simp only [laws_eqIntS_n1, wpO_bind, wpO_cond, wpO_map, wpO_some] at h
  exact Awp.of (by kernel_rfl) h

theorem laws_eqIntS_n2_l (x6531 : List Int) (x6532 : List Int) : Link laws_eqIntS_ctx LL (Code.fst (Code.fst (Code.snd (Code.snd (bodyOf Tryd.f16))))) (Ann.fst (Ann.fst (Ann.snd (Ann.snd laws_eqIntS_an)))) (⟨mkE 26 0 [(0, .dat (.list (.int .i64)) x6531), (1, .dat (.list (.int .i64)) x6532)], []⟩ : St) (laws_eqIntS_n2) (fun (t : Unit) => (Exit.normal, (⟨mkE 26 0 [(0, .dat (.list (.int .i64)) x6531), (1, .dat (.list (.int .i64)) x6532), (5, .dat (.int .i64) 0)], []⟩ : St))) := by
  refine Link.of fun K h => ?_
  simp only [laws_eqIntS_n2, wpO_bind, wpO_cond, wpO_map, wpO_some] at h
  exact Awp.of (by kernel_rfl) h

theorem laws_eqIntS_n3_l (x6531 : List Int) (x6532 : List Int) (x6549 : Int) : Link laws_eqIntS_ctx LL (Code.fst (Code.fst (Code.snd (Code.fst (Code.snd (Code.snd (bodyOf Tryd.f16))))))) (Ann.fst (Ann.fst (Ann.snd (Ann.fst (Ann.snd (Ann.snd laws_eqIntS_an)))))) (⟨mkE 26 0 [(0, .dat (.list (.int .i64)) x6531), (1, .dat (.list (.int .i64)) x6532), (5, .dat (.int .i64) x6549)], []⟩ : St) (laws_eqIntS_n3 x6531 x6532 x6549) (Sum.elim (fun (t : Int) => (Exit.normal, (⟨mkE 26 0 [(0, .dat (.list (.int .i64)) x6531), (1, .dat (.list (.int .i64)) x6532), (5, .dat (.int .i64) t)], []⟩ : St))) (Sum.elim (fun (t : Bool) => (Exit.ret, (⟨mkE 26 0 [(4, .dat .bool t)], []⟩ : St))) (fun (t : Unit) => ((Exit.exit 0), (⟨mkE 26 0 [], []⟩ : St))))) := by
  refine Link.of fun K h => ?_
  simp only [laws_eqIntS_n3, wpO_bind, wpO_cond, wpO_map, wpO_some] at h
  exact Awp.of (by kernel_rfl) h

theorem laws_eqIntS_n4_l (x6531 : List Int) (x6532 : List Int) : Link laws_eqIntS_ctx LL (Code.fst (Code.snd (Code.fst (Code.snd (Code.snd (bodyOf Tryd.f16)))))) (Ann.fst (Ann.snd (Ann.fst (Ann.snd (Ann.snd laws_eqIntS_an))))) (⟨mkE 26 0 [(0, .dat (.list (.int .i64)) x6531), (1, .dat (.list (.int .i64)) x6532), (5, .dat (.int .i64) 0)], []⟩ : St) (laws_eqIntS_n4 x6531 x6532) (Sum.elim (fun (t : Bool) => (Exit.ret, (⟨mkE 26 0 [(4, .dat .bool t)], []⟩ : St))) (fun (t : Unit) => ((Exit.exit 0), (⟨mkE 26 0 [], []⟩ : St)))) := by
  unfold laws_eqIntS_n4
  exact Link.cast (by kernel_rfl) (by kernel_rfl) (link_loop (mk := fun (s : Int) => (⟨mkE 26 0 [(0, .dat (.list (.int .i64)) x6531), (1, .dat (.list (.int .i64)) x6532), (5, .dat (.int .i64) s)], []⟩ : St)) (fin := (Sum.elim (fun (t : Bool) => (Exit.ret, (⟨mkE 26 0 [(4, .dat .bool t)], []⟩ : St))) (fun (t : Unit) => ((Exit.exit 0), (⟨mkE 26 0 [], []⟩ : St))))) (by
  rintro (t | t) f K h
  · exact h
  · exact h) (fun s => link_map (laws_eqIntS_n3_l x6531 x6532 s) (Sum.elim (fun (t : Int) => Sum.inl t) (Sum.elim (fun (t : Bool) => Sum.inr (Sum.inl t)) (fun (t : Unit) => Sum.inr (Sum.inr t)))) (by
  rintro (t | t | t)
  · kernel_rfl
  · kernel_rfl
  · kernel_rfl)) 0)

theorem laws_eqIntS_n5_l (x6531 : List Int) (x6532 : List Int) : Link laws_eqIntS_ctx LL (Code.snd (Code.fst (Code.snd (Code.snd (bodyOf Tryd.f16))))) (Ann.snd (Ann.fst (Ann.snd (Ann.snd laws_eqIntS_an)))) (⟨mkE 26 0 [(0, .dat (.list (.int .i64)) x6531), (1, .dat (.list (.int .i64)) x6532), (5, .dat (.int .i64) 0)], []⟩ : St) (laws_eqIntS_n5 x6531 x6532) (Sum.elim (fun (t : Unit) => (Exit.normal, (⟨mkE 26 0 [], []⟩ : St))) (fun (t : Bool) => (Exit.ret, (⟨mkE 26 0 [(4, .dat .bool t)], []⟩ : St)))) := by
  unfold laws_eqIntS_n5
  exact Link.cast (by kernel_rfl) (by kernel_rfl) (link_block (id := 0) (laws_eqIntS_n4_l x6531 x6532) (Sum.elim (fun (t : Bool) => (Sum.inr t)) (fun (t : Unit) => (Sum.inl ()))) (by
  rintro (t | t) K h
  · exact Eq.mp (by kernel_rfl) h
  · exact Eq.mp (by kernel_rfl) h))

theorem laws_eqIntS_n6_l (x6531 : List Int) (x6532 : List Int) : Link laws_eqIntS_ctx LL (Code.fst (Code.snd (Code.snd (bodyOf Tryd.f16)))) (Ann.fst (Ann.snd (Ann.snd laws_eqIntS_an))) (⟨mkE 26 0 [(0, .dat (.list (.int .i64)) x6531), (1, .dat (.list (.int .i64)) x6532)], []⟩ : St) (laws_eqIntS_n6 x6531 x6532) (Sum.elim (fun (t : Unit) => (Exit.normal, (⟨mkE 26 0 [], []⟩ : St))) (fun (t : Bool) => (Exit.ret, (⟨mkE 26 0 [(4, .dat .bool t)], []⟩ : St)))) := by
  unfold laws_eqIntS_n6
  exact Link.cast (by kernel_rfl) (by kernel_rfl) (link_seq (b := (Code.snd (Code.fst (Code.snd (Code.snd (bodyOf Tryd.f16)))))) (y := (Ann.snd (Ann.fst (Ann.snd (Ann.snd laws_eqIntS_an))))) (laws_eqIntS_n2_l x6531 x6532) (fun (t : Unit) => (laws_eqIntS_n5_l x6531 x6532)))

theorem laws_eqIntS_n7_l : Link laws_eqIntS_ctx LL (Code.snd (Code.snd (Code.snd (bodyOf Tryd.f16)))) (Ann.snd (Ann.snd (Ann.snd laws_eqIntS_an))) (⟨mkE 26 0 [], []⟩ : St) (laws_eqIntS_n7) (fun (t : Bool) => (Exit.ret, (⟨mkE 26 0 [(4, .dat .bool t)], []⟩ : St))) := by
  refine Link.of fun K h => ?_
  simp only [laws_eqIntS_n7, wpO_bind, wpO_cond, wpO_map, wpO_some] at h
  exact Awp.of (by kernel_rfl) h

theorem laws_eqIntS_n8_l (x6531 : List Int) (x6532 : List Int) : Link laws_eqIntS_ctx LL (Code.snd (Code.snd (bodyOf Tryd.f16))) (Ann.snd (Ann.snd laws_eqIntS_an)) (⟨mkE 26 0 [(0, .dat (.list (.int .i64)) x6531), (1, .dat (.list (.int .i64)) x6532)], []⟩ : St) (laws_eqIntS_n8 x6531 x6532) (fun (t : Bool) => (Exit.ret, (⟨mkE 26 0 [(4, .dat .bool t)], []⟩ : St))) := by
  unfold laws_eqIntS_n8
  exact Link.cast (by kernel_rfl) (by kernel_rfl) (link_seq2 (b := (Code.snd (Code.snd (Code.snd (bodyOf Tryd.f16))))) (y := (Ann.snd (Ann.snd (Ann.snd laws_eqIntS_an)))) (laws_eqIntS_n6_l x6531 x6532) (fun (t : Unit) => (laws_eqIntS_n7_l)) (fun (t : Bool) => t) (by
  rintro t
  · kernel_rfl) (by
  rintro t f K h
  · exact h))

theorem laws_eqIntS_n9_l (x6531 : List Int) (x6532 : List Int) : Link laws_eqIntS_ctx LL (bodyOf Tryd.f16) laws_eqIntS_an (⟨mkE 26 0 [(0, .dat (.list (.int .i64)) x6531), (1, .dat (.list (.int .i64)) x6532)], []⟩ : St) (laws_eqIntS_n9 x6531 x6532) (fun (t : Bool) => (Exit.ret, (⟨mkE 26 0 [(4, .dat .bool t)], []⟩ : St))) := by
  unfold laws_eqIntS_n9
  exact Link.cast (by kernel_rfl) (by kernel_rfl) (link_group (c := (Code.fst (Code.snd (bodyOf Tryd.f16)))) (a := (Ann.fst (Ann.snd laws_eqIntS_an))) [(Code.fst (bodyOf Tryd.f16))] [(Ann.fst laws_eqIntS_an)] rfl (link_seq2 (b := (Code.snd (Code.snd (bodyOf Tryd.f16)))) (y := (Ann.snd (Ann.snd laws_eqIntS_an))) (laws_eqIntS_n1_l x6531 x6532) (fun (t : Unit) => (laws_eqIntS_n8_l x6531 x6532)) (fun (t : Bool) => t) (by
  rintro t
  · kernel_rfl) (by
  rintro t f K h
  · exact h)))

theorem laws_eqIntS_e (x6531 : List Int) (x6532 : List Int) {r : AV} {H' : Heap} (h : (Ans.mk _ (laws_eqIntS x6531 x6532) (fun (t : Bool) => (.dat .bool t, [])) [] none).run = some (r, H')) : Awp laws_eqIntS_ctx LL (bodyOf Tryd.f16) laws_eqIntS_an (⟨mkE 26 0 [(0, .dat (.list (.int .i64)) x6531), (1, .dat (.list (.int .i64)) x6532)], []⟩ : St) (Ret (tlook tys) Tryd.f16.results.toList r H') :=
  ret_of' (laws_eqIntS_n9_l x6531 x6532) (by unfold laws_eqIntS; kernel_rfl) (by
  intro t
  exact ret_mk [.dat .bool t] (by kernel_rfl) (by kernel_rfl) (by kernel_rfl) (by kernel_rfl)) h

def F_laws_eqIntS : Fun := fun avs H =>
  match avs, H with
  | [.dat (.list (.int .i64)) x6531, .dat (.list (.int .i64)) x6532], [] => ⟨_, laws_eqIntS x6531 x6532, fun (t : Bool) => (.dat .bool t, []), [], none⟩
  | _, _ => Ans.no

theorem laws_eqIntS_sound : Sound Tryd.prog 16 F_laws_eqIntS := by
  refine fn_sound' (C := laws_eqIntS_ctx) (c := bodyOf Tryd.f16) (cok_of tys_ok (by simp) (by simp) (by kernel_rfl)) Tryd.func16 (by kernel_rfl) LL laws_eqIntS_an ?_
  intro avs H r H' h
  unfold F_laws_eqIntS at h
  split at h
  · refine Awp.cast ?_ ?_ ?_ (laws_eqIntS_e _ _ h) <;> kernel_rfl
  · simp [Ans.no, Ans.run] at h

/-! loop.example/headtrees/laws.FnExactMovesFor -/

def laws_FnExactMovesFor_an : Ann := (.seq (.leaf [0]) (.seq (.seq (.leaf [0, 10]) (.cond (.seq (.leaf [2]) (.leaf [2])) (.leaf [0]))) (.seq (.leaf [0, 3, 4]) (.seq (.leaf [0, 3, 4, 5]) (.seq (.leaf [0, 3, 4, 5, 6, 7]) (.seq (.seq (.leaf [0, 5, 31]) (.cond (.seq (.leaf [2]) (.leaf [2])) (.leaf [0, 5]))) (.seq (.seq (.leaf [36]) (.cond (.seq (.leaf [2]) (.leaf [2])) (.leaf []))) (.seq (.leaf [2]) (.leaf [2])))))))))

noncomputable def laws_FnExactMovesFor_ctx : Ctx := ⟨tlook tys, olook [(15, F_laws_toIntS), (14, F_spec_MovesFor), (11, F_impl_MovesFor), (16, F_laws_eqIntS)], ioF, 0, false, []⟩

theorem laws_FnExactMovesFor_n1_l (x6448 : List Int) : Link laws_FnExactMovesFor_ctx LL (bodyOf Tryd.f5) laws_FnExactMovesFor_an (⟨mkE 37 0 [(0, .dat (.list (.int .i64)) x6448)], []⟩ : St) (laws_FnExactMovesFor_n1 x6448) (fun (t : Bool) => (Exit.ret, (⟨mkE 37 0 [(2, .dat .bool t)], []⟩ : St))) := by
  refine Link.of fun K h => ?_
  simp only [laws_FnExactMovesFor_n1, wpO_bind, wpO_cond, wpO_map, wpO_some] at h
  exact Awp.of (by kernel_rfl) h

theorem laws_FnExactMovesFor_e (x6448 : List Int) {r : AV} {H' : Heap} (h : (Ans.mk _ (laws_FnExactMovesFor x6448) (fun (t : Bool) => (.dat .bool t, [])) [] none).run = some (r, H')) : Awp laws_FnExactMovesFor_ctx LL (bodyOf Tryd.f5) laws_FnExactMovesFor_an (⟨mkE 37 0 [(0, .dat (.list (.int .i64)) x6448)], []⟩ : St) (Ret (tlook tys) Tryd.f5.results.toList r H') :=
  ret_of' (laws_FnExactMovesFor_n1_l x6448) (by unfold laws_FnExactMovesFor; kernel_rfl) (by
  intro t
  exact ret_mk [.dat .bool t] (by kernel_rfl) (by kernel_rfl) (by kernel_rfl) (by kernel_rfl)) h

def F_laws_FnExactMovesFor : Fun := fun avs H =>
  match avs, H with
  | [.dat (.list (.int .i64)) x6448], [] => ⟨_, laws_FnExactMovesFor x6448, fun (t : Bool) => (.dat .bool t, []), [], none⟩
  | _, _ => Ans.no

theorem laws_FnExactMovesFor_sound : Sound Tryd.prog 5 F_laws_FnExactMovesFor := by
  refine fn_sound' (C := laws_FnExactMovesFor_ctx) (c := bodyOf Tryd.f5) (cok_of tys_ok (List.forall_mem_cons.2 ⟨laws_toIntS_sound, List.forall_mem_cons.2 ⟨spec_MovesFor_sound, List.forall_mem_cons.2 ⟨impl_MovesFor_sound, List.forall_mem_cons.2 ⟨laws_eqIntS_sound, by simp⟩⟩⟩⟩) (List.forall_mem_cons.2 ⟨Tryd.call15, List.forall_mem_cons.2 ⟨Tryd.call14, List.forall_mem_cons.2 ⟨Tryd.call11, List.forall_mem_cons.2 ⟨Tryd.call16, by simp⟩⟩⟩⟩) (by kernel_rfl)) Tryd.func5 (by kernel_rfl) LL laws_FnExactMovesFor_an ?_
  intro avs H r H' h
  unfold F_laws_FnExactMovesFor at h
  split at h
  · refine Awp.cast ?_ ?_ ?_ (laws_FnExactMovesFor_e _ h) <;> kernel_rfl
  · simp [Ans.no, Ans.run] at h

end Go.Rv
