/-
  The checked code answers as the plain functions do; written by program. Conditions: none.
-/
import Derived.Test.YtenenhmofmdcbaaGLa
set_option linter.unusedVariables false
set_option linter.unusedSimpArgs false
set_option maxRecDepth 100000
namespace Go.Rv
open Go.Proofs
theorem spec_DepthOf_n16_l (x1414 : List Int) (x1452 : Int) (x1453 : List Int) : Link spec_DepthOf_ctx LL (Code.fst (Code.fst (Code.snd (Code.fst (Code.snd (Code.snd (bodyOf Try.f20))))))) (Ann.fst (Ann.fst (Ann.snd (Ann.fst (Ann.snd (Ann.snd spec_DepthOf_an)))))) (⟨mkE 38 0 [(0, .dat (.list (.int .i64)) x1414), (3, .slc 0), (4, .dat (.int .i64) x1452)], [some (.seq (.int .i64) x1453)]⟩ : St) (spec_DepthOf_n16 x1414 x1452 x1453) (Sum.elim (fun (t : Int × (List Int)) => (Exit.normal, (⟨mkE 38 0 [(0, .dat (.list (.int .i64)) x1414), (3, .slc 0), (4, .dat (.int .i64) t.1)], [some (.seq (.int .i64) t.2)]⟩ : St))) (fun (t : (List Int)) => ((Exit.exit 0), (⟨mkE 38 0 [(3, .slc 0)], [some (.seq (.int .i64) t)]⟩ : St)))) := by
  unfold spec_DepthOf_n16
  exact Link.cast (by kernel_rfl) (by kernel_rfl) (link_seq2 (b := (Code.snd (Code.fst (Code.fst (Code.snd (Code.fst (Code.snd (Code.snd (bodyOf Try.f20))))))))) (y := (Ann.snd (Ann.fst (Ann.fst (Ann.snd (Ann.fst (Ann.snd (Ann.snd spec_DepthOf_an)))))))) (spec_DepthOf_n3_l x1414 x1452 x1453) (fun (t : Unit) => (link_map (spec_DepthOf_n15_l x1414 x1452 x1453) (fun (t : Int × (List Int)) => (Sum.inl (t.1, t.2))) (by
  rintro t
  · kernel_rfl))) (fun (t : (List Int)) => (Sum.inr t)) (by
  rintro t
  · kernel_rfl) (by
  rintro t f K h
  · exact h))

theorem spec_DepthOf_n17_l (x1414 : List Int) : Link spec_DepthOf_ctx LL (Code.fst (Code.snd (Code.fst (Code.snd (Code.snd (bodyOf Try.f20)))))) (Ann.fst (Ann.snd (Ann.fst (Ann.snd (Ann.snd spec_DepthOf_an))))) (⟨mkE 38 0 [(0, .dat (.list (.int .i64)) x1414), (3, .slc 0), (4, .dat (.int .i64) 0)], [some (.seq (.int .i64) ([] : List Int))]⟩ : St) (spec_DepthOf_n17 x1414) (fun (t : (List Int)) => ((Exit.exit 0), (⟨mkE 38 0 [(3, .slc 0)], [some (.seq (.int .i64) t)]⟩ : St))) := by
  unfold spec_DepthOf_n17
  exact Link.cast (by kernel_rfl) (by kernel_rfl) (link_loop (mk := fun (s : Int × (List Int)) => (⟨mkE 38 0 [(0, .dat (.list (.int .i64)) x1414), (3, .slc 0), (4, .dat (.int .i64) s.1)], [some (.seq (.int .i64) s.2)]⟩ : St)) (fin := (fun (t : (List Int)) => ((Exit.exit 0), (⟨mkE 38 0 [(3, .slc 0)], [some (.seq (.int .i64) t)]⟩ : St)))) (by
  rintro t f K h
  · exact h) (fun s => link_map (spec_DepthOf_n16_l x1414 s.1 s.2) (Sum.elim (fun (t : Int × (List Int)) => Sum.inl (t.1, t.2)) (fun (t : (List Int)) => Sum.inr t)) (by
  rintro (t | t)
  · kernel_rfl
  · kernel_rfl)) (0, ([] : List Int)))

theorem spec_DepthOf_n18_l (x1414 : List Int) : Link spec_DepthOf_ctx LL (Code.snd (Code.fst (Code.snd (Code.snd (bodyOf Try.f20))))) (Ann.snd (Ann.fst (Ann.snd (Ann.snd spec_DepthOf_an)))) (⟨mkE 38 0 [(0, .dat (.list (.int .i64)) x1414), (3, .slc 0), (4, .dat (.int .i64) 0)], [some (.seq (.int .i64) ([] : List Int))]⟩ : St) (spec_DepthOf_n18 x1414) (fun (t : (List Int)) => (Exit.normal, (⟨mkE 38 0 [(3, .slc 0)], [some (.seq (.int .i64) t)]⟩ : St))) := by
  unfold spec_DepthOf_n18
  exact Link.cast (by kernel_rfl) (by kernel_rfl) (link_block (id := 0) (spec_DepthOf_n17_l x1414) (fun (t : (List Int)) => t) (by
  rintro t K h
  · exact Eq.mp (by kernel_rfl) h))

theorem spec_DepthOf_n19_l (x1414 : List Int) : Link spec_DepthOf_ctx LL (Code.fst (Code.snd (Code.snd (bodyOf Try.f20)))) (Ann.fst (Ann.snd (Ann.snd spec_DepthOf_an))) (⟨mkE 38 0 [(0, .dat (.list (.int .i64)) x1414), (3, .slc 0)], [some (.seq (.int .i64) ([] : List Int))]⟩ : St) (spec_DepthOf_n19 x1414) (fun (t : (List Int)) => (Exit.normal, (⟨mkE 38 0 [(3, .slc 0)], [some (.seq (.int .i64) t)]⟩ : St))) := by
  unfold spec_DepthOf_n19
  exact Link.cast (by kernel_rfl) (by kernel_rfl) (link_seq (b := (Code.snd (Code.fst (Code.snd (Code.snd (bodyOf Try.f20)))))) (y := (Ann.snd (Ann.fst (Ann.snd (Ann.snd spec_DepthOf_an))))) (spec_DepthOf_n2_l x1414) (fun (t : Unit) => (spec_DepthOf_n18_l x1414)))

theorem spec_DepthOf_n20_l (x1453 : List Int) : Link spec_DepthOf_ctx LL (Code.snd (Code.snd (Code.snd (bodyOf Try.f20)))) (Ann.snd (Ann.snd (Ann.snd spec_DepthOf_an))) (⟨mkE 38 0 [(3, .slc 0)], [some (.seq (.int .i64) x1453)]⟩ : St) (spec_DepthOf_n20 x1453) (fun (t : (List Int)) => (Exit.ret, (⟨mkE 38 0 [(2, .slc 0)], [some (.seq (.int .i64) t)]⟩ : St))) := by
  refine Link.of fun K h => ?_
  simp only [spec_DepthOf_n20, wpO_bind, wpO_cond, wpO_map, wpO_some] at h
  exact Awp.of (by kernel_rfl) h

theorem spec_DepthOf_n21_l (x1414 : List Int) : Link spec_DepthOf_ctx LL (Code.snd (Code.snd (bodyOf Try.f20))) (Ann.snd (Ann.snd spec_DepthOf_an)) (⟨mkE 38 0 [(0, .dat (.list (.int .i64)) x1414), (3, .slc 0)], [some (.seq (.int .i64) ([] : List Int))]⟩ : St) (spec_DepthOf_n21 x1414) (fun (t : (List Int)) => (Exit.ret, (⟨mkE 38 0 [(2, .slc 0)], [some (.seq (.int .i64) t)]⟩ : St))) := by
  unfold spec_DepthOf_n21
  exact Link.cast (by kernel_rfl) (by kernel_rfl) (link_seq (b := (Code.snd (Code.snd (Code.snd (bodyOf Try.f20))))) (y := (Ann.snd (Ann.snd (Ann.snd spec_DepthOf_an)))) (spec_DepthOf_n19_l x1414) (fun (t : (List Int)) => (spec_DepthOf_n20_l t)))

theorem spec_DepthOf_n22_l (x1414 : List Int) : Link spec_DepthOf_ctx LL (bodyOf Try.f20) spec_DepthOf_an (⟨mkE 38 0 [(0, .dat (.list (.int .i64)) x1414)], []⟩ : St) (spec_DepthOf_n22 x1414) (fun (t : (List Int)) => (Exit.ret, (⟨mkE 38 0 [(2, .slc 0)], [some (.seq (.int .i64) t)]⟩ : St))) := by
  unfold spec_DepthOf_n22
  exact Link.cast (by kernel_rfl) (by kernel_rfl) (link_group (c := (Code.fst (Code.snd (bodyOf Try.f20)))) (a := (Ann.fst (Ann.snd spec_DepthOf_an))) [(Code.fst (bodyOf Try.f20))] [(Ann.fst spec_DepthOf_an)] rfl (link_seq (b := (Code.snd (Code.snd (bodyOf Try.f20)))) (y := (Ann.snd (Ann.snd spec_DepthOf_an))) (spec_DepthOf_n1_l x1414) (fun (t : Unit) => (spec_DepthOf_n21_l x1414))))

theorem spec_DepthOf_e (x1414 : List Int) {r : AV} {H' : Heap} (h : (Ans.mk _ (spec_DepthOf x1414) (fun (t : (List Int)) => (.slc 0, [some (.seq (.int .i64) t)]))).run = some (r, H')) : Awp spec_DepthOf_ctx LL (bodyOf Try.f20) spec_DepthOf_an (⟨mkE 38 0 [(0, .dat (.list (.int .i64)) x1414)], []⟩ : St) (Ret (tlook tys) Try.f20.results.toList r H') :=
  ret_of' (spec_DepthOf_n22_l x1414) (by unfold spec_DepthOf; kernel_rfl) (by
  intro t
  exact ret_mk [.slc 0] (by kernel_rfl) (by kernel_rfl) (by kernel_rfl) (by kernel_rfl)) h

def F_spec_DepthOf : Fun := fun avs H =>
  match avs, H with
  | [.dat (.list (.int .i64)) x1414], [] => ⟨_, spec_DepthOf x1414, fun (t : (List Int)) => (.slc 0, [some (.seq (.int .i64) t)])⟩
  | _, _ => Ans.no

theorem spec_DepthOf_sound : Sound Try.prog 20 F_spec_DepthOf := by
  refine fn_sound' (C := spec_DepthOf_ctx) (c := bodyOf Try.f20) (cok_of tys_ok (List.forall_mem_cons.2 ⟨spec_TreeOk_sound, by simp⟩) (List.forall_mem_cons.2 ⟨Try.call12, by simp⟩) (by kernel_rfl)) Try.func20 (by kernel_rfl) LL spec_DepthOf_an ?_
  intro avs H r H' h
  unfold F_spec_DepthOf at h
  split at h
  · refine Awp.cast ?_ ?_ ?_ (spec_DepthOf_e _ h) <;> kernel_rfl
  · simp [Ans.no, Ans.run] at h

/-! loop.example/headtrees/laws.sameInts -/

def laws_sameInts_an : Ann := (.seq (.leaf [0, 1]) (.seq (.seq (.leaf [0, 1, 10]) (.cond (.seq (.leaf [4]) (.leaf [4])) (.leaf [0, 1]))) (.seq (.seq (.leaf [0, 1, 5]) (.block (.loop (.seq (.seq (.leaf [0, 1, 5, 14]) (.cond (.leaf [0, 1, 5]) (.leaf []))) (.seq (.block (.seq (.draw [] [0, 1, 2, 3, 4, 5, 6, 7, 8] [] [0, 1, 5, 25]) (.cond (.seq (.leaf [4]) (.leaf [4])) (.leaf [0, 1, 5])))) (.leaf [0, 1, 5])))))) (.seq (.leaf [4]) (.leaf [4])))))

noncomputable def laws_sameInts_ctx : Ctx := ⟨tlook tys, olook [], ioF, 0⟩

theorem laws_sameInts_n1_l (x1492 : List Int) (x1493 : List Int) : Link laws_sameInts_ctx LL (Code.seq (Code.fst (bodyOf Try.f19)) (Code.fst (Code.snd (bodyOf Try.f19)))) (Ann.seq (Ann.fst laws_sameInts_an) (Ann.fst (Ann.snd laws_sameInts_an))) (⟨mkE 26 0 [(0, .dat (.list (.int .i64)) x1492), (1, .dat (.list (.int .i64)) x1493)], []⟩ : St) (laws_sameInts_n1 x1492 x1493) (Sum.elim (fun (t : Unit) => (Exit.normal, (⟨mkE 26 0 [(0, .dat (.list (.int .i64)) x1492), (1, .dat (.list (.int .i64)) x1493)], []⟩ : St))) (fun (t : Bool) => (Exit.ret, (⟨mkE 26 0 [(4, .dat .bool t)], []⟩ : St)))) := by
  refine Link.of fun K h => ?_
  simp only [laws_sameInts_n1, wpO_bind, wpO_cond, wpO_map, wpO_some] at h
  exact Awp.of (by kernel_rfl) h

theorem laws_sameInts_n2_l (x1492 : List Int) (x1493 : List Int) : Link laws_sameInts_ctx LL (Code.fst (Code.fst (Code.snd (Code.snd (bodyOf Try.f19))))) (Ann.fst (Ann.fst (Ann.snd (Ann.snd laws_sameInts_an)))) (⟨mkE 26 0 [(0, .dat (.list (.int .i64)) x1492), (1, .dat (.list (.int .i64)) x1493)], []⟩ : St) (laws_sameInts_n2) (fun (t : Unit) => (Exit.normal, (⟨mkE 26 0 [(0, .dat (.list (.int .i64)) x1492), (1, .dat (.list (.int .i64)) x1493), (5, .dat (.int .i64) 0)], []⟩ : St))) := by
  refine Link.of fun K h => ?_
  simp only [laws_sameInts_n2, wpO_bind, wpO_cond, wpO_map, wpO_some] at h
  exact Awp.of (by kernel_rfl) h

theorem laws_sameInts_n3_l (x1492 : List Int) (x1493 : List Int) (x1510 : Int) : Link laws_sameInts_ctx LL (Code.fst (Code.fst (Code.snd (Code.fst (Code.snd (Code.snd (bodyOf Try.f19))))))) (Ann.fst (Ann.fst (Ann.snd (Ann.fst (Ann.snd (Ann.snd laws_sameInts_an)))))) (⟨mkE 26 0 [(0, .dat (.list (.int .i64)) x1492), (1, .dat (.list (.int .i64)) x1493), (5, .dat (.int .i64) x1510)], []⟩ : St) (laws_sameInts_n3 x1492 x1493 x1510) (Sum.elim (fun (t : Int) => (Exit.normal, (⟨mkE 26 0 [(0, .dat (.list (.int .i64)) x1492), (1, .dat (.list (.int .i64)) x1493), (5, .dat (.int .i64) t)], []⟩ : St))) (Sum.elim (fun (t : Bool) => (Exit.ret, (⟨mkE 26 0 [(4, .dat .bool t)], []⟩ : St))) (fun (t : Unit) => ((Exit.exit 0), (⟨mkE 26 0 [], []⟩ : St))))) := by
  refine Link.of fun K h => ?_
  simp only [laws_sameInts_n3, wpO_bind, wpO_cond, wpO_map, wpO_some] at h
  exact Awp.of (by kernel_rfl) h

theorem laws_sameInts_n4_l (x1492 : List Int) (x1493 : List Int) : Link laws_sameInts_ctx LL (Code.fst (Code.snd (Code.fst (Code.snd (Code.snd (bodyOf Try.f19)))))) (Ann.fst (Ann.snd (Ann.fst (Ann.snd (Ann.snd laws_sameInts_an))))) (⟨mkE 26 0 [(0, .dat (.list (.int .i64)) x1492), (1, .dat (.list (.int .i64)) x1493), (5, .dat (.int .i64) 0)], []⟩ : St) (laws_sameInts_n4 x1492 x1493) (Sum.elim (fun (t : Bool) => (Exit.ret, (⟨mkE 26 0 [(4, .dat .bool t)], []⟩ : St))) (fun (t : Unit) => ((Exit.exit 0), (⟨mkE 26 0 [], []⟩ : St)))) := by
  unfold laws_sameInts_n4
  exact Link.cast (by kernel_rfl) (by kernel_rfl) (link_loop (mk := fun (s : Int) => (⟨mkE 26 0 [(0, .dat (.list (.int .i64)) x1492), (1, .dat (.list (.int .i64)) x1493), (5, .dat (.int .i64) s)], []⟩ : St)) (fin := (Sum.elim (fun (t : Bool) => (Exit.ret, (⟨mkE 26 0 [(4, .dat .bool t)], []⟩ : St))) (fun (t : Unit) => ((Exit.exit 0), (⟨mkE 26 0 [], []⟩ : St))))) (by
  rintro (t | t) f K h
  · exact h
  · exact h) (fun s => link_map (laws_sameInts_n3_l x1492 x1493 s) (Sum.elim (fun (t : Int) => Sum.inl t) (Sum.elim (fun (t : Bool) => Sum.inr (Sum.inl t)) (fun (t : Unit) => Sum.inr (Sum.inr t)))) (by
  rintro (t | t | t)
  · kernel_rfl
  · kernel_rfl
  · kernel_rfl)) 0)

theorem laws_sameInts_n5_l (x1492 : List Int) (x1493 : List Int) : Link laws_sameInts_ctx LL (Code.snd (Code.fst (Code.snd (Code.snd (bodyOf Try.f19))))) (Ann.snd (Ann.fst (Ann.snd (Ann.snd laws_sameInts_an)))) (⟨mkE 26 0 [(0, .dat (.list (.int .i64)) x1492), (1, .dat (.list (.int .i64)) x1493), (5, .dat (.int .i64) 0)], []⟩ : St) (laws_sameInts_n5 x1492 x1493) (Sum.elim (fun (t : Unit) => (Exit.normal, (⟨mkE 26 0 [], []⟩ : St))) (fun (t : Bool) => (Exit.ret, (⟨mkE 26 0 [(4, .dat .bool t)], []⟩ : St)))) := by
  unfold laws_sameInts_n5
  exact Link.cast (by kernel_rfl) (by kernel_rfl) (link_block (id := 0) (laws_sameInts_n4_l x1492 x1493) (Sum.elim (fun (t : Bool) => (Sum.inr t)) (fun (t : Unit) => (Sum.inl ()))) (by
  rintro (t | t) K h
  · exact Eq.mp (by kernel_rfl) h
  · exact Eq.mp (by kernel_rfl) h))

theorem laws_sameInts_n6_l (x1492 : List Int) (x1493 : List Int) : Link laws_sameInts_ctx LL (Code.fst (Code.snd (Code.snd (bodyOf Try.f19)))) (Ann.fst (Ann.snd (Ann.snd laws_sameInts_an))) (⟨mkE 26 0 [(0, .dat (.list (.int .i64)) x1492), (1, .dat (.list (.int .i64)) x1493)], []⟩ : St) (laws_sameInts_n6 x1492 x1493) (Sum.elim (fun (t : Unit) => (Exit.normal, (⟨mkE 26 0 [], []⟩ : St))) (fun (t : Bool) => (Exit.ret, (⟨mkE 26 0 [(4, .dat .bool t)], []⟩ : St)))) := by
  unfold laws_sameInts_n6
  exact Link.cast (by kernel_rfl) (by kernel_rfl) (link_seq (b := (Code.snd (Code.fst (Code.snd (Code.snd (bodyOf Try.f19)))))) (y := (Ann.snd (Ann.fst (Ann.snd (Ann.snd laws_sameInts_an))))) (laws_sameInts_n2_l x1492 x1493) (fun (t : Unit) => (laws_sameInts_n5_l x1492 x1493)))

theorem laws_sameInts_n7_l : Link laws_sameInts_ctx LL (Code.snd (Code.snd (Code.snd (bodyOf Try.f19)))) (Ann.snd (Ann.snd (Ann.snd laws_sameInts_an))) (⟨mkE 26 0 [], []⟩ : St) (laws_sameInts_n7) (fun (t : Bool) => (Exit.ret, (⟨mkE 26 0 [(4, .dat .bool t)], []⟩ : St))) := by
  refine Link.of fun K h => ?_
  simp only [laws_sameInts_n7, wpO_bind, wpO_cond, wpO_map, wpO_some] at h
  exact Awp.of (by kernel_rfl) h

theorem laws_sameInts_n8_l (x1492 : List Int) (x1493 : List Int) : Link laws_sameInts_ctx LL (Code.snd (Code.snd (bodyOf Try.f19))) (Ann.snd (Ann.snd laws_sameInts_an)) (⟨mkE 26 0 [(0, .dat (.list (.int .i64)) x1492), (1, .dat (.list (.int .i64)) x1493)], []⟩ : St) (laws_sameInts_n8 x1492 x1493) (fun (t : Bool) => (Exit.ret, (⟨mkE 26 0 [(4, .dat .bool t)], []⟩ : St))) := by
  unfold laws_sameInts_n8
  exact Link.cast (by kernel_rfl) (by kernel_rfl) (link_seq2 (b := (Code.snd (Code.snd (Code.snd (bodyOf Try.f19))))) (y := (Ann.snd (Ann.snd (Ann.snd laws_sameInts_an)))) (laws_sameInts_n6_l x1492 x1493) (fun (t : Unit) => (laws_sameInts_n7_l)) (fun (t : Bool) => t) (by
  rintro t
  · kernel_rfl) (by
  rintro t f K h
  · exact h))

theorem laws_sameInts_n9_l (x1492 : List Int) (x1493 : List Int) : Link laws_sameInts_ctx LL (bodyOf Try.f19) laws_sameInts_an (⟨mkE 26 0 [(0, .dat (.list (.int .i64)) x1492), (1, .dat (.list (.int .i64)) x1493)], []⟩ : St) (laws_sameInts_n9 x1492 x1493) (fun (t : Bool) => (Exit.ret, (⟨mkE 26 0 [(4, .dat .bool t)], []⟩ : St))) := by
  unfold laws_sameInts_n9
  exact Link.cast (by kernel_rfl) (by kernel_rfl) (link_group (c := (Code.fst (Code.snd (bodyOf Try.f19)))) (a := (Ann.fst (Ann.snd laws_sameInts_an))) [(Code.fst (bodyOf Try.f19))] [(Ann.fst laws_sameInts_an)] rfl (link_seq2 (b := (Code.snd (Code.snd (bodyOf Try.f19)))) (y := (Ann.snd (Ann.snd laws_sameInts_an))) (laws_sameInts_n1_l x1492 x1493) (fun (t : Unit) => (laws_sameInts_n8_l x1492 x1493)) (fun (t : Bool) => t) (by
  rintro t
  · kernel_rfl) (by
  rintro t f K h
  · exact h)))

theorem laws_sameInts_e (x1492 : List Int) (x1493 : List Int) {r : AV} {H' : Heap} (h : (Ans.mk _ (laws_sameInts x1492 x1493) (fun (t : Bool) => (.dat .bool t, []))).run = some (r, H')) : Awp laws_sameInts_ctx LL (bodyOf Try.f19) laws_sameInts_an (⟨mkE 26 0 [(0, .dat (.list (.int .i64)) x1492), (1, .dat (.list (.int .i64)) x1493)], []⟩ : St) (Ret (tlook tys) Try.f19.results.toList r H') :=
  ret_of' (laws_sameInts_n9_l x1492 x1493) (by unfold laws_sameInts; kernel_rfl) (by
  intro t
  exact ret_mk [.dat .bool t] (by kernel_rfl) (by kernel_rfl) (by kernel_rfl) (by kernel_rfl)) h

def F_laws_sameInts : Fun := fun avs H =>
  match avs, H with
  | [.dat (.list (.int .i64)) x1492, .dat (.list (.int .i64)) x1493], [] => ⟨_, laws_sameInts x1492 x1493, fun (t : Bool) => (.dat .bool t, [])⟩
  | _, _ => Ans.no

theorem laws_sameInts_sound : Sound Try.prog 19 F_laws_sameInts := by
  refine fn_sound' (C := laws_sameInts_ctx) (c := bodyOf Try.f19) (cok_of tys_ok (by simp) (by simp) (by kernel_rfl)) Try.func19 (by kernel_rfl) LL laws_sameInts_an ?_
  intro avs H r H' h
  unfold F_laws_sameInts at h
  split at h
  · refine Awp.cast ?_ ?_ ?_ (laws_sameInts_e _ _ h) <;> kernel_rfl
  · simp [Ans.no, Ans.run] at h

/-! loop.example/headtrees/laws.FnDepthOf -/

def laws_FnDepthOf_an : Ann := (.seq (.leaf [0]) (.seq (.seq (.leaf [0, 8]) (.cond (.seq (.leaf [2]) (.leaf [2])) (.leaf [0]))) (.seq (.leaf [3]) (.seq (.leaf [3, 4]) (.seq (.seq (.leaf [3, 4, 17]) (.cond (.seq (.leaf [2]) (.leaf [2])) (.leaf [3, 4]))) (.seq (.seq (.leaf [3, 4, 20]) (.cond (.seq (.leaf [2]) (.leaf [2])) (.leaf [3, 4]))) (.seq (.seq (.leaf [3, 4, 5]) (.block (.loop (.seq (.seq (.leaf [3, 4, 5, 30]) (.cond (.leaf [3, 4, 5]) (.leaf [3, 4]))) (.seq (.block (.seq (.draw [] [0, 1, 2, 3, 4, 5, 6, 7, 8, 9, 10, 11, 12, 13, 14, 15, 16, 17, 18, 19, 20, 21, 22, 23, 24, 25, 26, 27, 28, 29, 30, 31, 32, 33, 34, 35, 36, 37, 38, 39, 40, 41, 42, 43] [] [3, 4, 5, 76]) (.cond (.seq (.leaf [2]) (.leaf [2])) (.leaf [3, 4, 5])))) (.leaf [3, 4, 5])))))) (.seq (.leaf [2]) (.leaf [2])))))))))

noncomputable def laws_FnDepthOf_ctx : Ctx := ⟨tlook tys, olook [(18, F_spec_DrawDepthOf), (17, F_impl_DepthOf), (20, F_spec_DepthOf), (19, F_laws_sameInts), (11, F_impl_TreeOk), (13, F_laws_alive)], ioF, 0⟩

theorem laws_FnDepthOf_n1_l (x1391 : List Int) : Link laws_FnDepthOf_ctx LL (Code.seq (Code.fst (bodyOf Try.f5)) (Code.seq (Code.fst (Code.snd (bodyOf Try.f5))) (Code.seq (Code.fst (Code.snd (Code.snd (bodyOf Try.f5)))) (Code.seq (Code.fst (Code.snd (Code.snd (Code.snd (bodyOf Try.f5))))) (Code.seq (Code.fst (Code.snd (Code.snd (Code.snd (Code.snd (bodyOf Try.f5)))))) (Code.fst (Code.snd (Code.snd (Code.snd (Code.snd (Code.snd (bodyOf Try.f5)))))))))))) (Ann.seq (Ann.fst laws_FnDepthOf_an) (Ann.seq (Ann.fst (Ann.snd laws_FnDepthOf_an)) (Ann.seq (Ann.fst (Ann.snd (Ann.snd laws_FnDepthOf_an))) (Ann.seq (Ann.fst (Ann.snd (Ann.snd (Ann.snd laws_FnDepthOf_an)))) (Ann.seq (Ann.fst (Ann.snd (Ann.snd (Ann.snd (Ann.snd laws_FnDepthOf_an))))) (Ann.fst (Ann.snd (Ann.snd (Ann.snd (Ann.snd (Ann.snd laws_FnDepthOf_an))))))))))) (⟨mkE 82 0 [(0, .dat (.list (.int .u8)) x1391)], []⟩ : St) (laws_FnDepthOf_n1 x1391) (Sum.elim (fun (t : (List Int) × (List Int)) => (Exit.normal, (⟨mkE 82 0 [(3, .slc 0), (4, .slc 1)], [some (.seq (.int .i64) t.1), some (.seq (.int .i64) t.2)]⟩ : St))) (fun (t : Bool) => (Exit.ret, (⟨mkE 82 0 [(2, .dat .bool t)], []⟩ : St)))) := by
  refine Link.of fun K h => ?_
  simp only [laws_FnDepthOf_n1, wpO_bind, wpO_cond, wpO_map, wpO_some] at h
  exact Awp.of (by kernel_rfl) h

theorem laws_FnDepthOf_n2_l (x1529 : List Int) (x1530 : List Int) : Link laws_FnDepthOf_ctx LL (Code.fst (Code.fst (Code.snd (Code.snd (Code.snd (Code.snd (Code.snd (Code.snd (bodyOf Try.f5))))))))) (Ann.fst (Ann.fst (Ann.snd (Ann.snd (Ann.snd (Ann.snd (Ann.snd (Ann.snd laws_FnDepthOf_an)))))))) (⟨mkE 82 0 [(3, .slc 0), (4, .slc 1)], [some (.seq (.int .i64) x1529), some (.seq (.int .i64) x1530)]⟩ : St) (laws_FnDepthOf_n2) (fun (t : Unit) => (Exit.normal, (⟨mkE 82 0 [(3, .slc 0), (4, .slc 1), (5, .dat (.int .i64) 0)], [some (.seq (.int .i64) x1529), some (.seq (.int .i64) x1530)]⟩ : St))) := by
  refine Link.of fun K h => ?_
  simp only [laws_FnDepthOf_n2, wpO_bind, wpO_cond, wpO_map, wpO_some] at h
  exact Awp.of (by kernel_rfl) h

theorem laws_FnDepthOf_n3_l (x1606 : Int) (x1529 : List Int) (x1530 : List Int) : Link laws_FnDepthOf_ctx LL (Code.fst (Code.fst (Code.snd (Code.fst (Code.snd (Code.snd (Code.snd (Code.snd (Code.snd (Code.snd (bodyOf Try.f5))))))))))) (Ann.fst (Ann.fst (Ann.snd (Ann.fst (Ann.snd (Ann.snd (Ann.snd (Ann.snd (Ann.snd (Ann.snd laws_FnDepthOf_an)))))))))) (⟨mkE 82 0 [(3, .slc 0), (4, .slc 1), (5, .dat (.int .i64) x1606)], [some (.seq (.int .i64) x1529), some (.seq (.int .i64) x1530)]⟩ : St) (laws_FnDepthOf_n3 x1606 x1529 x1530) (Sum.elim (fun (t : Int) => (Exit.normal, (⟨mkE 82 0 [(3, .slc 0), (4, .slc 1), (5, .dat (.int .i64) t)], [some (.seq (.int .i64) x1529), some (.seq (.int .i64) x1530)]⟩ : St))) (Sum.elim (fun (t : Bool) => (Exit.ret, (⟨mkE 82 0 [(2, .dat .bool t)], []⟩ : St))) (fun (t : Unit) => ((Exit.exit 0), (⟨mkE 82 0 [(3, .slc 0), (4, .slc 1)], [some (.seq (.int .i64) x1529), some (.seq (.int .i64) x1530)]⟩ : St))))) := by
  refine Link.of fun K h => ?_
  simp only [laws_FnDepthOf_n3, wpO_bind, wpO_cond, wpO_map, wpO_some] at h
  exact Awp.of (by kernel_rfl) h

theorem laws_FnDepthOf_n4_l (x1529 : List Int) (x1530 : List Int) : Link laws_FnDepthOf_ctx LL (Code.fst (Code.snd (Code.fst (Code.snd (Code.snd (Code.snd (Code.snd (Code.snd (Code.snd (bodyOf Try.f5)))))))))) (Ann.fst (Ann.snd (Ann.fst (Ann.snd (Ann.snd (Ann.snd (Ann.snd (Ann.snd (Ann.snd laws_FnDepthOf_an))))))))) (⟨mkE 82 0 [(3, .slc 0), (4, .slc 1), (5, .dat (.int .i64) 0)], [some (.seq (.int .i64) x1529), some (.seq (.int .i64) x1530)]⟩ : St) (laws_FnDepthOf_n4 x1529 x1530) (Sum.elim (fun (t : Bool) => (Exit.ret, (⟨mkE 82 0 [(2, .dat .bool t)], []⟩ : St))) (fun (t : Unit) => ((Exit.exit 0), (⟨mkE 82 0 [(3, .slc 0), (4, .slc 1)], [some (.seq (.int .i64) x1529), some (.seq (.int .i64) x1530)]⟩ : St)))) := by
  unfold laws_FnDepthOf_n4
  exact Link.cast (by kernel_rfl) (by kernel_rfl) (link_loop (mk := fun (s : Int) => (⟨mkE 82 0 [(3, .slc 0), (4, .slc 1), (5, .dat (.int .i64) s)], [some (.seq (.int .i64) x1529), some (.seq (.int .i64) x1530)]⟩ : St)) (fin := (Sum.elim (fun (t : Bool) => (Exit.ret, (⟨mkE 82 0 [(2, .dat .bool t)], []⟩ : St))) (fun (t : Unit) => ((Exit.exit 0), (⟨mkE 82 0 [(3, .slc 0), (4, .slc 1)], [some (.seq (.int .i64) x1529), some (.seq (.int .i64) x1530)]⟩ : St))))) (by
  rintro (t | t) f K h
  · exact h
  · exact h) (fun s => link_map (laws_FnDepthOf_n3_l s x1529 x1530) (Sum.elim (fun (t : Int) => Sum.inl t) (Sum.elim (fun (t : Bool) => Sum.inr (Sum.inl t)) (fun (t : Unit) => Sum.inr (Sum.inr t)))) (by
  rintro (t | t | t)
  · kernel_rfl
  · kernel_rfl
  · kernel_rfl)) 0)

theorem laws_FnDepthOf_n5_l (x1529 : List Int) (x1530 : List Int) : Link laws_FnDepthOf_ctx LL (Code.snd (Code.fst (Code.snd (Code.snd (Code.snd (Code.snd (Code.snd (Code.snd (bodyOf Try.f5))))))))) (Ann.snd (Ann.fst (Ann.snd (Ann.snd (Ann.snd (Ann.snd (Ann.snd (Ann.snd laws_FnDepthOf_an)))))))) (⟨mkE 82 0 [(3, .slc 0), (4, .slc 1), (5, .dat (.int .i64) 0)], [some (.seq (.int .i64) x1529), some (.seq (.int .i64) x1530)]⟩ : St) (laws_FnDepthOf_n5 x1529 x1530) (Sum.elim (fun (t : Unit) => (Exit.normal, (⟨mkE 82 0 [(3, .slc 0), (4, .slc 1)], [some (.seq (.int .i64) x1529), some (.seq (.int .i64) x1530)]⟩ : St))) (fun (t : Bool) => (Exit.ret, (⟨mkE 82 0 [(2, .dat .bool t)], []⟩ : St)))) := by
  unfold laws_FnDepthOf_n5
  exact Link.cast (by kernel_rfl) (by kernel_rfl) (link_block (id := 0) (laws_FnDepthOf_n4_l x1529 x1530) (Sum.elim (fun (t : Bool) => (Sum.inr t)) (fun (t : Unit) => (Sum.inl ()))) (by
  rintro (t | t) K h
  · exact Eq.mp (by kernel_rfl) h
  · exact Eq.mp (by kernel_rfl) h))

theorem laws_FnDepthOf_n6_l (x1529 : List Int) (x1530 : List Int) : Link laws_FnDepthOf_ctx LL (Code.fst (Code.snd (Code.snd (Code.snd (Code.snd (Code.snd (Code.snd (bodyOf Try.f5)))))))) (Ann.fst (Ann.snd (Ann.snd (Ann.snd (Ann.snd (Ann.snd (Ann.snd laws_FnDepthOf_an))))))) (⟨mkE 82 0 [(3, .slc 0), (4, .slc 1)], [some (.seq (.int .i64) x1529), some (.seq (.int .i64) x1530)]⟩ : St) (laws_FnDepthOf_n6 x1529 x1530) (Sum.elim (fun (t : Unit) => (Exit.normal, (⟨mkE 82 0 [(3, .slc 0), (4, .slc 1)], [some (.seq (.int .i64) x1529), some (.seq (.int .i64) x1530)]⟩ : St))) (fun (t : Bool) => (Exit.ret, (⟨mkE 82 0 [(2, .dat .bool t)], []⟩ : St)))) := by
  unfold laws_FnDepthOf_n6
  exact Link.cast (by kernel_rfl) (by kernel_rfl) (link_seq (b := (Code.snd (Code.fst (Code.snd (Code.snd (Code.snd (Code.snd (Code.snd (Code.snd (bodyOf Try.f5)))))))))) (y := (Ann.snd (Ann.fst (Ann.snd (Ann.snd (Ann.snd (Ann.snd (Ann.snd (Ann.snd laws_FnDepthOf_an))))))))) (laws_FnDepthOf_n2_l x1529 x1530) (fun (t : Unit) => (laws_FnDepthOf_n5_l x1529 x1530)))

theorem laws_FnDepthOf_n7_l (x1529 : List Int) (x1530 : List Int) : Link laws_FnDepthOf_ctx LL (Code.snd (Code.snd (Code.snd (Code.snd (Code.snd (Code.snd (Code.snd (bodyOf Try.f5)))))))) (Ann.snd (Ann.snd (Ann.snd (Ann.snd (Ann.snd (Ann.snd (Ann.snd laws_FnDepthOf_an))))))) (⟨mkE 82 0 [(3, .slc 0), (4, .slc 1)], [some (.seq (.int .i64) x1529), some (.seq (.int .i64) x1530)]⟩ : St) (laws_FnDepthOf_n7 x1529 x1530) (fun (t : Bool) => (Exit.ret, (⟨mkE 82 0 [(2, .dat .bool t)], []⟩ : St))) := by
  refine Link.of fun K h => ?_
  simp only [laws_FnDepthOf_n7, wpO_bind, wpO_cond, wpO_map, wpO_some] at h
  exact Awp.of (by kernel_rfl) h

theorem laws_FnDepthOf_n8_l (x1529 : List Int) (x1530 : List Int) : Link laws_FnDepthOf_ctx LL (Code.snd (Code.snd (Code.snd (Code.snd (Code.snd (Code.snd (bodyOf Try.f5))))))) (Ann.snd (Ann.snd (Ann.snd (Ann.snd (Ann.snd (Ann.snd laws_FnDepthOf_an)))))) (⟨mkE 82 0 [(3, .slc 0), (4, .slc 1)], [some (.seq (.int .i64) x1529), some (.seq (.int .i64) x1530)]⟩ : St) (laws_FnDepthOf_n8 x1529 x1530) (fun (t : Bool) => (Exit.ret, (⟨mkE 82 0 [(2, .dat .bool t)], []⟩ : St))) := by
  unfold laws_FnDepthOf_n8
  exact Link.cast (by kernel_rfl) (by kernel_rfl) (link_seq2 (b := (Code.snd (Code.snd (Code.snd (Code.snd (Code.snd (Code.snd (Code.snd (bodyOf Try.f5))))))))) (y := (Ann.snd (Ann.snd (Ann.snd (Ann.snd (Ann.snd (Ann.snd (Ann.snd laws_FnDepthOf_an)))))))) (laws_FnDepthOf_n6_l x1529 x1530) (fun (t : Unit) => (laws_FnDepthOf_n7_l x1529 x1530)) (fun (t : Bool) => t) (by
  rintro t
  · kernel_rfl) (by
  rintro t f K h
  · exact h))

theorem laws_FnDepthOf_n9_l (x1391 : List Int) : Link laws_FnDepthOf_ctx LL (bodyOf Try.f5) laws_FnDepthOf_an (⟨mkE 82 0 [(0, .dat (.list (.int .u8)) x1391)], []⟩ : St) (laws_FnDepthOf_n9 x1391) (fun (t : Bool) => (Exit.ret, (⟨mkE 82 0 [(2, .dat .bool t)], []⟩ : St))) := by
  unfold laws_FnDepthOf_n9
  exact Link.cast (by kernel_rfl) (by kernel_rfl) (link_group (c := (Code.fst (Code.snd (Code.snd (Code.snd (Code.snd (Code.snd (bodyOf Try.f5)))))))) (a := (Ann.fst (Ann.snd (Ann.snd (Ann.snd (Ann.snd (Ann.snd laws_FnDepthOf_an))))))) [(Code.fst (bodyOf Try.f5)), (Code.fst (Code.snd (bodyOf Try.f5))), (Code.fst (Code.snd (Code.snd (bodyOf Try.f5)))), (Code.fst (Code.snd (Code.snd (Code.snd (bodyOf Try.f5))))), (Code.fst (Code.snd (Code.snd (Code.snd (Code.snd (bodyOf Try.f5))))))] [(Ann.fst laws_FnDepthOf_an), (Ann.fst (Ann.snd laws_FnDepthOf_an)), (Ann.fst (Ann.snd (Ann.snd laws_FnDepthOf_an))), (Ann.fst (Ann.snd (Ann.snd (Ann.snd laws_FnDepthOf_an)))), (Ann.fst (Ann.snd (Ann.snd (Ann.snd (Ann.snd laws_FnDepthOf_an)))))] rfl (link_seq2 (b := (Code.snd (Code.snd (Code.snd (Code.snd (Code.snd (Code.snd (bodyOf Try.f5)))))))) (y := (Ann.snd (Ann.snd (Ann.snd (Ann.snd (Ann.snd (Ann.snd laws_FnDepthOf_an))))))) (laws_FnDepthOf_n1_l x1391) (fun (t : (List Int) × (List Int)) => (laws_FnDepthOf_n8_l t.1 t.2)) (fun (t : Bool) => t) (by
  rintro t
  · kernel_rfl) (by
  rintro t f K h
  · exact h)))

theorem laws_FnDepthOf_e (x1391 : List Int) {r : AV} {H' : Heap} (h : (Ans.mk _ (laws_FnDepthOf x1391) (fun (t : Bool) => (.dat .bool t, []))).run = some (r, H')) : Awp laws_FnDepthOf_ctx LL (bodyOf Try.f5) laws_FnDepthOf_an (⟨mkE 82 0 [(0, .dat (.list (.int .u8)) x1391)], []⟩ : St) (Ret (tlook tys) Try.f5.results.toList r H') :=
  ret_of' (laws_FnDepthOf_n9_l x1391) (by unfold laws_FnDepthOf; kernel_rfl) (by
  intro t
  exact ret_mk [.dat .bool t] (by kernel_rfl) (by kernel_rfl) (by kernel_rfl) (by kernel_rfl)) h

def F_laws_FnDepthOf : Fun := fun avs H =>
  match avs, H with
  | [.dat (.list (.int .u8)) x1391], [] => ⟨_, laws_FnDepthOf x1391, fun (t : Bool) => (.dat .bool t, [])⟩
  | _, _ => Ans.no

theorem laws_FnDepthOf_sound : Sound Try.prog 5 F_laws_FnDepthOf := by
  refine fn_sound' (C := laws_FnDepthOf_ctx) (c := bodyOf Try.f5) (cok_of tys_ok (List.forall_mem_cons.2 ⟨spec_DrawDepthOf_sound, List.forall_mem_cons.2 ⟨impl_DepthOf_sound, List.forall_mem_cons.2 ⟨spec_DepthOf_sound, List.forall_mem_cons.2 ⟨laws_sameInts_sound, List.forall_mem_cons.2 ⟨impl_TreeOk_sound, List.forall_mem_cons.2 ⟨laws_alive_sound, by simp⟩⟩⟩⟩⟩⟩) (List.forall_mem_cons.2 ⟨Try.call18, List.forall_mem_cons.2 ⟨Try.call17, List.forall_mem_cons.2 ⟨Try.call20, List.forall_mem_cons.2 ⟨Try.call19, List.forall_mem_cons.2 ⟨Try.call11, List.forall_mem_cons.2 ⟨Try.call13, by simp⟩⟩⟩⟩⟩⟩) (by kernel_rfl)) Try.func5 (by kernel_rfl) LL laws_FnDepthOf_an ?_
  intro avs H r H' h
  unfold F_laws_FnDepthOf at h
  split at h
  · refine Awp.cast ?_ ?_ ?_ (laws_FnDepthOf_e _ h) <;> kernel_rfl
  · simp [Ans.no, Ans.run] at h

/-! loop.example/headtrees/spec.DrawCountTrees -/

def spec_DrawCountTrees_an : Ann := (.seq (.leaf [0]) (.seq (.leaf [2]) (.leaf [2])))

noncomputable def spec_DrawCountTrees_ctx : Ctx := ⟨tlook tys, olook [(34, F_spec_l20Open), (39, F_spec_l20Rd_pick)], ioF, 0⟩

theorem spec_DrawCountTrees_n1_l (x1687 : List Int) : Link spec_DrawCountTrees_ctx LL (bodyOf Try.f21) spec_DrawCountTrees_an (⟨mkE 7 0 [(0, .dat (.list (.int .u8)) x1687)], []⟩ : St) (spec_DrawCountTrees_n1 x1687) (fun (t : Int) => (Exit.ret, (⟨mkE 7 0 [(2, .dat (.int .i64) t)], []⟩ : St))) := by
  refine Link.of fun K h => ?_
  simp only [spec_DrawCountTrees_n1, wpO_bind, wpO_cond, wpO_map, wpO_some] at h
  exact Awp.of (by kernel_rfl) h

theorem spec_DrawCountTrees_e (x1687 : List Int) {r : AV} {H' : Heap} (h : (Ans.mk _ (spec_DrawCountTrees x1687) (fun (t : Int) => (.dat (.int .i64) t, []))).run = some (r, H')) : Awp spec_DrawCountTrees_ctx LL (bodyOf Try.f21) spec_DrawCountTrees_an (⟨mkE 7 0 [(0, .dat (.list (.int .u8)) x1687)], []⟩ : St) (Ret (tlook tys) Try.f21.results.toList r H') :=
  ret_of' (spec_DrawCountTrees_n1_l x1687) (by unfold spec_DrawCountTrees; kernel_rfl) (by
  intro t
  exact ret_mk [.dat (.int .i64) t] (by kernel_rfl) (by kernel_rfl) (by kernel_rfl) (by kernel_rfl)) h

def F_spec_DrawCountTrees : Fun := fun avs H =>
  match avs, H with
  | [.dat (.list (.int .u8)) x1687], [] => ⟨_, spec_DrawCountTrees x1687, fun (t : Int) => (.dat (.int .i64) t, [])⟩
  | _, _ => Ans.no

theorem spec_DrawCountTrees_sound : Sound Try.prog 21 F_spec_DrawCountTrees := by
  refine fn_sound' (C := spec_DrawCountTrees_ctx) (c := bodyOf Try.f21) (cok_of tys_ok (List.forall_mem_cons.2 ⟨spec_l20Open_sound, List.forall_mem_cons.2 ⟨spec_l20Rd_pick_sound, by simp⟩⟩) (List.forall_mem_cons.2 ⟨Try.call34, List.forall_mem_cons.2 ⟨Try.call39, by simp⟩⟩) (by kernel_rfl)) Try.func21 (by kernel_rfl) LL spec_DrawCountTrees_an ?_
  intro avs H r H' h
  unfold F_spec_DrawCountTrees at h
  split at h
  · refine Awp.cast ?_ ?_ ?_ (spec_DrawCountTrees_e _ h) <;> kernel_rfl
  · simp [Ans.no, Ans.run] at h

/-! loop.example/headtrees/impl.CountTrees -/

def impl_CountTrees_an : Ann := (.seq (.leaf [0]) (.seq (.seq (.leaf [0, 9]) (.cond (.seq (.leaf [2]) (.leaf [2])) (.leaf [0]))) (.seq (.leaf [0, 3]) (.seq (.seq (.leaf [0, 3, 11, 12]) (.block (.loop (.seq (.leaf [0, 3, 11, 12, 13]) (.seq (.cond (.leaf [0, 3, 11, 12]) (.leaf [3])) (.seq (.block (.leaf [0, 3, 11, 12])) (.leaf [0, 3, 11, 12]))))))) (.seq (.leaf [2]) (.leaf [2]))))))

noncomputable def impl_CountTrees_ctx : Ctx := ⟨tlook tys, olook [], ioF, 0⟩

theorem impl_CountTrees_n1_l (x1703 : Int) : Link impl_CountTrees_ctx LL (Code.seq (Code.fst (bodyOf Try.f22)) (Code.seq (Code.fst (Code.snd (bodyOf Try.f22))) (Code.fst (Code.snd (Code.snd (bodyOf Try.f22)))))) (Ann.seq (Ann.fst impl_CountTrees_an) (Ann.seq (Ann.fst (Ann.snd impl_CountTrees_an)) (Ann.fst (Ann.snd (Ann.snd impl_CountTrees_an))))) (⟨mkE 19 0 [(0, .dat (.int .i64) x1703)], []⟩ : St) (impl_CountTrees_n1 x1703) (Sum.elim (fun (t : Unit) => (Exit.normal, (⟨mkE 19 0 [(0, .dat (.int .i64) x1703), (3, .dat (.int .i64) 1)], []⟩ : St))) (fun (t : Int) => (Exit.ret, (⟨mkE 19 0 [(2, .dat (.int .i64) t)], []⟩ : St)))) := by
  refine Link.of fun K h => ?_
  simp only [impl_CountTrees_n1, wpO_bind, wpO_cond, wpO_map, wpO_some] at h
  exact Awp.of (by kernel_rfl) h

theorem impl_CountTrees_n2_l (x1703 : Int) : Link impl_CountTrees_ctx LL (Code.fst (Code.fst (Code.snd (Code.snd (Code.snd (bodyOf Try.f22)))))) (Ann.fst (Ann.fst (Ann.snd (Ann.snd (Ann.snd impl_CountTrees_an))))) (⟨mkE 19 0 [(0, .dat (.int .i64) x1703), (3, .dat (.int .i64) 1)], []⟩ : St) (impl_CountTrees_n2 x1703) (fun (t : Int) => (Exit.normal, (⟨mkE 19 0 [(0, .dat (.int .i64) x1703), (3, .dat (.int .i64) 1), (11, .dat (.int .i64) t), (12, .dat (.int .i64) 0)], []⟩ : St))) := by
  refine Link.of fun K h => ?_
  simp only [impl_CountTrees_n2, wpO_bind, wpO_cond, wpO_map, wpO_some] at h
  exact Awp.of (by kernel_rfl) h

theorem impl_CountTrees_n3_l (x1703 : Int) (x1716 : Int) (x1708 : Int) (x1717 : Int) : Link impl_CountTrees_ctx LL (Code.fst (Code.fst (Code.snd (Code.fst (Code.snd (Code.snd (Code.snd (bodyOf Try.f22)))))))) (Ann.fst (Ann.fst (Ann.snd (Ann.fst (Ann.snd (Ann.snd (Ann.snd impl_CountTrees_an))))))) (⟨mkE 19 0 [(0, .dat (.int .i64) x1703), (3, .dat (.int .i64) x1716), (11, .dat (.int .i64) x1708), (12, .dat (.int .i64) x1717)], []⟩ : St) (impl_CountTrees_n3 x1703 x1716 x1708 x1717) (Sum.elim (fun (t : Int × Int) => (Exit.normal, (⟨mkE 19 0 [(0, .dat (.int .i64) x1703), (3, .dat (.int .i64) t.1), (11, .dat (.int .i64) x1708), (12, .dat (.int .i64) t.2)], []⟩ : St))) (fun (t : Int) => ((Exit.exit 0), (⟨mkE 19 0 [(3, .dat (.int .i64) t)], []⟩ : St)))) := by
  refine Link.of fun K h => ?_
  simp only [impl_CountTrees_n3, wpO_bind, wpO_cond, wpO_map, wpO_some] at h
  exact Awp.of (by kernel_rfl) h

theorem impl_CountTrees_n4_l (x1703 : Int) (x1708 : Int) : Link impl_CountTrees_ctx LL (Code.fst (Code.snd (Code.fst (Code.snd (Code.snd (Code.snd (bodyOf Try.f22))))))) (Ann.fst (Ann.snd (Ann.fst (Ann.snd (Ann.snd (Ann.snd impl_CountTrees_an)))))) (⟨mkE 19 0 [(0, .dat (.int .i64) x1703), (3, .dat (.int .i64) 1), (11, .dat (.int .i64) x1708), (12, .dat (.int .i64) 0)], []⟩ : St) (impl_CountTrees_n4 x1703 x1708) (fun (t : Int) => ((Exit.exit 0), (⟨mkE 19 0 [(3, .dat (.int .i64) t)], []⟩ : St))) := by
  unfold impl_CountTrees_n4
  exact Link.cast (by kernel_rfl) (by kernel_rfl) (link_loop (mk := fun (s : Int × Int) => (⟨mkE 19 0 [(0, .dat (.int .i64) x1703), (3, .dat (.int .i64) s.1), (11, .dat (.int .i64) x1708), (12, .dat (.int .i64) s.2)], []⟩ : St)) (fin := (fun (t : Int) => ((Exit.exit 0), (⟨mkE 19 0 [(3, .dat (.int .i64) t)], []⟩ : St)))) (by
  rintro t f K h
  · exact h) (fun s => link_map (impl_CountTrees_n3_l x1703 s.1 x1708 s.2) (Sum.elim (fun (t : Int × Int) => Sum.inl (t.1, t.2)) (fun (t : Int) => Sum.inr t)) (by
  rintro (t | t)
  · kernel_rfl
  · kernel_rfl)) (1, 0))

theorem impl_CountTrees_n5_l (x1703 : Int) (x1708 : Int) : Link impl_CountTrees_ctx LL (Code.snd (Code.fst (Code.snd (Code.snd (Code.snd (bodyOf Try.f22)))))) (Ann.snd (Ann.fst (Ann.snd (Ann.snd (Ann.snd impl_CountTrees_an))))) (⟨mkE 19 0 [(0, .dat (.int .i64) x1703), (3, .dat (.int .i64) 1), (11, .dat (.int .i64) x1708), (12, .dat (.int .i64) 0)], []⟩ : St) (impl_CountTrees_n5 x1703 x1708) (fun (t : Int) => (Exit.normal, (⟨mkE 19 0 [(3, .dat (.int .i64) t)], []⟩ : St))) := by
  unfold impl_CountTrees_n5
  exact Link.cast (by kernel_rfl) (by kernel_rfl) (link_block (id := 0) (impl_CountTrees_n4_l x1703 x1708) (fun (t : Int) => t) (by
  rintro t K h
  · exact Eq.mp (by kernel_rfl) h))

theorem impl_CountTrees_n6_l (x1703 : Int) : Link impl_CountTrees_ctx LL (Code.fst (Code.snd (Code.snd (Code.snd (bodyOf Try.f22))))) (Ann.fst (Ann.snd (Ann.snd (Ann.snd impl_CountTrees_an)))) (⟨mkE 19 0 [(0, .dat (.int .i64) x1703), (3, .dat (.int .i64) 1)], []⟩ : St) (impl_CountTrees_n6 x1703) (fun (t : Int) => (Exit.normal, (⟨mkE 19 0 [(3, .dat (.int .i64) t)], []⟩ : St))) := by
  unfold impl_CountTrees_n6
  exact Link.cast (by kernel_rfl) (by kernel_rfl) (link_seq (b := (Code.snd (Code.fst (Code.snd (Code.snd (Code.snd (bodyOf Try.f22))))))) (y := (Ann.snd (Ann.fst (Ann.snd (Ann.snd (Ann.snd impl_CountTrees_an)))))) (impl_CountTrees_n2_l x1703) (fun (t : Int) => (impl_CountTrees_n5_l x1703 t)))

theorem impl_CountTrees_n7_l (x1716 : Int) : Link impl_CountTrees_ctx LL (Code.snd (Code.snd (Code.snd (Code.snd (bodyOf Try.f22))))) (Ann.snd (Ann.snd (Ann.snd (Ann.snd impl_CountTrees_an)))) (⟨mkE 19 0 [(3, .dat (.int .i64) x1716)], []⟩ : St) (impl_CountTrees_n7 x1716) (fun (t : Int) => (Exit.ret, (⟨mkE 19 0 [(2, .dat (.int .i64) t)], []⟩ : St))) := by
  refine Link.of fun K h => ?_
  simp only [impl_CountTrees_n7, wpO_bind, wpO_cond, wpO_map, wpO_some] at h
  exact Awp.of (by kernel_rfl) h

theorem impl_CountTrees_n8_l (x1703 : Int) : Link impl_CountTrees_ctx LL (Code.snd (Code.snd (Code.snd (bodyOf Try.f22)))) (Ann.snd (Ann.snd (Ann.snd impl_CountTrees_an))) (⟨mkE 19 0 [(0, .dat (.int .i64) x1703), (3, .dat (.int .i64) 1)], []⟩ : St) (impl_CountTrees_n8 x1703) (fun (t : Int) => (Exit.ret, (⟨mkE 19 0 [(2, .dat (.int .i64) t)], []⟩ : St))) := by
  unfold impl_CountTrees_n8
  exact Link.cast (by kernel_rfl) (by kernel_rfl) (link_seq (b := (Code.snd (Code.snd (Code.snd (Code.snd (bodyOf Try.f22)))))) (y := (Ann.snd (Ann.snd (Ann.snd (Ann.snd impl_CountTrees_an))))) (impl_CountTrees_n6_l x1703) (fun (t : Int) => (impl_CountTrees_n7_l t)))

theorem impl_CountTrees_n9_l (x1703 : Int) : Link impl_CountTrees_ctx LL (bodyOf Try.f22) impl_CountTrees_an (⟨mkE 19 0 [(0, .dat (.int .i64) x1703)], []⟩ : St) (impl_CountTrees_n9 x1703) (fun (t : Int) => (Exit.ret, (⟨mkE 19 0 [(2, .dat (.int .i64) t)], []⟩ : St))) := by
  unfold impl_CountTrees_n9
  exact Link.cast (by kernel_rfl) (by kernel_rfl) (link_group (c := (Code.fst (Code.snd (Code.snd (bodyOf Try.f22))))) (a := (Ann.fst (Ann.snd (Ann.snd impl_CountTrees_an)))) [(Code.fst (bodyOf Try.f22)), (Code.fst (Code.snd (bodyOf Try.f22)))] [(Ann.fst impl_CountTrees_an), (Ann.fst (Ann.snd impl_CountTrees_an))] rfl (link_seq2 (b := (Code.snd (Code.snd (Code.snd (bodyOf Try.f22))))) (y := (Ann.snd (Ann.snd (Ann.snd impl_CountTrees_an)))) (impl_CountTrees_n1_l x1703) (fun (t : Unit) => (impl_CountTrees_n8_l x1703)) (fun (t : Int) => t) (by
  rintro t
  · kernel_rfl) (by
  rintro t f K h
  · exact h)))

theorem impl_CountTrees_e (x1703 : Int) {r : AV} {H' : Heap} (h : (Ans.mk _ (impl_CountTrees x1703) (fun (t : Int) => (.dat (.int .i64) t, []))).run = some (r, H')) : Awp impl_CountTrees_ctx LL (bodyOf Try.f22) impl_CountTrees_an (⟨mkE 19 0 [(0, .dat (.int .i64) x1703)], []⟩ : St) (Ret (tlook tys) Try.f22.results.toList r H') :=
  ret_of' (impl_CountTrees_n9_l x1703) (by unfold impl_CountTrees; kernel_rfl) (by
  intro t
  exact ret_mk [.dat (.int .i64) t] (by kernel_rfl) (by kernel_rfl) (by kernel_rfl) (by kernel_rfl)) h

def F_impl_CountTrees : Fun := fun avs H =>
  match avs, H with
  | [.dat (.int .i64) x1703], [] => ⟨_, impl_CountTrees x1703, fun (t : Int) => (.dat (.int .i64) t, [])⟩
  | _, _ => Ans.no

theorem impl_CountTrees_sound : Sound Try.prog 22 F_impl_CountTrees := by
  refine fn_sound' (C := impl_CountTrees_ctx) (c := bodyOf Try.f22) (cok_of tys_ok (by simp) (by simp) (by kernel_rfl)) Try.func22 (by kernel_rfl) LL impl_CountTrees_an ?_
  intro avs H r H' h
  unfold F_impl_CountTrees at h
  split at h
  · refine Awp.cast ?_ ?_ ?_ (impl_CountTrees_e _ h) <;> kernel_rfl
  · simp [Ans.no, Ans.run] at h

/-! loop.example/headtrees/spec.l1Power -/

def spec_l1Power_an : Ann := (.seq (.leaf [0, 1]) (.seq (.leaf [0, 1, 5]) (.seq (.seq (.leaf [0, 1, 5, 6]) (.block (.loop (.seq (.seq (.leaf [0, 1, 5, 6, 9]) (.cond (.leaf [0, 1, 5, 6]) (.leaf [5]))) (.seq (.block (.leaf [0, 1, 5, 6])) (.leaf [0, 1, 5, 6])))))) (.seq (.leaf [4]) (.leaf [4])))))

noncomputable def spec_l1Power_ctx : Ctx := ⟨tlook tys, olook [], ioF, 0⟩

theorem spec_l1Power_n1_l (x1737 : Int) (x1738 : Int) : Link spec_l1Power_ctx LL (Code.seq (Code.fst (bodyOf Try.f40)) (Code.fst (Code.snd (bodyOf Try.f40)))) (Ann.seq (Ann.fst spec_l1Power_an) (Ann.fst (Ann.snd spec_l1Power_an))) (⟨mkE 16 0 [(0, .dat (.int .i64) x1737), (1, .dat (.int .i64) x1738)], []⟩ : St) (spec_l1Power_n1) (fun (t : Unit) => (Exit.normal, (⟨mkE 16 0 [(0, .dat (.int .i64) x1737), (1, .dat (.int .i64) x1738), (5, .dat (.int .i64) 1)], []⟩ : St))) := by
  refine Link.of fun K h => ?_
  simp only [spec_l1Power_n1, wpO_bind, wpO_cond, wpO_map, wpO_some] at h
  exact Awp.of (by kernel_rfl) h

theorem spec_l1Power_n2_l (x1737 : Int) (x1738 : Int) : Link spec_l1Power_ctx LL (Code.fst (Code.fst (Code.snd (Code.snd (bodyOf Try.f40))))) (Ann.fst (Ann.fst (Ann.snd (Ann.snd spec_l1Power_an)))) (⟨mkE 16 0 [(0, .dat (.int .i64) x1737), (1, .dat (.int .i64) x1738), (5, .dat (.int .i64) 1)], []⟩ : St) (spec_l1Power_n2) (fun (t : Unit) => (Exit.normal, (⟨mkE 16 0 [(0, .dat (.int .i64) x1737), (1, .dat (.int .i64) x1738), (5, .dat (.int .i64) 1), (6, .dat (.int .i64) 0)], []⟩ : St))) := by
  refine Link.of fun K h => ?_
  simp only [spec_l1Power_n2, wpO_bind, wpO_cond, wpO_map, wpO_some] at h
  exact Awp.of (by kernel_rfl) h

theorem spec_l1Power_n3_l (x1737 : Int) (x1738 : Int) (x1745 : Int) (x1746 : Int) : Link spec_l1Power_ctx LL (Code.fst (Code.fst (Code.snd (Code.fst (Code.snd (Code.snd (bodyOf Try.f40))))))) (Ann.fst (Ann.fst (Ann.snd (Ann.fst (Ann.snd (Ann.snd spec_l1Power_an)))))) (⟨mkE 16 0 [(0, .dat (.int .i64) x1737), (1, .dat (.int .i64) x1738), (5, .dat (.int .i64) x1745), (6, .dat (.int .i64) x1746)], []⟩ : St) (spec_l1Power_n3 x1737 x1738 x1745 x1746) (Sum.elim (fun (t : Int × Int) => (Exit.normal, (⟨mkE 16 0 [(0, .dat (.int .i64) x1737), (1, .dat (.int .i64) x1738), (5, .dat (.int .i64) t.1), (6, .dat (.int .i64) t.2)], []⟩ : St))) (fun (t : Int) => ((Exit.exit 0), (⟨mkE 16 0 [(5, .dat (.int .i64) t)], []⟩ : St)))) := by
  refine Link.of fun K h => ?_
  simp only [spec_l1Power_n3, wpO_bind, wpO_cond, wpO_map, wpO_some] at h
  exact Awp.of (by kernel_rfl) h

theorem spec_l1Power_n4_l (x1737 : Int) (x1738 : Int) : Link spec_l1Power_ctx LL (Code.fst (Code.snd (Code.fst (Code.snd (Code.snd (bodyOf Try.f40)))))) (Ann.fst (Ann.snd (Ann.fst (Ann.snd (Ann.snd spec_l1Power_an))))) (⟨mkE 16 0 [(0, .dat (.int .i64) x1737), (1, .dat (.int .i64) x1738), (5, .dat (.int .i64) 1), (6, .dat (.int .i64) 0)], []⟩ : St) (spec_l1Power_n4 x1737 x1738) (fun (t : Int) => ((Exit.exit 0), (⟨mkE 16 0 [(5, .dat (.int .i64) t)], []⟩ : St))) := by
  unfold spec_l1Power_n4
  exact Link.cast (by kernel_rfl) (by kernel_rfl) (link_loop (mk := fun (s : Int × Int) => (⟨mkE 16 0 [(0, .dat (.int .i64) x1737), (1, .dat (.int .i64) x1738), (5, .dat (.int .i64) s.1), (6, .dat (.int .i64) s.2)], []⟩ : St)) (fin := (fun (t : Int) => ((Exit.exit 0), (⟨mkE 16 0 [(5, .dat (.int .i64) t)], []⟩ : St)))) (by
  rintro t f K h
  · exact h) (fun s => link_map (spec_l1Power_n3_l x1737 x1738 s.1 s.2) (Sum.elim (fun (t : Int × Int) => Sum.inl (t.1, t.2)) (fun (t : Int) => Sum.inr t)) (by
  rintro (t | t)
  · kernel_rfl
  · kernel_rfl)) (1, 0))

theorem spec_l1Power_n5_l (x1737 : Int) (x1738 : Int) : Link spec_l1Power_ctx LL (Code.snd (Code.fst (Code.snd (Code.snd (bodyOf Try.f40))))) (Ann.snd (Ann.fst (Ann.snd (Ann.snd spec_l1Power_an)))) (⟨mkE 16 0 [(0, .dat (.int .i64) x1737), (1, .dat (.int .i64) x1738), (5, .dat (.int .i64) 1), (6, .dat (.int .i64) 0)], []⟩ : St) (spec_l1Power_n5 x1737 x1738) (fun (t : Int) => (Exit.normal, (⟨mkE 16 0 [(5, .dat (.int .i64) t)], []⟩ : St))) := by
  unfold spec_l1Power_n5
  exact Link.cast (by kernel_rfl) (by kernel_rfl) (link_block (id := 0) (spec_l1Power_n4_l x1737 x1738) (fun (t : Int) => t) (by
  rintro t K h
  · exact Eq.mp (by kernel_rfl) h))

theorem spec_l1Power_n6_l (x1737 : Int) (x1738 : Int) : Link spec_l1Power_ctx LL (Code.fst (Code.snd (Code.snd (bodyOf Try.f40)))) (Ann.fst (Ann.snd (Ann.snd spec_l1Power_an))) (⟨mkE 16 0 [(0, .dat (.int .i64) x1737), (1, .dat (.int .i64) x1738), (5, .dat (.int .i64) 1)], []⟩ : St) (spec_l1Power_n6 x1737 x1738) (fun (t : Int) => (Exit.normal, (⟨mkE 16 0 [(5, .dat (.int .i64) t)], []⟩ : St))) := by
  unfold spec_l1Power_n6
  exact Link.cast (by kernel_rfl) (by kernel_rfl) (link_seq (b := (Code.snd (Code.fst (Code.snd (Code.snd (bodyOf Try.f40)))))) (y := (Ann.snd (Ann.fst (Ann.snd (Ann.snd spec_l1Power_an))))) (spec_l1Power_n2_l x1737 x1738) (fun (t : Unit) => (spec_l1Power_n5_l x1737 x1738)))

theorem spec_l1Power_n7_l (x1745 : Int) : Link spec_l1Power_ctx LL (Code.snd (Code.snd (Code.snd (bodyOf Try.f40)))) (Ann.snd (Ann.snd (Ann.snd spec_l1Power_an))) (⟨mkE 16 0 [(5, .dat (.int .i64) x1745)], []⟩ : St) (spec_l1Power_n7 x1745) (fun (t : Int) => (Exit.ret, (⟨mkE 16 0 [(4, .dat (.int .i64) t)], []⟩ : St))) := by
  refine Link.of fun K h => ?_
  simp only [spec_l1Power_n7, wpO_bind, wpO_cond, wpO_map, wpO_some] at h
  exact Awp.of (by kernel_rfl) h

theorem spec_l1Power_n8_l (x1737 : Int) (x1738 : Int) : Link spec_l1Power_ctx LL (Code.snd (Code.snd (bodyOf Try.f40))) (Ann.snd (Ann.snd spec_l1Power_an)) (⟨mkE 16 0 [(0, .dat (.int .i64) x1737), (1, .dat (.int .i64) x1738), (5, .dat (.int .i64) 1)], []⟩ : St) (spec_l1Power_n8 x1737 x1738) (fun (t : Int) => (Exit.ret, (⟨mkE 16 0 [(4, .dat (.int .i64) t)], []⟩ : St))) := by
  unfold spec_l1Power_n8
  exact Link.cast (by kernel_rfl) (by kernel_rfl) (link_seq (b := (Code.snd (Code.snd (Code.snd (bodyOf Try.f40))))) (y := (Ann.snd (Ann.snd (Ann.snd spec_l1Power_an)))) (spec_l1Power_n6_l x1737 x1738) (fun (t : Int) => (spec_l1Power_n7_l t)))

theorem spec_l1Power_n9_l (x1737 : Int) (x1738 : Int) : Link spec_l1Power_ctx LL (bodyOf Try.f40) spec_l1Power_an (⟨mkE 16 0 [(0, .dat (.int .i64) x1737), (1, .dat (.int .i64) x1738)], []⟩ : St) (spec_l1Power_n9 x1737 x1738) (fun (t : Int) => (Exit.ret, (⟨mkE 16 0 [(4, .dat (.int .i64) t)], []⟩ : St))) := by
  unfold spec_l1Power_n9
  exact Link.cast (by kernel_rfl) (by kernel_rfl) (link_group (c := (Code.fst (Code.snd (bodyOf Try.f40)))) (a := (Ann.fst (Ann.snd spec_l1Power_an))) [(Code.fst (bodyOf Try.f40))] [(Ann.fst spec_l1Power_an)] rfl (link_seq (b := (Code.snd (Code.snd (bodyOf Try.f40)))) (y := (Ann.snd (Ann.snd spec_l1Power_an))) (spec_l1Power_n1_l x1737 x1738) (fun (t : Unit) => (spec_l1Power_n8_l x1737 x1738))))

theorem spec_l1Power_e (x1737 : Int) (x1738 : Int) {r : AV} {H' : Heap} (h : (Ans.mk _ (spec_l1Power x1737 x1738) (fun (t : Int) => (.dat (.int .i64) t, []))).run = some (r, H')) : Awp spec_l1Power_ctx LL (bodyOf Try.f40) spec_l1Power_an (⟨mkE 16 0 [(0, .dat (.int .i64) x1737), (1, .dat (.int .i64) x1738)], []⟩ : St) (Ret (tlook tys) Try.f40.results.toList r H') :=
  ret_of' (spec_l1Power_n9_l x1737 x1738) (by unfold spec_l1Power; kernel_rfl) (by
  intro t
  exact ret_mk [.dat (.int .i64) t] (by kernel_rfl) (by kernel_rfl) (by kernel_rfl) (by kernel_rfl)) h

def F_spec_l1Power : Fun := fun avs H =>
  match avs, H with
  | [.dat (.int .i64) x1737, .dat (.int .i64) x1738], [] => ⟨_, spec_l1Power x1737 x1738, fun (t : Int) => (.dat (.int .i64) t, [])⟩
  | _, _ => Ans.no

theorem spec_l1Power_sound : Sound Try.prog 40 F_spec_l1Power := by
  refine fn_sound' (C := spec_l1Power_ctx) (c := bodyOf Try.f40) (cok_of tys_ok (by simp) (by simp) (by kernel_rfl)) Try.func40 (by kernel_rfl) LL spec_l1Power_an ?_
  intro avs H r H' h
  unfold F_spec_l1Power at h
  split at h
  · refine Awp.cast ?_ ?_ ?_ (spec_l1Power_e _ _ h) <;> kernel_rfl
  · simp [Ans.no, Ans.run] at h

/-! loop.example/headtrees/spec.CountTrees -/

def spec_CountTrees_an : Ann := (.seq (.leaf [0]) (.seq (.seq (.leaf [0, 5]) (.cond (.seq (.leaf [2]) (.leaf [2])) (.leaf [0]))) (.seq (.leaf [2]) (.leaf [2]))))

noncomputable def spec_CountTrees_ctx : Ctx := ⟨tlook tys, olook [(37, F_spec_l1In), (40, F_spec_l1Power)], ioF, 0⟩

theorem spec_CountTrees_n1_l (x1731 : Int) : Link spec_CountTrees_ctx LL (bodyOf Try.f23) spec_CountTrees_an (⟨mkE 10 0 [(0, .dat (.int .i64) x1731)], []⟩ : St) (spec_CountTrees_n1 x1731) (fun (t : Int) => (Exit.ret, (⟨mkE 10 0 [(2, .dat (.int .i64) t)], []⟩ : St))) := by
  refine Link.of fun K h => ?_
  simp only [spec_CountTrees_n1, wpO_bind, wpO_cond, wpO_map, wpO_some] at h
  exact Awp.of (by kernel_rfl) h

theorem spec_CountTrees_e (x1731 : Int) {r : AV} {H' : Heap} (h : (Ans.mk _ (spec_CountTrees x1731) (fun (t : Int) => (.dat (.int .i64) t, []))).run = some (r, H')) : Awp spec_CountTrees_ctx LL (bodyOf Try.f23) spec_CountTrees_an (⟨mkE 10 0 [(0, .dat (.int .i64) x1731)], []⟩ : St) (Ret (tlook tys) Try.f23.results.toList r H') :=
  ret_of' (spec_CountTrees_n1_l x1731) (by unfold spec_CountTrees; kernel_rfl) (by
  intro t
  exact ret_mk [.dat (.int .i64) t] (by kernel_rfl) (by kernel_rfl) (by kernel_rfl) (by kernel_rfl)) h

def F_spec_CountTrees : Fun := fun avs H =>
  match avs, H with
  | [.dat (.int .i64) x1731], [] => ⟨_, spec_CountTrees x1731, fun (t : Int) => (.dat (.int .i64) t, [])⟩
  | _, _ => Ans.no

theorem spec_CountTrees_sound : Sound Try.prog 23 F_spec_CountTrees := by
  refine fn_sound' (C := spec_CountTrees_ctx) (c := bodyOf Try.f23) (cok_of tys_ok (List.forall_mem_cons.2 ⟨spec_l1In_sound, List.forall_mem_cons.2 ⟨spec_l1Power_sound, by simp⟩⟩) (List.forall_mem_cons.2 ⟨Try.call37, List.forall_mem_cons.2 ⟨Try.call40, by simp⟩⟩) (by kernel_rfl)) Try.func23 (by kernel_rfl) LL spec_CountTrees_an ?_
  intro avs H r H' h
  unfold F_spec_CountTrees at h
  split at h
  · refine Awp.cast ?_ ?_ ?_ (spec_CountTrees_e _ h) <;> kernel_rfl
  · simp [Ans.no, Ans.run] at h

/-! loop.example/headtrees/laws.FnCountTrees -/

def laws_FnCountTrees_an : Ann := (.seq (.leaf [0]) (.seq (.seq (.leaf [0, 14]) (.cond (.seq (.leaf [2]) (.leaf [2])) (.leaf [0]))) (.seq (.leaf [3]) (.seq (.leaf [3, 4]) (.seq (.seq (.leaf [3, 4, 22]) (.cond (.seq (.leaf [2]) (.leaf [2])) (.leaf [3, 4]))) (.seq (.seq (.leaf [3, 4, 24]) (.cond (.seq (.leaf [2]) (.leaf [2])) (.leaf [3, 4]))) (.seq (.seq (.leaf [3, 4, 39]) (.cond (.seq (.leaf [2]) (.leaf [2])) (.leaf [3, 4]))) (.seq (.leaf [3, 4, 5]) (.seq (.leaf [3, 4, 5, 6]) (.seq (.seq (.leaf [3, 4, 5, 6, 7]) (.block (.loop (.seq (.seq (.leaf [3, 4, 5, 6, 7, 47]) (.cond (.leaf [3, 4, 5, 6, 7]) (.leaf [3, 4, 5, 6]))) (.seq (.block (.leaf [3, 4, 5, 6, 7])) (.leaf [3, 4, 5, 6, 7])))))) (.seq (.seq (.leaf [3, 4, 5, 6, 8]) (.block (.loop (.seq (.seq (.leaf [3, 4, 5, 6, 8, 56]) (.cond (.leaf [3, 4, 5, 6, 8]) (.leaf [4, 5]))) (.seq (.block (.seq (.leaf [3, 4, 5, 6, 8, 9]) (.seq (.leaf [3, 4, 5, 6, 8, 9, 10]) (.seq (.seq (.leaf [3, 4, 5, 6, 8, 9, 10, 11]) (.block (.loop (.seq (.seq (.leaf [3, 4, 5, 6, 8, 9, 10, 11, 63]) (.cond (.leaf [3, 4, 5, 6, 8, 9, 10, 11]) (.leaf [3, 4, 5, 6, 8, 9]))) (.seq (.block (.seq (.leaf [3, 4, 5, 6, 8, 9, 10, 11]) (.leaf [3, 4, 5, 6, 8, 9, 10, 11]))) (.leaf [3, 4, 5, 6, 8, 9, 10, 11])))))) (.seq (.leaf [3, 4, 5, 6, 8, 78]) (.cond (.leaf [3, 4, 5, 6, 8]) (.leaf [3, 4, 5, 6, 8]))))))) (.leaf [3, 4, 5, 6, 8])))))) (.seq (.leaf [2]) (.leaf [2])))))))))))))

noncomputable def laws_FnCountTrees_ctx : Ctx := ⟨tlook tys, olook [(21, F_spec_DrawCountTrees), (22, F_impl_CountTrees), (23, F_spec_CountTrees), (13, F_laws_alive), (11, F_impl_TreeOk)], ioF, 0⟩

theorem laws_FnCountTrees_n1_l (x1682 : List Int) : Link laws_FnCountTrees_ctx LL (Code.seq (Code.fst (bodyOf Try.f6)) (Code.seq (Code.fst (Code.snd (bodyOf Try.f6))) (Code.seq (Code.fst (Code.snd (Code.snd (bodyOf Try.f6)))) (Code.seq (Code.fst (Code.snd (Code.snd (Code.snd (bodyOf Try.f6))))) (Code.seq (Code.fst (Code.snd (Code.snd (Code.snd (Code.snd (bodyOf Try.f6)))))) (Code.seq (Code.fst (Code.snd (Code.snd (Code.snd (Code.snd (Code.snd (bodyOf Try.f6))))))) (Code.seq (Code.fst (Code.snd (Code.snd (Code.snd (Code.snd (Code.snd (Code.snd (bodyOf Try.f6)))))))) (Code.seq (Code.fst (Code.snd (Code.snd (Code.snd (Code.snd (Code.snd (Code.snd (Code.snd (bodyOf Try.f6))))))))) (Code.fst (Code.snd (Code.snd (Code.snd (Code.snd (Code.snd (Code.snd (Code.snd (Code.snd (bodyOf Try.f6)))))))))))))))))) (Ann.seq (Ann.fst laws_FnCountTrees_an) (Ann.seq (Ann.fst (Ann.snd laws_FnCountTrees_an)) (Ann.seq (Ann.fst (Ann.snd (Ann.snd laws_FnCountTrees_an))) (Ann.seq (Ann.fst (Ann.snd (Ann.snd (Ann.snd laws_FnCountTrees_an)))) (Ann.seq (Ann.fst (Ann.snd (Ann.snd (Ann.snd (Ann.snd laws_FnCountTrees_an))))) (Ann.seq (Ann.fst (Ann.snd (Ann.snd (Ann.snd (Ann.snd (Ann.snd laws_FnCountTrees_an)))))) (Ann.seq (Ann.fst (Ann.snd (Ann.snd (Ann.snd (Ann.snd (Ann.snd (Ann.snd laws_FnCountTrees_an))))))) (Ann.seq (Ann.fst (Ann.snd (Ann.snd (Ann.snd (Ann.snd (Ann.snd (Ann.snd (Ann.snd laws_FnCountTrees_an)))))))) (Ann.fst (Ann.snd (Ann.snd (Ann.snd (Ann.snd (Ann.snd (Ann.snd (Ann.snd (Ann.snd laws_FnCountTrees_an))))))))))))))))) (⟨mkE 84 0 [(0, .dat (.list (.int .u8)) x1682)], []⟩ : St) (laws_FnCountTrees_n1 x1682) (Sum.elim (fun (t : Int × Int) => (Exit.normal, (⟨mkE 84 0 [(3, .dat (.int .i64) t.1), (4, .dat (.int .i64) t.2), (5, .dat (.int .i64) 0), (6, .dat (.int .i64) 1)], []⟩ : St))) (fun (t : Bool) => (Exit.ret, (⟨mkE 84 0 [(2, .dat .bool t)], []⟩ : St)))) := by
  refine Link.of fun K h => ?_
  simp only [laws_FnCountTrees_n1, wpO_bind, wpO_cond, wpO_map, wpO_some] at h
  exact Awp.of (by kernel_rfl) h

theorem laws_FnCountTrees_n2_l (x1807 : Int) (x1808 : Int) : Link laws_FnCountTrees_ctx LL (Code.fst (Code.fst (Code.snd (Code.snd (Code.snd (Code.snd (Code.snd (Code.snd (Code.snd (Code.snd (Code.snd (bodyOf Try.f6)))))))))))) (Ann.fst (Ann.fst (Ann.snd (Ann.snd (Ann.snd (Ann.snd (Ann.snd (Ann.snd (Ann.snd (Ann.snd (Ann.snd laws_FnCountTrees_an))))))))))) (⟨mkE 84 0 [(3, .dat (.int .i64) x1807), (4, .dat (.int .i64) x1808), (5, .dat (.int .i64) 0), (6, .dat (.int .i64) 1)], []⟩ : St) (laws_FnCountTrees_n2) (fun (t : Unit) => (Exit.normal, (⟨mkE 84 0 [(3, .dat (.int .i64) x1807), (4, .dat (.int .i64) x1808), (5, .dat (.int .i64) 0), (6, .dat (.int .i64) 1), (7, .dat (.int .i64) 0)], []⟩ : St))) := by
  refine Link.of fun K h => ?_
  simp only [laws_FnCountTrees_n2, wpO_bind, wpO_cond, wpO_map, wpO_some] at h
  exact Awp.of (by kernel_rfl) h

theorem laws_FnCountTrees_n3_l (x1807 : Int) (x1808 : Int) (x1829 : Int) (x1830 : Int) : Link laws_FnCountTrees_ctx LL (Code.fst (Code.fst (Code.snd (Code.fst (Code.snd (Code.snd (Code.snd (Code.snd (Code.snd (Code.snd (Code.snd (Code.snd (Code.snd (bodyOf Try.f6)))))))))))))) (Ann.fst (Ann.fst (Ann.snd (Ann.fst (Ann.snd (Ann.snd (Ann.snd (Ann.snd (Ann.snd (Ann.snd (Ann.snd (Ann.snd (Ann.snd laws_FnCountTrees_an))))))))))))) (⟨mkE 84 0 [(3, .dat (.int .i64) x1807), (4, .dat (.int .i64) x1808), (5, .dat (.int .i64) 0), (6, .dat (.int .i64) x1829), (7, .dat (.int .i64) x1830)], []⟩ : St) (laws_FnCountTrees_n3 x1807 x1829 x1830) (Sum.elim (fun (t : Int × Int) => (Exit.normal, (⟨mkE 84 0 [(3, .dat (.int .i64) x1807), (4, .dat (.int .i64) x1808), (5, .dat (.int .i64) 0), (6, .dat (.int .i64) t.1), (7, .dat (.int .i64) t.2)], []⟩ : St))) (fun (t : Int) => ((Exit.exit 0), (⟨mkE 84 0 [(3, .dat (.int .i64) x1807), (4, .dat (.int .i64) x1808), (5, .dat (.int .i64) 0), (6, .dat (.int .i64) t)], []⟩ : St)))) := by
  refine Link.of fun K h => ?_
  simp only [laws_FnCountTrees_n3, wpO_bind, wpO_cond, wpO_map, wpO_some] at h
  exact Awp.of (by kernel_rfl) h

theorem laws_FnCountTrees_n4_l (x1807 : Int) (x1808 : Int) : Link laws_FnCountTrees_ctx LL (Code.fst (Code.snd (Code.fst (Code.snd (Code.snd (Code.snd (Code.snd (Code.snd (Code.snd (Code.snd (Code.snd (Code.snd (bodyOf Try.f6))))))))))))) (Ann.fst (Ann.snd (Ann.fst (Ann.snd (Ann.snd (Ann.snd (Ann.snd (Ann.snd (Ann.snd (Ann.snd (Ann.snd (Ann.snd laws_FnCountTrees_an)))))))))))) (⟨mkE 84 0 [(3, .dat (.int .i64) x1807), (4, .dat (.int .i64) x1808), (5, .dat (.int .i64) 0), (6, .dat (.int .i64) 1), (7, .dat (.int .i64) 0)], []⟩ : St) (laws_FnCountTrees_n4 x1807) (fun (t : Int) => ((Exit.exit 0), (⟨mkE 84 0 [(3, .dat (.int .i64) x1807), (4, .dat (.int .i64) x1808), (5, .dat (.int .i64) 0), (6, .dat (.int .i64) t)], []⟩ : St))) := by
  unfold laws_FnCountTrees_n4
  exact Link.cast (by kernel_rfl) (by kernel_rfl) (link_loop (mk := fun (s : Int × Int) => (⟨mkE 84 0 [(3, .dat (.int .i64) x1807), (4, .dat (.int .i64) x1808), (5, .dat (.int .i64) 0), (6, .dat (.int .i64) s.1), (7, .dat (.int .i64) s.2)], []⟩ : St)) (fin := (fun (t : Int) => ((Exit.exit 0), (⟨mkE 84 0 [(3, .dat (.int .i64) x1807), (4, .dat (.int .i64) x1808), (5, .dat (.int .i64) 0), (6, .dat (.int .i64) t)], []⟩ : St)))) (by
  rintro t f K h
  · exact h) (fun s => link_map (laws_FnCountTrees_n3_l x1807 x1808 s.1 s.2) (Sum.elim (fun (t : Int × Int) => Sum.inl (t.1, t.2)) (fun (t : Int) => Sum.inr t)) (by
  rintro (t | t)
  · kernel_rfl
  · kernel_rfl)) (1, 0))

theorem laws_FnCountTrees_n5_l (x1807 : Int) (x1808 : Int) : Link laws_FnCountTrees_ctx LL (Code.snd (Code.fst (Code.snd (Code.snd (Code.snd (Code.snd (Code.snd (Code.snd (Code.snd (Code.snd (Code.snd (bodyOf Try.f6)))))))))))) (Ann.snd (Ann.fst (Ann.snd (Ann.snd (Ann.snd (Ann.snd (Ann.snd (Ann.snd (Ann.snd (Ann.snd (Ann.snd laws_FnCountTrees_an))))))))))) (⟨mkE 84 0 [(3, .dat (.int .i64) x1807), (4, .dat (.int .i64) x1808), (5, .dat (.int .i64) 0), (6, .dat (.int .i64) 1), (7, .dat (.int .i64) 0)], []⟩ : St) (laws_FnCountTrees_n5 x1807) (fun (t : Int) => (Exit.normal, (⟨mkE 84 0 [(3, .dat (.int .i64) x1807), (4, .dat (.int .i64) x1808), (5, .dat (.int .i64) 0), (6, .dat (.int .i64) t)], []⟩ : St))) := by
  unfold laws_FnCountTrees_n5
  exact Link.cast (by kernel_rfl) (by kernel_rfl) (link_block (id := 0) (laws_FnCountTrees_n4_l x1807 x1808) (fun (t : Int) => t) (by
  rintro t K h
  · exact Eq.mp (by kernel_rfl) h))

theorem laws_FnCountTrees_n6_l (x1807 : Int) (x1808 : Int) : Link laws_FnCountTrees_ctx LL (Code.fst (Code.snd (Code.snd (Code.snd (Code.snd (Code.snd (Code.snd (Code.snd (Code.snd (Code.snd (bodyOf Try.f6))))))))))) (Ann.fst (Ann.snd (Ann.snd (Ann.snd (Ann.snd (Ann.snd (Ann.snd (Ann.snd (Ann.snd (Ann.snd laws_FnCountTrees_an)))))))))) (⟨mkE 84 0 [(3, .dat (.int .i64) x1807), (4, .dat (.int .i64) x1808), (5, .dat (.int .i64) 0), (6, .dat (.int .i64) 1)], []⟩ : St) (laws_FnCountTrees_n6 x1807) (fun (t : Int) => (Exit.normal, (⟨mkE 84 0 [(3, .dat (.int .i64) x1807), (4, .dat (.int .i64) x1808), (5, .dat (.int .i64) 0), (6, .dat (.int .i64) t)], []⟩ : St))) := by
  unfold laws_FnCountTrees_n6
  exact Link.cast (by kernel_rfl) (by kernel_rfl) (link_seq (b := (Code.snd (Code.fst (Code.snd (Code.snd (Code.snd (Code.snd (Code.snd (Code.snd (Code.snd (Code.snd (Code.snd (bodyOf Try.f6))))))))))))) (y := (Ann.snd (Ann.fst (Ann.snd (Ann.snd (Ann.snd (Ann.snd (Ann.snd (Ann.snd (Ann.snd (Ann.snd (Ann.snd laws_FnCountTrees_an)))))))))))) (laws_FnCountTrees_n2_l x1807 x1808) (fun (t : Unit) => (laws_FnCountTrees_n5_l x1807 x1808)))

theorem laws_FnCountTrees_n7_l (x1807 : Int) (x1808 : Int) (x1829 : Int) : Link laws_FnCountTrees_ctx LL (Code.fst (Code.fst (Code.snd (Code.snd (Code.snd (Code.snd (Code.snd (Code.snd (Code.snd (Code.snd (Code.snd (Code.snd (bodyOf Try.f6))))))))))))) (Ann.fst (Ann.fst (Ann.snd (Ann.snd (Ann.snd (Ann.snd (Ann.snd (Ann.snd (Ann.snd (Ann.snd (Ann.snd (Ann.snd laws_FnCountTrees_an)))))))))))) (⟨mkE 84 0 [(3, .dat (.int .i64) x1807), (4, .dat (.int .i64) x1808), (5, .dat (.int .i64) 0), (6, .dat (.int .i64) x1829)], []⟩ : St) (laws_FnCountTrees_n7) (fun (t : Unit) => (Exit.normal, (⟨mkE 84 0 [(3, .dat (.int .i64) x1807), (4, .dat (.int .i64) x1808), (5, .dat (.int .i64) 0), (6, .dat (.int .i64) x1829), (8, .dat (.int .i64) 0)], []⟩ : St))) := by
  refine Link.of fun K h => ?_
  simp only [laws_FnCountTrees_n7, wpO_bind, wpO_cond, wpO_map, wpO_some] at h
  exact Awp.of (by kernel_rfl) h

theorem laws_FnCountTrees_n8_l (x1807 : Int) (x1808 : Int) (x1888 : Int) (x1829 : Int) (x1889 : Int) : Link laws_FnCountTrees_ctx LL (Code.fst (Code.fst (Code.fst (Code.snd (Code.fst (Code.snd (Code.snd (Code.snd (Code.snd (Code.snd (Code.snd (Code.snd (Code.snd (Code.snd (Code.snd (bodyOf Try.f6)))))))))))))))) (Ann.fst (Ann.fst (Ann.fst (Ann.snd (Ann.fst (Ann.snd (Ann.snd (Ann.snd (Ann.snd (Ann.snd (Ann.snd (Ann.snd (Ann.snd (Ann.snd (Ann.snd laws_FnCountTrees_an))))))))))))))) (⟨mkE 84 0 [(3, .dat (.int .i64) x1807), (4, .dat (.int .i64) x1808), (5, .dat (.int .i64) x1888), (6, .dat (.int .i64) x1829), (8, .dat (.int .i64) x1889)], []⟩ : St) (laws_FnCountTrees_n8 x1888 x1829 x1889) (Sum.elim (fun (t : Unit) => (Exit.normal, (⟨mkE 84 0 [(3, .dat (.int .i64) x1807), (4, .dat (.int .i64) x1808), (5, .dat (.int .i64) x1888), (6, .dat (.int .i64) x1829), (8, .dat (.int .i64) x1889)], []⟩ : St))) (fun (t : Int) => ((Exit.exit 2), (⟨mkE 84 0 [(4, .dat (.int .i64) x1808), (5, .dat (.int .i64) t)], []⟩ : St)))) := by
  refine Link.of fun K h => ?_
  simp only [laws_FnCountTrees_n8, wpO_bind, wpO_cond, wpO_map, wpO_some] at h
  exact Awp.of (by kernel_rfl) h

theorem laws_FnCountTrees_n9_l (x1807 : Int) (x1808 : Int) (x1888 : Int) (x1829 : Int) (x1889 : Int) : Link laws_FnCountTrees_ctx LL (Code.seq (Code.fst (Code.fst (Code.fst (Code.snd (Code.fst (Code.fst (Code.snd (Code.fst (Code.snd (Code.snd (Code.snd (Code.snd (Code.snd (Code.snd (Code.snd (Code.snd (Code.snd (Code.snd (bodyOf Try.f6))))))))))))))))))) (Code.fst (Code.snd (Code.fst (Code.fst (Code.snd (Code.fst (Code.fst (Code.snd (Code.fst (Code.snd (Code.snd (Code.snd (Code.snd (Code.snd (Code.snd (Code.snd (Code.snd (Code.snd (Code.snd (bodyOf Try.f6))))))))))))))))))))) (Ann.seq (Ann.fst (Ann.fst (Ann.fst (Ann.snd (Ann.fst (Ann.fst (Ann.snd (Ann.fst (Ann.snd (Ann.snd (Ann.snd (Ann.snd (Ann.snd (Ann.snd (Ann.snd (Ann.snd (Ann.snd (Ann.snd laws_FnCountTrees_an)))))))))))))))))) (Ann.fst (Ann.snd (Ann.fst (Ann.fst (Ann.snd (Ann.fst (Ann.fst (Ann.snd (Ann.fst (Ann.snd (Ann.snd (Ann.snd (Ann.snd (Ann.snd (Ann.snd (Ann.snd (Ann.snd (Ann.snd (Ann.snd laws_FnCountTrees_an)))))))))))))))))))) (⟨mkE 84 0 [(3, .dat (.int .i64) x1807), (4, .dat (.int .i64) x1808), (5, .dat (.int .i64) x1888), (6, .dat (.int .i64) x1829), (8, .dat (.int .i64) x1889)], []⟩ : St) (laws_FnCountTrees_n9) (fun (t : Unit) => (Exit.normal, (⟨mkE 84 0 [(3, .dat (.int .i64) x1807), (4, .dat (.int .i64) x1808), (5, .dat (.int .i64) x1888), (6, .dat (.int .i64) x1829), (8, .dat (.int .i64) x1889), (9, .slc 0), (10, .dat (.int .i64) x1889)], [some (.seq (.int .i64) ([] : List Int))]⟩ : St))) := by
  refine Link.of fun K h => ?_
  simp only [laws_FnCountTrees_n9, wpO_bind, wpO_cond, wpO_map, wpO_some] at h
  exact Awp.of (by kernel_rfl) h

theorem laws_FnCountTrees_n10_l (x1807 : Int) (x1808 : Int) (x1888 : Int) (x1829 : Int) (x1889 : Int) : Link laws_FnCountTrees_ctx LL (Code.fst (Code.fst (Code.snd (Code.snd (Code.fst (Code.fst (Code.snd (Code.fst (Code.fst (Code.snd (Code.fst (Code.snd (Code.snd (Code.snd (Code.snd (Code.snd (Code.snd (Code.snd (Code.snd (Code.snd (Code.snd (bodyOf Try.f6)))))))))))))))))))))) (Ann.fst (Ann.fst (Ann.snd (Ann.snd (Ann.fst (Ann.fst (Ann.snd (Ann.fst (Ann.fst (Ann.snd (Ann.fst (Ann.snd (Ann.snd (Ann.snd (Ann.snd (Ann.snd (Ann.snd (Ann.snd (Ann.snd (Ann.snd (Ann.snd laws_FnCountTrees_an))))))))))))))))))))) (⟨mkE 84 0 [(3, .dat (.int .i64) x1807), (4, .dat (.int .i64) x1808), (5, .dat (.int .i64) x1888), (6, .dat (.int .i64) x1829), (8, .dat (.int .i64) x1889), (9, .slc 0), (10, .dat (.int .i64) x1889)], [some (.seq (.int .i64) ([] : List Int))]⟩ : St) (laws_FnCountTrees_n10) (fun (t : Unit) => (Exit.normal, (⟨mkE 84 0 [(3, .dat (.int .i64) x1807), (4, .dat (.int .i64) x1808), (5, .dat (.int .i64) x1888), (6, .dat (.int .i64) x1829), (8, .dat (.int .i64) x1889), (9, .slc 0), (10, .dat (.int .i64) x1889), (11, .dat (.int .i64) 0)], [some (.seq (.int .i64) ([] : List Int))]⟩ : St))) := by
  refine Link.of fun K h => ?_
  simp only [laws_FnCountTrees_n10, wpO_bind, wpO_cond, wpO_map, wpO_some] at h
  exact Awp.of (by kernel_rfl) h

theorem laws_FnCountTrees_n11_l (x1807 : Int) (x1808 : Int) (x1888 : Int) (x1829 : Int) (x1889 : Int) (x1911 : Int) (x1912 : Int) (x1913 : List Int) : Link laws_FnCountTrees_ctx LL (Code.fst (Code.fst (Code.snd (Code.fst (Code.snd (Code.snd (Code.fst (Code.fst (Code.snd (Code.fst (Code.fst (Code.snd (Code.fst (Code.snd (Code.snd (Code.snd (Code.snd (Code.snd (Code.snd (Code.snd (Code.snd (Code.snd (Code.snd (bodyOf Try.f6)))))))))))))))))))))))) (Ann.fst (Ann.fst (Ann.snd (Ann.fst (Ann.snd (Ann.snd (Ann.fst (Ann.fst (Ann.snd (Ann.fst (Ann.fst (Ann.snd (Ann.fst (Ann.snd (Ann.snd (Ann.snd (Ann.snd (Ann.snd (Ann.snd (Ann.snd (Ann.snd (Ann.snd (Ann.snd laws_FnCountTrees_an))))))))))))))))))))))) (⟨mkE 84 0 [(3, .dat (.int .i64) x1807), (4, .dat (.int .i64) x1808), (5, .dat (.int .i64) x1888), (6, .dat (.int .i64) x1829), (8, .dat (.int .i64) x1889), (9, .slc 0), (10, .dat (.int .i64) x1911), (11, .dat (.int .i64) x1912)], [some (.seq (.int .i64) x1913)]⟩ : St) (laws_FnCountTrees_n11 x1807 x1911 x1912 x1913) (Sum.elim (fun (t : Int × Int × (List Int)) => (Exit.normal, (⟨mkE 84 0 [(3, .dat (.int .i64) x1807), (4, .dat (.int .i64) x1808), (5, .dat (.int .i64) x1888), (6, .dat (.int .i64) x1829), (8, .dat (.int .i64) x1889), (9, .slc 0), (10, .dat (.int .i64) t.1), (11, .dat (.int .i64) t.2.1)], [some (.seq (.int .i64) t.2.2)]⟩ : St))) (fun (t : (List Int)) => ((Exit.exit 4), (⟨mkE 84 0 [(3, .dat (.int .i64) x1807), (4, .dat (.int .i64) x1808), (5, .dat (.int .i64) x1888), (6, .dat (.int .i64) x1829), (8, .dat (.int .i64) x1889), (9, .slc 0)], [some (.seq (.int .i64) t)]⟩ : St)))) := by
  refine Link.of fun K h => ?_
  simp only [laws_FnCountTrees_n11, wpO_bind, wpO_cond, wpO_map, wpO_some] at h
  exact Awp.of (by kernel_rfl) h

theorem laws_FnCountTrees_n12_l (x1807 : Int) (x1808 : Int) (x1888 : Int) (x1829 : Int) (x1889 : Int) : Link laws_FnCountTrees_ctx LL (Code.fst (Code.snd (Code.fst (Code.snd (Code.snd (Code.fst (Code.fst (Code.snd (Code.fst (Code.fst (Code.snd (Code.fst (Code.snd (Code.snd (Code.snd (Code.snd (Code.snd (Code.snd (Code.snd (Code.snd (Code.snd (Code.snd (bodyOf Try.f6))))))))))))))))))))))) (Ann.fst (Ann.snd (Ann.fst (Ann.snd (Ann.snd (Ann.fst (Ann.fst (Ann.snd (Ann.fst (Ann.fst (Ann.snd (Ann.fst (Ann.snd (Ann.snd (Ann.snd (Ann.snd (Ann.snd (Ann.snd (Ann.snd (Ann.snd (Ann.snd (Ann.snd laws_FnCountTrees_an)))))))))))))))))))))) (⟨mkE 84 0 [(3, .dat (.int .i64) x1807), (4, .dat (.int .i64) x1808), (5, .dat (.int .i64) x1888), (6, .dat (.int .i64) x1829), (8, .dat (.int .i64) x1889), (9, .slc 0), (10, .dat (.int .i64) x1889), (11, .dat (.int .i64) 0)], [some (.seq (.int .i64) ([] : List Int))]⟩ : St) (laws_FnCountTrees_n12 x1807 x1889) (fun (t : (List Int)) => ((Exit.exit 4), (⟨mkE 84 0 [(3, .dat (.int .i64) x1807), (4, .dat (.int .i64) x1808), (5, .dat (.int .i64) x1888), (6, .dat (.int .i64) x1829), (8, .dat (.int .i64) x1889), (9, .slc 0)], [some (.seq (.int .i64) t)]⟩ : St))) := by
  unfold laws_FnCountTrees_n12
  exact Link.cast (by kernel_rfl) (by kernel_rfl) (link_loop (mk := fun (s : Int × Int × (List Int)) => (⟨mkE 84 0 [(3, .dat (.int .i64) x1807), (4, .dat (.int .i64) x1808), (5, .dat (.int .i64) x1888), (6, .dat (.int .i64) x1829), (8, .dat (.int .i64) x1889), (9, .slc 0), (10, .dat (.int .i64) s.1), (11, .dat (.int .i64) s.2.1)], [some (.seq (.int .i64) s.2.2)]⟩ : St)) (fin := (fun (t : (List Int)) => ((Exit.exit 4), (⟨mkE 84 0 [(3, .dat (.int .i64) x1807), (4, .dat (.int .i64) x1808), (5, .dat (.int .i64) x1888), (6, .dat (.int .i64) x1829), (8, .dat (.int .i64) x1889), (9, .slc 0)], [some (.seq (.int .i64) t)]⟩ : St)))) (by
  rintro t f K h
  · exact h) (fun s => link_map (laws_FnCountTrees_n11_l x1807 x1808 x1888 x1829 x1889 s.1 s.2.1 s.2.2) (Sum.elim (fun (t : Int × Int × (List Int)) => Sum.inl (t.1, t.2.1, t.2.2)) (fun (t : (List Int)) => Sum.inr t)) (by
  rintro (t | t)
  · kernel_rfl
  · kernel_rfl)) (x1889, 0, ([] : List Int)))

theorem laws_FnCountTrees_n13_l (x1807 : Int) (x1808 : Int) (x1888 : Int) (x1829 : Int) (x1889 : Int) : Link laws_FnCountTrees_ctx LL (Code.snd (Code.fst (Code.snd (Code.snd (Code.fst (Code.fst (Code.snd (Code.fst (Code.fst (Code.snd (Code.fst (Code.snd (Code.snd (Code.snd (Code.snd (Code.snd (Code.snd (Code.snd (Code.snd (Code.snd (Code.snd (bodyOf Try.f6)))))))))))))))))))))) (Ann.snd (Ann.fst (Ann.snd (Ann.snd (Ann.fst (Ann.fst (Ann.snd (Ann.fst (Ann.fst (Ann.snd (Ann.fst (Ann.snd (Ann.snd (Ann.snd (Ann.snd (Ann.snd (Ann.snd (Ann.snd (Ann.snd (Ann.snd (Ann.snd laws_FnCountTrees_an))))))))))))))))))))) (⟨mkE 84 0 [(3, .dat (.int .i64) x1807), (4, .dat (.int .i64) x1808), (5, .dat (.int .i64) x1888), (6, .dat (.int .i64) x1829), (8, .dat (.int .i64) x1889), (9, .slc 0), (10, .dat (.int .i64) x1889), (11, .dat (.int .i64) 0)], [some (.seq (.int .i64) ([] : List Int))]⟩ : St) (laws_FnCountTrees_n13 x1807 x1889) (fun (t : (List Int)) => (Exit.normal, (⟨mkE 84 0 [(3, .dat (.int .i64) x1807), (4, .dat (.int .i64) x1808), (5, .dat (.int .i64) x1888), (6, .dat (.int .i64) x1829), (8, .dat (.int .i64) x1889), (9, .slc 0)], [some (.seq (.int .i64) t)]⟩ : St))) := by
  unfold laws_FnCountTrees_n13
  exact Link.cast (by kernel_rfl) (by kernel_rfl) (link_block (id := 4) (laws_FnCountTrees_n12_l x1807 x1808 x1888 x1829 x1889) (fun (t : (List Int)) => t) (by
  rintro t K h
  · exact Eq.mp (by kernel_rfl) h))

theorem laws_FnCountTrees_n14_l (x1807 : Int) (x1808 : Int) (x1888 : Int) (x1829 : Int) (x1889 : Int) : Link laws_FnCountTrees_ctx LL (Code.fst (Code.snd (Code.snd (Code.fst (Code.fst (Code.snd (Code.fst (Code.fst (Code.snd (Code.fst (Code.snd (Code.snd (Code.snd (Code.snd (Code.snd (Code.snd (Code.snd (Code.snd (Code.snd (Code.snd (bodyOf Try.f6))))))))))))))))))))) (Ann.fst (Ann.snd (Ann.snd (Ann.fst (Ann.fst (Ann.snd (Ann.fst (Ann.fst (Ann.snd (Ann.fst (Ann.snd (Ann.snd (Ann.snd (Ann.snd (Ann.snd (Ann.snd (Ann.snd (Ann.snd (Ann.snd (Ann.snd laws_FnCountTrees_an)))))))))))))))))))) (⟨mkE 84 0 [(3, .dat (.int .i64) x1807), (4, .dat (.int .i64) x1808), (5, .dat (.int .i64) x1888), (6, .dat (.int .i64) x1829), (8, .dat (.int .i64) x1889), (9, .slc 0), (10, .dat (.int .i64) x1889)], [some (.seq (.int .i64) ([] : List Int))]⟩ : St) (laws_FnCountTrees_n14 x1807 x1889) (fun (t : (List Int)) => (Exit.normal, (⟨mkE 84 0 [(3, .dat (.int .i64) x1807), (4, .dat (.int .i64) x1808), (5, .dat (.int .i64) x1888), (6, .dat (.int .i64) x1829), (8, .dat (.int .i64) x1889), (9, .slc 0)], [some (.seq (.int .i64) t)]⟩ : St))) := by
  unfold laws_FnCountTrees_n14
  exact Link.cast (by kernel_rfl) (by kernel_rfl) (link_seq (b := (Code.snd (Code.fst (Code.snd (Code.snd (Code.fst (Code.fst (Code.snd (Code.fst (Code.fst (Code.snd (Code.fst (Code.snd (Code.snd (Code.snd (Code.snd (Code.snd (Code.snd (Code.snd (Code.snd (Code.snd (Code.snd (bodyOf Try.f6))))))))))))))))))))))) (y := (Ann.snd (Ann.fst (Ann.snd (Ann.snd (Ann.fst (Ann.fst (Ann.snd (Ann.fst (Ann.fst (Ann.snd (Ann.fst (Ann.snd (Ann.snd (Ann.snd (Ann.snd (Ann.snd (Ann.snd (Ann.snd (Ann.snd (Ann.snd (Ann.snd laws_FnCountTrees_an)))))))))))))))))))))) (laws_FnCountTrees_n10_l x1807 x1808 x1888 x1829 x1889) (fun (t : Unit) => (laws_FnCountTrees_n13_l x1807 x1808 x1888 x1829 x1889)))

theorem laws_FnCountTrees_n15_l (x1807 : Int) (x1808 : Int) (x1888 : Int) (x1829 : Int) (x1889 : Int) (x1913 : List Int) : Link laws_FnCountTrees_ctx LL (Code.snd (Code.snd (Code.snd (Code.fst (Code.fst (Code.snd (Code.fst (Code.fst (Code.snd (Code.fst (Code.snd (Code.snd (Code.snd (Code.snd (Code.snd (Code.snd (Code.snd (Code.snd (Code.snd (Code.snd (bodyOf Try.f6))))))))))))))))))))) (Ann.snd (Ann.snd (Ann.snd (Ann.fst (Ann.fst (Ann.snd (Ann.fst (Ann.fst (Ann.snd (Ann.fst (Ann.snd (Ann.snd (Ann.snd (Ann.snd (Ann.snd (Ann.snd (Ann.snd (Ann.snd (Ann.snd (Ann.snd laws_FnCountTrees_an)))))))))))))))))))) (⟨mkE 84 0 [(3, .dat (.int .i64) x1807), (4, .dat (.int .i64) x1808), (5, .dat (.int .i64) x1888), (6, .dat (.int .i64) x1829), (8, .dat (.int .i64) x1889), (9, .slc 0)], [some (.seq (.int .i64) x1913)]⟩ : St) (laws_FnCountTrees_n15 x1888 x1913) (fun (t : Int) => (Exit.normal, (⟨mkE 84 0 [(3, .dat (.int .i64) x1807), (4, .dat (.int .i64) x1808), (5, .dat (.int .i64) t), (6, .dat (.int .i64) x1829), (8, .dat (.int .i64) x1889)], []⟩ : St))) := by
  refine Link.of fun K h => ?_
  simp only [laws_FnCountTrees_n15, wpO_bind, wpO_cond, wpO_map, wpO_some] at h
  exact Awp.of (by kernel_rfl) h

theorem laws_FnCountTrees_n16_l (x1807 : Int) (x1808 : Int) (x1888 : Int) (x1829 : Int) (x1889 : Int) : Link laws_FnCountTrees_ctx LL (Code.snd (Code.snd (Code.fst (Code.fst (Code.snd (Code.fst (Code.fst (Code.snd (Code.fst (Code.snd (Code.snd (Code.snd (Code.snd (Code.snd (Code.snd (Code.snd (Code.snd (Code.snd (Code.snd (bodyOf Try.f6)))))))))))))))))))) (Ann.snd (Ann.snd (Ann.fst (Ann.fst (Ann.snd (Ann.fst (Ann.fst (Ann.snd (Ann.fst (Ann.snd (Ann.snd (Ann.snd (Ann.snd (Ann.snd (Ann.snd (Ann.snd (Ann.snd (Ann.snd (Ann.snd laws_FnCountTrees_an))))))))))))))))))) (⟨mkE 84 0 [(3, .dat (.int .i64) x1807), (4, .dat (.int .i64) x1808), (5, .dat (.int .i64) x1888), (6, .dat (.int .i64) x1829), (8, .dat (.int .i64) x1889), (9, .slc 0), (10, .dat (.int .i64) x1889)], [some (.seq (.int .i64) ([] : List Int))]⟩ : St) (laws_FnCountTrees_n16 x1807 x1888 x1889) (fun (t : Int) => (Exit.normal, (⟨mkE 84 0 [(3, .dat (.int .i64) x1807), (4, .dat (.int .i64) x1808), (5, .dat (.int .i64) t), (6, .dat (.int .i64) x1829), (8, .dat (.int .i64) x1889)], []⟩ : St))) := by
  unfold laws_FnCountTrees_n16
  exact Link.cast (by kernel_rfl) (by kernel_rfl) (link_seq (b := (Code.snd (Code.snd (Code.snd (Code.fst (Code.fst (Code.snd (Code.fst (Code.fst (Code.snd (Code.fst (Code.snd (Code.snd (Code.snd (Code.snd (Code.snd (Code.snd (Code.snd (Code.snd (Code.snd (Code.snd (bodyOf Try.f6)))))))))))))))))))))) (y := (Ann.snd (Ann.snd (Ann.snd (Ann.fst (Ann.fst (Ann.snd (Ann.fst (Ann.fst (Ann.snd (Ann.fst (Ann.snd (Ann.snd (Ann.snd (Ann.snd (Ann.snd (Ann.snd (Ann.snd (Ann.snd (Ann.snd (Ann.snd laws_FnCountTrees_an))))))))))))))))))))) (laws_FnCountTrees_n14_l x1807 x1808 x1888 x1829 x1889) (fun (t : (List Int)) => (laws_FnCountTrees_n15_l x1807 x1808 x1888 x1829 x1889 t)))

theorem laws_FnCountTrees_n17_l (x1807 : Int) (x1808 : Int) (x1888 : Int) (x1829 : Int) (x1889 : Int) : Link laws_FnCountTrees_ctx LL (Code.fst (Code.fst (Code.snd (Code.fst (Code.fst (Code.snd (Code.fst (Code.snd (Code.snd (Code.snd (Code.snd (Code.snd (Code.snd (Code.snd (Code.snd (Code.snd (Code.snd (bodyOf Try.f6)))))))))))))))))) (Ann.fst (Ann.fst (Ann.snd (Ann.fst (Ann.fst (Ann.snd (Ann.fst (Ann.snd (Ann.snd (Ann.snd (Ann.snd (Ann.snd (Ann.snd (Ann.snd (Ann.snd (Ann.snd (Ann.snd laws_FnCountTrees_an))))))))))))))))) (⟨mkE 84 0 [(3, .dat (.int .i64) x1807), (4, .dat (.int .i64) x1808), (5, .dat (.int .i64) x1888), (6, .dat (.int .i64) x1829), (8, .dat (.int .i64) x1889)], []⟩ : St) (laws_FnCountTrees_n17 x1807 x1888 x1889) (fun (t : Int) => (Exit.normal, (⟨mkE 84 0 [(3, .dat (.int .i64) x1807), (4, .dat (.int .i64) x1808), (5, .dat (.int .i64) t), (6, .dat (.int .i64) x1829), (8, .dat (.int .i64) x1889)], []⟩ : St))) := by
  unfold laws_FnCountTrees_n17
  exact Link.cast (by kernel_rfl) (by kernel_rfl) (link_group (c := (Code.fst (Code.snd (Code.fst (Code.fst (Code.snd (Code.fst (Code.fst (Code.snd (Code.fst (Code.snd (Code.snd (Code.snd (Code.snd (Code.snd (Code.snd (Code.snd (Code.snd (Code.snd (Code.snd (bodyOf Try.f6))))))))))))))))))))) (a := (Ann.fst (Ann.snd (Ann.fst (Ann.fst (Ann.snd (Ann.fst (Ann.fst (Ann.snd (Ann.fst (Ann.snd (Ann.snd (Ann.snd (Ann.snd (Ann.snd (Ann.snd (Ann.snd (Ann.snd (Ann.snd (Ann.snd laws_FnCountTrees_an)))))))))))))))))))) [(Code.fst (Code.fst (Code.fst (Code.snd (Code.fst (Code.fst (Code.snd (Code.fst (Code.snd (Code.snd (Code.snd (Code.snd (Code.snd (Code.snd (Code.snd (Code.snd (Code.snd (Code.snd (bodyOf Try.f6)))))))))))))))))))] [(Ann.fst (Ann.fst (Ann.fst (Ann.snd (Ann.fst (Ann.fst (Ann.snd (Ann.fst (Ann.snd (Ann.snd (Ann.snd (Ann.snd (Ann.snd (Ann.snd (Ann.snd (Ann.snd (Ann.snd (Ann.snd laws_FnCountTrees_an))))))))))))))))))] rfl (link_seq (b := (Code.snd (Code.snd (Code.fst (Code.fst (Code.snd (Code.fst (Code.fst (Code.snd (Code.fst (Code.snd (Code.snd (Code.snd (Code.snd (Code.snd (Code.snd (Code.snd (Code.snd (Code.snd (Code.snd (bodyOf Try.f6))))))))))))))))))))) (y := (Ann.snd (Ann.snd (Ann.fst (Ann.fst (Ann.snd (Ann.fst (Ann.fst (Ann.snd (Ann.fst (Ann.snd (Ann.snd (Ann.snd (Ann.snd (Ann.snd (Ann.snd (Ann.snd (Ann.snd (Ann.snd (Ann.snd laws_FnCountTrees_an)))))))))))))))))))) (laws_FnCountTrees_n9_l x1807 x1808 x1888 x1829 x1889) (fun (t : Unit) => (laws_FnCountTrees_n16_l x1807 x1808 x1888 x1829 x1889))))

theorem laws_FnCountTrees_n18_l (x1807 : Int) (x1808 : Int) (x1888 : Int) (x1829 : Int) (x1889 : Int) : Link laws_FnCountTrees_ctx LL (Code.fst (Code.snd (Code.fst (Code.fst (Code.snd (Code.fst (Code.snd (Code.snd (Code.snd (Code.snd (Code.snd (Code.snd (Code.snd (Code.snd (Code.snd (Code.snd (bodyOf Try.f6))))))))))))))))) (Ann.fst (Ann.snd (Ann.fst (Ann.fst (Ann.snd (Ann.fst (Ann.snd (Ann.snd (Ann.snd (Ann.snd (Ann.snd (Ann.snd (Ann.snd (Ann.snd (Ann.snd (Ann.snd laws_FnCountTrees_an)))))))))))))))) (⟨mkE 84 0 [(3, .dat (.int .i64) x1807), (4, .dat (.int .i64) x1808), (5, .dat (.int .i64) x1888), (6, .dat (.int .i64) x1829), (8, .dat (.int .i64) x1889)], []⟩ : St) (laws_FnCountTrees_n18 x1807 x1888 x1889) (fun (t : Int) => (Exit.normal, (⟨mkE 84 0 [(3, .dat (.int .i64) x1807), (4, .dat (.int .i64) x1808), (5, .dat (.int .i64) t), (6, .dat (.int .i64) x1829), (8, .dat (.int .i64) x1889)], []⟩ : St))) := by
  unfold laws_FnCountTrees_n18
  exact Link.cast (by kernel_rfl) (by kernel_rfl) (link_block (id := 3) (laws_FnCountTrees_n17_l x1807 x1808 x1888 x1829 x1889) (fun (t : Int) => t) (by
  rintro t K h
  · exact Eq.mp (by kernel_rfl) h))

theorem laws_FnCountTrees_n19_l (x1807 : Int) (x1808 : Int) (x1937 : Int) (x1829 : Int) (x1889 : Int) : Link laws_FnCountTrees_ctx LL (Code.snd (Code.snd (Code.fst (Code.fst (Code.snd (Code.fst (Code.snd (Code.snd (Code.snd (Code.snd (Code.snd (Code.snd (Code.snd (Code.snd (Code.snd (Code.snd (bodyOf Try.f6))))))))))))))))) (Ann.snd (Ann.snd (Ann.fst (Ann.fst (Ann.snd (Ann.fst (Ann.snd (Ann.snd (Ann.snd (Ann.snd (Ann.snd (Ann.snd (Ann.snd (Ann.snd (Ann.snd (Ann.snd laws_FnCountTrees_an)))))))))))))))) (⟨mkE 84 0 [(3, .dat (.int .i64) x1807), (4, .dat (.int .i64) x1808), (5, .dat (.int .i64) x1937), (6, .dat (.int .i64) x1829), (8, .dat (.int .i64) x1889)], []⟩ : St) (laws_FnCountTrees_n19 x1889) (fun (t : Int) => (Exit.normal, (⟨mkE 84 0 [(3, .dat (.int .i64) x1807), (4, .dat (.int .i64) x1808), (5, .dat (.int .i64) x1937), (6, .dat (.int .i64) x1829), (8, .dat (.int .i64) t)], []⟩ : St))) := by
  refine Link.of fun K h => ?_
  simp only [laws_FnCountTrees_n19, wpO_bind, wpO_cond, wpO_map, wpO_some] at h
  exact Awp.of (by kernel_rfl) h

theorem laws_FnCountTrees_n20_l (x1807 : Int) (x1808 : Int) (x1888 : Int) (x1829 : Int) (x1889 : Int) : Link laws_FnCountTrees_ctx LL (Code.snd (Code.fst (Code.fst (Code.snd (Code.fst (Code.snd (Code.snd (Code.snd (Code.snd (Code.snd (Code.snd (Code.snd (Code.snd (Code.snd (Code.snd (bodyOf Try.f6)))))))))))))))) (Ann.snd (Ann.fst (Ann.fst (Ann.snd (Ann.fst (Ann.snd (Ann.snd (Ann.snd (Ann.snd (Ann.snd (Ann.snd (Ann.snd (Ann.snd (Ann.snd (Ann.snd laws_FnCountTrees_an))))))))))))))) (⟨mkE 84 0 [(3, .dat (.int .i64) x1807), (4, .dat (.int .i64) x1808), (5, .dat (.int .i64) x1888), (6, .dat (.int .i64) x1829), (8, .dat (.int .i64) x1889)], []⟩ : St) (laws_FnCountTrees_n20 x1807 x1888 x1889) (fun (t : Int × Int) => (Exit.normal, (⟨mkE 84 0 [(3, .dat (.int .i64) x1807), (4, .dat (.int .i64) x1808), (5, .dat (.int .i64) t.1), (6, .dat (.int .i64) x1829), (8, .dat (.int .i64) t.2)], []⟩ : St))) := by
  unfold laws_FnCountTrees_n20
  exact Link.cast (by kernel_rfl) (by kernel_rfl) (link_seq (b := (Code.snd (Code.snd (Code.fst (Code.fst (Code.snd (Code.fst (Code.snd (Code.snd (Code.snd (Code.snd (Code.snd (Code.snd (Code.snd (Code.snd (Code.snd (Code.snd (bodyOf Try.f6)))))))))))))))))) (y := (Ann.snd (Ann.snd (Ann.fst (Ann.fst (Ann.snd (Ann.fst (Ann.snd (Ann.snd (Ann.snd (Ann.snd (Ann.snd (Ann.snd (Ann.snd (Ann.snd (Ann.snd (Ann.snd laws_FnCountTrees_an))))))))))))))))) (laws_FnCountTrees_n18_l x1807 x1808 x1888 x1829 x1889) (fun (t : Int) => (link_map (laws_FnCountTrees_n19_l x1807 x1808 t x1829 x1889) (fun (u : Int) => (t, u)) (by
  rintro t
  · kernel_rfl))))

theorem laws_FnCountTrees_n21_l (x1807 : Int) (x1808 : Int) (x1888 : Int) (x1829 : Int) (x1889 : Int) : Link laws_FnCountTrees_ctx LL (Code.fst (Code.fst (Code.snd (Code.fst (Code.snd (Code.snd (Code.snd (Code.snd (Code.snd (Code.snd (Code.snd (Code.snd (Code.snd (Code.snd (bodyOf Try.f6))))))))))))))) (Ann.fst (Ann.fst (Ann.snd (Ann.fst (Ann.snd (Ann.snd (Ann.snd (Ann.snd (Ann.snd (Ann.snd (Ann.snd (Ann.snd (Ann.snd (Ann.snd laws_FnCountTrees_an)))))))))))))) (⟨mkE 84 0 [(3, .dat (.int .i64) x1807), (4, .dat (.int .i64) x1808), (5, .dat (.int .i64) x1888), (6, .dat (.int .i64) x1829), (8, .dat (.int .i64) x1889)], []⟩ : St) (laws_FnCountTrees_n21 x1807 x1888 x1829 x1889) (Sum.elim (fun (t : Int × Int) => (Exit.normal, (⟨mkE 84 0 [(3, .dat (.int .i64) x1807), (4, .dat (.int .i64) x1808), (5, .dat (.int .i64) t.1), (6, .dat (.int .i64) x1829), (8, .dat (.int .i64) t.2)], []⟩ : St))) (fun (t : Int) => ((Exit.exit 2), (⟨mkE 84 0 [(4, .dat (.int .i64) x1808), (5, .dat (.int .i64) t)], []⟩ : St)))) := by
  unfold laws_FnCountTrees_n21
  exact Link.cast (by kernel_rfl) (by kernel_rfl) (link_seq2 (b := (Code.snd (Code.fst (Code.fst (Code.snd (Code.fst (Code.snd (Code.snd (Code.snd (Code.snd (Code.snd (Code.snd (Code.snd (Code.snd (Code.snd (Code.snd (bodyOf Try.f6))))))))))))))))) (y := (Ann.snd (Ann.fst (Ann.fst (Ann.snd (Ann.fst (Ann.snd (Ann.snd (Ann.snd (Ann.snd (Ann.snd (Ann.snd (Ann.snd (Ann.snd (Ann.snd (Ann.snd laws_FnCountTrees_an)))))))))))))))) (laws_FnCountTrees_n8_l x1807 x1808 x1888 x1829 x1889) (fun (t : Unit) => (link_map (laws_FnCountTrees_n20_l x1807 x1808 x1888 x1829 x1889) (fun (t : Int × Int) => (Sum.inl (t.1, t.2))) (by
  rintro t
  · kernel_rfl))) (fun (t : Int) => (Sum.inr t)) (by
  rintro t
  · kernel_rfl) (by
  rintro t f K h
  · exact h))

theorem laws_FnCountTrees_n22_l (x1807 : Int) (x1808 : Int) (x1829 : Int) : Link laws_FnCountTrees_ctx LL (Code.fst (Code.snd (Code.fst (Code.snd (Code.snd (Code.snd (Code.snd (Code.snd (Code.snd (Code.snd (Code.snd (Code.snd (Code.snd (bodyOf Try.f6)))))))))))))) (Ann.fst (Ann.snd (Ann.fst (Ann.snd (Ann.snd (Ann.snd (Ann.snd (Ann.snd (Ann.snd (Ann.snd (Ann.snd (Ann.snd (Ann.snd laws_FnCountTrees_an))))))))))))) (⟨mkE 84 0 [(3, .dat (.int .i64) x1807), (4, .dat (.int .i64) x1808), (5, .dat (.int .i64) 0), (6, .dat (.int .i64) x1829), (8, .dat (.int .i64) 0)], []⟩ : St) (laws_FnCountTrees_n22 x1807 x1829) (fun (t : Int) => ((Exit.exit 2), (⟨mkE 84 0 [(4, .dat (.int .i64) x1808), (5, .dat (.int .i64) t)], []⟩ : St))) := by
  unfold laws_FnCountTrees_n22
  exact Link.cast (by kernel_rfl) (by kernel_rfl) (link_loop (mk := fun (s : Int × Int) => (⟨mkE 84 0 [(3, .dat (.int .i64) x1807), (4, .dat (.int .i64) x1808), (5, .dat (.int .i64) s.1), (6, .dat (.int .i64) x1829), (8, .dat (.int .i64) s.2)], []⟩ : St)) (fin := (fun (t : Int) => ((Exit.exit 2), (⟨mkE 84 0 [(4, .dat (.int .i64) x1808), (5, .dat (.int .i64) t)], []⟩ : St)))) (by
  rintro t f K h
  · exact h) (fun s => link_map (laws_FnCountTrees_n21_l x1807 x1808 s.1 x1829 s.2) (Sum.elim (fun (t : Int × Int) => Sum.inl (t.1, t.2)) (fun (t : Int) => Sum.inr t)) (by
  rintro (t | t)
  · kernel_rfl
  · kernel_rfl)) (0, 0))

theorem laws_FnCountTrees_n23_l (x1807 : Int) (x1808 : Int) (x1829 : Int) : Link laws_FnCountTrees_ctx LL (Code.snd (Code.fst (Code.snd (Code.snd (Code.snd (Code.snd (Code.snd (Code.snd (Code.snd (Code.snd (Code.snd (Code.snd (bodyOf Try.f6))))))))))))) (Ann.snd (Ann.fst (Ann.snd (Ann.snd (Ann.snd (Ann.snd (Ann.snd (Ann.snd (Ann.snd (Ann.snd (Ann.snd (Ann.snd laws_FnCountTrees_an)))))))))))) (⟨mkE 84 0 [(3, .dat (.int .i64) x1807), (4, .dat (.int .i64) x1808), (5, .dat (.int .i64) 0), (6, .dat (.int .i64) x1829), (8, .dat (.int .i64) 0)], []⟩ : St) (laws_FnCountTrees_n23 x1807 x1829) (fun (t : Int) => (Exit.normal, (⟨mkE 84 0 [(4, .dat (.int .i64) x1808), (5, .dat (.int .i64) t)], []⟩ : St))) := by
  unfold laws_FnCountTrees_n23
  exact Link.cast (by kernel_rfl) (by kernel_rfl) (link_block (id := 2) (laws_FnCountTrees_n22_l x1807 x1808 x1829) (fun (t : Int) => t) (by
  rintro t K h
  · exact Eq.mp (by kernel_rfl) h))

theorem laws_FnCountTrees_n24_l (x1807 : Int) (x1808 : Int) (x1829 : Int) : Link laws_FnCountTrees_ctx LL (Code.fst (Code.snd (Code.snd (Code.snd (Code.snd (Code.snd (Code.snd (Code.snd (Code.snd (Code.snd (Code.snd (bodyOf Try.f6)))))))))))) (Ann.fst (Ann.snd (Ann.snd (Ann.snd (Ann.snd (Ann.snd (Ann.snd (Ann.snd (Ann.snd (Ann.snd (Ann.snd laws_FnCountTrees_an))))))))))) (⟨mkE 84 0 [(3, .dat (.int .i64) x1807), (4, .dat (.int .i64) x1808), (5, .dat (.int .i64) 0), (6, .dat (.int .i64) x1829)], []⟩ : St) (laws_FnCountTrees_n24 x1807 x1829) (fun (t : Int) => (Exit.normal, (⟨mkE 84 0 [(4, .dat (.int .i64) x1808), (5, .dat (.int .i64) t)], []⟩ : St))) := by
  unfold laws_FnCountTrees_n24
  exact Link.cast (by kernel_rfl) (by kernel_rfl) (link_seq (b := (Code.snd (Code.fst (Code.snd (Code.snd (Code.snd (Code.snd (Code.snd (Code.snd (Code.snd (Code.snd (Code.snd (Code.snd (bodyOf Try.f6)))))))))))))) (y := (Ann.snd (Ann.fst (Ann.snd (Ann.snd (Ann.snd (Ann.snd (Ann.snd (Ann.snd (Ann.snd (Ann.snd (Ann.snd (Ann.snd laws_FnCountTrees_an))))))))))))) (laws_FnCountTrees_n7_l x1807 x1808 x1829) (fun (t : Unit) => (laws_FnCountTrees_n23_l x1807 x1808 x1829)))

theorem laws_FnCountTrees_n25_l (x1808 : Int) (x1888 : Int) : Link laws_FnCountTrees_ctx LL (Code.snd (Code.snd (Code.snd (Code.snd (Code.snd (Code.snd (Code.snd (Code.snd (Code.snd (Code.snd (Code.snd (bodyOf Try.f6)))))))))))) (Ann.snd (Ann.snd (Ann.snd (Ann.snd (Ann.snd (Ann.snd (Ann.snd (Ann.snd (Ann.snd (Ann.snd (Ann.snd laws_FnCountTrees_an))))))))))) (⟨mkE 84 0 [(4, .dat (.int .i64) x1808), (5, .dat (.int .i64) x1888)], []⟩ : St) (laws_FnCountTrees_n25 x1808 x1888) (fun (t : Bool) => (Exit.ret, (⟨mkE 84 0 [(2, .dat .bool t)], []⟩ : St))) := by
  refine Link.of fun K h => ?_
  simp only [laws_FnCountTrees_n25, wpO_bind, wpO_cond, wpO_map, wpO_some] at h
  exact Awp.of (by kernel_rfl) h

theorem laws_FnCountTrees_n26_l (x1807 : Int) (x1808 : Int) (x1829 : Int) : Link laws_FnCountTrees_ctx LL (Code.snd (Code.snd (Code.snd (Code.snd (Code.snd (Code.snd (Code.snd (Code.snd (Code.snd (Code.snd (bodyOf Try.f6))))))))))) (Ann.snd (Ann.snd (Ann.snd (Ann.snd (Ann.snd (Ann.snd (Ann.snd (Ann.snd (Ann.snd (Ann.snd laws_FnCountTrees_an)))))))))) (⟨mkE 84 0 [(3, .dat (.int .i64) x1807), (4, .dat (.int .i64) x1808), (5, .dat (.int .i64) 0), (6, .dat (.int .i64) x1829)], []⟩ : St) (laws_FnCountTrees_n26 x1807 x1808 x1829) (fun (t : Bool) => (Exit.ret, (⟨mkE 84 0 [(2, .dat .bool t)], []⟩ : St))) := by
  unfold laws_FnCountTrees_n26
  exact Link.cast (by kernel_rfl) (by kernel_rfl) (link_seq (b := (Code.snd (Code.snd (Code.snd (Code.snd (Code.snd (Code.snd (Code.snd (Code.snd (Code.snd (Code.snd (Code.snd (bodyOf Try.f6))))))))))))) (y := (Ann.snd (Ann.snd (Ann.snd (Ann.snd (Ann.snd (Ann.snd (Ann.snd (Ann.snd (Ann.snd (Ann.snd (Ann.snd laws_FnCountTrees_an)))))))))))) (laws_FnCountTrees_n24_l x1807 x1808 x1829) (fun (t : Int) => (laws_FnCountTrees_n25_l x1808 t)))

theorem laws_FnCountTrees_n27_l (x1807 : Int) (x1808 : Int) : Link laws_FnCountTrees_ctx LL (Code.snd (Code.snd (Code.snd (Code.snd (Code.snd (Code.snd (Code.snd (Code.snd (Code.snd (bodyOf Try.f6)))))))))) (Ann.snd (Ann.snd (Ann.snd (Ann.snd (Ann.snd (Ann.snd (Ann.snd (Ann.snd (Ann.snd laws_FnCountTrees_an))))))))) (⟨mkE 84 0 [(3, .dat (.int .i64) x1807), (4, .dat (.int .i64) x1808), (5, .dat (.int .i64) 0), (6, .dat (.int .i64) 1)], []⟩ : St) (laws_FnCountTrees_n27 x1807 x1808) (fun (t : Bool) => (Exit.ret, (⟨mkE 84 0 [(2, .dat .bool t)], []⟩ : St))) := by
  unfold laws_FnCountTrees_n27
  exact Link.cast (by kernel_rfl) (by kernel_rfl) (link_seq (b := (Code.snd (Code.snd (Code.snd (Code.snd (Code.snd (Code.snd (Code.snd (Code.snd (Code.snd (Code.snd (bodyOf Try.f6)))))))))))) (y := (Ann.snd (Ann.snd (Ann.snd (Ann.snd (Ann.snd (Ann.snd (Ann.snd (Ann.snd (Ann.snd (Ann.snd laws_FnCountTrees_an))))))))))) (laws_FnCountTrees_n6_l x1807 x1808) (fun (t : Int) => (laws_FnCountTrees_n26_l x1807 x1808 t)))

theorem laws_FnCountTrees_n28_l (x1682 : List Int) : Link laws_FnCountTrees_ctx LL (bodyOf Try.f6) laws_FnCountTrees_an (⟨mkE 84 0 [(0, .dat (.list (.int .u8)) x1682)], []⟩ : St) (laws_FnCountTrees_n28 x1682) (fun (t : Bool) => (Exit.ret, (⟨mkE 84 0 [(2, .dat .bool t)], []⟩ : St))) := by
  unfold laws_FnCountTrees_n28
  exact Link.cast (by kernel_rfl) (by kernel_rfl) (link_group (c := (Code.fst (Code.snd (Code.snd (Code.snd (Code.snd (Code.snd (Code.snd (Code.snd (Code.snd (bodyOf Try.f6))))))))))) (a := (Ann.fst (Ann.snd (Ann.snd (Ann.snd (Ann.snd (Ann.snd (Ann.snd (Ann.snd (Ann.snd laws_FnCountTrees_an)))))))))) [(Code.fst (bodyOf Try.f6)), (Code.fst (Code.snd (bodyOf Try.f6))), (Code.fst (Code.snd (Code.snd (bodyOf Try.f6)))), (Code.fst (Code.snd (Code.snd (Code.snd (bodyOf Try.f6))))), (Code.fst (Code.snd (Code.snd (Code.snd (Code.snd (bodyOf Try.f6)))))), (Code.fst (Code.snd (Code.snd (Code.snd (Code.snd (Code.snd (bodyOf Try.f6))))))), (Code.fst (Code.snd (Code.snd (Code.snd (Code.snd (Code.snd (Code.snd (bodyOf Try.f6)))))))), (Code.fst (Code.snd (Code.snd (Code.snd (Code.snd (Code.snd (Code.snd (Code.snd (bodyOf Try.f6)))))))))] [(Ann.fst laws_FnCountTrees_an), (Ann.fst (Ann.snd laws_FnCountTrees_an)), (Ann.fst (Ann.snd (Ann.snd laws_FnCountTrees_an))), (Ann.fst (Ann.snd (Ann.snd (Ann.snd laws_FnCountTrees_an)))), (Ann.fst (Ann.snd (Ann.snd (Ann.snd (Ann.snd laws_FnCountTrees_an))))), (Ann.fst (Ann.snd (Ann.snd (Ann.snd (Ann.snd (Ann.snd laws_FnCountTrees_an)))))), (Ann.fst (Ann.snd (Ann.snd (Ann.snd (Ann.snd (Ann.snd (Ann.snd laws_FnCountTrees_an))))))), (Ann.fst (Ann.snd (Ann.snd (Ann.snd (Ann.snd (Ann.snd (Ann.snd (Ann.snd laws_FnCountTrees_an))))))))] rfl (link_seq2 (b := (Code.snd (Code.snd (Code.snd (Code.snd (Code.snd (Code.snd (Code.snd (Code.snd (Code.snd (bodyOf Try.f6))))))))))) (y := (Ann.snd (Ann.snd (Ann.snd (Ann.snd (Ann.snd (Ann.snd (Ann.snd (Ann.snd (Ann.snd laws_FnCountTrees_an)))))))))) (laws_FnCountTrees_n1_l x1682) (fun (t : Int × Int) => (laws_FnCountTrees_n27_l t.1 t.2)) (fun (t : Bool) => t) (by
  rintro t
  · kernel_rfl) (by
  rintro t f K h
  · exact h)))

theorem laws_FnCountTrees_e (x1682 : List Int) {r : AV} {H' : Heap} (h : (Ans.mk _ (laws_FnCountTrees x1682) (fun (t : Bool) => (.dat .bool t, []))).run = some (r, H')) : Awp laws_FnCountTrees_ctx LL (bodyOf Try.f6) laws_FnCountTrees_an (⟨mkE 84 0 [(0, .dat (.list (.int .u8)) x1682)], []⟩ : St) (Ret (tlook tys) Try.f6.results.toList r H') :=
  ret_of' (laws_FnCountTrees_n28_l x1682) (by unfold laws_FnCountTrees; kernel_rfl) (by
  intro t
  exact ret_mk [.dat .bool t] (by kernel_rfl) (by kernel_rfl) (by kernel_rfl) (by kernel_rfl)) h

def F_laws_FnCountTrees : Fun := fun avs H =>
  match avs, H with
  | [.dat (.list (.int .u8)) x1682], [] => ⟨_, laws_FnCountTrees x1682, fun (t : Bool) => (.dat .bool t, [])⟩
  | _, _ => Ans.no

theorem laws_FnCountTrees_sound : Sound Try.prog 6 F_laws_FnCountTrees := by
  refine fn_sound' (C := laws_FnCountTrees_ctx) (c := bodyOf Try.f6) (cok_of tys_ok (List.forall_mem_cons.2 ⟨spec_DrawCountTrees_sound, List.forall_mem_cons.2 ⟨impl_CountTrees_sound, List.forall_mem_cons.2 ⟨spec_CountTrees_sound, List.forall_mem_cons.2 ⟨laws_alive_sound, List.forall_mem_cons.2 ⟨impl_TreeOk_sound, by simp⟩⟩⟩⟩⟩) (List.forall_mem_cons.2 ⟨Try.call21, List.forall_mem_cons.2 ⟨Try.call22, List.forall_mem_cons.2 ⟨Try.call23, List.forall_mem_cons.2 ⟨Try.call13, List.forall_mem_cons.2 ⟨Try.call11, by simp⟩⟩⟩⟩⟩) (by kernel_rfl)) Try.func6 (by kernel_rfl) LL laws_FnCountTrees_an ?_
  intro avs H r H' h
  unfold F_laws_FnCountTrees at h
  split at h
  · refine Awp.cast ?_ ?_ ?_ (laws_FnCountTrees_e _ h) <;> kernel_rfl
  · simp [Ans.no, Ans.run] at h

/-! loop.example/headtrees/spec.DrawOrderOk -/

def spec_DrawOrderOk_an : Ann := (.seq (.leaf [0]) (.seq (.leaf [4]) (.seq (.leaf [4, 5]) (.seq (.leaf [4, 5, 6]) (.seq (.seq (.leaf [4, 5, 6, 17]) (.cond (.leaf [4, 5, 6]) (.leaf [4, 5, 6]))) (.seq (.leaf [2, 3]) (.leaf [2, 3])))))))

noncomputable def spec_DrawOrderOk_ctx : Ctx := ⟨tlook tys, olook [(34, F_spec_l20Open), (39, F_spec_l20Rd_pick), (41, F_spec_l20Order)], ioF, 0⟩

theorem spec_DrawOrderOk_n1_l (x1948 : List Int) : Link spec_DrawOrderOk_ctx LL (bodyOf Try.f24) spec_DrawOrderOk_an (⟨mkE 31 0 [(0, .dat (.list (.int .u8)) x1948)], []⟩ : St) (spec_DrawOrderOk_n1 x1948) (fun (t : Int × (List Int)) => (Exit.ret, (⟨mkE 31 0 [(2, .slc 0), (3, .dat (.int .i64) t.1)], [some (.seq (.int .i64) t.2)]⟩ : St))) := by
  refine Link.of fun K h => ?_
  simp only [spec_DrawOrderOk_n1, wpO_bind, wpO_cond, wpO_map, wpO_some] at h
  exact Awp.of (by kernel_rfl) h

theorem spec_DrawOrderOk_e (x1948 : List Int) {r : AV} {H' : Heap} (h : (Ans.mk _ (spec_DrawOrderOk x1948) (fun (t : Int × (List Int)) => (.tup [.slc 0, .dat (.int .i64) t.1], [some (.seq (.int .i64) t.2)]))).run = some (r, H')) : Awp spec_DrawOrderOk_ctx LL (bodyOf Try.f24) spec_DrawOrderOk_an (⟨mkE 31 0 [(0, .dat (.list (.int .u8)) x1948)], []⟩ : St) (Ret (tlook tys) Try.f24.results.toList r H') :=
  ret_of' (spec_DrawOrderOk_n1_l x1948) (by unfold spec_DrawOrderOk; kernel_rfl) (by
  intro t
  exact ret_mk [.slc 0, .dat (.int .i64) t.1] (by kernel_rfl) (by kernel_rfl) (by kernel_rfl) (by kernel_rfl)) h

def F_spec_DrawOrderOk : Fun := fun avs H =>
  match avs, H with
  | [.dat (.list (.int .u8)) x1948], [] => ⟨_, spec_DrawOrderOk x1948, fun (t : Int × (List Int)) => (.tup [.slc 0, .dat (.int .i64) t.1], [some (.seq (.int .i64) t.2)])⟩
  | _, _ => Ans.no

theorem spec_DrawOrderOk_sound : Sound Try.prog 24 F_spec_DrawOrderOk := by
  refine fn_sound' (C := spec_DrawOrderOk_ctx) (c := bodyOf Try.f24) (cok_of tys_ok (List.forall_mem_cons.2 ⟨spec_l20Open_sound, List.forall_mem_cons.2 ⟨spec_l20Rd_pick_sound, List.forall_mem_cons.2 ⟨spec_l20Order_sound, by simp⟩⟩⟩) (List.forall_mem_cons.2 ⟨Try.call34, List.forall_mem_cons.2 ⟨Try.call39, List.forall_mem_cons.2 ⟨Try.call41, by simp⟩⟩⟩) (by kernel_rfl)) Try.func24 (by kernel_rfl) LL spec_DrawOrderOk_an ?_
  intro avs H r H' h
  unfold F_spec_DrawOrderOk at h
  split at h
  · refine Awp.cast ?_ ?_ ?_ (spec_DrawOrderOk_e _ h) <;> kernel_rfl
  · simp [Ans.no, Ans.run] at h

/-! loop.example/headtrees/impl.OrderOk -/

def impl_OrderOk_an : Ann := (.seq (.leaf [0, 1]) (.seq (.seq (.leaf [0, 1, 19]) (.cond (.seq (.leaf [4]) (.leaf [4])) (.leaf [0, 1]))) (.seq (.leaf [0, 1, 5]) (.seq (.seq (.leaf [1, 5, 20, 21, 22]) (.block (.loop (.seq (.leaf [1, 5, 20, 21, 22, 23]) (.seq (.cond (.leaf [1, 5, 20, 21, 22]) (.leaf [])) (.seq (.block (.seq (.leaf [1, 5, 7, 20, 21, 22]) (.seq (.seq (.leaf [1, 5, 7, 20, 21, 22, 37]) (.cond (.seq (.leaf [4]) (.leaf [4])) (.leaf [1, 5, 7, 20, 21, 22]))) (.leaf [1, 5, 20, 21, 22])))) (.leaf [1, 5, 20, 21, 22]))))))) (.seq (.leaf [4]) (.leaf [4]))))))

noncomputable def impl_OrderOk_ctx : Ctx := ⟨tlook tys, olook [], ioF, 0⟩

theorem impl_OrderOk_n1_l (x2053 : List Int) (x2054 : Int) : Link impl_OrderOk_ctx LL (Code.seq (Code.fst (bodyOf Try.f25)) (Code.seq (Code.fst (Code.snd (bodyOf Try.f25))) (Code.fst (Code.snd (Code.snd (bodyOf Try.f25)))))) (Ann.seq (Ann.fst impl_OrderOk_an) (Ann.seq (Ann.fst (Ann.snd impl_OrderOk_an)) (Ann.fst (Ann.snd (Ann.snd impl_OrderOk_an))))) (⟨mkE 41 0 [(0, .dat (.list (.int .i64)) x2053), (1, .dat (.int .i64) x2054)], []⟩ : St) (impl_OrderOk_n1 x2053 x2054) (Sum.elim (fun (t : Unit) => (Exit.normal, (⟨mkE 41 0 [(0, .dat (.list (.int .i64)) x2053), (1, .dat (.int .i64) x2054), (5, .ptr 0 0)], [some (.seq .bool (List.replicate 9 false))]⟩ : St))) (fun (t : Bool) => (Exit.ret, (⟨mkE 41 0 [(4, .dat .bool t)], []⟩ : St)))) := by
  refine Link.of fun K h => ?_
  simp only [impl_OrderOk_n1, wpO_bind, wpO_cond, wpO_map, wpO_some] at h
  exact Awp.of (by kernel_rfl) h

theorem impl_OrderOk_n2_l (x2053 : List Int) (x2054 : Int) : Link impl_OrderOk_ctx LL (Code.fst (Code.fst (Code.snd (Code.snd (Code.snd (bodyOf Try.f25)))))) (Ann.fst (Ann.fst (Ann.snd (Ann.snd (Ann.snd impl_OrderOk_an))))) (⟨mkE 41 0 [(0, .dat (.list (.int .i64)) x2053), (1, .dat (.int .i64) x2054), (5, .ptr 0 0)], [some (.seq .bool (List.replicate 9 false))]⟩ : St) (impl_OrderOk_n2 x2053) (fun (t : Int) => (Exit.normal, (⟨mkE 41 0 [(1, .dat (.int .i64) x2054), (5, .ptr 0 0), (20, .dat (.list (.int .i64)) x2053), (21, .dat (.int .i64) t), (22, .dat (.int .i64) 0)], [some (.seq .bool (List.replicate 9 false))]⟩ : St))) := by
  refine Link.of fun K h => ?_
  simp only [impl_OrderOk_n2, wpO_bind, wpO_cond, wpO_map, wpO_some] at h
  exact Awp.of (by kernel_rfl) h

theorem impl_OrderOk_n3_l (x2054 : Int) (x2053 : List Int) (x2064 : Int) (x2088 : Int) (x2089 : List Bool) : Link impl_OrderOk_ctx LL (Code.fst (Code.fst (Code.snd (Code.fst (Code.snd (Code.snd (Code.snd (bodyOf Try.f25)))))))) (Ann.fst (Ann.fst (Ann.snd (Ann.fst (Ann.snd (Ann.snd (Ann.snd impl_OrderOk_an))))))) (⟨mkE 41 0 [(1, .dat (.int .i64) x2054), (5, .ptr 0 0), (20, .dat (.list (.int .i64)) x2053), (21, .dat (.int .i64) x2064), (22, .dat (.int .i64) x2088)], [some (.seq .bool x2089)]⟩ : St) (impl_OrderOk_n3 x2054 x2053 x2064 x2088 x2089) (Sum.elim (fun (t : Int × (List Bool)) => (Exit.normal, (⟨mkE 41 0 [(1, .dat (.int .i64) x2054), (5, .ptr 0 0), (20, .dat (.list (.int .i64)) x2053), (21, .dat (.int .i64) x2064), (22, .dat (.int .i64) t.1)], [some (.seq .bool t.2)]⟩ : St))) (Sum.elim (fun (t : Bool) => (Exit.ret, (⟨mkE 41 0 [(4, .dat .bool t)], []⟩ : St))) (fun (t : Unit) => ((Exit.exit 0), (⟨mkE 41 0 [], []⟩ : St))))) := by
  refine Link.of fun K h => ?_
  simp only [impl_OrderOk_n3, wpO_bind, wpO_cond, wpO_map, wpO_some] at h
  exact Awp.of (by kernel_rfl) h

theorem impl_OrderOk_n4_l (x2054 : Int) (x2053 : List Int) (x2064 : Int) : Link impl_OrderOk_ctx LL (Code.fst (Code.snd (Code.fst (Code.snd (Code.snd (Code.snd (bodyOf Try.f25))))))) (Ann.fst (Ann.snd (Ann.fst (Ann.snd (Ann.snd (Ann.snd impl_OrderOk_an)))))) (⟨mkE 41 0 [(1, .dat (.int .i64) x2054), (5, .ptr 0 0), (20, .dat (.list (.int .i64)) x2053), (21, .dat (.int .i64) x2064), (22, .dat (.int .i64) 0)], [some (.seq .bool (List.replicate 9 false))]⟩ : St) (impl_OrderOk_n4 x2054 x2053 x2064) (Sum.elim (fun (t : Bool) => (Exit.ret, (⟨mkE 41 0 [(4, .dat .bool t)], []⟩ : St))) (fun (t : Unit) => ((Exit.exit 0), (⟨mkE 41 0 [], []⟩ : St)))) := by
  unfold impl_OrderOk_n4
  exact Link.cast (by kernel_rfl) (by kernel_rfl) (link_loop (mk := fun (s : Int × (List Bool)) => (⟨mkE 41 0 [(1, .dat (.int .i64) x2054), (5, .ptr 0 0), (20, .dat (.list (.int .i64)) x2053), (21, .dat (.int .i64) x2064), (22, .dat (.int .i64) s.1)], [some (.seq .bool s.2)]⟩ : St)) (fin := (Sum.elim (fun (t : Bool) => (Exit.ret, (⟨mkE 41 0 [(4, .dat .bool t)], []⟩ : St))) (fun (t : Unit) => ((Exit.exit 0), (⟨mkE 41 0 [], []⟩ : St))))) (by
  rintro (t | t) f K h
  · exact h
  · exact h) (fun s => link_map (impl_OrderOk_n3_l x2054 x2053 x2064 s.1 s.2) (Sum.elim (fun (t : Int × (List Bool)) => Sum.inl (t.1, t.2)) (Sum.elim (fun (t : Bool) => Sum.inr (Sum.inl t)) (fun (t : Unit) => Sum.inr (Sum.inr t)))) (by
  rintro (t | t | t)
  · kernel_rfl
  · kernel_rfl
  · kernel_rfl)) (0, (List.replicate 9 false)))

theorem impl_OrderOk_n5_l (x2054 : Int) (x2053 : List Int) (x2064 : Int) : Link impl_OrderOk_ctx LL (Code.snd (Code.fst (Code.snd (Code.snd (Code.snd (bodyOf Try.f25)))))) (Ann.snd (Ann.fst (Ann.snd (Ann.snd (Ann.snd impl_OrderOk_an))))) (⟨mkE 41 0 [(1, .dat (.int .i64) x2054), (5, .ptr 0 0), (20, .dat (.list (.int .i64)) x2053), (21, .dat (.int .i64) x2064), (22, .dat (.int .i64) 0)], [some (.seq .bool (List.replicate 9 false))]⟩ : St) (impl_OrderOk_n5 x2054 x2053 x2064) (Sum.elim (fun (t : Unit) => (Exit.normal, (⟨mkE 41 0 [], []⟩ : St))) (fun (t : Bool) => (Exit.ret, (⟨mkE 41 0 [(4, .dat .bool t)], []⟩ : St)))) := by
  unfold impl_OrderOk_n5
  exact Link.cast (by kernel_rfl) (by kernel_rfl) (link_block (id := 0) (impl_OrderOk_n4_l x2054 x2053 x2064) (Sum.elim (fun (t : Bool) => (Sum.inr t)) (fun (t : Unit) => (Sum.inl ()))) (by
  rintro (t | t) K h
  · exact Eq.mp (by kernel_rfl) h
  · exact Eq.mp (by kernel_rfl) h))

theorem impl_OrderOk_n6_l (x2053 : List Int) (x2054 : Int) : Link impl_OrderOk_ctx LL (Code.fst (Code.snd (Code.snd (Code.snd (bodyOf Try.f25))))) (Ann.fst (Ann.snd (Ann.snd (Ann.snd impl_OrderOk_an)))) (⟨mkE 41 0 [(0, .dat (.list (.int .i64)) x2053), (1, .dat (.int .i64) x2054), (5, .ptr 0 0)], [some (.seq .bool (List.replicate 9 false))]⟩ : St) (impl_OrderOk_n6 x2053 x2054) (Sum.elim (fun (t : Unit) => (Exit.normal, (⟨mkE 41 0 [], []⟩ : St))) (fun (t : Bool) => (Exit.ret, (⟨mkE 41 0 [(4, .dat .bool t)], []⟩ : St)))) := by
  unfold impl_OrderOk_n6
  exact Link.cast (by kernel_rfl) (by kernel_rfl) (link_seq (b := (Code.snd (Code.fst (Code.snd (Code.snd (Code.snd (bodyOf Try.f25))))))) (y := (Ann.snd (Ann.fst (Ann.snd (Ann.snd (Ann.snd impl_OrderOk_an)))))) (impl_OrderOk_n2_l x2053 x2054) (fun (t : Int) => (impl_OrderOk_n5_l x2054 x2053 t)))

theorem impl_OrderOk_n7_l : Link impl_OrderOk_ctx LL (Code.snd (Code.snd (Code.snd (Code.snd (bodyOf Try.f25))))) (Ann.snd (Ann.snd (Ann.snd (Ann.snd impl_OrderOk_an)))) (⟨mkE 41 0 [], []⟩ : St) (impl_OrderOk_n7) (fun (t : Bool) => (Exit.ret, (⟨mkE 41 0 [(4, .dat .bool t)], []⟩ : St))) := by
  refine Link.of fun K h => ?_
  simp only [impl_OrderOk_n7, wpO_bind, wpO_cond, wpO_map, wpO_some] at h
  exact Awp.of (by kernel_rfl) h

theorem impl_OrderOk_n8_l (x2053 : List Int) (x2054 : Int) : Link impl_OrderOk_ctx LL (Code.snd (Code.snd (Code.snd (bodyOf Try.f25)))) (Ann.snd (Ann.snd (Ann.snd impl_OrderOk_an))) (⟨mkE 41 0 [(0, .dat (.list (.int .i64)) x2053), (1, .dat (.int .i64) x2054), (5, .ptr 0 0)], [some (.seq .bool (List.replicate 9 false))]⟩ : St) (impl_OrderOk_n8 x2053 x2054) (fun (t : Bool) => (Exit.ret, (⟨mkE 41 0 [(4, .dat .bool t)], []⟩ : St))) := by
  unfold impl_OrderOk_n8
  exact Link.cast (by kernel_rfl) (by kernel_rfl) (link_seq2 (b := (Code.snd (Code.snd (Code.snd (Code.snd (bodyOf Try.f25)))))) (y := (Ann.snd (Ann.snd (Ann.snd (Ann.snd impl_OrderOk_an))))) (impl_OrderOk_n6_l x2053 x2054) (fun (t : Unit) => (impl_OrderOk_n7_l)) (fun (t : Bool) => t) (by
  rintro t
  · kernel_rfl) (by
  rintro t f K h
  · exact h))

theorem impl_OrderOk_n9_l (x2053 : List Int) (x2054 : Int) : Link impl_OrderOk_ctx LL (bodyOf Try.f25) impl_OrderOk_an (⟨mkE 41 0 [(0, .dat (.list (.int .i64)) x2053), (1, .dat (.int .i64) x2054)], []⟩ : St) (impl_OrderOk_n9 x2053 x2054) (fun (t : Bool) => (Exit.ret, (⟨mkE 41 0 [(4, .dat .bool t)], []⟩ : St))) := by
  unfold impl_OrderOk_n9
  exact Link.cast (by kernel_rfl) (by kernel_rfl) (link_group (c := (Code.fst (Code.snd (Code.snd (bodyOf Try.f25))))) (a := (Ann.fst (Ann.snd (Ann.snd impl_OrderOk_an)))) [(Code.fst (bodyOf Try.f25)), (Code.fst (Code.snd (bodyOf Try.f25)))] [(Ann.fst impl_OrderOk_an), (Ann.fst (Ann.snd impl_OrderOk_an))] rfl (link_seq2 (b := (Code.snd (Code.snd (Code.snd (bodyOf Try.f25))))) (y := (Ann.snd (Ann.snd (Ann.snd impl_OrderOk_an)))) (impl_OrderOk_n1_l x2053 x2054) (fun (t : Unit) => (impl_OrderOk_n8_l x2053 x2054)) (fun (t : Bool) => t) (by
  rintro t
  · kernel_rfl) (by
  rintro t f K h
  · exact h)))

theorem impl_OrderOk_e (x2053 : List Int) (x2054 : Int) {r : AV} {H' : Heap} (h : (Ans.mk _ (impl_OrderOk x2053 x2054) (fun (t : Bool) => (.dat .bool t, []))).run = some (r, H')) : Awp impl_OrderOk_ctx LL (bodyOf Try.f25) impl_OrderOk_an (⟨mkE 41 0 [(0, .dat (.list (.int .i64)) x2053), (1, .dat (.int .i64) x2054)], []⟩ : St) (Ret (tlook tys) Try.f25.results.toList r H') :=
  ret_of' (impl_OrderOk_n9_l x2053 x2054) (by unfold impl_OrderOk; kernel_rfl) (by
  intro t
  exact ret_mk [.dat .bool t] (by kernel_rfl) (by kernel_rfl) (by kernel_rfl) (by kernel_rfl)) h

def F_impl_OrderOk : Fun := fun avs H =>
  match avs, H with
  | [.dat (.list (.int .i64)) x2053, .dat (.int .i64) x2054], [] => ⟨_, impl_OrderOk x2053 x2054, fun (t : Bool) => (.dat .bool t, [])⟩
  | _, _ => Ans.no

theorem impl_OrderOk_sound : Sound Try.prog 25 F_impl_OrderOk := by
  refine fn_sound' (C := impl_OrderOk_ctx) (c := bodyOf Try.f25) (cok_of tys_ok (by simp) (by simp) (by kernel_rfl)) Try.func25 (by kernel_rfl) LL impl_OrderOk_an ?_
  intro avs H r H' h
  unfold F_impl_OrderOk at h
  split at h
  · refine Awp.cast ?_ ?_ ?_ (impl_OrderOk_e _ _ h) <;> kernel_rfl
  · simp [Ans.no, Ans.run] at h

/-! loop.example/headtrees/spec.OrderOk -/

def spec_OrderOk_an : Ann := (.seq (.leaf [0, 1]) (.seq (.seq (.leaf [0, 1, 5]) (.block (.loop (.seq (.seq (.leaf [0, 1, 5, 10]) (.cond (.leaf [0, 1, 5]) (.leaf [0, 1]))) (.seq (.block (.seq (.seq (.leaf [0, 1, 5, 19]) (.cond (.seq (.leaf [4]) (.leaf [4])) (.leaf [0, 1, 5]))) (.seq (.leaf [0, 1, 5, 6]) (.block (.loop (.seq (.seq (.leaf [0, 1, 5, 6, 22]) (.cond (.leaf [0, 1, 5, 6]) (.leaf [0, 1, 5]))) (.seq (.block (.seq (.draw [] [0, 1, 2, 3, 4, 5, 6, 7, 8] [] [0, 1, 5, 6, 33]) (.cond (.seq (.leaf [4]) (.leaf [4])) (.leaf [0, 1, 5, 6])))) (.leaf [0, 1, 5, 6])))))))) (.leaf [0, 1, 5])))))) (.seq (.leaf [4]) (.leaf [4]))))

noncomputable def spec_OrderOk_ctx : Ctx := ⟨tlook tys, olook [(37, F_spec_l1In)], ioF, 0⟩

theorem spec_OrderOk_n1_l (x2121 : List Int) (x2122 : Int) : Link spec_OrderOk_ctx LL (Code.fst (bodyOf Try.f26)) (Ann.fst spec_OrderOk_an) (⟨mkE 42 0 [(0, .dat (.list (.int .i64)) x2121), (1, .dat (.int .i64) x2122)], []⟩ : St) (spec_OrderOk_n1) (fun (t : Unit) => (Exit.normal, (⟨mkE 42 0 [(0, .dat (.list (.int .i64)) x2121), (1, .dat (.int .i64) x2122)], []⟩ : St))) := by
  refine Link.of fun K h => ?_
  simp only [spec_OrderOk_n1, wpO_bind, wpO_cond, wpO_map, wpO_some] at h
  exact Awp.of (by kernel_rfl) h

theorem spec_OrderOk_n2_l (x2121 : List Int) (x2122 : Int) : Link spec_OrderOk_ctx LL (Code.fst (Code.fst (Code.snd (bodyOf Try.f26)))) (Ann.fst (Ann.fst (Ann.snd spec_OrderOk_an))) (⟨mkE 42 0 [(0, .dat (.list (.int .i64)) x2121), (1, .dat (.int .i64) x2122)], []⟩ : St) (spec_OrderOk_n2) (fun (t : Unit) => (Exit.normal, (⟨mkE 42 0 [(0, .dat (.list (.int .i64)) x2121), (1, .dat (.int .i64) x2122), (5, .dat (.int .i64) 0)], []⟩ : St))) := by
  refine Link.of fun K h => ?_
  simp only [spec_OrderOk_n2, wpO_bind, wpO_cond, wpO_map, wpO_some] at h
  exact Awp.of (by kernel_rfl) h

theorem spec_OrderOk_n3_l (x2121 : List Int) (x2122 : Int) (x2153 : Int) : Link spec_OrderOk_ctx LL (Code.fst (Code.fst (Code.fst (Code.snd (Code.fst (Code.snd (bodyOf Try.f26))))))) (Ann.fst (Ann.fst (Ann.fst (Ann.snd (Ann.fst (Ann.snd spec_OrderOk_an)))))) (⟨mkE 42 0 [(0, .dat (.list (.int .i64)) x2121), (1, .dat (.int .i64) x2122), (5, .dat (.int .i64) x2153)], []⟩ : St) (spec_OrderOk_n3 x2121 x2153) (Sum.elim (fun (t : Unit) => (Exit.normal, (⟨mkE 42 0 [(0, .dat (.list (.int .i64)) x2121), (1, .dat (.int .i64) x2122), (5, .dat (.int .i64) x2153)], []⟩ : St))) (fun (t : Unit) => ((Exit.exit 0), (⟨mkE 42 0 [(0, .dat (.list (.int .i64)) x2121), (1, .dat (.int .i64) x2122)], []⟩ : St)))) := by
  refine Link.of fun K h => ?_
  simp only [spec_OrderOk_n3, wpO_bind, wpO_cond, wpO_map, wpO_some] at h
  exact Awp.of (by kernel_rfl) h

theorem spec_OrderOk_n4_l (x2121 : List Int) (x2122 : Int) (x2153 : Int) : Link spec_OrderOk_ctx LL (Code.seq (Code.fst (Code.fst (Code.fst (Code.snd (Code.fst (Code.fst (Code.snd (Code.fst (Code.snd (bodyOf Try.f26)))))))))) (Code.fst (Code.snd (Code.fst (Code.fst (Code.snd (Code.fst (Code.fst (Code.snd (Code.fst (Code.snd (bodyOf Try.f26)))))))))))) (Ann.seq (Ann.fst (Ann.fst (Ann.fst (Ann.snd (Ann.fst (Ann.fst (Ann.snd (Ann.fst (Ann.snd spec_OrderOk_an))))))))) (Ann.fst (Ann.snd (Ann.fst (Ann.fst (Ann.snd (Ann.fst (Ann.fst (Ann.snd (Ann.fst (Ann.snd spec_OrderOk_an))))))))))) (⟨mkE 42 0 [(0, .dat (.list (.int .i64)) x2121), (1, .dat (.int .i64) x2122), (5, .dat (.int .i64) x2153)], []⟩ : St) (spec_OrderOk_n4 x2121 x2122 x2153) (Sum.elim (fun (t : Unit) => (Exit.normal, (⟨mkE 42 0 [(0, .dat (.list (.int .i64)) x2121), (1, .dat (.int .i64) x2122), (5, .dat (.int .i64) x2153), (6, .dat (.int .i64) 0)], []⟩ : St))) (fun (t : Bool) => (Exit.ret, (⟨mkE 42 0 [(4, .dat .bool t)], []⟩ : St)))) := by
  refine Link.of fun K h => ?_
  simp only [spec_OrderOk_n4, wpO_bind, wpO_cond, wpO_map, wpO_some] at h
  exact Awp.of (by kernel_rfl) h

theorem spec_OrderOk_n5_l (x2121 : List Int) (x2122 : Int) (x2153 : Int) (x2172 : Int) : Link spec_OrderOk_ctx LL (Code.fst (Code.fst (Code.snd (Code.snd (Code.fst (Code.fst (Code.snd (Code.fst (Code.fst (Code.snd (Code.fst (Code.snd (bodyOf Try.f26))))))))))))) (Ann.fst (Ann.fst (Ann.snd (Ann.snd (Ann.fst (Ann.fst (Ann.snd (Ann.fst (Ann.fst (Ann.snd (Ann.fst (Ann.snd spec_OrderOk_an)))))))))))) (⟨mkE 42 0 [(0, .dat (.list (.int .i64)) x2121), (1, .dat (.int .i64) x2122), (5, .dat (.int .i64) x2153), (6, .dat (.int .i64) x2172)], []⟩ : St) (spec_OrderOk_n5 x2121 x2153 x2172) (Sum.elim (fun (t : Int) => (Exit.normal, (⟨mkE 42 0 [(0, .dat (.list (.int .i64)) x2121), (1, .dat (.int .i64) x2122), (5, .dat (.int .i64) x2153), (6, .dat (.int .i64) t)], []⟩ : St))) (Sum.elim (fun (t : Bool) => (Exit.ret, (⟨mkE 42 0 [(4, .dat .bool t)], []⟩ : St))) (fun (t : Unit) => ((Exit.exit 2), (⟨mkE 42 0 [(0, .dat (.list (.int .i64)) x2121), (1, .dat (.int .i64) x2122), (5, .dat (.int .i64) x2153)], []⟩ : St))))) := by
  refine Link.of fun K h => ?_
  simp only [spec_OrderOk_n5, wpO_bind, wpO_cond, wpO_map, wpO_some] at h
  exact Awp.of (by kernel_rfl) h

theorem spec_OrderOk_n6_l (x2121 : List Int) (x2122 : Int) (x2153 : Int) : Link spec_OrderOk_ctx LL (Code.fst (Code.snd (Code.snd (Code.fst (Code.fst (Code.snd (Code.fst (Code.fst (Code.snd (Code.fst (Code.snd (bodyOf Try.f26)))))))))))) (Ann.fst (Ann.snd (Ann.snd (Ann.fst (Ann.fst (Ann.snd (Ann.fst (Ann.fst (Ann.snd (Ann.fst (Ann.snd spec_OrderOk_an))))))))))) (⟨mkE 42 0 [(0, .dat (.list (.int .i64)) x2121), (1, .dat (.int .i64) x2122), (5, .dat (.int .i64) x2153), (6, .dat (.int .i64) 0)], []⟩ : St) (spec_OrderOk_n6 x2121 x2153) (Sum.elim (fun (t : Bool) => (Exit.ret, (⟨mkE 42 0 [(4, .dat .bool t)], []⟩ : St))) (fun (t : Unit) => ((Exit.exit 2), (⟨mkE 42 0 [(0, .dat (.list (.int .i64)) x2121), (1, .dat (.int .i64) x2122), (5, .dat (.int .i64) x2153)], []⟩ : St)))) := by
  unfold spec_OrderOk_n6
  exact Link.cast (by kernel_rfl) (by kernel_rfl) (link_loop (mk := fun (s : Int) => (⟨mkE 42 0 [(0, .dat (.list (.int .i64)) x2121), (1, .dat (.int .i64) x2122), (5, .dat (.int .i64) x2153), (6, .dat (.int .i64) s)], []⟩ : St)) (fin := (Sum.elim (fun (t : Bool) => (Exit.ret, (⟨mkE 42 0 [(4, .dat .bool t)], []⟩ : St))) (fun (t : Unit) => ((Exit.exit 2), (⟨mkE 42 0 [(0, .dat (.list (.int .i64)) x2121), (1, .dat (.int .i64) x2122), (5, .dat (.int .i64) x2153)], []⟩ : St))))) (by
  rintro (t | t) f K h
  · exact h
  · exact h) (fun s => link_map (spec_OrderOk_n5_l x2121 x2122 x2153 s) (Sum.elim (fun (t : Int) => Sum.inl t) (Sum.elim (fun (t : Bool) => Sum.inr (Sum.inl t)) (fun (t : Unit) => Sum.inr (Sum.inr t)))) (by
  rintro (t | t | t)
  · kernel_rfl
  · kernel_rfl
  · kernel_rfl)) 0)

theorem spec_OrderOk_n7_l (x2121 : List Int) (x2122 : Int) (x2153 : Int) : Link spec_OrderOk_ctx LL (Code.snd (Code.snd (Code.fst (Code.fst (Code.snd (Code.fst (Code.fst (Code.snd (Code.fst (Code.snd (bodyOf Try.f26))))))))))) (Ann.snd (Ann.snd (Ann.fst (Ann.fst (Ann.snd (Ann.fst (Ann.fst (Ann.snd (Ann.fst (Ann.snd spec_OrderOk_an)))))))))) (⟨mkE 42 0 [(0, .dat (.list (.int .i64)) x2121), (1, .dat (.int .i64) x2122), (5, .dat (.int .i64) x2153), (6, .dat (.int .i64) 0)], []⟩ : St) (spec_OrderOk_n7 x2121 x2153) (Sum.elim (fun (t : Unit) => (Exit.normal, (⟨mkE 42 0 [(0, .dat (.list (.int .i64)) x2121), (1, .dat (.int .i64) x2122), (5, .dat (.int .i64) x2153)], []⟩ : St))) (fun (t : Bool) => (Exit.ret, (⟨mkE 42 0 [(4, .dat .bool t)], []⟩ : St)))) := by
  unfold spec_OrderOk_n7
  exact Link.cast (by kernel_rfl) (by kernel_rfl) (link_block (id := 2) (spec_OrderOk_n6_l x2121 x2122 x2153) (Sum.elim (fun (t : Bool) => (Sum.inr t)) (fun (t : Unit) => (Sum.inl ()))) (by
  rintro (t | t) K h
  · exact Eq.mp (by kernel_rfl) h
  · exact Eq.mp (by kernel_rfl) h))

theorem spec_OrderOk_n8_l (x2121 : List Int) (x2122 : Int) (x2153 : Int) : Link spec_OrderOk_ctx LL (Code.fst (Code.fst (Code.snd (Code.fst (Code.fst (Code.snd (Code.fst (Code.snd (bodyOf Try.f26))))))))) (Ann.fst (Ann.fst (Ann.snd (Ann.fst (Ann.fst (Ann.snd (Ann.fst (Ann.snd spec_OrderOk_an)))))))) (⟨mkE 42 0 [(0, .dat (.list (.int .i64)) x2121), (1, .dat (.int .i64) x2122), (5, .dat (.int .i64) x2153)], []⟩ : St) (spec_OrderOk_n8 x2121 x2122 x2153) (Sum.elim (fun (t : Unit) => (Exit.normal, (⟨mkE 42 0 [(0, .dat (.list (.int .i64)) x2121), (1, .dat (.int .i64) x2122), (5, .dat (.int .i64) x2153)], []⟩ : St))) (fun (t : Bool) => (Exit.ret, (⟨mkE 42 0 [(4, .dat .bool t)], []⟩ : St)))) := by
  unfold spec_OrderOk_n8
  exact Link.cast (by kernel_rfl) (by kernel_rfl) (link_group (c := (Code.fst (Code.snd (Code.fst (Code.fst (Code.snd (Code.fst (Code.fst (Code.snd (Code.fst (Code.snd (bodyOf Try.f26)))))))))))) (a := (Ann.fst (Ann.snd (Ann.fst (Ann.fst (Ann.snd (Ann.fst (Ann.fst (Ann.snd (Ann.fst (Ann.snd spec_OrderOk_an))))))))))) [(Code.fst (Code.fst (Code.fst (Code.snd (Code.fst (Code.fst (Code.snd (Code.fst (Code.snd (bodyOf Try.f26))))))))))] [(Ann.fst (Ann.fst (Ann.fst (Ann.snd (Ann.fst (Ann.fst (Ann.snd (Ann.fst (Ann.snd spec_OrderOk_an)))))))))] rfl (link_seq2 (b := (Code.snd (Code.snd (Code.fst (Code.fst (Code.snd (Code.fst (Code.fst (Code.snd (Code.fst (Code.snd (bodyOf Try.f26)))))))))))) (y := (Ann.snd (Ann.snd (Ann.fst (Ann.fst (Ann.snd (Ann.fst (Ann.fst (Ann.snd (Ann.fst (Ann.snd spec_OrderOk_an))))))))))) (spec_OrderOk_n4_l x2121 x2122 x2153) (fun (t : Unit) => (spec_OrderOk_n7_l x2121 x2122 x2153)) (fun (t : Bool) => (Sum.inr t)) (by
  rintro t
  · kernel_rfl) (by
  rintro t f K h
  · exact h)))

theorem spec_OrderOk_n9_l (x2121 : List Int) (x2122 : Int) (x2153 : Int) : Link spec_OrderOk_ctx LL (Code.fst (Code.snd (Code.fst (Code.fst (Code.snd (Code.fst (Code.snd (bodyOf Try.f26)))))))) (Ann.fst (Ann.snd (Ann.fst (Ann.fst (Ann.snd (Ann.fst (Ann.snd spec_OrderOk_an))))))) (⟨mkE 42 0 [(0, .dat (.list (.int .i64)) x2121), (1, .dat (.int .i64) x2122), (5, .dat (.int .i64) x2153)], []⟩ : St) (spec_OrderOk_n9 x2121 x2122 x2153) (Sum.elim (fun (t : Unit) => (Exit.normal, (⟨mkE 42 0 [(0, .dat (.list (.int .i64)) x2121), (1, .dat (.int .i64) x2122), (5, .dat (.int .i64) x2153)], []⟩ : St))) (fun (t : Bool) => (Exit.ret, (⟨mkE 42 0 [(4, .dat .bool t)], []⟩ : St)))) := by
  unfold spec_OrderOk_n9
  exact Link.cast (by kernel_rfl) (by kernel_rfl) (link_block (id := 1) (spec_OrderOk_n8_l x2121 x2122 x2153) (Sum.elim (fun (t : Unit) => (Sum.inl ())) (fun (t : Bool) => (Sum.inr t))) (by
  rintro (t | t) K h
  · exact Eq.mp (by kernel_rfl) h
  · exact Eq.mp (by kernel_rfl) h))

theorem spec_OrderOk_n10_l (x2121 : List Int) (x2122 : Int) (x2153 : Int) : Link spec_OrderOk_ctx LL (Code.snd (Code.snd (Code.fst (Code.fst (Code.snd (Code.fst (Code.snd (bodyOf Try.f26)))))))) (Ann.snd (Ann.snd (Ann.fst (Ann.fst (Ann.snd (Ann.fst (Ann.snd spec_OrderOk_an))))))) (⟨mkE 42 0 [(0, .dat (.list (.int .i64)) x2121), (1, .dat (.int .i64) x2122), (5, .dat (.int .i64) x2153)], []⟩ : St) (spec_OrderOk_n10 x2153) (fun (t : Int) => (Exit.normal, (⟨mkE 42 0 [(0, .dat (.list (.int .i64)) x2121), (1, .dat (.int .i64) x2122), (5, .dat (.int .i64) t)], []⟩ : St))) := by
  refine Link.of fun K h => ?_
  simp only [spec_OrderOk_n10, wpO_bind, wpO_cond, wpO_map, wpO_some] at h
  exact Awp.of (by kernel_rfl) h

theorem spec_OrderOk_n11_l (x2121 : List Int) (x2122 : Int) (x2153 : Int) : Link spec_OrderOk_ctx LL (Code.snd (Code.fst (Code.fst (Code.snd (Code.fst (Code.snd (bodyOf Try.f26))))))) (Ann.snd (Ann.fst (Ann.fst (Ann.snd (Ann.fst (Ann.snd spec_OrderOk_an)))))) (⟨mkE 42 0 [(0, .dat (.list (.int .i64)) x2121), (1, .dat (.int .i64) x2122), (5, .dat (.int .i64) x2153)], []⟩ : St) (spec_OrderOk_n11 x2121 x2122 x2153) (Sum.elim (fun (t : Int) => (Exit.normal, (⟨mkE 42 0 [(0, .dat (.list (.int .i64)) x2121), (1, .dat (.int .i64) x2122), (5, .dat (.int .i64) t)], []⟩ : St))) (fun (t : Bool) => (Exit.ret, (⟨mkE 42 0 [(4, .dat .bool t)], []⟩ : St)))) := by
  unfold spec_OrderOk_n11
  exact Link.cast (by kernel_rfl) (by kernel_rfl) (link_seq2 (b := (Code.snd (Code.snd (Code.fst (Code.fst (Code.snd (Code.fst (Code.snd (bodyOf Try.f26))))))))) (y := (Ann.snd (Ann.snd (Ann.fst (Ann.fst (Ann.snd (Ann.fst (Ann.snd spec_OrderOk_an)))))))) (spec_OrderOk_n9_l x2121 x2122 x2153) (fun (t : Unit) => (link_map (spec_OrderOk_n10_l x2121 x2122 x2153) (fun (t : Int) => (Sum.inl t)) (by
  rintro t
  · kernel_rfl))) (fun (t : Bool) => (Sum.inr t)) (by
  rintro t
  · kernel_rfl) (by
  rintro t f K h
  · exact h))

theorem spec_OrderOk_n12_l (x2121 : List Int) (x2122 : Int) (x2153 : Int) : Link spec_OrderOk_ctx LL (Code.fst (Code.fst (Code.snd (Code.fst (Code.snd (bodyOf Try.f26)))))) (Ann.fst (Ann.fst (Ann.snd (Ann.fst (Ann.snd spec_OrderOk_an))))) (⟨mkE 42 0 [(0, .dat (.list (.int .i64)) x2121), (1, .dat (.int .i64) x2122), (5, .dat (.int .i64) x2153)], []⟩ : St) (spec_OrderOk_n12 x2121 x2122 x2153) (Sum.elim (fun (t : Int) => (Exit.normal, (⟨mkE 42 0 [(0, .dat (.list (.int .i64)) x2121), (1, .dat (.int .i64) x2122), (5, .dat (.int .i64) t)], []⟩ : St))) (Sum.elim (fun (t : Bool) => (Exit.ret, (⟨mkE 42 0 [(4, .dat .bool t)], []⟩ : St))) (fun (t : Unit) => ((Exit.exit 0), (⟨mkE 42 0 [(0, .dat (.list (.int .i64)) x2121), (1, .dat (.int .i64) x2122)], []⟩ : St))))) := by
  unfold spec_OrderOk_n12
  exact Link.cast (by kernel_rfl) (by kernel_rfl) (link_seq2 (b := (Code.snd (Code.fst (Code.fst (Code.snd (Code.fst (Code.snd (bodyOf Try.f26)))))))) (y := (Ann.snd (Ann.fst (Ann.fst (Ann.snd (Ann.fst (Ann.snd spec_OrderOk_an))))))) (spec_OrderOk_n3_l x2121 x2122 x2153) (fun (t : Unit) => (link_map (spec_OrderOk_n11_l x2121 x2122 x2153) (Sum.elim (fun (t : Int) => (Sum.inl t)) (fun (t : Bool) => (Sum.inr (Sum.inl t)))) (by
  rintro (t | t)
  · kernel_rfl
  · kernel_rfl))) (fun (t : Unit) => (Sum.inr (Sum.inr t))) (by
  rintro t
  · kernel_rfl) (by
  rintro t f K h
  · exact h))

theorem spec_OrderOk_n13_l (x2121 : List Int) (x2122 : Int) : Link spec_OrderOk_ctx LL (Code.fst (Code.snd (Code.fst (Code.snd (bodyOf Try.f26))))) (Ann.fst (Ann.snd (Ann.fst (Ann.snd spec_OrderOk_an)))) (⟨mkE 42 0 [(0, .dat (.list (.int .i64)) x2121), (1, .dat (.int .i64) x2122), (5, .dat (.int .i64) 0)], []⟩ : St) (spec_OrderOk_n13 x2121 x2122) (Sum.elim (fun (t : Bool) => (Exit.ret, (⟨mkE 42 0 [(4, .dat .bool t)], []⟩ : St))) (fun (t : Unit) => ((Exit.exit 0), (⟨mkE 42 0 [(0, .dat (.list (.int .i64)) x2121), (1, .dat (.int .i64) x2122)], []⟩ : St)))) := by
  unfold spec_OrderOk_n13
  exact Link.cast (by kernel_rfl) (by kernel_rfl) (link_loop (mk := fun (s : Int) => (⟨mkE 42 0 [(0, .dat (.list (.int .i64)) x2121), (1, .dat (.int .i64) x2122), (5, .dat (.int .i64) s)], []⟩ : St)) (fin := (Sum.elim (fun (t : Bool) => (Exit.ret, (⟨mkE 42 0 [(4, .dat .bool t)], []⟩ : St))) (fun (t : Unit) => ((Exit.exit 0), (⟨mkE 42 0 [(0, .dat (.list (.int .i64)) x2121), (1, .dat (.int .i64) x2122)], []⟩ : St))))) (by
  rintro (t | t) f K h
  · exact h
  · exact h) (fun s => link_map (spec_OrderOk_n12_l x2121 x2122 s) (Sum.elim (fun (t : Int) => Sum.inl t) (Sum.elim (fun (t : Bool) => Sum.inr (Sum.inl t)) (fun (t : Unit) => Sum.inr (Sum.inr t)))) (by
  rintro (t | t | t)
  · kernel_rfl
  · kernel_rfl
  · kernel_rfl)) 0)

theorem spec_OrderOk_n14_l (x2121 : List Int) (x2122 : Int) : Link spec_OrderOk_ctx LL (Code.snd (Code.fst (Code.snd (bodyOf Try.f26)))) (Ann.snd (Ann.fst (Ann.snd spec_OrderOk_an))) (⟨mkE 42 0 [(0, .dat (.list (.int .i64)) x2121), (1, .dat (.int .i64) x2122), (5, .dat (.int .i64) 0)], []⟩ : St) (spec_OrderOk_n14 x2121 x2122) (Sum.elim (fun (t : Unit) => (Exit.normal, (⟨mkE 42 0 [(0, .dat (.list (.int .i64)) x2121), (1, .dat (.int .i64) x2122)], []⟩ : St))) (fun (t : Bool) => (Exit.ret, (⟨mkE 42 0 [(4, .dat .bool t)], []⟩ : St)))) := by
  unfold spec_OrderOk_n14
  exact Link.cast (by kernel_rfl) (by kernel_rfl) (link_block (id := 0) (spec_OrderOk_n13_l x2121 x2122) (Sum.elim (fun (t : Bool) => (Sum.inr t)) (fun (t : Unit) => (Sum.inl ()))) (by
  rintro (t | t) K h
  · exact Eq.mp (by kernel_rfl) h
  · exact Eq.mp (by kernel_rfl) h))

theorem spec_OrderOk_n15_l (x2121 : List Int) (x2122 : Int) : Link spec_OrderOk_ctx LL (Code.fst (Code.snd (bodyOf Try.f26))) (Ann.fst (Ann.snd spec_OrderOk_an)) (⟨mkE 42 0 [(0, .dat (.list (.int .i64)) x2121), (1, .dat (.int .i64) x2122)], []⟩ : St) (spec_OrderOk_n15 x2121 x2122) (Sum.elim (fun (t : Unit) => (Exit.normal, (⟨mkE 42 0 [(0, .dat (.list (.int .i64)) x2121), (1, .dat (.int .i64) x2122)], []⟩ : St))) (fun (t : Bool) => (Exit.ret, (⟨mkE 42 0 [(4, .dat .bool t)], []⟩ : St)))) := by
  unfold spec_OrderOk_n15
  exact Link.cast (by kernel_rfl) (by kernel_rfl) (link_seq (b := (Code.snd (Code.fst (Code.snd (bodyOf Try.f26))))) (y := (Ann.snd (Ann.fst (Ann.snd spec_OrderOk_an)))) (spec_OrderOk_n2_l x2121 x2122) (fun (t : Unit) => (spec_OrderOk_n14_l x2121 x2122)))

theorem spec_OrderOk_n16_l (x2121 : List Int) (x2122 : Int) : Link spec_OrderOk_ctx LL (Code.snd (Code.snd (bodyOf Try.f26))) (Ann.snd (Ann.snd spec_OrderOk_an)) (⟨mkE 42 0 [(0, .dat (.list (.int .i64)) x2121), (1, .dat (.int .i64) x2122)], []⟩ : St) (spec_OrderOk_n16 x2121 x2122) (fun (t : Bool) => (Exit.ret, (⟨mkE 42 0 [(4, .dat .bool t)], []⟩ : St))) := by
  refine Link.of fun K h => ?_
  simp only [spec_OrderOk_n16, wpO_bind, wpO_cond, wpO_map, wpO_some] at h
  exact Awp.of (by kernel_rfl) h

theorem spec_OrderOk_n17_l (x2121 : List Int) (x2122 : Int) : Link spec_OrderOk_ctx LL (Code.snd (bodyOf Try.f26)) (Ann.snd spec_OrderOk_an) (⟨mkE 42 0 [(0, .dat (.list (.int .i64)) x2121), (1, .dat (.int .i64) x2122)], []⟩ : St) (spec_OrderOk_n17 x2121 x2122) (fun (t : Bool) => (Exit.ret, (⟨mkE 42 0 [(4, .dat .bool t)], []⟩ : St))) := by
  unfold spec_OrderOk_n17
  exact Link.cast (by kernel_rfl) (by kernel_rfl) (link_seq2 (b := (Code.snd (Code.snd (bodyOf Try.f26)))) (y := (Ann.snd (Ann.snd spec_OrderOk_an))) (spec_OrderOk_n15_l x2121 x2122) (fun (t : Unit) => (spec_OrderOk_n16_l x2121 x2122)) (fun (t : Bool) => t) (by
  rintro t
  · kernel_rfl) (by
  rintro t f K h
  · exact h))

theorem spec_OrderOk_n18_l (x2121 : List Int) (x2122 : Int) : Link spec_OrderOk_ctx LL (bodyOf Try.f26) spec_OrderOk_an (⟨mkE 42 0 [(0, .dat (.list (.int .i64)) x2121), (1, .dat (.int .i64) x2122)], []⟩ : St) (spec_OrderOk_n18 x2121 x2122) (fun (t : Bool) => (Exit.ret, (⟨mkE 42 0 [(4, .dat .bool t)], []⟩ : St))) := by
  unfold spec_OrderOk_n18
  exact Link.cast (by kernel_rfl) (by kernel_rfl) (link_seq (b := (Code.snd (bodyOf Try.f26))) (y := (Ann.snd spec_OrderOk_an)) (spec_OrderOk_n1_l x2121 x2122) (fun (t : Unit) => (spec_OrderOk_n17_l x2121 x2122)))

theorem spec_OrderOk_e (x2121 : List Int) (x2122 : Int) {r : AV} {H' : Heap} (h : (Ans.mk _ (spec_OrderOk x2121 x2122) (fun (t : Bool) => (.dat .bool t, []))).run = some (r, H')) : Awp spec_OrderOk_ctx LL (bodyOf Try.f26) spec_OrderOk_an (⟨mkE 42 0 [(0, .dat (.list (.int .i64)) x2121), (1, .dat (.int .i64) x2122)], []⟩ : St) (Ret (tlook tys) Try.f26.results.toList r H') :=
  ret_of' (spec_OrderOk_n18_l x2121 x2122) (by unfold spec_OrderOk; kernel_rfl) (by
  intro t
  exact ret_mk [.dat .bool t] (by kernel_rfl) (by kernel_rfl) (by kernel_rfl) (by kernel_rfl)) h

def F_spec_OrderOk : Fun := fun avs H =>
  match avs, H with
  | [.dat (.list (.int .i64)) x2121, .dat (.int .i64) x2122], [] => ⟨_, spec_OrderOk x2121 x2122, fun (t : Bool) => (.dat .bool t, [])⟩
  | _, _ => Ans.no

theorem spec_OrderOk_sound : Sound Try.prog 26 F_spec_OrderOk := by
  refine fn_sound' (C := spec_OrderOk_ctx) (c := bodyOf Try.f26) (cok_of tys_ok (List.forall_mem_cons.2 ⟨spec_l1In_sound, by simp⟩) (List.forall_mem_cons.2 ⟨Try.call37, by simp⟩) (by kernel_rfl)) Try.func26 (by kernel_rfl) LL spec_OrderOk_an ?_
  intro avs H r H' h
  unfold F_spec_OrderOk at h
  split at h
  · refine Awp.cast ?_ ?_ ?_ (spec_OrderOk_e _ _ h) <;> kernel_rfl
  · simp [Ans.no, Ans.run] at h

/-! loop.example/headtrees/laws.hasInt -/

def laws_hasInt_an : Ann := (.seq (.leaf [0, 1]) (.seq (.seq (.leaf [0, 1, 5]) (.block (.loop (.seq (.seq (.leaf [0, 1, 5, 9]) (.cond (.leaf [0, 1, 5]) (.leaf []))) (.seq (.block (.seq (.leaf [0, 1, 5, 17]) (.cond (.seq (.leaf [4]) (.leaf [4])) (.leaf [0, 1, 5])))) (.leaf [0, 1, 5])))))) (.seq (.leaf [4]) (.leaf [4]))))

noncomputable def laws_hasInt_ctx : Ctx := ⟨tlook tys, olook [], ioF, 0⟩

theorem laws_hasInt_n1_l (x2239 : List Int) (x2240 : Int) : Link laws_hasInt_ctx LL (Code.fst (bodyOf Try.f27)) (Ann.fst laws_hasInt_an) (⟨mkE 18 0 [(0, .dat (.list (.int .i64)) x2239), (1, .dat (.int .i64) x2240)], []⟩ : St) (laws_hasInt_n1) (fun (t : Unit) => (Exit.normal, (⟨mkE 18 0 [(0, .dat (.list (.int .i64)) x2239), (1, .dat (.int .i64) x2240)], []⟩ : St))) := by
  refine Link.of fun K h => ?_
  simp only [laws_hasInt_n1, wpO_bind, wpO_cond, wpO_map, wpO_some] at h
  exact Awp.of (by kernel_rfl) h

theorem laws_hasInt_n2_l (x2239 : List Int) (x2240 : Int) : Link laws_hasInt_ctx LL (Code.fst (Code.fst (Code.snd (bodyOf Try.f27)))) (Ann.fst (Ann.fst (Ann.snd laws_hasInt_an))) (⟨mkE 18 0 [(0, .dat (.list (.int .i64)) x2239), (1, .dat (.int .i64) x2240)], []⟩ : St) (laws_hasInt_n2) (fun (t : Unit) => (Exit.normal, (⟨mkE 18 0 [(0, .dat (.list (.int .i64)) x2239), (1, .dat (.int .i64) x2240), (5, .dat (.int .i64) 0)], []⟩ : St))) := by
  refine Link.of fun K h => ?_
  simp only [laws_hasInt_n2, wpO_bind, wpO_cond, wpO_map, wpO_some] at h
  exact Awp.of (by kernel_rfl) h

theorem laws_hasInt_n3_l (x2239 : List Int) (x2240 : Int) (x2252 : Int) : Link laws_hasInt_ctx LL (Code.fst (Code.fst (Code.snd (Code.fst (Code.snd (bodyOf Try.f27)))))) (Ann.fst (Ann.fst (Ann.snd (Ann.fst (Ann.snd laws_hasInt_an))))) (⟨mkE 18 0 [(0, .dat (.list (.int .i64)) x2239), (1, .dat (.int .i64) x2240), (5, .dat (.int .i64) x2252)], []⟩ : St) (laws_hasInt_n3 x2239 x2240 x2252) (Sum.elim (fun (t : Int) => (Exit.normal, (⟨mkE 18 0 [(0, .dat (.list (.int .i64)) x2239), (1, .dat (.int .i64) x2240), (5, .dat (.int .i64) t)], []⟩ : St))) (Sum.elim (fun (t : Bool) => (Exit.ret, (⟨mkE 18 0 [(4, .dat .bool t)], []⟩ : St))) (fun (t : Unit) => ((Exit.exit 0), (⟨mkE 18 0 [], []⟩ : St))))) := by
  refine Link.of fun K h => ?_
  simp only [laws_hasInt_n3, wpO_bind, wpO_cond, wpO_map, wpO_some] at h
  exact Awp.of (by kernel_rfl) h

theorem laws_hasInt_n4_l (x2239 : List Int) (x2240 : Int) : Link laws_hasInt_ctx LL (Code.fst (Code.snd (Code.fst (Code.snd (bodyOf Try.f27))))) (Ann.fst (Ann.snd (Ann.fst (Ann.snd laws_hasInt_an)))) (⟨mkE 18 0 [(0, .dat (.list (.int .i64)) x2239), (1, .dat (.int .i64) x2240), (5, .dat (.int .i64) 0)], []⟩ : St) (laws_hasInt_n4 x2239 x2240) (Sum.elim (fun (t : Bool) => (Exit.ret, (⟨mkE 18 0 [(4, .dat .bool t)], []⟩ : St))) (fun (t : Unit) => ((Exit.exit 0), (⟨mkE 18 0 [], []⟩ : St)))) := by
  unfold laws_hasInt_n4
  exact Link.cast (by kernel_rfl) (by kernel_rfl) (link_loop (mk := fun (s : Int) => (⟨mkE 18 0 [(0, .dat (.list (.int .i64)) x2239), (1, .dat (.int .i64) x2240), (5, .dat (.int .i64) s)], []⟩ : St)) (fin := (Sum.elim (fun (t : Bool) => (Exit.ret, (⟨mkE 18 0 [(4, .dat .bool t)], []⟩ : St))) (fun (t : Unit) => ((Exit.exit 0), (⟨mkE 18 0 [], []⟩ : St))))) (by
  rintro (t | t) f K h
  · exact h
  · exact h) (fun s => link_map (laws_hasInt_n3_l x2239 x2240 s) (Sum.elim (fun (t : Int) => Sum.inl t) (Sum.elim (fun (t : Bool) => Sum.inr (Sum.inl t)) (fun (t : Unit) => Sum.inr (Sum.inr t)))) (by
  rintro (t | t | t)
  · kernel_rfl
  · kernel_rfl
  · kernel_rfl)) 0)

theorem laws_hasInt_n5_l (x2239 : List Int) (x2240 : Int) : Link laws_hasInt_ctx LL (Code.snd (Code.fst (Code.snd (bodyOf Try.f27)))) (Ann.snd (Ann.fst (Ann.snd laws_hasInt_an))) (⟨mkE 18 0 [(0, .dat (.list (.int .i64)) x2239), (1, .dat (.int .i64) x2240), (5, .dat (.int .i64) 0)], []⟩ : St) (laws_hasInt_n5 x2239 x2240) (Sum.elim (fun (t : Unit) => (Exit.normal, (⟨mkE 18 0 [], []⟩ : St))) (fun (t : Bool) => (Exit.ret, (⟨mkE 18 0 [(4, .dat .bool t)], []⟩ : St)))) := by
  unfold laws_hasInt_n5
  exact Link.cast (by kernel_rfl) (by kernel_rfl) (link_block (id := 0) (laws_hasInt_n4_l x2239 x2240) (Sum.elim (fun (t : Bool) => (Sum.inr t)) (fun (t : Unit) => (Sum.inl ()))) (by
  rintro (t | t) K h
  · exact Eq.mp (by kernel_rfl) h
  · exact Eq.mp (by kernel_rfl) h))

theorem laws_hasInt_n6_l (x2239 : List Int) (x2240 : Int) : Link laws_hasInt_ctx LL (Code.fst (Code.snd (bodyOf Try.f27))) (Ann.fst (Ann.snd laws_hasInt_an)) (⟨mkE 18 0 [(0, .dat (.list (.int .i64)) x2239), (1, .dat (.int .i64) x2240)], []⟩ : St) (laws_hasInt_n6 x2239 x2240) (Sum.elim (fun (t : Unit) => (Exit.normal, (⟨mkE 18 0 [], []⟩ : St))) (fun (t : Bool) => (Exit.ret, (⟨mkE 18 0 [(4, .dat .bool t)], []⟩ : St)))) := by
  unfold laws_hasInt_n6
  exact Link.cast (by kernel_rfl) (by kernel_rfl) (link_seq (b := (Code.snd (Code.fst (Code.snd (bodyOf Try.f27))))) (y := (Ann.snd (Ann.fst (Ann.snd laws_hasInt_an)))) (laws_hasInt_n2_l x2239 x2240) (fun (t : Unit) => (laws_hasInt_n5_l x2239 x2240)))

theorem laws_hasInt_n7_l : Link laws_hasInt_ctx LL (Code.snd (Code.snd (bodyOf Try.f27))) (Ann.snd (Ann.snd laws_hasInt_an)) (⟨mkE 18 0 [], []⟩ : St) (laws_hasInt_n7) (fun (t : Bool) => (Exit.ret, (⟨mkE 18 0 [(4, .dat .bool t)], []⟩ : St))) := by
  refine Link.of fun K h => ?_
  simp only [laws_hasInt_n7, wpO_bind, wpO_cond, wpO_map, wpO_some] at h
  exact Awp.of (by kernel_rfl) h

theorem laws_hasInt_n8_l (x2239 : List Int) (x2240 : Int) : Link laws_hasInt_ctx LL (Code.snd (bodyOf Try.f27)) (Ann.snd laws_hasInt_an) (⟨mkE 18 0 [(0, .dat (.list (.int .i64)) x2239), (1, .dat (.int .i64) x2240)], []⟩ : St) (laws_hasInt_n8 x2239 x2240) (fun (t : Bool) => (Exit.ret, (⟨mkE 18 0 [(4, .dat .bool t)], []⟩ : St))) := by
  unfold laws_hasInt_n8
  exact Link.cast (by kernel_rfl) (by kernel_rfl) (link_seq2 (b := (Code.snd (Code.snd (bodyOf Try.f27)))) (y := (Ann.snd (Ann.snd laws_hasInt_an))) (laws_hasInt_n6_l x2239 x2240) (fun (t : Unit) => (laws_hasInt_n7_l)) (fun (t : Bool) => t) (by
  rintro t
  · kernel_rfl) (by
  rintro t f K h
  · exact h))

theorem laws_hasInt_n9_l (x2239 : List Int) (x2240 : Int) : Link laws_hasInt_ctx LL (bodyOf Try.f27) laws_hasInt_an (⟨mkE 18 0 [(0, .dat (.list (.int .i64)) x2239), (1, .dat (.int .i64) x2240)], []⟩ : St) (laws_hasInt_n9 x2239 x2240) (fun (t : Bool) => (Exit.ret, (⟨mkE 18 0 [(4, .dat .bool t)], []⟩ : St))) := by
  unfold laws_hasInt_n9
  exact Link.cast (by kernel_rfl) (by kernel_rfl) (link_seq (b := (Code.snd (bodyOf Try.f27))) (y := (Ann.snd laws_hasInt_an)) (laws_hasInt_n1_l x2239 x2240) (fun (t : Unit) => (laws_hasInt_n8_l x2239 x2240)))

theorem laws_hasInt_e (x2239 : List Int) (x2240 : Int) {r : AV} {H' : Heap} (h : (Ans.mk _ (laws_hasInt x2239 x2240) (fun (t : Bool) => (.dat .bool t, []))).run = some (r, H')) : Awp laws_hasInt_ctx LL (bodyOf Try.f27) laws_hasInt_an (⟨mkE 18 0 [(0, .dat (.list (.int .i64)) x2239), (1, .dat (.int .i64) x2240)], []⟩ : St) (Ret (tlook tys) Try.f27.results.toList r H') :=
  ret_of' (laws_hasInt_n9_l x2239 x2240) (by unfold laws_hasInt; kernel_rfl) (by
  intro t
  exact ret_mk [.dat .bool t] (by kernel_rfl) (by kernel_rfl) (by kernel_rfl) (by kernel_rfl)) h

def F_laws_hasInt : Fun := fun avs H =>
  match avs, H with
  | [.dat (.list (.int .i64)) x2239, .dat (.int .i64) x2240], [] => ⟨_, laws_hasInt x2239 x2240, fun (t : Bool) => (.dat .bool t, [])⟩
  | _, _ => Ans.no

theorem laws_hasInt_sound : Sound Try.prog 27 F_laws_hasInt := by
  refine fn_sound' (C := laws_hasInt_ctx) (c := bodyOf Try.f27) (cok_of tys_ok (by simp) (by simp) (by kernel_rfl)) Try.func27 (by kernel_rfl) LL laws_hasInt_an ?_
  intro avs H r H' h
  unfold F_laws_hasInt at h
  split at h
  · refine Awp.cast ?_ ?_ ?_ (laws_hasInt_e _ _ h) <;> kernel_rfl
  · simp [Ans.no, Ans.run] at h

/-! loop.example/headtrees/laws.FnOrderOk -/

def laws_FnOrderOk_an : Ann := (.seq (.leaf [0]) (.seq (.seq (.leaf [0, 11]) (.cond (.seq (.leaf [2]) (.leaf [2])) (.leaf [0]))) (.seq (.leaf [3, 4]) (.seq (.leaf [3, 4, 5]) (.seq (.seq (.leaf [3, 4, 5, 24]) (.cond (.seq (.leaf [2]) (.leaf [2])) (.leaf [3, 4, 5]))) (.seq (.leaf [3, 4, 5, 6]) (.seq (.seq (.leaf [3, 4, 5, 6, 7]) (.block (.loop (.seq (.seq (.leaf [3, 4, 5, 6, 7, 30]) (.cond (.leaf [3, 4, 5, 6, 7]) (.leaf [3, 4, 5, 6]))) (.seq (.block (.leaf [3, 4, 5, 6, 7])) (.leaf [3, 4, 5, 6, 7])))))) (.seq (.seq (.leaf [3, 4, 5, 6, 8]) (.block (.loop (.seq (.seq (.leaf [3, 4, 5, 6, 8, 45]) (.cond (.leaf [3, 4, 5, 6, 8]) (.leaf [4, 5, 6]))) (.seq (.block (.seq (.leaf [3, 4, 5, 6, 8, 51]) (.cond (.seq (.leaf [2]) (.leaf [2])) (.leaf [3, 4, 5, 6, 8])))) (.leaf [3, 4, 5, 6, 8])))))) (.seq (.leaf [2]) (.leaf [2]))))))))))

noncomputable def laws_FnOrderOk_ctx : Ctx := ⟨tlook tys, olook [(24, F_spec_DrawOrderOk), (25, F_impl_OrderOk), (26, F_spec_OrderOk), (27, F_laws_hasInt), (13, F_laws_alive)], ioF, 0⟩

theorem laws_FnOrderOk_n1_l (x1943 : List Int) : Link laws_FnOrderOk_ctx LL (Code.seq (Code.fst (bodyOf Try.f7)) (Code.seq (Code.fst (Code.snd (bodyOf Try.f7))) (Code.seq (Code.fst (Code.snd (Code.snd (bodyOf Try.f7)))) (Code.seq (Code.fst (Code.snd (Code.snd (Code.snd (bodyOf Try.f7))))) (Code.seq (Code.fst (Code.snd (Code.snd (Code.snd (Code.snd (bodyOf Try.f7)))))) (Code.fst (Code.snd (Code.snd (Code.snd (Code.snd (Code.snd (bodyOf Try.f7)))))))))))) (Ann.seq (Ann.fst laws_FnOrderOk_an) (Ann.seq (Ann.fst (Ann.snd laws_FnOrderOk_an)) (Ann.seq (Ann.fst (Ann.snd (Ann.snd laws_FnOrderOk_an))) (Ann.seq (Ann.fst (Ann.snd (Ann.snd (Ann.snd laws_FnOrderOk_an)))) (Ann.seq (Ann.fst (Ann.snd (Ann.snd (Ann.snd (Ann.snd laws_FnOrderOk_an))))) (Ann.fst (Ann.snd (Ann.snd (Ann.snd (Ann.snd (Ann.snd laws_FnOrderOk_an))))))))))) (⟨mkE 69 0 [(0, .dat (.list (.int .u8)) x1943)], []⟩ : St) (laws_FnOrderOk_n1 x1943) (Sum.elim (fun (t : Int × Bool × (List Int)) => (Exit.normal, (⟨mkE 69 0 [(3, .slc 0), (4, .dat (.int .i64) t.1), (5, .dat .bool t.2.1), (6, .slc 1)], [some (.seq (.int .i64) t.2.2), some (.seq (.int .i64) ([] : List Int))]⟩ : St))) (fun (t : Bool) => (Exit.ret, (⟨mkE 69 0 [(2, .dat .bool t)], []⟩ : St)))) := by
  refine Link.of fun K h => ?_
  simp only [laws_FnOrderOk_n1, wpO_bind, wpO_cond, wpO_map, wpO_some] at h
  exact Awp.of (by kernel_rfl) h

theorem laws_FnOrderOk_n2_l (x2196 : Int) (x2198 : Bool) (x2197 : List Int) : Link laws_FnOrderOk_ctx LL (Code.fst (Code.fst (Code.snd (Code.snd (Code.snd (Code.snd (Code.snd (Code.snd (bodyOf Try.f7))))))))) (Ann.fst (Ann.fst (Ann.snd (Ann.snd (Ann.snd (Ann.snd (Ann.snd (Ann.snd laws_FnOrderOk_an)))))))) (⟨mkE 69 0 [(3, .slc 0), (4, .dat (.int .i64) x2196), (5, .dat .bool x2198), (6, .slc 1)], [some (.seq (.int .i64) x2197), some (.seq (.int .i64) ([] : List Int))]⟩ : St) (laws_FnOrderOk_n2 x2197) (fun (t : Int) => (Exit.normal, (⟨mkE 69 0 [(3, .slc 0), (4, .dat (.int .i64) x2196), (5, .dat .bool x2198), (6, .slc 1), (7, .dat (.int .i64) t)], [some (.seq (.int .i64) x2197), some (.seq (.int .i64) ([] : List Int))]⟩ : St))) := by
  refine Link.of fun K h => ?_
  simp only [laws_FnOrderOk_n2, wpO_bind, wpO_cond, wpO_map, wpO_some] at h
  exact Awp.of (by kernel_rfl) h

theorem laws_FnOrderOk_n3_l (x2196 : Int) (x2198 : Bool) (x2219 : Int) (x2197 : List Int) (x2220 : List Int) : Link laws_FnOrderOk_ctx LL (Code.fst (Code.fst (Code.snd (Code.fst (Code.snd (Code.snd (Code.snd (Code.snd (Code.snd (Code.snd (bodyOf Try.f7))))))))))) (Ann.fst (Ann.fst (Ann.snd (Ann.fst (Ann.snd (Ann.snd (Ann.snd (Ann.snd (Ann.snd (Ann.snd laws_FnOrderOk_an)))))))))) (⟨mkE 69 0 [(3, .slc 0), (4, .dat (.int .i64) x2196), (5, .dat .bool x2198), (6, .slc 1), (7, .dat (.int .i64) x2219)], [some (.seq (.int .i64) x2197), some (.seq (.int .i64) x2220)]⟩ : St) (laws_FnOrderOk_n3 x2219 x2197 x2220) (Sum.elim (fun (t : Int × (List Int)) => (Exit.normal, (⟨mkE 69 0 [(3, .slc 0), (4, .dat (.int .i64) x2196), (5, .dat .bool x2198), (6, .slc 1), (7, .dat (.int .i64) t.1)], [some (.seq (.int .i64) x2197), some (.seq (.int .i64) t.2)]⟩ : St))) (fun (t : (List Int)) => ((Exit.exit 0), (⟨mkE 69 0 [(3, .slc 0), (4, .dat (.int .i64) x2196), (5, .dat .bool x2198), (6, .slc 1)], [some (.seq (.int .i64) x2197), some (.seq (.int .i64) t)]⟩ : St)))) := by
  refine Link.of fun K h => ?_
  simp only [laws_FnOrderOk_n3, wpO_bind, wpO_cond, wpO_map, wpO_some] at h
  exact Awp.of (by kernel_rfl) h

theorem laws_FnOrderOk_n4_l (x2196 : Int) (x2198 : Bool) (x2202 : Int) (x2197 : List Int) : Link laws_FnOrderOk_ctx LL (Code.fst (Code.snd (Code.fst (Code.snd (Code.snd (Code.snd (Code.snd (Code.snd (Code.snd (bodyOf Try.f7)))))))))) (Ann.fst (Ann.snd (Ann.fst (Ann.snd (Ann.snd (Ann.snd (Ann.snd (Ann.snd (Ann.snd laws_FnOrderOk_an))))))))) (⟨mkE 69 0 [(3, .slc 0), (4, .dat (.int .i64) x2196), (5, .dat .bool x2198), (6, .slc 1), (7, .dat (.int .i64) x2202)], [some (.seq (.int .i64) x2197), some (.seq (.int .i64) ([] : List Int))]⟩ : St) (laws_FnOrderOk_n4 x2202 x2197) (fun (t : (List Int)) => ((Exit.exit 0), (⟨mkE 69 0 [(3, .slc 0), (4, .dat (.int .i64) x2196), (5, .dat .bool x2198), (6, .slc 1)], [some (.seq (.int .i64) x2197), some (.seq (.int .i64) t)]⟩ : St))) := by
  unfold laws_FnOrderOk_n4
  exact Link.cast (by kernel_rfl) (by kernel_rfl) (link_loop (mk := fun (s : Int × (List Int)) => (⟨mkE 69 0 [(3, .slc 0), (4, .dat (.int .i64) x2196), (5, .dat .bool x2198), (6, .slc 1), (7, .dat (.int .i64) s.1)], [some (.seq (.int .i64) x2197), some (.seq (.int .i64) s.2)]⟩ : St)) (fin := (fun (t : (List Int)) => ((Exit.exit 0), (⟨mkE 69 0 [(3, .slc 0), (4, .dat (.int .i64) x2196), (5, .dat .bool x2198), (6, .slc 1)], [some (.seq (.int .i64) x2197), some (.seq (.int .i64) t)]⟩ : St)))) (by
  rintro t f K h
  · exact h) (fun s => link_map (laws_FnOrderOk_n3_l x2196 x2198 s.1 x2197 s.2) (Sum.elim (fun (t : Int × (List Int)) => Sum.inl (t.1, t.2)) (fun (t : (List Int)) => Sum.inr t)) (by
  rintro (t | t)
  · kernel_rfl
  · kernel_rfl)) (x2202, ([] : List Int)))

theorem laws_FnOrderOk_n5_l (x2196 : Int) (x2198 : Bool) (x2202 : Int) (x2197 : List Int) : Link laws_FnOrderOk_ctx LL (Code.snd (Code.fst (Code.snd (Code.snd (Code.snd (Code.snd (Code.snd (Code.snd (bodyOf Try.f7))))))))) (Ann.snd (Ann.fst (Ann.snd (Ann.snd (Ann.snd (Ann.snd (Ann.snd (Ann.snd laws_FnOrderOk_an)))))))) (⟨mkE 69 0 [(3, .slc 0), (4, .dat (.int .i64) x2196), (5, .dat .bool x2198), (6, .slc 1), (7, .dat (.int .i64) x2202)], [some (.seq (.int .i64) x2197), some (.seq (.int .i64) ([] : List Int))]⟩ : St) (laws_FnOrderOk_n5 x2202 x2197) (fun (t : (List Int)) => (Exit.normal, (⟨mkE 69 0 [(3, .slc 0), (4, .dat (.int .i64) x2196), (5, .dat .bool x2198), (6, .slc 1)], [some (.seq (.int .i64) x2197), some (.seq (.int .i64) t)]⟩ : St))) := by
  unfold laws_FnOrderOk_n5
  exact Link.cast (by kernel_rfl) (by kernel_rfl) (link_block (id := 0) (laws_FnOrderOk_n4_l x2196 x2198 x2202 x2197) (fun (t : (List Int)) => t) (by
  rintro t K h
  · exact Eq.mp (by kernel_rfl) h))

theorem laws_FnOrderOk_n6_l (x2196 : Int) (x2198 : Bool) (x2197 : List Int) : Link laws_FnOrderOk_ctx LL (Code.fst (Code.snd (Code.snd (Code.snd (Code.snd (Code.snd (Code.snd (bodyOf Try.f7)))))))) (Ann.fst (Ann.snd (Ann.snd (Ann.snd (Ann.snd (Ann.snd (Ann.snd laws_FnOrderOk_an))))))) (⟨mkE 69 0 [(3, .slc 0), (4, .dat (.int .i64) x2196), (5, .dat .bool x2198), (6, .slc 1)], [some (.seq (.int .i64) x2197), some (.seq (.int .i64) ([] : List Int))]⟩ : St) (laws_FnOrderOk_n6 x2197) (fun (t : (List Int)) => (Exit.normal, (⟨mkE 69 0 [(3, .slc 0), (4, .dat (.int .i64) x2196), (5, .dat .bool x2198), (6, .slc 1)], [some (.seq (.int .i64) x2197), some (.seq (.int .i64) t)]⟩ : St))) := by
  unfold laws_FnOrderOk_n6
  exact Link.cast (by kernel_rfl) (by kernel_rfl) (link_seq (b := (Code.snd (Code.fst (Code.snd (Code.snd (Code.snd (Code.snd (Code.snd (Code.snd (bodyOf Try.f7)))))))))) (y := (Ann.snd (Ann.fst (Ann.snd (Ann.snd (Ann.snd (Ann.snd (Ann.snd (Ann.snd laws_FnOrderOk_an))))))))) (laws_FnOrderOk_n2_l x2196 x2198 x2197) (fun (t : Int) => (laws_FnOrderOk_n5_l x2196 x2198 t x2197)))

theorem laws_FnOrderOk_n7_l (x2196 : Int) (x2198 : Bool) (x2197 : List Int) (x2220 : List Int) : Link laws_FnOrderOk_ctx LL (Code.fst (Code.fst (Code.snd (Code.snd (Code.snd (Code.snd (Code.snd (Code.snd (Code.snd (bodyOf Try.f7)))))))))) (Ann.fst (Ann.fst (Ann.snd (Ann.snd (Ann.snd (Ann.snd (Ann.snd (Ann.snd (Ann.snd laws_FnOrderOk_an))))))))) (⟨mkE 69 0 [(3, .slc 0), (4, .dat (.int .i64) x2196), (5, .dat .bool x2198), (6, .slc 1)], [some (.seq (.int .i64) x2197), some (.seq (.int .i64) x2220)]⟩ : St) (laws_FnOrderOk_n7) (fun (t : Unit) => (Exit.normal, (⟨mkE 69 0 [(3, .slc 0), (4, .dat (.int .i64) x2196), (5, .dat .bool x2198), (6, .slc 1), (8, .dat (.int .i64) 1)], [some (.seq (.int .i64) x2197), some (.seq (.int .i64) x2220)]⟩ : St))) := by
  refine Link.of fun K h => ?_
  simp only [laws_FnOrderOk_n7, wpO_bind, wpO_cond, wpO_map, wpO_some] at h
  exact Awp.of (by kernel_rfl) h

theorem laws_FnOrderOk_n8_l (x2196 : Int) (x2198 : Bool) (x2271 : Int) (x2197 : List Int) (x2220 : List Int) : Link laws_FnOrderOk_ctx LL (Code.fst (Code.fst (Code.snd (Code.fst (Code.snd (Code.snd (Code.snd (Code.snd (Code.snd (Code.snd (Code.snd (bodyOf Try.f7)))))))))))) (Ann.fst (Ann.fst (Ann.snd (Ann.fst (Ann.snd (Ann.snd (Ann.snd (Ann.snd (Ann.snd (Ann.snd (Ann.snd laws_FnOrderOk_an))))))))))) (⟨mkE 69 0 [(3, .slc 0), (4, .dat (.int .i64) x2196), (5, .dat .bool x2198), (6, .slc 1), (8, .dat (.int .i64) x2271)], [some (.seq (.int .i64) x2197), some (.seq (.int .i64) x2220)]⟩ : St) (laws_FnOrderOk_n8 x2196 x2198 x2271 x2197) (Sum.elim (fun (t : Int) => (Exit.normal, (⟨mkE 69 0 [(3, .slc 0), (4, .dat (.int .i64) x2196), (5, .dat .bool x2198), (6, .slc 1), (8, .dat (.int .i64) t)], [some (.seq (.int .i64) x2197), some (.seq (.int .i64) x2220)]⟩ : St))) (Sum.elim (fun (t : Bool) => (Exit.ret, (⟨mkE 69 0 [(2, .dat .bool t)], []⟩ : St))) (fun (t : Unit) => ((Exit.exit 2), (⟨mkE 69 0 [(4, .dat (.int .i64) x2196), (5, .dat .bool x2198), (6, .slc 0)], [some (.seq (.int .i64) x2220)]⟩ : St))))) := by
  refine Link.of fun K h => ?_
  simp only [laws_FnOrderOk_n8, wpO_bind, wpO_cond, wpO_map, wpO_some] at h
  exact Awp.of (by kernel_rfl) h

theorem laws_FnOrderOk_n9_l (x2196 : Int) (x2198 : Bool) (x2197 : List Int) (x2220 : List Int) : Link laws_FnOrderOk_ctx LL (Code.fst (Code.snd (Code.fst (Code.snd (Code.snd (Code.snd (Code.snd (Code.snd (Code.snd (Code.snd (bodyOf Try.f7))))))))))) (Ann.fst (Ann.snd (Ann.fst (Ann.snd (Ann.snd (Ann.snd (Ann.snd (Ann.snd (Ann.snd (Ann.snd laws_FnOrderOk_an)))))))))) (⟨mkE 69 0 [(3, .slc 0), (4, .dat (.int .i64) x2196), (5, .dat .bool x2198), (6, .slc 1), (8, .dat (.int .i64) 1)], [some (.seq (.int .i64) x2197), some (.seq (.int .i64) x2220)]⟩ : St) (laws_FnOrderOk_n9 x2196 x2198 x2197) (Sum.elim (fun (t : Bool) => (Exit.ret, (⟨mkE 69 0 [(2, .dat .bool t)], []⟩ : St))) (fun (t : Unit) => ((Exit.exit 2), (⟨mkE 69 0 [(4, .dat (.int .i64) x2196), (5, .dat .bool x2198), (6, .slc 0)], [some (.seq (.int .i64) x2220)]⟩ : St)))) := by
  unfold laws_FnOrderOk_n9
  exact Link.cast (by kernel_rfl) (by kernel_rfl) (link_loop (mk := fun (s : Int) => (⟨mkE 69 0 [(3, .slc 0), (4, .dat (.int .i64) x2196), (5, .dat .bool x2198), (6, .slc 1), (8, .dat (.int .i64) s)], [some (.seq (.int .i64) x2197), some (.seq (.int .i64) x2220)]⟩ : St)) (fin := (Sum.elim (fun (t : Bool) => (Exit.ret, (⟨mkE 69 0 [(2, .dat .bool t)], []⟩ : St))) (fun (t : Unit) => ((Exit.exit 2), (⟨mkE 69 0 [(4, .dat (.int .i64) x2196), (5, .dat .bool x2198), (6, .slc 0)], [some (.seq (.int .i64) x2220)]⟩ : St))))) (by
  rintro (t | t) f K h
  · exact h
  · exact h) (fun s => link_map (laws_FnOrderOk_n8_l x2196 x2198 s x2197 x2220) (Sum.elim (fun (t : Int) => Sum.inl t) (Sum.elim (fun (t : Bool) => Sum.inr (Sum.inl t)) (fun (t : Unit) => Sum.inr (Sum.inr t)))) (by
  rintro (t | t | t)
  · kernel_rfl
  · kernel_rfl
  · kernel_rfl)) 1)

theorem laws_FnOrderOk_n10_l (x2196 : Int) (x2198 : Bool) (x2197 : List Int) (x2220 : List Int) : Link laws_FnOrderOk_ctx LL (Code.snd (Code.fst (Code.snd (Code.snd (Code.snd (Code.snd (Code.snd (Code.snd (Code.snd (bodyOf Try.f7)))))))))) (Ann.snd (Ann.fst (Ann.snd (Ann.snd (Ann.snd (Ann.snd (Ann.snd (Ann.snd (Ann.snd laws_FnOrderOk_an))))))))) (⟨mkE 69 0 [(3, .slc 0), (4, .dat (.int .i64) x2196), (5, .dat .bool x2198), (6, .slc 1), (8, .dat (.int .i64) 1)], [some (.seq (.int .i64) x2197), some (.seq (.int .i64) x2220)]⟩ : St) (laws_FnOrderOk_n10 x2196 x2198 x2197) (Sum.elim (fun (t : Unit) => (Exit.normal, (⟨mkE 69 0 [(4, .dat (.int .i64) x2196), (5, .dat .bool x2198), (6, .slc 0)], [some (.seq (.int .i64) x2220)]⟩ : St))) (fun (t : Bool) => (Exit.ret, (⟨mkE 69 0 [(2, .dat .bool t)], []⟩ : St)))) := by
  unfold laws_FnOrderOk_n10
  exact Link.cast (by kernel_rfl) (by kernel_rfl) (link_block (id := 2) (laws_FnOrderOk_n9_l x2196 x2198 x2197 x2220) (Sum.elim (fun (t : Bool) => (Sum.inr t)) (fun (t : Unit) => (Sum.inl ()))) (by
  rintro (t | t) K h
  · exact Eq.mp (by kernel_rfl) h
  · exact Eq.mp (by kernel_rfl) h))

theorem laws_FnOrderOk_n11_l (x2196 : Int) (x2198 : Bool) (x2197 : List Int) (x2220 : List Int) : Link laws_FnOrderOk_ctx LL (Code.fst (Code.snd (Code.snd (Code.snd (Code.snd (Code.snd (Code.snd (Code.snd (bodyOf Try.f7))))))))) (Ann.fst (Ann.snd (Ann.snd (Ann.snd (Ann.snd (Ann.snd (Ann.snd (Ann.snd laws_FnOrderOk_an)))))))) (⟨mkE 69 0 [(3, .slc 0), (4, .dat (.int .i64) x2196), (5, .dat .bool x2198), (6, .slc 1)], [some (.seq (.int .i64) x2197), some (.seq (.int .i64) x2220)]⟩ : St) (laws_FnOrderOk_n11 x2196 x2198 x2197) (Sum.elim (fun (t : Unit) => (Exit.normal, (⟨mkE 69 0 [(4, .dat (.int .i64) x2196), (5, .dat .bool x2198), (6, .slc 0)], [some (.seq (.int .i64) x2220)]⟩ : St))) (fun (t : Bool) => (Exit.ret, (⟨mkE 69 0 [(2, .dat .bool t)], []⟩ : St)))) := by
  unfold laws_FnOrderOk_n11
  exact Link.cast (by kernel_rfl) (by kernel_rfl) (link_seq (b := (Code.snd (Code.fst (Code.snd (Code.snd (Code.snd (Code.snd (Code.snd (Code.snd (Code.snd (bodyOf Try.f7))))))))))) (y := (Ann.snd (Ann.fst (Ann.snd (Ann.snd (Ann.snd (Ann.snd (Ann.snd (Ann.snd (Ann.snd laws_FnOrderOk_an)))))))))) (laws_FnOrderOk_n7_l x2196 x2198 x2197 x2220) (fun (t : Unit) => (laws_FnOrderOk_n10_l x2196 x2198 x2197 x2220)))

theorem laws_FnOrderOk_n12_l (x2196 : Int) (x2198 : Bool) (x2220 : List Int) : Link laws_FnOrderOk_ctx LL (Code.snd (Code.snd (Code.snd (Code.snd (Code.snd (Code.snd (Code.snd (Code.snd (bodyOf Try.f7))))))))) (Ann.snd (Ann.snd (Ann.snd (Ann.snd (Ann.snd (Ann.snd (Ann.snd (Ann.snd laws_FnOrderOk_an)))))))) (⟨mkE 69 0 [(4, .dat (.int .i64) x2196), (5, .dat .bool x2198), (6, .slc 0)], [some (.seq (.int .i64) x2220)]⟩ : St) (laws_FnOrderOk_n12 x2196 x2198 x2220) (fun (t : Bool) => (Exit.ret, (⟨mkE 69 0 [(2, .dat .bool t)], []⟩ : St))) := by
  refine Link.of fun K h => ?_
  simp only [laws_FnOrderOk_n12, wpO_bind, wpO_cond, wpO_map, wpO_some] at h
  exact Awp.of (by kernel_rfl) h

theorem laws_FnOrderOk_n13_l (x2196 : Int) (x2198 : Bool) (x2197 : List Int) (x2220 : List Int) : Link laws_FnOrderOk_ctx LL (Code.snd (Code.snd (Code.snd (Code.snd (Code.snd (Code.snd (Code.snd (bodyOf Try.f7)))))))) (Ann.snd (Ann.snd (Ann.snd (Ann.snd (Ann.snd (Ann.snd (Ann.snd laws_FnOrderOk_an))))))) (⟨mkE 69 0 [(3, .slc 0), (4, .dat (.int .i64) x2196), (5, .dat .bool x2198), (6, .slc 1)], [some (.seq (.int .i64) x2197), some (.seq (.int .i64) x2220)]⟩ : St) (laws_FnOrderOk_n13 x2196 x2198 x2197 x2220) (fun (t : Bool) => (Exit.ret, (⟨mkE 69 0 [(2, .dat .bool t)], []⟩ : St))) := by
  unfold laws_FnOrderOk_n13
  exact Link.cast (by kernel_rfl) (by kernel_rfl) (link_seq2 (b := (Code.snd (Code.snd (Code.snd (Code.snd (Code.snd (Code.snd (Code.snd (Code.snd (bodyOf Try.f7)))))))))) (y := (Ann.snd (Ann.snd (Ann.snd (Ann.snd (Ann.snd (Ann.snd (Ann.snd (Ann.snd laws_FnOrderOk_an))))))))) (laws_FnOrderOk_n11_l x2196 x2198 x2197 x2220) (fun (t : Unit) => (laws_FnOrderOk_n12_l x2196 x2198 x2220)) (fun (t : Bool) => t) (by
  rintro t
  · kernel_rfl) (by
  rintro t f K h
  · exact h))

theorem laws_FnOrderOk_n14_l (x2196 : Int) (x2198 : Bool) (x2197 : List Int) : Link laws_FnOrderOk_ctx LL (Code.snd (Code.snd (Code.snd (Code.snd (Code.snd (Code.snd (bodyOf Try.f7))))))) (Ann.snd (Ann.snd (Ann.snd (Ann.snd (Ann.snd (Ann.snd laws_FnOrderOk_an)))))) (⟨mkE 69 0 [(3, .slc 0), (4, .dat (.int .i64) x2196), (5, .dat .bool x2198), (6, .slc 1)], [some (.seq (.int .i64) x2197), some (.seq (.int .i64) ([] : List Int))]⟩ : St) (laws_FnOrderOk_n14 x2196 x2198 x2197) (fun (t : Bool) => (Exit.ret, (⟨mkE 69 0 [(2, .dat .bool t)], []⟩ : St))) := by
  unfold laws_FnOrderOk_n14
  exact Link.cast (by kernel_rfl) (by kernel_rfl) (link_seq (b := (Code.snd (Code.snd (Code.snd (Code.snd (Code.snd (Code.snd (Code.snd (bodyOf Try.f7))))))))) (y := (Ann.snd (Ann.snd (Ann.snd (Ann.snd (Ann.snd (Ann.snd (Ann.snd laws_FnOrderOk_an)))))))) (laws_FnOrderOk_n6_l x2196 x2198 x2197) (fun (t : (List Int)) => (laws_FnOrderOk_n13_l x2196 x2198 x2197 t)))

theorem laws_FnOrderOk_n15_l (x1943 : List Int) : Link laws_FnOrderOk_ctx LL (bodyOf Try.f7) laws_FnOrderOk_an (⟨mkE 69 0 [(0, .dat (.list (.int .u8)) x1943)], []⟩ : St) (laws_FnOrderOk_n15 x1943) (fun (t : Bool) => (Exit.ret, (⟨mkE 69 0 [(2, .dat .bool t)], []⟩ : St))) := by
  unfold laws_FnOrderOk_n15
  exact Link.cast (by kernel_rfl) (by kernel_rfl) (link_group (c := (Code.fst (Code.snd (Code.snd (Code.snd (Code.snd (Code.snd (bodyOf Try.f7)))))))) (a := (Ann.fst (Ann.snd (Ann.snd (Ann.snd (Ann.snd (Ann.snd laws_FnOrderOk_an))))))) [(Code.fst (bodyOf Try.f7)), (Code.fst (Code.snd (bodyOf Try.f7))), (Code.fst (Code.snd (Code.snd (bodyOf Try.f7)))), (Code.fst (Code.snd (Code.snd (Code.snd (bodyOf Try.f7))))), (Code.fst (Code.snd (Code.snd (Code.snd (Code.snd (bodyOf Try.f7))))))] [(Ann.fst laws_FnOrderOk_an), (Ann.fst (Ann.snd laws_FnOrderOk_an)), (Ann.fst (Ann.snd (Ann.snd laws_FnOrderOk_an))), (Ann.fst (Ann.snd (Ann.snd (Ann.snd laws_FnOrderOk_an)))), (Ann.fst (Ann.snd (Ann.snd (Ann.snd (Ann.snd laws_FnOrderOk_an)))))] rfl (link_seq2 (b := (Code.snd (Code.snd (Code.snd (Code.snd (Code.snd (Code.snd (bodyOf Try.f7)))))))) (y := (Ann.snd (Ann.snd (Ann.snd (Ann.snd (Ann.snd (Ann.snd laws_FnOrderOk_an))))))) (laws_FnOrderOk_n1_l x1943) (fun (t : Int × Bool × (List Int)) => (laws_FnOrderOk_n14_l t.1 t.2.1 t.2.2)) (fun (t : Bool) => t) (by
  rintro t
  · kernel_rfl) (by
  rintro t f K h
  · exact h)))

theorem laws_FnOrderOk_e (x1943 : List Int) {r : AV} {H' : Heap} (h : (Ans.mk _ (laws_FnOrderOk x1943) (fun (t : Bool) => (.dat .bool t, []))).run = some (r, H')) : Awp laws_FnOrderOk_ctx LL (bodyOf Try.f7) laws_FnOrderOk_an (⟨mkE 69 0 [(0, .dat (.list (.int .u8)) x1943)], []⟩ : St) (Ret (tlook tys) Try.f7.results.toList r H') :=
  ret_of' (laws_FnOrderOk_n15_l x1943) (by unfold laws_FnOrderOk; kernel_rfl) (by
  intro t
  exact ret_mk [.dat .bool t] (by kernel_rfl) (by kernel_rfl) (by kernel_rfl) (by kernel_rfl)) h

def F_laws_FnOrderOk : Fun := fun avs H =>
  match avs, H with
  | [.dat (.list (.int .u8)) x1943], [] => ⟨_, laws_FnOrderOk x1943, fun (t : Bool) => (.dat .bool t, [])⟩
  | _, _ => Ans.no

theorem laws_FnOrderOk_sound : Sound Try.prog 7 F_laws_FnOrderOk := by
  refine fn_sound' (C := laws_FnOrderOk_ctx) (c := bodyOf Try.f7) (cok_of tys_ok (List.forall_mem_cons.2 ⟨spec_DrawOrderOk_sound, List.forall_mem_cons.2 ⟨impl_OrderOk_sound, List.forall_mem_cons.2 ⟨spec_OrderOk_sound, List.forall_mem_cons.2 ⟨laws_hasInt_sound, List.forall_mem_cons.2 ⟨laws_alive_sound, by simp⟩⟩⟩⟩⟩) (List.forall_mem_cons.2 ⟨Try.call24, List.forall_mem_cons.2 ⟨Try.call25, List.forall_mem_cons.2 ⟨Try.call26, List.forall_mem_cons.2 ⟨Try.call27, List.forall_mem_cons.2 ⟨Try.call13, by simp⟩⟩⟩⟩⟩) (by kernel_rfl)) Try.func7 (by kernel_rfl) LL laws_FnOrderOk_an ?_
  intro avs H r H' h
  unfold F_laws_FnOrderOk at h
  split at h
  · refine Awp.cast ?_ ?_ ?_ (laws_FnOrderOk_e _ h) <;> kernel_rfl
  · simp [Ans.no, Ans.run] at h

/-! loop.example/headtrees/spec.DrawPutInOrder -/

def spec_DrawPutInOrder_an : Ann := (.seq (.leaf [0]) (.seq (.leaf [4]) (.seq (.leaf [4, 5]) (.seq (.leaf [2, 3]) (.leaf [2, 3])))))

noncomputable def spec_DrawPutInOrder_ctx : Ctx := ⟨tlook tys, olook [(34, F_spec_l20Open), (33, F_spec_l20Tree), (39, F_spec_l20Rd_pick), (41, F_spec_l20Order)], ioF, 0⟩

theorem spec_DrawPutInOrder_n1_l (x2301 : List Int) : Link spec_DrawPutInOrder_ctx LL (bodyOf Try.f28) spec_DrawPutInOrder_an (⟨mkE 20 0 [(0, .dat (.list (.int .u8)) x2301)], []⟩ : St) (spec_DrawPutInOrder_n1 x2301) (fun (t : (List Int) × (List Int)) => (Exit.ret, (⟨mkE 20 0 [(2, .slc 0), (3, .slc 1)], [some (.seq (.int .i64) t.1), some (.seq (.int .i64) t.2)]⟩ : St))) := by
  refine Link.of fun K h => ?_
  simp only [spec_DrawPutInOrder_n1, wpO_bind, wpO_cond, wpO_map, wpO_some] at h
  exact Awp.of (by kernel_rfl) h

theorem spec_DrawPutInOrder_e (x2301 : List Int) {r : AV} {H' : Heap} (h : (Ans.mk _ (spec_DrawPutInOrder x2301) (fun (t : (List Int) × (List Int)) => (.tup [.slc 0, .slc 1], [some (.seq (.int .i64) t.1), some (.seq (.int .i64) t.2)]))).run = some (r, H')) : Awp spec_DrawPutInOrder_ctx LL (bodyOf Try.f28) spec_DrawPutInOrder_an (⟨mkE 20 0 [(0, .dat (.list (.int .u8)) x2301)], []⟩ : St) (Ret (tlook tys) Try.f28.results.toList r H') :=
  ret_of' (spec_DrawPutInOrder_n1_l x2301) (by unfold spec_DrawPutInOrder; kernel_rfl) (by
  intro t
  exact ret_mk [.slc 0, .slc 1] (by kernel_rfl) (by kernel_rfl) (by kernel_rfl) (by kernel_rfl)) h

def F_spec_DrawPutInOrder : Fun := fun avs H =>
  match avs, H with
  | [.dat (.list (.int .u8)) x2301], [] => ⟨_, spec_DrawPutInOrder x2301, fun (t : (List Int) × (List Int)) => (.tup [.slc 0, .slc 1], [some (.seq (.int .i64) t.1), some (.seq (.int .i64) t.2)])⟩
  | _, _ => Ans.no

theorem spec_DrawPutInOrder_sound : Sound Try.prog 28 F_spec_DrawPutInOrder := by
  refine fn_sound' (C := spec_DrawPutInOrder_ctx) (c := bodyOf Try.f28) (cok_of tys_ok (List.forall_mem_cons.2 ⟨spec_l20Open_sound, List.forall_mem_cons.2 ⟨spec_l20Tree_sound, List.forall_mem_cons.2 ⟨spec_l20Rd_pick_sound, List.forall_mem_cons.2 ⟨spec_l20Order_sound, by simp⟩⟩⟩⟩) (List.forall_mem_cons.2 ⟨Try.call34, List.forall_mem_cons.2 ⟨Try.call33, List.forall_mem_cons.2 ⟨Try.call39, List.forall_mem_cons.2 ⟨Try.call41, by simp⟩⟩⟩⟩) (by kernel_rfl)) Try.func28 (by kernel_rfl) LL spec_DrawPutInOrder_an ?_
  intro avs H r H' h
  unfold F_spec_DrawPutInOrder at h
  split at h
  · refine Awp.cast ?_ ?_ ?_ (spec_DrawPutInOrder_e _ h) <;> kernel_rfl
  · simp [Ans.no, Ans.run] at h

/-! loop.example/headtrees/impl.placesIn -/

def impl_placesIn_an : Ann := (.seq (.leaf [0]) (.seq (.leaf [0, 3]) (.seq (.seq (.leaf [3, 10, 11, 12]) (.block (.loop (.seq (.leaf [3, 10, 11, 12, 13]) (.seq (.cond (.leaf [3, 10, 11, 12]) (.leaf [3])) (.seq (.block (.seq (.leaf [3, 4, 5, 10, 11, 12]) (.leaf [3, 10, 11, 12]))) (.leaf [3, 10, 11, 12]))))))) (.seq (.leaf [2]) (.leaf [2])))))

noncomputable def impl_placesIn_ctx : Ctx := ⟨tlook tys, olook [], ioF, 0⟩

theorem impl_placesIn_n1_l (x2358 : List Int) : Link impl_placesIn_ctx LL (Code.seq (Code.fst (bodyOf Try.f42)) (Code.fst (Code.snd (bodyOf Try.f42)))) (Ann.seq (Ann.fst impl_placesIn_an) (Ann.fst (Ann.snd impl_placesIn_an))) (⟨mkE 24 0 [(0, .dat (.list (.int .i64)) x2358)], []⟩ : St) (impl_placesIn_n1 x2358) (fun (t : (List Int)) => (Exit.normal, (⟨mkE 24 0 [(0, .dat (.list (.int .i64)) x2358), (3, .slc 0)], [some (.seq (.int .i64) t)]⟩ : St))) := by
  refine Link.of fun K h => ?_
  simp only [impl_placesIn_n1, wpO_bind, wpO_cond, wpO_map, wpO_some] at h
  exact Awp.of (by kernel_rfl) h

theorem impl_placesIn_n2_l (x2358 : List Int) (x2362 : List Int) : Link impl_placesIn_ctx LL (Code.fst (Code.fst (Code.snd (Code.snd (bodyOf Try.f42))))) (Ann.fst (Ann.fst (Ann.snd (Ann.snd impl_placesIn_an)))) (⟨mkE 24 0 [(0, .dat (.list (.int .i64)) x2358), (3, .slc 0)], [some (.seq (.int .i64) x2362)]⟩ : St) (impl_placesIn_n2 x2358) (fun (t : Int) => (Exit.normal, (⟨mkE 24 0 [(3, .slc 0), (10, .dat (.list (.int .i64)) x2358), (11, .dat (.int .i64) t), (12, .dat (.int .i64) 0)], [some (.seq (.int .i64) x2362)]⟩ : St))) := by
  refine Link.of fun K h => ?_
  simp only [impl_placesIn_n2, wpO_bind, wpO_cond, wpO_map, wpO_some] at h
  exact Awp.of (by kernel_rfl) h

theorem impl_placesIn_n3_l (x2358 : List Int) (x2363 : Int) (x2377 : Int) (x2378 : List Int) : Link impl_placesIn_ctx LL (Code.fst (Code.fst (Code.snd (Code.fst (Code.snd (Code.snd (bodyOf Try.f42))))))) (Ann.fst (Ann.fst (Ann.snd (Ann.fst (Ann.snd (Ann.snd impl_placesIn_an)))))) (⟨mkE 24 0 [(3, .slc 0), (10, .dat (.list (.int .i64)) x2358), (11, .dat (.int .i64) x2363), (12, .dat (.int .i64) x2377)], [some (.seq (.int .i64) x2378)]⟩ : St) (impl_placesIn_n3 x2358 x2363 x2377 x2378) (Sum.elim (fun (t : Int × (List Int)) => (Exit.normal, (⟨mkE 24 0 [(3, .slc 0), (10, .dat (.list (.int .i64)) x2358), (11, .dat (.int .i64) x2363), (12, .dat (.int .i64) t.1)], [some (.seq (.int .i64) t.2)]⟩ : St))) (fun (t : (List Int)) => ((Exit.exit 0), (⟨mkE 24 0 [(3, .slc 0)], [some (.seq (.int .i64) t)]⟩ : St)))) := by
  refine Link.of fun K h => ?_
  simp only [impl_placesIn_n3, wpO_bind, wpO_cond, wpO_map, wpO_some] at h
  exact Awp.of (by kernel_rfl) h

theorem impl_placesIn_n4_l (x2358 : List Int) (x2363 : Int) (x2362 : List Int) : Link impl_placesIn_ctx LL (Code.fst (Code.snd (Code.fst (Code.snd (Code.snd (bodyOf Try.f42)))))) (Ann.fst (Ann.snd (Ann.fst (Ann.snd (Ann.snd impl_placesIn_an))))) (⟨mkE 24 0 [(3, .slc 0), (10, .dat (.list (.int .i64)) x2358), (11, .dat (.int .i64) x2363), (12, .dat (.int .i64) 0)], [some (.seq (.int .i64) x2362)]⟩ : St) (impl_placesIn_n4 x2358 x2363 x2362) (fun (t : (List Int)) => ((Exit.exit 0), (⟨mkE 24 0 [(3, .slc 0)], [some (.seq (.int .i64) t)]⟩ : St))) := by
  unfold impl_placesIn_n4
  exact Link.cast (by kernel_rfl) (by kernel_rfl) (link_loop (mk := fun (s : Int × (List Int)) => (⟨mkE 24 0 [(3, .slc 0), (10, .dat (.list (.int .i64)) x2358), (11, .dat (.int .i64) x2363), (12, .dat (.int .i64) s.1)], [some (.seq (.int .i64) s.2)]⟩ : St)) (fin := (fun (t : (List Int)) => ((Exit.exit 0), (⟨mkE 24 0 [(3, .slc 0)], [some (.seq (.int .i64) t)]⟩ : St)))) (by
  rintro t f K h
  · exact h) (fun s => link_map (impl_placesIn_n3_l x2358 x2363 s.1 s.2) (Sum.elim (fun (t : Int × (List Int)) => Sum.inl (t.1, t.2)) (fun (t : (List Int)) => Sum.inr t)) (by
  rintro (t | t)
  · kernel_rfl
  · kernel_rfl)) (0, x2362))

theorem impl_placesIn_n5_l (x2358 : List Int) (x2363 : Int) (x2362 : List Int) : Link impl_placesIn_ctx LL (Code.snd (Code.fst (Code.snd (Code.snd (bodyOf Try.f42))))) (Ann.snd (Ann.fst (Ann.snd (Ann.snd impl_placesIn_an)))) (⟨mkE 24 0 [(3, .slc 0), (10, .dat (.list (.int .i64)) x2358), (11, .dat (.int .i64) x2363), (12, .dat (.int .i64) 0)], [some (.seq (.int .i64) x2362)]⟩ : St) (impl_placesIn_n5 x2358 x2363 x2362) (fun (t : (List Int)) => (Exit.normal, (⟨mkE 24 0 [(3, .slc 0)], [some (.seq (.int .i64) t)]⟩ : St))) := by
  unfold impl_placesIn_n5
  exact Link.cast (by kernel_rfl) (by kernel_rfl) (link_block (id := 0) (impl_placesIn_n4_l x2358 x2363 x2362) (fun (t : (List Int)) => t) (by
  rintro t K h
  · exact Eq.mp (by kernel_rfl) h))

theorem impl_placesIn_n6_l (x2358 : List Int) (x2362 : List Int) : Link impl_placesIn_ctx LL (Code.fst (Code.snd (Code.snd (bodyOf Try.f42)))) (Ann.fst (Ann.snd (Ann.snd impl_placesIn_an))) (⟨mkE 24 0 [(0, .dat (.list (.int .i64)) x2358), (3, .slc 0)], [some (.seq (.int .i64) x2362)]⟩ : St) (impl_placesIn_n6 x2358 x2362) (fun (t : (List Int)) => (Exit.normal, (⟨mkE 24 0 [(3, .slc 0)], [some (.seq (.int .i64) t)]⟩ : St))) := by
  unfold impl_placesIn_n6
  exact Link.cast (by kernel_rfl) (by kernel_rfl) (link_seq (b := (Code.snd (Code.fst (Code.snd (Code.snd (bodyOf Try.f42)))))) (y := (Ann.snd (Ann.fst (Ann.snd (Ann.snd impl_placesIn_an))))) (impl_placesIn_n2_l x2358 x2362) (fun (t : Int) => (impl_placesIn_n5_l x2358 t x2362)))

theorem impl_placesIn_n7_l (x2378 : List Int) : Link impl_placesIn_ctx LL (Code.snd (Code.snd (Code.snd (bodyOf Try.f42)))) (Ann.snd (Ann.snd (Ann.snd impl_placesIn_an))) (⟨mkE 24 0 [(3, .slc 0)], [some (.seq (.int .i64) x2378)]⟩ : St) (impl_placesIn_n7 x2378) (fun (t : (List Int)) => (Exit.ret, (⟨mkE 24 0 [(2, .slc 0)], [some (.seq (.int .i64) t)]⟩ : St))) := by
  refine Link.of fun K h => ?_
  simp only [impl_placesIn_n7, wpO_bind, wpO_cond, wpO_map, wpO_some] at h
  exact Awp.of (by kernel_rfl) h

theorem impl_placesIn_n8_l (x2358 : List Int) (x2362 : List Int) : Link impl_placesIn_ctx LL (Code.snd (Code.snd (bodyOf Try.f42))) (Ann.snd (Ann.snd impl_placesIn_an)) (⟨mkE 24 0 [(0, .dat (.list (.int .i64)) x2358), (3, .slc 0)], [some (.seq (.int .i64) x2362)]⟩ : St) (impl_placesIn_n8 x2358 x2362) (fun (t : (List Int)) => (Exit.ret, (⟨mkE 24 0 [(2, .slc 0)], [some (.seq (.int .i64) t)]⟩ : St))) := by
  unfold impl_placesIn_n8
  exact Link.cast (by kernel_rfl) (by kernel_rfl) (link_seq (b := (Code.snd (Code.snd (Code.snd (bodyOf Try.f42))))) (y := (Ann.snd (Ann.snd (Ann.snd impl_placesIn_an)))) (impl_placesIn_n6_l x2358 x2362) (fun (t : (List Int)) => (impl_placesIn_n7_l t)))

theorem impl_placesIn_n9_l (x2358 : List Int) : Link impl_placesIn_ctx LL (bodyOf Try.f42) impl_placesIn_an (⟨mkE 24 0 [(0, .dat (.list (.int .i64)) x2358)], []⟩ : St) (impl_placesIn_n9 x2358) (fun (t : (List Int)) => (Exit.ret, (⟨mkE 24 0 [(2, .slc 0)], [some (.seq (.int .i64) t)]⟩ : St))) := by
  unfold impl_placesIn_n9
  exact Link.cast (by kernel_rfl) (by kernel_rfl) (link_group (c := (Code.fst (Code.snd (bodyOf Try.f42)))) (a := (Ann.fst (Ann.snd impl_placesIn_an))) [(Code.fst (bodyOf Try.f42))] [(Ann.fst impl_placesIn_an)] rfl (link_seq (b := (Code.snd (Code.snd (bodyOf Try.f42)))) (y := (Ann.snd (Ann.snd impl_placesIn_an))) (impl_placesIn_n1_l x2358) (fun (t : (List Int)) => (impl_placesIn_n8_l x2358 t))))

theorem impl_placesIn_e (x2358 : List Int) {r : AV} {H' : Heap} (h : (Ans.mk _ (impl_placesIn x2358) (fun (t : (List Int)) => (.slc 0, [some (.seq (.int .i64) t)]))).run = some (r, H')) : Awp impl_placesIn_ctx LL (bodyOf Try.f42) impl_placesIn_an (⟨mkE 24 0 [(0, .dat (.list (.int .i64)) x2358)], []⟩ : St) (Ret (tlook tys) Try.f42.results.toList r H') :=
  ret_of' (impl_placesIn_n9_l x2358) (by unfold impl_placesIn; kernel_rfl) (by
  intro t
  exact ret_mk [.slc 0] (by kernel_rfl) (by kernel_rfl) (by kernel_rfl) (by kernel_rfl)) h

def F_impl_placesIn : Fun := fun avs H =>
  match avs, H with
  | [.dat (.list (.int .i64)) x2358], [] => ⟨_, impl_placesIn x2358, fun (t : (List Int)) => (.slc 0, [some (.seq (.int .i64) t)])⟩
  | _, _ => Ans.no

theorem impl_placesIn_sound : Sound Try.prog 42 F_impl_placesIn := by
  refine fn_sound' (C := impl_placesIn_ctx) (c := bodyOf Try.f42) (cok_of tys_ok (by simp) (by simp) (by kernel_rfl)) Try.func42 (by kernel_rfl) LL impl_placesIn_an ?_
  intro avs H r H' h
  unfold F_impl_placesIn at h
  split at h
  · refine Awp.cast ?_ ?_ ?_ (impl_placesIn_e _ h) <;> kernel_rfl
  · simp [Ans.no, Ans.run] at h

/-! loop.example/headtrees/impl.PutInOrder$1 -/

def impl_PutInOrder_1_an : Ann := (.seq (.leaf [0, 1]) (.seq (.leaf [3]) (.leaf [3])))

noncomputable def impl_PutInOrder_1_ctx : Ctx := ⟨tlook tys, olook [], ioF, 2⟩

theorem impl_PutInOrder_1_n1_l (x2412 : Int) (x2413 : List Int) : Link impl_PutInOrder_1_ctx LL (bodyOf Try.f44) impl_PutInOrder_1_an (⟨mkE 8 0 [(0, .dat (.int .i64) x2412), (1, .ptr 0 0)], [some (.box [.slc 1]), some (.seq (.int .i64) x2413)]⟩ : St) (impl_PutInOrder_1_n1 x2412 x2413) (fun (t : Int) => (Exit.ret, (⟨mkE 8 0 [(3, .dat (.int .i64) t)], [some (.box [.slc 1]), some (.seq (.int .i64) x2413)]⟩ : St))) := by
  refine Link.of fun K h => ?_
  simp only [impl_PutInOrder_1_n1, wpO_bind, wpO_cond, wpO_map, wpO_some] at h
  exact Awp.of (by kernel_rfl) h

theorem impl_PutInOrder_1_e (x2412 : Int) (x2413 : List Int) {r : AV} {H' : Heap} (h : (Ans.mk _ (impl_PutInOrder_1 x2412 x2413) (fun (t : Int) => (.dat (.int .i64) t, [some (.box [.slc 1]), some (.seq (.int .i64) x2413)]))).run = some (r, H')) : Awp impl_PutInOrder_1_ctx LL (bodyOf Try.f44) impl_PutInOrder_1_an (⟨mkE 8 0 [(0, .dat (.int .i64) x2412), (1, .ptr 0 0)], [some (.box [.slc 1]), some (.seq (.int .i64) x2413)]⟩ : St) (Ret (tlook tys) Try.f44.results.toList r H') :=
  ret_of' (impl_PutInOrder_1_n1_l x2412 x2413) (by unfold impl_PutInOrder_1; kernel_rfl) (by
  intro t
  exact ret_mk [.dat (.int .i64) t] (by kernel_rfl) (by kernel_rfl) (by kernel_rfl) (by kernel_rfl)) h

def F_impl_PutInOrder_1 : Fun := fun avs H =>
  match avs, H with
  | [.dat (.int .i64) x2412, .ptr 0 0], [some (.box [.slc 1]), some (.seq (.int .i64) x2413)] => ⟨_, impl_PutInOrder_1 x2412 x2413, fun (t : Int) => (.dat (.int .i64) t, [some (.box [.slc 1]), some (.seq (.int .i64) x2413)])⟩
  | _, _ => Ans.no

theorem impl_PutInOrder_1_sound : Sound Try.prog 44 F_impl_PutInOrder_1 := by
  refine fn_sound' (C := impl_PutInOrder_1_ctx) (c := bodyOf Try.f44) (cok_of tys_ok (by simp) (by simp) (by kernel_rfl)) Try.func44 (by kernel_rfl) LL impl_PutInOrder_1_an ?_
  intro avs H r H' h
  unfold F_impl_PutInOrder_1 at h
  split at h
  · refine Awp.cast ?_ ?_ ?_ (impl_PutInOrder_1_e _ _ h) <;> kernel_rfl
  · simp [Ans.no, Ans.run] at h

/-! loop.example/headtrees/impl.renamed[int] -/

def impl_renamed_int_an : Ann := (.seq (.leaf [0, 1, 2]) (.seq (.leaf [0, 1, 2, 7]) (.seq (.seq (.leaf [0, 2, 7, 13, 14, 15]) (.block (.loop (.seq (.leaf [0, 2, 7, 13, 14, 15, 16]) (.seq (.cond (.leaf [0, 2, 7, 13, 14, 15]) (.leaf [7])) (.seq (.block (.seq (.leaf [0, 2, 7, 8, 9, 13, 14, 15]) (.leaf [0, 2, 7, 13, 14, 15]))) (.leaf [0, 2, 7, 13, 14, 15]))))))) (.seq (.leaf [6]) (.leaf [6])))))

noncomputable def impl_renamed_int_ctx : Ctx := ⟨tlook tys, olook [(44, F_impl_PutInOrder_1)], ioF, 2⟩

theorem impl_renamed_int_n1_l (x2399 : List Int) (x2400 : List Int) (x2401 : List Int) : Link impl_renamed_int_ctx LL (Code.seq (Code.fst (bodyOf Try.f43)) (Code.fst (Code.snd (bodyOf Try.f43)))) (Ann.seq (Ann.fst impl_renamed_int_an) (Ann.fst (Ann.snd impl_renamed_int_an))) (⟨mkE 32 0 [(0, .dat (.list (.int .i64)) x2399), (1, .dat (.list (.int .i64)) x2400), (2, .fn 44 [] [.ptr 0 0])], [some (.box [.slc 1]), some (.seq (.int .i64) x2401)]⟩ : St) (impl_renamed_int_n1 x2400) (fun (t : (List Int)) => (Exit.normal, (⟨mkE 32 0 [(0, .dat (.list (.int .i64)) x2399), (1, .dat (.list (.int .i64)) x2400), (2, .fn 44 [] [.ptr 0 0]), (7, .slc 2)], [some (.box [.slc 1]), some (.seq (.int .i64) x2401), some (.seq (.int .i64) t)]⟩ : St))) := by
  refine Link.of fun K h => ?_
  simp only [impl_renamed_int_n1, wpO_bind, wpO_cond, wpO_map, wpO_some] at h
  exact Awp.of (by kernel_rfl) h

theorem impl_renamed_int_n2_l (x2399 : List Int) (x2400 : List Int) (x2401 : List Int) (x2404 : List Int) : Link impl_renamed_int_ctx LL (Code.fst (Code.fst (Code.snd (Code.snd (bodyOf Try.f43))))) (Ann.fst (Ann.fst (Ann.snd (Ann.snd impl_renamed_int_an)))) (⟨mkE 32 0 [(0, .dat (.list (.int .i64)) x2399), (1, .dat (.list (.int .i64)) x2400), (2, .fn 44 [] [.ptr 0 0]), (7, .slc 2)], [some (.box [.slc 1]), some (.seq (.int .i64) x2401), some (.seq (.int .i64) x2404)]⟩ : St) (impl_renamed_int_n2 x2400) (fun (t : Int) => (Exit.normal, (⟨mkE 32 0 [(0, .dat (.list (.int .i64)) x2399), (2, .fn 44 [] [.ptr 0 0]), (7, .slc 2), (13, .dat (.list (.int .i64)) x2400), (14, .dat (.int .i64) t), (15, .dat (.int .i64) 0)], [some (.box [.slc 1]), some (.seq (.int .i64) x2401), some (.seq (.int .i64) x2404)]⟩ : St))) := by
  refine Link.of fun K h => ?_
  simp only [impl_renamed_int_n2, wpO_bind, wpO_cond, wpO_map, wpO_some] at h
  exact Awp.of (by kernel_rfl) h

end Go.Rv
