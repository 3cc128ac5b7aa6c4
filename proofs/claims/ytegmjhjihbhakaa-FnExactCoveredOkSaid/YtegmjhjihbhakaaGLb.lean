/-
  The checked code answers as the plain functions do; written by program. Conditions: none.
-/
import Derived.Test.YtegmjhjihbhakaaGLa
set_option linter.unusedVariables false
set_option linter.unusedSimpArgs false
set_option maxRecDepth 100000
namespace Go.Rv
open Go.Proofs
theorem spec_TreeOk_n17_l (x1674 : List Int) (x1687 : Int) : Link spec_TreeOk_ctx LL (Code.fst (Code.snd (Code.fst (Code.snd (Code.snd (Code.snd (Code.snd (bodyOf Try.f16)))))))) (Ann.fst (Ann.snd (Ann.fst (Ann.snd (Ann.snd (Ann.snd (Ann.snd spec_TreeOk_an))))))) (⟨mkE 65 0 [(0, .dat (.list (.int .i64)) x1674), (3, .dat (.int .i64) x1687), (4, .dat (.int .i64) 0), (5, .dat (.int .i64) 0)], []⟩ : St) (spec_TreeOk_n17 x1674 x1687) (Sum.elim (fun (t : Bool) => (Exit.ret, (⟨mkE 65 0 [(2, .dat .bool t)], []⟩ : St))) (fun (t : Int) => ((Exit.exit 0), (⟨mkE 65 0 [(4, .dat (.int .i64) t)], []⟩ : St)))) := by
  unfold spec_TreeOk_n17
  exact Link.cast (by kernel_rfl) (by kernel_rfl) (link_loop (mk := fun (s : Int × Int) => (⟨mkE 65 0 [(0, .dat (.list (.int .i64)) x1674), (3, .dat (.int .i64) x1687), (4, .dat (.int .i64) s.1), (5, .dat (.int .i64) s.2)], []⟩ : St)) (fin := (Sum.elim (fun (t : Bool) => (Exit.ret, (⟨mkE 65 0 [(2, .dat .bool t)], []⟩ : St))) (fun (t : Int) => ((Exit.exit 0), (⟨mkE 65 0 [(4, .dat (.int .i64) t)], []⟩ : St))))) (by
  rintro (t | t) f K h
  · exact h
  · exact h) (fun s => link_map (spec_TreeOk_n16_l x1674 x1687 s.1 s.2) (Sum.elim (fun (t : Int × Int) => Sum.inl (t.1, t.2)) (Sum.elim (fun (t : Bool) => Sum.inr (Sum.inl t)) (fun (t : Int) => Sum.inr (Sum.inr t)))) (by
  rintro (t | t | t)
  · kernel_rfl
  · kernel_rfl
  · kernel_rfl)) (0, 0))

theorem spec_TreeOk_n18_l (x1674 : List Int) (x1687 : Int) : Link spec_TreeOk_ctx LL (Code.snd (Code.fst (Code.snd (Code.snd (Code.snd (Code.snd (bodyOf Try.f16))))))) (Ann.snd (Ann.fst (Ann.snd (Ann.snd (Ann.snd (Ann.snd spec_TreeOk_an)))))) (⟨mkE 65 0 [(0, .dat (.list (.int .i64)) x1674), (3, .dat (.int .i64) x1687), (4, .dat (.int .i64) 0), (5, .dat (.int .i64) 0)], []⟩ : St) (spec_TreeOk_n18 x1674 x1687) (Sum.elim (fun (t : Int) => (Exit.normal, (⟨mkE 65 0 [(4, .dat (.int .i64) t)], []⟩ : St))) (fun (t : Bool) => (Exit.ret, (⟨mkE 65 0 [(2, .dat .bool t)], []⟩ : St)))) := by
  unfold spec_TreeOk_n18
  exact Link.cast (by kernel_rfl) (by kernel_rfl) (link_block (id := 0) (spec_TreeOk_n17_l x1674 x1687) (Sum.elim (fun (t : Bool) => (Sum.inr t)) (fun (t : Int) => (Sum.inl t))) (by
  rintro (t | t) K h
  · exact Eq.mp (by kernel_rfl) h
  · exact Eq.mp (by kernel_rfl) h))

theorem spec_TreeOk_n19_l (x1674 : List Int) (x1687 : Int) : Link spec_TreeOk_ctx LL (Code.fst (Code.snd (Code.snd (Code.snd (Code.snd (bodyOf Try.f16)))))) (Ann.fst (Ann.snd (Ann.snd (Ann.snd (Ann.snd spec_TreeOk_an))))) (⟨mkE 65 0 [(0, .dat (.list (.int .i64)) x1674), (3, .dat (.int .i64) x1687), (4, .dat (.int .i64) 0)], []⟩ : St) (spec_TreeOk_n19 x1674 x1687) (Sum.elim (fun (t : Int) => (Exit.normal, (⟨mkE 65 0 [(4, .dat (.int .i64) t)], []⟩ : St))) (fun (t : Bool) => (Exit.ret, (⟨mkE 65 0 [(2, .dat .bool t)], []⟩ : St)))) := by
  unfold spec_TreeOk_n19
  exact Link.cast (by kernel_rfl) (by kernel_rfl) (link_seq (b := (Code.snd (Code.fst (Code.snd (Code.snd (Code.snd (Code.snd (bodyOf Try.f16)))))))) (y := (Ann.snd (Ann.fst (Ann.snd (Ann.snd (Ann.snd (Ann.snd spec_TreeOk_an))))))) (spec_TreeOk_n2_l x1674 x1687) (fun (t : Unit) => (spec_TreeOk_n18_l x1674 x1687)))

theorem spec_TreeOk_n20_l (x1754 : Int) : Link spec_TreeOk_ctx LL (Code.snd (Code.snd (Code.snd (Code.snd (Code.snd (bodyOf Try.f16)))))) (Ann.snd (Ann.snd (Ann.snd (Ann.snd (Ann.snd spec_TreeOk_an))))) (⟨mkE 65 0 [(4, .dat (.int .i64) x1754)], []⟩ : St) (spec_TreeOk_n20 x1754) (fun (t : Bool) => (Exit.ret, (⟨mkE 65 0 [(2, .dat .bool t)], []⟩ : St))) := by
  refine Link.of fun K h => ?_
  simp only [spec_TreeOk_n20, wpO_bind, wpO_cond, wpO_map, wpO_some] at h
  exact Awp.of (by kernel_rfl) h

theorem spec_TreeOk_n21_l (x1674 : List Int) (x1687 : Int) : Link spec_TreeOk_ctx LL (Code.snd (Code.snd (Code.snd (Code.snd (bodyOf Try.f16))))) (Ann.snd (Ann.snd (Ann.snd (Ann.snd spec_TreeOk_an)))) (⟨mkE 65 0 [(0, .dat (.list (.int .i64)) x1674), (3, .dat (.int .i64) x1687), (4, .dat (.int .i64) 0)], []⟩ : St) (spec_TreeOk_n21 x1674 x1687) (fun (t : Bool) => (Exit.ret, (⟨mkE 65 0 [(2, .dat .bool t)], []⟩ : St))) := by
  unfold spec_TreeOk_n21
  exact Link.cast (by kernel_rfl) (by kernel_rfl) (link_seq2 (b := (Code.snd (Code.snd (Code.snd (Code.snd (Code.snd (bodyOf Try.f16))))))) (y := (Ann.snd (Ann.snd (Ann.snd (Ann.snd (Ann.snd spec_TreeOk_an)))))) (spec_TreeOk_n19_l x1674 x1687) (fun (t : Int) => (spec_TreeOk_n20_l t)) (fun (t : Bool) => t) (by
  rintro t
  · kernel_rfl) (by
  rintro t f K h
  · exact h))

theorem spec_TreeOk_n22_l (x1674 : List Int) : Link spec_TreeOk_ctx LL (bodyOf Try.f16) spec_TreeOk_an (⟨mkE 65 0 [(0, .dat (.list (.int .i64)) x1674)], []⟩ : St) (spec_TreeOk_n22 x1674) (fun (t : Bool) => (Exit.ret, (⟨mkE 65 0 [(2, .dat .bool t)], []⟩ : St))) := by
  unfold spec_TreeOk_n22
  exact Link.cast (by kernel_rfl) (by kernel_rfl) (link_group (c := (Code.fst (Code.snd (Code.snd (Code.snd (bodyOf Try.f16)))))) (a := (Ann.fst (Ann.snd (Ann.snd (Ann.snd spec_TreeOk_an))))) [(Code.fst (bodyOf Try.f16)), (Code.fst (Code.snd (bodyOf Try.f16))), (Code.fst (Code.snd (Code.snd (bodyOf Try.f16))))] [(Ann.fst spec_TreeOk_an), (Ann.fst (Ann.snd spec_TreeOk_an)), (Ann.fst (Ann.snd (Ann.snd spec_TreeOk_an)))] rfl (link_seq2 (b := (Code.snd (Code.snd (Code.snd (Code.snd (bodyOf Try.f16)))))) (y := (Ann.snd (Ann.snd (Ann.snd (Ann.snd spec_TreeOk_an))))) (spec_TreeOk_n1_l x1674) (fun (t : Int) => (spec_TreeOk_n21_l x1674 t)) (fun (t : Bool) => t) (by
  rintro t
  · kernel_rfl) (by
  rintro t f K h
  · exact h)))

theorem spec_TreeOk_e (x1674 : List Int) {r : AV} {H' : Heap} (h : (Ans.mk _ (spec_TreeOk x1674) (fun (t : Bool) => (.dat .bool t, []))).run = some (r, H')) : Awp spec_TreeOk_ctx LL (bodyOf Try.f16) spec_TreeOk_an (⟨mkE 65 0 [(0, .dat (.list (.int .i64)) x1674)], []⟩ : St) (Ret (tlook tys) Try.f16.results.toList r H') :=
  ret_of' (spec_TreeOk_n22_l x1674) (by unfold spec_TreeOk; kernel_rfl) (by
  intro t
  exact ret_mk [.dat .bool t] (by kernel_rfl) (by kernel_rfl) (by kernel_rfl) (by kernel_rfl)) h

def F_spec_TreeOk : Fun := fun avs H =>
  match avs, H with
  | [.dat (.list (.int .i64)) x1674], [] => ⟨_, spec_TreeOk x1674, fun (t : Bool) => (.dat .bool t, [])⟩
  | _, _ => Ans.no

theorem spec_TreeOk_sound : Sound Try.prog 16 F_spec_TreeOk := by
  refine fn_sound' (C := spec_TreeOk_ctx) (c := bodyOf Try.f16) (cok_of tys_ok (List.forall_mem_cons.2 ⟨spec_l1In_sound, by simp⟩) (List.forall_mem_cons.2 ⟨Try.call37, by simp⟩) (by kernel_rfl)) Try.func16 (by kernel_rfl) LL spec_TreeOk_an ?_
  intro avs H r H' h
  unfold F_spec_TreeOk at h
  split at h
  · refine Awp.cast ?_ ?_ ?_ (spec_TreeOk_e _ h) <;> kernel_rfl
  · simp [Ans.no, Ans.run] at h

/-! loop.example/headtrees/spec.CoveredOk -/

def spec_CoveredOk_an : Ann := (.seq (.leaf [0, 1]) (.seq (.leaf [0, 1, 5]) (.seq (.seq (.leaf [0, 1, 5, 6]) (.block (.loop (.seq (.seq (.leaf [0, 1, 5, 6, 22]) (.cond (.leaf [0, 1, 5, 6]) (.leaf []))) (.seq (.block (.seq (.leaf [0, 1, 5, 6, 42]) (.cond (.seq (.leaf [4]) (.leaf [4])) (.leaf [0, 1, 5, 6])))) (.leaf [0, 1, 5, 6])))))) (.seq (.leaf [4]) (.leaf [4])))))

noncomputable def spec_CoveredOk_ctx : Ctx := ⟨tlook tys, olook [(36, F_spec_l3Arcs), (16, F_spec_TreeOk), (37, F_spec_l1In)], ioF, 0⟩

theorem spec_CoveredOk_n1_l (x1580 : List Int) (x1581 : Int) : Link spec_CoveredOk_ctx LL (Code.seq (Code.fst (bodyOf Try.f15)) (Code.fst (Code.snd (bodyOf Try.f15)))) (Ann.seq (Ann.fst spec_CoveredOk_an) (Ann.fst (Ann.snd spec_CoveredOk_an))) (⟨mkE 43 0 [(0, .dat (.list (.int .i64)) x1580), (1, .dat (.int .i64) x1581)], []⟩ : St) (spec_CoveredOk_n1 x1580) (fun (t : (List (List Int))) => (Exit.normal, (⟨mkE 43 0 [(0, .dat (.list (.int .i64)) x1580), (1, .dat (.int .i64) x1581), (5, .slc 0)], [some (.seq (.list (.int .i64)) t)]⟩ : St))) := by
  refine Link.of fun K h => ?_
  simp only [spec_CoveredOk_n1, wpO_bind, wpO_cond, wpO_map, wpO_some] at h
  exact Awp.of (by kernel_rfl) h

theorem spec_CoveredOk_n2_l (x1580 : List Int) (x1581 : Int) (x1671 : List (List Int)) : Link spec_CoveredOk_ctx LL (Code.fst (Code.fst (Code.snd (Code.snd (bodyOf Try.f15))))) (Ann.fst (Ann.fst (Ann.snd (Ann.snd spec_CoveredOk_an)))) (⟨mkE 43 0 [(0, .dat (.list (.int .i64)) x1580), (1, .dat (.int .i64) x1581), (5, .slc 0)], [some (.seq (.list (.int .i64)) x1671)]⟩ : St) (spec_CoveredOk_n2) (fun (t : Unit) => (Exit.normal, (⟨mkE 43 0 [(0, .dat (.list (.int .i64)) x1580), (1, .dat (.int .i64) x1581), (5, .slc 0), (6, .dat (.int .i64) 0)], [some (.seq (.list (.int .i64)) x1671)]⟩ : St))) := by
  refine Link.of fun K h => ?_
  simp only [spec_CoveredOk_n2, wpO_bind, wpO_cond, wpO_map, wpO_some] at h
  exact Awp.of (by kernel_rfl) h

theorem spec_CoveredOk_n3_l (x1580 : List Int) (x1581 : Int) (x1855 : Int) (x1671 : List (List Int)) : Link spec_CoveredOk_ctx LL (Code.fst (Code.fst (Code.snd (Code.fst (Code.snd (Code.snd (bodyOf Try.f15))))))) (Ann.fst (Ann.fst (Ann.snd (Ann.fst (Ann.snd (Ann.snd spec_CoveredOk_an)))))) (⟨mkE 43 0 [(0, .dat (.list (.int .i64)) x1580), (1, .dat (.int .i64) x1581), (5, .slc 0), (6, .dat (.int .i64) x1855)], [some (.seq (.list (.int .i64)) x1671)]⟩ : St) (spec_CoveredOk_n3 x1580 x1581 x1855 x1671) (Sum.elim (fun (t : Int) => (Exit.normal, (⟨mkE 43 0 [(0, .dat (.list (.int .i64)) x1580), (1, .dat (.int .i64) x1581), (5, .slc 0), (6, .dat (.int .i64) t)], [some (.seq (.list (.int .i64)) x1671)]⟩ : St))) (Sum.elim (fun (t : Bool) => (Exit.ret, (⟨mkE 43 0 [(4, .dat .bool t)], []⟩ : St))) (fun (t : Unit) => ((Exit.exit 0), (⟨mkE 43 0 [], []⟩ : St))))) := by
  refine Link.of fun K h => ?_
  simp only [spec_CoveredOk_n3, wpO_bind, wpO_cond, wpO_map, wpO_some] at h
  exact Awp.of (by kernel_rfl) h

theorem spec_CoveredOk_n4_l (x1580 : List Int) (x1581 : Int) (x1671 : List (List Int)) : Link spec_CoveredOk_ctx LL (Code.fst (Code.snd (Code.fst (Code.snd (Code.snd (bodyOf Try.f15)))))) (Ann.fst (Ann.snd (Ann.fst (Ann.snd (Ann.snd spec_CoveredOk_an))))) (⟨mkE 43 0 [(0, .dat (.list (.int .i64)) x1580), (1, .dat (.int .i64) x1581), (5, .slc 0), (6, .dat (.int .i64) 0)], [some (.seq (.list (.int .i64)) x1671)]⟩ : St) (spec_CoveredOk_n4 x1580 x1581 x1671) (Sum.elim (fun (t : Bool) => (Exit.ret, (⟨mkE 43 0 [(4, .dat .bool t)], []⟩ : St))) (fun (t : Unit) => ((Exit.exit 0), (⟨mkE 43 0 [], []⟩ : St)))) := by
  unfold spec_CoveredOk_n4
  exact Link.cast (by kernel_rfl) (by kernel_rfl) (link_loop (mk := fun (s : Int) => (⟨mkE 43 0 [(0, .dat (.list (.int .i64)) x1580), (1, .dat (.int .i64) x1581), (5, .slc 0), (6, .dat (.int .i64) s)], [some (.seq (.list (.int .i64)) x1671)]⟩ : St)) (fin := (Sum.elim (fun (t : Bool) => (Exit.ret, (⟨mkE 43 0 [(4, .dat .bool t)], []⟩ : St))) (fun (t : Unit) => ((Exit.exit 0), (⟨mkE 43 0 [], []⟩ : St))))) (by
  rintro (t | t) f K h
  · exact h
  · exact h) (fun s => link_map (spec_CoveredOk_n3_l x1580 x1581 s x1671) (Sum.elim (fun (t : Int) => Sum.inl t) (Sum.elim (fun (t : Bool) => Sum.inr (Sum.inl t)) (fun (t : Unit) => Sum.inr (Sum.inr t)))) (by
  rintro (t | t | t)
  · kernel_rfl
  · kernel_rfl
  · kernel_rfl)) 0)

theorem spec_CoveredOk_n5_l (x1580 : List Int) (x1581 : Int) (x1671 : List (List Int)) : Link spec_CoveredOk_ctx LL (Code.snd (Code.fst (Code.snd (Code.snd (bodyOf Try.f15))))) (Ann.snd (Ann.fst (Ann.snd (Ann.snd spec_CoveredOk_an)))) (⟨mkE 43 0 [(0, .dat (.list (.int .i64)) x1580), (1, .dat (.int .i64) x1581), (5, .slc 0), (6, .dat (.int .i64) 0)], [some (.seq (.list (.int .i64)) x1671)]⟩ : St) (spec_CoveredOk_n5 x1580 x1581 x1671) (Sum.elim (fun (t : Unit) => (Exit.normal, (⟨mkE 43 0 [], []⟩ : St))) (fun (t : Bool) => (Exit.ret, (⟨mkE 43 0 [(4, .dat .bool t)], []⟩ : St)))) := by
  unfold spec_CoveredOk_n5
  exact Link.cast (by kernel_rfl) (by kernel_rfl) (link_block (id := 0) (spec_CoveredOk_n4_l x1580 x1581 x1671) (Sum.elim (fun (t : Bool) => (Sum.inr t)) (fun (t : Unit) => (Sum.inl ()))) (by
  rintro (t | t) K h
  · exact Eq.mp (by kernel_rfl) h
  · exact Eq.mp (by kernel_rfl) h))

theorem spec_CoveredOk_n6_l (x1580 : List Int) (x1581 : Int) (x1671 : List (List Int)) : Link spec_CoveredOk_ctx LL (Code.fst (Code.snd (Code.snd (bodyOf Try.f15)))) (Ann.fst (Ann.snd (Ann.snd spec_CoveredOk_an))) (⟨mkE 43 0 [(0, .dat (.list (.int .i64)) x1580), (1, .dat (.int .i64) x1581), (5, .slc 0)], [some (.seq (.list (.int .i64)) x1671)]⟩ : St) (spec_CoveredOk_n6 x1580 x1581 x1671) (Sum.elim (fun (t : Unit) => (Exit.normal, (⟨mkE 43 0 [], []⟩ : St))) (fun (t : Bool) => (Exit.ret, (⟨mkE 43 0 [(4, .dat .bool t)], []⟩ : St)))) := by
  unfold spec_CoveredOk_n6
  exact Link.cast (by kernel_rfl) (by kernel_rfl) (link_seq (b := (Code.snd (Code.fst (Code.snd (Code.snd (bodyOf Try.f15)))))) (y := (Ann.snd (Ann.fst (Ann.snd (Ann.snd spec_CoveredOk_an))))) (spec_CoveredOk_n2_l x1580 x1581 x1671) (fun (t : Unit) => (spec_CoveredOk_n5_l x1580 x1581 x1671)))

theorem spec_CoveredOk_n7_l : Link spec_CoveredOk_ctx LL (Code.snd (Code.snd (Code.snd (bodyOf Try.f15)))) (Ann.snd (Ann.snd (Ann.snd spec_CoveredOk_an))) (⟨mkE 43 0 [], []⟩ : St) (spec_CoveredOk_n7) (fun (t : Bool) => (Exit.ret, (⟨mkE 43 0 [(4, .dat .bool t)], []⟩ : St))) := by
  refine Link.of fun K h => ?_
  simp only [spec_CoveredOk_n7, wpO_bind, wpO_cond, wpO_map, wpO_some] at h
  exact Awp.of (by kernel_rfl) h

theorem spec_CoveredOk_n8_l (x1580 : List Int) (x1581 : Int) (x1671 : List (List Int)) : Link spec_CoveredOk_ctx LL (Code.snd (Code.snd (bodyOf Try.f15))) (Ann.snd (Ann.snd spec_CoveredOk_an)) (⟨mkE 43 0 [(0, .dat (.list (.int .i64)) x1580), (1, .dat (.int .i64) x1581), (5, .slc 0)], [some (.seq (.list (.int .i64)) x1671)]⟩ : St) (spec_CoveredOk_n8 x1580 x1581 x1671) (fun (t : Bool) => (Exit.ret, (⟨mkE 43 0 [(4, .dat .bool t)], []⟩ : St))) := by
  unfold spec_CoveredOk_n8
  exact Link.cast (by kernel_rfl) (by kernel_rfl) (link_seq2 (b := (Code.snd (Code.snd (Code.snd (bodyOf Try.f15))))) (y := (Ann.snd (Ann.snd (Ann.snd spec_CoveredOk_an)))) (spec_CoveredOk_n6_l x1580 x1581 x1671) (fun (t : Unit) => (spec_CoveredOk_n7_l)) (fun (t : Bool) => t) (by
  rintro t
  · kernel_rfl) (by
  rintro t f K h
  · exact h))

theorem spec_CoveredOk_n9_l (x1580 : List Int) (x1581 : Int) : Link spec_CoveredOk_ctx LL (bodyOf Try.f15) spec_CoveredOk_an (⟨mkE 43 0 [(0, .dat (.list (.int .i64)) x1580), (1, .dat (.int .i64) x1581)], []⟩ : St) (spec_CoveredOk_n9 x1580 x1581) (fun (t : Bool) => (Exit.ret, (⟨mkE 43 0 [(4, .dat .bool t)], []⟩ : St))) := by
  unfold spec_CoveredOk_n9
  exact Link.cast (by kernel_rfl) (by kernel_rfl) (link_group (c := (Code.fst (Code.snd (bodyOf Try.f15)))) (a := (Ann.fst (Ann.snd spec_CoveredOk_an))) [(Code.fst (bodyOf Try.f15))] [(Ann.fst spec_CoveredOk_an)] rfl (link_seq (b := (Code.snd (Code.snd (bodyOf Try.f15)))) (y := (Ann.snd (Ann.snd spec_CoveredOk_an))) (spec_CoveredOk_n1_l x1580 x1581) (fun (t : (List (List Int))) => (spec_CoveredOk_n8_l x1580 x1581 t))))

theorem spec_CoveredOk_e (x1580 : List Int) (x1581 : Int) {r : AV} {H' : Heap} (h : (Ans.mk _ (spec_CoveredOk x1580 x1581) (fun (t : Bool) => (.dat .bool t, []))).run = some (r, H')) : Awp spec_CoveredOk_ctx LL (bodyOf Try.f15) spec_CoveredOk_an (⟨mkE 43 0 [(0, .dat (.list (.int .i64)) x1580), (1, .dat (.int .i64) x1581)], []⟩ : St) (Ret (tlook tys) Try.f15.results.toList r H') :=
  ret_of' (spec_CoveredOk_n9_l x1580 x1581) (by unfold spec_CoveredOk; kernel_rfl) (by
  intro t
  exact ret_mk [.dat .bool t] (by kernel_rfl) (by kernel_rfl) (by kernel_rfl) (by kernel_rfl)) h

def F_spec_CoveredOk : Fun := fun avs H =>
  match avs, H with
  | [.dat (.list (.int .i64)) x1580, .dat (.int .i64) x1581], [] => ⟨_, spec_CoveredOk x1580 x1581, fun (t : Bool) => (.dat .bool t, [])⟩
  | _, _ => Ans.no

theorem spec_CoveredOk_sound : Sound Try.prog 15 F_spec_CoveredOk := by
  refine fn_sound' (C := spec_CoveredOk_ctx) (c := bodyOf Try.f15) (cok_of tys_ok (List.forall_mem_cons.2 ⟨spec_l3Arcs_sound, List.forall_mem_cons.2 ⟨spec_TreeOk_sound, List.forall_mem_cons.2 ⟨spec_l1In_sound, by simp⟩⟩⟩) (List.forall_mem_cons.2 ⟨Try.call36, List.forall_mem_cons.2 ⟨Try.call16, List.forall_mem_cons.2 ⟨Try.call37, by simp⟩⟩⟩) (by kernel_rfl)) Try.func15 (by kernel_rfl) LL spec_CoveredOk_an ?_
  intro avs H r H' h
  unfold F_spec_CoveredOk at h
  split at h
  · refine Awp.cast ?_ ?_ ?_ (spec_CoveredOk_e _ _ h) <;> kernel_rfl
  · simp [Ans.no, Ans.run] at h

/-! loop.example/headtrees/laws.alive -/

def laws_alive_an : Ann := (.seq (.leaf []) (.seq (.leaf [0]) (.leaf [0])))

noncomputable def laws_alive_ctx : Ctx := ⟨tlook tys, olook [(38, F_impl_TreeOk)], ioF, 0⟩

theorem laws_alive_n1_l : Link laws_alive_ctx LL (bodyOf Try.f17) laws_alive_an (⟨mkE 8 0 [], []⟩ : St) (laws_alive_n1) (fun (t : Bool) => (Exit.ret, (⟨mkE 8 0 [(0, .dat .bool t)], []⟩ : St))) := by
  refine Link.of fun K h => ?_
  simp only [laws_alive_n1, wpO_bind, wpO_cond, wpO_map, wpO_some] at h
  exact Awp.of (by kernel_rfl) h

theorem laws_alive_e {r : AV} {H' : Heap} (h : (Ans.mk _ (laws_alive) (fun (t : Bool) => (.dat .bool t, []))).run = some (r, H')) : Awp laws_alive_ctx LL (bodyOf Try.f17) laws_alive_an (⟨mkE 8 0 [], []⟩ : St) (Ret (tlook tys) Try.f17.results.toList r H') :=
  ret_of' (laws_alive_n1_l) (by unfold laws_alive; kernel_rfl) (by
  intro t
  exact ret_mk [.dat .bool t] (by kernel_rfl) (by kernel_rfl) (by kernel_rfl) (by kernel_rfl)) h

def F_laws_alive : Fun := fun avs H =>
  match avs, H with
  | [], [] => ⟨_, laws_alive, fun (t : Bool) => (.dat .bool t, [])⟩
  | _, _ => Ans.no

theorem laws_alive_sound : Sound Try.prog 17 F_laws_alive := by
  refine fn_sound' (C := laws_alive_ctx) (c := bodyOf Try.f17) (cok_of tys_ok (List.forall_mem_cons.2 ⟨impl_TreeOk_sound, by simp⟩) (List.forall_mem_cons.2 ⟨Try.call38, by simp⟩) (by kernel_rfl)) Try.func17 (by kernel_rfl) LL laws_alive_an ?_
  intro avs H r H' h
  unfold F_laws_alive at h
  split at h
  · refine Awp.cast ?_ ?_ ?_ (laws_alive_e h) <;> kernel_rfl
  · simp [Ans.no, Ans.run] at h

/-! loop.example/headtrees/laws.FnCoveredOk -/

def laws_FnCoveredOk_an : Ann := (.seq (.leaf [0]) (.seq (.seq (.leaf [0, 9]) (.cond (.seq (.leaf [2]) (.leaf [2])) (.leaf [0]))) (.seq (.leaf [3, 4]) (.seq (.leaf [3, 4, 5]) (.seq (.seq (.leaf [3, 5, 22]) (.cond (.seq (.leaf [2]) (.leaf [2])) (.leaf [3, 5]))) (.seq (.seq (.leaf [3, 5, 25]) (.cond (.seq (.leaf [2]) (.leaf [2])) (.leaf [3]))) (.seq (.seq (.leaf [3, 6]) (.block (.loop (.seq (.seq (.leaf [3, 6, 34]) (.cond (.leaf [3, 6]) (.leaf [3]))) (.seq (.block (.seq (.leaf [3, 6, 59]) (.cond (.seq (.leaf [2]) (.leaf [2])) (.leaf [3, 6])))) (.leaf [3, 6])))))) (.seq (.leaf [2]) (.leaf [2])))))))))

noncomputable def laws_FnCoveredOk_ctx : Ctx := ⟨tlook tys, olook [(13, F_spec_DrawCoveredOk), (14, F_impl_CoveredOk), (15, F_spec_CoveredOk), (16, F_spec_TreeOk), (17, F_laws_alive)], ioF, 0⟩

theorem laws_FnCoveredOk_n1_l (x475 : List Int) : Link laws_FnCoveredOk_ctx LL (Code.seq (Code.fst (bodyOf Try.f4)) (Code.seq (Code.fst (Code.snd (bodyOf Try.f4))) (Code.seq (Code.fst (Code.snd (Code.snd (bodyOf Try.f4)))) (Code.seq (Code.fst (Code.snd (Code.snd (Code.snd (bodyOf Try.f4))))) (Code.seq (Code.fst (Code.snd (Code.snd (Code.snd (Code.snd (bodyOf Try.f4)))))) (Code.fst (Code.snd (Code.snd (Code.snd (Code.snd (Code.snd (bodyOf Try.f4)))))))))))) (Ann.seq (Ann.fst laws_FnCoveredOk_an) (Ann.seq (Ann.fst (Ann.snd laws_FnCoveredOk_an)) (Ann.seq (Ann.fst (Ann.snd (Ann.snd laws_FnCoveredOk_an))) (Ann.seq (Ann.fst (Ann.snd (Ann.snd (Ann.snd laws_FnCoveredOk_an)))) (Ann.seq (Ann.fst (Ann.snd (Ann.snd (Ann.snd (Ann.snd laws_FnCoveredOk_an))))) (Ann.fst (Ann.snd (Ann.snd (Ann.snd (Ann.snd (Ann.snd laws_FnCoveredOk_an))))))))))) (⟨mkE 73 0 [(0, .dat (.list (.int .u8)) x475)], []⟩ : St) (laws_FnCoveredOk_n1 x475) (Sum.elim (fun (t : (List Int)) => (Exit.normal, (⟨mkE 73 0 [(3, .slc 0)], [some (.seq (.int .i64) t)]⟩ : St))) (fun (t : Bool) => (Exit.ret, (⟨mkE 73 0 [(2, .dat .bool t)], []⟩ : St)))) := by
  refine Link.of fun K h => ?_
  simp only [laws_FnCoveredOk_n1, wpO_bind, wpO_cond, wpO_map, wpO_some] at h
  exact Awp.of (by kernel_rfl) h

theorem laws_FnCoveredOk_n2_l (x1897 : List Int) : Link laws_FnCoveredOk_ctx LL (Code.fst (Code.fst (Code.snd (Code.snd (Code.snd (Code.snd (Code.snd (Code.snd (bodyOf Try.f4))))))))) (Ann.fst (Ann.fst (Ann.snd (Ann.snd (Ann.snd (Ann.snd (Ann.snd (Ann.snd laws_FnCoveredOk_an)))))))) (⟨mkE 73 0 [(3, .slc 0)], [some (.seq (.int .i64) x1897)]⟩ : St) (laws_FnCoveredOk_n2) (fun (t : Unit) => (Exit.normal, (⟨mkE 73 0 [(3, .slc 0), (6, .dat (.int .i64) 2)], [some (.seq (.int .i64) x1897)]⟩ : St))) := by
  refine Link.of fun K h => ?_
  simp only [laws_FnCoveredOk_n2, wpO_bind, wpO_cond, wpO_map, wpO_some] at h
  exact Awp.of (by kernel_rfl) h

theorem laws_FnCoveredOk_n3_l (x1950 : Int) (x1897 : List Int) : Link laws_FnCoveredOk_ctx LL (Code.fst (Code.fst (Code.snd (Code.fst (Code.snd (Code.snd (Code.snd (Code.snd (Code.snd (Code.snd (bodyOf Try.f4))))))))))) (Ann.fst (Ann.fst (Ann.snd (Ann.fst (Ann.snd (Ann.snd (Ann.snd (Ann.snd (Ann.snd (Ann.snd laws_FnCoveredOk_an)))))))))) (⟨mkE 73 0 [(3, .slc 0), (6, .dat (.int .i64) x1950)], [some (.seq (.int .i64) x1897)]⟩ : St) (laws_FnCoveredOk_n3 x1950 x1897) (Sum.elim (fun (t : Int) => (Exit.normal, (⟨mkE 73 0 [(3, .slc 0), (6, .dat (.int .i64) t)], [some (.seq (.int .i64) x1897)]⟩ : St))) (Sum.elim (fun (t : Bool) => (Exit.ret, (⟨mkE 73 0 [(2, .dat .bool t)], []⟩ : St))) (fun (t : Unit) => ((Exit.exit 0), (⟨mkE 73 0 [(3, .slc 0)], [some (.seq (.int .i64) x1897)]⟩ : St))))) := by
  refine Link.of fun K h => ?_
  simp only [laws_FnCoveredOk_n3, wpO_bind, wpO_cond, wpO_map, wpO_some] at h
  exact Awp.of (by kernel_rfl) h

theorem laws_FnCoveredOk_n4_l (x1897 : List Int) : Link laws_FnCoveredOk_ctx LL (Code.fst (Code.snd (Code.fst (Code.snd (Code.snd (Code.snd (Code.snd (Code.snd (Code.snd (bodyOf Try.f4)))))))))) (Ann.fst (Ann.snd (Ann.fst (Ann.snd (Ann.snd (Ann.snd (Ann.snd (Ann.snd (Ann.snd laws_FnCoveredOk_an))))))))) (⟨mkE 73 0 [(3, .slc 0), (6, .dat (.int .i64) 2)], [some (.seq (.int .i64) x1897)]⟩ : St) (laws_FnCoveredOk_n4 x1897) (Sum.elim (fun (t : Bool) => (Exit.ret, (⟨mkE 73 0 [(2, .dat .bool t)], []⟩ : St))) (fun (t : Unit) => ((Exit.exit 0), (⟨mkE 73 0 [(3, .slc 0)], [some (.seq (.int .i64) x1897)]⟩ : St)))) := by
  unfold laws_FnCoveredOk_n4
  exact Link.cast (by kernel_rfl) (by kernel_rfl) (link_loop (mk := fun (s : Int) => (⟨mkE 73 0 [(3, .slc 0), (6, .dat (.int .i64) s)], [some (.seq (.int .i64) x1897)]⟩ : St)) (fin := (Sum.elim (fun (t : Bool) => (Exit.ret, (⟨mkE 73 0 [(2, .dat .bool t)], []⟩ : St))) (fun (t : Unit) => ((Exit.exit 0), (⟨mkE 73 0 [(3, .slc 0)], [some (.seq (.int .i64) x1897)]⟩ : St))))) (by
  rintro (t | t) f K h
  · exact h
  · exact h) (fun s => link_map (laws_FnCoveredOk_n3_l s x1897) (Sum.elim (fun (t : Int) => Sum.inl t) (Sum.elim (fun (t : Bool) => Sum.inr (Sum.inl t)) (fun (t : Unit) => Sum.inr (Sum.inr t)))) (by
  rintro (t | t | t)
  · kernel_rfl
  · kernel_rfl
  · kernel_rfl)) 2)

theorem laws_FnCoveredOk_n5_l (x1897 : List Int) : Link laws_FnCoveredOk_ctx LL (Code.snd (Code.fst (Code.snd (Code.snd (Code.snd (Code.snd (Code.snd (Code.snd (bodyOf Try.f4))))))))) (Ann.snd (Ann.fst (Ann.snd (Ann.snd (Ann.snd (Ann.snd (Ann.snd (Ann.snd laws_FnCoveredOk_an)))))))) (⟨mkE 73 0 [(3, .slc 0), (6, .dat (.int .i64) 2)], [some (.seq (.int .i64) x1897)]⟩ : St) (laws_FnCoveredOk_n5 x1897) (Sum.elim (fun (t : Unit) => (Exit.normal, (⟨mkE 73 0 [(3, .slc 0)], [some (.seq (.int .i64) x1897)]⟩ : St))) (fun (t : Bool) => (Exit.ret, (⟨mkE 73 0 [(2, .dat .bool t)], []⟩ : St)))) := by
  unfold laws_FnCoveredOk_n5
  exact Link.cast (by kernel_rfl) (by kernel_rfl) (link_block (id := 0) (laws_FnCoveredOk_n4_l x1897) (Sum.elim (fun (t : Bool) => (Sum.inr t)) (fun (t : Unit) => (Sum.inl ()))) (by
  rintro (t | t) K h
  · exact Eq.mp (by kernel_rfl) h
  · exact Eq.mp (by kernel_rfl) h))

theorem laws_FnCoveredOk_n6_l (x1897 : List Int) : Link laws_FnCoveredOk_ctx LL (Code.fst (Code.snd (Code.snd (Code.snd (Code.snd (Code.snd (Code.snd (bodyOf Try.f4)))))))) (Ann.fst (Ann.snd (Ann.snd (Ann.snd (Ann.snd (Ann.snd (Ann.snd laws_FnCoveredOk_an))))))) (⟨mkE 73 0 [(3, .slc 0)], [some (.seq (.int .i64) x1897)]⟩ : St) (laws_FnCoveredOk_n6 x1897) (Sum.elim (fun (t : Unit) => (Exit.normal, (⟨mkE 73 0 [(3, .slc 0)], [some (.seq (.int .i64) x1897)]⟩ : St))) (fun (t : Bool) => (Exit.ret, (⟨mkE 73 0 [(2, .dat .bool t)], []⟩ : St)))) := by
  unfold laws_FnCoveredOk_n6
  exact Link.cast (by kernel_rfl) (by kernel_rfl) (link_seq (b := (Code.snd (Code.fst (Code.snd (Code.snd (Code.snd (Code.snd (Code.snd (Code.snd (bodyOf Try.f4)))))))))) (y := (Ann.snd (Ann.fst (Ann.snd (Ann.snd (Ann.snd (Ann.snd (Ann.snd (Ann.snd laws_FnCoveredOk_an))))))))) (laws_FnCoveredOk_n2_l x1897) (fun (t : Unit) => (laws_FnCoveredOk_n5_l x1897)))

theorem laws_FnCoveredOk_n7_l (x1897 : List Int) : Link laws_FnCoveredOk_ctx LL (Code.snd (Code.snd (Code.snd (Code.snd (Code.snd (Code.snd (Code.snd (bodyOf Try.f4)))))))) (Ann.snd (Ann.snd (Ann.snd (Ann.snd (Ann.snd (Ann.snd (Ann.snd laws_FnCoveredOk_an))))))) (⟨mkE 73 0 [(3, .slc 0)], [some (.seq (.int .i64) x1897)]⟩ : St) (laws_FnCoveredOk_n7 x1897) (fun (t : Bool) => (Exit.ret, (⟨mkE 73 0 [(2, .dat .bool t)], []⟩ : St))) := by
  refine Link.of fun K h => ?_
  simp only [laws_FnCoveredOk_n7, wpO_bind, wpO_cond, wpO_map, wpO_some] at h
  exact Awp.of (by kernel_rfl) h

theorem laws_FnCoveredOk_n8_l (x1897 : List Int) : Link laws_FnCoveredOk_ctx LL (Code.snd (Code.snd (Code.snd (Code.snd (Code.snd (Code.snd (bodyOf Try.f4))))))) (Ann.snd (Ann.snd (Ann.snd (Ann.snd (Ann.snd (Ann.snd laws_FnCoveredOk_an)))))) (⟨mkE 73 0 [(3, .slc 0)], [some (.seq (.int .i64) x1897)]⟩ : St) (laws_FnCoveredOk_n8 x1897) (fun (t : Bool) => (Exit.ret, (⟨mkE 73 0 [(2, .dat .bool t)], []⟩ : St))) := by
  unfold laws_FnCoveredOk_n8
  exact Link.cast (by kernel_rfl) (by kernel_rfl) (link_seq2 (b := (Code.snd (Code.snd (Code.snd (Code.snd (Code.snd (Code.snd (Code.snd (bodyOf Try.f4))))))))) (y := (Ann.snd (Ann.snd (Ann.snd (Ann.snd (Ann.snd (Ann.snd (Ann.snd laws_FnCoveredOk_an)))))))) (laws_FnCoveredOk_n6_l x1897) (fun (t : Unit) => (laws_FnCoveredOk_n7_l x1897)) (fun (t : Bool) => t) (by
  rintro t
  · kernel_rfl) (by
  rintro t f K h
  · exact h))

theorem laws_FnCoveredOk_n9_l (x475 : List Int) : Link laws_FnCoveredOk_ctx LL (bodyOf Try.f4) laws_FnCoveredOk_an (⟨mkE 73 0 [(0, .dat (.list (.int .u8)) x475)], []⟩ : St) (laws_FnCoveredOk_n9 x475) (fun (t : Bool) => (Exit.ret, (⟨mkE 73 0 [(2, .dat .bool t)], []⟩ : St))) := by
  unfold laws_FnCoveredOk_n9
  exact Link.cast (by kernel_rfl) (by kernel_rfl) (link_group (c := (Code.fst (Code.snd (Code.snd (Code.snd (Code.snd (Code.snd (bodyOf Try.f4)))))))) (a := (Ann.fst (Ann.snd (Ann.snd (Ann.snd (Ann.snd (Ann.snd laws_FnCoveredOk_an))))))) [(Code.fst (bodyOf Try.f4)), (Code.fst (Code.snd (bodyOf Try.f4))), (Code.fst (Code.snd (Code.snd (bodyOf Try.f4)))), (Code.fst (Code.snd (Code.snd (Code.snd (bodyOf Try.f4))))), (Code.fst (Code.snd (Code.snd (Code.snd (Code.snd (bodyOf Try.f4))))))] [(Ann.fst laws_FnCoveredOk_an), (Ann.fst (Ann.snd laws_FnCoveredOk_an)), (Ann.fst (Ann.snd (Ann.snd laws_FnCoveredOk_an))), (Ann.fst (Ann.snd (Ann.snd (Ann.snd laws_FnCoveredOk_an)))), (Ann.fst (Ann.snd (Ann.snd (Ann.snd (Ann.snd laws_FnCoveredOk_an)))))] rfl (link_seq2 (b := (Code.snd (Code.snd (Code.snd (Code.snd (Code.snd (Code.snd (bodyOf Try.f4)))))))) (y := (Ann.snd (Ann.snd (Ann.snd (Ann.snd (Ann.snd (Ann.snd laws_FnCoveredOk_an))))))) (laws_FnCoveredOk_n1_l x475) (fun (t : (List Int)) => (laws_FnCoveredOk_n8_l t)) (fun (t : Bool) => t) (by
  rintro t
  · kernel_rfl) (by
  rintro t f K h
  · exact h)))

theorem laws_FnCoveredOk_e (x475 : List Int) {r : AV} {H' : Heap} (h : (Ans.mk _ (laws_FnCoveredOk x475) (fun (t : Bool) => (.dat .bool t, []))).run = some (r, H')) : Awp laws_FnCoveredOk_ctx LL (bodyOf Try.f4) laws_FnCoveredOk_an (⟨mkE 73 0 [(0, .dat (.list (.int .u8)) x475)], []⟩ : St) (Ret (tlook tys) Try.f4.results.toList r H') :=
  ret_of' (laws_FnCoveredOk_n9_l x475) (by unfold laws_FnCoveredOk; kernel_rfl) (by
  intro t
  exact ret_mk [.dat .bool t] (by kernel_rfl) (by kernel_rfl) (by kernel_rfl) (by kernel_rfl)) h

def F_laws_FnCoveredOk : Fun := fun avs H =>
  match avs, H with
  | [.dat (.list (.int .u8)) x475], [] => ⟨_, laws_FnCoveredOk x475, fun (t : Bool) => (.dat .bool t, [])⟩
  | _, _ => Ans.no

theorem laws_FnCoveredOk_sound : Sound Try.prog 4 F_laws_FnCoveredOk := by
  refine fn_sound' (C := laws_FnCoveredOk_ctx) (c := bodyOf Try.f4) (cok_of tys_ok (List.forall_mem_cons.2 ⟨spec_DrawCoveredOk_sound, List.forall_mem_cons.2 ⟨impl_CoveredOk_sound, List.forall_mem_cons.2 ⟨spec_CoveredOk_sound, List.forall_mem_cons.2 ⟨spec_TreeOk_sound, List.forall_mem_cons.2 ⟨laws_alive_sound, by simp⟩⟩⟩⟩⟩) (List.forall_mem_cons.2 ⟨Try.call13, List.forall_mem_cons.2 ⟨Try.call14, List.forall_mem_cons.2 ⟨Try.call15, List.forall_mem_cons.2 ⟨Try.call16, List.forall_mem_cons.2 ⟨Try.call17, by simp⟩⟩⟩⟩⟩) (by kernel_rfl)) Try.func4 (by kernel_rfl) LL laws_FnCoveredOk_an ?_
  intro avs H r H' h
  unfold F_laws_FnCoveredOk at h
  split at h
  · refine Awp.cast ?_ ?_ ?_ (laws_FnCoveredOk_e _ h) <;> kernel_rfl
  · simp [Ans.no, Ans.run] at h

/-! loop.example/headtrees/laws.toIntS -/

def laws_toIntS_an : Ann := (.seq (.leaf [0]) (.seq (.leaf [0, 3]) (.seq (.seq (.leaf [0, 3, 4]) (.block (.loop (.seq (.seq (.leaf [0, 3, 4, 11]) (.cond (.leaf [0, 3, 4]) (.leaf [3]))) (.seq (.block (.leaf [0, 3, 4])) (.leaf [0, 3, 4])))))) (.seq (.leaf [2]) (.leaf [2])))))

noncomputable def laws_toIntS_ctx : Ctx := ⟨tlook tys, olook [], ioF, 0⟩

theorem laws_toIntS_n1_l (x2006 : List Int) : Link laws_toIntS_ctx LL (Code.seq (Code.fst (bodyOf Try.f19)) (Code.fst (Code.snd (bodyOf Try.f19)))) (Ann.seq (Ann.fst laws_toIntS_an) (Ann.fst (Ann.snd laws_toIntS_an))) (⟨mkE 22 0 [(0, .dat (.list (.int .i64)) x2006)], []⟩ : St) (laws_toIntS_n1 x2006) (fun (t : (List Int)) => (Exit.normal, (⟨mkE 22 0 [(0, .dat (.list (.int .i64)) x2006), (3, .slc 0)], [some (.seq (.int .i64) t)]⟩ : St))) := by
  refine Link.of fun K h => ?_
  simp only [laws_toIntS_n1, wpO_bind, wpO_cond, wpO_map, wpO_some] at h
  exact Awp.of (by kernel_rfl) h

theorem laws_toIntS_n2_l (x2006 : List Int) (x2009 : List Int) : Link laws_toIntS_ctx LL (Code.fst (Code.fst (Code.snd (Code.snd (bodyOf Try.f19))))) (Ann.fst (Ann.fst (Ann.snd (Ann.snd laws_toIntS_an)))) (⟨mkE 22 0 [(0, .dat (.list (.int .i64)) x2006), (3, .slc 0)], [some (.seq (.int .i64) x2009)]⟩ : St) (laws_toIntS_n2) (fun (t : Unit) => (Exit.normal, (⟨mkE 22 0 [(0, .dat (.list (.int .i64)) x2006), (3, .slc 0), (4, .dat (.int .i64) 0)], [some (.seq (.int .i64) x2009)]⟩ : St))) := by
  refine Link.of fun K h => ?_
  simp only [laws_toIntS_n2, wpO_bind, wpO_cond, wpO_map, wpO_some] at h
  exact Awp.of (by kernel_rfl) h

theorem laws_toIntS_n3_l (x2006 : List Int) (x2023 : Int) (x2024 : List Int) : Link laws_toIntS_ctx LL (Code.fst (Code.fst (Code.snd (Code.fst (Code.snd (Code.snd (bodyOf Try.f19))))))) (Ann.fst (Ann.fst (Ann.snd (Ann.fst (Ann.snd (Ann.snd laws_toIntS_an)))))) (⟨mkE 22 0 [(0, .dat (.list (.int .i64)) x2006), (3, .slc 0), (4, .dat (.int .i64) x2023)], [some (.seq (.int .i64) x2024)]⟩ : St) (laws_toIntS_n3 x2006 x2023 x2024) (Sum.elim (fun (t : Int × (List Int)) => (Exit.normal, (⟨mkE 22 0 [(0, .dat (.list (.int .i64)) x2006), (3, .slc 0), (4, .dat (.int .i64) t.1)], [some (.seq (.int .i64) t.2)]⟩ : St))) (fun (t : (List Int)) => ((Exit.exit 0), (⟨mkE 22 0 [(3, .slc 0)], [some (.seq (.int .i64) t)]⟩ : St)))) := by
  refine Link.of fun K h => ?_
  simp only [laws_toIntS_n3, wpO_bind, wpO_cond, wpO_map, wpO_some] at h
  exact Awp.of (by kernel_rfl) h

theorem laws_toIntS_n4_l (x2006 : List Int) (x2009 : List Int) : Link laws_toIntS_ctx LL (Code.fst (Code.snd (Code.fst (Code.snd (Code.snd (bodyOf Try.f19)))))) (Ann.fst (Ann.snd (Ann.fst (Ann.snd (Ann.snd laws_toIntS_an))))) (⟨mkE 22 0 [(0, .dat (.list (.int .i64)) x2006), (3, .slc 0), (4, .dat (.int .i64) 0)], [some (.seq (.int .i64) x2009)]⟩ : St) (laws_toIntS_n4 x2006 x2009) (fun (t : (List Int)) => ((Exit.exit 0), (⟨mkE 22 0 [(3, .slc 0)], [some (.seq (.int .i64) t)]⟩ : St))) := by
  unfold laws_toIntS_n4
  exact Link.cast (by kernel_rfl) (by kernel_rfl) (link_loop (mk := fun (s : Int × (List Int)) => (⟨mkE 22 0 [(0, .dat (.list (.int .i64)) x2006), (3, .slc 0), (4, .dat (.int .i64) s.1)], [some (.seq (.int .i64) s.2)]⟩ : St)) (fin := (fun (t : (List Int)) => ((Exit.exit 0), (⟨mkE 22 0 [(3, .slc 0)], [some (.seq (.int .i64) t)]⟩ : St)))) (by
  rintro t f K h
  · exact h) (fun s => link_map (laws_toIntS_n3_l x2006 s.1 s.2) (Sum.elim (fun (t : Int × (List Int)) => Sum.inl (t.1, t.2)) (fun (t : (List Int)) => Sum.inr t)) (by
  rintro (t | t)
  · kernel_rfl
  · kernel_rfl)) (0, x2009))

theorem laws_toIntS_n5_l (x2006 : List Int) (x2009 : List Int) : Link laws_toIntS_ctx LL (Code.snd (Code.fst (Code.snd (Code.snd (bodyOf Try.f19))))) (Ann.snd (Ann.fst (Ann.snd (Ann.snd laws_toIntS_an)))) (⟨mkE 22 0 [(0, .dat (.list (.int .i64)) x2006), (3, .slc 0), (4, .dat (.int .i64) 0)], [some (.seq (.int .i64) x2009)]⟩ : St) (laws_toIntS_n5 x2006 x2009) (fun (t : (List Int)) => (Exit.normal, (⟨mkE 22 0 [(3, .slc 0)], [some (.seq (.int .i64) t)]⟩ : St))) := by
  unfold laws_toIntS_n5
  exact Link.cast (by kernel_rfl) (by kernel_rfl) (link_block (id := 0) (laws_toIntS_n4_l x2006 x2009) (fun (t : (List Int)) => t) (by
  rintro t K h
  · exact Eq.mp (by kernel_rfl) h))

theorem laws_toIntS_n6_l (x2006 : List Int) (x2009 : List Int) : Link laws_toIntS_ctx LL (Code.fst (Code.snd (Code.snd (bodyOf Try.f19)))) (Ann.fst (Ann.snd (Ann.snd laws_toIntS_an))) (⟨mkE 22 0 [(0, .dat (.list (.int .i64)) x2006), (3, .slc 0)], [some (.seq (.int .i64) x2009)]⟩ : St) (laws_toIntS_n6 x2006 x2009) (fun (t : (List Int)) => (Exit.normal, (⟨mkE 22 0 [(3, .slc 0)], [some (.seq (.int .i64) t)]⟩ : St))) := by
  unfold laws_toIntS_n6
  exact Link.cast (by kernel_rfl) (by kernel_rfl) (link_seq (b := (Code.snd (Code.fst (Code.snd (Code.snd (bodyOf Try.f19)))))) (y := (Ann.snd (Ann.fst (Ann.snd (Ann.snd laws_toIntS_an))))) (laws_toIntS_n2_l x2006 x2009) (fun (t : Unit) => (laws_toIntS_n5_l x2006 x2009)))

theorem laws_toIntS_n7_l (x2024 : List Int) : Link laws_toIntS_ctx LL (Code.snd (Code.snd (Code.snd (bodyOf Try.f19)))) (Ann.snd (Ann.snd (Ann.snd laws_toIntS_an))) (⟨mkE 22 0 [(3, .slc 0)], [some (.seq (.int .i64) x2024)]⟩ : St) (laws_toIntS_n7 x2024) (fun (t : (List Int)) => (Exit.ret, (⟨mkE 22 0 [(2, .slc 0)], [some (.seq (.int .i64) t)]⟩ : St))) := by
  refine Link.of fun K h => ?_
  simp only [laws_toIntS_n7, wpO_bind, wpO_cond, wpO_map, wpO_some] at h
  exact Awp.of (by kernel_rfl) h

theorem laws_toIntS_n8_l (x2006 : List Int) (x2009 : List Int) : Link laws_toIntS_ctx LL (Code.snd (Code.snd (bodyOf Try.f19))) (Ann.snd (Ann.snd laws_toIntS_an)) (⟨mkE 22 0 [(0, .dat (.list (.int .i64)) x2006), (3, .slc 0)], [some (.seq (.int .i64) x2009)]⟩ : St) (laws_toIntS_n8 x2006 x2009) (fun (t : (List Int)) => (Exit.ret, (⟨mkE 22 0 [(2, .slc 0)], [some (.seq (.int .i64) t)]⟩ : St))) := by
  unfold laws_toIntS_n8
  exact Link.cast (by kernel_rfl) (by kernel_rfl) (link_seq (b := (Code.snd (Code.snd (Code.snd (bodyOf Try.f19))))) (y := (Ann.snd (Ann.snd (Ann.snd laws_toIntS_an)))) (laws_toIntS_n6_l x2006 x2009) (fun (t : (List Int)) => (laws_toIntS_n7_l t)))

theorem laws_toIntS_n9_l (x2006 : List Int) : Link laws_toIntS_ctx LL (bodyOf Try.f19) laws_toIntS_an (⟨mkE 22 0 [(0, .dat (.list (.int .i64)) x2006)], []⟩ : St) (laws_toIntS_n9 x2006) (fun (t : (List Int)) => (Exit.ret, (⟨mkE 22 0 [(2, .slc 0)], [some (.seq (.int .i64) t)]⟩ : St))) := by
  unfold laws_toIntS_n9
  exact Link.cast (by kernel_rfl) (by kernel_rfl) (link_group (c := (Code.fst (Code.snd (bodyOf Try.f19)))) (a := (Ann.fst (Ann.snd laws_toIntS_an))) [(Code.fst (bodyOf Try.f19))] [(Ann.fst laws_toIntS_an)] rfl (link_seq (b := (Code.snd (Code.snd (bodyOf Try.f19)))) (y := (Ann.snd (Ann.snd laws_toIntS_an))) (laws_toIntS_n1_l x2006) (fun (t : (List Int)) => (laws_toIntS_n8_l x2006 t))))

theorem laws_toIntS_e (x2006 : List Int) {r : AV} {H' : Heap} (h : (Ans.mk _ (laws_toIntS x2006) (fun (t : (List Int)) => (.slc 0, [some (.seq (.int .i64) t)]))).run = some (r, H')) : Awp laws_toIntS_ctx LL (bodyOf Try.f19) laws_toIntS_an (⟨mkE 22 0 [(0, .dat (.list (.int .i64)) x2006)], []⟩ : St) (Ret (tlook tys) Try.f19.results.toList r H') :=
  ret_of' (laws_toIntS_n9_l x2006) (by unfold laws_toIntS; kernel_rfl) (by
  intro t
  exact ret_mk [.slc 0] (by kernel_rfl) (by kernel_rfl) (by kernel_rfl) (by kernel_rfl)) h

def F_laws_toIntS : Fun := fun avs H =>
  match avs, H with
  | [.dat (.list (.int .i64)) x2006], [] => ⟨_, laws_toIntS x2006, fun (t : (List Int)) => (.slc 0, [some (.seq (.int .i64) t)])⟩
  | _, _ => Ans.no

theorem laws_toIntS_sound : Sound Try.prog 19 F_laws_toIntS := by
  refine fn_sound' (C := laws_toIntS_ctx) (c := bodyOf Try.f19) (cok_of tys_ok (by simp) (by simp) (by kernel_rfl)) Try.func19 (by kernel_rfl) LL laws_toIntS_an ?_
  intro avs H r H' h
  unfold F_laws_toIntS at h
  split at h
  · refine Awp.cast ?_ ?_ ?_ (laws_toIntS_e _ h) <;> kernel_rfl
  · simp [Ans.no, Ans.run] at h

/-! loop.example/headtrees/spec.SidesOf -/

def spec_SidesOf_an : Ann := (.seq (.leaf [0, 1]) (.seq (.seq (.leaf [0, 1, 19]) (.cond (.seq (.leaf [4, 5, 6]) (.leaf [4, 5, 6])) (.leaf [0, 1]))) (.seq (.leaf [0, 1, 7]) (.seq (.leaf [0, 1, 7, 8]) (.seq (.seq (.leaf [0, 1, 7, 8, 9]) (.block (.loop (.seq (.seq (.leaf [0, 1, 7, 8, 9, 23]) (.cond (.leaf [0, 1, 7, 8, 9]) (.leaf [7, 8]))) (.seq (.block (.seq (.seq (.leaf [0, 1, 7, 8, 9, 37]) (.cond (.leaf [0, 1, 7, 8, 9]) (.leaf [0, 1, 7, 8, 9]))) (.seq (.leaf [0, 1, 7, 8, 9, 51]) (.cond (.leaf [0, 1, 7, 8, 9]) (.leaf [0, 1, 7, 8, 9]))))) (.leaf [0, 1, 7, 8, 9])))))) (.seq (.leaf [4, 5, 6]) (.leaf [4, 5, 6])))))))

noncomputable def spec_SidesOf_ctx : Ctx := ⟨tlook tys, olook [(16, F_spec_TreeOk), (37, F_spec_l1In)], ioF, 0⟩

theorem spec_SidesOf_n1_l (x2039 : List Int) (x2040 : Int) : Link spec_SidesOf_ctx LL (Code.seq (Code.fst (bodyOf Try.f18)) (Code.seq (Code.fst (Code.snd (bodyOf Try.f18))) (Code.seq (Code.fst (Code.snd (Code.snd (bodyOf Try.f18)))) (Code.fst (Code.snd (Code.snd (Code.snd (bodyOf Try.f18)))))))) (Ann.seq (Ann.fst spec_SidesOf_an) (Ann.seq (Ann.fst (Ann.snd spec_SidesOf_an)) (Ann.seq (Ann.fst (Ann.snd (Ann.snd spec_SidesOf_an))) (Ann.fst (Ann.snd (Ann.snd (Ann.snd spec_SidesOf_an))))))) (⟨mkE 56 0 [(0, .dat (.list (.int .i64)) x2039), (1, .dat (.int .i64) x2040)], []⟩ : St) (spec_SidesOf_n1 x2039 x2040) (Sum.elim (fun (t : Unit) => (Exit.normal, (⟨mkE 56 0 [(0, .dat (.list (.int .i64)) x2039), (1, .dat (.int .i64) x2040), (7, .dat (.int .i64) 0), (8, .dat (.int .i64) 0)], []⟩ : St))) (fun (t : Int × Int × Bool) => (Exit.ret, (⟨mkE 56 0 [(4, .dat (.int .i64) t.1), (5, .dat (.int .i64) t.2.1), (6, .dat .bool t.2.2)], []⟩ : St)))) := by
  refine Link.of fun K h => ?_
  simp only [spec_SidesOf_n1, wpO_bind, wpO_cond, wpO_map, wpO_some] at h
  exact Awp.of (by kernel_rfl) h

theorem spec_SidesOf_n2_l (x2039 : List Int) (x2040 : Int) : Link spec_SidesOf_ctx LL (Code.fst (Code.fst (Code.snd (Code.snd (Code.snd (Code.snd (bodyOf Try.f18))))))) (Ann.fst (Ann.fst (Ann.snd (Ann.snd (Ann.snd (Ann.snd spec_SidesOf_an)))))) (⟨mkE 56 0 [(0, .dat (.list (.int .i64)) x2039), (1, .dat (.int .i64) x2040), (7, .dat (.int .i64) 0), (8, .dat (.int .i64) 0)], []⟩ : St) (spec_SidesOf_n2) (fun (t : Unit) => (Exit.normal, (⟨mkE 56 0 [(0, .dat (.list (.int .i64)) x2039), (1, .dat (.int .i64) x2040), (7, .dat (.int .i64) 0), (8, .dat (.int .i64) 0), (9, .dat (.int .i64) 0)], []⟩ : St))) := by
  refine Link.of fun K h => ?_
  simp only [spec_SidesOf_n2, wpO_bind, wpO_cond, wpO_map, wpO_some] at h
  exact Awp.of (by kernel_rfl) h

theorem spec_SidesOf_n3_l (x2039 : List Int) (x2040 : Int) (x2114 : Int) (x2115 : Int) (x2116 : Int) : Link spec_SidesOf_ctx LL (Code.fst (Code.fst (Code.snd (Code.fst (Code.snd (Code.snd (Code.snd (Code.snd (bodyOf Try.f18))))))))) (Ann.fst (Ann.fst (Ann.snd (Ann.fst (Ann.snd (Ann.snd (Ann.snd (Ann.snd spec_SidesOf_an)))))))) (⟨mkE 56 0 [(0, .dat (.list (.int .i64)) x2039), (1, .dat (.int .i64) x2040), (7, .dat (.int .i64) x2114), (8, .dat (.int .i64) x2115), (9, .dat (.int .i64) x2116)], []⟩ : St) (spec_SidesOf_n3 x2039 x2040 x2114 x2115 x2116) (Sum.elim (fun (t : Int × Int × Int) => (Exit.normal, (⟨mkE 56 0 [(0, .dat (.list (.int .i64)) x2039), (1, .dat (.int .i64) x2040), (7, .dat (.int .i64) t.1), (8, .dat (.int .i64) t.2.1), (9, .dat (.int .i64) t.2.2)], []⟩ : St))) (fun (t : Int × Int) => ((Exit.exit 0), (⟨mkE 56 0 [(7, .dat (.int .i64) t.1), (8, .dat (.int .i64) t.2)], []⟩ : St)))) := by
  refine Link.of fun K h => ?_
  simp only [spec_SidesOf_n3, wpO_bind, wpO_cond, wpO_map, wpO_some] at h
  exact Awp.of (by kernel_rfl) h

theorem spec_SidesOf_n4_l (x2039 : List Int) (x2040 : Int) : Link spec_SidesOf_ctx LL (Code.fst (Code.snd (Code.fst (Code.snd (Code.snd (Code.snd (Code.snd (bodyOf Try.f18)))))))) (Ann.fst (Ann.snd (Ann.fst (Ann.snd (Ann.snd (Ann.snd (Ann.snd spec_SidesOf_an))))))) (⟨mkE 56 0 [(0, .dat (.list (.int .i64)) x2039), (1, .dat (.int .i64) x2040), (7, .dat (.int .i64) 0), (8, .dat (.int .i64) 0), (9, .dat (.int .i64) 0)], []⟩ : St) (spec_SidesOf_n4 x2039 x2040) (fun (t : Int × Int) => ((Exit.exit 0), (⟨mkE 56 0 [(7, .dat (.int .i64) t.1), (8, .dat (.int .i64) t.2)], []⟩ : St))) := by
  unfold spec_SidesOf_n4
  exact Link.cast (by kernel_rfl) (by kernel_rfl) (link_loop (mk := fun (s : Int × Int × Int) => (⟨mkE 56 0 [(0, .dat (.list (.int .i64)) x2039), (1, .dat (.int .i64) x2040), (7, .dat (.int .i64) s.1), (8, .dat (.int .i64) s.2.1), (9, .dat (.int .i64) s.2.2)], []⟩ : St)) (fin := (fun (t : Int × Int) => ((Exit.exit 0), (⟨mkE 56 0 [(7, .dat (.int .i64) t.1), (8, .dat (.int .i64) t.2)], []⟩ : St)))) (by
  rintro t f K h
  · exact h) (fun s => link_map (spec_SidesOf_n3_l x2039 x2040 s.1 s.2.1 s.2.2) (Sum.elim (fun (t : Int × Int × Int) => Sum.inl (t.1, t.2.1, t.2.2)) (fun (t : Int × Int) => Sum.inr t)) (by
  rintro (t | t)
  · kernel_rfl
  · kernel_rfl)) (0, 0, 0))

theorem spec_SidesOf_n5_l (x2039 : List Int) (x2040 : Int) : Link spec_SidesOf_ctx LL (Code.snd (Code.fst (Code.snd (Code.snd (Code.snd (Code.snd (bodyOf Try.f18))))))) (Ann.snd (Ann.fst (Ann.snd (Ann.snd (Ann.snd (Ann.snd spec_SidesOf_an)))))) (⟨mkE 56 0 [(0, .dat (.list (.int .i64)) x2039), (1, .dat (.int .i64) x2040), (7, .dat (.int .i64) 0), (8, .dat (.int .i64) 0), (9, .dat (.int .i64) 0)], []⟩ : St) (spec_SidesOf_n5 x2039 x2040) (fun (t : Int × Int) => (Exit.normal, (⟨mkE 56 0 [(7, .dat (.int .i64) t.1), (8, .dat (.int .i64) t.2)], []⟩ : St))) := by
  unfold spec_SidesOf_n5
  exact Link.cast (by kernel_rfl) (by kernel_rfl) (link_block (id := 0) (spec_SidesOf_n4_l x2039 x2040) (fun (t : Int × Int) => (t.1, t.2)) (by
  rintro t K h
  · exact Eq.mp (by kernel_rfl) h))

theorem spec_SidesOf_n6_l (x2039 : List Int) (x2040 : Int) : Link spec_SidesOf_ctx LL (Code.fst (Code.snd (Code.snd (Code.snd (Code.snd (bodyOf Try.f18)))))) (Ann.fst (Ann.snd (Ann.snd (Ann.snd (Ann.snd spec_SidesOf_an))))) (⟨mkE 56 0 [(0, .dat (.list (.int .i64)) x2039), (1, .dat (.int .i64) x2040), (7, .dat (.int .i64) 0), (8, .dat (.int .i64) 0)], []⟩ : St) (spec_SidesOf_n6 x2039 x2040) (fun (t : Int × Int) => (Exit.normal, (⟨mkE 56 0 [(7, .dat (.int .i64) t.1), (8, .dat (.int .i64) t.2)], []⟩ : St))) := by
  unfold spec_SidesOf_n6
  exact Link.cast (by kernel_rfl) (by kernel_rfl) (link_seq (b := (Code.snd (Code.fst (Code.snd (Code.snd (Code.snd (Code.snd (bodyOf Try.f18)))))))) (y := (Ann.snd (Ann.fst (Ann.snd (Ann.snd (Ann.snd (Ann.snd spec_SidesOf_an))))))) (spec_SidesOf_n2_l x2039 x2040) (fun (t : Unit) => (spec_SidesOf_n5_l x2039 x2040)))

theorem spec_SidesOf_n7_l (x2114 : Int) (x2115 : Int) : Link spec_SidesOf_ctx LL (Code.snd (Code.snd (Code.snd (Code.snd (Code.snd (bodyOf Try.f18)))))) (Ann.snd (Ann.snd (Ann.snd (Ann.snd (Ann.snd spec_SidesOf_an))))) (⟨mkE 56 0 [(7, .dat (.int .i64) x2114), (8, .dat (.int .i64) x2115)], []⟩ : St) (spec_SidesOf_n7 x2114 x2115) (fun (t : Int × Int × Bool) => (Exit.ret, (⟨mkE 56 0 [(4, .dat (.int .i64) t.1), (5, .dat (.int .i64) t.2.1), (6, .dat .bool t.2.2)], []⟩ : St))) := by
  refine Link.of fun K h => ?_
  simp only [spec_SidesOf_n7, wpO_bind, wpO_cond, wpO_map, wpO_some] at h
  exact Awp.of (by kernel_rfl) h

theorem spec_SidesOf_n8_l (x2039 : List Int) (x2040 : Int) : Link spec_SidesOf_ctx LL (Code.snd (Code.snd (Code.snd (Code.snd (bodyOf Try.f18))))) (Ann.snd (Ann.snd (Ann.snd (Ann.snd spec_SidesOf_an)))) (⟨mkE 56 0 [(0, .dat (.list (.int .i64)) x2039), (1, .dat (.int .i64) x2040), (7, .dat (.int .i64) 0), (8, .dat (.int .i64) 0)], []⟩ : St) (spec_SidesOf_n8 x2039 x2040) (fun (t : Int × Int × Bool) => (Exit.ret, (⟨mkE 56 0 [(4, .dat (.int .i64) t.1), (5, .dat (.int .i64) t.2.1), (6, .dat .bool t.2.2)], []⟩ : St))) := by
  unfold spec_SidesOf_n8
  exact Link.cast (by kernel_rfl) (by kernel_rfl) (link_seq (b := (Code.snd (Code.snd (Code.snd (Code.snd (Code.snd (bodyOf Try.f18))))))) (y := (Ann.snd (Ann.snd (Ann.snd (Ann.snd (Ann.snd spec_SidesOf_an)))))) (spec_SidesOf_n6_l x2039 x2040) (fun (t : Int × Int) => (spec_SidesOf_n7_l t.1 t.2)))

theorem spec_SidesOf_n9_l (x2039 : List Int) (x2040 : Int) : Link spec_SidesOf_ctx LL (bodyOf Try.f18) spec_SidesOf_an (⟨mkE 56 0 [(0, .dat (.list (.int .i64)) x2039), (1, .dat (.int .i64) x2040)], []⟩ : St) (spec_SidesOf_n9 x2039 x2040) (fun (t : Int × Int × Bool) => (Exit.ret, (⟨mkE 56 0 [(4, .dat (.int .i64) t.1), (5, .dat (.int .i64) t.2.1), (6, .dat .bool t.2.2)], []⟩ : St))) := by
  unfold spec_SidesOf_n9
  exact Link.cast (by kernel_rfl) (by kernel_rfl) (link_group (c := (Code.fst (Code.snd (Code.snd (Code.snd (bodyOf Try.f18)))))) (a := (Ann.fst (Ann.snd (Ann.snd (Ann.snd spec_SidesOf_an))))) [(Code.fst (bodyOf Try.f18)), (Code.fst (Code.snd (bodyOf Try.f18))), (Code.fst (Code.snd (Code.snd (bodyOf Try.f18))))] [(Ann.fst spec_SidesOf_an), (Ann.fst (Ann.snd spec_SidesOf_an)), (Ann.fst (Ann.snd (Ann.snd spec_SidesOf_an)))] rfl (link_seq2 (b := (Code.snd (Code.snd (Code.snd (Code.snd (bodyOf Try.f18)))))) (y := (Ann.snd (Ann.snd (Ann.snd (Ann.snd spec_SidesOf_an))))) (spec_SidesOf_n1_l x2039 x2040) (fun (t : Unit) => (spec_SidesOf_n8_l x2039 x2040)) (fun (t : Int × Int × Bool) => t) (by
  rintro t
  · kernel_rfl) (by
  rintro t f K h
  · exact h)))

theorem spec_SidesOf_e (x2039 : List Int) (x2040 : Int) {r : AV} {H' : Heap} (h : (Ans.mk _ (spec_SidesOf x2039 x2040) (fun (t : Int × Int × Bool) => (.tup [.dat (.int .i64) t.1, .dat (.int .i64) t.2.1, .dat .bool t.2.2], []))).run = some (r, H')) : Awp spec_SidesOf_ctx LL (bodyOf Try.f18) spec_SidesOf_an (⟨mkE 56 0 [(0, .dat (.list (.int .i64)) x2039), (1, .dat (.int .i64) x2040)], []⟩ : St) (Ret (tlook tys) Try.f18.results.toList r H') :=
  ret_of' (spec_SidesOf_n9_l x2039 x2040) (by unfold spec_SidesOf; kernel_rfl) (by
  intro t
  exact ret_mk [.dat (.int .i64) t.1, .dat (.int .i64) t.2.1, .dat .bool t.2.2] (by kernel_rfl) (by kernel_rfl) (by kernel_rfl) (by kernel_rfl)) h

def F_spec_SidesOf : Fun := fun avs H =>
  match avs, H with
  | [.dat (.list (.int .i64)) x2039, .dat (.int .i64) x2040], [] => ⟨_, spec_SidesOf x2039 x2040, fun (t : Int × Int × Bool) => (.tup [.dat (.int .i64) t.1, .dat (.int .i64) t.2.1, .dat .bool t.2.2], [])⟩
  | _, _ => Ans.no

theorem spec_SidesOf_sound : Sound Try.prog 18 F_spec_SidesOf := by
  refine fn_sound' (C := spec_SidesOf_ctx) (c := bodyOf Try.f18) (cok_of tys_ok (List.forall_mem_cons.2 ⟨spec_TreeOk_sound, List.forall_mem_cons.2 ⟨spec_l1In_sound, by simp⟩⟩) (List.forall_mem_cons.2 ⟨Try.call16, List.forall_mem_cons.2 ⟨Try.call37, by simp⟩⟩) (by kernel_rfl)) Try.func18 (by kernel_rfl) LL spec_SidesOf_an ?_
  intro avs H r H' h
  unfold F_spec_SidesOf at h
  split at h
  · refine Awp.cast ?_ ?_ ?_ (spec_SidesOf_e _ _ h) <;> kernel_rfl
  · simp [Ans.no, Ans.run] at h

/-! loop.example/headtrees/impl.only -/

def impl_only_an : Ann := (.seq (.leaf [0]) (.seq (.leaf [2]) (.leaf [2])))

noncomputable def impl_only_ctx : Ctx := ⟨tlook tys, olook [], ioF, 0⟩

theorem impl_only_n1_l (x2213 : Int) : Link impl_only_ctx LL (bodyOf Try.f50) impl_only_an (⟨mkE 6 0 [(0, .dat (.int .i64) x2213)], []⟩ : St) (impl_only_n1 x2213) (fun (t : Int) => (Exit.ret, (⟨mkE 6 0 [(2, .dat (.int .u64) t)], []⟩ : St))) := by
  refine Link.of fun K h => ?_
  simp only [impl_only_n1, wpO_bind, wpO_cond, wpO_map, wpO_some] at h
  exact Awp.of (by kernel_rfl) h

theorem impl_only_e (x2213 : Int) {r : AV} {H' : Heap} (h : (Ans.mk _ (impl_only x2213) (fun (t : Int) => (.dat (.int .u64) t, []))).run = some (r, H')) : Awp impl_only_ctx LL (bodyOf Try.f50) impl_only_an (⟨mkE 6 0 [(0, .dat (.int .i64) x2213)], []⟩ : St) (Ret (tlook tys) Try.f50.results.toList r H') :=
  ret_of' (impl_only_n1_l x2213) (by unfold impl_only; kernel_rfl) (by
  intro t
  exact ret_mk [.dat (.int .u64) t] (by kernel_rfl) (by kernel_rfl) (by kernel_rfl) (by kernel_rfl)) h

def F_impl_only : Fun := fun avs H =>
  match avs, H with
  | [.dat (.int .i64) x2213], [] => ⟨_, impl_only x2213, fun (t : Int) => (.dat (.int .u64) t, [])⟩
  | _, _ => Ans.no

theorem impl_only_sound : Sound Try.prog 50 F_impl_only := by
  refine fn_sound' (C := impl_only_ctx) (c := bodyOf Try.f50) (cok_of tys_ok (by simp) (by simp) (by kernel_rfl)) Try.func50 (by kernel_rfl) LL impl_only_an ?_
  intro avs H r H' h
  unfold F_impl_only at h
  split at h
  · refine Awp.cast ?_ ?_ ?_ (impl_only_e _ h) <;> kernel_rfl
  · simp [Ans.no, Ans.run] at h

/-! loop.example/headtrees/impl.dependents -/

def impl_dependents_an : Ann := (.seq (.leaf [0, 1]) (.seq (.leaf [0, 1, 5]) (.seq (.seq (.leaf [0, 1, 5, 8, 9]) (.block (.loop (.seq (.leaf [0, 1, 5, 8, 9, 10]) (.seq (.cond (.leaf [0, 1, 5, 8, 9]) (.leaf [5])) (.seq (.block (.seq (.leaf [0, 1, 5, 6, 8, 9]) (.seq (.leaf [0, 1, 5, 6, 8, 9, 17]) (.cond (.leaf [0, 1, 5, 8, 9]) (.leaf [0, 1, 5, 8, 9]))))) (.leaf [0, 1, 5, 8, 9]))))))) (.seq (.leaf [4]) (.leaf [4])))))

noncomputable def impl_dependents_ctx : Ctx := ⟨tlook tys, olook [(50, F_impl_only)], ioF, 0⟩

theorem impl_dependents_n1_l (x2204 : List Int) (x2205 : Int) : Link impl_dependents_ctx LL (Code.seq (Code.fst (bodyOf Try.f39)) (Code.fst (Code.snd (bodyOf Try.f39)))) (Ann.seq (Ann.fst impl_dependents_an) (Ann.fst (Ann.snd impl_dependents_an))) (⟨mkE 25 0 [(0, .dat (.list (.int .i64)) x2204), (1, .dat (.int .i64) x2205)], []⟩ : St) (impl_dependents_n1) (fun (t : Unit) => (Exit.normal, (⟨mkE 25 0 [(0, .dat (.list (.int .i64)) x2204), (1, .dat (.int .i64) x2205), (5, .dat (.int .u64) 0)], []⟩ : St))) := by
  refine Link.of fun K h => ?_
  simp only [impl_dependents_n1, wpO_bind, wpO_cond, wpO_map, wpO_some] at h
  exact Awp.of (by kernel_rfl) h

theorem impl_dependents_n2_l (x2204 : List Int) (x2205 : Int) : Link impl_dependents_ctx LL (Code.fst (Code.fst (Code.snd (Code.snd (bodyOf Try.f39))))) (Ann.fst (Ann.fst (Ann.snd (Ann.snd impl_dependents_an)))) (⟨mkE 25 0 [(0, .dat (.list (.int .i64)) x2204), (1, .dat (.int .i64) x2205), (5, .dat (.int .u64) 0)], []⟩ : St) (impl_dependents_n2 x2204) (fun (t : Int) => (Exit.normal, (⟨mkE 25 0 [(0, .dat (.list (.int .i64)) x2204), (1, .dat (.int .i64) x2205), (5, .dat (.int .u64) 0), (8, .dat (.int .i64) t), (9, .dat (.int .i64) 0)], []⟩ : St))) := by
  refine Link.of fun K h => ?_
  simp only [impl_dependents_n2, wpO_bind, wpO_cond, wpO_map, wpO_some] at h
  exact Awp.of (by kernel_rfl) h

theorem impl_dependents_n3_l (x2204 : List Int) (x2205 : Int) (x2230 : Int) (x2206 : Int) (x2231 : Int) : Link impl_dependents_ctx LL (Code.fst (Code.fst (Code.snd (Code.fst (Code.snd (Code.snd (bodyOf Try.f39))))))) (Ann.fst (Ann.fst (Ann.snd (Ann.fst (Ann.snd (Ann.snd impl_dependents_an)))))) (⟨mkE 25 0 [(0, .dat (.list (.int .i64)) x2204), (1, .dat (.int .i64) x2205), (5, .dat (.int .u64) x2230), (8, .dat (.int .i64) x2206), (9, .dat (.int .i64) x2231)], []⟩ : St) (impl_dependents_n3 x2204 x2205 x2230 x2206 x2231) (Sum.elim (fun (t : Int × Int) => (Exit.normal, (⟨mkE 25 0 [(0, .dat (.list (.int .i64)) x2204), (1, .dat (.int .i64) x2205), (5, .dat (.int .u64) t.1), (8, .dat (.int .i64) x2206), (9, .dat (.int .i64) t.2)], []⟩ : St))) (fun (t : Int) => ((Exit.exit 0), (⟨mkE 25 0 [(5, .dat (.int .u64) t)], []⟩ : St)))) := by
  refine Link.of fun K h => ?_
  simp only [impl_dependents_n3, wpO_bind, wpO_cond, wpO_map, wpO_some] at h
  exact Awp.of (by kernel_rfl) h

theorem impl_dependents_n4_l (x2204 : List Int) (x2205 : Int) (x2206 : Int) : Link impl_dependents_ctx LL (Code.fst (Code.snd (Code.fst (Code.snd (Code.snd (bodyOf Try.f39)))))) (Ann.fst (Ann.snd (Ann.fst (Ann.snd (Ann.snd impl_dependents_an))))) (⟨mkE 25 0 [(0, .dat (.list (.int .i64)) x2204), (1, .dat (.int .i64) x2205), (5, .dat (.int .u64) 0), (8, .dat (.int .i64) x2206), (9, .dat (.int .i64) 0)], []⟩ : St) (impl_dependents_n4 x2204 x2205 x2206) (fun (t : Int) => ((Exit.exit 0), (⟨mkE 25 0 [(5, .dat (.int .u64) t)], []⟩ : St))) := by
  unfold impl_dependents_n4
  exact Link.cast (by kernel_rfl) (by kernel_rfl) (link_loop (mk := fun (s : Int × Int) => (⟨mkE 25 0 [(0, .dat (.list (.int .i64)) x2204), (1, .dat (.int .i64) x2205), (5, .dat (.int .u64) s.1), (8, .dat (.int .i64) x2206), (9, .dat (.int .i64) s.2)], []⟩ : St)) (fin := (fun (t : Int) => ((Exit.exit 0), (⟨mkE 25 0 [(5, .dat (.int .u64) t)], []⟩ : St)))) (by
  rintro t f K h
  · exact h) (fun s => link_map (impl_dependents_n3_l x2204 x2205 s.1 x2206 s.2) (Sum.elim (fun (t : Int × Int) => Sum.inl (t.1, t.2)) (fun (t : Int) => Sum.inr t)) (by
  rintro (t | t)
  · kernel_rfl
  · kernel_rfl)) (0, 0))

theorem impl_dependents_n5_l (x2204 : List Int) (x2205 : Int) (x2206 : Int) : Link impl_dependents_ctx LL (Code.snd (Code.fst (Code.snd (Code.snd (bodyOf Try.f39))))) (Ann.snd (Ann.fst (Ann.snd (Ann.snd impl_dependents_an)))) (⟨mkE 25 0 [(0, .dat (.list (.int .i64)) x2204), (1, .dat (.int .i64) x2205), (5, .dat (.int .u64) 0), (8, .dat (.int .i64) x2206), (9, .dat (.int .i64) 0)], []⟩ : St) (impl_dependents_n5 x2204 x2205 x2206) (fun (t : Int) => (Exit.normal, (⟨mkE 25 0 [(5, .dat (.int .u64) t)], []⟩ : St))) := by
  unfold impl_dependents_n5
  exact Link.cast (by kernel_rfl) (by kernel_rfl) (link_block (id := 0) (impl_dependents_n4_l x2204 x2205 x2206) (fun (t : Int) => t) (by
  rintro t K h
  · exact Eq.mp (by kernel_rfl) h))

theorem impl_dependents_n6_l (x2204 : List Int) (x2205 : Int) : Link impl_dependents_ctx LL (Code.fst (Code.snd (Code.snd (bodyOf Try.f39)))) (Ann.fst (Ann.snd (Ann.snd impl_dependents_an))) (⟨mkE 25 0 [(0, .dat (.list (.int .i64)) x2204), (1, .dat (.int .i64) x2205), (5, .dat (.int .u64) 0)], []⟩ : St) (impl_dependents_n6 x2204 x2205) (fun (t : Int) => (Exit.normal, (⟨mkE 25 0 [(5, .dat (.int .u64) t)], []⟩ : St))) := by
  unfold impl_dependents_n6
  exact Link.cast (by kernel_rfl) (by kernel_rfl) (link_seq (b := (Code.snd (Code.fst (Code.snd (Code.snd (bodyOf Try.f39)))))) (y := (Ann.snd (Ann.fst (Ann.snd (Ann.snd impl_dependents_an))))) (impl_dependents_n2_l x2204 x2205) (fun (t : Int) => (impl_dependents_n5_l x2204 x2205 t)))

theorem impl_dependents_n7_l (x2230 : Int) : Link impl_dependents_ctx LL (Code.snd (Code.snd (Code.snd (bodyOf Try.f39)))) (Ann.snd (Ann.snd (Ann.snd impl_dependents_an))) (⟨mkE 25 0 [(5, .dat (.int .u64) x2230)], []⟩ : St) (impl_dependents_n7 x2230) (fun (t : Int) => (Exit.ret, (⟨mkE 25 0 [(4, .dat (.int .u64) t)], []⟩ : St))) := by
  refine Link.of fun K h => ?_
  simp only [impl_dependents_n7, wpO_bind, wpO_cond, wpO_map, wpO_some] at h
  exact Awp.of (by kernel_rfl) h

theorem impl_dependents_n8_l (x2204 : List Int) (x2205 : Int) : Link impl_dependents_ctx LL (Code.snd (Code.snd (bodyOf Try.f39))) (Ann.snd (Ann.snd impl_dependents_an)) (⟨mkE 25 0 [(0, .dat (.list (.int .i64)) x2204), (1, .dat (.int .i64) x2205), (5, .dat (.int .u64) 0)], []⟩ : St) (impl_dependents_n8 x2204 x2205) (fun (t : Int) => (Exit.ret, (⟨mkE 25 0 [(4, .dat (.int .u64) t)], []⟩ : St))) := by
  unfold impl_dependents_n8
  exact Link.cast (by kernel_rfl) (by kernel_rfl) (link_seq (b := (Code.snd (Code.snd (Code.snd (bodyOf Try.f39))))) (y := (Ann.snd (Ann.snd (Ann.snd impl_dependents_an)))) (impl_dependents_n6_l x2204 x2205) (fun (t : Int) => (impl_dependents_n7_l t)))

theorem impl_dependents_n9_l (x2204 : List Int) (x2205 : Int) : Link impl_dependents_ctx LL (bodyOf Try.f39) impl_dependents_an (⟨mkE 25 0 [(0, .dat (.list (.int .i64)) x2204), (1, .dat (.int .i64) x2205)], []⟩ : St) (impl_dependents_n9 x2204 x2205) (fun (t : Int) => (Exit.ret, (⟨mkE 25 0 [(4, .dat (.int .u64) t)], []⟩ : St))) := by
  unfold impl_dependents_n9
  exact Link.cast (by kernel_rfl) (by kernel_rfl) (link_group (c := (Code.fst (Code.snd (bodyOf Try.f39)))) (a := (Ann.fst (Ann.snd impl_dependents_an))) [(Code.fst (bodyOf Try.f39))] [(Ann.fst impl_dependents_an)] rfl (link_seq (b := (Code.snd (Code.snd (bodyOf Try.f39)))) (y := (Ann.snd (Ann.snd impl_dependents_an))) (impl_dependents_n1_l x2204 x2205) (fun (t : Unit) => (impl_dependents_n8_l x2204 x2205))))

theorem impl_dependents_e (x2204 : List Int) (x2205 : Int) {r : AV} {H' : Heap} (h : (Ans.mk _ (impl_dependents x2204 x2205) (fun (t : Int) => (.dat (.int .u64) t, []))).run = some (r, H')) : Awp impl_dependents_ctx LL (bodyOf Try.f39) impl_dependents_an (⟨mkE 25 0 [(0, .dat (.list (.int .i64)) x2204), (1, .dat (.int .i64) x2205)], []⟩ : St) (Ret (tlook tys) Try.f39.results.toList r H') :=
  ret_of' (impl_dependents_n9_l x2204 x2205) (by unfold impl_dependents; kernel_rfl) (by
  intro t
  exact ret_mk [.dat (.int .u64) t] (by kernel_rfl) (by kernel_rfl) (by kernel_rfl) (by kernel_rfl)) h

def F_impl_dependents : Fun := fun avs H =>
  match avs, H with
  | [.dat (.list (.int .i64)) x2204, .dat (.int .i64) x2205], [] => ⟨_, impl_dependents x2204 x2205, fun (t : Int) => (.dat (.int .u64) t, [])⟩
  | _, _ => Ans.no

theorem impl_dependents_sound : Sound Try.prog 39 F_impl_dependents := by
  refine fn_sound' (C := impl_dependents_ctx) (c := bodyOf Try.f39) (cok_of tys_ok (List.forall_mem_cons.2 ⟨impl_only_sound, by simp⟩) (List.forall_mem_cons.2 ⟨Try.call50, by simp⟩) (by kernel_rfl)) Try.func39 (by kernel_rfl) LL impl_dependents_an ?_
  intro avs H r H' h
  unfold F_impl_dependents at h
  split at h
  · refine Awp.cast ?_ ?_ ?_ (impl_dependents_e _ _ h) <;> kernel_rfl
  · simp [Ans.no, Ans.run] at h

/-! loop.example/headtrees/impl.before -/

def impl_before_an : Ann := (.seq (.leaf [0]) (.seq (.leaf [2]) (.leaf [2])))

noncomputable def impl_before_ctx : Ctx := ⟨tlook tys, olook [(50, F_impl_only)], ioF, 0⟩

theorem impl_before_n1_l (x2254 : Int) : Link impl_before_ctx LL (bodyOf Try.f40) impl_before_an (⟨mkE 6 0 [(0, .dat (.int .i64) x2254)], []⟩ : St) (impl_before_n1 x2254) (fun (t : Int) => (Exit.ret, (⟨mkE 6 0 [(2, .dat (.int .u64) t)], []⟩ : St))) := by
  refine Link.of fun K h => ?_
  simp only [impl_before_n1, wpO_bind, wpO_cond, wpO_map, wpO_some] at h
  exact Awp.of (by kernel_rfl) h

theorem impl_before_e (x2254 : Int) {r : AV} {H' : Heap} (h : (Ans.mk _ (impl_before x2254) (fun (t : Int) => (.dat (.int .u64) t, []))).run = some (r, H')) : Awp impl_before_ctx LL (bodyOf Try.f40) impl_before_an (⟨mkE 6 0 [(0, .dat (.int .i64) x2254)], []⟩ : St) (Ret (tlook tys) Try.f40.results.toList r H') :=
  ret_of' (impl_before_n1_l x2254) (by unfold impl_before; kernel_rfl) (by
  intro t
  exact ret_mk [.dat (.int .u64) t] (by kernel_rfl) (by kernel_rfl) (by kernel_rfl) (by kernel_rfl)) h

def F_impl_before : Fun := fun avs H =>
  match avs, H with
  | [.dat (.int .i64) x2254], [] => ⟨_, impl_before x2254, fun (t : Int) => (.dat (.int .u64) t, [])⟩
  | _, _ => Ans.no

theorem impl_before_sound : Sound Try.prog 40 F_impl_before := by
  refine fn_sound' (C := impl_before_ctx) (c := bodyOf Try.f40) (cok_of tys_ok (List.forall_mem_cons.2 ⟨impl_only_sound, by simp⟩) (List.forall_mem_cons.2 ⟨Try.call50, by simp⟩) (by kernel_rfl)) Try.func40 (by kernel_rfl) LL impl_before_an ?_
  intro avs H r H' h
  unfold F_impl_before at h
  split at h
  · refine Awp.cast ?_ ?_ ?_ (impl_before_e _ h) <;> kernel_rfl
  · simp [Ans.no, Ans.run] at h

/-! math/bits.OnesCount64 -/

def math_bits_OnesCount64_an : Ann := (.seq (.leaf [0]) (.seq (.leaf [0]) (.seq (.leaf [0]) (.seq (.leaf [0]) (.seq (.leaf [0]) (.seq (.leaf [0]) (.seq (.leaf [0]) (.seq (.leaf [2]) (.leaf [2])))))))))

noncomputable def math_bits_OnesCount64_ctx : Ctx := ⟨tlook tys, olook [], ioF, 0⟩

theorem math_bits_OnesCount64_n1_l (x2263 : Int) : Link math_bits_OnesCount64_ctx LL (Code.seq (Code.fst (bodyOf Try.f60)) (Code.fst (Code.snd (bodyOf Try.f60)))) (Ann.seq (Ann.fst math_bits_OnesCount64_an) (Ann.fst (Ann.snd math_bits_OnesCount64_an))) (⟨mkE 35 0 [(0, .dat (.int .u64) x2263)], []⟩ : St) (math_bits_OnesCount64_n1 x2263) (fun (t : Int) => (Exit.normal, (⟨mkE 35 0 [(0, .dat (.int .u64) t)], []⟩ : St))) := by
  refine Link.of fun K h => ?_
  simp only [math_bits_OnesCount64_n1, wpO_bind, wpO_cond, wpO_map, wpO_some] at h
  exact Awp.of (by kernel_rfl) h

theorem math_bits_OnesCount64_n2_l (x2268 : Int) : Link math_bits_OnesCount64_ctx LL (Code.fst (Code.snd (Code.snd (bodyOf Try.f60)))) (Ann.fst (Ann.snd (Ann.snd math_bits_OnesCount64_an))) (⟨mkE 35 0 [(0, .dat (.int .u64) x2268)], []⟩ : St) (math_bits_OnesCount64_n2 x2268) (fun (t : Int) => (Exit.normal, (⟨mkE 35 0 [(0, .dat (.int .u64) t)], []⟩ : St))) := by
  refine Link.of fun K h => ?_
  simp only [math_bits_OnesCount64_n2, wpO_bind, wpO_cond, wpO_map, wpO_some] at h
  exact Awp.of (by kernel_rfl) h

theorem math_bits_OnesCount64_n3_l (x2285 : Int) : Link math_bits_OnesCount64_ctx LL (Code.fst (Code.snd (Code.snd (Code.snd (bodyOf Try.f60))))) (Ann.fst (Ann.snd (Ann.snd (Ann.snd math_bits_OnesCount64_an)))) (⟨mkE 35 0 [(0, .dat (.int .u64) x2285)], []⟩ : St) (math_bits_OnesCount64_n3 x2285) (fun (t : Int) => (Exit.normal, (⟨mkE 35 0 [(0, .dat (.int .u64) t)], []⟩ : St))) := by
  refine Link.of fun K h => ?_
  simp only [math_bits_OnesCount64_n3, wpO_bind, wpO_cond, wpO_map, wpO_some] at h
  exact Awp.of (by kernel_rfl) h

theorem math_bits_OnesCount64_n4_l (x2292 : Int) : Link math_bits_OnesCount64_ctx LL (Code.fst (Code.snd (Code.snd (Code.snd (Code.snd (bodyOf Try.f60)))))) (Ann.fst (Ann.snd (Ann.snd (Ann.snd (Ann.snd math_bits_OnesCount64_an))))) (⟨mkE 35 0 [(0, .dat (.int .u64) x2292)], []⟩ : St) (math_bits_OnesCount64_n4 x2292) (fun (t : Int) => (Exit.normal, (⟨mkE 35 0 [(0, .dat (.int .u64) t)], []⟩ : St))) := by
  refine Link.of fun K h => ?_
  simp only [math_bits_OnesCount64_n4, wpO_bind, wpO_cond, wpO_map, wpO_some] at h
  exact Awp.of (by kernel_rfl) h

theorem math_bits_OnesCount64_n5_l (x2296 : Int) : Link math_bits_OnesCount64_ctx LL (Code.fst (Code.snd (Code.snd (Code.snd (Code.snd (Code.snd (bodyOf Try.f60))))))) (Ann.fst (Ann.snd (Ann.snd (Ann.snd (Ann.snd (Ann.snd math_bits_OnesCount64_an)))))) (⟨mkE 35 0 [(0, .dat (.int .u64) x2296)], []⟩ : St) (math_bits_OnesCount64_n5 x2296) (fun (t : Int) => (Exit.normal, (⟨mkE 35 0 [(0, .dat (.int .u64) t)], []⟩ : St))) := by
  refine Link.of fun K h => ?_
  simp only [math_bits_OnesCount64_n5, wpO_bind, wpO_cond, wpO_map, wpO_some] at h
  exact Awp.of (by kernel_rfl) h

theorem math_bits_OnesCount64_n6_l (x2301 : Int) : Link math_bits_OnesCount64_ctx LL (Code.fst (Code.snd (Code.snd (Code.snd (Code.snd (Code.snd (Code.snd (bodyOf Try.f60)))))))) (Ann.fst (Ann.snd (Ann.snd (Ann.snd (Ann.snd (Ann.snd (Ann.snd math_bits_OnesCount64_an))))))) (⟨mkE 35 0 [(0, .dat (.int .u64) x2301)], []⟩ : St) (math_bits_OnesCount64_n6 x2301) (fun (t : Int) => (Exit.normal, (⟨mkE 35 0 [(0, .dat (.int .u64) t)], []⟩ : St))) := by
  refine Link.of fun K h => ?_
  simp only [math_bits_OnesCount64_n6, wpO_bind, wpO_cond, wpO_map, wpO_some] at h
  exact Awp.of (by kernel_rfl) h

theorem math_bits_OnesCount64_n7_l (x2306 : Int) : Link math_bits_OnesCount64_ctx LL (Code.fst (Code.snd (Code.snd (Code.snd (Code.snd (Code.snd (Code.snd (Code.snd (bodyOf Try.f60))))))))) (Ann.fst (Ann.snd (Ann.snd (Ann.snd (Ann.snd (Ann.snd (Ann.snd (Ann.snd math_bits_OnesCount64_an)))))))) (⟨mkE 35 0 [(0, .dat (.int .u64) x2306)], []⟩ : St) (math_bits_OnesCount64_n7 x2306) (fun (t : Int) => (Exit.normal, (⟨mkE 35 0 [(2, .dat (.int .i64) t)], []⟩ : St))) := by
  refine Link.of fun K h => ?_
  simp only [math_bits_OnesCount64_n7, wpO_bind, wpO_cond, wpO_map, wpO_some] at h
  exact Awp.of (by kernel_rfl) h

theorem math_bits_OnesCount64_n8_l (x2311 : Int) : Link math_bits_OnesCount64_ctx LL (Code.snd (Code.snd (Code.snd (Code.snd (Code.snd (Code.snd (Code.snd (Code.snd (bodyOf Try.f60))))))))) (Ann.snd (Ann.snd (Ann.snd (Ann.snd (Ann.snd (Ann.snd (Ann.snd (Ann.snd math_bits_OnesCount64_an)))))))) (⟨mkE 35 0 [(2, .dat (.int .i64) x2311)], []⟩ : St) (math_bits_OnesCount64_n8 x2311) (fun (t : Int) => (Exit.ret, (⟨mkE 35 0 [(2, .dat (.int .i64) t)], []⟩ : St))) := by
  refine Link.of fun K h => ?_
  simp only [math_bits_OnesCount64_n8, wpO_bind, wpO_cond, wpO_map, wpO_some] at h
  exact Awp.of (by kernel_rfl) h

theorem math_bits_OnesCount64_n9_l (x2306 : Int) : Link math_bits_OnesCount64_ctx LL (Code.snd (Code.snd (Code.snd (Code.snd (Code.snd (Code.snd (Code.snd (bodyOf Try.f60)))))))) (Ann.snd (Ann.snd (Ann.snd (Ann.snd (Ann.snd (Ann.snd (Ann.snd math_bits_OnesCount64_an))))))) (⟨mkE 35 0 [(0, .dat (.int .u64) x2306)], []⟩ : St) (math_bits_OnesCount64_n9 x2306) (fun (t : Int) => (Exit.ret, (⟨mkE 35 0 [(2, .dat (.int .i64) t)], []⟩ : St))) := by
  unfold math_bits_OnesCount64_n9
  exact Link.cast (by kernel_rfl) (by kernel_rfl) (link_seq (b := (Code.snd (Code.snd (Code.snd (Code.snd (Code.snd (Code.snd (Code.snd (Code.snd (bodyOf Try.f60)))))))))) (y := (Ann.snd (Ann.snd (Ann.snd (Ann.snd (Ann.snd (Ann.snd (Ann.snd (Ann.snd math_bits_OnesCount64_an))))))))) (math_bits_OnesCount64_n7_l x2306) (fun (t : Int) => (math_bits_OnesCount64_n8_l t)))

theorem math_bits_OnesCount64_n10_l (x2301 : Int) : Link math_bits_OnesCount64_ctx LL (Code.snd (Code.snd (Code.snd (Code.snd (Code.snd (Code.snd (bodyOf Try.f60))))))) (Ann.snd (Ann.snd (Ann.snd (Ann.snd (Ann.snd (Ann.snd math_bits_OnesCount64_an)))))) (⟨mkE 35 0 [(0, .dat (.int .u64) x2301)], []⟩ : St) (math_bits_OnesCount64_n10 x2301) (fun (t : Int) => (Exit.ret, (⟨mkE 35 0 [(2, .dat (.int .i64) t)], []⟩ : St))) := by
  unfold math_bits_OnesCount64_n10
  exact Link.cast (by kernel_rfl) (by kernel_rfl) (link_seq (b := (Code.snd (Code.snd (Code.snd (Code.snd (Code.snd (Code.snd (Code.snd (bodyOf Try.f60))))))))) (y := (Ann.snd (Ann.snd (Ann.snd (Ann.snd (Ann.snd (Ann.snd (Ann.snd math_bits_OnesCount64_an)))))))) (math_bits_OnesCount64_n6_l x2301) (fun (t : Int) => (math_bits_OnesCount64_n9_l t)))

theorem math_bits_OnesCount64_n11_l (x2296 : Int) : Link math_bits_OnesCount64_ctx LL (Code.snd (Code.snd (Code.snd (Code.snd (Code.snd (bodyOf Try.f60)))))) (Ann.snd (Ann.snd (Ann.snd (Ann.snd (Ann.snd math_bits_OnesCount64_an))))) (⟨mkE 35 0 [(0, .dat (.int .u64) x2296)], []⟩ : St) (math_bits_OnesCount64_n11 x2296) (fun (t : Int) => (Exit.ret, (⟨mkE 35 0 [(2, .dat (.int .i64) t)], []⟩ : St))) := by
  unfold math_bits_OnesCount64_n11
  exact Link.cast (by kernel_rfl) (by kernel_rfl) (link_seq (b := (Code.snd (Code.snd (Code.snd (Code.snd (Code.snd (Code.snd (bodyOf Try.f60)))))))) (y := (Ann.snd (Ann.snd (Ann.snd (Ann.snd (Ann.snd (Ann.snd math_bits_OnesCount64_an))))))) (math_bits_OnesCount64_n5_l x2296) (fun (t : Int) => (math_bits_OnesCount64_n10_l t)))

theorem math_bits_OnesCount64_n12_l (x2292 : Int) : Link math_bits_OnesCount64_ctx LL (Code.snd (Code.snd (Code.snd (Code.snd (bodyOf Try.f60))))) (Ann.snd (Ann.snd (Ann.snd (Ann.snd math_bits_OnesCount64_an)))) (⟨mkE 35 0 [(0, .dat (.int .u64) x2292)], []⟩ : St) (math_bits_OnesCount64_n12 x2292) (fun (t : Int) => (Exit.ret, (⟨mkE 35 0 [(2, .dat (.int .i64) t)], []⟩ : St))) := by
  unfold math_bits_OnesCount64_n12
  exact Link.cast (by kernel_rfl) (by kernel_rfl) (link_seq (b := (Code.snd (Code.snd (Code.snd (Code.snd (Code.snd (bodyOf Try.f60))))))) (y := (Ann.snd (Ann.snd (Ann.snd (Ann.snd (Ann.snd math_bits_OnesCount64_an)))))) (math_bits_OnesCount64_n4_l x2292) (fun (t : Int) => (math_bits_OnesCount64_n11_l t)))

theorem math_bits_OnesCount64_n13_l (x2285 : Int) : Link math_bits_OnesCount64_ctx LL (Code.snd (Code.snd (Code.snd (bodyOf Try.f60)))) (Ann.snd (Ann.snd (Ann.snd math_bits_OnesCount64_an))) (⟨mkE 35 0 [(0, .dat (.int .u64) x2285)], []⟩ : St) (math_bits_OnesCount64_n13 x2285) (fun (t : Int) => (Exit.ret, (⟨mkE 35 0 [(2, .dat (.int .i64) t)], []⟩ : St))) := by
  unfold math_bits_OnesCount64_n13
  exact Link.cast (by kernel_rfl) (by kernel_rfl) (link_seq (b := (Code.snd (Code.snd (Code.snd (Code.snd (bodyOf Try.f60)))))) (y := (Ann.snd (Ann.snd (Ann.snd (Ann.snd math_bits_OnesCount64_an))))) (math_bits_OnesCount64_n3_l x2285) (fun (t : Int) => (math_bits_OnesCount64_n12_l t)))

theorem math_bits_OnesCount64_n14_l (x2268 : Int) : Link math_bits_OnesCount64_ctx LL (Code.snd (Code.snd (bodyOf Try.f60))) (Ann.snd (Ann.snd math_bits_OnesCount64_an)) (⟨mkE 35 0 [(0, .dat (.int .u64) x2268)], []⟩ : St) (math_bits_OnesCount64_n14 x2268) (fun (t : Int) => (Exit.ret, (⟨mkE 35 0 [(2, .dat (.int .i64) t)], []⟩ : St))) := by
  unfold math_bits_OnesCount64_n14
  exact Link.cast (by kernel_rfl) (by kernel_rfl) (link_seq (b := (Code.snd (Code.snd (Code.snd (bodyOf Try.f60))))) (y := (Ann.snd (Ann.snd (Ann.snd math_bits_OnesCount64_an)))) (math_bits_OnesCount64_n2_l x2268) (fun (t : Int) => (math_bits_OnesCount64_n13_l t)))

theorem math_bits_OnesCount64_n15_l (x2263 : Int) : Link math_bits_OnesCount64_ctx LL (bodyOf Try.f60) math_bits_OnesCount64_an (⟨mkE 35 0 [(0, .dat (.int .u64) x2263)], []⟩ : St) (math_bits_OnesCount64_n15 x2263) (fun (t : Int) => (Exit.ret, (⟨mkE 35 0 [(2, .dat (.int .i64) t)], []⟩ : St))) := by
  unfold math_bits_OnesCount64_n15
  exact Link.cast (by kernel_rfl) (by kernel_rfl) (link_group (c := (Code.fst (Code.snd (bodyOf Try.f60)))) (a := (Ann.fst (Ann.snd math_bits_OnesCount64_an))) [(Code.fst (bodyOf Try.f60))] [(Ann.fst math_bits_OnesCount64_an)] rfl (link_seq (b := (Code.snd (Code.snd (bodyOf Try.f60)))) (y := (Ann.snd (Ann.snd math_bits_OnesCount64_an))) (math_bits_OnesCount64_n1_l x2263) (fun (t : Int) => (math_bits_OnesCount64_n14_l t))))

theorem math_bits_OnesCount64_e (x2263 : Int) {r : AV} {H' : Heap} (h : (Ans.mk _ (math_bits_OnesCount64 x2263) (fun (t : Int) => (.dat (.int .i64) t, []))).run = some (r, H')) : Awp math_bits_OnesCount64_ctx LL (bodyOf Try.f60) math_bits_OnesCount64_an (⟨mkE 35 0 [(0, .dat (.int .u64) x2263)], []⟩ : St) (Ret (tlook tys) Try.f60.results.toList r H') :=
  ret_of' (math_bits_OnesCount64_n15_l x2263) (by unfold math_bits_OnesCount64; kernel_rfl) (by
  intro t
  exact ret_mk [.dat (.int .i64) t] (by kernel_rfl) (by kernel_rfl) (by kernel_rfl) (by kernel_rfl)) h

def F_math_bits_OnesCount64 : Fun := fun avs H =>
  match avs, H with
  | [.dat (.int .u64) x2263], [] => ⟨_, math_bits_OnesCount64 x2263, fun (t : Int) => (.dat (.int .i64) t, [])⟩
  | _, _ => Ans.no

theorem math_bits_OnesCount64_sound : Sound Try.prog 60 F_math_bits_OnesCount64 := by
  refine fn_sound' (C := math_bits_OnesCount64_ctx) (c := bodyOf Try.f60) (cok_of tys_ok (by simp) (by simp) (by kernel_rfl)) Try.func60 (by kernel_rfl) LL math_bits_OnesCount64_an ?_
  intro avs H r H' h
  unfold F_math_bits_OnesCount64 at h
  split at h
  · refine Awp.cast ?_ ?_ ?_ (math_bits_OnesCount64_e _ h) <;> kernel_rfl
  · simp [Ans.no, Ans.run] at h

/-! math/bits.OnesCount -/

def math_bits_OnesCount_an : Ann := (.seq (.leaf [0]) (.seq (.cond (.seq (.leaf [2]) (.leaf [2])) (.leaf [0])) (.seq (.leaf [2]) (.leaf [2]))))

noncomputable def math_bits_OnesCount_ctx : Ctx := ⟨tlook tys, olook [(60, F_math_bits_OnesCount64)], ioF, 0⟩

theorem math_bits_OnesCount_n1_l (x2262 : Int) : Link math_bits_OnesCount_ctx LL (bodyOf Try.f51) math_bits_OnesCount_an (⟨mkE 8 0 [(0, .dat (.int .u64) x2262)], []⟩ : St) (math_bits_OnesCount_n1 x2262) (fun (t : Int) => (Exit.ret, (⟨mkE 8 0 [(2, .dat (.int .i64) t)], []⟩ : St))) := by
  refine Link.of fun K h => ?_
  simp only [math_bits_OnesCount_n1, wpO_bind, wpO_cond, wpO_map, wpO_some] at h
  exact Awp.of (by kernel_rfl) h

theorem math_bits_OnesCount_e (x2262 : Int) {r : AV} {H' : Heap} (h : (Ans.mk _ (math_bits_OnesCount x2262) (fun (t : Int) => (.dat (.int .i64) t, []))).run = some (r, H')) : Awp math_bits_OnesCount_ctx LL (bodyOf Try.f51) math_bits_OnesCount_an (⟨mkE 8 0 [(0, .dat (.int .u64) x2262)], []⟩ : St) (Ret (tlook tys) Try.f51.results.toList r H') :=
  ret_of' (math_bits_OnesCount_n1_l x2262) (by unfold math_bits_OnesCount; kernel_rfl) (by
  intro t
  exact ret_mk [.dat (.int .i64) t] (by kernel_rfl) (by kernel_rfl) (by kernel_rfl) (by kernel_rfl)) h

def F_math_bits_OnesCount : Fun := fun avs H =>
  match avs, H with
  | [.dat (.int .u64) x2262], [] => ⟨_, math_bits_OnesCount x2262, fun (t : Int) => (.dat (.int .i64) t, [])⟩
  | _, _ => Ans.no

theorem math_bits_OnesCount_sound : Sound Try.prog 51 F_math_bits_OnesCount := by
  refine fn_sound' (C := math_bits_OnesCount_ctx) (c := bodyOf Try.f51) (cok_of tys_ok (List.forall_mem_cons.2 ⟨math_bits_OnesCount64_sound, by simp⟩) (List.forall_mem_cons.2 ⟨Try.call60, by simp⟩) (by kernel_rfl)) Try.func51 (by kernel_rfl) LL math_bits_OnesCount_an ?_
  intro avs H r H' h
  unfold F_math_bits_OnesCount at h
  split at h
  · refine Awp.cast ?_ ?_ ?_ (math_bits_OnesCount_e _ h) <;> kernel_rfl
  · simp [Ans.no, Ans.run] at h

/-! (loop.example/headtrees/impl.wordSet).count -/

def impl_wordSet_count_an : Ann := (.seq (.leaf [0]) (.seq (.leaf [2]) (.leaf [2])))

noncomputable def impl_wordSet_count_ctx : Ctx := ⟨tlook tys, olook [(51, F_math_bits_OnesCount)], ioF, 0⟩

theorem impl_wordSet_count_n1_l (x2261 : Int) : Link impl_wordSet_count_ctx LL (bodyOf Try.f41) impl_wordSet_count_an (⟨mkE 5 0 [(0, .dat (.int .u64) x2261)], []⟩ : St) (impl_wordSet_count_n1 x2261) (fun (t : Int) => (Exit.ret, (⟨mkE 5 0 [(2, .dat (.int .i64) t)], []⟩ : St))) := by
  refine Link.of fun K h => ?_
  simp only [impl_wordSet_count_n1, wpO_bind, wpO_cond, wpO_map, wpO_some] at h
  exact Awp.of (by kernel_rfl) h

theorem impl_wordSet_count_e (x2261 : Int) {r : AV} {H' : Heap} (h : (Ans.mk _ (impl_wordSet_count x2261) (fun (t : Int) => (.dat (.int .i64) t, []))).run = some (r, H')) : Awp impl_wordSet_count_ctx LL (bodyOf Try.f41) impl_wordSet_count_an (⟨mkE 5 0 [(0, .dat (.int .u64) x2261)], []⟩ : St) (Ret (tlook tys) Try.f41.results.toList r H') :=
  ret_of' (impl_wordSet_count_n1_l x2261) (by unfold impl_wordSet_count; kernel_rfl) (by
  intro t
  exact ret_mk [.dat (.int .i64) t] (by kernel_rfl) (by kernel_rfl) (by kernel_rfl) (by kernel_rfl)) h

def F_impl_wordSet_count : Fun := fun avs H =>
  match avs, H with
  | [.dat (.int .u64) x2261], [] => ⟨_, impl_wordSet_count x2261, fun (t : Int) => (.dat (.int .i64) t, [])⟩
  | _, _ => Ans.no

theorem impl_wordSet_count_sound : Sound Try.prog 41 F_impl_wordSet_count := by
  refine fn_sound' (C := impl_wordSet_count_ctx) (c := bodyOf Try.f41) (cok_of tys_ok (List.forall_mem_cons.2 ⟨math_bits_OnesCount_sound, by simp⟩) (List.forall_mem_cons.2 ⟨Try.call51, by simp⟩) (by kernel_rfl)) Try.func41 (by kernel_rfl) LL impl_wordSet_count_an ?_
  intro avs H r H' h
  unfold F_impl_wordSet_count at h
  split at h
  · refine Awp.cast ?_ ?_ ?_ (impl_wordSet_count_e _ h) <;> kernel_rfl
  · simp [Ans.no, Ans.run] at h

/-! loop.example/headtrees/impl.SidesOf -/

def impl_SidesOf_an : Ann := (.seq (.leaf [0, 1]) (.seq (.seq (.leaf [0, 1, 11]) (.cond (.seq (.leaf [4, 5, 6]) (.leaf [4, 5, 6])) (.leaf [0, 1]))) (.seq (.leaf [1, 7]) (.seq (.leaf [4, 5, 6]) (.leaf [4, 5, 6])))))

noncomputable def impl_SidesOf_ctx : Ctx := ⟨tlook tys, olook [(33, F_impl_wordOk), (39, F_impl_dependents), (40, F_impl_before), (41, F_impl_wordSet_count)], ioF, 0⟩

theorem impl_SidesOf_n1_l (x2198 : List Int) (x2199 : Int) : Link impl_SidesOf_ctx LL (bodyOf Try.f20) impl_SidesOf_an (⟨mkE 25 0 [(0, .dat (.list (.int .i64)) x2198), (1, .dat (.int .i64) x2199)], []⟩ : St) (impl_SidesOf_n1 x2198 x2199) (fun (t : Int × Int × Bool) => (Exit.ret, (⟨mkE 25 0 [(4, .dat (.int .i64) t.1), (5, .dat (.int .i64) t.2.1), (6, .dat .bool t.2.2)], []⟩ : St))) := by
  refine Link.of fun K h => ?_
  simp only [impl_SidesOf_n1, wpO_bind, wpO_cond, wpO_map, wpO_some] at h
  exact Awp.of (by kernel_rfl) h

theorem impl_SidesOf_e (x2198 : List Int) (x2199 : Int) {r : AV} {H' : Heap} (h : (Ans.mk _ (impl_SidesOf x2198 x2199) (fun (t : Int × Int × Bool) => (.tup [.dat (.int .i64) t.1, .dat (.int .i64) t.2.1, .dat .bool t.2.2], []))).run = some (r, H')) : Awp impl_SidesOf_ctx LL (bodyOf Try.f20) impl_SidesOf_an (⟨mkE 25 0 [(0, .dat (.list (.int .i64)) x2198), (1, .dat (.int .i64) x2199)], []⟩ : St) (Ret (tlook tys) Try.f20.results.toList r H') :=
  ret_of' (impl_SidesOf_n1_l x2198 x2199) (by unfold impl_SidesOf; kernel_rfl) (by
  intro t
  exact ret_mk [.dat (.int .i64) t.1, .dat (.int .i64) t.2.1, .dat .bool t.2.2] (by kernel_rfl) (by kernel_rfl) (by kernel_rfl) (by kernel_rfl)) h

def F_impl_SidesOf : Fun := fun avs H =>
  match avs, H with
  | [.dat (.list (.int .i64)) x2198, .dat (.int .i64) x2199], [] => ⟨_, impl_SidesOf x2198 x2199, fun (t : Int × Int × Bool) => (.tup [.dat (.int .i64) t.1, .dat (.int .i64) t.2.1, .dat .bool t.2.2], [])⟩
  | _, _ => Ans.no

theorem impl_SidesOf_sound : Sound Try.prog 20 F_impl_SidesOf := by
  refine fn_sound' (C := impl_SidesOf_ctx) (c := bodyOf Try.f20) (cok_of tys_ok (List.forall_mem_cons.2 ⟨impl_wordOk_sound, List.forall_mem_cons.2 ⟨impl_dependents_sound, List.forall_mem_cons.2 ⟨impl_before_sound, List.forall_mem_cons.2 ⟨impl_wordSet_count_sound, by simp⟩⟩⟩⟩) (List.forall_mem_cons.2 ⟨Try.call33, List.forall_mem_cons.2 ⟨Try.call39, List.forall_mem_cons.2 ⟨Try.call40, List.forall_mem_cons.2 ⟨Try.call41, by simp⟩⟩⟩⟩) (by kernel_rfl)) Try.func20 (by kernel_rfl) LL impl_SidesOf_an ?_
  intro avs H r H' h
  unfold F_impl_SidesOf at h
  split at h
  · refine Awp.cast ?_ ?_ ?_ (impl_SidesOf_e _ _ h) <;> kernel_rfl
  · simp [Ans.no, Ans.run] at h

/-! loop.example/headtrees/laws.eqIntS -/

def laws_eqIntS_an : Ann := (.seq (.leaf [0, 1]) (.seq (.seq (.leaf [0, 1, 10]) (.cond (.seq (.leaf [4]) (.leaf [4])) (.leaf [0, 1]))) (.seq (.seq (.leaf [0, 1, 5]) (.block (.loop (.seq (.seq (.leaf [0, 1, 5, 14]) (.cond (.leaf [0, 1, 5]) (.leaf []))) (.seq (.block (.seq (.draw [] [0, 1, 2, 3, 4, 5, 6, 7, 8] [] [0, 1, 5, 25]) (.cond (.seq (.leaf [4]) (.leaf [4])) (.leaf [0, 1, 5])))) (.leaf [0, 1, 5])))))) (.seq (.leaf [4]) (.leaf [4])))))

noncomputable def laws_eqIntS_ctx : Ctx := ⟨tlook tys, olook [], ioF, 0⟩

theorem laws_eqIntS_n1_l (x2367 : List Int) (x2368 : List Int) : Link laws_eqIntS_ctx LL (Code.seq (Code.fst (bodyOf Try.f21)) (Code.fst (Code.snd (bodyOf Try.f21)))) (Ann.seq (Ann.fst laws_eqIntS_an) (Ann.fst (Ann.snd laws_eqIntS_an))) (⟨mkE 26 0 [(0, .dat (.list (.int .i64)) x2367), (1, .dat (.list (.int .i64)) x2368)], []⟩ : St) (laws_eqIntS_n1 x2367 x2368) (Sum.elim (fun (t : Unit) => (Exit.normal, (⟨mkE 26 0 [(0, .dat (.list (.int .i64)) x2367), (1, .dat (.list (.int .i64)) x2368)], []⟩ : St))) (fun (t : Bool) => (Exit.ret, (⟨mkE 26 0 [(4, .dat .bool t)], []⟩ : St)))) := by
  refine Link.of fun K h => ?_
  simp only [laws_eqIntS_n1, wpO_bind, wpO_cond, wpO_map, wpO_some] at h
  exact Awp.of (by kernel_rfl) h

theorem laws_eqIntS_n2_l (x2367 : List Int) (x2368 : List Int) : Link laws_eqIntS_ctx LL (Code.fst (Code.fst (Code.snd (Code.snd (bodyOf Try.f21))))) (Ann.fst (Ann.fst (Ann.snd (Ann.snd laws_eqIntS_an)))) (⟨mkE 26 0 [(0, .dat (.list (.int .i64)) x2367), (1, .dat (.list (.int .i64)) x2368)], []⟩ : St) (laws_eqIntS_n2) (fun (t : Unit) => (Exit.normal, (⟨mkE 26 0 [(0, .dat (.list (.int .i64)) x2367), (1, .dat (.list (.int .i64)) x2368), (5, .dat (.int .i64) 0)], []⟩ : St))) := by
  refine Link.of fun K h => ?_
  simp only [laws_eqIntS_n2, wpO_bind, wpO_cond, wpO_map, wpO_some] at h
  exact Awp.of (by kernel_rfl) h

theorem laws_eqIntS_n3_l (x2367 : List Int) (x2368 : List Int) (x2385 : Int) : Link laws_eqIntS_ctx LL (Code.fst (Code.fst (Code.snd (Code.fst (Code.snd (Code.snd (bodyOf Try.f21))))))) (Ann.fst (Ann.fst (Ann.snd (Ann.fst (Ann.snd (Ann.snd laws_eqIntS_an)))))) (⟨mkE 26 0 [(0, .dat (.list (.int .i64)) x2367), (1, .dat (.list (.int .i64)) x2368), (5, .dat (.int .i64) x2385)], []⟩ : St) (laws_eqIntS_n3 x2367 x2368 x2385) (Sum.elim (fun (t : Int) => (Exit.normal, (⟨mkE 26 0 [(0, .dat (.list (.int .i64)) x2367), (1, .dat (.list (.int .i64)) x2368), (5, .dat (.int .i64) t)], []⟩ : St))) (Sum.elim (fun (t : Bool) => (Exit.ret, (⟨mkE 26 0 [(4, .dat .bool t)], []⟩ : St))) (fun (t : Unit) => ((Exit.exit 0), (⟨mkE 26 0 [], []⟩ : St))))) := by
  refine Link.of fun K h => ?_
  simp only [laws_eqIntS_n3, wpO_bind, wpO_cond, wpO_map, wpO_some] at h
  exact Awp.of (by kernel_rfl) h

theorem laws_eqIntS_n4_l (x2367 : List Int) (x2368 : List Int) : Link laws_eqIntS_ctx LL (Code.fst (Code.snd (Code.fst (Code.snd (Code.snd (bodyOf Try.f21)))))) (Ann.fst (Ann.snd (Ann.fst (Ann.snd (Ann.snd laws_eqIntS_an))))) (⟨mkE 26 0 [(0, .dat (.list (.int .i64)) x2367), (1, .dat (.list (.int .i64)) x2368), (5, .dat (.int .i64) 0)], []⟩ : St) (laws_eqIntS_n4 x2367 x2368) (Sum.elim (fun (t : Bool) => (Exit.ret, (⟨mkE 26 0 [(4, .dat .bool t)], []⟩ : St))) (fun (t : Unit) => ((Exit.exit 0), (⟨mkE 26 0 [], []⟩ : St)))) := by
  unfold laws_eqIntS_n4
  exact Link.cast (by kernel_rfl) (by kernel_rfl) (link_loop (mk := fun (s : Int) => (⟨mkE 26 0 [(0, .dat (.list (.int .i64)) x2367), (1, .dat (.list (.int .i64)) x2368), (5, .dat (.int .i64) s)], []⟩ : St)) (fin := (Sum.elim (fun (t : Bool) => (Exit.ret, (⟨mkE 26 0 [(4, .dat .bool t)], []⟩ : St))) (fun (t : Unit) => ((Exit.exit 0), (⟨mkE 26 0 [], []⟩ : St))))) (by
  rintro (t | t) f K h
  · exact h
  · exact h) (fun s => link_map (laws_eqIntS_n3_l x2367 x2368 s) (Sum.elim (fun (t : Int) => Sum.inl t) (Sum.elim (fun (t : Bool) => Sum.inr (Sum.inl t)) (fun (t : Unit) => Sum.inr (Sum.inr t)))) (by
  rintro (t | t | t)
  · kernel_rfl
  · kernel_rfl
  · kernel_rfl)) 0)

theorem laws_eqIntS_n5_l (x2367 : List Int) (x2368 : List Int) : Link laws_eqIntS_ctx LL (Code.snd (Code.fst (Code.snd (Code.snd (bodyOf Try.f21))))) (Ann.snd (Ann.fst (Ann.snd (Ann.snd laws_eqIntS_an)))) (⟨mkE 26 0 [(0, .dat (.list (.int .i64)) x2367), (1, .dat (.list (.int .i64)) x2368), (5, .dat (.int .i64) 0)], []⟩ : St) (laws_eqIntS_n5 x2367 x2368) (Sum.elim (fun (t : Unit) => (Exit.normal, (⟨mkE 26 0 [], []⟩ : St))) (fun (t : Bool) => (Exit.ret, (⟨mkE 26 0 [(4, .dat .bool t)], []⟩ : St)))) := by
  unfold laws_eqIntS_n5
  exact Link.cast (by kernel_rfl) (by kernel_rfl) (link_block (id := 0) (laws_eqIntS_n4_l x2367 x2368) (Sum.elim (fun (t : Bool) => (Sum.inr t)) (fun (t : Unit) => (Sum.inl ()))) (by
  rintro (t | t) K h
  · exact Eq.mp (by kernel_rfl) h
  · exact Eq.mp (by kernel_rfl) h))

theorem laws_eqIntS_n6_l (x2367 : List Int) (x2368 : List Int) : Link laws_eqIntS_ctx LL (Code.fst (Code.snd (Code.snd (bodyOf Try.f21)))) (Ann.fst (Ann.snd (Ann.snd laws_eqIntS_an))) (⟨mkE 26 0 [(0, .dat (.list (.int .i64)) x2367), (1, .dat (.list (.int .i64)) x2368)], []⟩ : St) (laws_eqIntS_n6 x2367 x2368) (Sum.elim (fun (t : Unit) => (Exit.normal, (⟨mkE 26 0 [], []⟩ : St))) (fun (t : Bool) => (Exit.ret, (⟨mkE 26 0 [(4, .dat .bool t)], []⟩ : St)))) := by
  unfold laws_eqIntS_n6
  exact Link.cast (by kernel_rfl) (by kernel_rfl) (link_seq (b := (Code.snd (Code.fst (Code.snd (Code.snd (bodyOf Try.f21)))))) (y := (Ann.snd (Ann.fst (Ann.snd (Ann.snd laws_eqIntS_an))))) (laws_eqIntS_n2_l x2367 x2368) (fun (t : Unit) => (laws_eqIntS_n5_l x2367 x2368)))

theorem laws_eqIntS_n7_l : Link laws_eqIntS_ctx LL (Code.snd (Code.snd (Code.snd (bodyOf Try.f21)))) (Ann.snd (Ann.snd (Ann.snd laws_eqIntS_an))) (⟨mkE 26 0 [], []⟩ : St) (laws_eqIntS_n7) (fun (t : Bool) => (Exit.ret, (⟨mkE 26 0 [(4, .dat .bool t)], []⟩ : St))) := by
  refine Link.of fun K h => ?_
  simp only [laws_eqIntS_n7, wpO_bind, wpO_cond, wpO_map, wpO_some] at h
  exact Awp.of (by kernel_rfl) h

theorem laws_eqIntS_n8_l (x2367 : List Int) (x2368 : List Int) : Link laws_eqIntS_ctx LL (Code.snd (Code.snd (bodyOf Try.f21))) (Ann.snd (Ann.snd laws_eqIntS_an)) (⟨mkE 26 0 [(0, .dat (.list (.int .i64)) x2367), (1, .dat (.list (.int .i64)) x2368)], []⟩ : St) (laws_eqIntS_n8 x2367 x2368) (fun (t : Bool) => (Exit.ret, (⟨mkE 26 0 [(4, .dat .bool t)], []⟩ : St))) := by
  unfold laws_eqIntS_n8
  exact Link.cast (by kernel_rfl) (by kernel_rfl) (link_seq2 (b := (Code.snd (Code.snd (Code.snd (bodyOf Try.f21))))) (y := (Ann.snd (Ann.snd (Ann.snd laws_eqIntS_an)))) (laws_eqIntS_n6_l x2367 x2368) (fun (t : Unit) => (laws_eqIntS_n7_l)) (fun (t : Bool) => t) (by
  rintro t
  · kernel_rfl) (by
  rintro t f K h
  · exact h))

theorem laws_eqIntS_n9_l (x2367 : List Int) (x2368 : List Int) : Link laws_eqIntS_ctx LL (bodyOf Try.f21) laws_eqIntS_an (⟨mkE 26 0 [(0, .dat (.list (.int .i64)) x2367), (1, .dat (.list (.int .i64)) x2368)], []⟩ : St) (laws_eqIntS_n9 x2367 x2368) (fun (t : Bool) => (Exit.ret, (⟨mkE 26 0 [(4, .dat .bool t)], []⟩ : St))) := by
  unfold laws_eqIntS_n9
  exact Link.cast (by kernel_rfl) (by kernel_rfl) (link_group (c := (Code.fst (Code.snd (bodyOf Try.f21)))) (a := (Ann.fst (Ann.snd laws_eqIntS_an))) [(Code.fst (bodyOf Try.f21))] [(Ann.fst laws_eqIntS_an)] rfl (link_seq2 (b := (Code.snd (Code.snd (bodyOf Try.f21)))) (y := (Ann.snd (Ann.snd laws_eqIntS_an))) (laws_eqIntS_n1_l x2367 x2368) (fun (t : Unit) => (laws_eqIntS_n8_l x2367 x2368)) (fun (t : Bool) => t) (by
  rintro t
  · kernel_rfl) (by
  rintro t f K h
  · exact h)))

theorem laws_eqIntS_e (x2367 : List Int) (x2368 : List Int) {r : AV} {H' : Heap} (h : (Ans.mk _ (laws_eqIntS x2367 x2368) (fun (t : Bool) => (.dat .bool t, []))).run = some (r, H')) : Awp laws_eqIntS_ctx LL (bodyOf Try.f21) laws_eqIntS_an (⟨mkE 26 0 [(0, .dat (.list (.int .i64)) x2367), (1, .dat (.list (.int .i64)) x2368)], []⟩ : St) (Ret (tlook tys) Try.f21.results.toList r H') :=
  ret_of' (laws_eqIntS_n9_l x2367 x2368) (by unfold laws_eqIntS; kernel_rfl) (by
  intro t
  exact ret_mk [.dat .bool t] (by kernel_rfl) (by kernel_rfl) (by kernel_rfl) (by kernel_rfl)) h

def F_laws_eqIntS : Fun := fun avs H =>
  match avs, H with
  | [.dat (.list (.int .i64)) x2367, .dat (.list (.int .i64)) x2368], [] => ⟨_, laws_eqIntS x2367 x2368, fun (t : Bool) => (.dat .bool t, [])⟩
  | _, _ => Ans.no

theorem laws_eqIntS_sound : Sound Try.prog 21 F_laws_eqIntS := by
  refine fn_sound' (C := laws_eqIntS_ctx) (c := bodyOf Try.f21) (cok_of tys_ok (by simp) (by simp) (by kernel_rfl)) Try.func21 (by kernel_rfl) LL laws_eqIntS_an ?_
  intro avs H r H' h
  unfold F_laws_eqIntS at h
  split at h
  · refine Awp.cast ?_ ?_ ?_ (laws_eqIntS_e _ _ h) <;> kernel_rfl
  · simp [Ans.no, Ans.run] at h

/-! loop.example/headtrees/laws.FnExactSidesOf -/

def laws_FnExactSidesOf_an : Ann := (.seq (.leaf [0, 1]) (.seq (.seq (.leaf [0, 1, 14]) (.cond (.seq (.leaf [4]) (.leaf [4])) (.leaf [0, 1]))) (.seq (.leaf [0, 1, 5, 6, 7]) (.seq (.leaf [0, 1, 5, 6, 7, 8]) (.seq (.leaf [0, 5, 6, 7, 8, 9, 10, 11]) (.seq (.seq (.leaf [0, 8, 44]) (.cond (.seq (.leaf [4]) (.leaf [4])) (.leaf [0, 8]))) (.seq (.seq (.leaf [49]) (.cond (.seq (.leaf [4]) (.leaf [4])) (.leaf []))) (.seq (.leaf [4]) (.leaf [4])))))))))

noncomputable def laws_FnExactSidesOf_ctx : Ctx := ⟨tlook tys, olook [(19, F_laws_toIntS), (18, F_spec_SidesOf), (20, F_impl_SidesOf), (21, F_laws_eqIntS)], ioF, 0⟩

theorem laws_FnExactSidesOf_n1_l (x2000 : List Int) (x2001 : Int) : Link laws_FnExactSidesOf_ctx LL (bodyOf Try.f5) laws_FnExactSidesOf_an (⟨mkE 50 0 [(0, .dat (.list (.int .i64)) x2000), (1, .dat (.int .i64) x2001)], []⟩ : St) (laws_FnExactSidesOf_n1 x2000 x2001) (fun (t : Bool) => (Exit.ret, (⟨mkE 50 0 [(4, .dat .bool t)], []⟩ : St))) := by
  refine Link.of fun K h => ?_
  simp only [laws_FnExactSidesOf_n1, wpO_bind, wpO_cond, wpO_map, wpO_some] at h
  exact Awp.of (by kernel_rfl) h

theorem laws_FnExactSidesOf_e (x2000 : List Int) (x2001 : Int) {r : AV} {H' : Heap} (h : (Ans.mk _ (laws_FnExactSidesOf x2000 x2001) (fun (t : Bool) => (.dat .bool t, []))).run = some (r, H')) : Awp laws_FnExactSidesOf_ctx LL (bodyOf Try.f5) laws_FnExactSidesOf_an (⟨mkE 50 0 [(0, .dat (.list (.int .i64)) x2000), (1, .dat (.int .i64) x2001)], []⟩ : St) (Ret (tlook tys) Try.f5.results.toList r H') :=
  ret_of' (laws_FnExactSidesOf_n1_l x2000 x2001) (by unfold laws_FnExactSidesOf; kernel_rfl) (by
  intro t
  exact ret_mk [.dat .bool t] (by kernel_rfl) (by kernel_rfl) (by kernel_rfl) (by kernel_rfl)) h

def F_laws_FnExactSidesOf : Fun := fun avs H =>
  match avs, H with
  | [.dat (.list (.int .i64)) x2000, .dat (.int .i64) x2001], [] => ⟨_, laws_FnExactSidesOf x2000 x2001, fun (t : Bool) => (.dat .bool t, [])⟩
  | _, _ => Ans.no

theorem laws_FnExactSidesOf_sound : Sound Try.prog 5 F_laws_FnExactSidesOf := by
  refine fn_sound' (C := laws_FnExactSidesOf_ctx) (c := bodyOf Try.f5) (cok_of tys_ok (List.forall_mem_cons.2 ⟨laws_toIntS_sound, List.forall_mem_cons.2 ⟨spec_SidesOf_sound, List.forall_mem_cons.2 ⟨impl_SidesOf_sound, List.forall_mem_cons.2 ⟨laws_eqIntS_sound, by simp⟩⟩⟩⟩) (List.forall_mem_cons.2 ⟨Try.call19, List.forall_mem_cons.2 ⟨Try.call18, List.forall_mem_cons.2 ⟨Try.call20, List.forall_mem_cons.2 ⟨Try.call21, by simp⟩⟩⟩⟩) (by kernel_rfl)) Try.func5 (by kernel_rfl) LL laws_FnExactSidesOf_an ?_
  intro avs H r H' h
  unfold F_laws_FnExactSidesOf at h
  split at h
  · refine Awp.cast ?_ ?_ ?_ (laws_FnExactSidesOf_e _ _ h) <;> kernel_rfl
  · simp [Ans.no, Ans.run] at h

/-! loop.example/headtrees/laws.FnExactCrossOk -/

def laws_FnExactCrossOk_an : Ann := (.seq (.leaf [0, 1, 2, 3]) (.seq (.leaf [0, 1, 2, 3, 9]) (.seq (.leaf [9, 10]) (.seq (.seq (.leaf [23]) (.cond (.seq (.leaf [8]) (.leaf [8])) (.leaf []))) (.seq (.leaf [8]) (.leaf [8]))))))

noncomputable def laws_FnExactCrossOk_ctx : Ctx := ⟨tlook tys, olook [(12, F_spec_CrossOk), (11, F_impl_CrossOk)], ioF, 0⟩

theorem laws_FnExactCrossOk_n1_l (x2443 : Int) (x2444 : Int) (x2445 : Int) (x2446 : Int) : Link laws_FnExactCrossOk_ctx LL (bodyOf Try.f6) laws_FnExactCrossOk_an (⟨mkE 24 0 [(0, .dat (.int .i64) x2443), (1, .dat (.int .i64) x2444), (2, .dat (.int .i64) x2445), (3, .dat (.int .i64) x2446)], []⟩ : St) (laws_FnExactCrossOk_n1 x2443 x2444 x2445 x2446) (fun (t : Bool) => (Exit.ret, (⟨mkE 24 0 [(8, .dat .bool t)], []⟩ : St))) := by
  refine Link.of fun K h => ?_
  simp only [laws_FnExactCrossOk_n1, wpO_bind, wpO_cond, wpO_map, wpO_some] at h
  exact Awp.of (by kernel_rfl) h

theorem laws_FnExactCrossOk_e (x2443 : Int) (x2444 : Int) (x2445 : Int) (x2446 : Int) {r : AV} {H' : Heap} (h : (Ans.mk _ (laws_FnExactCrossOk x2443 x2444 x2445 x2446) (fun (t : Bool) => (.dat .bool t, []))).run = some (r, H')) : Awp laws_FnExactCrossOk_ctx LL (bodyOf Try.f6) laws_FnExactCrossOk_an (⟨mkE 24 0 [(0, .dat (.int .i64) x2443), (1, .dat (.int .i64) x2444), (2, .dat (.int .i64) x2445), (3, .dat (.int .i64) x2446)], []⟩ : St) (Ret (tlook tys) Try.f6.results.toList r H') :=
  ret_of' (laws_FnExactCrossOk_n1_l x2443 x2444 x2445 x2446) (by unfold laws_FnExactCrossOk; kernel_rfl) (by
  intro t
  exact ret_mk [.dat .bool t] (by kernel_rfl) (by kernel_rfl) (by kernel_rfl) (by kernel_rfl)) h

def F_laws_FnExactCrossOk : Fun := fun avs H =>
  match avs, H with
  | [.dat (.int .i64) x2443, .dat (.int .i64) x2444, .dat (.int .i64) x2445, .dat (.int .i64) x2446], [] => ⟨_, laws_FnExactCrossOk x2443 x2444 x2445 x2446, fun (t : Bool) => (.dat .bool t, [])⟩
  | _, _ => Ans.no

theorem laws_FnExactCrossOk_sound : Sound Try.prog 6 F_laws_FnExactCrossOk := by
  refine fn_sound' (C := laws_FnExactCrossOk_ctx) (c := bodyOf Try.f6) (cok_of tys_ok (List.forall_mem_cons.2 ⟨spec_CrossOk_sound, List.forall_mem_cons.2 ⟨impl_CrossOk_sound, by simp⟩⟩) (List.forall_mem_cons.2 ⟨Try.call12, List.forall_mem_cons.2 ⟨Try.call11, by simp⟩⟩) (by kernel_rfl)) Try.func6 (by kernel_rfl) LL laws_FnExactCrossOk_an ?_
  intro avs H r H' h
  unfold F_laws_FnExactCrossOk at h
  split at h
  · refine Awp.cast ?_ ?_ ?_ (laws_FnExactCrossOk_e _ _ _ _ h) <;> kernel_rfl
  · simp [Ans.no, Ans.run] at h

/-! loop.example/headtrees/spec.CrossingsOf -/

def spec_CrossingsOf_an : Ann := (.seq (.leaf [0]) (.seq (.seq (.leaf [0, 9]) (.cond (.seq (.leaf [2]) (.leaf [2])) (.leaf [0]))) (.seq (.leaf [0, 3]) (.seq (.leaf [3, 4]) (.seq (.seq (.leaf [3, 4, 5]) (.block (.loop (.seq (.seq (.leaf [3, 4, 5, 15]) (.cond (.leaf [3, 4, 5]) (.leaf [3]))) (.seq (.block (.seq (.leaf [3, 4, 5, 6]) (.block (.loop (.seq (.seq (.leaf [3, 4, 5, 6, 20]) (.cond (.leaf [3, 4, 5, 6]) (.leaf [3, 4, 5]))) (.seq (.block (.seq (.draw [24] [0, 1, 2, 3, 4, 5, 6, 7, 8, 9, 10, 11, 12, 13, 14, 15, 16, 17, 18, 19, 20, 21, 22, 23, 24] [] [3, 4, 5, 6, 47]) (.cond (.leaf [3, 4, 5, 6]) (.leaf [3, 4, 5, 6])))) (.leaf [3, 4, 5, 6]))))))) (.leaf [3, 4, 5])))))) (.seq (.leaf [2]) (.leaf [2])))))))

noncomputable def spec_CrossingsOf_ctx : Ctx := ⟨tlook tys, olook [(16, F_spec_TreeOk), (36, F_spec_l3Arcs), (12, F_spec_CrossOk)], ioF, 0⟩

theorem spec_CrossingsOf_n1_l (x2467 : List Int) : Link spec_CrossingsOf_ctx LL (Code.seq (Code.fst (bodyOf Try.f22)) (Code.seq (Code.fst (Code.snd (bodyOf Try.f22))) (Code.seq (Code.fst (Code.snd (Code.snd (bodyOf Try.f22)))) (Code.fst (Code.snd (Code.snd (Code.snd (bodyOf Try.f22)))))))) (Ann.seq (Ann.fst spec_CrossingsOf_an) (Ann.seq (Ann.fst (Ann.snd spec_CrossingsOf_an)) (Ann.seq (Ann.fst (Ann.snd (Ann.snd spec_CrossingsOf_an))) (Ann.fst (Ann.snd (Ann.snd (Ann.snd spec_CrossingsOf_an))))))) (⟨mkE 51 0 [(0, .dat (.list (.int .i64)) x2467)], []⟩ : St) (spec_CrossingsOf_n1 x2467) (Sum.elim (fun (t : (List (List Int))) => (Exit.normal, (⟨mkE 51 0 [(3, .dat (.int .i64) 0), (4, .slc 0)], [some (.seq (.list (.int .i64)) t)]⟩ : St))) (fun (t : Int) => (Exit.ret, (⟨mkE 51 0 [(2, .dat (.int .i64) t)], []⟩ : St)))) := by
  refine Link.of fun K h => ?_
  simp only [spec_CrossingsOf_n1, wpO_bind, wpO_cond, wpO_map, wpO_some] at h
  exact Awp.of (by kernel_rfl) h

theorem spec_CrossingsOf_n2_l (x2474 : List (List Int)) : Link spec_CrossingsOf_ctx LL (Code.fst (Code.fst (Code.snd (Code.snd (Code.snd (Code.snd (bodyOf Try.f22))))))) (Ann.fst (Ann.fst (Ann.snd (Ann.snd (Ann.snd (Ann.snd spec_CrossingsOf_an)))))) (⟨mkE 51 0 [(3, .dat (.int .i64) 0), (4, .slc 0)], [some (.seq (.list (.int .i64)) x2474)]⟩ : St) (spec_CrossingsOf_n2) (fun (t : Unit) => (Exit.normal, (⟨mkE 51 0 [(3, .dat (.int .i64) 0), (4, .slc 0), (5, .dat (.int .i64) 0)], [some (.seq (.list (.int .i64)) x2474)]⟩ : St))) := by
  refine Link.of fun K h => ?_
  simp only [spec_CrossingsOf_n2, wpO_bind, wpO_cond, wpO_map, wpO_some] at h
  exact Awp.of (by kernel_rfl) h

theorem spec_CrossingsOf_n3_l (x2550 : Int) (x2551 : Int) (x2474 : List (List Int)) : Link spec_CrossingsOf_ctx LL (Code.fst (Code.fst (Code.fst (Code.snd (Code.fst (Code.snd (Code.snd (Code.snd (Code.snd (bodyOf Try.f22)))))))))) (Ann.fst (Ann.fst (Ann.fst (Ann.snd (Ann.fst (Ann.snd (Ann.snd (Ann.snd (Ann.snd spec_CrossingsOf_an))))))))) (⟨mkE 51 0 [(3, .dat (.int .i64) x2550), (4, .slc 0), (5, .dat (.int .i64) x2551)], [some (.seq (.list (.int .i64)) x2474)]⟩ : St) (spec_CrossingsOf_n3 x2550 x2551 x2474) (Sum.elim (fun (t : Unit) => (Exit.normal, (⟨mkE 51 0 [(3, .dat (.int .i64) x2550), (4, .slc 0), (5, .dat (.int .i64) x2551)], [some (.seq (.list (.int .i64)) x2474)]⟩ : St))) (fun (t : Int) => ((Exit.exit 0), (⟨mkE 51 0 [(3, .dat (.int .i64) t)], []⟩ : St)))) := by
  refine Link.of fun K h => ?_
  simp only [spec_CrossingsOf_n3, wpO_bind, wpO_cond, wpO_map, wpO_some] at h
  exact Awp.of (by kernel_rfl) h

theorem spec_CrossingsOf_n4_l (x2550 : Int) (x2551 : Int) (x2474 : List (List Int)) : Link spec_CrossingsOf_ctx LL (Code.fst (Code.fst (Code.fst (Code.snd (Code.fst (Code.fst (Code.snd (Code.fst (Code.snd (Code.snd (Code.snd (Code.snd (bodyOf Try.f22))))))))))))) (Ann.fst (Ann.fst (Ann.fst (Ann.snd (Ann.fst (Ann.fst (Ann.snd (Ann.fst (Ann.snd (Ann.snd (Ann.snd (Ann.snd spec_CrossingsOf_an)))))))))))) (⟨mkE 51 0 [(3, .dat (.int .i64) x2550), (4, .slc 0), (5, .dat (.int .i64) x2551)], [some (.seq (.list (.int .i64)) x2474)]⟩ : St) (spec_CrossingsOf_n4) (fun (t : Unit) => (Exit.normal, (⟨mkE 51 0 [(3, .dat (.int .i64) x2550), (4, .slc 0), (5, .dat (.int .i64) x2551), (6, .dat (.int .i64) 0)], [some (.seq (.list (.int .i64)) x2474)]⟩ : St))) := by
  refine Link.of fun K h => ?_
  simp only [spec_CrossingsOf_n4, wpO_bind, wpO_cond, wpO_map, wpO_some] at h
  exact Awp.of (by kernel_rfl) h

theorem spec_CrossingsOf_n5_l (x2589 : Int) (x2551 : Int) (x2590 : Int) (x2474 : List (List Int)) : Link spec_CrossingsOf_ctx LL (Code.fst (Code.fst (Code.snd (Code.fst (Code.fst (Code.snd (Code.fst (Code.fst (Code.snd (Code.fst (Code.snd (Code.snd (Code.snd (Code.snd (bodyOf Try.f22))))))))))))))) (Ann.fst (Ann.fst (Ann.snd (Ann.fst (Ann.fst (Ann.snd (Ann.fst (Ann.fst (Ann.snd (Ann.fst (Ann.snd (Ann.snd (Ann.snd (Ann.snd spec_CrossingsOf_an)))))))))))))) (⟨mkE 51 0 [(3, .dat (.int .i64) x2589), (4, .slc 0), (5, .dat (.int .i64) x2551), (6, .dat (.int .i64) x2590)], [some (.seq (.list (.int .i64)) x2474)]⟩ : St) (spec_CrossingsOf_n5 x2589 x2551 x2590 x2474) (Sum.elim (fun (t : Int × Int) => (Exit.normal, (⟨mkE 51 0 [(3, .dat (.int .i64) t.1), (4, .slc 0), (5, .dat (.int .i64) x2551), (6, .dat (.int .i64) t.2)], [some (.seq (.list (.int .i64)) x2474)]⟩ : St))) (fun (t : Int) => ((Exit.exit 2), (⟨mkE 51 0 [(3, .dat (.int .i64) t), (4, .slc 0), (5, .dat (.int .i64) x2551)], [some (.seq (.list (.int .i64)) x2474)]⟩ : St)))) := by
  refine Link.of fun K h => ?_
  simp only [spec_CrossingsOf_n5, wpO_bind, wpO_cond, wpO_map, wpO_some] at h
  exact Awp.of (by kernel_rfl) h

theorem spec_CrossingsOf_n6_l (x2550 : Int) (x2551 : Int) (x2474 : List (List Int)) : Link spec_CrossingsOf_ctx LL (Code.fst (Code.snd (Code.fst (Code.fst (Code.snd (Code.fst (Code.fst (Code.snd (Code.fst (Code.snd (Code.snd (Code.snd (Code.snd (bodyOf Try.f22)))))))))))))) (Ann.fst (Ann.snd (Ann.fst (Ann.fst (Ann.snd (Ann.fst (Ann.fst (Ann.snd (Ann.fst (Ann.snd (Ann.snd (Ann.snd (Ann.snd spec_CrossingsOf_an))))))))))))) (⟨mkE 51 0 [(3, .dat (.int .i64) x2550), (4, .slc 0), (5, .dat (.int .i64) x2551), (6, .dat (.int .i64) 0)], [some (.seq (.list (.int .i64)) x2474)]⟩ : St) (spec_CrossingsOf_n6 x2550 x2551 x2474) (fun (t : Int) => ((Exit.exit 2), (⟨mkE 51 0 [(3, .dat (.int .i64) t), (4, .slc 0), (5, .dat (.int .i64) x2551)], [some (.seq (.list (.int .i64)) x2474)]⟩ : St))) := by
  unfold spec_CrossingsOf_n6
  exact Link.cast (by kernel_rfl) (by kernel_rfl) (link_loop (mk := fun (s : Int × Int) => (⟨mkE 51 0 [(3, .dat (.int .i64) s.1), (4, .slc 0), (5, .dat (.int .i64) x2551), (6, .dat (.int .i64) s.2)], [some (.seq (.list (.int .i64)) x2474)]⟩ : St)) (fin := (fun (t : Int) => ((Exit.exit 2), (⟨mkE 51 0 [(3, .dat (.int .i64) t), (4, .slc 0), (5, .dat (.int .i64) x2551)], [some (.seq (.list (.int .i64)) x2474)]⟩ : St)))) (by
  rintro t f K h
  · exact h) (fun s => link_map (spec_CrossingsOf_n5_l s.1 x2551 s.2 x2474) (Sum.elim (fun (t : Int × Int) => Sum.inl (t.1, t.2)) (fun (t : Int) => Sum.inr t)) (by
  rintro (t | t)
  · kernel_rfl
  · kernel_rfl)) (x2550, 0))

theorem spec_CrossingsOf_n7_l (x2550 : Int) (x2551 : Int) (x2474 : List (List Int)) : Link spec_CrossingsOf_ctx LL (Code.snd (Code.fst (Code.fst (Code.snd (Code.fst (Code.fst (Code.snd (Code.fst (Code.snd (Code.snd (Code.snd (Code.snd (bodyOf Try.f22))))))))))))) (Ann.snd (Ann.fst (Ann.fst (Ann.snd (Ann.fst (Ann.fst (Ann.snd (Ann.fst (Ann.snd (Ann.snd (Ann.snd (Ann.snd spec_CrossingsOf_an)))))))))))) (⟨mkE 51 0 [(3, .dat (.int .i64) x2550), (4, .slc 0), (5, .dat (.int .i64) x2551), (6, .dat (.int .i64) 0)], [some (.seq (.list (.int .i64)) x2474)]⟩ : St) (spec_CrossingsOf_n7 x2550 x2551 x2474) (fun (t : Int) => (Exit.normal, (⟨mkE 51 0 [(3, .dat (.int .i64) t), (4, .slc 0), (5, .dat (.int .i64) x2551)], [some (.seq (.list (.int .i64)) x2474)]⟩ : St))) := by
  unfold spec_CrossingsOf_n7
  exact Link.cast (by kernel_rfl) (by kernel_rfl) (link_block (id := 2) (spec_CrossingsOf_n6_l x2550 x2551 x2474) (fun (t : Int) => t) (by
  rintro t K h
  · exact Eq.mp (by kernel_rfl) h))

theorem spec_CrossingsOf_n8_l (x2550 : Int) (x2551 : Int) (x2474 : List (List Int)) : Link spec_CrossingsOf_ctx LL (Code.fst (Code.fst (Code.snd (Code.fst (Code.fst (Code.snd (Code.fst (Code.snd (Code.snd (Code.snd (Code.snd (bodyOf Try.f22)))))))))))) (Ann.fst (Ann.fst (Ann.snd (Ann.fst (Ann.fst (Ann.snd (Ann.fst (Ann.snd (Ann.snd (Ann.snd (Ann.snd spec_CrossingsOf_an))))))))))) (⟨mkE 51 0 [(3, .dat (.int .i64) x2550), (4, .slc 0), (5, .dat (.int .i64) x2551)], [some (.seq (.list (.int .i64)) x2474)]⟩ : St) (spec_CrossingsOf_n8 x2550 x2551 x2474) (fun (t : Int) => (Exit.normal, (⟨mkE 51 0 [(3, .dat (.int .i64) t), (4, .slc 0), (5, .dat (.int .i64) x2551)], [some (.seq (.list (.int .i64)) x2474)]⟩ : St))) := by
  unfold spec_CrossingsOf_n8
  exact Link.cast (by kernel_rfl) (by kernel_rfl) (link_seq (b := (Code.snd (Code.fst (Code.fst (Code.snd (Code.fst (Code.fst (Code.snd (Code.fst (Code.snd (Code.snd (Code.snd (Code.snd (bodyOf Try.f22)))))))))))))) (y := (Ann.snd (Ann.fst (Ann.fst (Ann.snd (Ann.fst (Ann.fst (Ann.snd (Ann.fst (Ann.snd (Ann.snd (Ann.snd (Ann.snd spec_CrossingsOf_an))))))))))))) (spec_CrossingsOf_n4_l x2550 x2551 x2474) (fun (t : Unit) => (spec_CrossingsOf_n7_l x2550 x2551 x2474)))

theorem spec_CrossingsOf_n9_l (x2550 : Int) (x2551 : Int) (x2474 : List (List Int)) : Link spec_CrossingsOf_ctx LL (Code.fst (Code.snd (Code.fst (Code.fst (Code.snd (Code.fst (Code.snd (Code.snd (Code.snd (Code.snd (bodyOf Try.f22))))))))))) (Ann.fst (Ann.snd (Ann.fst (Ann.fst (Ann.snd (Ann.fst (Ann.snd (Ann.snd (Ann.snd (Ann.snd spec_CrossingsOf_an)))))))))) (⟨mkE 51 0 [(3, .dat (.int .i64) x2550), (4, .slc 0), (5, .dat (.int .i64) x2551)], [some (.seq (.list (.int .i64)) x2474)]⟩ : St) (spec_CrossingsOf_n9 x2550 x2551 x2474) (fun (t : Int) => (Exit.normal, (⟨mkE 51 0 [(3, .dat (.int .i64) t), (4, .slc 0), (5, .dat (.int .i64) x2551)], [some (.seq (.list (.int .i64)) x2474)]⟩ : St))) := by
  unfold spec_CrossingsOf_n9
  exact Link.cast (by kernel_rfl) (by kernel_rfl) (link_block (id := 1) (spec_CrossingsOf_n8_l x2550 x2551 x2474) (fun (t : Int) => t) (by
  rintro t K h
  · exact Eq.mp (by kernel_rfl) h))

theorem spec_CrossingsOf_n10_l (x2589 : Int) (x2551 : Int) (x2474 : List (List Int)) : Link spec_CrossingsOf_ctx LL (Code.snd (Code.snd (Code.fst (Code.fst (Code.snd (Code.fst (Code.snd (Code.snd (Code.snd (Code.snd (bodyOf Try.f22))))))))))) (Ann.snd (Ann.snd (Ann.fst (Ann.fst (Ann.snd (Ann.fst (Ann.snd (Ann.snd (Ann.snd (Ann.snd spec_CrossingsOf_an)))))))))) (⟨mkE 51 0 [(3, .dat (.int .i64) x2589), (4, .slc 0), (5, .dat (.int .i64) x2551)], [some (.seq (.list (.int .i64)) x2474)]⟩ : St) (spec_CrossingsOf_n10 x2551) (fun (t : Int) => (Exit.normal, (⟨mkE 51 0 [(3, .dat (.int .i64) x2589), (4, .slc 0), (5, .dat (.int .i64) t)], [some (.seq (.list (.int .i64)) x2474)]⟩ : St))) := by
  refine Link.of fun K h => ?_
  simp only [spec_CrossingsOf_n10, wpO_bind, wpO_cond, wpO_map, wpO_some] at h
  exact Awp.of (by kernel_rfl) h

theorem spec_CrossingsOf_n11_l (x2550 : Int) (x2551 : Int) (x2474 : List (List Int)) : Link spec_CrossingsOf_ctx LL (Code.snd (Code.fst (Code.fst (Code.snd (Code.fst (Code.snd (Code.snd (Code.snd (Code.snd (bodyOf Try.f22)))))))))) (Ann.snd (Ann.fst (Ann.fst (Ann.snd (Ann.fst (Ann.snd (Ann.snd (Ann.snd (Ann.snd spec_CrossingsOf_an))))))))) (⟨mkE 51 0 [(3, .dat (.int .i64) x2550), (4, .slc 0), (5, .dat (.int .i64) x2551)], [some (.seq (.list (.int .i64)) x2474)]⟩ : St) (spec_CrossingsOf_n11 x2550 x2551 x2474) (fun (t : Int × Int) => (Exit.normal, (⟨mkE 51 0 [(3, .dat (.int .i64) t.1), (4, .slc 0), (5, .dat (.int .i64) t.2)], [some (.seq (.list (.int .i64)) x2474)]⟩ : St))) := by
  unfold spec_CrossingsOf_n11
  exact Link.cast (by kernel_rfl) (by kernel_rfl) (link_seq (b := (Code.snd (Code.snd (Code.fst (Code.fst (Code.snd (Code.fst (Code.snd (Code.snd (Code.snd (Code.snd (bodyOf Try.f22)))))))))))) (y := (Ann.snd (Ann.snd (Ann.fst (Ann.fst (Ann.snd (Ann.fst (Ann.snd (Ann.snd (Ann.snd (Ann.snd spec_CrossingsOf_an))))))))))) (spec_CrossingsOf_n9_l x2550 x2551 x2474) (fun (t : Int) => (link_map (spec_CrossingsOf_n10_l t x2551 x2474) (fun (u : Int) => (t, u)) (by
  rintro t
  · kernel_rfl))))

theorem spec_CrossingsOf_n12_l (x2550 : Int) (x2551 : Int) (x2474 : List (List Int)) : Link spec_CrossingsOf_ctx LL (Code.fst (Code.fst (Code.snd (Code.fst (Code.snd (Code.snd (Code.snd (Code.snd (bodyOf Try.f22))))))))) (Ann.fst (Ann.fst (Ann.snd (Ann.fst (Ann.snd (Ann.snd (Ann.snd (Ann.snd spec_CrossingsOf_an)))))))) (⟨mkE 51 0 [(3, .dat (.int .i64) x2550), (4, .slc 0), (5, .dat (.int .i64) x2551)], [some (.seq (.list (.int .i64)) x2474)]⟩ : St) (spec_CrossingsOf_n12 x2550 x2551 x2474) (Sum.elim (fun (t : Int × Int) => (Exit.normal, (⟨mkE 51 0 [(3, .dat (.int .i64) t.1), (4, .slc 0), (5, .dat (.int .i64) t.2)], [some (.seq (.list (.int .i64)) x2474)]⟩ : St))) (fun (t : Int) => ((Exit.exit 0), (⟨mkE 51 0 [(3, .dat (.int .i64) t)], []⟩ : St)))) := by
  unfold spec_CrossingsOf_n12
  exact Link.cast (by kernel_rfl) (by kernel_rfl) (link_seq2 (b := (Code.snd (Code.fst (Code.fst (Code.snd (Code.fst (Code.snd (Code.snd (Code.snd (Code.snd (bodyOf Try.f22))))))))))) (y := (Ann.snd (Ann.fst (Ann.fst (Ann.snd (Ann.fst (Ann.snd (Ann.snd (Ann.snd (Ann.snd spec_CrossingsOf_an)))))))))) (spec_CrossingsOf_n3_l x2550 x2551 x2474) (fun (t : Unit) => (link_map (spec_CrossingsOf_n11_l x2550 x2551 x2474) (fun (t : Int × Int) => (Sum.inl (t.1, t.2))) (by
  rintro t
  · kernel_rfl))) (fun (t : Int) => (Sum.inr t)) (by
  rintro t
  · kernel_rfl) (by
  rintro t f K h
  · exact h))

theorem spec_CrossingsOf_n13_l (x2474 : List (List Int)) : Link spec_CrossingsOf_ctx LL (Code.fst (Code.snd (Code.fst (Code.snd (Code.snd (Code.snd (Code.snd (bodyOf Try.f22)))))))) (Ann.fst (Ann.snd (Ann.fst (Ann.snd (Ann.snd (Ann.snd (Ann.snd spec_CrossingsOf_an))))))) (⟨mkE 51 0 [(3, .dat (.int .i64) 0), (4, .slc 0), (5, .dat (.int .i64) 0)], [some (.seq (.list (.int .i64)) x2474)]⟩ : St) (spec_CrossingsOf_n13 x2474) (fun (t : Int) => ((Exit.exit 0), (⟨mkE 51 0 [(3, .dat (.int .i64) t)], []⟩ : St))) := by
  unfold spec_CrossingsOf_n13
  exact Link.cast (by kernel_rfl) (by kernel_rfl) (link_loop (mk := fun (s : Int × Int) => (⟨mkE 51 0 [(3, .dat (.int .i64) s.1), (4, .slc 0), (5, .dat (.int .i64) s.2)], [some (.seq (.list (.int .i64)) x2474)]⟩ : St)) (fin := (fun (t : Int) => ((Exit.exit 0), (⟨mkE 51 0 [(3, .dat (.int .i64) t)], []⟩ : St)))) (by
  rintro t f K h
  · exact h) (fun s => link_map (spec_CrossingsOf_n12_l s.1 s.2 x2474) (Sum.elim (fun (t : Int × Int) => Sum.inl (t.1, t.2)) (fun (t : Int) => Sum.inr t)) (by
  rintro (t | t)
  · kernel_rfl
  · kernel_rfl)) (0, 0))

theorem spec_CrossingsOf_n14_l (x2474 : List (List Int)) : Link spec_CrossingsOf_ctx LL (Code.snd (Code.fst (Code.snd (Code.snd (Code.snd (Code.snd (bodyOf Try.f22))))))) (Ann.snd (Ann.fst (Ann.snd (Ann.snd (Ann.snd (Ann.snd spec_CrossingsOf_an)))))) (⟨mkE 51 0 [(3, .dat (.int .i64) 0), (4, .slc 0), (5, .dat (.int .i64) 0)], [some (.seq (.list (.int .i64)) x2474)]⟩ : St) (spec_CrossingsOf_n14 x2474) (fun (t : Int) => (Exit.normal, (⟨mkE 51 0 [(3, .dat (.int .i64) t)], []⟩ : St))) := by
  unfold spec_CrossingsOf_n14
  exact Link.cast (by kernel_rfl) (by kernel_rfl) (link_block (id := 0) (spec_CrossingsOf_n13_l x2474) (fun (t : Int) => t) (by
  rintro t K h
  · exact Eq.mp (by kernel_rfl) h))

theorem spec_CrossingsOf_n15_l (x2474 : List (List Int)) : Link spec_CrossingsOf_ctx LL (Code.fst (Code.snd (Code.snd (Code.snd (Code.snd (bodyOf Try.f22)))))) (Ann.fst (Ann.snd (Ann.snd (Ann.snd (Ann.snd spec_CrossingsOf_an))))) (⟨mkE 51 0 [(3, .dat (.int .i64) 0), (4, .slc 0)], [some (.seq (.list (.int .i64)) x2474)]⟩ : St) (spec_CrossingsOf_n15 x2474) (fun (t : Int) => (Exit.normal, (⟨mkE 51 0 [(3, .dat (.int .i64) t)], []⟩ : St))) := by
  unfold spec_CrossingsOf_n15
  exact Link.cast (by kernel_rfl) (by kernel_rfl) (link_seq (b := (Code.snd (Code.fst (Code.snd (Code.snd (Code.snd (Code.snd (bodyOf Try.f22)))))))) (y := (Ann.snd (Ann.fst (Ann.snd (Ann.snd (Ann.snd (Ann.snd spec_CrossingsOf_an))))))) (spec_CrossingsOf_n2_l x2474) (fun (t : Unit) => (spec_CrossingsOf_n14_l x2474)))

theorem spec_CrossingsOf_n16_l (x2550 : Int) : Link spec_CrossingsOf_ctx LL (Code.snd (Code.snd (Code.snd (Code.snd (Code.snd (bodyOf Try.f22)))))) (Ann.snd (Ann.snd (Ann.snd (Ann.snd (Ann.snd spec_CrossingsOf_an))))) (⟨mkE 51 0 [(3, .dat (.int .i64) x2550)], []⟩ : St) (spec_CrossingsOf_n16 x2550) (fun (t : Int) => (Exit.ret, (⟨mkE 51 0 [(2, .dat (.int .i64) t)], []⟩ : St))) := by
  refine Link.of fun K h => ?_
  simp only [spec_CrossingsOf_n16, wpO_bind, wpO_cond, wpO_map, wpO_some] at h
  exact Awp.of (by kernel_rfl) h

theorem spec_CrossingsOf_n17_l (x2474 : List (List Int)) : Link spec_CrossingsOf_ctx LL (Code.snd (Code.snd (Code.snd (Code.snd (bodyOf Try.f22))))) (Ann.snd (Ann.snd (Ann.snd (Ann.snd spec_CrossingsOf_an)))) (⟨mkE 51 0 [(3, .dat (.int .i64) 0), (4, .slc 0)], [some (.seq (.list (.int .i64)) x2474)]⟩ : St) (spec_CrossingsOf_n17 x2474) (fun (t : Int) => (Exit.ret, (⟨mkE 51 0 [(2, .dat (.int .i64) t)], []⟩ : St))) := by
  unfold spec_CrossingsOf_n17
  exact Link.cast (by kernel_rfl) (by kernel_rfl) (link_seq (b := (Code.snd (Code.snd (Code.snd (Code.snd (Code.snd (bodyOf Try.f22))))))) (y := (Ann.snd (Ann.snd (Ann.snd (Ann.snd (Ann.snd spec_CrossingsOf_an)))))) (spec_CrossingsOf_n15_l x2474) (fun (t : Int) => (spec_CrossingsOf_n16_l t)))

theorem spec_CrossingsOf_n18_l (x2467 : List Int) : Link spec_CrossingsOf_ctx LL (bodyOf Try.f22) spec_CrossingsOf_an (⟨mkE 51 0 [(0, .dat (.list (.int .i64)) x2467)], []⟩ : St) (spec_CrossingsOf_n18 x2467) (fun (t : Int) => (Exit.ret, (⟨mkE 51 0 [(2, .dat (.int .i64) t)], []⟩ : St))) := by
  unfold spec_CrossingsOf_n18
  exact Link.cast (by kernel_rfl) (by kernel_rfl) (link_group (c := (Code.fst (Code.snd (Code.snd (Code.snd (bodyOf Try.f22)))))) (a := (Ann.fst (Ann.snd (Ann.snd (Ann.snd spec_CrossingsOf_an))))) [(Code.fst (bodyOf Try.f22)), (Code.fst (Code.snd (bodyOf Try.f22))), (Code.fst (Code.snd (Code.snd (bodyOf Try.f22))))] [(Ann.fst spec_CrossingsOf_an), (Ann.fst (Ann.snd spec_CrossingsOf_an)), (Ann.fst (Ann.snd (Ann.snd spec_CrossingsOf_an)))] rfl (link_seq2 (b := (Code.snd (Code.snd (Code.snd (Code.snd (bodyOf Try.f22)))))) (y := (Ann.snd (Ann.snd (Ann.snd (Ann.snd spec_CrossingsOf_an))))) (spec_CrossingsOf_n1_l x2467) (fun (t : (List (List Int))) => (spec_CrossingsOf_n17_l t)) (fun (t : Int) => t) (by
  rintro t
  · kernel_rfl) (by
  rintro t f K h
  · exact h)))

theorem spec_CrossingsOf_e (x2467 : List Int) {r : AV} {H' : Heap} (h : (Ans.mk _ (spec_CrossingsOf x2467) (fun (t : Int) => (.dat (.int .i64) t, []))).run = some (r, H')) : Awp spec_CrossingsOf_ctx LL (bodyOf Try.f22) spec_CrossingsOf_an (⟨mkE 51 0 [(0, .dat (.list (.int .i64)) x2467)], []⟩ : St) (Ret (tlook tys) Try.f22.results.toList r H') :=
  ret_of' (spec_CrossingsOf_n18_l x2467) (by unfold spec_CrossingsOf; kernel_rfl) (by
  intro t
  exact ret_mk [.dat (.int .i64) t] (by kernel_rfl) (by kernel_rfl) (by kernel_rfl) (by kernel_rfl)) h

def F_spec_CrossingsOf : Fun := fun avs H =>
  match avs, H with
  | [.dat (.list (.int .i64)) x2467], [] => ⟨_, spec_CrossingsOf x2467, fun (t : Int) => (.dat (.int .i64) t, [])⟩
  | _, _ => Ans.no

theorem spec_CrossingsOf_sound : Sound Try.prog 22 F_spec_CrossingsOf := by
  refine fn_sound' (C := spec_CrossingsOf_ctx) (c := bodyOf Try.f22) (cok_of tys_ok (List.forall_mem_cons.2 ⟨spec_TreeOk_sound, List.forall_mem_cons.2 ⟨spec_l3Arcs_sound, List.forall_mem_cons.2 ⟨spec_CrossOk_sound, by simp⟩⟩⟩) (List.forall_mem_cons.2 ⟨Try.call16, List.forall_mem_cons.2 ⟨Try.call36, List.forall_mem_cons.2 ⟨Try.call12, by simp⟩⟩⟩) (by kernel_rfl)) Try.func22 (by kernel_rfl) LL spec_CrossingsOf_an ?_
  intro avs H r H' h
  unfold F_spec_CrossingsOf at h
  split at h
  · refine Awp.cast ?_ ?_ ?_ (spec_CrossingsOf_e _ h) <;> kernel_rfl
  · simp [Ans.no, Ans.run] at h

/-! loop.example/headtrees/impl.countPairs[loop.example/headtrees/impl.arc] -/

def impl_countPairs_impl_arc_an : Ann := (.seq (.leaf [0, 1]) (.seq (.leaf [0, 1, 5]) (.seq (.seq (.leaf [0, 1, 5, 10, 11, 12]) (.block (.loop (.seq (.leaf [0, 1, 5, 10, 11, 12, 13]) (.seq (.cond (.leaf [0, 1, 5, 10, 11, 12]) (.leaf [5])) (.seq (.block (.seq (.leaf [0, 1, 5, 6, 7, 10, 11, 12]) (.seq (.leaf [0, 1, 5, 7, 10, 11, 12, 20, 21, 22]) (.block (.loop (.seq (.leaf [0, 1, 5, 7, 10, 11, 12, 20, 21, 22, 23]) (.seq (.cond (.leaf [0, 1, 5, 7, 10, 11, 12, 20, 21, 22]) (.leaf [0, 1, 5, 10, 11, 12])) (.seq (.block (.seq (.leaf [0, 1, 5, 7, 9, 10, 11, 12, 20, 21, 22]) (.seq (.leaf [0, 1, 5, 7, 10, 11, 12, 20, 21, 22, 29]) (.cond (.leaf [0, 1, 5, 7, 10, 11, 12, 20, 21, 22]) (.leaf [0, 1, 5, 7, 10, 11, 12, 20, 21, 22]))))) (.leaf [0, 1, 5, 7, 10, 11, 12, 20, 21, 22]))))))))) (.leaf [0, 1, 5, 10, 11, 12]))))))) (.seq (.leaf [4]) (.leaf [4])))))

noncomputable def impl_countPairs_impl_arc_ctx : Ctx := ⟨tlook tys, olook [(31, F_impl_arc_crosses)], ioF, 0⟩

theorem impl_countPairs_impl_arc_n1_l (x2645 : List (Int × Int × Unit)) : Link impl_countPairs_impl_arc_ctx LL (Code.seq (Code.fst (bodyOf Try.f42)) (Code.fst (Code.snd (bodyOf Try.f42)))) (Ann.seq (Ann.fst impl_countPairs_impl_arc_an) (Ann.fst (Ann.snd impl_countPairs_impl_arc_an))) (⟨mkE 35 0 [(0, .dat (.list (.pair (.int .i64) (.pair (.int .i64) .unit))) x2645), (1, .fn 31 [] [])], []⟩ : St) (impl_countPairs_impl_arc_n1) (fun (t : Unit) => (Exit.normal, (⟨mkE 35 0 [(0, .dat (.list (.pair (.int .i64) (.pair (.int .i64) .unit))) x2645), (1, .fn 31 [] []), (5, .dat (.int .i64) 0)], []⟩ : St))) := by
  refine Link.of fun K h => ?_
  simp only [impl_countPairs_impl_arc_n1, wpO_bind, wpO_cond, wpO_map, wpO_some] at h
  exact Awp.of (by kernel_rfl) h

theorem impl_countPairs_impl_arc_n2_l (x2645 : List (Int × Int × Unit)) : Link impl_countPairs_impl_arc_ctx LL (Code.fst (Code.fst (Code.snd (Code.snd (bodyOf Try.f42))))) (Ann.fst (Ann.fst (Ann.snd (Ann.snd impl_countPairs_impl_arc_an)))) (⟨mkE 35 0 [(0, .dat (.list (.pair (.int .i64) (.pair (.int .i64) .unit))) x2645), (1, .fn 31 [] []), (5, .dat (.int .i64) 0)], []⟩ : St) (impl_countPairs_impl_arc_n2 x2645) (fun (t : Int) => (Exit.normal, (⟨mkE 35 0 [(0, .dat (.list (.pair (.int .i64) (.pair (.int .i64) .unit))) x2645), (1, .fn 31 [] []), (5, .dat (.int .i64) 0), (10, .dat (.list (.pair (.int .i64) (.pair (.int .i64) .unit))) x2645), (11, .dat (.int .i64) t), (12, .dat (.int .i64) 0)], []⟩ : St))) := by
  refine Link.of fun K h => ?_
  simp only [impl_countPairs_impl_arc_n2, wpO_bind, wpO_cond, wpO_map, wpO_some] at h
  exact Awp.of (by kernel_rfl) h

theorem impl_countPairs_impl_arc_n3_l (x2645 : List (Int × Int × Unit)) (x2711 : Int) (x2646 : Int) (x2712 : Int) : Link impl_countPairs_impl_arc_ctx LL (Code.seq (Code.fst (Code.fst (Code.fst (Code.snd (Code.fst (Code.snd (Code.snd (bodyOf Try.f42)))))))) (Code.fst (Code.snd (Code.fst (Code.fst (Code.snd (Code.fst (Code.snd (Code.snd (bodyOf Try.f42)))))))))) (Ann.seq (Ann.fst (Ann.fst (Ann.fst (Ann.snd (Ann.fst (Ann.snd (Ann.snd impl_countPairs_impl_arc_an))))))) (Ann.fst (Ann.snd (Ann.fst (Ann.fst (Ann.snd (Ann.fst (Ann.snd (Ann.snd impl_countPairs_impl_arc_an))))))))) (⟨mkE 35 0 [(0, .dat (.list (.pair (.int .i64) (.pair (.int .i64) .unit))) x2645), (1, .fn 31 [] []), (5, .dat (.int .i64) x2711), (10, .dat (.list (.pair (.int .i64) (.pair (.int .i64) .unit))) x2645), (11, .dat (.int .i64) x2646), (12, .dat (.int .i64) x2712)], []⟩ : St) (impl_countPairs_impl_arc_n3 x2711 x2646 x2712) (Sum.elim (fun (t : Unit) => (Exit.normal, (⟨mkE 35 0 [(0, .dat (.list (.pair (.int .i64) (.pair (.int .i64) .unit))) x2645), (1, .fn 31 [] []), (5, .dat (.int .i64) x2711), (10, .dat (.list (.pair (.int .i64) (.pair (.int .i64) .unit))) x2645), (11, .dat (.int .i64) x2646), (12, .dat (.int .i64) x2712)], []⟩ : St))) (fun (t : Int) => ((Exit.exit 0), (⟨mkE 35 0 [(5, .dat (.int .i64) t)], []⟩ : St)))) := by
  refine Link.of fun K h => ?_
  simp only [impl_countPairs_impl_arc_n3, wpO_bind, wpO_cond, wpO_map, wpO_some] at h
  exact Awp.of (by kernel_rfl) h

theorem impl_countPairs_impl_arc_n4_l (x2645 : List (Int × Int × Unit)) (x2711 : Int) (x2646 : Int) (x2712 : Int) : Link impl_countPairs_impl_arc_ctx LL (Code.seq (Code.fst (Code.fst (Code.fst (Code.snd (Code.snd (Code.fst (Code.fst (Code.snd (Code.fst (Code.snd (Code.snd (bodyOf Try.f42)))))))))))) (Code.fst (Code.snd (Code.fst (Code.fst (Code.snd (Code.snd (Code.fst (Code.fst (Code.snd (Code.fst (Code.snd (Code.snd (bodyOf Try.f42)))))))))))))) (Ann.seq (Ann.fst (Ann.fst (Ann.fst (Ann.snd (Ann.snd (Ann.fst (Ann.fst (Ann.snd (Ann.fst (Ann.snd (Ann.snd impl_countPairs_impl_arc_an))))))))))) (Ann.fst (Ann.snd (Ann.fst (Ann.fst (Ann.snd (Ann.snd (Ann.fst (Ann.fst (Ann.snd (Ann.fst (Ann.snd (Ann.snd impl_countPairs_impl_arc_an))))))))))))) (⟨mkE 35 0 [(0, .dat (.list (.pair (.int .i64) (.pair (.int .i64) .unit))) x2645), (1, .fn 31 [] []), (5, .dat (.int .i64) x2711), (10, .dat (.list (.pair (.int .i64) (.pair (.int .i64) .unit))) x2645), (11, .dat (.int .i64) x2646), (12, .dat (.int .i64) x2712)], []⟩ : St) (impl_countPairs_impl_arc_n4 x2645 x2712) (fun (t : (List (Int × Int × Unit)) × Int × Int × Int) => (Exit.normal, (⟨mkE 35 0 [(0, .dat (.list (.pair (.int .i64) (.pair (.int .i64) .unit))) x2645), (1, .fn 31 [] []), (5, .dat (.int .i64) x2711), (7, .ptr 0 0), (10, .dat (.list (.pair (.int .i64) (.pair (.int .i64) .unit))) x2645), (11, .dat (.int .i64) x2646), (12, .dat (.int .i64) x2712), (20, .dat (.list (.pair (.int .i64) (.pair (.int .i64) .unit))) t.1), (21, .dat (.int .i64) t.2.1), (22, .dat (.int .i64) 0)], [some (.box [.dat (.int .i64) t.2.2.1, .dat (.int .i64) t.2.2.2])]⟩ : St))) := by
  refine Link.of fun K h => ?_
  simp only [impl_countPairs_impl_arc_n4, wpO_bind, wpO_cond, wpO_map, wpO_some] at h
  exact Awp.of (by kernel_rfl) h

theorem impl_countPairs_impl_arc_n5_l (x2645 : List (Int × Int × Unit)) (x2752 : Int) (x2646 : Int) (x2712 : Int) (x2728 : List (Int × Int × Unit)) (x2729 : Int) (x2753 : Int) (x2721 : Int) (x2723 : Int) : Link impl_countPairs_impl_arc_ctx LL (Code.fst (Code.fst (Code.snd (Code.snd (Code.fst (Code.fst (Code.snd (Code.snd (Code.fst (Code.fst (Code.snd (Code.fst (Code.snd (Code.snd (bodyOf Try.f42))))))))))))))) (Ann.fst (Ann.fst (Ann.snd (Ann.snd (Ann.fst (Ann.fst (Ann.snd (Ann.snd (Ann.fst (Ann.fst (Ann.snd (Ann.fst (Ann.snd (Ann.snd impl_countPairs_impl_arc_an)))))))))))))) (⟨mkE 35 0 [(0, .dat (.list (.pair (.int .i64) (.pair (.int .i64) .unit))) x2645), (1, .fn 31 [] []), (5, .dat (.int .i64) x2752), (7, .ptr 0 0), (10, .dat (.list (.pair (.int .i64) (.pair (.int .i64) .unit))) x2645), (11, .dat (.int .i64) x2646), (12, .dat (.int .i64) x2712), (20, .dat (.list (.pair (.int .i64) (.pair (.int .i64) .unit))) x2728), (21, .dat (.int .i64) x2729), (22, .dat (.int .i64) x2753)], [some (.box [.dat (.int .i64) x2721, .dat (.int .i64) x2723])]⟩ : St) (impl_countPairs_impl_arc_n5 x2752 x2728 x2729 x2753 x2721 x2723) (Sum.elim (fun (t : Int × Int) => (Exit.normal, (⟨mkE 35 0 [(0, .dat (.list (.pair (.int .i64) (.pair (.int .i64) .unit))) x2645), (1, .fn 31 [] []), (5, .dat (.int .i64) t.1), (7, .ptr 0 0), (10, .dat (.list (.pair (.int .i64) (.pair (.int .i64) .unit))) x2645), (11, .dat (.int .i64) x2646), (12, .dat (.int .i64) x2712), (20, .dat (.list (.pair (.int .i64) (.pair (.int .i64) .unit))) x2728), (21, .dat (.int .i64) x2729), (22, .dat (.int .i64) t.2)], [some (.box [.dat (.int .i64) x2721, .dat (.int .i64) x2723])]⟩ : St))) (fun (t : Int) => ((Exit.exit 2), (⟨mkE 35 0 [(0, .dat (.list (.pair (.int .i64) (.pair (.int .i64) .unit))) x2645), (1, .fn 31 [] []), (5, .dat (.int .i64) t), (10, .dat (.list (.pair (.int .i64) (.pair (.int .i64) .unit))) x2645), (11, .dat (.int .i64) x2646), (12, .dat (.int .i64) x2712)], []⟩ : St)))) := by
  refine Link.of fun K h => ?_
  simp only [impl_countPairs_impl_arc_n5, wpO_bind, wpO_cond, wpO_map, wpO_some] at h
  exact Awp.of (by kernel_rfl) h

theorem impl_countPairs_impl_arc_n6_l (x2645 : List (Int × Int × Unit)) (x2711 : Int) (x2646 : Int) (x2712 : Int) (x2728 : List (Int × Int × Unit)) (x2729 : Int) (x2721 : Int) (x2723 : Int) : Link impl_countPairs_impl_arc_ctx LL (Code.fst (Code.snd (Code.snd (Code.fst (Code.fst (Code.snd (Code.snd (Code.fst (Code.fst (Code.snd (Code.fst (Code.snd (Code.snd (bodyOf Try.f42)))))))))))))) (Ann.fst (Ann.snd (Ann.snd (Ann.fst (Ann.fst (Ann.snd (Ann.snd (Ann.fst (Ann.fst (Ann.snd (Ann.fst (Ann.snd (Ann.snd impl_countPairs_impl_arc_an))))))))))))) (⟨mkE 35 0 [(0, .dat (.list (.pair (.int .i64) (.pair (.int .i64) .unit))) x2645), (1, .fn 31 [] []), (5, .dat (.int .i64) x2711), (7, .ptr 0 0), (10, .dat (.list (.pair (.int .i64) (.pair (.int .i64) .unit))) x2645), (11, .dat (.int .i64) x2646), (12, .dat (.int .i64) x2712), (20, .dat (.list (.pair (.int .i64) (.pair (.int .i64) .unit))) x2728), (21, .dat (.int .i64) x2729), (22, .dat (.int .i64) 0)], [some (.box [.dat (.int .i64) x2721, .dat (.int .i64) x2723])]⟩ : St) (impl_countPairs_impl_arc_n6 x2711 x2728 x2729 x2721 x2723) (fun (t : Int) => ((Exit.exit 2), (⟨mkE 35 0 [(0, .dat (.list (.pair (.int .i64) (.pair (.int .i64) .unit))) x2645), (1, .fn 31 [] []), (5, .dat (.int .i64) t), (10, .dat (.list (.pair (.int .i64) (.pair (.int .i64) .unit))) x2645), (11, .dat (.int .i64) x2646), (12, .dat (.int .i64) x2712)], []⟩ : St))) := by
  unfold impl_countPairs_impl_arc_n6
  exact Link.cast (by kernel_rfl) (by kernel_rfl) (link_loop (mk := fun (s : Int × Int) => (⟨mkE 35 0 [(0, .dat (.list (.pair (.int .i64) (.pair (.int .i64) .unit))) x2645), (1, .fn 31 [] []), (5, .dat (.int .i64) s.1), (7, .ptr 0 0), (10, .dat (.list (.pair (.int .i64) (.pair (.int .i64) .unit))) x2645), (11, .dat (.int .i64) x2646), (12, .dat (.int .i64) x2712), (20, .dat (.list (.pair (.int .i64) (.pair (.int .i64) .unit))) x2728), (21, .dat (.int .i64) x2729), (22, .dat (.int .i64) s.2)], [some (.box [.dat (.int .i64) x2721, .dat (.int .i64) x2723])]⟩ : St)) (fin := (fun (t : Int) => ((Exit.exit 2), (⟨mkE 35 0 [(0, .dat (.list (.pair (.int .i64) (.pair (.int .i64) .unit))) x2645), (1, .fn 31 [] []), (5, .dat (.int .i64) t), (10, .dat (.list (.pair (.int .i64) (.pair (.int .i64) .unit))) x2645), (11, .dat (.int .i64) x2646), (12, .dat (.int .i64) x2712)], []⟩ : St)))) (by
  rintro t f K h
  · exact h) (fun s => link_map (impl_countPairs_impl_arc_n5_l x2645 s.1 x2646 x2712 x2728 x2729 s.2 x2721 x2723) (Sum.elim (fun (t : Int × Int) => Sum.inl (t.1, t.2)) (fun (t : Int) => Sum.inr t)) (by
  rintro (t | t)
  · kernel_rfl
  · kernel_rfl)) (x2711, 0))

theorem impl_countPairs_impl_arc_n7_l (x2645 : List (Int × Int × Unit)) (x2711 : Int) (x2646 : Int) (x2712 : Int) (x2728 : List (Int × Int × Unit)) (x2729 : Int) (x2721 : Int) (x2723 : Int) : Link impl_countPairs_impl_arc_ctx LL (Code.snd (Code.snd (Code.fst (Code.fst (Code.snd (Code.snd (Code.fst (Code.fst (Code.snd (Code.fst (Code.snd (Code.snd (bodyOf Try.f42))))))))))))) (Ann.snd (Ann.snd (Ann.fst (Ann.fst (Ann.snd (Ann.snd (Ann.fst (Ann.fst (Ann.snd (Ann.fst (Ann.snd (Ann.snd impl_countPairs_impl_arc_an)))))))))))) (⟨mkE 35 0 [(0, .dat (.list (.pair (.int .i64) (.pair (.int .i64) .unit))) x2645), (1, .fn 31 [] []), (5, .dat (.int .i64) x2711), (7, .ptr 0 0), (10, .dat (.list (.pair (.int .i64) (.pair (.int .i64) .unit))) x2645), (11, .dat (.int .i64) x2646), (12, .dat (.int .i64) x2712), (20, .dat (.list (.pair (.int .i64) (.pair (.int .i64) .unit))) x2728), (21, .dat (.int .i64) x2729), (22, .dat (.int .i64) 0)], [some (.box [.dat (.int .i64) x2721, .dat (.int .i64) x2723])]⟩ : St) (impl_countPairs_impl_arc_n7 x2711 x2728 x2729 x2721 x2723) (fun (t : Int) => (Exit.normal, (⟨mkE 35 0 [(0, .dat (.list (.pair (.int .i64) (.pair (.int .i64) .unit))) x2645), (1, .fn 31 [] []), (5, .dat (.int .i64) t), (10, .dat (.list (.pair (.int .i64) (.pair (.int .i64) .unit))) x2645), (11, .dat (.int .i64) x2646), (12, .dat (.int .i64) x2712)], []⟩ : St))) := by
  unfold impl_countPairs_impl_arc_n7
  exact Link.cast (by kernel_rfl) (by kernel_rfl) (link_block (id := 2) (impl_countPairs_impl_arc_n6_l x2645 x2711 x2646 x2712 x2728 x2729 x2721 x2723) (fun (t : Int) => t) (by
  rintro t K h
  · exact Eq.mp (by kernel_rfl) h))

theorem impl_countPairs_impl_arc_n8_l (x2645 : List (Int × Int × Unit)) (x2711 : Int) (x2646 : Int) (x2712 : Int) : Link impl_countPairs_impl_arc_ctx LL (Code.fst (Code.fst (Code.snd (Code.snd (Code.fst (Code.fst (Code.snd (Code.fst (Code.snd (Code.snd (bodyOf Try.f42))))))))))) (Ann.fst (Ann.fst (Ann.snd (Ann.snd (Ann.fst (Ann.fst (Ann.snd (Ann.fst (Ann.snd (Ann.snd impl_countPairs_impl_arc_an)))))))))) (⟨mkE 35 0 [(0, .dat (.list (.pair (.int .i64) (.pair (.int .i64) .unit))) x2645), (1, .fn 31 [] []), (5, .dat (.int .i64) x2711), (10, .dat (.list (.pair (.int .i64) (.pair (.int .i64) .unit))) x2645), (11, .dat (.int .i64) x2646), (12, .dat (.int .i64) x2712)], []⟩ : St) (impl_countPairs_impl_arc_n8 x2645 x2711 x2712) (fun (t : Int) => (Exit.normal, (⟨mkE 35 0 [(0, .dat (.list (.pair (.int .i64) (.pair (.int .i64) .unit))) x2645), (1, .fn 31 [] []), (5, .dat (.int .i64) t), (10, .dat (.list (.pair (.int .i64) (.pair (.int .i64) .unit))) x2645), (11, .dat (.int .i64) x2646), (12, .dat (.int .i64) x2712)], []⟩ : St))) := by
  unfold impl_countPairs_impl_arc_n8
  exact Link.cast (by kernel_rfl) (by kernel_rfl) (link_group (c := (Code.fst (Code.snd (Code.fst (Code.fst (Code.snd (Code.snd (Code.fst (Code.fst (Code.snd (Code.fst (Code.snd (Code.snd (bodyOf Try.f42)))))))))))))) (a := (Ann.fst (Ann.snd (Ann.fst (Ann.fst (Ann.snd (Ann.snd (Ann.fst (Ann.fst (Ann.snd (Ann.fst (Ann.snd (Ann.snd impl_countPairs_impl_arc_an))))))))))))) [(Code.fst (Code.fst (Code.fst (Code.snd (Code.snd (Code.fst (Code.fst (Code.snd (Code.fst (Code.snd (Code.snd (bodyOf Try.f42))))))))))))] [(Ann.fst (Ann.fst (Ann.fst (Ann.snd (Ann.snd (Ann.fst (Ann.fst (Ann.snd (Ann.fst (Ann.snd (Ann.snd impl_countPairs_impl_arc_an)))))))))))] rfl (link_seq (b := (Code.snd (Code.snd (Code.fst (Code.fst (Code.snd (Code.snd (Code.fst (Code.fst (Code.snd (Code.fst (Code.snd (Code.snd (bodyOf Try.f42)))))))))))))) (y := (Ann.snd (Ann.snd (Ann.fst (Ann.fst (Ann.snd (Ann.snd (Ann.fst (Ann.fst (Ann.snd (Ann.fst (Ann.snd (Ann.snd impl_countPairs_impl_arc_an))))))))))))) (impl_countPairs_impl_arc_n4_l x2645 x2711 x2646 x2712) (fun (t : (List (Int × Int × Unit)) × Int × Int × Int) => (impl_countPairs_impl_arc_n7_l x2645 x2711 x2646 x2712 t.1 t.2.1 t.2.2.1 t.2.2.2))))

theorem impl_countPairs_impl_arc_n9_l (x2645 : List (Int × Int × Unit)) (x2711 : Int) (x2646 : Int) (x2712 : Int) : Link impl_countPairs_impl_arc_ctx LL (Code.fst (Code.snd (Code.snd (Code.fst (Code.fst (Code.snd (Code.fst (Code.snd (Code.snd (bodyOf Try.f42)))))))))) (Ann.fst (Ann.snd (Ann.snd (Ann.fst (Ann.fst (Ann.snd (Ann.fst (Ann.snd (Ann.snd impl_countPairs_impl_arc_an))))))))) (⟨mkE 35 0 [(0, .dat (.list (.pair (.int .i64) (.pair (.int .i64) .unit))) x2645), (1, .fn 31 [] []), (5, .dat (.int .i64) x2711), (10, .dat (.list (.pair (.int .i64) (.pair (.int .i64) .unit))) x2645), (11, .dat (.int .i64) x2646), (12, .dat (.int .i64) x2712)], []⟩ : St) (impl_countPairs_impl_arc_n9 x2645 x2711 x2712) (fun (t : Int) => (Exit.normal, (⟨mkE 35 0 [(0, .dat (.list (.pair (.int .i64) (.pair (.int .i64) .unit))) x2645), (1, .fn 31 [] []), (5, .dat (.int .i64) t), (10, .dat (.list (.pair (.int .i64) (.pair (.int .i64) .unit))) x2645), (11, .dat (.int .i64) x2646), (12, .dat (.int .i64) x2712)], []⟩ : St))) := by
  unfold impl_countPairs_impl_arc_n9
  exact Link.cast (by kernel_rfl) (by kernel_rfl) (link_block (id := 1) (impl_countPairs_impl_arc_n8_l x2645 x2711 x2646 x2712) (fun (t : Int) => t) (by
  rintro t K h
  · exact Eq.mp (by kernel_rfl) h))

theorem impl_countPairs_impl_arc_n10_l (x2645 : List (Int × Int × Unit)) (x2752 : Int) (x2646 : Int) (x2712 : Int) : Link impl_countPairs_impl_arc_ctx LL (Code.snd (Code.snd (Code.snd (Code.fst (Code.fst (Code.snd (Code.fst (Code.snd (Code.snd (bodyOf Try.f42)))))))))) (Ann.snd (Ann.snd (Ann.snd (Ann.fst (Ann.fst (Ann.snd (Ann.fst (Ann.snd (Ann.snd impl_countPairs_impl_arc_an))))))))) (⟨mkE 35 0 [(0, .dat (.list (.pair (.int .i64) (.pair (.int .i64) .unit))) x2645), (1, .fn 31 [] []), (5, .dat (.int .i64) x2752), (10, .dat (.list (.pair (.int .i64) (.pair (.int .i64) .unit))) x2645), (11, .dat (.int .i64) x2646), (12, .dat (.int .i64) x2712)], []⟩ : St) (impl_countPairs_impl_arc_n10 x2712) (fun (t : Int) => (Exit.normal, (⟨mkE 35 0 [(0, .dat (.list (.pair (.int .i64) (.pair (.int .i64) .unit))) x2645), (1, .fn 31 [] []), (5, .dat (.int .i64) x2752), (10, .dat (.list (.pair (.int .i64) (.pair (.int .i64) .unit))) x2645), (11, .dat (.int .i64) x2646), (12, .dat (.int .i64) t)], []⟩ : St))) := by
  refine Link.of fun K h => ?_
  simp only [impl_countPairs_impl_arc_n10, wpO_bind, wpO_cond, wpO_map, wpO_some] at h
  exact Awp.of (by kernel_rfl) h

theorem impl_countPairs_impl_arc_n11_l (x2645 : List (Int × Int × Unit)) (x2711 : Int) (x2646 : Int) (x2712 : Int) : Link impl_countPairs_impl_arc_ctx LL (Code.snd (Code.snd (Code.fst (Code.fst (Code.snd (Code.fst (Code.snd (Code.snd (bodyOf Try.f42))))))))) (Ann.snd (Ann.snd (Ann.fst (Ann.fst (Ann.snd (Ann.fst (Ann.snd (Ann.snd impl_countPairs_impl_arc_an)))))))) (⟨mkE 35 0 [(0, .dat (.list (.pair (.int .i64) (.pair (.int .i64) .unit))) x2645), (1, .fn 31 [] []), (5, .dat (.int .i64) x2711), (10, .dat (.list (.pair (.int .i64) (.pair (.int .i64) .unit))) x2645), (11, .dat (.int .i64) x2646), (12, .dat (.int .i64) x2712)], []⟩ : St) (impl_countPairs_impl_arc_n11 x2645 x2711 x2712) (fun (t : Int × Int) => (Exit.normal, (⟨mkE 35 0 [(0, .dat (.list (.pair (.int .i64) (.pair (.int .i64) .unit))) x2645), (1, .fn 31 [] []), (5, .dat (.int .i64) t.1), (10, .dat (.list (.pair (.int .i64) (.pair (.int .i64) .unit))) x2645), (11, .dat (.int .i64) x2646), (12, .dat (.int .i64) t.2)], []⟩ : St))) := by
  unfold impl_countPairs_impl_arc_n11
  exact Link.cast (by kernel_rfl) (by kernel_rfl) (link_seq (b := (Code.snd (Code.snd (Code.snd (Code.fst (Code.fst (Code.snd (Code.fst (Code.snd (Code.snd (bodyOf Try.f42))))))))))) (y := (Ann.snd (Ann.snd (Ann.snd (Ann.fst (Ann.fst (Ann.snd (Ann.fst (Ann.snd (Ann.snd impl_countPairs_impl_arc_an)))))))))) (impl_countPairs_impl_arc_n9_l x2645 x2711 x2646 x2712) (fun (t : Int) => (link_map (impl_countPairs_impl_arc_n10_l x2645 t x2646 x2712) (fun (u : Int) => (t, u)) (by
  rintro t
  · kernel_rfl))))

theorem impl_countPairs_impl_arc_n12_l (x2645 : List (Int × Int × Unit)) (x2711 : Int) (x2646 : Int) (x2712 : Int) : Link impl_countPairs_impl_arc_ctx LL (Code.fst (Code.fst (Code.snd (Code.fst (Code.snd (Code.snd (bodyOf Try.f42))))))) (Ann.fst (Ann.fst (Ann.snd (Ann.fst (Ann.snd (Ann.snd impl_countPairs_impl_arc_an)))))) (⟨mkE 35 0 [(0, .dat (.list (.pair (.int .i64) (.pair (.int .i64) .unit))) x2645), (1, .fn 31 [] []), (5, .dat (.int .i64) x2711), (10, .dat (.list (.pair (.int .i64) (.pair (.int .i64) .unit))) x2645), (11, .dat (.int .i64) x2646), (12, .dat (.int .i64) x2712)], []⟩ : St) (impl_countPairs_impl_arc_n12 x2645 x2711 x2646 x2712) (Sum.elim (fun (t : Int × Int) => (Exit.normal, (⟨mkE 35 0 [(0, .dat (.list (.pair (.int .i64) (.pair (.int .i64) .unit))) x2645), (1, .fn 31 [] []), (5, .dat (.int .i64) t.1), (10, .dat (.list (.pair (.int .i64) (.pair (.int .i64) .unit))) x2645), (11, .dat (.int .i64) x2646), (12, .dat (.int .i64) t.2)], []⟩ : St))) (fun (t : Int) => ((Exit.exit 0), (⟨mkE 35 0 [(5, .dat (.int .i64) t)], []⟩ : St)))) := by
  unfold impl_countPairs_impl_arc_n12
  exact Link.cast (by kernel_rfl) (by kernel_rfl) (link_group (c := (Code.fst (Code.snd (Code.fst (Code.fst (Code.snd (Code.fst (Code.snd (Code.snd (bodyOf Try.f42)))))))))) (a := (Ann.fst (Ann.snd (Ann.fst (Ann.fst (Ann.snd (Ann.fst (Ann.snd (Ann.snd impl_countPairs_impl_arc_an))))))))) [(Code.fst (Code.fst (Code.fst (Code.snd (Code.fst (Code.snd (Code.snd (bodyOf Try.f42))))))))] [(Ann.fst (Ann.fst (Ann.fst (Ann.snd (Ann.fst (Ann.snd (Ann.snd impl_countPairs_impl_arc_an)))))))] rfl (link_seq2 (b := (Code.snd (Code.snd (Code.fst (Code.fst (Code.snd (Code.fst (Code.snd (Code.snd (bodyOf Try.f42)))))))))) (y := (Ann.snd (Ann.snd (Ann.fst (Ann.fst (Ann.snd (Ann.fst (Ann.snd (Ann.snd impl_countPairs_impl_arc_an))))))))) (impl_countPairs_impl_arc_n3_l x2645 x2711 x2646 x2712) (fun (t : Unit) => (link_map (impl_countPairs_impl_arc_n11_l x2645 x2711 x2646 x2712) (fun (t : Int × Int) => (Sum.inl (t.1, t.2))) (by
  rintro t
  · kernel_rfl))) (fun (t : Int) => (Sum.inr t)) (by
  rintro t
  · kernel_rfl) (by
  rintro t f K h
  · exact h)))

theorem impl_countPairs_impl_arc_n13_l (x2645 : List (Int × Int × Unit)) (x2646 : Int) : Link impl_countPairs_impl_arc_ctx LL (Code.fst (Code.snd (Code.fst (Code.snd (Code.snd (bodyOf Try.f42)))))) (Ann.fst (Ann.snd (Ann.fst (Ann.snd (Ann.snd impl_countPairs_impl_arc_an))))) (⟨mkE 35 0 [(0, .dat (.list (.pair (.int .i64) (.pair (.int .i64) .unit))) x2645), (1, .fn 31 [] []), (5, .dat (.int .i64) 0), (10, .dat (.list (.pair (.int .i64) (.pair (.int .i64) .unit))) x2645), (11, .dat (.int .i64) x2646), (12, .dat (.int .i64) 0)], []⟩ : St) (impl_countPairs_impl_arc_n13 x2645 x2646) (fun (t : Int) => ((Exit.exit 0), (⟨mkE 35 0 [(5, .dat (.int .i64) t)], []⟩ : St))) := by
  unfold impl_countPairs_impl_arc_n13
  exact Link.cast (by kernel_rfl) (by kernel_rfl) (link_loop (mk := fun (s : Int × Int) => (⟨mkE 35 0 [(0, .dat (.list (.pair (.int .i64) (.pair (.int .i64) .unit))) x2645), (1, .fn 31 [] []), (5, .dat (.int .i64) s.1), (10, .dat (.list (.pair (.int .i64) (.pair (.int .i64) .unit))) x2645), (11, .dat (.int .i64) x2646), (12, .dat (.int .i64) s.2)], []⟩ : St)) (fin := (fun (t : Int) => ((Exit.exit 0), (⟨mkE 35 0 [(5, .dat (.int .i64) t)], []⟩ : St)))) (by
  rintro t f K h
  · exact h) (fun s => link_map (impl_countPairs_impl_arc_n12_l x2645 s.1 x2646 s.2) (Sum.elim (fun (t : Int × Int) => Sum.inl (t.1, t.2)) (fun (t : Int) => Sum.inr t)) (by
  rintro (t | t)
  · kernel_rfl
  · kernel_rfl)) (0, 0))

theorem impl_countPairs_impl_arc_n14_l (x2645 : List (Int × Int × Unit)) (x2646 : Int) : Link impl_countPairs_impl_arc_ctx LL (Code.snd (Code.fst (Code.snd (Code.snd (bodyOf Try.f42))))) (Ann.snd (Ann.fst (Ann.snd (Ann.snd impl_countPairs_impl_arc_an)))) (⟨mkE 35 0 [(0, .dat (.list (.pair (.int .i64) (.pair (.int .i64) .unit))) x2645), (1, .fn 31 [] []), (5, .dat (.int .i64) 0), (10, .dat (.list (.pair (.int .i64) (.pair (.int .i64) .unit))) x2645), (11, .dat (.int .i64) x2646), (12, .dat (.int .i64) 0)], []⟩ : St) (impl_countPairs_impl_arc_n14 x2645 x2646) (fun (t : Int) => (Exit.normal, (⟨mkE 35 0 [(5, .dat (.int .i64) t)], []⟩ : St))) := by
  unfold impl_countPairs_impl_arc_n14
  exact Link.cast (by kernel_rfl) (by kernel_rfl) (link_block (id := 0) (impl_countPairs_impl_arc_n13_l x2645 x2646) (fun (t : Int) => t) (by
  rintro t K h
  · exact Eq.mp (by kernel_rfl) h))

theorem impl_countPairs_impl_arc_n15_l (x2645 : List (Int × Int × Unit)) : Link impl_countPairs_impl_arc_ctx LL (Code.fst (Code.snd (Code.snd (bodyOf Try.f42)))) (Ann.fst (Ann.snd (Ann.snd impl_countPairs_impl_arc_an))) (⟨mkE 35 0 [(0, .dat (.list (.pair (.int .i64) (.pair (.int .i64) .unit))) x2645), (1, .fn 31 [] []), (5, .dat (.int .i64) 0)], []⟩ : St) (impl_countPairs_impl_arc_n15 x2645) (fun (t : Int) => (Exit.normal, (⟨mkE 35 0 [(5, .dat (.int .i64) t)], []⟩ : St))) := by
  unfold impl_countPairs_impl_arc_n15
  exact Link.cast (by kernel_rfl) (by kernel_rfl) (link_seq (b := (Code.snd (Code.fst (Code.snd (Code.snd (bodyOf Try.f42)))))) (y := (Ann.snd (Ann.fst (Ann.snd (Ann.snd impl_countPairs_impl_arc_an))))) (impl_countPairs_impl_arc_n2_l x2645) (fun (t : Int) => (impl_countPairs_impl_arc_n14_l x2645 t)))

theorem impl_countPairs_impl_arc_n16_l (x2711 : Int) : Link impl_countPairs_impl_arc_ctx LL (Code.snd (Code.snd (Code.snd (bodyOf Try.f42)))) (Ann.snd (Ann.snd (Ann.snd impl_countPairs_impl_arc_an))) (⟨mkE 35 0 [(5, .dat (.int .i64) x2711)], []⟩ : St) (impl_countPairs_impl_arc_n16 x2711) (fun (t : Int) => (Exit.ret, (⟨mkE 35 0 [(4, .dat (.int .i64) t)], []⟩ : St))) := by
  refine Link.of fun K h => ?_
  simp only [impl_countPairs_impl_arc_n16, wpO_bind, wpO_cond, wpO_map, wpO_some] at h
  exact Awp.of (by kernel_rfl) h

theorem impl_countPairs_impl_arc_n17_l (x2645 : List (Int × Int × Unit)) : Link impl_countPairs_impl_arc_ctx LL (Code.snd (Code.snd (bodyOf Try.f42))) (Ann.snd (Ann.snd impl_countPairs_impl_arc_an)) (⟨mkE 35 0 [(0, .dat (.list (.pair (.int .i64) (.pair (.int .i64) .unit))) x2645), (1, .fn 31 [] []), (5, .dat (.int .i64) 0)], []⟩ : St) (impl_countPairs_impl_arc_n17 x2645) (fun (t : Int) => (Exit.ret, (⟨mkE 35 0 [(4, .dat (.int .i64) t)], []⟩ : St))) := by
  unfold impl_countPairs_impl_arc_n17
  exact Link.cast (by kernel_rfl) (by kernel_rfl) (link_seq (b := (Code.snd (Code.snd (Code.snd (bodyOf Try.f42))))) (y := (Ann.snd (Ann.snd (Ann.snd impl_countPairs_impl_arc_an)))) (impl_countPairs_impl_arc_n15_l x2645) (fun (t : Int) => (impl_countPairs_impl_arc_n16_l t)))

theorem impl_countPairs_impl_arc_n18_l (x2645 : List (Int × Int × Unit)) : Link impl_countPairs_impl_arc_ctx LL (bodyOf Try.f42) impl_countPairs_impl_arc_an (⟨mkE 35 0 [(0, .dat (.list (.pair (.int .i64) (.pair (.int .i64) .unit))) x2645), (1, .fn 31 [] [])], []⟩ : St) (impl_countPairs_impl_arc_n18 x2645) (fun (t : Int) => (Exit.ret, (⟨mkE 35 0 [(4, .dat (.int .i64) t)], []⟩ : St))) := by
  unfold impl_countPairs_impl_arc_n18
  exact Link.cast (by kernel_rfl) (by kernel_rfl) (link_group (c := (Code.fst (Code.snd (bodyOf Try.f42)))) (a := (Ann.fst (Ann.snd impl_countPairs_impl_arc_an))) [(Code.fst (bodyOf Try.f42))] [(Ann.fst impl_countPairs_impl_arc_an)] rfl (link_seq (b := (Code.snd (Code.snd (bodyOf Try.f42)))) (y := (Ann.snd (Ann.snd impl_countPairs_impl_arc_an))) (impl_countPairs_impl_arc_n1_l x2645) (fun (t : Unit) => (impl_countPairs_impl_arc_n17_l x2645))))

theorem impl_countPairs_impl_arc_e (x2645 : List (Int × Int × Unit)) {r : AV} {H' : Heap} (h : (Ans.mk _ (impl_countPairs_impl_arc x2645) (fun (t : Int) => (.dat (.int .i64) t, []))).run = some (r, H')) : Awp impl_countPairs_impl_arc_ctx LL (bodyOf Try.f42) impl_countPairs_impl_arc_an (⟨mkE 35 0 [(0, .dat (.list (.pair (.int .i64) (.pair (.int .i64) .unit))) x2645), (1, .fn 31 [] [])], []⟩ : St) (Ret (tlook tys) Try.f42.results.toList r H') :=
  ret_of' (impl_countPairs_impl_arc_n18_l x2645) (by unfold impl_countPairs_impl_arc; kernel_rfl) (by
  intro t
  exact ret_mk [.dat (.int .i64) t] (by kernel_rfl) (by kernel_rfl) (by kernel_rfl) (by kernel_rfl)) h

def F_impl_countPairs_impl_arc : Fun := fun avs H =>
  match avs, H with
  | [.dat (.list (.pair (.int .i64) (.pair (.int .i64) .unit))) x2645, .fn 31 [] []], [] => ⟨_, impl_countPairs_impl_arc x2645, fun (t : Int) => (.dat (.int .i64) t, [])⟩
  | _, _ => Ans.no

theorem impl_countPairs_impl_arc_sound : Sound Try.prog 42 F_impl_countPairs_impl_arc := by
  refine fn_sound' (C := impl_countPairs_impl_arc_ctx) (c := bodyOf Try.f42) (cok_of tys_ok (List.forall_mem_cons.2 ⟨impl_arc_crosses_sound, by simp⟩) (List.forall_mem_cons.2 ⟨Try.call31, by simp⟩) (by kernel_rfl)) Try.func42 (by kernel_rfl) LL impl_countPairs_impl_arc_an ?_
  intro avs H r H' h
  unfold F_impl_countPairs_impl_arc at h
  split at h
  · refine Awp.cast ?_ ?_ ?_ (impl_countPairs_impl_arc_e _ h) <;> kernel_rfl
  · simp [Ans.no, Ans.run] at h

/-! loop.example/headtrees/impl.CrossingsOf -/

def impl_CrossingsOf_an : Ann := (.seq (.leaf [0]) (.seq (.seq (.leaf [0, 5]) (.cond (.seq (.leaf [2]) (.leaf [2])) (.leaf [0]))) (.seq (.leaf [2]) (.leaf [2]))))

noncomputable def impl_CrossingsOf_ctx : Ctx := ⟨tlook tys, olook [(38, F_impl_TreeOk), (34, F_impl_arcsOf), (42, F_impl_countPairs_impl_arc)], ioF, 0⟩

theorem impl_CrossingsOf_n1_l (x2639 : List Int) : Link impl_CrossingsOf_ctx LL (bodyOf Try.f23) impl_CrossingsOf_an (⟨mkE 9 0 [(0, .dat (.list (.int .i64)) x2639)], []⟩ : St) (impl_CrossingsOf_n1 x2639) (fun (t : Int) => (Exit.ret, (⟨mkE 9 0 [(2, .dat (.int .i64) t)], []⟩ : St))) := by
  refine Link.of fun K h => ?_
  simp only [impl_CrossingsOf_n1, wpO_bind, wpO_cond, wpO_map, wpO_some] at h
  exact Awp.of (by kernel_rfl) h

theorem impl_CrossingsOf_e (x2639 : List Int) {r : AV} {H' : Heap} (h : (Ans.mk _ (impl_CrossingsOf x2639) (fun (t : Int) => (.dat (.int .i64) t, []))).run = some (r, H')) : Awp impl_CrossingsOf_ctx LL (bodyOf Try.f23) impl_CrossingsOf_an (⟨mkE 9 0 [(0, .dat (.list (.int .i64)) x2639)], []⟩ : St) (Ret (tlook tys) Try.f23.results.toList r H') :=
  ret_of' (impl_CrossingsOf_n1_l x2639) (by unfold impl_CrossingsOf; kernel_rfl) (by
  intro t
  exact ret_mk [.dat (.int .i64) t] (by kernel_rfl) (by kernel_rfl) (by kernel_rfl) (by kernel_rfl)) h

def F_impl_CrossingsOf : Fun := fun avs H =>
  match avs, H with
  | [.dat (.list (.int .i64)) x2639], [] => ⟨_, impl_CrossingsOf x2639, fun (t : Int) => (.dat (.int .i64) t, [])⟩
  | _, _ => Ans.no

theorem impl_CrossingsOf_sound : Sound Try.prog 23 F_impl_CrossingsOf := by
  refine fn_sound' (C := impl_CrossingsOf_ctx) (c := bodyOf Try.f23) (cok_of tys_ok (List.forall_mem_cons.2 ⟨impl_TreeOk_sound, List.forall_mem_cons.2 ⟨impl_arcsOf_sound, List.forall_mem_cons.2 ⟨impl_countPairs_impl_arc_sound, by simp⟩⟩⟩) (List.forall_mem_cons.2 ⟨Try.call38, List.forall_mem_cons.2 ⟨Try.call34, List.forall_mem_cons.2 ⟨Try.call42, by simp⟩⟩⟩) (by kernel_rfl)) Try.func23 (by kernel_rfl) LL impl_CrossingsOf_an ?_
  intro avs H r H' h
  unfold F_impl_CrossingsOf at h
  split at h
  · refine Awp.cast ?_ ?_ ?_ (impl_CrossingsOf_e _ h) <;> kernel_rfl
  · simp [Ans.no, Ans.run] at h

/-! loop.example/headtrees/laws.FnExactCrossingsOf -/

def laws_FnExactCrossingsOf_an : Ann := (.seq (.leaf [0]) (.seq (.seq (.leaf [0, 8]) (.cond (.seq (.leaf [2]) (.leaf [2])) (.leaf [0]))) (.seq (.leaf [0, 3]) (.seq (.leaf [0, 3, 4]) (.seq (.leaf [0, 3, 4, 5]) (.seq (.seq (.leaf [0, 4, 18]) (.cond (.seq (.leaf [2]) (.leaf [2])) (.leaf [0, 4]))) (.seq (.seq (.leaf [23]) (.cond (.seq (.leaf [2]) (.leaf [2])) (.leaf []))) (.seq (.leaf [2]) (.leaf [2])))))))))

noncomputable def laws_FnExactCrossingsOf_ctx : Ctx := ⟨tlook tys, olook [(19, F_laws_toIntS), (22, F_spec_CrossingsOf), (23, F_impl_CrossingsOf), (21, F_laws_eqIntS)], ioF, 0⟩

theorem laws_FnExactCrossingsOf_n1_l (x2461 : List Int) : Link laws_FnExactCrossingsOf_ctx LL (bodyOf Try.f7) laws_FnExactCrossingsOf_an (⟨mkE 24 0 [(0, .dat (.list (.int .i64)) x2461)], []⟩ : St) (laws_FnExactCrossingsOf_n1 x2461) (fun (t : Bool) => (Exit.ret, (⟨mkE 24 0 [(2, .dat .bool t)], []⟩ : St))) := by
  refine Link.of fun K h => ?_
  simp only [laws_FnExactCrossingsOf_n1, wpO_bind, wpO_cond, wpO_map, wpO_some] at h
  exact Awp.of (by kernel_rfl) h

theorem laws_FnExactCrossingsOf_e (x2461 : List Int) {r : AV} {H' : Heap} (h : (Ans.mk _ (laws_FnExactCrossingsOf x2461) (fun (t : Bool) => (.dat .bool t, []))).run = some (r, H')) : Awp laws_FnExactCrossingsOf_ctx LL (bodyOf Try.f7) laws_FnExactCrossingsOf_an (⟨mkE 24 0 [(0, .dat (.list (.int .i64)) x2461)], []⟩ : St) (Ret (tlook tys) Try.f7.results.toList r H') :=
  ret_of' (laws_FnExactCrossingsOf_n1_l x2461) (by unfold laws_FnExactCrossingsOf; kernel_rfl) (by
  intro t
  exact ret_mk [.dat .bool t] (by kernel_rfl) (by kernel_rfl) (by kernel_rfl) (by kernel_rfl)) h

def F_laws_FnExactCrossingsOf : Fun := fun avs H =>
  match avs, H with
  | [.dat (.list (.int .i64)) x2461], [] => ⟨_, laws_FnExactCrossingsOf x2461, fun (t : Bool) => (.dat .bool t, [])⟩
  | _, _ => Ans.no

theorem laws_FnExactCrossingsOf_sound : Sound Try.prog 7 F_laws_FnExactCrossingsOf := by
  refine fn_sound' (C := laws_FnExactCrossingsOf_ctx) (c := bodyOf Try.f7) (cok_of tys_ok (List.forall_mem_cons.2 ⟨laws_toIntS_sound, List.forall_mem_cons.2 ⟨spec_CrossingsOf_sound, List.forall_mem_cons.2 ⟨impl_CrossingsOf_sound, List.forall_mem_cons.2 ⟨laws_eqIntS_sound, by simp⟩⟩⟩⟩) (List.forall_mem_cons.2 ⟨Try.call19, List.forall_mem_cons.2 ⟨Try.call22, List.forall_mem_cons.2 ⟨Try.call23, List.forall_mem_cons.2 ⟨Try.call21, by simp⟩⟩⟩⟩) (by kernel_rfl)) Try.func7 (by kernel_rfl) LL laws_FnExactCrossingsOf_an ?_
  intro avs H r H' h
  unfold F_laws_FnExactCrossingsOf at h
  split at h
  · refine Awp.cast ?_ ?_ ?_ (laws_FnExactCrossingsOf_e _ h) <;> kernel_rfl
  · simp [Ans.no, Ans.run] at h

/-! loop.example/headtrees/laws.FnExactCoveredOk -/

def laws_FnExactCoveredOk_an : Ann := (.seq (.leaf [0, 1]) (.seq (.seq (.leaf [0, 1, 10]) (.cond (.seq (.leaf [4]) (.leaf [4])) (.leaf [0, 1]))) (.seq (.leaf [0, 1, 5]) (.seq (.leaf [0, 1, 5, 6]) (.seq (.leaf [0, 5, 6, 7]) (.seq (.seq (.leaf [0, 6, 22]) (.cond (.seq (.leaf [4]) (.leaf [4])) (.leaf [0, 6]))) (.seq (.seq (.leaf [27]) (.cond (.seq (.leaf [4]) (.leaf [4])) (.leaf []))) (.seq (.leaf [4]) (.leaf [4])))))))))

noncomputable def laws_FnExactCoveredOk_ctx : Ctx := ⟨tlook tys, olook [(19, F_laws_toIntS), (15, F_spec_CoveredOk), (14, F_impl_CoveredOk), (21, F_laws_eqIntS)], ioF, 0⟩

theorem laws_FnExactCoveredOk_n1_l (x2824 : List Int) (x2825 : Int) : Link laws_FnExactCoveredOk_ctx LL (bodyOf Try.f8) laws_FnExactCoveredOk_an (⟨mkE 28 0 [(0, .dat (.list (.int .i64)) x2824), (1, .dat (.int .i64) x2825)], []⟩ : St) (laws_FnExactCoveredOk_n1 x2824 x2825) (fun (t : Bool) => (Exit.ret, (⟨mkE 28 0 [(4, .dat .bool t)], []⟩ : St))) := by
  refine Link.of fun K h => ?_
  simp only [laws_FnExactCoveredOk_n1, wpO_bind, wpO_cond, wpO_map, wpO_some] at h
  exact Awp.of (by kernel_rfl) h

theorem laws_FnExactCoveredOk_e (x2824 : List Int) (x2825 : Int) {r : AV} {H' : Heap} (h : (Ans.mk _ (laws_FnExactCoveredOk x2824 x2825) (fun (t : Bool) => (.dat .bool t, []))).run = some (r, H')) : Awp laws_FnExactCoveredOk_ctx LL (bodyOf Try.f8) laws_FnExactCoveredOk_an (⟨mkE 28 0 [(0, .dat (.list (.int .i64)) x2824), (1, .dat (.int .i64) x2825)], []⟩ : St) (Ret (tlook tys) Try.f8.results.toList r H') :=
  ret_of' (laws_FnExactCoveredOk_n1_l x2824 x2825) (by unfold laws_FnExactCoveredOk; kernel_rfl) (by
  intro t
  exact ret_mk [.dat .bool t] (by kernel_rfl) (by kernel_rfl) (by kernel_rfl) (by kernel_rfl)) h

def F_laws_FnExactCoveredOk : Fun := fun avs H =>
  match avs, H with
  | [.dat (.list (.int .i64)) x2824, .dat (.int .i64) x2825], [] => ⟨_, laws_FnExactCoveredOk x2824 x2825, fun (t : Bool) => (.dat .bool t, [])⟩
  | _, _ => Ans.no

theorem laws_FnExactCoveredOk_sound : Sound Try.prog 8 F_laws_FnExactCoveredOk := by
  refine fn_sound' (C := laws_FnExactCoveredOk_ctx) (c := bodyOf Try.f8) (cok_of tys_ok (List.forall_mem_cons.2 ⟨laws_toIntS_sound, List.forall_mem_cons.2 ⟨spec_CoveredOk_sound, List.forall_mem_cons.2 ⟨impl_CoveredOk_sound, List.forall_mem_cons.2 ⟨laws_eqIntS_sound, by simp⟩⟩⟩⟩) (List.forall_mem_cons.2 ⟨Try.call19, List.forall_mem_cons.2 ⟨Try.call15, List.forall_mem_cons.2 ⟨Try.call14, List.forall_mem_cons.2 ⟨Try.call21, by simp⟩⟩⟩⟩) (by kernel_rfl)) Try.func8 (by kernel_rfl) LL laws_FnExactCoveredOk_an ?_
  intro avs H r H' h
  unfold F_laws_FnExactCoveredOk at h
  split at h
  · refine Awp.cast ?_ ?_ ?_ (laws_FnExactCoveredOk_e _ _ h) <;> kernel_rfl
  · simp [Ans.no, Ans.run] at h

/-! loop.example/headtrees/spec.BackOf -/

def spec_BackOf_an : Ann := (.seq (.leaf [0]) (.seq (.leaf [0, 3]) (.seq (.leaf [0, 3, 4]) (.seq (.seq (.leaf [0, 3, 4, 5]) (.block (.loop (.seq (.seq (.leaf [0, 3, 4, 5, 16]) (.cond (.leaf [0, 3, 4, 5]) (.leaf [3]))) (.seq (.block (.seq (.leaf [0, 3, 4, 5, 23]) (.cond (.leaf [0, 3, 4, 5]) (.leaf [0, 3, 4, 5])))) (.leaf [0, 3, 4, 5])))))) (.seq (.leaf [2]) (.leaf [2]))))))

noncomputable def spec_BackOf_ctx : Ctx := ⟨tlook tys, olook [(16, F_spec_TreeOk)], ioF, 0⟩

theorem spec_BackOf_n1_l (x2888 : List Int) : Link spec_BackOf_ctx LL (Code.seq (Code.fst (bodyOf Try.f24)) (Code.seq (Code.fst (Code.snd (bodyOf Try.f24))) (Code.fst (Code.snd (Code.snd (bodyOf Try.f24)))))) (Ann.seq (Ann.fst spec_BackOf_an) (Ann.seq (Ann.fst (Ann.snd spec_BackOf_an)) (Ann.fst (Ann.snd (Ann.snd spec_BackOf_an))))) (⟨mkE 38 0 [(0, .dat (.list (.int .i64)) x2888)], []⟩ : St) (spec_BackOf_n1 x2888) (fun (t : Int) => (Exit.normal, (⟨mkE 38 0 [(0, .dat (.list (.int .i64)) x2888), (3, .slc 0), (4, .dat (.int .i64) t)], [some (.seq (.int .i64) ([] : List Int))]⟩ : St))) := by
  refine Link.of fun K h => ?_
  simp only [spec_BackOf_n1, wpO_bind, wpO_cond, wpO_map, wpO_some] at h
  exact Awp.of (by kernel_rfl) h

theorem spec_BackOf_n2_l (x2888 : List Int) (x2889 : Int) : Link spec_BackOf_ctx LL (Code.fst (Code.fst (Code.snd (Code.snd (Code.snd (bodyOf Try.f24)))))) (Ann.fst (Ann.fst (Ann.snd (Ann.snd (Ann.snd spec_BackOf_an))))) (⟨mkE 38 0 [(0, .dat (.list (.int .i64)) x2888), (3, .slc 0), (4, .dat (.int .i64) x2889)], [some (.seq (.int .i64) ([] : List Int))]⟩ : St) (spec_BackOf_n2 x2889) (fun (t : Int) => (Exit.normal, (⟨mkE 38 0 [(0, .dat (.list (.int .i64)) x2888), (3, .slc 0), (4, .dat (.int .i64) x2889), (5, .dat (.int .i64) t)], [some (.seq (.int .i64) ([] : List Int))]⟩ : St))) := by
  refine Link.of fun K h => ?_
  simp only [spec_BackOf_n2, wpO_bind, wpO_cond, wpO_map, wpO_some] at h
  exact Awp.of (by kernel_rfl) h

theorem spec_BackOf_n3_l (x2888 : List Int) (x2889 : Int) (x2927 : Int) (x2928 : List Int) : Link spec_BackOf_ctx LL (Code.fst (Code.fst (Code.snd (Code.fst (Code.snd (Code.snd (Code.snd (bodyOf Try.f24)))))))) (Ann.fst (Ann.fst (Ann.snd (Ann.fst (Ann.snd (Ann.snd (Ann.snd spec_BackOf_an))))))) (⟨mkE 38 0 [(0, .dat (.list (.int .i64)) x2888), (3, .slc 0), (4, .dat (.int .i64) x2889), (5, .dat (.int .i64) x2927)], [some (.seq (.int .i64) x2928)]⟩ : St) (spec_BackOf_n3 x2888 x2889 x2927 x2928) (Sum.elim (fun (t : Int × (List Int)) => (Exit.normal, (⟨mkE 38 0 [(0, .dat (.list (.int .i64)) x2888), (3, .slc 0), (4, .dat (.int .i64) x2889), (5, .dat (.int .i64) t.1)], [some (.seq (.int .i64) t.2)]⟩ : St))) (fun (t : (List Int)) => ((Exit.exit 0), (⟨mkE 38 0 [(3, .slc 0)], [some (.seq (.int .i64) t)]⟩ : St)))) := by
  refine Link.of fun K h => ?_
  simp only [spec_BackOf_n3, wpO_bind, wpO_cond, wpO_map, wpO_some] at h
  exact Awp.of (by kernel_rfl) h

theorem spec_BackOf_n4_l (x2888 : List Int) (x2889 : Int) (x2890 : Int) : Link spec_BackOf_ctx LL (Code.fst (Code.snd (Code.fst (Code.snd (Code.snd (Code.snd (bodyOf Try.f24))))))) (Ann.fst (Ann.snd (Ann.fst (Ann.snd (Ann.snd (Ann.snd spec_BackOf_an)))))) (⟨mkE 38 0 [(0, .dat (.list (.int .i64)) x2888), (3, .slc 0), (4, .dat (.int .i64) x2889), (5, .dat (.int .i64) x2890)], [some (.seq (.int .i64) ([] : List Int))]⟩ : St) (spec_BackOf_n4 x2888 x2889 x2890) (fun (t : (List Int)) => ((Exit.exit 0), (⟨mkE 38 0 [(3, .slc 0)], [some (.seq (.int .i64) t)]⟩ : St))) := by
  unfold spec_BackOf_n4
  exact Link.cast (by kernel_rfl) (by kernel_rfl) (link_loop (mk := fun (s : Int × (List Int)) => (⟨mkE 38 0 [(0, .dat (.list (.int .i64)) x2888), (3, .slc 0), (4, .dat (.int .i64) x2889), (5, .dat (.int .i64) s.1)], [some (.seq (.int .i64) s.2)]⟩ : St)) (fin := (fun (t : (List Int)) => ((Exit.exit 0), (⟨mkE 38 0 [(3, .slc 0)], [some (.seq (.int .i64) t)]⟩ : St)))) (by
  rintro t f K h
  · exact h) (fun s => link_map (spec_BackOf_n3_l x2888 x2889 s.1 s.2) (Sum.elim (fun (t : Int × (List Int)) => Sum.inl (t.1, t.2)) (fun (t : (List Int)) => Sum.inr t)) (by
  rintro (t | t)
  · kernel_rfl
  · kernel_rfl)) (x2890, ([] : List Int)))

theorem spec_BackOf_n5_l (x2888 : List Int) (x2889 : Int) (x2890 : Int) : Link spec_BackOf_ctx LL (Code.snd (Code.fst (Code.snd (Code.snd (Code.snd (bodyOf Try.f24)))))) (Ann.snd (Ann.fst (Ann.snd (Ann.snd (Ann.snd spec_BackOf_an))))) (⟨mkE 38 0 [(0, .dat (.list (.int .i64)) x2888), (3, .slc 0), (4, .dat (.int .i64) x2889), (5, .dat (.int .i64) x2890)], [some (.seq (.int .i64) ([] : List Int))]⟩ : St) (spec_BackOf_n5 x2888 x2889 x2890) (fun (t : (List Int)) => (Exit.normal, (⟨mkE 38 0 [(3, .slc 0)], [some (.seq (.int .i64) t)]⟩ : St))) := by
  unfold spec_BackOf_n5
  exact Link.cast (by kernel_rfl) (by kernel_rfl) (link_block (id := 0) (spec_BackOf_n4_l x2888 x2889 x2890) (fun (t : (List Int)) => t) (by
  rintro t K h
  · exact Eq.mp (by kernel_rfl) h))

theorem spec_BackOf_n6_l (x2888 : List Int) (x2889 : Int) : Link spec_BackOf_ctx LL (Code.fst (Code.snd (Code.snd (Code.snd (bodyOf Try.f24))))) (Ann.fst (Ann.snd (Ann.snd (Ann.snd spec_BackOf_an)))) (⟨mkE 38 0 [(0, .dat (.list (.int .i64)) x2888), (3, .slc 0), (4, .dat (.int .i64) x2889)], [some (.seq (.int .i64) ([] : List Int))]⟩ : St) (spec_BackOf_n6 x2888 x2889) (fun (t : (List Int)) => (Exit.normal, (⟨mkE 38 0 [(3, .slc 0)], [some (.seq (.int .i64) t)]⟩ : St))) := by
  unfold spec_BackOf_n6
  exact Link.cast (by kernel_rfl) (by kernel_rfl) (link_seq (b := (Code.snd (Code.fst (Code.snd (Code.snd (Code.snd (bodyOf Try.f24))))))) (y := (Ann.snd (Ann.fst (Ann.snd (Ann.snd (Ann.snd spec_BackOf_an)))))) (spec_BackOf_n2_l x2888 x2889) (fun (t : Int) => (spec_BackOf_n5_l x2888 x2889 t)))

theorem spec_BackOf_n7_l (x2928 : List Int) : Link spec_BackOf_ctx LL (Code.snd (Code.snd (Code.snd (Code.snd (bodyOf Try.f24))))) (Ann.snd (Ann.snd (Ann.snd (Ann.snd spec_BackOf_an)))) (⟨mkE 38 0 [(3, .slc 0)], [some (.seq (.int .i64) x2928)]⟩ : St) (spec_BackOf_n7 x2928) (fun (t : (List Int)) => (Exit.ret, (⟨mkE 38 0 [(2, .slc 0)], [some (.seq (.int .i64) t)]⟩ : St))) := by
  refine Link.of fun K h => ?_
  simp only [spec_BackOf_n7, wpO_bind, wpO_cond, wpO_map, wpO_some] at h
  exact Awp.of (by kernel_rfl) h

theorem spec_BackOf_n8_l (x2888 : List Int) (x2889 : Int) : Link spec_BackOf_ctx LL (Code.snd (Code.snd (Code.snd (bodyOf Try.f24)))) (Ann.snd (Ann.snd (Ann.snd spec_BackOf_an))) (⟨mkE 38 0 [(0, .dat (.list (.int .i64)) x2888), (3, .slc 0), (4, .dat (.int .i64) x2889)], [some (.seq (.int .i64) ([] : List Int))]⟩ : St) (spec_BackOf_n8 x2888 x2889) (fun (t : (List Int)) => (Exit.ret, (⟨mkE 38 0 [(2, .slc 0)], [some (.seq (.int .i64) t)]⟩ : St))) := by
  unfold spec_BackOf_n8
  exact Link.cast (by kernel_rfl) (by kernel_rfl) (link_seq (b := (Code.snd (Code.snd (Code.snd (Code.snd (bodyOf Try.f24)))))) (y := (Ann.snd (Ann.snd (Ann.snd (Ann.snd spec_BackOf_an))))) (spec_BackOf_n6_l x2888 x2889) (fun (t : (List Int)) => (spec_BackOf_n7_l t)))

theorem spec_BackOf_n9_l (x2888 : List Int) : Link spec_BackOf_ctx LL (bodyOf Try.f24) spec_BackOf_an (⟨mkE 38 0 [(0, .dat (.list (.int .i64)) x2888)], []⟩ : St) (spec_BackOf_n9 x2888) (fun (t : (List Int)) => (Exit.ret, (⟨mkE 38 0 [(2, .slc 0)], [some (.seq (.int .i64) t)]⟩ : St))) := by
  unfold spec_BackOf_n9
  exact Link.cast (by kernel_rfl) (by kernel_rfl) (link_group (c := (Code.fst (Code.snd (Code.snd (bodyOf Try.f24))))) (a := (Ann.fst (Ann.snd (Ann.snd spec_BackOf_an)))) [(Code.fst (bodyOf Try.f24)), (Code.fst (Code.snd (bodyOf Try.f24)))] [(Ann.fst spec_BackOf_an), (Ann.fst (Ann.snd spec_BackOf_an))] rfl (link_seq (b := (Code.snd (Code.snd (Code.snd (bodyOf Try.f24))))) (y := (Ann.snd (Ann.snd (Ann.snd spec_BackOf_an)))) (spec_BackOf_n1_l x2888) (fun (t : Int) => (spec_BackOf_n8_l x2888 t))))

theorem spec_BackOf_e (x2888 : List Int) {r : AV} {H' : Heap} (h : (Ans.mk _ (spec_BackOf x2888) (fun (t : (List Int)) => (.slc 0, [some (.seq (.int .i64) t)]))).run = some (r, H')) : Awp spec_BackOf_ctx LL (bodyOf Try.f24) spec_BackOf_an (⟨mkE 38 0 [(0, .dat (.list (.int .i64)) x2888)], []⟩ : St) (Ret (tlook tys) Try.f24.results.toList r H') :=
  ret_of' (spec_BackOf_n9_l x2888) (by unfold spec_BackOf; kernel_rfl) (by
  intro t
  exact ret_mk [.slc 0] (by kernel_rfl) (by kernel_rfl) (by kernel_rfl) (by kernel_rfl)) h

def F_spec_BackOf : Fun := fun avs H =>
  match avs, H with
  | [.dat (.list (.int .i64)) x2888], [] => ⟨_, spec_BackOf x2888, fun (t : (List Int)) => (.slc 0, [some (.seq (.int .i64) t)])⟩
  | _, _ => Ans.no

theorem spec_BackOf_sound : Sound Try.prog 24 F_spec_BackOf := by
  refine fn_sound' (C := spec_BackOf_ctx) (c := bodyOf Try.f24) (cok_of tys_ok (List.forall_mem_cons.2 ⟨spec_TreeOk_sound, by simp⟩) (List.forall_mem_cons.2 ⟨Try.call16, by simp⟩) (by kernel_rfl)) Try.func24 (by kernel_rfl) LL spec_BackOf_an ?_
  intro avs H r H' h
  unfold F_spec_BackOf at h
  split at h
  · refine Awp.cast ?_ ?_ ?_ (spec_BackOf_e _ h) <;> kernel_rfl
  · simp [Ans.no, Ans.run] at h

/-! loop.example/headtrees/impl.lastToFirst -/

def impl_lastToFirst_an : Ann := (.seq (.leaf [0]) (.seq (.leaf [0, 3]) (.seq (.seq (.leaf [0, 3, 8, 9]) (.block (.loop (.seq (.leaf [0, 3, 8, 9, 10]) (.seq (.cond (.leaf [0, 3, 8, 9]) (.leaf [3])) (.seq (.block (.seq (.leaf [0, 3, 4, 8, 9]) (.leaf [0, 3, 8, 9]))) (.leaf [0, 3, 8, 9]))))))) (.seq (.leaf [2]) (.leaf [2])))))

noncomputable def impl_lastToFirst_ctx : Ctx := ⟨tlook tys, olook [], ioF, 0⟩

theorem impl_lastToFirst_n1_l (x2982 : Int) : Link impl_lastToFirst_ctx LL (Code.seq (Code.fst (bodyOf Try.f44)) (Code.fst (Code.snd (bodyOf Try.f44)))) (Ann.seq (Ann.fst impl_lastToFirst_an) (Ann.fst (Ann.snd impl_lastToFirst_an))) (⟨mkE 20 0 [(0, .dat (.int .i64) x2982)], []⟩ : St) (impl_lastToFirst_n1 x2982) (fun (t : (List Int)) => (Exit.normal, (⟨mkE 20 0 [(0, .dat (.int .i64) x2982), (3, .slc 0)], [some (.seq (.int .i64) t)]⟩ : St))) := by
  refine Link.of fun K h => ?_
  simp only [impl_lastToFirst_n1, wpO_bind, wpO_cond, wpO_map, wpO_some] at h
  exact Awp.of (by kernel_rfl) h

theorem impl_lastToFirst_n2_l (x2982 : Int) (x2984 : List Int) : Link impl_lastToFirst_ctx LL (Code.fst (Code.fst (Code.snd (Code.snd (bodyOf Try.f44))))) (Ann.fst (Ann.fst (Ann.snd (Ann.snd impl_lastToFirst_an)))) (⟨mkE 20 0 [(0, .dat (.int .i64) x2982), (3, .slc 0)], [some (.seq (.int .i64) x2984)]⟩ : St) (impl_lastToFirst_n2 x2984) (fun (t : Int) => (Exit.normal, (⟨mkE 20 0 [(0, .dat (.int .i64) x2982), (3, .slc 0), (8, .dat (.int .i64) t), (9, .dat (.int .i64) 0)], [some (.seq (.int .i64) x2984)]⟩ : St))) := by
  refine Link.of fun K h => ?_
  simp only [impl_lastToFirst_n2, wpO_bind, wpO_cond, wpO_map, wpO_some] at h
  exact Awp.of (by kernel_rfl) h

theorem impl_lastToFirst_n3_l (x2982 : Int) (x2985 : Int) (x2997 : Int) (x2998 : List Int) : Link impl_lastToFirst_ctx LL (Code.fst (Code.fst (Code.snd (Code.fst (Code.snd (Code.snd (bodyOf Try.f44))))))) (Ann.fst (Ann.fst (Ann.snd (Ann.fst (Ann.snd (Ann.snd impl_lastToFirst_an)))))) (⟨mkE 20 0 [(0, .dat (.int .i64) x2982), (3, .slc 0), (8, .dat (.int .i64) x2985), (9, .dat (.int .i64) x2997)], [some (.seq (.int .i64) x2998)]⟩ : St) (impl_lastToFirst_n3 x2982 x2985 x2997 x2998) (Sum.elim (fun (t : Int × (List Int)) => (Exit.normal, (⟨mkE 20 0 [(0, .dat (.int .i64) x2982), (3, .slc 0), (8, .dat (.int .i64) x2985), (9, .dat (.int .i64) t.1)], [some (.seq (.int .i64) t.2)]⟩ : St))) (fun (t : (List Int)) => ((Exit.exit 0), (⟨mkE 20 0 [(3, .slc 0)], [some (.seq (.int .i64) t)]⟩ : St)))) := by
  refine Link.of fun K h => ?_
  simp only [impl_lastToFirst_n3, wpO_bind, wpO_cond, wpO_map, wpO_some] at h
  exact Awp.of (by kernel_rfl) h

theorem impl_lastToFirst_n4_l (x2982 : Int) (x2985 : Int) (x2984 : List Int) : Link impl_lastToFirst_ctx LL (Code.fst (Code.snd (Code.fst (Code.snd (Code.snd (bodyOf Try.f44)))))) (Ann.fst (Ann.snd (Ann.fst (Ann.snd (Ann.snd impl_lastToFirst_an))))) (⟨mkE 20 0 [(0, .dat (.int .i64) x2982), (3, .slc 0), (8, .dat (.int .i64) x2985), (9, .dat (.int .i64) 0)], [some (.seq (.int .i64) x2984)]⟩ : St) (impl_lastToFirst_n4 x2982 x2985 x2984) (fun (t : (List Int)) => ((Exit.exit 0), (⟨mkE 20 0 [(3, .slc 0)], [some (.seq (.int .i64) t)]⟩ : St))) := by
  unfold impl_lastToFirst_n4
  exact Link.cast (by kernel_rfl) (by kernel_rfl) (link_loop (mk := fun (s : Int × (List Int)) => (⟨mkE 20 0 [(0, .dat (.int .i64) x2982), (3, .slc 0), (8, .dat (.int .i64) x2985), (9, .dat (.int .i64) s.1)], [some (.seq (.int .i64) s.2)]⟩ : St)) (fin := (fun (t : (List Int)) => ((Exit.exit 0), (⟨mkE 20 0 [(3, .slc 0)], [some (.seq (.int .i64) t)]⟩ : St)))) (by
  rintro t f K h
  · exact h) (fun s => link_map (impl_lastToFirst_n3_l x2982 x2985 s.1 s.2) (Sum.elim (fun (t : Int × (List Int)) => Sum.inl (t.1, t.2)) (fun (t : (List Int)) => Sum.inr t)) (by
  rintro (t | t)
  · kernel_rfl
  · kernel_rfl)) (0, x2984))

theorem impl_lastToFirst_n5_l (x2982 : Int) (x2985 : Int) (x2984 : List Int) : Link impl_lastToFirst_ctx LL (Code.snd (Code.fst (Code.snd (Code.snd (bodyOf Try.f44))))) (Ann.snd (Ann.fst (Ann.snd (Ann.snd impl_lastToFirst_an)))) (⟨mkE 20 0 [(0, .dat (.int .i64) x2982), (3, .slc 0), (8, .dat (.int .i64) x2985), (9, .dat (.int .i64) 0)], [some (.seq (.int .i64) x2984)]⟩ : St) (impl_lastToFirst_n5 x2982 x2985 x2984) (fun (t : (List Int)) => (Exit.normal, (⟨mkE 20 0 [(3, .slc 0)], [some (.seq (.int .i64) t)]⟩ : St))) := by
  unfold impl_lastToFirst_n5
  exact Link.cast (by kernel_rfl) (by kernel_rfl) (link_block (id := 0) (impl_lastToFirst_n4_l x2982 x2985 x2984) (fun (t : (List Int)) => t) (by
  rintro t K h
  · exact Eq.mp (by kernel_rfl) h))

theorem impl_lastToFirst_n6_l (x2982 : Int) (x2984 : List Int) : Link impl_lastToFirst_ctx LL (Code.fst (Code.snd (Code.snd (bodyOf Try.f44)))) (Ann.fst (Ann.snd (Ann.snd impl_lastToFirst_an))) (⟨mkE 20 0 [(0, .dat (.int .i64) x2982), (3, .slc 0)], [some (.seq (.int .i64) x2984)]⟩ : St) (impl_lastToFirst_n6 x2982 x2984) (fun (t : (List Int)) => (Exit.normal, (⟨mkE 20 0 [(3, .slc 0)], [some (.seq (.int .i64) t)]⟩ : St))) := by
  unfold impl_lastToFirst_n6
  exact Link.cast (by kernel_rfl) (by kernel_rfl) (link_seq (b := (Code.snd (Code.fst (Code.snd (Code.snd (bodyOf Try.f44)))))) (y := (Ann.snd (Ann.fst (Ann.snd (Ann.snd impl_lastToFirst_an))))) (impl_lastToFirst_n2_l x2982 x2984) (fun (t : Int) => (impl_lastToFirst_n5_l x2982 t x2984)))

theorem impl_lastToFirst_n7_l (x2998 : List Int) : Link impl_lastToFirst_ctx LL (Code.snd (Code.snd (Code.snd (bodyOf Try.f44)))) (Ann.snd (Ann.snd (Ann.snd impl_lastToFirst_an))) (⟨mkE 20 0 [(3, .slc 0)], [some (.seq (.int .i64) x2998)]⟩ : St) (impl_lastToFirst_n7 x2998) (fun (t : (List Int)) => (Exit.ret, (⟨mkE 20 0 [(2, .slc 0)], [some (.seq (.int .i64) t)]⟩ : St))) := by
  refine Link.of fun K h => ?_
  simp only [impl_lastToFirst_n7, wpO_bind, wpO_cond, wpO_map, wpO_some] at h
  exact Awp.of (by kernel_rfl) h

theorem impl_lastToFirst_n8_l (x2982 : Int) (x2984 : List Int) : Link impl_lastToFirst_ctx LL (Code.snd (Code.snd (bodyOf Try.f44))) (Ann.snd (Ann.snd impl_lastToFirst_an)) (⟨mkE 20 0 [(0, .dat (.int .i64) x2982), (3, .slc 0)], [some (.seq (.int .i64) x2984)]⟩ : St) (impl_lastToFirst_n8 x2982 x2984) (fun (t : (List Int)) => (Exit.ret, (⟨mkE 20 0 [(2, .slc 0)], [some (.seq (.int .i64) t)]⟩ : St))) := by
  unfold impl_lastToFirst_n8
  exact Link.cast (by kernel_rfl) (by kernel_rfl) (link_seq (b := (Code.snd (Code.snd (Code.snd (bodyOf Try.f44))))) (y := (Ann.snd (Ann.snd (Ann.snd impl_lastToFirst_an)))) (impl_lastToFirst_n6_l x2982 x2984) (fun (t : (List Int)) => (impl_lastToFirst_n7_l t)))

theorem impl_lastToFirst_n9_l (x2982 : Int) : Link impl_lastToFirst_ctx LL (bodyOf Try.f44) impl_lastToFirst_an (⟨mkE 20 0 [(0, .dat (.int .i64) x2982)], []⟩ : St) (impl_lastToFirst_n9 x2982) (fun (t : (List Int)) => (Exit.ret, (⟨mkE 20 0 [(2, .slc 0)], [some (.seq (.int .i64) t)]⟩ : St))) := by
  unfold impl_lastToFirst_n9
  exact Link.cast (by kernel_rfl) (by kernel_rfl) (link_group (c := (Code.fst (Code.snd (bodyOf Try.f44)))) (a := (Ann.fst (Ann.snd impl_lastToFirst_an))) [(Code.fst (bodyOf Try.f44))] [(Ann.fst impl_lastToFirst_an)] rfl (link_seq (b := (Code.snd (Code.snd (bodyOf Try.f44)))) (y := (Ann.snd (Ann.snd impl_lastToFirst_an))) (impl_lastToFirst_n1_l x2982) (fun (t : (List Int)) => (impl_lastToFirst_n8_l x2982 t))))

theorem impl_lastToFirst_e (x2982 : Int) {r : AV} {H' : Heap} (h : (Ans.mk _ (impl_lastToFirst x2982) (fun (t : (List Int)) => (.slc 0, [some (.seq (.int .i64) t)]))).run = some (r, H')) : Awp impl_lastToFirst_ctx LL (bodyOf Try.f44) impl_lastToFirst_an (⟨mkE 20 0 [(0, .dat (.int .i64) x2982)], []⟩ : St) (Ret (tlook tys) Try.f44.results.toList r H') :=
  ret_of' (impl_lastToFirst_n9_l x2982) (by unfold impl_lastToFirst; kernel_rfl) (by
  intro t
  exact ret_mk [.slc 0] (by kernel_rfl) (by kernel_rfl) (by kernel_rfl) (by kernel_rfl)) h

def F_impl_lastToFirst : Fun := fun avs H =>
  match avs, H with
  | [.dat (.int .i64) x2982], [] => ⟨_, impl_lastToFirst x2982, fun (t : (List Int)) => (.slc 0, [some (.seq (.int .i64) t)])⟩
  | _, _ => Ans.no

theorem impl_lastToFirst_sound : Sound Try.prog 44 F_impl_lastToFirst := by
  refine fn_sound' (C := impl_lastToFirst_ctx) (c := bodyOf Try.f44) (cok_of tys_ok (by simp) (by simp) (by kernel_rfl)) Try.func44 (by kernel_rfl) LL impl_lastToFirst_an ?_
  intro avs H r H' h
  unfold F_impl_lastToFirst at h
  split at h
  · refine Awp.cast ?_ ?_ ?_ (impl_lastToFirst_e _ h) <;> kernel_rfl
  · simp [Ans.no, Ans.run] at h

/-! loop.example/headtrees/impl.OrderOk -/

def impl_OrderOk_an : Ann := (.seq (.leaf [0, 1]) (.seq (.seq (.leaf [0, 1, 19]) (.cond (.seq (.leaf [4]) (.leaf [4])) (.leaf [0, 1]))) (.seq (.leaf [0, 1, 5]) (.seq (.seq (.leaf [1, 5, 20, 21, 22]) (.block (.loop (.seq (.leaf [1, 5, 20, 21, 22, 23]) (.seq (.cond (.leaf [1, 5, 20, 21, 22]) (.leaf [])) (.seq (.block (.seq (.leaf [1, 5, 7, 20, 21, 22]) (.seq (.seq (.leaf [1, 5, 7, 20, 21, 22, 37]) (.cond (.seq (.leaf [4]) (.leaf [4])) (.leaf [1, 5, 7, 20, 21, 22]))) (.leaf [1, 5, 20, 21, 22])))) (.leaf [1, 5, 20, 21, 22]))))))) (.seq (.leaf [4]) (.leaf [4]))))))

noncomputable def impl_OrderOk_ctx : Ctx := ⟨tlook tys, olook [], ioF, 0⟩

theorem impl_OrderOk_n1_l (x3016 : List Int) (x3017 : Int) : Link impl_OrderOk_ctx LL (Code.seq (Code.fst (bodyOf Try.f52)) (Code.seq (Code.fst (Code.snd (bodyOf Try.f52))) (Code.fst (Code.snd (Code.snd (bodyOf Try.f52)))))) (Ann.seq (Ann.fst impl_OrderOk_an) (Ann.seq (Ann.fst (Ann.snd impl_OrderOk_an)) (Ann.fst (Ann.snd (Ann.snd impl_OrderOk_an))))) (⟨mkE 41 0 [(0, .dat (.list (.int .i64)) x3016), (1, .dat (.int .i64) x3017)], []⟩ : St) (impl_OrderOk_n1 x3016 x3017) (Sum.elim (fun (t : Unit) => (Exit.normal, (⟨mkE 41 0 [(0, .dat (.list (.int .i64)) x3016), (1, .dat (.int .i64) x3017), (5, .ptr 0 0)], [some (.seq .bool (List.replicate 9 false))]⟩ : St))) (fun (t : Bool) => (Exit.ret, (⟨mkE 41 0 [(4, .dat .bool t)], []⟩ : St)))) := by
  refine Link.of fun K h => ?_
  simp only [impl_OrderOk_n1, wpO_bind, wpO_cond, wpO_map, wpO_some] at h
  exact Awp.of (by kernel_rfl) h

theorem impl_OrderOk_n2_l (x3016 : List Int) (x3017 : Int) : Link impl_OrderOk_ctx LL (Code.fst (Code.fst (Code.snd (Code.snd (Code.snd (bodyOf Try.f52)))))) (Ann.fst (Ann.fst (Ann.snd (Ann.snd (Ann.snd impl_OrderOk_an))))) (⟨mkE 41 0 [(0, .dat (.list (.int .i64)) x3016), (1, .dat (.int .i64) x3017), (5, .ptr 0 0)], [some (.seq .bool (List.replicate 9 false))]⟩ : St) (impl_OrderOk_n2 x3016) (fun (t : Int) => (Exit.normal, (⟨mkE 41 0 [(1, .dat (.int .i64) x3017), (5, .ptr 0 0), (20, .dat (.list (.int .i64)) x3016), (21, .dat (.int .i64) t), (22, .dat (.int .i64) 0)], [some (.seq .bool (List.replicate 9 false))]⟩ : St))) := by
  refine Link.of fun K h => ?_
  simp only [impl_OrderOk_n2, wpO_bind, wpO_cond, wpO_map, wpO_some] at h
  exact Awp.of (by kernel_rfl) h

theorem impl_OrderOk_n3_l (x3017 : Int) (x3016 : List Int) (x3027 : Int) (x3051 : Int) (x3052 : List Bool) : Link impl_OrderOk_ctx LL (Code.fst (Code.fst (Code.snd (Code.fst (Code.snd (Code.snd (Code.snd (bodyOf Try.f52)))))))) (Ann.fst (Ann.fst (Ann.snd (Ann.fst (Ann.snd (Ann.snd (Ann.snd impl_OrderOk_an))))))) (⟨mkE 41 0 [(1, .dat (.int .i64) x3017), (5, .ptr 0 0), (20, .dat (.list (.int .i64)) x3016), (21, .dat (.int .i64) x3027), (22, .dat (.int .i64) x3051)], [some (.seq .bool x3052)]⟩ : St) (impl_OrderOk_n3 x3017 x3016 x3027 x3051 x3052) (Sum.elim (fun (t : Int × (List Bool)) => (Exit.normal, (⟨mkE 41 0 [(1, .dat (.int .i64) x3017), (5, .ptr 0 0), (20, .dat (.list (.int .i64)) x3016), (21, .dat (.int .i64) x3027), (22, .dat (.int .i64) t.1)], [some (.seq .bool t.2)]⟩ : St))) (Sum.elim (fun (t : Bool) => (Exit.ret, (⟨mkE 41 0 [(4, .dat .bool t)], []⟩ : St))) (fun (t : Unit) => ((Exit.exit 0), (⟨mkE 41 0 [], []⟩ : St))))) := by
  refine Link.of fun K h => ?_
  simp only [impl_OrderOk_n3, wpO_bind, wpO_cond, wpO_map, wpO_some] at h
  exact Awp.of (by kernel_rfl) h

end Go.Rv
