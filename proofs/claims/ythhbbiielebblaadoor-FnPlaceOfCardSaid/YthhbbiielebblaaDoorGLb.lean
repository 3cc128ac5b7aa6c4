/-
  The checked code answers as the plain functions do; written by program. Conditions: none.
-/
import Derived.Test.YthhbbiielebblaaDoorGLa
set_option linter.unusedVariables false
set_option linter.unusedSimpArgs false
set_option maxRecDepth 100000
namespace Go.Rv
open Go.Proofs
theorem impl_oneRoot_n7_l (x1699 : Int) : Link impl_oneRoot_ctx LL (Code.snd (Code.snd (Code.snd (bodyOf Tryd.f43)))) (Ann.snd (Ann.snd (Ann.snd impl_oneRoot_an))) (⟨mkE 27 0 [(3, .dat (.int .i64) x1699)], []⟩ : St) (impl_oneRoot_n7 x1699) (fun (t : Bool) => (Exit.ret, (⟨mkE 27 0 [(2, .dat .bool t)], []⟩ : St))) := by
  refine Link.of fun K h => ?_
  simp only [impl_oneRoot_n7, wpO_bind, wpO_cond, wpO_map, wpO_some] at h
  exact Awp.of (by kernel_rfl) h

theorem impl_oneRoot_n8_l (x1677 : List Int) : Link impl_oneRoot_ctx LL (Code.snd (Code.snd (bodyOf Tryd.f43))) (Ann.snd (Ann.snd impl_oneRoot_an)) (⟨mkE 27 0 [(0, .dat (.list (.int .i64)) x1677), (3, .dat (.int .i64) 0)], []⟩ : St) (impl_oneRoot_n8 x1677) (fun (t : Bool) => (Exit.ret, (⟨mkE 27 0 [(2, .dat .bool t)], []⟩ : St))) := by
  unfold impl_oneRoot_n8
  exact Link.cast (by kernel_rfl) (by kernel_rfl) (link_seq2 (b := (Code.snd (Code.snd (Code.snd (bodyOf Tryd.f43))))) (y := (Ann.snd (Ann.snd (Ann.snd impl_oneRoot_an)))) (impl_oneRoot_n6_l x1677) (fun (t : Int) => (impl_oneRoot_n7_l t)) (fun (t : Bool) => t) (by
  rintro t
  · kernel_rfl) (by
  rintro t f K h
  · exact h))

theorem impl_oneRoot_n9_l (x1677 : List Int) : Link impl_oneRoot_ctx LL (bodyOf Tryd.f43) impl_oneRoot_an (⟨mkE 27 0 [(0, .dat (.list (.int .i64)) x1677)], []⟩ : St) (impl_oneRoot_n9 x1677) (fun (t : Bool) => (Exit.ret, (⟨mkE 27 0 [(2, .dat .bool t)], []⟩ : St))) := by
  unfold impl_oneRoot_n9
  exact Link.cast (by kernel_rfl) (by kernel_rfl) (link_group (c := (Code.fst (Code.snd (bodyOf Tryd.f43)))) (a := (Ann.fst (Ann.snd impl_oneRoot_an))) [(Code.fst (bodyOf Tryd.f43))] [(Ann.fst impl_oneRoot_an)] rfl (link_seq (b := (Code.snd (Code.snd (bodyOf Tryd.f43)))) (y := (Ann.snd (Ann.snd impl_oneRoot_an))) (impl_oneRoot_n1_l x1677) (fun (t : Unit) => (impl_oneRoot_n8_l x1677))))

theorem impl_oneRoot_e (x1677 : List Int) {r : AV} {H' : Heap} (h : (Ans.mk _ (impl_oneRoot x1677) (fun (t : Bool) => (.dat .bool t, []))).run = some (r, H')) : Awp impl_oneRoot_ctx LL (bodyOf Tryd.f43) impl_oneRoot_an (⟨mkE 27 0 [(0, .dat (.list (.int .i64)) x1677)], []⟩ : St) (Ret (tlook tys) Tryd.f43.results.toList r H') :=
  ret_of' (impl_oneRoot_n9_l x1677) (by unfold impl_oneRoot; kernel_rfl) (by
  intro t
  exact ret_mk [.dat .bool t] (by kernel_rfl) (by kernel_rfl) (by kernel_rfl) (by kernel_rfl)) h

def F_impl_oneRoot : Fun := fun avs H =>
  match avs, H with
  | [.dat (.list (.int .i64)) x1677], [] => ⟨_, impl_oneRoot x1677, fun (t : Bool) => (.dat .bool t, [])⟩
  | _, _ => Ans.no

theorem impl_oneRoot_sound : Sound Tryd.prog 43 F_impl_oneRoot := by
  refine fn_sound' (C := impl_oneRoot_ctx) (c := bodyOf Tryd.f43) (cok_of tys_ok (by simp) (by simp) (by kernel_rfl)) Tryd.func43 (by kernel_rfl) LL impl_oneRoot_an ?_
  intro avs H r H' h
  unfold F_impl_oneRoot at h
  split at h
  · refine Awp.cast ?_ ?_ ?_ (impl_oneRoot_e _ h) <;> kernel_rfl
  · simp [Ans.no, Ans.run] at h

/-! (*loop.example/headtrees/impl.walker).up -/

def impl_walker_up_an : Ann := (.seq (.leaf [0]) (.seq (.draw [] [0, 1, 2, 3, 4, 5, 6, 7, 8, 9, 10, 11] [] [0, 3]) (.seq (.seq (.leaf [0, 3, 16]) (.cond (.seq (.leaf [2]) (.leaf [2])) (.leaf [0, 3]))) (.seq (.leaf [0]) (.seq (.leaf []) (.seq (.leaf [2]) (.leaf [2])))))))

noncomputable def impl_walker_up_ctx : Ctx := ⟨tlook tys, olook [], ioF, 1⟩

theorem impl_walker_up_n1_l (x1733 : List Int) (x1734 : Int) (x1735 : Int) : Link impl_walker_up_ctx LL (bodyOf Tryd.f31) impl_walker_up_an (⟨mkE 28 0 [(0, .ptr 0 0)], [some (.box [.dat (.list (.int .i64)) x1733, .dat (.int .i64) x1734, .dat (.int .i64) x1735])]⟩ : St) (impl_walker_up_n1 x1733 x1734 x1735) (fun (t : Bool × Int × Int) => (Exit.ret, (⟨mkE 28 0 [(2, .dat .bool t.1)], [some (.box [.dat (.list (.int .i64)) x1733, .dat (.int .i64) t.2.1, .dat (.int .i64) t.2.2])]⟩ : St))) := by
  refine Link.of fun K h => ?_
  simp only [impl_walker_up_n1, wpO_bind, wpO_cond, wpO_map, wpO_some] at h
  exact Awp.of (by kernel_rfl) h

theorem impl_walker_up_e (x1733 : List Int) (x1734 : Int) (x1735 : Int) {r : AV} {H' : Heap} (h : (Ans.mk _ (impl_walker_up x1733 x1734 x1735) (fun (t : Bool × Int × Int) => (.dat .bool t.1, [some (.box [.dat (.list (.int .i64)) x1733, .dat (.int .i64) t.2.1, .dat (.int .i64) t.2.2])]))).run = some (r, H')) : Awp impl_walker_up_ctx LL (bodyOf Tryd.f31) impl_walker_up_an (⟨mkE 28 0 [(0, .ptr 0 0)], [some (.box [.dat (.list (.int .i64)) x1733, .dat (.int .i64) x1734, .dat (.int .i64) x1735])]⟩ : St) (Ret (tlook tys) Tryd.f31.results.toList r H') :=
  ret_of' (impl_walker_up_n1_l x1733 x1734 x1735) (by unfold impl_walker_up; kernel_rfl) (by
  intro t
  exact ret_mk [.dat .bool t.1] (by kernel_rfl) (by kernel_rfl) (by kernel_rfl) (by kernel_rfl)) h

def F_impl_walker_up : Fun := fun avs H =>
  match avs, H with
  | [.ptr 0 0], [some (.box [.dat (.list (.int .i64)) x1733, .dat (.int .i64) x1734, .dat (.int .i64) x1735])] => ⟨_, impl_walker_up x1733 x1734 x1735, fun (t : Bool × Int × Int) => (.dat .bool t.1, [some (.box [.dat (.list (.int .i64)) x1733, .dat (.int .i64) t.2.1, .dat (.int .i64) t.2.2])])⟩
  | _, _ => Ans.no

theorem impl_walker_up_sound : Sound Tryd.prog 31 F_impl_walker_up := by
  refine fn_sound' (C := impl_walker_up_ctx) (c := bodyOf Tryd.f31) (cok_of tys_ok (by simp) (by simp) (by kernel_rfl)) Tryd.func31 (by kernel_rfl) LL impl_walker_up_an ?_
  intro avs H r H' h
  unfold F_impl_walker_up at h
  split at h
  · refine Awp.cast ?_ ?_ ?_ (impl_walker_up_e _ _ _ h) <;> kernel_rfl
  · simp [Ans.no, Ans.run] at h

/-! loop.example/headtrees/impl.stepsToRoot -/

def impl_stepsToRoot_an : Ann := (.seq (.leaf [0, 1]) (.seq (.leaf [0, 6]) (.seq (.block (.loop (.seq (.seq (.leaf [0, 6, 10]) (.cond (.leaf [0, 6]) (.leaf [6]))) (.block (.seq (.leaf [0, 6, 15]) (.cond (.seq (.leaf [4, 5]) (.leaf [4, 5])) (.leaf [0, 6]))))))) (.seq (.leaf [4, 5]) (.leaf [4, 5])))))

noncomputable def impl_stepsToRoot_ctx : Ctx := ⟨tlook tys, olook [(31, F_impl_walker_up)], ioF, 0⟩

theorem impl_stepsToRoot_n1_l (x1731 : List Int) (x1732 : Int) : Link impl_stepsToRoot_ctx LL (Code.seq (Code.fst (bodyOf Tryd.f44)) (Code.fst (Code.snd (bodyOf Tryd.f44)))) (Ann.seq (Ann.fst impl_stepsToRoot_an) (Ann.fst (Ann.snd impl_stepsToRoot_an))) (⟨mkE 18 0 [(0, .dat (.list (.int .i64)) x1731), (1, .dat (.int .i64) x1732)], []⟩ : St) (impl_stepsToRoot_n1) (fun (t : Unit) => (Exit.normal, (⟨mkE 18 0 [(0, .dat (.list (.int .i64)) x1731), (6, .ptr 0 0)], [some (.box [.dat (.list (.int .i64)) x1731, .dat (.int .i64) x1732, .dat (.int .i64) 0])]⟩ : St))) := by
  refine Link.of fun K h => ?_
  simp only [impl_stepsToRoot_n1, wpO_bind, wpO_cond, wpO_map, wpO_some] at h
  exact Awp.of (by kernel_rfl) h

theorem impl_stepsToRoot_n2_l (x1731 : List Int) (x1769 : Int) (x1770 : Int) : Link impl_stepsToRoot_ctx LL (Code.fst (Code.fst (Code.fst (Code.snd (Code.snd (bodyOf Tryd.f44)))))) (Ann.fst (Ann.fst (Ann.fst (Ann.snd (Ann.snd impl_stepsToRoot_an))))) (⟨mkE 18 0 [(0, .dat (.list (.int .i64)) x1731), (6, .ptr 0 0)], [some (.box [.dat (.list (.int .i64)) x1731, .dat (.int .i64) x1769, .dat (.int .i64) x1770])]⟩ : St) (impl_stepsToRoot_n2 x1731 x1769 x1770) (Sum.elim (fun (t : Int × Int) => (Exit.normal, (⟨mkE 18 0 [(0, .dat (.list (.int .i64)) x1731), (6, .ptr 0 0)], [some (.box [.dat (.list (.int .i64)) x1731, .dat (.int .i64) t.1, .dat (.int .i64) t.2])]⟩ : St))) (Sum.elim (fun (t : Int × Bool) => (Exit.ret, (⟨mkE 18 0 [(4, .dat (.int .i64) t.1), (5, .dat .bool t.2)], []⟩ : St))) (fun (t : Int × Int) => ((Exit.exit 0), (⟨mkE 18 0 [(6, .ptr 0 0)], [some (.box [.dat (.list (.int .i64)) x1731, .dat (.int .i64) t.1, .dat (.int .i64) t.2])]⟩ : St))))) := by
  refine Link.of fun K h => ?_
  simp only [impl_stepsToRoot_n2, wpO_bind, wpO_cond, wpO_map, wpO_some] at h
  exact Awp.of (by kernel_rfl) h

theorem impl_stepsToRoot_n3_l (x1731 : List Int) (x1732 : Int) : Link impl_stepsToRoot_ctx LL (Code.fst (Code.fst (Code.snd (Code.snd (bodyOf Tryd.f44))))) (Ann.fst (Ann.fst (Ann.snd (Ann.snd impl_stepsToRoot_an)))) (⟨mkE 18 0 [(0, .dat (.list (.int .i64)) x1731), (6, .ptr 0 0)], [some (.box [.dat (.list (.int .i64)) x1731, .dat (.int .i64) x1732, .dat (.int .i64) 0])]⟩ : St) (impl_stepsToRoot_n3 x1731 x1732) (Sum.elim (fun (t : Int × Bool) => (Exit.ret, (⟨mkE 18 0 [(4, .dat (.int .i64) t.1), (5, .dat .bool t.2)], []⟩ : St))) (fun (t : Int × Int) => ((Exit.exit 0), (⟨mkE 18 0 [(6, .ptr 0 0)], [some (.box [.dat (.list (.int .i64)) x1731, .dat (.int .i64) t.1, .dat (.int .i64) t.2])]⟩ : St)))) := by
  unfold impl_stepsToRoot_n3
  exact Link.cast (by kernel_rfl) (by kernel_rfl) (link_loop (mk := fun (s : Int × Int) => (⟨mkE 18 0 [(0, .dat (.list (.int .i64)) x1731), (6, .ptr 0 0)], [some (.box [.dat (.list (.int .i64)) x1731, .dat (.int .i64) s.1, .dat (.int .i64) s.2])]⟩ : St)) (fin := (Sum.elim (fun (t : Int × Bool) => (Exit.ret, (⟨mkE 18 0 [(4, .dat (.int .i64) t.1), (5, .dat .bool t.2)], []⟩ : St))) (fun (t : Int × Int) => ((Exit.exit 0), (⟨mkE 18 0 [(6, .ptr 0 0)], [some (.box [.dat (.list (.int .i64)) x1731, .dat (.int .i64) t.1, .dat (.int .i64) t.2])]⟩ : St))))) (by
  rintro (t | t) f K h
  · exact h
  · exact h) (fun s => link_map (impl_stepsToRoot_n2_l x1731 s.1 s.2) (Sum.elim (fun (t : Int × Int) => Sum.inl (t.1, t.2)) (Sum.elim (fun (t : Int × Bool) => Sum.inr (Sum.inl t)) (fun (t : Int × Int) => Sum.inr (Sum.inr t)))) (by
  rintro (t | t | t)
  · kernel_rfl
  · kernel_rfl
  · kernel_rfl)) (x1732, 0))

theorem impl_stepsToRoot_n4_l (x1731 : List Int) (x1732 : Int) : Link impl_stepsToRoot_ctx LL (Code.fst (Code.snd (Code.snd (bodyOf Tryd.f44)))) (Ann.fst (Ann.snd (Ann.snd impl_stepsToRoot_an))) (⟨mkE 18 0 [(0, .dat (.list (.int .i64)) x1731), (6, .ptr 0 0)], [some (.box [.dat (.list (.int .i64)) x1731, .dat (.int .i64) x1732, .dat (.int .i64) 0])]⟩ : St) (impl_stepsToRoot_n4 x1731 x1732) (Sum.elim (fun (t : Int × Int) => (Exit.normal, (⟨mkE 18 0 [(6, .ptr 0 0)], [some (.box [.dat (.list (.int .i64)) x1731, .dat (.int .i64) t.1, .dat (.int .i64) t.2])]⟩ : St))) (fun (t : Int × Bool) => (Exit.ret, (⟨mkE 18 0 [(4, .dat (.int .i64) t.1), (5, .dat .bool t.2)], []⟩ : St)))) := by
  unfold impl_stepsToRoot_n4
  exact Link.cast (by kernel_rfl) (by kernel_rfl) (link_block (id := 0) (impl_stepsToRoot_n3_l x1731 x1732) (Sum.elim (fun (t : Int × Bool) => (Sum.inr t)) (fun (t : Int × Int) => (Sum.inl (t.1, t.2)))) (by
  rintro (t | t) K h
  · exact Eq.mp (by kernel_rfl) h
  · exact Eq.mp (by kernel_rfl) h))

theorem impl_stepsToRoot_n5_l (x1731 : List Int) (x1777 : Int) (x1778 : Int) : Link impl_stepsToRoot_ctx LL (Code.snd (Code.snd (Code.snd (bodyOf Tryd.f44)))) (Ann.snd (Ann.snd (Ann.snd impl_stepsToRoot_an))) (⟨mkE 18 0 [(6, .ptr 0 0)], [some (.box [.dat (.list (.int .i64)) x1731, .dat (.int .i64) x1777, .dat (.int .i64) x1778])]⟩ : St) (impl_stepsToRoot_n5 x1778) (fun (t : Int × Bool) => (Exit.ret, (⟨mkE 18 0 [(4, .dat (.int .i64) t.1), (5, .dat .bool t.2)], []⟩ : St))) := by
  refine Link.of fun K h => ?_
  simp only [impl_stepsToRoot_n5, wpO_bind, wpO_cond, wpO_map, wpO_some] at h
  exact Awp.of (by kernel_rfl) h

theorem impl_stepsToRoot_n6_l (x1731 : List Int) (x1732 : Int) : Link impl_stepsToRoot_ctx LL (Code.snd (Code.snd (bodyOf Tryd.f44))) (Ann.snd (Ann.snd impl_stepsToRoot_an)) (⟨mkE 18 0 [(0, .dat (.list (.int .i64)) x1731), (6, .ptr 0 0)], [some (.box [.dat (.list (.int .i64)) x1731, .dat (.int .i64) x1732, .dat (.int .i64) 0])]⟩ : St) (impl_stepsToRoot_n6 x1731 x1732) (fun (t : Int × Bool) => (Exit.ret, (⟨mkE 18 0 [(4, .dat (.int .i64) t.1), (5, .dat .bool t.2)], []⟩ : St))) := by
  unfold impl_stepsToRoot_n6
  exact Link.cast (by kernel_rfl) (by kernel_rfl) (link_seq2 (b := (Code.snd (Code.snd (Code.snd (bodyOf Tryd.f44))))) (y := (Ann.snd (Ann.snd (Ann.snd impl_stepsToRoot_an)))) (impl_stepsToRoot_n4_l x1731 x1732) (fun (t : Int × Int) => (impl_stepsToRoot_n5_l x1731 t.1 t.2)) (fun (t : Int × Bool) => t) (by
  rintro t
  · kernel_rfl) (by
  rintro t f K h
  · exact h))

theorem impl_stepsToRoot_n7_l (x1731 : List Int) (x1732 : Int) : Link impl_stepsToRoot_ctx LL (bodyOf Tryd.f44) impl_stepsToRoot_an (⟨mkE 18 0 [(0, .dat (.list (.int .i64)) x1731), (1, .dat (.int .i64) x1732)], []⟩ : St) (impl_stepsToRoot_n7 x1731 x1732) (fun (t : Int × Bool) => (Exit.ret, (⟨mkE 18 0 [(4, .dat (.int .i64) t.1), (5, .dat .bool t.2)], []⟩ : St))) := by
  unfold impl_stepsToRoot_n7
  exact Link.cast (by kernel_rfl) (by kernel_rfl) (link_group (c := (Code.fst (Code.snd (bodyOf Tryd.f44)))) (a := (Ann.fst (Ann.snd impl_stepsToRoot_an))) [(Code.fst (bodyOf Tryd.f44))] [(Ann.fst impl_stepsToRoot_an)] rfl (link_seq (b := (Code.snd (Code.snd (bodyOf Tryd.f44)))) (y := (Ann.snd (Ann.snd impl_stepsToRoot_an))) (impl_stepsToRoot_n1_l x1731 x1732) (fun (t : Unit) => (impl_stepsToRoot_n6_l x1731 x1732))))

theorem impl_stepsToRoot_e (x1731 : List Int) (x1732 : Int) {r : AV} {H' : Heap} (h : (Ans.mk _ (impl_stepsToRoot x1731 x1732) (fun (t : Int × Bool) => (.tup [.dat (.int .i64) t.1, .dat .bool t.2], []))).run = some (r, H')) : Awp impl_stepsToRoot_ctx LL (bodyOf Tryd.f44) impl_stepsToRoot_an (⟨mkE 18 0 [(0, .dat (.list (.int .i64)) x1731), (1, .dat (.int .i64) x1732)], []⟩ : St) (Ret (tlook tys) Tryd.f44.results.toList r H') :=
  ret_of' (impl_stepsToRoot_n7_l x1731 x1732) (by unfold impl_stepsToRoot; kernel_rfl) (by
  intro t
  exact ret_mk [.dat (.int .i64) t.1, .dat .bool t.2] (by kernel_rfl) (by kernel_rfl) (by kernel_rfl) (by kernel_rfl)) h

def F_impl_stepsToRoot : Fun := fun avs H =>
  match avs, H with
  | [.dat (.list (.int .i64)) x1731, .dat (.int .i64) x1732], [] => ⟨_, impl_stepsToRoot x1731 x1732, fun (t : Int × Bool) => (.tup [.dat (.int .i64) t.1, .dat .bool t.2], [])⟩
  | _, _ => Ans.no

theorem impl_stepsToRoot_sound : Sound Tryd.prog 44 F_impl_stepsToRoot := by
  refine fn_sound' (C := impl_stepsToRoot_ctx) (c := bodyOf Tryd.f44) (cok_of tys_ok (List.forall_mem_cons.2 ⟨impl_walker_up_sound, by simp⟩) (List.forall_mem_cons.2 ⟨Tryd.call31, by simp⟩) (by kernel_rfl)) Tryd.func44 (by kernel_rfl) LL impl_stepsToRoot_an ?_
  intro avs H r H' h
  unfold F_impl_stepsToRoot at h
  split at h
  · refine Awp.cast ?_ ?_ ?_ (impl_stepsToRoot_e _ _ h) <;> kernel_rfl
  · simp [Ans.no, Ans.run] at h

/-! loop.example/headtrees/impl.TreeOk -/

def impl_TreeOk_an : Ann := (.seq (.leaf [0]) (.seq (.seq (.leaf [0, 18]) (.cond (.seq (.leaf [2]) (.leaf [2])) (.leaf [0]))) (.seq (.seq (.leaf [0, 20, 21]) (.block (.loop (.seq (.leaf [0, 20, 21, 22]) (.seq (.cond (.leaf [0, 20, 21]) (.leaf [])) (.seq (.block (.seq (.leaf [0, 3, 20, 21]) (.seq (.leaf [0, 5, 20, 21]) (.seq (.leaf [0, 20, 21, 32]) (.cond (.seq (.leaf [2]) (.leaf [2])) (.leaf [0, 20, 21])))))) (.leaf [0, 20, 21]))))))) (.seq (.leaf [2]) (.leaf [2])))))

noncomputable def impl_TreeOk_ctx : Ctx := ⟨tlook tys, olook [(43, F_impl_oneRoot), (44, F_impl_stepsToRoot)], ioF, 0⟩

theorem impl_TreeOk_n1_l (x1671 : List Int) : Link impl_TreeOk_ctx LL (Code.seq (Code.fst (bodyOf Tryd.f27)) (Code.fst (Code.snd (bodyOf Tryd.f27)))) (Ann.seq (Ann.fst impl_TreeOk_an) (Ann.fst (Ann.snd impl_TreeOk_an))) (⟨mkE 34 0 [(0, .dat (.list (.int .i64)) x1671)], []⟩ : St) (impl_TreeOk_n1 x1671) (Sum.elim (fun (t : Unit) => (Exit.normal, (⟨mkE 34 0 [(0, .dat (.list (.int .i64)) x1671)], []⟩ : St))) (fun (t : Bool) => (Exit.ret, (⟨mkE 34 0 [(2, .dat .bool t)], []⟩ : St)))) := by
  refine Link.of fun K h => ?_
  simp only [impl_TreeOk_n1, wpO_bind, wpO_cond, wpO_map, wpO_some] at h
  exact Awp.of (by kernel_rfl) h

theorem impl_TreeOk_n2_l (x1671 : List Int) : Link impl_TreeOk_ctx LL (Code.fst (Code.fst (Code.snd (Code.snd (bodyOf Tryd.f27))))) (Ann.fst (Ann.fst (Ann.snd (Ann.snd impl_TreeOk_an)))) (⟨mkE 34 0 [(0, .dat (.list (.int .i64)) x1671)], []⟩ : St) (impl_TreeOk_n2 x1671) (fun (t : Int) => (Exit.normal, (⟨mkE 34 0 [(0, .dat (.list (.int .i64)) x1671), (20, .dat (.int .i64) t), (21, .dat (.int .i64) 0)], []⟩ : St))) := by
  refine Link.of fun K h => ?_
  simp only [impl_TreeOk_n2, wpO_bind, wpO_cond, wpO_map, wpO_some] at h
  exact Awp.of (by kernel_rfl) h

theorem impl_TreeOk_n3_l (x1671 : List Int) (x1726 : Int) (x1794 : Int) : Link impl_TreeOk_ctx LL (Code.fst (Code.fst (Code.snd (Code.fst (Code.snd (Code.snd (bodyOf Tryd.f27))))))) (Ann.fst (Ann.fst (Ann.snd (Ann.fst (Ann.snd (Ann.snd impl_TreeOk_an)))))) (⟨mkE 34 0 [(0, .dat (.list (.int .i64)) x1671), (20, .dat (.int .i64) x1726), (21, .dat (.int .i64) x1794)], []⟩ : St) (impl_TreeOk_n3 x1671 x1726 x1794) (Sum.elim (fun (t : Int) => (Exit.normal, (⟨mkE 34 0 [(0, .dat (.list (.int .i64)) x1671), (20, .dat (.int .i64) x1726), (21, .dat (.int .i64) t)], []⟩ : St))) (Sum.elim (fun (t : Bool) => (Exit.ret, (⟨mkE 34 0 [(2, .dat .bool t)], []⟩ : St))) (fun (t : Unit) => ((Exit.exit 0), (⟨mkE 34 0 [], []⟩ : St))))) := by
  refine Link.of fun K h => ?_
  simp only [impl_TreeOk_n3, wpO_bind, wpO_cond, wpO_map, wpO_some] at h
  exact Awp.of (by kernel_rfl) h

theorem impl_TreeOk_n4_l (x1671 : List Int) (x1726 : Int) : Link impl_TreeOk_ctx LL (Code.fst (Code.snd (Code.fst (Code.snd (Code.snd (bodyOf Tryd.f27)))))) (Ann.fst (Ann.snd (Ann.fst (Ann.snd (Ann.snd impl_TreeOk_an))))) (⟨mkE 34 0 [(0, .dat (.list (.int .i64)) x1671), (20, .dat (.int .i64) x1726), (21, .dat (.int .i64) 0)], []⟩ : St) (impl_TreeOk_n4 x1671 x1726) (Sum.elim (fun (t : Bool) => (Exit.ret, (⟨mkE 34 0 [(2, .dat .bool t)], []⟩ : St))) (fun (t : Unit) => ((Exit.exit 0), (⟨mkE 34 0 [], []⟩ : St)))) := by
  unfold impl_TreeOk_n4
  exact Link.cast (by kernel_rfl) (by kernel_rfl) (link_loop (mk := fun (s : Int) => (⟨mkE 34 0 [(0, .dat (.list (.int .i64)) x1671), (20, .dat (.int .i64) x1726), (21, .dat (.int .i64) s)], []⟩ : St)) (fin := (Sum.elim (fun (t : Bool) => (Exit.ret, (⟨mkE 34 0 [(2, .dat .bool t)], []⟩ : St))) (fun (t : Unit) => ((Exit.exit 0), (⟨mkE 34 0 [], []⟩ : St))))) (by
  rintro (t | t) f K h
  · exact h
  · exact h) (fun s => link_map (impl_TreeOk_n3_l x1671 x1726 s) (Sum.elim (fun (t : Int) => Sum.inl t) (Sum.elim (fun (t : Bool) => Sum.inr (Sum.inl t)) (fun (t : Unit) => Sum.inr (Sum.inr t)))) (by
  rintro (t | t | t)
  · kernel_rfl
  · kernel_rfl
  · kernel_rfl)) 0)

theorem impl_TreeOk_n5_l (x1671 : List Int) (x1726 : Int) : Link impl_TreeOk_ctx LL (Code.snd (Code.fst (Code.snd (Code.snd (bodyOf Tryd.f27))))) (Ann.snd (Ann.fst (Ann.snd (Ann.snd impl_TreeOk_an)))) (⟨mkE 34 0 [(0, .dat (.list (.int .i64)) x1671), (20, .dat (.int .i64) x1726), (21, .dat (.int .i64) 0)], []⟩ : St) (impl_TreeOk_n5 x1671 x1726) (Sum.elim (fun (t : Unit) => (Exit.normal, (⟨mkE 34 0 [], []⟩ : St))) (fun (t : Bool) => (Exit.ret, (⟨mkE 34 0 [(2, .dat .bool t)], []⟩ : St)))) := by
  unfold impl_TreeOk_n5
  exact Link.cast (by kernel_rfl) (by kernel_rfl) (link_block (id := 0) (impl_TreeOk_n4_l x1671 x1726) (Sum.elim (fun (t : Bool) => (Sum.inr t)) (fun (t : Unit) => (Sum.inl ()))) (by
  rintro (t | t) K h
  · exact Eq.mp (by kernel_rfl) h
  · exact Eq.mp (by kernel_rfl) h))

theorem impl_TreeOk_n6_l (x1671 : List Int) : Link impl_TreeOk_ctx LL (Code.fst (Code.snd (Code.snd (bodyOf Tryd.f27)))) (Ann.fst (Ann.snd (Ann.snd impl_TreeOk_an))) (⟨mkE 34 0 [(0, .dat (.list (.int .i64)) x1671)], []⟩ : St) (impl_TreeOk_n6 x1671) (Sum.elim (fun (t : Unit) => (Exit.normal, (⟨mkE 34 0 [], []⟩ : St))) (fun (t : Bool) => (Exit.ret, (⟨mkE 34 0 [(2, .dat .bool t)], []⟩ : St)))) := by
  unfold impl_TreeOk_n6
  exact Link.cast (by kernel_rfl) (by kernel_rfl) (link_seq (b := (Code.snd (Code.fst (Code.snd (Code.snd (bodyOf Tryd.f27)))))) (y := (Ann.snd (Ann.fst (Ann.snd (Ann.snd impl_TreeOk_an))))) (impl_TreeOk_n2_l x1671) (fun (t : Int) => (impl_TreeOk_n5_l x1671 t)))

theorem impl_TreeOk_n7_l : Link impl_TreeOk_ctx LL (Code.snd (Code.snd (Code.snd (bodyOf Tryd.f27)))) (Ann.snd (Ann.snd (Ann.snd impl_TreeOk_an))) (⟨mkE 34 0 [], []⟩ : St) (impl_TreeOk_n7) (fun (t : Bool) => (Exit.ret, (⟨mkE 34 0 [(2, .dat .bool t)], []⟩ : St))) := by
  refine Link.of fun K h => ?_
  simp only [impl_TreeOk_n7, wpO_bind, wpO_cond, wpO_map, wpO_some] at h
  exact Awp.of (by kernel_rfl) h

theorem impl_TreeOk_n8_l (x1671 : List Int) : Link impl_TreeOk_ctx LL (Code.snd (Code.snd (bodyOf Tryd.f27))) (Ann.snd (Ann.snd impl_TreeOk_an)) (⟨mkE 34 0 [(0, .dat (.list (.int .i64)) x1671)], []⟩ : St) (impl_TreeOk_n8 x1671) (fun (t : Bool) => (Exit.ret, (⟨mkE 34 0 [(2, .dat .bool t)], []⟩ : St))) := by
  unfold impl_TreeOk_n8
  exact Link.cast (by kernel_rfl) (by kernel_rfl) (link_seq2 (b := (Code.snd (Code.snd (Code.snd (bodyOf Tryd.f27))))) (y := (Ann.snd (Ann.snd (Ann.snd impl_TreeOk_an)))) (impl_TreeOk_n6_l x1671) (fun (t : Unit) => (impl_TreeOk_n7_l)) (fun (t : Bool) => t) (by
  rintro t
  · kernel_rfl) (by
  rintro t f K h
  · exact h))

theorem impl_TreeOk_n9_l (x1671 : List Int) : Link impl_TreeOk_ctx LL (bodyOf Tryd.f27) impl_TreeOk_an (⟨mkE 34 0 [(0, .dat (.list (.int .i64)) x1671)], []⟩ : St) (impl_TreeOk_n9 x1671) (fun (t : Bool) => (Exit.ret, (⟨mkE 34 0 [(2, .dat .bool t)], []⟩ : St))) := by
  unfold impl_TreeOk_n9
  exact Link.cast (by kernel_rfl) (by kernel_rfl) (link_group (c := (Code.fst (Code.snd (bodyOf Tryd.f27)))) (a := (Ann.fst (Ann.snd impl_TreeOk_an))) [(Code.fst (bodyOf Tryd.f27))] [(Ann.fst impl_TreeOk_an)] rfl (link_seq2 (b := (Code.snd (Code.snd (bodyOf Tryd.f27)))) (y := (Ann.snd (Ann.snd impl_TreeOk_an))) (impl_TreeOk_n1_l x1671) (fun (t : Unit) => (impl_TreeOk_n8_l x1671)) (fun (t : Bool) => t) (by
  rintro t
  · kernel_rfl) (by
  rintro t f K h
  · exact h)))

theorem impl_TreeOk_e (x1671 : List Int) {r : AV} {H' : Heap} (h : (Ans.mk _ (impl_TreeOk x1671) (fun (t : Bool) => (.dat .bool t, []))).run = some (r, H')) : Awp impl_TreeOk_ctx LL (bodyOf Tryd.f27) impl_TreeOk_an (⟨mkE 34 0 [(0, .dat (.list (.int .i64)) x1671)], []⟩ : St) (Ret (tlook tys) Tryd.f27.results.toList r H') :=
  ret_of' (impl_TreeOk_n9_l x1671) (by unfold impl_TreeOk; kernel_rfl) (by
  intro t
  exact ret_mk [.dat .bool t] (by kernel_rfl) (by kernel_rfl) (by kernel_rfl) (by kernel_rfl)) h

def F_impl_TreeOk : Fun := fun avs H =>
  match avs, H with
  | [.dat (.list (.int .i64)) x1671], [] => ⟨_, impl_TreeOk x1671, fun (t : Bool) => (.dat .bool t, [])⟩
  | _, _ => Ans.no

theorem impl_TreeOk_sound : Sound Tryd.prog 27 F_impl_TreeOk := by
  refine fn_sound' (C := impl_TreeOk_ctx) (c := bodyOf Tryd.f27) (cok_of tys_ok (List.forall_mem_cons.2 ⟨impl_oneRoot_sound, List.forall_mem_cons.2 ⟨impl_stepsToRoot_sound, by simp⟩⟩) (List.forall_mem_cons.2 ⟨Tryd.call43, List.forall_mem_cons.2 ⟨Tryd.call44, by simp⟩⟩) (by kernel_rfl)) Tryd.func27 (by kernel_rfl) LL impl_TreeOk_an ?_
  intro avs H r H' h
  unfold F_impl_TreeOk at h
  split at h
  · refine Awp.cast ?_ ?_ ?_ (impl_TreeOk_e _ h) <;> kernel_rfl
  · simp [Ans.no, Ans.run] at h

/-! loop.example/headtrees/laws.alive -/

def laws_alive_an : Ann := (.seq (.leaf []) (.seq (.leaf [0]) (.leaf [0])))

noncomputable def laws_alive_ctx : Ctx := ⟨tlook tys, olook [(27, F_impl_TreeOk)], ioF, 0⟩

theorem laws_alive_n1_l : Link laws_alive_ctx LL (bodyOf Tryd.f10) laws_alive_an (⟨mkE 8 0 [], []⟩ : St) (laws_alive_n1) (fun (t : Bool) => (Exit.ret, (⟨mkE 8 0 [(0, .dat .bool t)], []⟩ : St))) := by
  refine Link.of fun K h => ?_
  simp only [laws_alive_n1, wpO_bind, wpO_cond, wpO_map, wpO_some] at h
  exact Awp.of (by kernel_rfl) h

theorem laws_alive_e {r : AV} {H' : Heap} (h : (Ans.mk _ (laws_alive) (fun (t : Bool) => (.dat .bool t, []))).run = some (r, H')) : Awp laws_alive_ctx LL (bodyOf Tryd.f10) laws_alive_an (⟨mkE 8 0 [], []⟩ : St) (Ret (tlook tys) Tryd.f10.results.toList r H') :=
  ret_of' (laws_alive_n1_l) (by unfold laws_alive; kernel_rfl) (by
  intro t
  exact ret_mk [.dat .bool t] (by kernel_rfl) (by kernel_rfl) (by kernel_rfl) (by kernel_rfl)) h

def F_laws_alive : Fun := fun avs H =>
  match avs, H with
  | [], [] => ⟨_, laws_alive, fun (t : Bool) => (.dat .bool t, [])⟩
  | _, _ => Ans.no

theorem laws_alive_sound : Sound Tryd.prog 10 F_laws_alive := by
  refine fn_sound' (C := laws_alive_ctx) (c := bodyOf Tryd.f10) (cok_of tys_ok (List.forall_mem_cons.2 ⟨impl_TreeOk_sound, by simp⟩) (List.forall_mem_cons.2 ⟨Tryd.call27, by simp⟩) (by kernel_rfl)) Tryd.func10 (by kernel_rfl) LL laws_alive_an ?_
  intro avs H r H' h
  unfold F_laws_alive at h
  split at h
  · refine Awp.cast ?_ ?_ ?_ (laws_alive_e h) <;> kernel_rfl
  · simp [Ans.no, Ans.run] at h

/-! loop.example/headtrees/impl.RootOf -/

def impl_RootOf_an : Ann := (.seq (.leaf [0]) (.seq (.seq (.leaf [0, 6]) (.cond (.seq (.leaf [2]) (.leaf [2])) (.leaf [0]))) (.seq (.leaf [3]) (.seq (.block (.loop (.seq (.seq (.leaf [3, 9]) (.cond (.leaf [3]) (.leaf [3]))) (.block (.leaf [3]))))) (.seq (.leaf [2]) (.leaf [2]))))))

noncomputable def impl_RootOf_ctx : Ctx := ⟨tlook tys, olook [(27, F_impl_TreeOk), (31, F_impl_walker_up)], ioF, 0⟩

theorem impl_RootOf_n1_l (x1876 : List Int) : Link impl_RootOf_ctx LL (Code.seq (Code.fst (bodyOf Tryd.f13)) (Code.seq (Code.fst (Code.snd (bodyOf Tryd.f13))) (Code.fst (Code.snd (Code.snd (bodyOf Tryd.f13)))))) (Ann.seq (Ann.fst impl_RootOf_an) (Ann.seq (Ann.fst (Ann.snd impl_RootOf_an)) (Ann.fst (Ann.snd (Ann.snd impl_RootOf_an))))) (⟨mkE 12 0 [(0, .dat (.list (.int .i64)) x1876)], []⟩ : St) (impl_RootOf_n1 x1876) (Sum.elim (fun (t : Unit) => (Exit.normal, (⟨mkE 12 0 [(3, .ptr 0 0)], [some (.box [.dat (.list (.int .i64)) x1876, .dat (.int .i64) 1, .dat (.int .i64) 0])]⟩ : St))) (fun (t : Int) => (Exit.ret, (⟨mkE 12 0 [(2, .dat (.int .i64) t)], []⟩ : St)))) := by
  refine Link.of fun K h => ?_
  simp only [impl_RootOf_n1, wpO_bind, wpO_cond, wpO_map, wpO_some] at h
  exact Awp.of (by kernel_rfl) h

theorem impl_RootOf_n2_l (x1876 : List Int) (x1889 : Int) (x1890 : Int) : Link impl_RootOf_ctx LL (Code.fst (Code.fst (Code.fst (Code.snd (Code.snd (Code.snd (bodyOf Tryd.f13))))))) (Ann.fst (Ann.fst (Ann.fst (Ann.snd (Ann.snd (Ann.snd impl_RootOf_an)))))) (⟨mkE 12 0 [(3, .ptr 0 0)], [some (.box [.dat (.list (.int .i64)) x1876, .dat (.int .i64) x1889, .dat (.int .i64) x1890])]⟩ : St) (impl_RootOf_n2 x1876 x1889 x1890) (Sum.elim (fun (t : Int × Int) => (Exit.normal, (⟨mkE 12 0 [(3, .ptr 0 0)], [some (.box [.dat (.list (.int .i64)) x1876, .dat (.int .i64) t.1, .dat (.int .i64) t.2])]⟩ : St))) (fun (t : Int × Int) => ((Exit.exit 0), (⟨mkE 12 0 [(3, .ptr 0 0)], [some (.box [.dat (.list (.int .i64)) x1876, .dat (.int .i64) t.1, .dat (.int .i64) t.2])]⟩ : St)))) := by
  refine Link.of fun K h => ?_
  simp only [impl_RootOf_n2, wpO_bind, wpO_cond, wpO_map, wpO_some] at h
  exact Awp.of (by kernel_rfl) h

theorem impl_RootOf_n3_l (x1876 : List Int) : Link impl_RootOf_ctx LL (Code.fst (Code.fst (Code.snd (Code.snd (Code.snd (bodyOf Tryd.f13)))))) (Ann.fst (Ann.fst (Ann.snd (Ann.snd (Ann.snd impl_RootOf_an))))) (⟨mkE 12 0 [(3, .ptr 0 0)], [some (.box [.dat (.list (.int .i64)) x1876, .dat (.int .i64) 1, .dat (.int .i64) 0])]⟩ : St) (impl_RootOf_n3 x1876) (fun (t : Int × Int) => ((Exit.exit 0), (⟨mkE 12 0 [(3, .ptr 0 0)], [some (.box [.dat (.list (.int .i64)) x1876, .dat (.int .i64) t.1, .dat (.int .i64) t.2])]⟩ : St))) := by
  unfold impl_RootOf_n3
  exact Link.cast (by kernel_rfl) (by kernel_rfl) (link_loop (mk := fun (s : Int × Int) => (⟨mkE 12 0 [(3, .ptr 0 0)], [some (.box [.dat (.list (.int .i64)) x1876, .dat (.int .i64) s.1, .dat (.int .i64) s.2])]⟩ : St)) (fin := (fun (t : Int × Int) => ((Exit.exit 0), (⟨mkE 12 0 [(3, .ptr 0 0)], [some (.box [.dat (.list (.int .i64)) x1876, .dat (.int .i64) t.1, .dat (.int .i64) t.2])]⟩ : St)))) (by
  rintro t f K h
  · exact h) (fun s => link_map (impl_RootOf_n2_l x1876 s.1 s.2) (Sum.elim (fun (t : Int × Int) => Sum.inl (t.1, t.2)) (fun (t : Int × Int) => Sum.inr t)) (by
  rintro (t | t)
  · kernel_rfl
  · kernel_rfl)) (1, 0))

theorem impl_RootOf_n4_l (x1876 : List Int) : Link impl_RootOf_ctx LL (Code.fst (Code.snd (Code.snd (Code.snd (bodyOf Tryd.f13))))) (Ann.fst (Ann.snd (Ann.snd (Ann.snd impl_RootOf_an)))) (⟨mkE 12 0 [(3, .ptr 0 0)], [some (.box [.dat (.list (.int .i64)) x1876, .dat (.int .i64) 1, .dat (.int .i64) 0])]⟩ : St) (impl_RootOf_n4 x1876) (fun (t : Int × Int) => (Exit.normal, (⟨mkE 12 0 [(3, .ptr 0 0)], [some (.box [.dat (.list (.int .i64)) x1876, .dat (.int .i64) t.1, .dat (.int .i64) t.2])]⟩ : St))) := by
  unfold impl_RootOf_n4
  exact Link.cast (by kernel_rfl) (by kernel_rfl) (link_block (id := 0) (impl_RootOf_n3_l x1876) (fun (t : Int × Int) => (t.1, t.2)) (by
  rintro t K h
  · exact Eq.mp (by kernel_rfl) h))

theorem impl_RootOf_n5_l (x1876 : List Int) (x1897 : Int) (x1898 : Int) : Link impl_RootOf_ctx LL (Code.snd (Code.snd (Code.snd (Code.snd (bodyOf Tryd.f13))))) (Ann.snd (Ann.snd (Ann.snd (Ann.snd impl_RootOf_an)))) (⟨mkE 12 0 [(3, .ptr 0 0)], [some (.box [.dat (.list (.int .i64)) x1876, .dat (.int .i64) x1897, .dat (.int .i64) x1898])]⟩ : St) (impl_RootOf_n5 x1897) (fun (t : Int) => (Exit.ret, (⟨mkE 12 0 [(2, .dat (.int .i64) t)], []⟩ : St))) := by
  refine Link.of fun K h => ?_
  simp only [impl_RootOf_n5, wpO_bind, wpO_cond, wpO_map, wpO_some] at h
  exact Awp.of (by kernel_rfl) h

theorem impl_RootOf_n6_l (x1876 : List Int) : Link impl_RootOf_ctx LL (Code.snd (Code.snd (Code.snd (bodyOf Tryd.f13)))) (Ann.snd (Ann.snd (Ann.snd impl_RootOf_an))) (⟨mkE 12 0 [(3, .ptr 0 0)], [some (.box [.dat (.list (.int .i64)) x1876, .dat (.int .i64) 1, .dat (.int .i64) 0])]⟩ : St) (impl_RootOf_n6 x1876) (fun (t : Int) => (Exit.ret, (⟨mkE 12 0 [(2, .dat (.int .i64) t)], []⟩ : St))) := by
  unfold impl_RootOf_n6
  exact Link.cast (by kernel_rfl) (by kernel_rfl) (link_seq (b := (Code.snd (Code.snd (Code.snd (Code.snd (bodyOf Tryd.f13)))))) (y := (Ann.snd (Ann.snd (Ann.snd (Ann.snd impl_RootOf_an))))) (impl_RootOf_n4_l x1876) (fun (t : Int × Int) => (impl_RootOf_n5_l x1876 t.1 t.2)))

theorem impl_RootOf_n7_l (x1876 : List Int) : Link impl_RootOf_ctx LL (bodyOf Tryd.f13) impl_RootOf_an (⟨mkE 12 0 [(0, .dat (.list (.int .i64)) x1876)], []⟩ : St) (impl_RootOf_n7 x1876) (fun (t : Int) => (Exit.ret, (⟨mkE 12 0 [(2, .dat (.int .i64) t)], []⟩ : St))) := by
  unfold impl_RootOf_n7
  exact Link.cast (by kernel_rfl) (by kernel_rfl) (link_group (c := (Code.fst (Code.snd (Code.snd (bodyOf Tryd.f13))))) (a := (Ann.fst (Ann.snd (Ann.snd impl_RootOf_an)))) [(Code.fst (bodyOf Tryd.f13)), (Code.fst (Code.snd (bodyOf Tryd.f13)))] [(Ann.fst impl_RootOf_an), (Ann.fst (Ann.snd impl_RootOf_an))] rfl (link_seq2 (b := (Code.snd (Code.snd (Code.snd (bodyOf Tryd.f13))))) (y := (Ann.snd (Ann.snd (Ann.snd impl_RootOf_an)))) (impl_RootOf_n1_l x1876) (fun (t : Unit) => (impl_RootOf_n6_l x1876)) (fun (t : Int) => t) (by
  rintro t
  · kernel_rfl) (by
  rintro t f K h
  · exact h)))

theorem impl_RootOf_e (x1876 : List Int) {r : AV} {H' : Heap} (h : (Ans.mk _ (impl_RootOf x1876) (fun (t : Int) => (.dat (.int .i64) t, []))).run = some (r, H')) : Awp impl_RootOf_ctx LL (bodyOf Tryd.f13) impl_RootOf_an (⟨mkE 12 0 [(0, .dat (.list (.int .i64)) x1876)], []⟩ : St) (Ret (tlook tys) Tryd.f13.results.toList r H') :=
  ret_of' (impl_RootOf_n7_l x1876) (by unfold impl_RootOf; kernel_rfl) (by
  intro t
  exact ret_mk [.dat (.int .i64) t] (by kernel_rfl) (by kernel_rfl) (by kernel_rfl) (by kernel_rfl)) h

def F_impl_RootOf : Fun := fun avs H =>
  match avs, H with
  | [.dat (.list (.int .i64)) x1876], [] => ⟨_, impl_RootOf x1876, fun (t : Int) => (.dat (.int .i64) t, [])⟩
  | _, _ => Ans.no

theorem impl_RootOf_sound : Sound Tryd.prog 13 F_impl_RootOf := by
  refine fn_sound' (C := impl_RootOf_ctx) (c := bodyOf Tryd.f13) (cok_of tys_ok (List.forall_mem_cons.2 ⟨impl_TreeOk_sound, List.forall_mem_cons.2 ⟨impl_walker_up_sound, by simp⟩⟩) (List.forall_mem_cons.2 ⟨Tryd.call27, List.forall_mem_cons.2 ⟨Tryd.call31, by simp⟩⟩) (by kernel_rfl)) Tryd.func13 (by kernel_rfl) LL impl_RootOf_an ?_
  intro avs H r H' h
  unfold F_impl_RootOf at h
  split at h
  · refine Awp.cast ?_ ?_ ?_ (impl_RootOf_e _ h) <;> kernel_rfl
  · simp [Ans.no, Ans.run] at h

/-! loop.example/headtrees/impl.only -/

def impl_only_an : Ann := (.seq (.leaf [0]) (.seq (.leaf [2]) (.leaf [2])))

noncomputable def impl_only_ctx : Ctx := ⟨tlook tys, olook [], ioF, 0⟩

theorem impl_only_n1_l (x1904 : Int) : Link impl_only_ctx LL (bodyOf Tryd.f58) impl_only_an (⟨mkE 6 0 [(0, .dat (.int .i64) x1904)], []⟩ : St) (impl_only_n1 x1904) (fun (t : Int) => (Exit.ret, (⟨mkE 6 0 [(2, .dat (.int .u64) t)], []⟩ : St))) := by
  refine Link.of fun K h => ?_
  simp only [impl_only_n1, wpO_bind, wpO_cond, wpO_map, wpO_some] at h
  exact Awp.of (by kernel_rfl) h

theorem impl_only_e (x1904 : Int) {r : AV} {H' : Heap} (h : (Ans.mk _ (impl_only x1904) (fun (t : Int) => (.dat (.int .u64) t, []))).run = some (r, H')) : Awp impl_only_ctx LL (bodyOf Tryd.f58) impl_only_an (⟨mkE 6 0 [(0, .dat (.int .i64) x1904)], []⟩ : St) (Ret (tlook tys) Tryd.f58.results.toList r H') :=
  ret_of' (impl_only_n1_l x1904) (by unfold impl_only; kernel_rfl) (by
  intro t
  exact ret_mk [.dat (.int .u64) t] (by kernel_rfl) (by kernel_rfl) (by kernel_rfl) (by kernel_rfl)) h

def F_impl_only : Fun := fun avs H =>
  match avs, H with
  | [.dat (.int .i64) x1904], [] => ⟨_, impl_only x1904, fun (t : Int) => (.dat (.int .u64) t, [])⟩
  | _, _ => Ans.no

theorem impl_only_sound : Sound Tryd.prog 58 F_impl_only := by
  refine fn_sound' (C := impl_only_ctx) (c := bodyOf Tryd.f58) (cok_of tys_ok (by simp) (by simp) (by kernel_rfl)) Tryd.func58 (by kernel_rfl) LL impl_only_an ?_
  intro avs H r H' h
  unfold F_impl_only at h
  split at h
  · refine Awp.cast ?_ ?_ ?_ (impl_only_e _ h) <;> kernel_rfl
  · simp [Ans.no, Ans.run] at h

/-! loop.example/headtrees/impl.dependents -/

def impl_dependents_an : Ann := (.seq (.leaf [0, 1]) (.seq (.leaf [0, 1, 5]) (.seq (.seq (.leaf [0, 1, 5, 8, 9]) (.block (.loop (.seq (.leaf [0, 1, 5, 8, 9, 10]) (.seq (.cond (.leaf [0, 1, 5, 8, 9]) (.leaf [5])) (.seq (.block (.seq (.leaf [0, 1, 5, 6, 8, 9]) (.seq (.leaf [0, 1, 5, 6, 8, 9, 17]) (.cond (.leaf [0, 1, 5, 8, 9]) (.leaf [0, 1, 5, 8, 9]))))) (.leaf [0, 1, 5, 8, 9]))))))) (.seq (.leaf [4]) (.leaf [4])))))

noncomputable def impl_dependents_ctx : Ctx := ⟨tlook tys, olook [(58, F_impl_only)], ioF, 0⟩

theorem impl_dependents_n1_l (x1910 : List Int) (x1911 : Int) : Link impl_dependents_ctx LL (Code.seq (Code.fst (bodyOf Tryd.f46)) (Code.fst (Code.snd (bodyOf Tryd.f46)))) (Ann.seq (Ann.fst impl_dependents_an) (Ann.fst (Ann.snd impl_dependents_an))) (⟨mkE 25 0 [(0, .dat (.list (.int .i64)) x1910), (1, .dat (.int .i64) x1911)], []⟩ : St) (impl_dependents_n1) (fun (t : Unit) => (Exit.normal, (⟨mkE 25 0 [(0, .dat (.list (.int .i64)) x1910), (1, .dat (.int .i64) x1911), (5, .dat (.int .u64) 0)], []⟩ : St))) := by
  refine Link.of fun K h => ?_
  simp only [impl_dependents_n1, wpO_bind, wpO_cond, wpO_map, wpO_some] at h
  exact Awp.of (by kernel_rfl) h

theorem impl_dependents_n2_l (x1910 : List Int) (x1911 : Int) : Link impl_dependents_ctx LL (Code.fst (Code.fst (Code.snd (Code.snd (bodyOf Tryd.f46))))) (Ann.fst (Ann.fst (Ann.snd (Ann.snd impl_dependents_an)))) (⟨mkE 25 0 [(0, .dat (.list (.int .i64)) x1910), (1, .dat (.int .i64) x1911), (5, .dat (.int .u64) 0)], []⟩ : St) (impl_dependents_n2 x1910) (fun (t : Int) => (Exit.normal, (⟨mkE 25 0 [(0, .dat (.list (.int .i64)) x1910), (1, .dat (.int .i64) x1911), (5, .dat (.int .u64) 0), (8, .dat (.int .i64) t), (9, .dat (.int .i64) 0)], []⟩ : St))) := by
  refine Link.of fun K h => ?_
  simp only [impl_dependents_n2, wpO_bind, wpO_cond, wpO_map, wpO_some] at h
  exact Awp.of (by kernel_rfl) h

theorem impl_dependents_n3_l (x1910 : List Int) (x1911 : Int) (x1931 : Int) (x1912 : Int) (x1932 : Int) : Link impl_dependents_ctx LL (Code.fst (Code.fst (Code.snd (Code.fst (Code.snd (Code.snd (bodyOf Tryd.f46))))))) (Ann.fst (Ann.fst (Ann.snd (Ann.fst (Ann.snd (Ann.snd impl_dependents_an)))))) (⟨mkE 25 0 [(0, .dat (.list (.int .i64)) x1910), (1, .dat (.int .i64) x1911), (5, .dat (.int .u64) x1931), (8, .dat (.int .i64) x1912), (9, .dat (.int .i64) x1932)], []⟩ : St) (impl_dependents_n3 x1910 x1911 x1931 x1912 x1932) (Sum.elim (fun (t : Int × Int) => (Exit.normal, (⟨mkE 25 0 [(0, .dat (.list (.int .i64)) x1910), (1, .dat (.int .i64) x1911), (5, .dat (.int .u64) t.1), (8, .dat (.int .i64) x1912), (9, .dat (.int .i64) t.2)], []⟩ : St))) (fun (t : Int) => ((Exit.exit 0), (⟨mkE 25 0 [(5, .dat (.int .u64) t)], []⟩ : St)))) := by
  refine Link.of fun K h => ?_
  simp only [impl_dependents_n3, wpO_bind, wpO_cond, wpO_map, wpO_some] at h
  exact Awp.of (by kernel_rfl) h

theorem impl_dependents_n4_l (x1910 : List Int) (x1911 : Int) (x1912 : Int) : Link impl_dependents_ctx LL (Code.fst (Code.snd (Code.fst (Code.snd (Code.snd (bodyOf Tryd.f46)))))) (Ann.fst (Ann.snd (Ann.fst (Ann.snd (Ann.snd impl_dependents_an))))) (⟨mkE 25 0 [(0, .dat (.list (.int .i64)) x1910), (1, .dat (.int .i64) x1911), (5, .dat (.int .u64) 0), (8, .dat (.int .i64) x1912), (9, .dat (.int .i64) 0)], []⟩ : St) (impl_dependents_n4 x1910 x1911 x1912) (fun (t : Int) => ((Exit.exit 0), (⟨mkE 25 0 [(5, .dat (.int .u64) t)], []⟩ : St))) := by
  unfold impl_dependents_n4
  exact Link.cast (by kernel_rfl) (by kernel_rfl) (link_loop (mk := fun (s : Int × Int) => (⟨mkE 25 0 [(0, .dat (.list (.int .i64)) x1910), (1, .dat (.int .i64) x1911), (5, .dat (.int .u64) s.1), (8, .dat (.int .i64) x1912), (9, .dat (.int .i64) s.2)], []⟩ : St)) (fin := (fun (t : Int) => ((Exit.exit 0), (⟨mkE 25 0 [(5, .dat (.int .u64) t)], []⟩ : St)))) (by
  rintro t f K h
  · exact h) (fun s => link_map (impl_dependents_n3_l x1910 x1911 s.1 x1912 s.2) (Sum.elim (fun (t : Int × Int) => Sum.inl (t.1, t.2)) (fun (t : Int) => Sum.inr t)) (by
  rintro (t | t)
  · kernel_rfl
  · kernel_rfl)) (0, 0))

theorem impl_dependents_n5_l (x1910 : List Int) (x1911 : Int) (x1912 : Int) : Link impl_dependents_ctx LL (Code.snd (Code.fst (Code.snd (Code.snd (bodyOf Tryd.f46))))) (Ann.snd (Ann.fst (Ann.snd (Ann.snd impl_dependents_an)))) (⟨mkE 25 0 [(0, .dat (.list (.int .i64)) x1910), (1, .dat (.int .i64) x1911), (5, .dat (.int .u64) 0), (8, .dat (.int .i64) x1912), (9, .dat (.int .i64) 0)], []⟩ : St) (impl_dependents_n5 x1910 x1911 x1912) (fun (t : Int) => (Exit.normal, (⟨mkE 25 0 [(5, .dat (.int .u64) t)], []⟩ : St))) := by
  unfold impl_dependents_n5
  exact Link.cast (by kernel_rfl) (by kernel_rfl) (link_block (id := 0) (impl_dependents_n4_l x1910 x1911 x1912) (fun (t : Int) => t) (by
  rintro t K h
  · exact Eq.mp (by kernel_rfl) h))

theorem impl_dependents_n6_l (x1910 : List Int) (x1911 : Int) : Link impl_dependents_ctx LL (Code.fst (Code.snd (Code.snd (bodyOf Tryd.f46)))) (Ann.fst (Ann.snd (Ann.snd impl_dependents_an))) (⟨mkE 25 0 [(0, .dat (.list (.int .i64)) x1910), (1, .dat (.int .i64) x1911), (5, .dat (.int .u64) 0)], []⟩ : St) (impl_dependents_n6 x1910 x1911) (fun (t : Int) => (Exit.normal, (⟨mkE 25 0 [(5, .dat (.int .u64) t)], []⟩ : St))) := by
  unfold impl_dependents_n6
  exact Link.cast (by kernel_rfl) (by kernel_rfl) (link_seq (b := (Code.snd (Code.fst (Code.snd (Code.snd (bodyOf Tryd.f46)))))) (y := (Ann.snd (Ann.fst (Ann.snd (Ann.snd impl_dependents_an))))) (impl_dependents_n2_l x1910 x1911) (fun (t : Int) => (impl_dependents_n5_l x1910 x1911 t)))

theorem impl_dependents_n7_l (x1931 : Int) : Link impl_dependents_ctx LL (Code.snd (Code.snd (Code.snd (bodyOf Tryd.f46)))) (Ann.snd (Ann.snd (Ann.snd impl_dependents_an))) (⟨mkE 25 0 [(5, .dat (.int .u64) x1931)], []⟩ : St) (impl_dependents_n7 x1931) (fun (t : Int) => (Exit.ret, (⟨mkE 25 0 [(4, .dat (.int .u64) t)], []⟩ : St))) := by
  refine Link.of fun K h => ?_
  simp only [impl_dependents_n7, wpO_bind, wpO_cond, wpO_map, wpO_some] at h
  exact Awp.of (by kernel_rfl) h

theorem impl_dependents_n8_l (x1910 : List Int) (x1911 : Int) : Link impl_dependents_ctx LL (Code.snd (Code.snd (bodyOf Tryd.f46))) (Ann.snd (Ann.snd impl_dependents_an)) (⟨mkE 25 0 [(0, .dat (.list (.int .i64)) x1910), (1, .dat (.int .i64) x1911), (5, .dat (.int .u64) 0)], []⟩ : St) (impl_dependents_n8 x1910 x1911) (fun (t : Int) => (Exit.ret, (⟨mkE 25 0 [(4, .dat (.int .u64) t)], []⟩ : St))) := by
  unfold impl_dependents_n8
  exact Link.cast (by kernel_rfl) (by kernel_rfl) (link_seq (b := (Code.snd (Code.snd (Code.snd (bodyOf Tryd.f46))))) (y := (Ann.snd (Ann.snd (Ann.snd impl_dependents_an)))) (impl_dependents_n6_l x1910 x1911) (fun (t : Int) => (impl_dependents_n7_l t)))

theorem impl_dependents_n9_l (x1910 : List Int) (x1911 : Int) : Link impl_dependents_ctx LL (bodyOf Tryd.f46) impl_dependents_an (⟨mkE 25 0 [(0, .dat (.list (.int .i64)) x1910), (1, .dat (.int .i64) x1911)], []⟩ : St) (impl_dependents_n9 x1910 x1911) (fun (t : Int) => (Exit.ret, (⟨mkE 25 0 [(4, .dat (.int .u64) t)], []⟩ : St))) := by
  unfold impl_dependents_n9
  exact Link.cast (by kernel_rfl) (by kernel_rfl) (link_group (c := (Code.fst (Code.snd (bodyOf Tryd.f46)))) (a := (Ann.fst (Ann.snd impl_dependents_an))) [(Code.fst (bodyOf Tryd.f46))] [(Ann.fst impl_dependents_an)] rfl (link_seq (b := (Code.snd (Code.snd (bodyOf Tryd.f46)))) (y := (Ann.snd (Ann.snd impl_dependents_an))) (impl_dependents_n1_l x1910 x1911) (fun (t : Unit) => (impl_dependents_n8_l x1910 x1911))))

theorem impl_dependents_e (x1910 : List Int) (x1911 : Int) {r : AV} {H' : Heap} (h : (Ans.mk _ (impl_dependents x1910 x1911) (fun (t : Int) => (.dat (.int .u64) t, []))).run = some (r, H')) : Awp impl_dependents_ctx LL (bodyOf Tryd.f46) impl_dependents_an (⟨mkE 25 0 [(0, .dat (.list (.int .i64)) x1910), (1, .dat (.int .i64) x1911)], []⟩ : St) (Ret (tlook tys) Tryd.f46.results.toList r H') :=
  ret_of' (impl_dependents_n9_l x1910 x1911) (by unfold impl_dependents; kernel_rfl) (by
  intro t
  exact ret_mk [.dat (.int .u64) t] (by kernel_rfl) (by kernel_rfl) (by kernel_rfl) (by kernel_rfl)) h

def F_impl_dependents : Fun := fun avs H =>
  match avs, H with
  | [.dat (.list (.int .i64)) x1910, .dat (.int .i64) x1911], [] => ⟨_, impl_dependents x1910 x1911, fun (t : Int) => (.dat (.int .u64) t, [])⟩
  | _, _ => Ans.no

theorem impl_dependents_sound : Sound Tryd.prog 46 F_impl_dependents := by
  refine fn_sound' (C := impl_dependents_ctx) (c := bodyOf Tryd.f46) (cok_of tys_ok (List.forall_mem_cons.2 ⟨impl_only_sound, by simp⟩) (List.forall_mem_cons.2 ⟨Tryd.call58, by simp⟩) (by kernel_rfl)) Tryd.func46 (by kernel_rfl) LL impl_dependents_an ?_
  intro avs H r H' h
  unfold F_impl_dependents at h
  split at h
  · refine Awp.cast ?_ ?_ ?_ (impl_dependents_e _ _ h) <;> kernel_rfl
  · simp [Ans.no, Ans.run] at h

/-! math/bits.OnesCount64 -/

def math_bits_OnesCount64_an : Ann := (.seq (.leaf [0]) (.seq (.leaf [0]) (.seq (.leaf [0]) (.seq (.leaf [0]) (.seq (.leaf [0]) (.seq (.leaf [0]) (.seq (.leaf [0]) (.seq (.leaf [2]) (.leaf [2])))))))))

noncomputable def math_bits_OnesCount64_ctx : Ctx := ⟨tlook tys, olook [], ioF, 0⟩

theorem math_bits_OnesCount64_n1_l (x1955 : Int) : Link math_bits_OnesCount64_ctx LL (Code.seq (Code.fst (bodyOf Tryd.f67)) (Code.fst (Code.snd (bodyOf Tryd.f67)))) (Ann.seq (Ann.fst math_bits_OnesCount64_an) (Ann.fst (Ann.snd math_bits_OnesCount64_an))) (⟨mkE 35 0 [(0, .dat (.int .u64) x1955)], []⟩ : St) (math_bits_OnesCount64_n1 x1955) (fun (t : Int) => (Exit.normal, (⟨mkE 35 0 [(0, .dat (.int .u64) t)], []⟩ : St))) := by
  refine Link.of fun K h => ?_
  simp only [math_bits_OnesCount64_n1, wpO_bind, wpO_cond, wpO_map, wpO_some] at h
  exact Awp.of (by kernel_rfl) h

theorem math_bits_OnesCount64_n2_l (x1960 : Int) : Link math_bits_OnesCount64_ctx LL (Code.fst (Code.snd (Code.snd (bodyOf Tryd.f67)))) (Ann.fst (Ann.snd (Ann.snd math_bits_OnesCount64_an))) (⟨mkE 35 0 [(0, .dat (.int .u64) x1960)], []⟩ : St) (math_bits_OnesCount64_n2 x1960) (fun (t : Int) => (Exit.normal, (⟨mkE 35 0 [(0, .dat (.int .u64) t)], []⟩ : St))) := by
  refine Link.of fun K h => ?_
  simp only [math_bits_OnesCount64_n2, wpO_bind, wpO_cond, wpO_map, wpO_some] at h
  exact Awp.of (by kernel_rfl) h

theorem math_bits_OnesCount64_n3_l (x1977 : Int) : Link math_bits_OnesCount64_ctx LL (Code.fst (Code.snd (Code.snd (Code.snd (bodyOf Tryd.f67))))) (Ann.fst (Ann.snd (Ann.snd (Ann.snd math_bits_OnesCount64_an)))) (⟨mkE 35 0 [(0, .dat (.int .u64) x1977)], []⟩ : St) (math_bits_OnesCount64_n3 x1977) (fun (t : Int) => (Exit.normal, (⟨mkE 35 0 [(0, .dat (.int .u64) t)], []⟩ : St))) := by
  refine Link.of fun K h => ?_
  simp only [math_bits_OnesCount64_n3, wpO_bind, wpO_cond, wpO_map, wpO_some] at h
  exact Awp.of (by kernel_rfl) h

theorem math_bits_OnesCount64_n4_l (x1985 : Int) : Link math_bits_OnesCount64_ctx LL (Code.fst (Code.snd (Code.snd (Code.snd (Code.snd (bodyOf Tryd.f67)))))) (Ann.fst (Ann.snd (Ann.snd (Ann.snd (Ann.snd math_bits_OnesCount64_an))))) (⟨mkE 35 0 [(0, .dat (.int .u64) x1985)], []⟩ : St) (math_bits_OnesCount64_n4 x1985) (fun (t : Int) => (Exit.normal, (⟨mkE 35 0 [(0, .dat (.int .u64) t)], []⟩ : St))) := by
  refine Link.of fun K h => ?_
  simp only [math_bits_OnesCount64_n4, wpO_bind, wpO_cond, wpO_map, wpO_some] at h
  exact Awp.of (by kernel_rfl) h

theorem math_bits_OnesCount64_n5_l (x1989 : Int) : Link math_bits_OnesCount64_ctx LL (Code.fst (Code.snd (Code.snd (Code.snd (Code.snd (Code.snd (bodyOf Tryd.f67))))))) (Ann.fst (Ann.snd (Ann.snd (Ann.snd (Ann.snd (Ann.snd math_bits_OnesCount64_an)))))) (⟨mkE 35 0 [(0, .dat (.int .u64) x1989)], []⟩ : St) (math_bits_OnesCount64_n5 x1989) (fun (t : Int) => (Exit.normal, (⟨mkE 35 0 [(0, .dat (.int .u64) t)], []⟩ : St))) := by
  refine Link.of fun K h => ?_
  simp only [math_bits_OnesCount64_n5, wpO_bind, wpO_cond, wpO_map, wpO_some] at h
  exact Awp.of (by kernel_rfl) h

theorem math_bits_OnesCount64_n6_l (x1994 : Int) : Link math_bits_OnesCount64_ctx LL (Code.fst (Code.snd (Code.snd (Code.snd (Code.snd (Code.snd (Code.snd (bodyOf Tryd.f67)))))))) (Ann.fst (Ann.snd (Ann.snd (Ann.snd (Ann.snd (Ann.snd (Ann.snd math_bits_OnesCount64_an))))))) (⟨mkE 35 0 [(0, .dat (.int .u64) x1994)], []⟩ : St) (math_bits_OnesCount64_n6 x1994) (fun (t : Int) => (Exit.normal, (⟨mkE 35 0 [(0, .dat (.int .u64) t)], []⟩ : St))) := by
  refine Link.of fun K h => ?_
  simp only [math_bits_OnesCount64_n6, wpO_bind, wpO_cond, wpO_map, wpO_some] at h
  exact Awp.of (by kernel_rfl) h

theorem math_bits_OnesCount64_n7_l (x1999 : Int) : Link math_bits_OnesCount64_ctx LL (Code.fst (Code.snd (Code.snd (Code.snd (Code.snd (Code.snd (Code.snd (Code.snd (bodyOf Tryd.f67))))))))) (Ann.fst (Ann.snd (Ann.snd (Ann.snd (Ann.snd (Ann.snd (Ann.snd (Ann.snd math_bits_OnesCount64_an)))))))) (⟨mkE 35 0 [(0, .dat (.int .u64) x1999)], []⟩ : St) (math_bits_OnesCount64_n7 x1999) (fun (t : Int) => (Exit.normal, (⟨mkE 35 0 [(2, .dat (.int .i64) t)], []⟩ : St))) := by
  refine Link.of fun K h => ?_
  simp only [math_bits_OnesCount64_n7, wpO_bind, wpO_cond, wpO_map, wpO_some] at h
  exact Awp.of (by kernel_rfl) h

theorem math_bits_OnesCount64_n8_l (x2004 : Int) : Link math_bits_OnesCount64_ctx LL (Code.snd (Code.snd (Code.snd (Code.snd (Code.snd (Code.snd (Code.snd (Code.snd (bodyOf Tryd.f67))))))))) (Ann.snd (Ann.snd (Ann.snd (Ann.snd (Ann.snd (Ann.snd (Ann.snd (Ann.snd math_bits_OnesCount64_an)))))))) (⟨mkE 35 0 [(2, .dat (.int .i64) x2004)], []⟩ : St) (math_bits_OnesCount64_n8 x2004) (fun (t : Int) => (Exit.ret, (⟨mkE 35 0 [(2, .dat (.int .i64) t)], []⟩ : St))) := by
  refine Link.of fun K h => ?_
  simp only [math_bits_OnesCount64_n8, wpO_bind, wpO_cond, wpO_map, wpO_some] at h
  exact Awp.of (by kernel_rfl) h

theorem math_bits_OnesCount64_n9_l (x1999 : Int) : Link math_bits_OnesCount64_ctx LL (Code.snd (Code.snd (Code.snd (Code.snd (Code.snd (Code.snd (Code.snd (bodyOf Tryd.f67)))))))) (Ann.snd (Ann.snd (Ann.snd (Ann.snd (Ann.snd (Ann.snd (Ann.snd math_bits_OnesCount64_an))))))) (⟨mkE 35 0 [(0, .dat (.int .u64) x1999)], []⟩ : St) (math_bits_OnesCount64_n9 x1999) (fun (t : Int) => (Exit.ret, (⟨mkE 35 0 [(2, .dat (.int .i64) t)], []⟩ : St))) := by
  unfold math_bits_OnesCount64_n9
  exact Link.cast (by kernel_rfl) (by kernel_rfl) (link_seq (b := (Code.snd (Code.snd (Code.snd (Code.snd (Code.snd (Code.snd (Code.snd (Code.snd (bodyOf Tryd.f67)))))))))) (y := (Ann.snd (Ann.snd (Ann.snd (Ann.snd (Ann.snd (Ann.snd (Ann.snd (Ann.snd math_bits_OnesCount64_an))))))))) (math_bits_OnesCount64_n7_l x1999) (fun (t : Int) => (math_bits_OnesCount64_n8_l t)))

theorem math_bits_OnesCount64_n10_l (x1994 : Int) : Link math_bits_OnesCount64_ctx LL (Code.snd (Code.snd (Code.snd (Code.snd (Code.snd (Code.snd (bodyOf Tryd.f67))))))) (Ann.snd (Ann.snd (Ann.snd (Ann.snd (Ann.snd (Ann.snd math_bits_OnesCount64_an)))))) (⟨mkE 35 0 [(0, .dat (.int .u64) x1994)], []⟩ : St) (math_bits_OnesCount64_n10 x1994) (fun (t : Int) => (Exit.ret, (⟨mkE 35 0 [(2, .dat (.int .i64) t)], []⟩ : St))) := by
  unfold math_bits_OnesCount64_n10
  exact Link.cast (by kernel_rfl) (by kernel_rfl) (link_seq (b := (Code.snd (Code.snd (Code.snd (Code.snd (Code.snd (Code.snd (Code.snd (bodyOf Tryd.f67))))))))) (y := (Ann.snd (Ann.snd (Ann.snd (Ann.snd (Ann.snd (Ann.snd (Ann.snd math_bits_OnesCount64_an)))))))) (math_bits_OnesCount64_n6_l x1994) (fun (t : Int) => (math_bits_OnesCount64_n9_l t)))

theorem math_bits_OnesCount64_n11_l (x1989 : Int) : Link math_bits_OnesCount64_ctx LL (Code.snd (Code.snd (Code.snd (Code.snd (Code.snd (bodyOf Tryd.f67)))))) (Ann.snd (Ann.snd (Ann.snd (Ann.snd (Ann.snd math_bits_OnesCount64_an))))) (⟨mkE 35 0 [(0, .dat (.int .u64) x1989)], []⟩ : St) (math_bits_OnesCount64_n11 x1989) (fun (t : Int) => (Exit.ret, (⟨mkE 35 0 [(2, .dat (.int .i64) t)], []⟩ : St))) := by
  unfold math_bits_OnesCount64_n11
  exact Link.cast (by kernel_rfl) (by kernel_rfl) (link_seq (b := (Code.snd (Code.snd (Code.snd (Code.snd (Code.snd (Code.snd (bodyOf Tryd.f67)))))))) (y := (Ann.snd (Ann.snd (Ann.snd (Ann.snd (Ann.snd (Ann.snd math_bits_OnesCount64_an))))))) (math_bits_OnesCount64_n5_l x1989) (fun (t : Int) => (math_bits_OnesCount64_n10_l t)))

theorem math_bits_OnesCount64_n12_l (x1985 : Int) : Link math_bits_OnesCount64_ctx LL (Code.snd (Code.snd (Code.snd (Code.snd (bodyOf Tryd.f67))))) (Ann.snd (Ann.snd (Ann.snd (Ann.snd math_bits_OnesCount64_an)))) (⟨mkE 35 0 [(0, .dat (.int .u64) x1985)], []⟩ : St) (math_bits_OnesCount64_n12 x1985) (fun (t : Int) => (Exit.ret, (⟨mkE 35 0 [(2, .dat (.int .i64) t)], []⟩ : St))) := by
  unfold math_bits_OnesCount64_n12
  exact Link.cast (by kernel_rfl) (by kernel_rfl) (link_seq (b := (Code.snd (Code.snd (Code.snd (Code.snd (Code.snd (bodyOf Tryd.f67))))))) (y := (Ann.snd (Ann.snd (Ann.snd (Ann.snd (Ann.snd math_bits_OnesCount64_an)))))) (math_bits_OnesCount64_n4_l x1985) (fun (t : Int) => (math_bits_OnesCount64_n11_l t)))

theorem math_bits_OnesCount64_n13_l (x1977 : Int) : Link math_bits_OnesCount64_ctx LL (Code.snd (Code.snd (Code.snd (bodyOf Tryd.f67)))) (Ann.snd (Ann.snd (Ann.snd math_bits_OnesCount64_an))) (⟨mkE 35 0 [(0, .dat (.int .u64) x1977)], []⟩ : St) (math_bits_OnesCount64_n13 x1977) (fun (t : Int) => (Exit.ret, (⟨mkE 35 0 [(2, .dat (.int .i64) t)], []⟩ : St))) := by
  unfold math_bits_OnesCount64_n13
  exact Link.cast (by kernel_rfl) (by kernel_rfl) (link_seq (b := (Code.snd (Code.snd (Code.snd (Code.snd (bodyOf Tryd.f67)))))) (y := (Ann.snd (Ann.snd (Ann.snd (Ann.snd math_bits_OnesCount64_an))))) (math_bits_OnesCount64_n3_l x1977) (fun (t : Int) => (math_bits_OnesCount64_n12_l t)))

theorem math_bits_OnesCount64_n14_l (x1960 : Int) : Link math_bits_OnesCount64_ctx LL (Code.snd (Code.snd (bodyOf Tryd.f67))) (Ann.snd (Ann.snd math_bits_OnesCount64_an)) (⟨mkE 35 0 [(0, .dat (.int .u64) x1960)], []⟩ : St) (math_bits_OnesCount64_n14 x1960) (fun (t : Int) => (Exit.ret, (⟨mkE 35 0 [(2, .dat (.int .i64) t)], []⟩ : St))) := by
  unfold math_bits_OnesCount64_n14
  exact Link.cast (by kernel_rfl) (by kernel_rfl) (link_seq (b := (Code.snd (Code.snd (Code.snd (bodyOf Tryd.f67))))) (y := (Ann.snd (Ann.snd (Ann.snd math_bits_OnesCount64_an)))) (math_bits_OnesCount64_n2_l x1960) (fun (t : Int) => (math_bits_OnesCount64_n13_l t)))

theorem math_bits_OnesCount64_n15_l (x1955 : Int) : Link math_bits_OnesCount64_ctx LL (bodyOf Tryd.f67) math_bits_OnesCount64_an (⟨mkE 35 0 [(0, .dat (.int .u64) x1955)], []⟩ : St) (math_bits_OnesCount64_n15 x1955) (fun (t : Int) => (Exit.ret, (⟨mkE 35 0 [(2, .dat (.int .i64) t)], []⟩ : St))) := by
  unfold math_bits_OnesCount64_n15
  exact Link.cast (by kernel_rfl) (by kernel_rfl) (link_group (c := (Code.fst (Code.snd (bodyOf Tryd.f67)))) (a := (Ann.fst (Ann.snd math_bits_OnesCount64_an))) [(Code.fst (bodyOf Tryd.f67))] [(Ann.fst math_bits_OnesCount64_an)] rfl (link_seq (b := (Code.snd (Code.snd (bodyOf Tryd.f67)))) (y := (Ann.snd (Ann.snd math_bits_OnesCount64_an))) (math_bits_OnesCount64_n1_l x1955) (fun (t : Int) => (math_bits_OnesCount64_n14_l t))))

theorem math_bits_OnesCount64_e (x1955 : Int) {r : AV} {H' : Heap} (h : (Ans.mk _ (math_bits_OnesCount64 x1955) (fun (t : Int) => (.dat (.int .i64) t, []))).run = some (r, H')) : Awp math_bits_OnesCount64_ctx LL (bodyOf Tryd.f67) math_bits_OnesCount64_an (⟨mkE 35 0 [(0, .dat (.int .u64) x1955)], []⟩ : St) (Ret (tlook tys) Tryd.f67.results.toList r H') :=
  ret_of' (math_bits_OnesCount64_n15_l x1955) (by unfold math_bits_OnesCount64; kernel_rfl) (by
  intro t
  exact ret_mk [.dat (.int .i64) t] (by kernel_rfl) (by kernel_rfl) (by kernel_rfl) (by kernel_rfl)) h

def F_math_bits_OnesCount64 : Fun := fun avs H =>
  match avs, H with
  | [.dat (.int .u64) x1955], [] => ⟨_, math_bits_OnesCount64 x1955, fun (t : Int) => (.dat (.int .i64) t, [])⟩
  | _, _ => Ans.no

theorem math_bits_OnesCount64_sound : Sound Tryd.prog 67 F_math_bits_OnesCount64 := by
  refine fn_sound' (C := math_bits_OnesCount64_ctx) (c := bodyOf Tryd.f67) (cok_of tys_ok (by simp) (by simp) (by kernel_rfl)) Tryd.func67 (by kernel_rfl) LL math_bits_OnesCount64_an ?_
  intro avs H r H' h
  unfold F_math_bits_OnesCount64 at h
  split at h
  · refine Awp.cast ?_ ?_ ?_ (math_bits_OnesCount64_e _ h) <;> kernel_rfl
  · simp [Ans.no, Ans.run] at h

/-! math/bits.OnesCount -/

def math_bits_OnesCount_an : Ann := (.seq (.leaf [0]) (.seq (.cond (.seq (.leaf [2]) (.leaf [2])) (.leaf [0])) (.seq (.leaf [2]) (.leaf [2]))))

noncomputable def math_bits_OnesCount_ctx : Ctx := ⟨tlook tys, olook [(67, F_math_bits_OnesCount64)], ioF, 0⟩

theorem math_bits_OnesCount_n1_l (x1954 : Int) : Link math_bits_OnesCount_ctx LL (bodyOf Tryd.f63) math_bits_OnesCount_an (⟨mkE 8 0 [(0, .dat (.int .u64) x1954)], []⟩ : St) (math_bits_OnesCount_n1 x1954) (fun (t : Int) => (Exit.ret, (⟨mkE 8 0 [(2, .dat (.int .i64) t)], []⟩ : St))) := by
  refine Link.of fun K h => ?_
  simp only [math_bits_OnesCount_n1, wpO_bind, wpO_cond, wpO_map, wpO_some] at h
  exact Awp.of (by kernel_rfl) h

theorem math_bits_OnesCount_e (x1954 : Int) {r : AV} {H' : Heap} (h : (Ans.mk _ (math_bits_OnesCount x1954) (fun (t : Int) => (.dat (.int .i64) t, []))).run = some (r, H')) : Awp math_bits_OnesCount_ctx LL (bodyOf Tryd.f63) math_bits_OnesCount_an (⟨mkE 8 0 [(0, .dat (.int .u64) x1954)], []⟩ : St) (Ret (tlook tys) Tryd.f63.results.toList r H') :=
  ret_of' (math_bits_OnesCount_n1_l x1954) (by unfold math_bits_OnesCount; kernel_rfl) (by
  intro t
  exact ret_mk [.dat (.int .i64) t] (by kernel_rfl) (by kernel_rfl) (by kernel_rfl) (by kernel_rfl)) h

def F_math_bits_OnesCount : Fun := fun avs H =>
  match avs, H with
  | [.dat (.int .u64) x1954], [] => ⟨_, math_bits_OnesCount x1954, fun (t : Int) => (.dat (.int .i64) t, [])⟩
  | _, _ => Ans.no

theorem math_bits_OnesCount_sound : Sound Tryd.prog 63 F_math_bits_OnesCount := by
  refine fn_sound' (C := math_bits_OnesCount_ctx) (c := bodyOf Tryd.f63) (cok_of tys_ok (List.forall_mem_cons.2 ⟨math_bits_OnesCount64_sound, by simp⟩) (List.forall_mem_cons.2 ⟨Tryd.call67, by simp⟩) (by kernel_rfl)) Tryd.func63 (by kernel_rfl) LL math_bits_OnesCount_an ?_
  intro avs H r H' h
  unfold F_math_bits_OnesCount at h
  split at h
  · refine Awp.cast ?_ ?_ ?_ (math_bits_OnesCount_e _ h) <;> kernel_rfl
  · simp [Ans.no, Ans.run] at h

/-! (loop.example/headtrees/impl.wordSet).count -/

def impl_wordSet_count_an : Ann := (.seq (.leaf [0]) (.seq (.leaf [2]) (.leaf [2])))

noncomputable def impl_wordSet_count_ctx : Ctx := ⟨tlook tys, olook [(63, F_math_bits_OnesCount)], ioF, 0⟩

theorem impl_wordSet_count_n1_l (x1953 : Int) : Link impl_wordSet_count_ctx LL (bodyOf Tryd.f59) impl_wordSet_count_an (⟨mkE 5 0 [(0, .dat (.int .u64) x1953)], []⟩ : St) (impl_wordSet_count_n1 x1953) (fun (t : Int) => (Exit.ret, (⟨mkE 5 0 [(2, .dat (.int .i64) t)], []⟩ : St))) := by
  refine Link.of fun K h => ?_
  simp only [impl_wordSet_count_n1, wpO_bind, wpO_cond, wpO_map, wpO_some] at h
  exact Awp.of (by kernel_rfl) h

theorem impl_wordSet_count_e (x1953 : Int) {r : AV} {H' : Heap} (h : (Ans.mk _ (impl_wordSet_count x1953) (fun (t : Int) => (.dat (.int .i64) t, []))).run = some (r, H')) : Awp impl_wordSet_count_ctx LL (bodyOf Tryd.f59) impl_wordSet_count_an (⟨mkE 5 0 [(0, .dat (.int .u64) x1953)], []⟩ : St) (Ret (tlook tys) Tryd.f59.results.toList r H') :=
  ret_of' (impl_wordSet_count_n1_l x1953) (by unfold impl_wordSet_count; kernel_rfl) (by
  intro t
  exact ret_mk [.dat (.int .i64) t] (by kernel_rfl) (by kernel_rfl) (by kernel_rfl) (by kernel_rfl)) h

def F_impl_wordSet_count : Fun := fun avs H =>
  match avs, H with
  | [.dat (.int .u64) x1953], [] => ⟨_, impl_wordSet_count x1953, fun (t : Int) => (.dat (.int .i64) t, [])⟩
  | _, _ => Ans.no

theorem impl_wordSet_count_sound : Sound Tryd.prog 59 F_impl_wordSet_count := by
  refine fn_sound' (C := impl_wordSet_count_ctx) (c := bodyOf Tryd.f59) (cok_of tys_ok (List.forall_mem_cons.2 ⟨math_bits_OnesCount_sound, by simp⟩) (List.forall_mem_cons.2 ⟨Tryd.call63, by simp⟩) (by kernel_rfl)) Tryd.func59 (by kernel_rfl) LL impl_wordSet_count_an ?_
  intro avs H r H' h
  unfold F_impl_wordSet_count at h
  split at h
  · refine Awp.cast ?_ ?_ ?_ (impl_wordSet_count_e _ h) <;> kernel_rfl
  · simp [Ans.no, Ans.run] at h

/-! math/bits.TrailingZeros64 -/

def math_bits_TrailingZeros64_an : Ann := (.seq (.leaf [0]) (.seq (.seq (.leaf [0, 4]) (.cond (.seq (.leaf [2]) (.leaf [2])) (.leaf [0]))) (.seq (.leaf [2]) (.leaf [2]))))

noncomputable def math_bits_TrailingZeros64_ctx : Ctx := ⟨tlook tys, olook [], ioF, 0⟩

theorem math_bits_TrailingZeros64_n1_l (x2015 : Int) : Link math_bits_TrailingZeros64_ctx LL (bodyOf Tryd.f65) math_bits_TrailingZeros64_an (⟨mkE 14 0 [(0, .dat (.int .u64) x2015)], []⟩ : St) (math_bits_TrailingZeros64_n1 x2015) (fun (t : Int) => (Exit.ret, (⟨mkE 14 0 [(2, .dat (.int .i64) t)], []⟩ : St))) := by
  refine Link.of fun K h => ?_
  simp only [math_bits_TrailingZeros64_n1, wpO_bind, wpO_cond, wpO_map, wpO_some] at h
  exact Awp.of (by kernel_rfl) h

theorem math_bits_TrailingZeros64_e (x2015 : Int) {r : AV} {H' : Heap} (h : (Ans.mk _ (math_bits_TrailingZeros64 x2015) (fun (t : Int) => (.dat (.int .i64) t, []))).run = some (r, H')) : Awp math_bits_TrailingZeros64_ctx LL (bodyOf Tryd.f65) math_bits_TrailingZeros64_an (⟨mkE 14 0 [(0, .dat (.int .u64) x2015)], []⟩ : St) (Ret (tlook tys) Tryd.f65.results.toList r H') :=
  ret_of' (math_bits_TrailingZeros64_n1_l x2015) (by unfold math_bits_TrailingZeros64; kernel_rfl) (by
  intro t
  exact ret_mk [.dat (.int .i64) t] (by kernel_rfl) (by kernel_rfl) (by kernel_rfl) (by kernel_rfl)) h

def F_math_bits_TrailingZeros64 : Fun := fun avs H =>
  match avs, H with
  | [.dat (.int .u64) x2015], [] => ⟨_, math_bits_TrailingZeros64 x2015, fun (t : Int) => (.dat (.int .i64) t, [])⟩
  | _, _ => Ans.no

theorem math_bits_TrailingZeros64_sound : Sound Tryd.prog 65 F_math_bits_TrailingZeros64 := by
  refine fn_sound' (C := math_bits_TrailingZeros64_ctx) (c := bodyOf Tryd.f65) (cok_of tys_ok (by simp) (by simp) (by kernel_rfl)) Tryd.func65 (by kernel_rfl) LL math_bits_TrailingZeros64_an ?_
  intro avs H r H' h
  unfold F_math_bits_TrailingZeros64 at h
  split at h
  · refine Awp.cast ?_ ?_ ?_ (math_bits_TrailingZeros64_e _ h) <;> kernel_rfl
  · simp [Ans.no, Ans.run] at h

/-! math/bits.TrailingZeros -/

def math_bits_TrailingZeros_an : Ann := (.seq (.leaf [0]) (.seq (.cond (.seq (.leaf [2]) (.leaf [2])) (.leaf [0])) (.seq (.leaf [2]) (.leaf [2]))))

noncomputable def math_bits_TrailingZeros_ctx : Ctx := ⟨tlook tys, olook [(65, F_math_bits_TrailingZeros64)], ioF, 0⟩

theorem math_bits_TrailingZeros_n1_l (x2014 : Int) : Link math_bits_TrailingZeros_ctx LL (bodyOf Tryd.f60) math_bits_TrailingZeros_an (⟨mkE 8 0 [(0, .dat (.int .u64) x2014)], []⟩ : St) (math_bits_TrailingZeros_n1 x2014) (fun (t : Int) => (Exit.ret, (⟨mkE 8 0 [(2, .dat (.int .i64) t)], []⟩ : St))) := by
  refine Link.of fun K h => ?_
  simp only [math_bits_TrailingZeros_n1, wpO_bind, wpO_cond, wpO_map, wpO_some] at h
  exact Awp.of (by kernel_rfl) h

theorem math_bits_TrailingZeros_e (x2014 : Int) {r : AV} {H' : Heap} (h : (Ans.mk _ (math_bits_TrailingZeros x2014) (fun (t : Int) => (.dat (.int .i64) t, []))).run = some (r, H')) : Awp math_bits_TrailingZeros_ctx LL (bodyOf Tryd.f60) math_bits_TrailingZeros_an (⟨mkE 8 0 [(0, .dat (.int .u64) x2014)], []⟩ : St) (Ret (tlook tys) Tryd.f60.results.toList r H') :=
  ret_of' (math_bits_TrailingZeros_n1_l x2014) (by unfold math_bits_TrailingZeros; kernel_rfl) (by
  intro t
  exact ret_mk [.dat (.int .i64) t] (by kernel_rfl) (by kernel_rfl) (by kernel_rfl) (by kernel_rfl)) h

def F_math_bits_TrailingZeros : Fun := fun avs H =>
  match avs, H with
  | [.dat (.int .u64) x2014], [] => ⟨_, math_bits_TrailingZeros x2014, fun (t : Int) => (.dat (.int .i64) t, [])⟩
  | _, _ => Ans.no

theorem math_bits_TrailingZeros_sound : Sound Tryd.prog 60 F_math_bits_TrailingZeros := by
  refine fn_sound' (C := math_bits_TrailingZeros_ctx) (c := bodyOf Tryd.f60) (cok_of tys_ok (List.forall_mem_cons.2 ⟨math_bits_TrailingZeros64_sound, by simp⟩) (List.forall_mem_cons.2 ⟨Tryd.call65, by simp⟩) (by kernel_rfl)) Tryd.func60 (by kernel_rfl) LL math_bits_TrailingZeros_an ?_
  intro avs H r H' h
  unfold F_math_bits_TrailingZeros at h
  split at h
  · refine Awp.cast ?_ ?_ ?_ (math_bits_TrailingZeros_e _ h) <;> kernel_rfl
  · simp [Ans.no, Ans.run] at h

/-! (loop.example/headtrees/impl.wordSet).list -/

def impl_wordSet_list_an : Ann := (.seq (.leaf [0]) (.seq (.leaf [0, 3]) (.seq (.seq (.leaf [3, 4]) (.block (.loop (.seq (.seq (.leaf [3, 4, 10]) (.cond (.leaf [3, 4]) (.leaf [3]))) (.seq (.block (.leaf [3, 4])) (.leaf [3, 4])))))) (.seq (.leaf [2]) (.leaf [2])))))

noncomputable def impl_wordSet_list_ctx : Ctx := ⟨tlook tys, olook [(59, F_impl_wordSet_count), (60, F_math_bits_TrailingZeros)], ioF, 0⟩

theorem impl_wordSet_list_n1_l (x1952 : Int) : Link impl_wordSet_list_ctx LL (Code.seq (Code.fst (bodyOf Tryd.f49)) (Code.fst (Code.snd (bodyOf Tryd.f49)))) (Ann.seq (Ann.fst impl_wordSet_list_an) (Ann.fst (Ann.snd impl_wordSet_list_an))) (⟨mkE 22 0 [(0, .dat (.int .u64) x1952)], []⟩ : St) (impl_wordSet_list_n1 x1952) (fun (t : (List Int)) => (Exit.normal, (⟨mkE 22 0 [(0, .dat (.int .u64) x1952), (3, .slc 0)], [some (.seq (.int .i64) t)]⟩ : St))) := by
  refine Link.of fun K h => ?_
  simp only [impl_wordSet_list_n1, wpO_bind, wpO_cond, wpO_map, wpO_some] at h
  exact Awp.of (by kernel_rfl) h

theorem impl_wordSet_list_n2_l (x1952 : Int) (x2011 : List Int) : Link impl_wordSet_list_ctx LL (Code.fst (Code.fst (Code.snd (Code.snd (bodyOf Tryd.f49))))) (Ann.fst (Ann.fst (Ann.snd (Ann.snd impl_wordSet_list_an)))) (⟨mkE 22 0 [(0, .dat (.int .u64) x1952), (3, .slc 0)], [some (.seq (.int .i64) x2011)]⟩ : St) (impl_wordSet_list_n2) (fun (t : Unit) => (Exit.normal, (⟨mkE 22 0 [(3, .slc 0), (4, .dat (.int .u64) x1952)], [some (.seq (.int .i64) x2011)]⟩ : St))) := by
  refine Link.of fun K h => ?_
  simp only [impl_wordSet_list_n2, wpO_bind, wpO_cond, wpO_map, wpO_some] at h
  exact Awp.of (by kernel_rfl) h

theorem impl_wordSet_list_n3_l (x2054 : Int) (x2055 : List Int) : Link impl_wordSet_list_ctx LL (Code.fst (Code.fst (Code.snd (Code.fst (Code.snd (Code.snd (bodyOf Tryd.f49))))))) (Ann.fst (Ann.fst (Ann.snd (Ann.fst (Ann.snd (Ann.snd impl_wordSet_list_an)))))) (⟨mkE 22 0 [(3, .slc 0), (4, .dat (.int .u64) x2054)], [some (.seq (.int .i64) x2055)]⟩ : St) (impl_wordSet_list_n3 x2054 x2055) (Sum.elim (fun (t : Int × (List Int)) => (Exit.normal, (⟨mkE 22 0 [(3, .slc 0), (4, .dat (.int .u64) t.1)], [some (.seq (.int .i64) t.2)]⟩ : St))) (fun (t : (List Int)) => ((Exit.exit 0), (⟨mkE 22 0 [(3, .slc 0)], [some (.seq (.int .i64) t)]⟩ : St)))) := by
  refine Link.of fun K h => ?_
  simp only [impl_wordSet_list_n3, wpO_bind, wpO_cond, wpO_map, wpO_some] at h
  exact Awp.of (by kernel_rfl) h

theorem impl_wordSet_list_n4_l (x1952 : Int) (x2011 : List Int) : Link impl_wordSet_list_ctx LL (Code.fst (Code.snd (Code.fst (Code.snd (Code.snd (bodyOf Tryd.f49)))))) (Ann.fst (Ann.snd (Ann.fst (Ann.snd (Ann.snd impl_wordSet_list_an))))) (⟨mkE 22 0 [(3, .slc 0), (4, .dat (.int .u64) x1952)], [some (.seq (.int .i64) x2011)]⟩ : St) (impl_wordSet_list_n4 x1952 x2011) (fun (t : (List Int)) => ((Exit.exit 0), (⟨mkE 22 0 [(3, .slc 0)], [some (.seq (.int .i64) t)]⟩ : St))) := by
  unfold impl_wordSet_list_n4
  exact Link.cast (by kernel_rfl) (by kernel_rfl) (link_loop (mk := fun (s : Int × (List Int)) => (⟨mkE 22 0 [(3, .slc 0), (4, .dat (.int .u64) s.1)], [some (.seq (.int .i64) s.2)]⟩ : St)) (fin := (fun (t : (List Int)) => ((Exit.exit 0), (⟨mkE 22 0 [(3, .slc 0)], [some (.seq (.int .i64) t)]⟩ : St)))) (by
  rintro t f K h
  · exact h) (fun s => link_map (impl_wordSet_list_n3_l s.1 s.2) (Sum.elim (fun (t : Int × (List Int)) => Sum.inl (t.1, t.2)) (fun (t : (List Int)) => Sum.inr t)) (by
  rintro (t | t)
  · kernel_rfl
  · kernel_rfl)) (x1952, x2011))

theorem impl_wordSet_list_n5_l (x1952 : Int) (x2011 : List Int) : Link impl_wordSet_list_ctx LL (Code.snd (Code.fst (Code.snd (Code.snd (bodyOf Tryd.f49))))) (Ann.snd (Ann.fst (Ann.snd (Ann.snd impl_wordSet_list_an)))) (⟨mkE 22 0 [(3, .slc 0), (4, .dat (.int .u64) x1952)], [some (.seq (.int .i64) x2011)]⟩ : St) (impl_wordSet_list_n5 x1952 x2011) (fun (t : (List Int)) => (Exit.normal, (⟨mkE 22 0 [(3, .slc 0)], [some (.seq (.int .i64) t)]⟩ : St))) := by
  unfold impl_wordSet_list_n5
  exact Link.cast (by kernel_rfl) (by kernel_rfl) (link_block (id := 0) (impl_wordSet_list_n4_l x1952 x2011) (fun (t : (List Int)) => t) (by
  rintro t K h
  · exact Eq.mp (by kernel_rfl) h))

theorem impl_wordSet_list_n6_l (x1952 : Int) (x2011 : List Int) : Link impl_wordSet_list_ctx LL (Code.fst (Code.snd (Code.snd (bodyOf Tryd.f49)))) (Ann.fst (Ann.snd (Ann.snd impl_wordSet_list_an))) (⟨mkE 22 0 [(0, .dat (.int .u64) x1952), (3, .slc 0)], [some (.seq (.int .i64) x2011)]⟩ : St) (impl_wordSet_list_n6 x1952 x2011) (fun (t : (List Int)) => (Exit.normal, (⟨mkE 22 0 [(3, .slc 0)], [some (.seq (.int .i64) t)]⟩ : St))) := by
  unfold impl_wordSet_list_n6
  exact Link.cast (by kernel_rfl) (by kernel_rfl) (link_seq (b := (Code.snd (Code.fst (Code.snd (Code.snd (bodyOf Tryd.f49)))))) (y := (Ann.snd (Ann.fst (Ann.snd (Ann.snd impl_wordSet_list_an))))) (impl_wordSet_list_n2_l x1952 x2011) (fun (t : Unit) => (impl_wordSet_list_n5_l x1952 x2011)))

theorem impl_wordSet_list_n7_l (x2055 : List Int) : Link impl_wordSet_list_ctx LL (Code.snd (Code.snd (Code.snd (bodyOf Tryd.f49)))) (Ann.snd (Ann.snd (Ann.snd impl_wordSet_list_an))) (⟨mkE 22 0 [(3, .slc 0)], [some (.seq (.int .i64) x2055)]⟩ : St) (impl_wordSet_list_n7 x2055) (fun (t : (List Int)) => (Exit.ret, (⟨mkE 22 0 [(2, .slc 0)], [some (.seq (.int .i64) t)]⟩ : St))) := by
  refine Link.of fun K h => ?_
  simp only [impl_wordSet_list_n7, wpO_bind, wpO_cond, wpO_map, wpO_some] at h
  exact Awp.of (by kernel_rfl) h

theorem impl_wordSet_list_n8_l (x1952 : Int) (x2011 : List Int) : Link impl_wordSet_list_ctx LL (Code.snd (Code.snd (bodyOf Tryd.f49))) (Ann.snd (Ann.snd impl_wordSet_list_an)) (⟨mkE 22 0 [(0, .dat (.int .u64) x1952), (3, .slc 0)], [some (.seq (.int .i64) x2011)]⟩ : St) (impl_wordSet_list_n8 x1952 x2011) (fun (t : (List Int)) => (Exit.ret, (⟨mkE 22 0 [(2, .slc 0)], [some (.seq (.int .i64) t)]⟩ : St))) := by
  unfold impl_wordSet_list_n8
  exact Link.cast (by kernel_rfl) (by kernel_rfl) (link_seq (b := (Code.snd (Code.snd (Code.snd (bodyOf Tryd.f49))))) (y := (Ann.snd (Ann.snd (Ann.snd impl_wordSet_list_an)))) (impl_wordSet_list_n6_l x1952 x2011) (fun (t : (List Int)) => (impl_wordSet_list_n7_l t)))

theorem impl_wordSet_list_n9_l (x1952 : Int) : Link impl_wordSet_list_ctx LL (bodyOf Tryd.f49) impl_wordSet_list_an (⟨mkE 22 0 [(0, .dat (.int .u64) x1952)], []⟩ : St) (impl_wordSet_list_n9 x1952) (fun (t : (List Int)) => (Exit.ret, (⟨mkE 22 0 [(2, .slc 0)], [some (.seq (.int .i64) t)]⟩ : St))) := by
  unfold impl_wordSet_list_n9
  exact Link.cast (by kernel_rfl) (by kernel_rfl) (link_group (c := (Code.fst (Code.snd (bodyOf Tryd.f49)))) (a := (Ann.fst (Ann.snd impl_wordSet_list_an))) [(Code.fst (bodyOf Tryd.f49))] [(Ann.fst impl_wordSet_list_an)] rfl (link_seq (b := (Code.snd (Code.snd (bodyOf Tryd.f49)))) (y := (Ann.snd (Ann.snd impl_wordSet_list_an))) (impl_wordSet_list_n1_l x1952) (fun (t : (List Int)) => (impl_wordSet_list_n8_l x1952 t))))

theorem impl_wordSet_list_e (x1952 : Int) {r : AV} {H' : Heap} (h : (Ans.mk _ (impl_wordSet_list x1952) (fun (t : (List Int)) => (.slc 0, [some (.seq (.int .i64) t)]))).run = some (r, H')) : Awp impl_wordSet_list_ctx LL (bodyOf Tryd.f49) impl_wordSet_list_an (⟨mkE 22 0 [(0, .dat (.int .u64) x1952)], []⟩ : St) (Ret (tlook tys) Tryd.f49.results.toList r H') :=
  ret_of' (impl_wordSet_list_n9_l x1952) (by unfold impl_wordSet_list; kernel_rfl) (by
  intro t
  exact ret_mk [.slc 0] (by kernel_rfl) (by kernel_rfl) (by kernel_rfl) (by kernel_rfl)) h

def F_impl_wordSet_list : Fun := fun avs H =>
  match avs, H with
  | [.dat (.int .u64) x1952], [] => ⟨_, impl_wordSet_list x1952, fun (t : (List Int)) => (.slc 0, [some (.seq (.int .i64) t)])⟩
  | _, _ => Ans.no

theorem impl_wordSet_list_sound : Sound Tryd.prog 49 F_impl_wordSet_list := by
  refine fn_sound' (C := impl_wordSet_list_ctx) (c := bodyOf Tryd.f49) (cok_of tys_ok (List.forall_mem_cons.2 ⟨impl_wordSet_count_sound, List.forall_mem_cons.2 ⟨math_bits_TrailingZeros_sound, by simp⟩⟩) (List.forall_mem_cons.2 ⟨Tryd.call59, List.forall_mem_cons.2 ⟨Tryd.call60, by simp⟩⟩) (by kernel_rfl)) Tryd.func49 (by kernel_rfl) LL impl_wordSet_list_an ?_
  intro avs H r H' h
  unfold F_impl_wordSet_list at h
  split at h
  · refine Awp.cast ?_ ?_ ?_ (impl_wordSet_list_e _ h) <;> kernel_rfl
  · simp [Ans.no, Ans.run] at h

/-! loop.example/headtrees/impl.fillYields -/

def impl_fillYields_an : Ann := (.seq (.leaf [0, 1, 2]) (.seq (.leaf [0, 1, 2, 7]) (.seq (.seq (.leaf [0, 1, 2, 7, 15, 16, 17]) (.block (.loop (.seq (.leaf [0, 1, 2, 7, 15, 16, 17, 18]) (.seq (.cond (.leaf [0, 1, 2, 7, 15, 16, 17]) (.leaf [0, 2, 7])) (.seq (.block (.seq (.leaf [0, 1, 2, 7, 9, 15, 16, 17]) (.leaf [0, 1, 2, 7, 15, 16, 17]))) (.leaf [0, 1, 2, 7, 15, 16, 17]))))))) (.seq (.leaf [7]) (.seq (.leaf [6]) (.leaf [6]))))))

def F_impl_fillYields_fuel (n : Nat) : Fun := fun avs H =>
  match avs, H with
  | [.slc 0, .dat (.list (.int .i64)) x1901, .dat (.int .i64) x1902], [some (.seq (.int .u64) x1903)] => ⟨_, impl_fillYields_fuel n x1901 x1902 x1903, fun (t : Int × (List Int)) => (.dat (.int .u64) t.1, [some (.seq (.int .u64) t.2)])⟩
  | _, _ => Ans.no

noncomputable def impl_fillYields_ctx (n : Nat) : Ctx := ⟨tlook tys, olook [(58, F_impl_only), (46, F_impl_dependents), (49, F_impl_wordSet_list), (45, F_impl_fillYields_fuel n)], ioF, 1⟩

theorem impl_fillYields_n1_l (n : Nat) (x1901 : List Int) (x1902 : Int) (x1903 : List Int) : Link (impl_fillYields_ctx n) LL (Code.seq (Code.fst (bodyOf Tryd.f45)) (Code.fst (Code.snd (bodyOf Tryd.f45)))) (Ann.seq (Ann.fst impl_fillYields_an) (Ann.fst (Ann.snd impl_fillYields_an))) (⟨mkE 34 0 [(0, .slc 0), (1, .dat (.list (.int .i64)) x1901), (2, .dat (.int .i64) x1902)], [some (.seq (.int .u64) x1903)]⟩ : St) (impl_fillYields_n1 (impl_fillYields_fuel n) x1902) (fun (t : Int) => (Exit.normal, (⟨mkE 34 0 [(0, .slc 0), (1, .dat (.list (.int .i64)) x1901), (2, .dat (.int .i64) x1902), (7, .dat (.int .u64) t)], [some (.seq (.int .u64) x1903)]⟩ : St))) := by
  refine Link.of fun K h => ?_
  simp only [impl_fillYields_n1, wpO_bind, wpO_cond, wpO_map, wpO_some] at h
  exact Awp.of (by kernel_rfl) h

theorem impl_fillYields_n2_l (n : Nat) (x1901 : List Int) (x1902 : Int) (x2089 : Int) (x1903 : List Int) : Link (impl_fillYields_ctx n) LL (Code.fst (Code.fst (Code.snd (Code.snd (bodyOf Tryd.f45))))) (Ann.fst (Ann.fst (Ann.snd (Ann.snd impl_fillYields_an)))) (⟨mkE 34 0 [(0, .slc 0), (1, .dat (.list (.int .i64)) x1901), (2, .dat (.int .i64) x1902), (7, .dat (.int .u64) x2089)], [some (.seq (.int .u64) x1903)]⟩ : St) (impl_fillYields_n2 (impl_fillYields_fuel n) x1901 x1902) (fun (t : Int × (List Int)) => (Exit.normal, (⟨mkE 34 0 [(0, .slc 0), (1, .dat (.list (.int .i64)) x1901), (2, .dat (.int .i64) x1902), (7, .dat (.int .u64) x2089), (15, .slc 1), (16, .dat (.int .i64) t.1), (17, .dat (.int .i64) 0)], [some (.seq (.int .u64) x1903), some (.seq (.int .i64) t.2)]⟩ : St))) := by
  refine Link.of fun K h => ?_
  simp only [impl_fillYields_n2, wpO_bind, wpO_cond, wpO_map, wpO_some] at h
  exact Awp.of (by kernel_rfl) h

theorem impl_fillYields_n3_l (n : Nat) (x1901 : List Int) (x1902 : Int) (x2110 : Int) (x2092 : Int) (x2111 : Int) (x2112 : List Int) (x2091 : List Int) : Link (impl_fillYields_ctx n) LL (Code.fst (Code.fst (Code.snd (Code.fst (Code.snd (Code.snd (bodyOf Tryd.f45))))))) (Ann.fst (Ann.fst (Ann.snd (Ann.fst (Ann.snd (Ann.snd impl_fillYields_an)))))) (⟨mkE 34 0 [(0, .slc 0), (1, .dat (.list (.int .i64)) x1901), (2, .dat (.int .i64) x1902), (7, .dat (.int .u64) x2110), (15, .slc 1), (16, .dat (.int .i64) x2092), (17, .dat (.int .i64) x2111)], [some (.seq (.int .u64) x2112), some (.seq (.int .i64) x2091)]⟩ : St) (impl_fillYields_n3 (impl_fillYields_fuel n) x1901 x2110 x2092 x2111 x2112 x2091) (Sum.elim (fun (t : Int × Int × (List Int)) => (Exit.normal, (⟨mkE 34 0 [(0, .slc 0), (1, .dat (.list (.int .i64)) x1901), (2, .dat (.int .i64) x1902), (7, .dat (.int .u64) t.1), (15, .slc 1), (16, .dat (.int .i64) x2092), (17, .dat (.int .i64) t.2.1)], [some (.seq (.int .u64) t.2.2), some (.seq (.int .i64) x2091)]⟩ : St))) (fun (t : Int × (List Int)) => ((Exit.exit 0), (⟨mkE 34 0 [(0, .slc 0), (2, .dat (.int .i64) x1902), (7, .dat (.int .u64) t.1)], [some (.seq (.int .u64) t.2)]⟩ : St)))) := by
  refine Link.of fun K h => ?_
  simp only [impl_fillYields_n3, wpO_bind, wpO_cond, wpO_map, wpO_some] at h
  exact Awp.of (by kernel_rfl) h

theorem impl_fillYields_n4_l (n : Nat) (x1901 : List Int) (x1902 : Int) (x2089 : Int) (x2092 : Int) (x1903 : List Int) (x2091 : List Int) : Link (impl_fillYields_ctx n) LL (Code.fst (Code.snd (Code.fst (Code.snd (Code.snd (bodyOf Tryd.f45)))))) (Ann.fst (Ann.snd (Ann.fst (Ann.snd (Ann.snd impl_fillYields_an))))) (⟨mkE 34 0 [(0, .slc 0), (1, .dat (.list (.int .i64)) x1901), (2, .dat (.int .i64) x1902), (7, .dat (.int .u64) x2089), (15, .slc 1), (16, .dat (.int .i64) x2092), (17, .dat (.int .i64) 0)], [some (.seq (.int .u64) x1903), some (.seq (.int .i64) x2091)]⟩ : St) (impl_fillYields_n4 (impl_fillYields_fuel n) x1901 x2089 x2092 x1903 x2091) (fun (t : Int × (List Int)) => ((Exit.exit 0), (⟨mkE 34 0 [(0, .slc 0), (2, .dat (.int .i64) x1902), (7, .dat (.int .u64) t.1)], [some (.seq (.int .u64) t.2)]⟩ : St))) := by
  unfold impl_fillYields_n4
  exact Link.cast (by kernel_rfl) (by kernel_rfl) (link_loop (mk := fun (s : Int × Int × (List Int)) => (⟨mkE 34 0 [(0, .slc 0), (1, .dat (.list (.int .i64)) x1901), (2, .dat (.int .i64) x1902), (7, .dat (.int .u64) s.1), (15, .slc 1), (16, .dat (.int .i64) x2092), (17, .dat (.int .i64) s.2.1)], [some (.seq (.int .u64) s.2.2), some (.seq (.int .i64) x2091)]⟩ : St)) (fin := (fun (t : Int × (List Int)) => ((Exit.exit 0), (⟨mkE 34 0 [(0, .slc 0), (2, .dat (.int .i64) x1902), (7, .dat (.int .u64) t.1)], [some (.seq (.int .u64) t.2)]⟩ : St)))) (by
  rintro t f K h
  · exact h) (fun s => link_map (impl_fillYields_n3_l n x1901 x1902 s.1 x2092 s.2.1 s.2.2 x2091) (Sum.elim (fun (t : Int × Int × (List Int)) => Sum.inl (t.1, t.2.1, t.2.2)) (fun (t : Int × (List Int)) => Sum.inr t)) (by
  rintro (t | t)
  · kernel_rfl
  · kernel_rfl)) (x2089, 0, x1903))

theorem impl_fillYields_n5_l (n : Nat) (x1901 : List Int) (x1902 : Int) (x2089 : Int) (x2092 : Int) (x1903 : List Int) (x2091 : List Int) : Link (impl_fillYields_ctx n) LL (Code.snd (Code.fst (Code.snd (Code.snd (bodyOf Tryd.f45))))) (Ann.snd (Ann.fst (Ann.snd (Ann.snd impl_fillYields_an)))) (⟨mkE 34 0 [(0, .slc 0), (1, .dat (.list (.int .i64)) x1901), (2, .dat (.int .i64) x1902), (7, .dat (.int .u64) x2089), (15, .slc 1), (16, .dat (.int .i64) x2092), (17, .dat (.int .i64) 0)], [some (.seq (.int .u64) x1903), some (.seq (.int .i64) x2091)]⟩ : St) (impl_fillYields_n5 (impl_fillYields_fuel n) x1901 x2089 x2092 x1903 x2091) (fun (t : Int × (List Int)) => (Exit.normal, (⟨mkE 34 0 [(0, .slc 0), (2, .dat (.int .i64) x1902), (7, .dat (.int .u64) t.1)], [some (.seq (.int .u64) t.2)]⟩ : St))) := by
  unfold impl_fillYields_n5
  exact Link.cast (by kernel_rfl) (by kernel_rfl) (link_block (id := 0) (impl_fillYields_n4_l n x1901 x1902 x2089 x2092 x1903 x2091) (fun (t : Int × (List Int)) => (t.1, t.2)) (by
  rintro t K h
  · exact Eq.mp (by kernel_rfl) h))

theorem impl_fillYields_n6_l (n : Nat) (x1901 : List Int) (x1902 : Int) (x2089 : Int) (x1903 : List Int) : Link (impl_fillYields_ctx n) LL (Code.fst (Code.snd (Code.snd (bodyOf Tryd.f45)))) (Ann.fst (Ann.snd (Ann.snd impl_fillYields_an))) (⟨mkE 34 0 [(0, .slc 0), (1, .dat (.list (.int .i64)) x1901), (2, .dat (.int .i64) x1902), (7, .dat (.int .u64) x2089)], [some (.seq (.int .u64) x1903)]⟩ : St) (impl_fillYields_n6 (impl_fillYields_fuel n) x1901 x1902 x2089 x1903) (fun (t : Int × (List Int)) => (Exit.normal, (⟨mkE 34 0 [(0, .slc 0), (2, .dat (.int .i64) x1902), (7, .dat (.int .u64) t.1)], [some (.seq (.int .u64) t.2)]⟩ : St))) := by
  unfold impl_fillYields_n6
  exact Link.cast (by kernel_rfl) (by kernel_rfl) (link_seq (b := (Code.snd (Code.fst (Code.snd (Code.snd (bodyOf Tryd.f45)))))) (y := (Ann.snd (Ann.fst (Ann.snd (Ann.snd impl_fillYields_an))))) (impl_fillYields_n2_l n x1901 x1902 x2089 x1903) (fun (t : Int × (List Int)) => (impl_fillYields_n5_l n x1901 x1902 x2089 t.1 x1903 t.2)))

theorem impl_fillYields_n7_l (n : Nat) (x1902 : Int) (x2110 : Int) (x2112 : List Int) : Link (impl_fillYields_ctx n) LL (Code.snd (Code.snd (Code.snd (bodyOf Tryd.f45)))) (Ann.snd (Ann.snd (Ann.snd impl_fillYields_an))) (⟨mkE 34 0 [(0, .slc 0), (2, .dat (.int .i64) x1902), (7, .dat (.int .u64) x2110)], [some (.seq (.int .u64) x2112)]⟩ : St) (impl_fillYields_n7 (impl_fillYields_fuel n) x1902 x2110 x2112) (fun (t : Int × (List Int)) => (Exit.ret, (⟨mkE 34 0 [(6, .dat (.int .u64) t.1)], [some (.seq (.int .u64) t.2)]⟩ : St))) := by
  refine Link.of fun K h => ?_
  simp only [impl_fillYields_n7, wpO_bind, wpO_cond, wpO_map, wpO_some] at h
  exact Awp.of (by kernel_rfl) h

theorem impl_fillYields_n8_l (n : Nat) (x1901 : List Int) (x1902 : Int) (x2089 : Int) (x1903 : List Int) : Link (impl_fillYields_ctx n) LL (Code.snd (Code.snd (bodyOf Tryd.f45))) (Ann.snd (Ann.snd impl_fillYields_an)) (⟨mkE 34 0 [(0, .slc 0), (1, .dat (.list (.int .i64)) x1901), (2, .dat (.int .i64) x1902), (7, .dat (.int .u64) x2089)], [some (.seq (.int .u64) x1903)]⟩ : St) (impl_fillYields_n8 (impl_fillYields_fuel n) x1901 x1902 x2089 x1903) (fun (t : Int × (List Int)) => (Exit.ret, (⟨mkE 34 0 [(6, .dat (.int .u64) t.1)], [some (.seq (.int .u64) t.2)]⟩ : St))) := by
  unfold impl_fillYields_n8
  exact Link.cast (by kernel_rfl) (by kernel_rfl) (link_seq (b := (Code.snd (Code.snd (Code.snd (bodyOf Tryd.f45))))) (y := (Ann.snd (Ann.snd (Ann.snd impl_fillYields_an)))) (impl_fillYields_n6_l n x1901 x1902 x2089 x1903) (fun (t : Int × (List Int)) => (impl_fillYields_n7_l n x1902 t.1 t.2)))

theorem impl_fillYields_n9_l (n : Nat) (x1901 : List Int) (x1902 : Int) (x1903 : List Int) : Link (impl_fillYields_ctx n) LL (bodyOf Tryd.f45) impl_fillYields_an (⟨mkE 34 0 [(0, .slc 0), (1, .dat (.list (.int .i64)) x1901), (2, .dat (.int .i64) x1902)], [some (.seq (.int .u64) x1903)]⟩ : St) (impl_fillYields_n9 (impl_fillYields_fuel n) x1901 x1902 x1903) (fun (t : Int × (List Int)) => (Exit.ret, (⟨mkE 34 0 [(6, .dat (.int .u64) t.1)], [some (.seq (.int .u64) t.2)]⟩ : St))) := by
  unfold impl_fillYields_n9
  exact Link.cast (by kernel_rfl) (by kernel_rfl) (link_group (c := (Code.fst (Code.snd (bodyOf Tryd.f45)))) (a := (Ann.fst (Ann.snd impl_fillYields_an))) [(Code.fst (bodyOf Tryd.f45))] [(Ann.fst impl_fillYields_an)] rfl (link_seq (b := (Code.snd (Code.snd (bodyOf Tryd.f45)))) (y := (Ann.snd (Ann.snd impl_fillYields_an))) (impl_fillYields_n1_l n x1901 x1902 x1903) (fun (t : Int) => (impl_fillYields_n8_l n x1901 x1902 t x1903))))

theorem impl_fillYields_e (n : Nat) (x1901 : List Int) (x1902 : Int) (x1903 : List Int) {r : AV} {H' : Heap} (h : (Ans.mk _ (impl_fillYields_fuel (n + 1) x1901 x1902 x1903) (fun (t : Int × (List Int)) => (.dat (.int .u64) t.1, [some (.seq (.int .u64) t.2)]))).run = some (r, H')) : Awp (impl_fillYields_ctx n) LL (bodyOf Tryd.f45) impl_fillYields_an (⟨mkE 34 0 [(0, .slc 0), (1, .dat (.list (.int .i64)) x1901), (2, .dat (.int .i64) x1902)], [some (.seq (.int .u64) x1903)]⟩ : St) (Ret (tlook tys) Tryd.f45.results.toList r H') :=
  ret_of' (impl_fillYields_n9_l n x1901 x1902 x1903) (by (show _ = _); kernel_rfl) (by
  intro t
  exact ret_mk [.dat (.int .u64) t.1] (by kernel_rfl) (by kernel_rfl) (by kernel_rfl) (by kernel_rfl)) h

theorem impl_fillYields_step (n : Nat) (h45 : Sound Tryd.prog 45 (F_impl_fillYields_fuel n)) : Sound Tryd.prog 45 (F_impl_fillYields_fuel (n + 1)) := by
  refine fn_sound' (C := impl_fillYields_ctx n) (c := bodyOf Tryd.f45) (cok_of tys_ok (List.forall_mem_cons.2 ⟨impl_only_sound, List.forall_mem_cons.2 ⟨impl_dependents_sound, List.forall_mem_cons.2 ⟨impl_wordSet_list_sound, List.forall_mem_cons.2 ⟨h45, by simp⟩⟩⟩⟩) (List.forall_mem_cons.2 ⟨Tryd.call58, List.forall_mem_cons.2 ⟨Tryd.call46, List.forall_mem_cons.2 ⟨Tryd.call49, List.forall_mem_cons.2 ⟨Tryd.call45, by simp⟩⟩⟩⟩) (by kernel_rfl)) Tryd.func45 (by kernel_rfl) LL impl_fillYields_an ?_
  intro avs H r H' h
  unfold F_impl_fillYields_fuel at h
  split at h
  · refine Awp.cast ?_ ?_ ?_ (impl_fillYields_e n _ _ _ h) <;> kernel_rfl
  · simp [Ans.no, Ans.run] at h

theorem impl_fillYields_null : Sound Tryd.prog 45 (F_impl_fillYields_fuel 0) := by
  intro avs H r H' h
  unfold F_impl_fillYields_fuel at h
  split at h
  · simp [impl_fillYields_fuel, impl_fillYields_knot, Ans.run] at h
  · simp [Ans.no, Ans.run] at h

theorem impl_fillYields_knot_all : ∀ n, Sound Tryd.prog 45 (F_impl_fillYields_fuel n)
  | 0 => impl_fillYields_null
  | n + 1 => by
    have h45 := impl_fillYields_knot_all n
    exact impl_fillYields_step n h45

def F_impl_fillYields : Fun := fun avs H =>
  match avs, H with
  | [.slc 0, .dat (.list (.int .i64)) x1901, .dat (.int .i64) x1902], [some (.seq (.int .u64) x1903)] => ⟨_, impl_fillYields x1901 x1902 x1903, fun (t : Int × (List Int)) => (.dat (.int .u64) t.1, [some (.seq (.int .u64) t.2)])⟩
  | _, _ => Ans.no

theorem impl_fillYields_sound : Sound Tryd.prog 45 F_impl_fillYields := by
  have e : F_impl_fillYields = F_impl_fillYields_fuel RR := by
    funext avs H
    unfold F_impl_fillYields F_impl_fillYields_fuel
    split <;> first | rfl | (simp only [impl_fillYields])
  rw [e]
  exact (impl_fillYields_knot_all RR)

/-! loop.example/headtrees/impl.yieldsOf -/

def impl_yieldsOf_an : Ann := (.seq (.leaf [0]) (.seq (.leaf [0, 3]) (.seq (.leaf [3]) (.seq (.leaf [2]) (.leaf [2])))))

noncomputable def impl_yieldsOf_ctx : Ctx := ⟨tlook tys, olook [(13, F_impl_RootOf), (45, F_impl_fillYields)], ioF, 0⟩

theorem impl_yieldsOf_n1_l (x1869 : List Int) : Link impl_yieldsOf_ctx LL (bodyOf Tryd.f28) impl_yieldsOf_an (⟨mkE 13 0 [(0, .dat (.list (.int .i64)) x1869)], []⟩ : St) (impl_yieldsOf_n1 x1869) (fun (t : (List Int)) => (Exit.ret, (⟨mkE 13 0 [(2, .slc 0)], [some (.seq (.int .u64) t)]⟩ : St))) := by
  refine Link.of fun K h => ?_
  simp only [impl_yieldsOf_n1, wpO_bind, wpO_cond, wpO_map, wpO_some] at h
  exact Awp.of (by kernel_rfl) h

theorem impl_yieldsOf_e (x1869 : List Int) {r : AV} {H' : Heap} (h : (Ans.mk _ (impl_yieldsOf x1869) (fun (t : (List Int)) => (.slc 0, [some (.seq (.int .u64) t)]))).run = some (r, H')) : Awp impl_yieldsOf_ctx LL (bodyOf Tryd.f28) impl_yieldsOf_an (⟨mkE 13 0 [(0, .dat (.list (.int .i64)) x1869)], []⟩ : St) (Ret (tlook tys) Tryd.f28.results.toList r H') :=
  ret_of' (impl_yieldsOf_n1_l x1869) (by unfold impl_yieldsOf; kernel_rfl) (by
  intro t
  exact ret_mk [.slc 0] (by kernel_rfl) (by kernel_rfl) (by kernel_rfl) (by kernel_rfl)) h

def F_impl_yieldsOf : Fun := fun avs H =>
  match avs, H with
  | [.dat (.list (.int .i64)) x1869], [] => ⟨_, impl_yieldsOf x1869, fun (t : (List Int)) => (.slc 0, [some (.seq (.int .u64) t)])⟩
  | _, _ => Ans.no

theorem impl_yieldsOf_sound : Sound Tryd.prog 28 F_impl_yieldsOf := by
  refine fn_sound' (C := impl_yieldsOf_ctx) (c := bodyOf Tryd.f28) (cok_of tys_ok (List.forall_mem_cons.2 ⟨impl_RootOf_sound, List.forall_mem_cons.2 ⟨impl_fillYields_sound, by simp⟩⟩) (List.forall_mem_cons.2 ⟨Tryd.call13, List.forall_mem_cons.2 ⟨Tryd.call45, by simp⟩⟩) (by kernel_rfl)) Tryd.func28 (by kernel_rfl) LL impl_yieldsOf_an ?_
  intro avs H r H' h
  unfold F_impl_yieldsOf at h
  split at h
  · refine Awp.cast ?_ ?_ ?_ (impl_yieldsOf_e _ h) <;> kernel_rfl
  · simp [Ans.no, Ans.run] at h

/-! (loop.example/headtrees/impl.wordSet).isRow -/

def impl_wordSet_isRow_an : Ann := (.seq (.leaf [0]) (.seq (.leaf [0, 3]) (.seq (.leaf [2]) (.leaf [2]))))

noncomputable def impl_wordSet_isRow_ctx : Ctx := ⟨tlook tys, olook [], ioF, 0⟩

theorem impl_wordSet_isRow_n1_l (x2163 : Int) : Link impl_wordSet_isRow_ctx LL (bodyOf Tryd.f29) impl_wordSet_isRow_an (⟨mkE 14 0 [(0, .dat (.int .u64) x2163)], []⟩ : St) (impl_wordSet_isRow_n1 x2163) (fun (t : Bool) => (Exit.ret, (⟨mkE 14 0 [(2, .dat .bool t)], []⟩ : St))) := by
  refine Link.of fun K h => ?_
  simp only [impl_wordSet_isRow_n1, wpO_bind, wpO_cond, wpO_map, wpO_some] at h
  exact Awp.of (by kernel_rfl) h

theorem impl_wordSet_isRow_e (x2163 : Int) {r : AV} {H' : Heap} (h : (Ans.mk _ (impl_wordSet_isRow x2163) (fun (t : Bool) => (.dat .bool t, []))).run = some (r, H')) : Awp impl_wordSet_isRow_ctx LL (bodyOf Tryd.f29) impl_wordSet_isRow_an (⟨mkE 14 0 [(0, .dat (.int .u64) x2163)], []⟩ : St) (Ret (tlook tys) Tryd.f29.results.toList r H') :=
  ret_of' (impl_wordSet_isRow_n1_l x2163) (by unfold impl_wordSet_isRow; kernel_rfl) (by
  intro t
  exact ret_mk [.dat .bool t] (by kernel_rfl) (by kernel_rfl) (by kernel_rfl) (by kernel_rfl)) h

def F_impl_wordSet_isRow : Fun := fun avs H =>
  match avs, H with
  | [.dat (.int .u64) x2163], [] => ⟨_, impl_wordSet_isRow x2163, fun (t : Bool) => (.dat .bool t, [])⟩
  | _, _ => Ans.no

theorem impl_wordSet_isRow_sound : Sound Tryd.prog 29 F_impl_wordSet_isRow := by
  refine fn_sound' (C := impl_wordSet_isRow_ctx) (c := bodyOf Tryd.f29) (cok_of tys_ok (by simp) (by simp) (by kernel_rfl)) Tryd.func29 (by kernel_rfl) LL impl_wordSet_isRow_an ?_
  intro avs H r H' h
  unfold F_impl_wordSet_isRow at h
  split at h
  · refine Awp.cast ?_ ?_ ?_ (impl_wordSet_isRow_e _ h) <;> kernel_rfl
  · simp [Ans.no, Ans.run] at h

/-! loop.example/headtrees/impl.FlatOk -/

def impl_FlatOk_an : Ann := (.seq (.leaf [0]) (.seq (.seq (.leaf [0, 7]) (.cond (.seq (.leaf [2]) (.leaf [2])) (.leaf [0]))) (.seq (.seq (.leaf [9, 10, 11]) (.block (.loop (.seq (.leaf [9, 10, 11, 12]) (.seq (.cond (.leaf [9, 10, 11]) (.leaf [])) (.seq (.block (.seq (.leaf [4, 9, 10, 11]) (.seq (.leaf [9, 10, 11, 17]) (.cond (.seq (.leaf [2]) (.leaf [2])) (.leaf [9, 10, 11]))))) (.leaf [9, 10, 11]))))))) (.seq (.leaf [2]) (.leaf [2])))))

noncomputable def impl_FlatOk_ctx : Ctx := ⟨tlook tys, olook [(27, F_impl_TreeOk), (28, F_impl_yieldsOf), (29, F_impl_wordSet_isRow)], ioF, 0⟩

theorem impl_FlatOk_n1_l (x1866 : List Int) : Link impl_FlatOk_ctx LL (Code.seq (Code.fst (bodyOf Tryd.f11)) (Code.fst (Code.snd (bodyOf Tryd.f11)))) (Ann.seq (Ann.fst impl_FlatOk_an) (Ann.fst (Ann.snd impl_FlatOk_an))) (⟨mkE 19 0 [(0, .dat (.list (.int .i64)) x1866)], []⟩ : St) (impl_FlatOk_n1 x1866) (Sum.elim (fun (t : Unit) => (Exit.normal, (⟨mkE 19 0 [(0, .dat (.list (.int .i64)) x1866)], []⟩ : St))) (fun (t : Bool) => (Exit.ret, (⟨mkE 19 0 [(2, .dat .bool t)], []⟩ : St)))) := by
  refine Link.of fun K h => ?_
  simp only [impl_FlatOk_n1, wpO_bind, wpO_cond, wpO_map, wpO_some] at h
  exact Awp.of (by kernel_rfl) h

theorem impl_FlatOk_n2_l (x1866 : List Int) : Link impl_FlatOk_ctx LL (Code.fst (Code.fst (Code.snd (Code.snd (bodyOf Tryd.f11))))) (Ann.fst (Ann.fst (Ann.snd (Ann.snd impl_FlatOk_an)))) (⟨mkE 19 0 [(0, .dat (.list (.int .i64)) x1866)], []⟩ : St) (impl_FlatOk_n2 x1866) (fun (t : Int × (List Int)) => (Exit.normal, (⟨mkE 19 0 [(9, .slc 0), (10, .dat (.int .i64) t.1), (11, .dat (.int .i64) 0)], [some (.seq (.int .u64) t.2)]⟩ : St))) := by
  refine Link.of fun K h => ?_
  simp only [impl_FlatOk_n2, wpO_bind, wpO_cond, wpO_map, wpO_some] at h
  exact Awp.of (by kernel_rfl) h

theorem impl_FlatOk_n3_l (x2157 : Int) (x2184 : Int) (x2156 : List Int) : Link impl_FlatOk_ctx LL (Code.fst (Code.fst (Code.snd (Code.fst (Code.snd (Code.snd (bodyOf Tryd.f11))))))) (Ann.fst (Ann.fst (Ann.snd (Ann.fst (Ann.snd (Ann.snd impl_FlatOk_an)))))) (⟨mkE 19 0 [(9, .slc 0), (10, .dat (.int .i64) x2157), (11, .dat (.int .i64) x2184)], [some (.seq (.int .u64) x2156)]⟩ : St) (impl_FlatOk_n3 x2157 x2184 x2156) (Sum.elim (fun (t : Int) => (Exit.normal, (⟨mkE 19 0 [(9, .slc 0), (10, .dat (.int .i64) x2157), (11, .dat (.int .i64) t)], [some (.seq (.int .u64) x2156)]⟩ : St))) (Sum.elim (fun (t : Bool) => (Exit.ret, (⟨mkE 19 0 [(2, .dat .bool t)], []⟩ : St))) (fun (t : Unit) => ((Exit.exit 0), (⟨mkE 19 0 [], []⟩ : St))))) := by
  refine Link.of fun K h => ?_
  simp only [impl_FlatOk_n3, wpO_bind, wpO_cond, wpO_map, wpO_some] at h
  exact Awp.of (by kernel_rfl) h

theorem impl_FlatOk_n4_l (x2157 : Int) (x2156 : List Int) : Link impl_FlatOk_ctx LL (Code.fst (Code.snd (Code.fst (Code.snd (Code.snd (bodyOf Tryd.f11)))))) (Ann.fst (Ann.snd (Ann.fst (Ann.snd (Ann.snd impl_FlatOk_an))))) (⟨mkE 19 0 [(9, .slc 0), (10, .dat (.int .i64) x2157), (11, .dat (.int .i64) 0)], [some (.seq (.int .u64) x2156)]⟩ : St) (impl_FlatOk_n4 x2157 x2156) (Sum.elim (fun (t : Bool) => (Exit.ret, (⟨mkE 19 0 [(2, .dat .bool t)], []⟩ : St))) (fun (t : Unit) => ((Exit.exit 0), (⟨mkE 19 0 [], []⟩ : St)))) := by
  unfold impl_FlatOk_n4
  exact Link.cast (by kernel_rfl) (by kernel_rfl) (link_loop (mk := fun (s : Int) => (⟨mkE 19 0 [(9, .slc 0), (10, .dat (.int .i64) x2157), (11, .dat (.int .i64) s)], [some (.seq (.int .u64) x2156)]⟩ : St)) (fin := (Sum.elim (fun (t : Bool) => (Exit.ret, (⟨mkE 19 0 [(2, .dat .bool t)], []⟩ : St))) (fun (t : Unit) => ((Exit.exit 0), (⟨mkE 19 0 [], []⟩ : St))))) (by
  rintro (t | t) f K h
  · exact h
  · exact h) (fun s => link_map (impl_FlatOk_n3_l x2157 s x2156) (Sum.elim (fun (t : Int) => Sum.inl t) (Sum.elim (fun (t : Bool) => Sum.inr (Sum.inl t)) (fun (t : Unit) => Sum.inr (Sum.inr t)))) (by
  rintro (t | t | t)
  · kernel_rfl
  · kernel_rfl
  · kernel_rfl)) 0)

theorem impl_FlatOk_n5_l (x2157 : Int) (x2156 : List Int) : Link impl_FlatOk_ctx LL (Code.snd (Code.fst (Code.snd (Code.snd (bodyOf Tryd.f11))))) (Ann.snd (Ann.fst (Ann.snd (Ann.snd impl_FlatOk_an)))) (⟨mkE 19 0 [(9, .slc 0), (10, .dat (.int .i64) x2157), (11, .dat (.int .i64) 0)], [some (.seq (.int .u64) x2156)]⟩ : St) (impl_FlatOk_n5 x2157 x2156) (Sum.elim (fun (t : Unit) => (Exit.normal, (⟨mkE 19 0 [], []⟩ : St))) (fun (t : Bool) => (Exit.ret, (⟨mkE 19 0 [(2, .dat .bool t)], []⟩ : St)))) := by
  unfold impl_FlatOk_n5
  exact Link.cast (by kernel_rfl) (by kernel_rfl) (link_block (id := 0) (impl_FlatOk_n4_l x2157 x2156) (Sum.elim (fun (t : Bool) => (Sum.inr t)) (fun (t : Unit) => (Sum.inl ()))) (by
  rintro (t | t) K h
  · exact Eq.mp (by kernel_rfl) h
  · exact Eq.mp (by kernel_rfl) h))

theorem impl_FlatOk_n6_l (x1866 : List Int) : Link impl_FlatOk_ctx LL (Code.fst (Code.snd (Code.snd (bodyOf Tryd.f11)))) (Ann.fst (Ann.snd (Ann.snd impl_FlatOk_an))) (⟨mkE 19 0 [(0, .dat (.list (.int .i64)) x1866)], []⟩ : St) (impl_FlatOk_n6 x1866) (Sum.elim (fun (t : Unit) => (Exit.normal, (⟨mkE 19 0 [], []⟩ : St))) (fun (t : Bool) => (Exit.ret, (⟨mkE 19 0 [(2, .dat .bool t)], []⟩ : St)))) := by
  unfold impl_FlatOk_n6
  exact Link.cast (by kernel_rfl) (by kernel_rfl) (link_seq (b := (Code.snd (Code.fst (Code.snd (Code.snd (bodyOf Tryd.f11)))))) (y := (Ann.snd (Ann.fst (Ann.snd (Ann.snd impl_FlatOk_an))))) (impl_FlatOk_n2_l x1866) (fun (t : Int × (List Int)) => (impl_FlatOk_n5_l t.1 t.2)))

theorem impl_FlatOk_n7_l : Link impl_FlatOk_ctx LL (Code.snd (Code.snd (Code.snd (bodyOf Tryd.f11)))) (Ann.snd (Ann.snd (Ann.snd impl_FlatOk_an))) (⟨mkE 19 0 [], []⟩ : St) (impl_FlatOk_n7) (fun (t : Bool) => (Exit.ret, (⟨mkE 19 0 [(2, .dat .bool t)], []⟩ : St))) := by
  refine Link.of fun K h => ?_
  simp only [impl_FlatOk_n7, wpO_bind, wpO_cond, wpO_map, wpO_some] at h
  exact Awp.of (by kernel_rfl) h

theorem impl_FlatOk_n8_l (x1866 : List Int) : Link impl_FlatOk_ctx LL (Code.snd (Code.snd (bodyOf Tryd.f11))) (Ann.snd (Ann.snd impl_FlatOk_an)) (⟨mkE 19 0 [(0, .dat (.list (.int .i64)) x1866)], []⟩ : St) (impl_FlatOk_n8 x1866) (fun (t : Bool) => (Exit.ret, (⟨mkE 19 0 [(2, .dat .bool t)], []⟩ : St))) := by
  unfold impl_FlatOk_n8
  exact Link.cast (by kernel_rfl) (by kernel_rfl) (link_seq2 (b := (Code.snd (Code.snd (Code.snd (bodyOf Tryd.f11))))) (y := (Ann.snd (Ann.snd (Ann.snd impl_FlatOk_an)))) (impl_FlatOk_n6_l x1866) (fun (t : Unit) => (impl_FlatOk_n7_l)) (fun (t : Bool) => t) (by
  rintro t
  · kernel_rfl) (by
  rintro t f K h
  · exact h))

theorem impl_FlatOk_n9_l (x1866 : List Int) : Link impl_FlatOk_ctx LL (bodyOf Tryd.f11) impl_FlatOk_an (⟨mkE 19 0 [(0, .dat (.list (.int .i64)) x1866)], []⟩ : St) (impl_FlatOk_n9 x1866) (fun (t : Bool) => (Exit.ret, (⟨mkE 19 0 [(2, .dat .bool t)], []⟩ : St))) := by
  unfold impl_FlatOk_n9
  exact Link.cast (by kernel_rfl) (by kernel_rfl) (link_group (c := (Code.fst (Code.snd (bodyOf Tryd.f11)))) (a := (Ann.fst (Ann.snd impl_FlatOk_an))) [(Code.fst (bodyOf Tryd.f11))] [(Ann.fst impl_FlatOk_an)] rfl (link_seq2 (b := (Code.snd (Code.snd (bodyOf Tryd.f11)))) (y := (Ann.snd (Ann.snd impl_FlatOk_an))) (impl_FlatOk_n1_l x1866) (fun (t : Unit) => (impl_FlatOk_n8_l x1866)) (fun (t : Bool) => t) (by
  rintro t
  · kernel_rfl) (by
  rintro t f K h
  · exact h)))

theorem impl_FlatOk_e (x1866 : List Int) {r : AV} {H' : Heap} (h : (Ans.mk _ (impl_FlatOk x1866) (fun (t : Bool) => (.dat .bool t, []))).run = some (r, H')) : Awp impl_FlatOk_ctx LL (bodyOf Tryd.f11) impl_FlatOk_an (⟨mkE 19 0 [(0, .dat (.list (.int .i64)) x1866)], []⟩ : St) (Ret (tlook tys) Tryd.f11.results.toList r H') :=
  ret_of' (impl_FlatOk_n9_l x1866) (by unfold impl_FlatOk; kernel_rfl) (by
  intro t
  exact ret_mk [.dat .bool t] (by kernel_rfl) (by kernel_rfl) (by kernel_rfl) (by kernel_rfl)) h

def F_impl_FlatOk : Fun := fun avs H =>
  match avs, H with
  | [.dat (.list (.int .i64)) x1866], [] => ⟨_, impl_FlatOk x1866, fun (t : Bool) => (.dat .bool t, [])⟩
  | _, _ => Ans.no

theorem impl_FlatOk_sound : Sound Tryd.prog 11 F_impl_FlatOk := by
  refine fn_sound' (C := impl_FlatOk_ctx) (c := bodyOf Tryd.f11) (cok_of tys_ok (List.forall_mem_cons.2 ⟨impl_TreeOk_sound, List.forall_mem_cons.2 ⟨impl_yieldsOf_sound, List.forall_mem_cons.2 ⟨impl_wordSet_isRow_sound, by simp⟩⟩⟩) (List.forall_mem_cons.2 ⟨Tryd.call27, List.forall_mem_cons.2 ⟨Tryd.call28, List.forall_mem_cons.2 ⟨Tryd.call29, by simp⟩⟩⟩) (by kernel_rfl)) Tryd.func11 (by kernel_rfl) LL impl_FlatOk_an ?_
  intro avs H r H' h
  unfold F_impl_FlatOk at h
  split at h
  · refine Awp.cast ?_ ?_ ?_ (impl_FlatOk_e _ h) <;> kernel_rfl
  · simp [Ans.no, Ans.run] at h

/-! (loop.example/headtrees/impl.joins).numberOf -/

def impl_joins_numberOf_an : Ann := (.seq (.leaf [3, 4, 5]) (.seq (.draw [8] [0, 1, 2, 3, 4, 5, 6, 7, 9, 10, 11, 12, 13, 14, 15, 16, 18, 19, 8, 17, 20, 21] [] [6]) (.leaf [6])))

noncomputable def impl_joins_numberOf_ctx : Ctx := ⟨tlook tys, olook [(57, F_impl_joins_below)], ioF, 0⟩

theorem impl_joins_numberOf_n1_l (x2301 : Int) (x2302 : Int) (x2303 : Int) (x2304 : Int) (x2305 : Int) (x2306 : Int) (x2307 : Int) (x2308 : Int) (x2309 : Int) (x2310 : Int) (x2311 : Int) (x2312 : Int) (x2313 : Int) (x2314 : Int) (x2315 : Int) (x2316 : Int) (x2317 : Int) (x2318 : Int) : Link impl_joins_numberOf_ctx LL (bodyOf Tryd.f50) impl_joins_numberOf_an (⟨mkE 28 0 [(0, .agg [.dat (.int .i64) x2301, .dat (.int .i64) x2302, .dat (.int .i64) x2303, .dat (.int .i64) x2304, .dat (.int .i64) x2305, .dat (.int .i64) x2306, .dat (.int .i64) x2307, .dat (.int .i64) x2308, .dat (.int .i64) x2309, .dat (.int .i64) x2310, .dat (.int .i64) x2311, .dat (.int .i64) x2312, .dat (.int .i64) x2313, .dat (.int .i64) x2314]), (1, .agg [.dat (.int .i64) x2315, .dat (.int .i64) x2316]), (2, .agg [.dat (.int .i64) x2317, .dat (.int .i64) x2318])], []⟩ : St) (impl_joins_numberOf_n1 x2301 x2302 x2303 x2304 x2305 x2306 x2307 x2308 x2309 x2310 x2311 x2312 x2313 x2314 x2315 x2316 x2317 x2318) (fun (t : Int) => (Exit.ret, (⟨mkE 28 0 [(6, .dat (.int .i64) t)], []⟩ : St))) := by
  refine Link.of fun K h => ?_
  simp only [impl_joins_numberOf_n1, wpO_bind, wpO_cond, wpO_map, wpO_some] at h
  exact Awp.of (by kernel_rfl) h

theorem impl_joins_numberOf_e (x2301 : Int) (x2302 : Int) (x2303 : Int) (x2304 : Int) (x2305 : Int) (x2306 : Int) (x2307 : Int) (x2308 : Int) (x2309 : Int) (x2310 : Int) (x2311 : Int) (x2312 : Int) (x2313 : Int) (x2314 : Int) (x2315 : Int) (x2316 : Int) (x2317 : Int) (x2318 : Int) {r : AV} {H' : Heap} (h : (Ans.mk _ (impl_joins_numberOf x2301 x2302 x2303 x2304 x2305 x2306 x2307 x2308 x2309 x2310 x2311 x2312 x2313 x2314 x2315 x2316 x2317 x2318) (fun (t : Int) => (.dat (.int .i64) t, []))).run = some (r, H')) : Awp impl_joins_numberOf_ctx LL (bodyOf Tryd.f50) impl_joins_numberOf_an (⟨mkE 28 0 [(0, .agg [.dat (.int .i64) x2301, .dat (.int .i64) x2302, .dat (.int .i64) x2303, .dat (.int .i64) x2304, .dat (.int .i64) x2305, .dat (.int .i64) x2306, .dat (.int .i64) x2307, .dat (.int .i64) x2308, .dat (.int .i64) x2309, .dat (.int .i64) x2310, .dat (.int .i64) x2311, .dat (.int .i64) x2312, .dat (.int .i64) x2313, .dat (.int .i64) x2314]), (1, .agg [.dat (.int .i64) x2315, .dat (.int .i64) x2316]), (2, .agg [.dat (.int .i64) x2317, .dat (.int .i64) x2318])], []⟩ : St) (Ret (tlook tys) Tryd.f50.results.toList r H') :=
  ret_of' (impl_joins_numberOf_n1_l x2301 x2302 x2303 x2304 x2305 x2306 x2307 x2308 x2309 x2310 x2311 x2312 x2313 x2314 x2315 x2316 x2317 x2318) (by unfold impl_joins_numberOf; kernel_rfl) (by
  intro t
  exact ret_mk [.dat (.int .i64) t] (by kernel_rfl) (by kernel_rfl) (by kernel_rfl) (by kernel_rfl)) h

def F_impl_joins_numberOf : Fun := fun avs H =>
  match avs, H with
  | [.agg [.dat (.int .i64) x2301, .dat (.int .i64) x2302, .dat (.int .i64) x2303, .dat (.int .i64) x2304, .dat (.int .i64) x2305, .dat (.int .i64) x2306, .dat (.int .i64) x2307, .dat (.int .i64) x2308, .dat (.int .i64) x2309, .dat (.int .i64) x2310, .dat (.int .i64) x2311, .dat (.int .i64) x2312, .dat (.int .i64) x2313, .dat (.int .i64) x2314], .agg [.dat (.int .i64) x2315, .dat (.int .i64) x2316], .agg [.dat (.int .i64) x2317, .dat (.int .i64) x2318]], [] => ⟨_, impl_joins_numberOf x2301 x2302 x2303 x2304 x2305 x2306 x2307 x2308 x2309 x2310 x2311 x2312 x2313 x2314 x2315 x2316 x2317 x2318, fun (t : Int) => (.dat (.int .i64) t, [])⟩
  | _, _ => Ans.no

theorem impl_joins_numberOf_sound : Sound Tryd.prog 50 F_impl_joins_numberOf := by
  refine fn_sound' (C := impl_joins_numberOf_ctx) (c := bodyOf Tryd.f50) (cok_of tys_ok (List.forall_mem_cons.2 ⟨impl_joins_below_sound, by simp⟩) (List.forall_mem_cons.2 ⟨Tryd.call57, by simp⟩) (by kernel_rfl)) Tryd.func50 (by kernel_rfl) LL impl_joins_numberOf_an ?_
  intro avs H r H' h
  unfold F_impl_joins_numberOf at h
  split at h
  · refine Awp.cast ?_ ?_ ?_ (impl_joins_numberOf_e _ _ _ _ _ _ _ _ _ _ _ _ _ _ _ _ _ _ h) <;> kernel_rfl
  · simp [Ans.no, Ans.run] at h

/-! loop.example/headtrees/impl.before -/

def impl_before_an : Ann := (.seq (.leaf [0]) (.seq (.leaf [2]) (.leaf [2])))

noncomputable def impl_before_ctx : Ctx := ⟨tlook tys, olook [(58, F_impl_only)], ioF, 0⟩

theorem impl_before_n1_l (x2245 : Int) : Link impl_before_ctx LL (bodyOf Tryd.f48) impl_before_an (⟨mkE 6 0 [(0, .dat (.int .i64) x2245)], []⟩ : St) (impl_before_n1 x2245) (fun (t : Int) => (Exit.ret, (⟨mkE 6 0 [(2, .dat (.int .u64) t)], []⟩ : St))) := by
  refine Link.of fun K h => ?_
  simp only [impl_before_n1, wpO_bind, wpO_cond, wpO_map, wpO_some] at h
  exact Awp.of (by kernel_rfl) h

theorem impl_before_e (x2245 : Int) {r : AV} {H' : Heap} (h : (Ans.mk _ (impl_before x2245) (fun (t : Int) => (.dat (.int .u64) t, []))).run = some (r, H')) : Awp impl_before_ctx LL (bodyOf Tryd.f48) impl_before_an (⟨mkE 6 0 [(0, .dat (.int .i64) x2245)], []⟩ : St) (Ret (tlook tys) Tryd.f48.results.toList r H') :=
  ret_of' (impl_before_n1_l x2245) (by unfold impl_before; kernel_rfl) (by
  intro t
  exact ret_mk [.dat (.int .u64) t] (by kernel_rfl) (by kernel_rfl) (by kernel_rfl) (by kernel_rfl)) h

def F_impl_before : Fun := fun avs H =>
  match avs, H with
  | [.dat (.int .i64) x2245], [] => ⟨_, impl_before x2245, fun (t : Int) => (.dat (.int .u64) t, [])⟩
  | _, _ => Ans.no

theorem impl_before_sound : Sound Tryd.prog 48 F_impl_before := by
  refine fn_sound' (C := impl_before_ctx) (c := bodyOf Tryd.f48) (cok_of tys_ok (List.forall_mem_cons.2 ⟨impl_only_sound, by simp⟩) (List.forall_mem_cons.2 ⟨Tryd.call58, by simp⟩) (by kernel_rfl)) Tryd.func48 (by kernel_rfl) LL impl_before_an ?_
  intro avs H r H' h
  unfold F_impl_before at h
  split at h
  · refine Awp.cast ?_ ?_ ?_ (impl_before_e _ h) <;> kernel_rfl
  · simp [Ans.no, Ans.run] at h

/-! (loop.example/headtrees/impl.flatCounts).numberOfTree, (loop.example/headtrees/impl.flatCounts).numberOfRow -/

def impl_flatCounts_numberOfTree_an : Ann := (.seq (.leaf [1, 2, 3, 6]) (.seq (.leaf [1, 2, 3, 6, 7]) (.seq (.draw [4, 6, 7] [0, 1, 2, 3, 4, 5, 6, 7, 8, 9] [] [1, 2, 3, 6, 7, 8]) (.seq (.draw [4, 6, 7] [0, 1, 2, 3, 4, 5, 6, 7, 8, 9] [] [3, 6, 8, 9]) (.seq (.draw [7, 10] [0, 1, 2, 3, 4, 5, 6, 8, 9, 7, 10, 11, 12] [] [6]) (.leaf [6]))))))

def impl_flatCounts_numberOfRow_an : Ann := (.seq (.leaf [1, 2, 3, 6]) (.seq (.seq (.leaf [1, 2, 3, 6, 11]) (.cond (.seq (.leaf [6]) (.leaf [6])) (.leaf [1, 2, 3, 6]))) (.seq (.draw [5] [0, 1, 2, 3, 4, 5, 6, 7] [] [1, 2, 3, 6, 7]) (.seq (.draw [4] [0, 1, 2, 3, 4, 5, 6] [] [3, 6, 7, 8]) (.seq (.draw [6, 9] [0, 1, 2, 3, 4, 5, 7, 8, 6, 9, 10, 11] [] [6]) (.leaf [6]))))))

def F_impl_flatCounts_numberOfTree_fuel (n : Nat) : Fun := fun avs H =>
  match avs, H with
  | [.agg [.dat (.int .i64) x2227, .dat (.int .i64) x2228, .dat (.int .i64) x2229, .dat (.int .i64) x2230, .dat (.int .i64) x2231, .dat (.int .i64) x2232, .dat (.int .i64) x2233, .dat (.int .i64) x2234, .dat (.int .i64) x2235, .dat (.int .i64) x2236, .dat (.int .i64) x2237, .dat (.int .i64) x2238, .dat (.int .i64) x2239, .dat (.int .i64) x2240], .dat (.list (.int .i64)) x2241, .dat (.int .i64) x2242], [] => ⟨_, impl_flatCounts_numberOfTree_fuel n x2227 x2228 x2229 x2230 x2231 x2232 x2233 x2234 x2235 x2236 x2237 x2238 x2239 x2240 x2241 x2242, fun (t : Int × Int) => (.agg [.dat (.int .i64) t.1, .dat (.int .i64) t.2], [some (.box [.dat (.int .i64) t.1, .dat (.int .i64) t.2])])⟩
  | _, _ => Ans.no

def F_impl_flatCounts_numberOfRow_fuel (n : Nat) : Fun := fun avs H =>
  match avs, H with
  | [.agg [.dat (.int .i64) x2352, .dat (.int .i64) x2353, .dat (.int .i64) x2354, .dat (.int .i64) x2355, .dat (.int .i64) x2356, .dat (.int .i64) x2357, .dat (.int .i64) x2358, .dat (.int .i64) x2359, .dat (.int .i64) x2360, .dat (.int .i64) x2361, .dat (.int .i64) x2362, .dat (.int .i64) x2363, .dat (.int .i64) x2364, .dat (.int .i64) x2365], .dat (.list (.int .i64)) x2366, .dat (.list (.int .i64)) x2367], [] => ⟨_, impl_flatCounts_numberOfRow_fuel n x2352 x2353 x2354 x2355 x2356 x2357 x2358 x2359 x2360 x2361 x2362 x2363 x2364 x2365 x2366 x2367, fun (t : Int × Int) => (.agg [.dat (.int .i64) t.1, .dat (.int .i64) t.2], [some (.box [.dat (.int .i64) t.1, .dat (.int .i64) t.2])])⟩
  | _, _ => Ans.no

noncomputable def impl_flatCounts_numberOfTree_ctx (n : Nat) : Ctx := ⟨tlook tys, olook [(46, F_impl_dependents), (48, F_impl_before), (49, F_impl_wordSet_list), (47, F_impl_flatCounts_numberOfRow_fuel n), (36, F_impl_flatCounts_aroundRoots), (50, F_impl_joins_numberOf)], ioF, 0⟩

noncomputable def impl_flatCounts_numberOfRow_ctx (n : Nat) : Ctx := ⟨tlook tys, olook [(30, F_impl_flatCounts_numberOfTree_fuel n), (47, F_impl_flatCounts_numberOfRow_fuel n), (38, F_impl_flatCounts_inRows), (50, F_impl_joins_numberOf)], ioF, 0⟩

theorem impl_flatCounts_numberOfTree_n1_l (n : Nat) (x2227 : Int) (x2228 : Int) (x2229 : Int) (x2230 : Int) (x2231 : Int) (x2232 : Int) (x2233 : Int) (x2234 : Int) (x2235 : Int) (x2236 : Int) (x2237 : Int) (x2238 : Int) (x2239 : Int) (x2240 : Int) (x2241 : List Int) (x2242 : Int) : Link (impl_flatCounts_numberOfTree_ctx n) LL (bodyOf Tryd.f30) impl_flatCounts_numberOfTree_an (⟨mkE 41 0 [(0, .agg [.dat (.int .i64) x2227, .dat (.int .i64) x2228, .dat (.int .i64) x2229, .dat (.int .i64) x2230, .dat (.int .i64) x2231, .dat (.int .i64) x2232, .dat (.int .i64) x2233, .dat (.int .i64) x2234, .dat (.int .i64) x2235, .dat (.int .i64) x2236, .dat (.int .i64) x2237, .dat (.int .i64) x2238, .dat (.int .i64) x2239, .dat (.int .i64) x2240]), (1, .dat (.list (.int .i64)) x2241), (2, .dat (.int .i64) x2242)], []⟩ : St) (impl_flatCounts_numberOfTree_n1 (impl_flatCounts_numberOfTree_fuel n) (impl_flatCounts_numberOfRow_fuel n) x2227 x2228 x2229 x2230 x2231 x2232 x2233 x2234 x2235 x2236 x2237 x2238 x2239 x2240 x2241 x2242) (fun (t : Int × Int) => (Exit.ret, (⟨mkE 41 0 [(6, .ptr 0 0)], [some (.box [.dat (.int .i64) t.1, .dat (.int .i64) t.2])]⟩ : St))) := by
  refine Link.of fun K h => ?_
  simp only [impl_flatCounts_numberOfTree_n1, wpO_bind, wpO_cond, wpO_map, wpO_some] at h
  exact Awp.of (by kernel_rfl) h

theorem impl_flatCounts_numberOfTree_e (n : Nat) (x2227 : Int) (x2228 : Int) (x2229 : Int) (x2230 : Int) (x2231 : Int) (x2232 : Int) (x2233 : Int) (x2234 : Int) (x2235 : Int) (x2236 : Int) (x2237 : Int) (x2238 : Int) (x2239 : Int) (x2240 : Int) (x2241 : List Int) (x2242 : Int) {r : AV} {H' : Heap} (h : (Ans.mk _ (impl_flatCounts_numberOfTree_fuel (n + 1) x2227 x2228 x2229 x2230 x2231 x2232 x2233 x2234 x2235 x2236 x2237 x2238 x2239 x2240 x2241 x2242) (fun (t : Int × Int) => (.agg [.dat (.int .i64) t.1, .dat (.int .i64) t.2], [some (.box [.dat (.int .i64) t.1, .dat (.int .i64) t.2])]))).run = some (r, H')) : Awp (impl_flatCounts_numberOfTree_ctx n) LL (bodyOf Tryd.f30) impl_flatCounts_numberOfTree_an (⟨mkE 41 0 [(0, .agg [.dat (.int .i64) x2227, .dat (.int .i64) x2228, .dat (.int .i64) x2229, .dat (.int .i64) x2230, .dat (.int .i64) x2231, .dat (.int .i64) x2232, .dat (.int .i64) x2233, .dat (.int .i64) x2234, .dat (.int .i64) x2235, .dat (.int .i64) x2236, .dat (.int .i64) x2237, .dat (.int .i64) x2238, .dat (.int .i64) x2239, .dat (.int .i64) x2240]), (1, .dat (.list (.int .i64)) x2241), (2, .dat (.int .i64) x2242)], []⟩ : St) (Ret (tlook tys) Tryd.f30.results.toList r H') :=
  ret_of' (impl_flatCounts_numberOfTree_n1_l n x2227 x2228 x2229 x2230 x2231 x2232 x2233 x2234 x2235 x2236 x2237 x2238 x2239 x2240 x2241 x2242) (by (show _ = _); kernel_rfl) (by
  intro t
  exact ret_mk [.agg [.dat (.int .i64) t.1, .dat (.int .i64) t.2]] (by kernel_rfl) (by kernel_rfl) (by kernel_rfl) (by kernel_rfl)) h

theorem impl_flatCounts_numberOfRow_n1_l (n : Nat) (x2352 : Int) (x2353 : Int) (x2354 : Int) (x2355 : Int) (x2356 : Int) (x2357 : Int) (x2358 : Int) (x2359 : Int) (x2360 : Int) (x2361 : Int) (x2362 : Int) (x2363 : Int) (x2364 : Int) (x2365 : Int) (x2366 : List Int) (x2367 : List Int) : Link (impl_flatCounts_numberOfRow_ctx n) LL (bodyOf Tryd.f47) impl_flatCounts_numberOfRow_an (⟨mkE 35 0 [(0, .agg [.dat (.int .i64) x2352, .dat (.int .i64) x2353, .dat (.int .i64) x2354, .dat (.int .i64) x2355, .dat (.int .i64) x2356, .dat (.int .i64) x2357, .dat (.int .i64) x2358, .dat (.int .i64) x2359, .dat (.int .i64) x2360, .dat (.int .i64) x2361, .dat (.int .i64) x2362, .dat (.int .i64) x2363, .dat (.int .i64) x2364, .dat (.int .i64) x2365]), (1, .dat (.list (.int .i64)) x2366), (2, .dat (.list (.int .i64)) x2367)], []⟩ : St) (impl_flatCounts_numberOfRow_n1 (impl_flatCounts_numberOfTree_fuel n) (impl_flatCounts_numberOfRow_fuel n) x2352 x2353 x2354 x2355 x2356 x2357 x2358 x2359 x2360 x2361 x2362 x2363 x2364 x2365 x2366 x2367) (fun (t : Int × Int) => (Exit.ret, (⟨mkE 35 0 [(6, .ptr 0 0)], [some (.box [.dat (.int .i64) t.1, .dat (.int .i64) t.2])]⟩ : St))) := by
  refine Link.of fun K h => ?_
  simp only [impl_flatCounts_numberOfRow_n1, wpO_bind, wpO_cond, wpO_map, wpO_some] at h
  exact Awp.of (by kernel_rfl) h

theorem impl_flatCounts_numberOfRow_e (n : Nat) (x2352 : Int) (x2353 : Int) (x2354 : Int) (x2355 : Int) (x2356 : Int) (x2357 : Int) (x2358 : Int) (x2359 : Int) (x2360 : Int) (x2361 : Int) (x2362 : Int) (x2363 : Int) (x2364 : Int) (x2365 : Int) (x2366 : List Int) (x2367 : List Int) {r : AV} {H' : Heap} (h : (Ans.mk _ (impl_flatCounts_numberOfRow_fuel (n + 1) x2352 x2353 x2354 x2355 x2356 x2357 x2358 x2359 x2360 x2361 x2362 x2363 x2364 x2365 x2366 x2367) (fun (t : Int × Int) => (.agg [.dat (.int .i64) t.1, .dat (.int .i64) t.2], [some (.box [.dat (.int .i64) t.1, .dat (.int .i64) t.2])]))).run = some (r, H')) : Awp (impl_flatCounts_numberOfRow_ctx n) LL (bodyOf Tryd.f47) impl_flatCounts_numberOfRow_an (⟨mkE 35 0 [(0, .agg [.dat (.int .i64) x2352, .dat (.int .i64) x2353, .dat (.int .i64) x2354, .dat (.int .i64) x2355, .dat (.int .i64) x2356, .dat (.int .i64) x2357, .dat (.int .i64) x2358, .dat (.int .i64) x2359, .dat (.int .i64) x2360, .dat (.int .i64) x2361, .dat (.int .i64) x2362, .dat (.int .i64) x2363, .dat (.int .i64) x2364, .dat (.int .i64) x2365]), (1, .dat (.list (.int .i64)) x2366), (2, .dat (.list (.int .i64)) x2367)], []⟩ : St) (Ret (tlook tys) Tryd.f47.results.toList r H') :=
  ret_of' (impl_flatCounts_numberOfRow_n1_l n x2352 x2353 x2354 x2355 x2356 x2357 x2358 x2359 x2360 x2361 x2362 x2363 x2364 x2365 x2366 x2367) (by (show _ = _); kernel_rfl) (by
  intro t
  exact ret_mk [.agg [.dat (.int .i64) t.1, .dat (.int .i64) t.2]] (by kernel_rfl) (by kernel_rfl) (by kernel_rfl) (by kernel_rfl)) h

theorem impl_flatCounts_numberOfTree_step (n : Nat) (h30 : Sound Tryd.prog 30 (F_impl_flatCounts_numberOfTree_fuel n)) (h47 : Sound Tryd.prog 47 (F_impl_flatCounts_numberOfRow_fuel n)) : Sound Tryd.prog 30 (F_impl_flatCounts_numberOfTree_fuel (n + 1)) := by
  refine fn_sound' (C := impl_flatCounts_numberOfTree_ctx n) (c := bodyOf Tryd.f30) (cok_of tys_ok (List.forall_mem_cons.2 ⟨impl_dependents_sound, List.forall_mem_cons.2 ⟨impl_before_sound, List.forall_mem_cons.2 ⟨impl_wordSet_list_sound, List.forall_mem_cons.2 ⟨h47, List.forall_mem_cons.2 ⟨impl_flatCounts_aroundRoots_sound, List.forall_mem_cons.2 ⟨impl_joins_numberOf_sound, by simp⟩⟩⟩⟩⟩⟩) (List.forall_mem_cons.2 ⟨Tryd.call46, List.forall_mem_cons.2 ⟨Tryd.call48, List.forall_mem_cons.2 ⟨Tryd.call49, List.forall_mem_cons.2 ⟨Tryd.call47, List.forall_mem_cons.2 ⟨Tryd.call36, List.forall_mem_cons.2 ⟨Tryd.call50, by simp⟩⟩⟩⟩⟩⟩) (by kernel_rfl)) Tryd.func30 (by kernel_rfl) LL impl_flatCounts_numberOfTree_an ?_
  intro avs H r H' h
  unfold F_impl_flatCounts_numberOfTree_fuel at h
  split at h
  · refine Awp.cast ?_ ?_ ?_ (impl_flatCounts_numberOfTree_e n _ _ _ _ _ _ _ _ _ _ _ _ _ _ _ _ h) <;> kernel_rfl
  · simp [Ans.no, Ans.run] at h

theorem impl_flatCounts_numberOfTree_null : Sound Tryd.prog 30 (F_impl_flatCounts_numberOfTree_fuel 0) := by
  intro avs H r H' h
  unfold F_impl_flatCounts_numberOfTree_fuel at h
  split at h
  · simp [impl_flatCounts_numberOfTree_fuel, impl_flatCounts_numberOfTree_knot, Ans.run] at h
  · simp [Ans.no, Ans.run] at h

theorem impl_flatCounts_numberOfRow_step (n : Nat) (h30 : Sound Tryd.prog 30 (F_impl_flatCounts_numberOfTree_fuel n)) (h47 : Sound Tryd.prog 47 (F_impl_flatCounts_numberOfRow_fuel n)) : Sound Tryd.prog 47 (F_impl_flatCounts_numberOfRow_fuel (n + 1)) := by
  refine fn_sound' (C := impl_flatCounts_numberOfRow_ctx n) (c := bodyOf Tryd.f47) (cok_of tys_ok (List.forall_mem_cons.2 ⟨h30, List.forall_mem_cons.2 ⟨h47, List.forall_mem_cons.2 ⟨impl_flatCounts_inRows_sound, List.forall_mem_cons.2 ⟨impl_joins_numberOf_sound, by simp⟩⟩⟩⟩) (List.forall_mem_cons.2 ⟨Tryd.call30, List.forall_mem_cons.2 ⟨Tryd.call47, List.forall_mem_cons.2 ⟨Tryd.call38, List.forall_mem_cons.2 ⟨Tryd.call50, by simp⟩⟩⟩⟩) (by kernel_rfl)) Tryd.func47 (by kernel_rfl) LL impl_flatCounts_numberOfRow_an ?_
  intro avs H r H' h
  unfold F_impl_flatCounts_numberOfRow_fuel at h
  split at h
  · refine Awp.cast ?_ ?_ ?_ (impl_flatCounts_numberOfRow_e n _ _ _ _ _ _ _ _ _ _ _ _ _ _ _ _ h) <;> kernel_rfl
  · simp [Ans.no, Ans.run] at h

theorem impl_flatCounts_numberOfRow_null : Sound Tryd.prog 47 (F_impl_flatCounts_numberOfRow_fuel 0) := by
  intro avs H r H' h
  unfold F_impl_flatCounts_numberOfRow_fuel at h
  split at h
  · simp [impl_flatCounts_numberOfRow_fuel, impl_flatCounts_numberOfTree_knot, Ans.run] at h
  · simp [Ans.no, Ans.run] at h

theorem impl_flatCounts_numberOfTree_knot_all : ∀ n, Sound Tryd.prog 30 (F_impl_flatCounts_numberOfTree_fuel n) ∧ Sound Tryd.prog 47 (F_impl_flatCounts_numberOfRow_fuel n)
  | 0 => ⟨impl_flatCounts_numberOfTree_null, impl_flatCounts_numberOfRow_null⟩
  | n + 1 => by
    obtain ⟨h30, h47⟩ := impl_flatCounts_numberOfTree_knot_all n
    exact ⟨impl_flatCounts_numberOfTree_step n h30 h47, impl_flatCounts_numberOfRow_step n h30 h47⟩

def F_impl_flatCounts_numberOfTree : Fun := fun avs H =>
  match avs, H with
  | [.agg [.dat (.int .i64) x2227, .dat (.int .i64) x2228, .dat (.int .i64) x2229, .dat (.int .i64) x2230, .dat (.int .i64) x2231, .dat (.int .i64) x2232, .dat (.int .i64) x2233, .dat (.int .i64) x2234, .dat (.int .i64) x2235, .dat (.int .i64) x2236, .dat (.int .i64) x2237, .dat (.int .i64) x2238, .dat (.int .i64) x2239, .dat (.int .i64) x2240], .dat (.list (.int .i64)) x2241, .dat (.int .i64) x2242], [] => ⟨_, impl_flatCounts_numberOfTree x2227 x2228 x2229 x2230 x2231 x2232 x2233 x2234 x2235 x2236 x2237 x2238 x2239 x2240 x2241 x2242, fun (t : Int × Int) => (.agg [.dat (.int .i64) t.1, .dat (.int .i64) t.2], [some (.box [.dat (.int .i64) t.1, .dat (.int .i64) t.2])])⟩
  | _, _ => Ans.no

theorem impl_flatCounts_numberOfTree_sound : Sound Tryd.prog 30 F_impl_flatCounts_numberOfTree := by
  have e : F_impl_flatCounts_numberOfTree = F_impl_flatCounts_numberOfTree_fuel RR := by
    funext avs H
    unfold F_impl_flatCounts_numberOfTree F_impl_flatCounts_numberOfTree_fuel
    split <;> first | rfl | (simp only [impl_flatCounts_numberOfTree])
  rw [e]
  exact (impl_flatCounts_numberOfTree_knot_all RR).1

def F_impl_flatCounts_numberOfRow : Fun := fun avs H =>
  match avs, H with
  | [.agg [.dat (.int .i64) x2352, .dat (.int .i64) x2353, .dat (.int .i64) x2354, .dat (.int .i64) x2355, .dat (.int .i64) x2356, .dat (.int .i64) x2357, .dat (.int .i64) x2358, .dat (.int .i64) x2359, .dat (.int .i64) x2360, .dat (.int .i64) x2361, .dat (.int .i64) x2362, .dat (.int .i64) x2363, .dat (.int .i64) x2364, .dat (.int .i64) x2365], .dat (.list (.int .i64)) x2366, .dat (.list (.int .i64)) x2367], [] => ⟨_, impl_flatCounts_numberOfRow x2352 x2353 x2354 x2355 x2356 x2357 x2358 x2359 x2360 x2361 x2362 x2363 x2364 x2365 x2366 x2367, fun (t : Int × Int) => (.agg [.dat (.int .i64) t.1, .dat (.int .i64) t.2], [some (.box [.dat (.int .i64) t.1, .dat (.int .i64) t.2])])⟩
  | _, _ => Ans.no

theorem impl_flatCounts_numberOfRow_sound : Sound Tryd.prog 47 F_impl_flatCounts_numberOfRow := by
  have e : F_impl_flatCounts_numberOfRow = F_impl_flatCounts_numberOfRow_fuel RR := by
    funext avs H
    unfold F_impl_flatCounts_numberOfRow F_impl_flatCounts_numberOfRow_fuel
    split <;> first | rfl | (simp only [impl_flatCounts_numberOfRow])
  rw [e]
  exact (impl_flatCounts_numberOfTree_knot_all RR).2

/-! loop.example/headtrees/impl.PlaceOf -/

def impl_PlaceOf_an : Ann := (.seq (.leaf [0]) (.seq (.seq (.leaf [0, 10]) (.cond (.seq (.leaf [2]) (.leaf [2])) (.leaf [0]))) (.seq (.leaf [2]) (.leaf [2]))))

noncomputable def impl_PlaceOf_ctx : Ctx := ⟨tlook tys, olook [(11, F_impl_FlatOk), (22, F_impl_countFlatParts), (13, F_impl_RootOf), (30, F_impl_flatCounts_numberOfTree)], ioF, 0⟩

theorem impl_PlaceOf_n1_l (x2202 : List Int) : Link impl_PlaceOf_ctx LL (bodyOf Tryd.f12) impl_PlaceOf_an (⟨mkE 17 0 [(0, .dat (.list (.int .i64)) x2202)], []⟩ : St) (impl_PlaceOf_n1 x2202) (fun (t : Int) => (Exit.ret, (⟨mkE 17 0 [(2, .dat (.int .i64) t)], []⟩ : St))) := by
  refine Link.of fun K h => ?_
  simp only [impl_PlaceOf_n1, wpO_bind, wpO_cond, wpO_map, wpO_some] at h
  exact Awp.of (by kernel_rfl) h

theorem impl_PlaceOf_e (x2202 : List Int) {r : AV} {H' : Heap} (h : (Ans.mk _ (impl_PlaceOf x2202) (fun (t : Int) => (.dat (.int .i64) t, []))).run = some (r, H')) : Awp impl_PlaceOf_ctx LL (bodyOf Tryd.f12) impl_PlaceOf_an (⟨mkE 17 0 [(0, .dat (.list (.int .i64)) x2202)], []⟩ : St) (Ret (tlook tys) Tryd.f12.results.toList r H') :=
  ret_of' (impl_PlaceOf_n1_l x2202) (by unfold impl_PlaceOf; kernel_rfl) (by
  intro t
  exact ret_mk [.dat (.int .i64) t] (by kernel_rfl) (by kernel_rfl) (by kernel_rfl) (by kernel_rfl)) h

def F_impl_PlaceOf : Fun := fun avs H =>
  match avs, H with
  | [.dat (.list (.int .i64)) x2202], [] => ⟨_, impl_PlaceOf x2202, fun (t : Int) => (.dat (.int .i64) t, [])⟩
  | _, _ => Ans.no

theorem impl_PlaceOf_sound : Sound Tryd.prog 12 F_impl_PlaceOf := by
  refine fn_sound' (C := impl_PlaceOf_ctx) (c := bodyOf Tryd.f12) (cok_of tys_ok (List.forall_mem_cons.2 ⟨impl_FlatOk_sound, List.forall_mem_cons.2 ⟨impl_countFlatParts_sound, List.forall_mem_cons.2 ⟨impl_RootOf_sound, List.forall_mem_cons.2 ⟨impl_flatCounts_numberOfTree_sound, by simp⟩⟩⟩⟩) (List.forall_mem_cons.2 ⟨Tryd.call11, List.forall_mem_cons.2 ⟨Tryd.call22, List.forall_mem_cons.2 ⟨Tryd.call13, List.forall_mem_cons.2 ⟨Tryd.call30, by simp⟩⟩⟩⟩) (by kernel_rfl)) Tryd.func12 (by kernel_rfl) LL impl_PlaceOf_an ?_
  intro avs H r H' h
  unfold F_impl_PlaceOf at h
  split at h
  · refine Awp.cast ?_ ?_ ?_ (impl_PlaceOf_e _ h) <;> kernel_rfl
  · simp [Ans.no, Ans.run] at h

/-! loop.example/headtrees/laws.FnFlatAt -/

def laws_FnFlatAt_an : Ann := (.seq (.leaf [0]) (.seq (.seq (.leaf [0, 13]) (.cond (.seq (.leaf [2]) (.leaf [2])) (.leaf [0]))) (.seq (.leaf [3, 4]) (.seq (.leaf [3, 4, 5, 6]) (.seq (.leaf [3, 4, 5, 6, 7, 8]) (.seq (.seq (.leaf [3, 4, 5, 6, 39]) (.cond (.seq (.leaf [2]) (.leaf [2])) (.leaf [3, 4, 5, 6]))) (.seq (.seq (.leaf [3, 4, 5, 41]) (.cond (.seq (.leaf [2]) (.leaf [2])) (.leaf [3, 4, 5]))) (.seq (.leaf [3, 4, 5, 9, 10]) (.seq (.leaf [2]) (.leaf [2]))))))))))

noncomputable def laws_FnFlatAt_ctx : Ctx := ⟨tlook tys, olook [(6, F_spec_DrawFlatAt), (7, F_impl_FlatAt), (8, F_spec_FlatAt), (9, F_laws_sameInts), (10, F_laws_alive), (11, F_impl_FlatOk), (12, F_impl_PlaceOf), (13, F_impl_RootOf)], ioF, 0⟩

theorem laws_FnFlatAt_n1_l (x2 : List Int) : Link laws_FnFlatAt_ctx LL (bodyOf Tryd.f3) laws_FnFlatAt_an (⟨mkE 80 0 [(0, .dat (.list (.int .u8)) x2)], []⟩ : St) (laws_FnFlatAt_n1 x2) (fun (t : Bool) => (Exit.ret, (⟨mkE 80 0 [(2, .dat .bool t)], []⟩ : St))) := by
  refine Link.of fun K h => ?_
  simp only [laws_FnFlatAt_n1, wpO_bind, wpO_cond, wpO_map, wpO_some] at h
  exact Awp.of (by kernel_rfl) h

theorem laws_FnFlatAt_e (x2 : List Int) {r : AV} {H' : Heap} (h : (Ans.mk _ (laws_FnFlatAt x2) (fun (t : Bool) => (.dat .bool t, []))).run = some (r, H')) : Awp laws_FnFlatAt_ctx LL (bodyOf Tryd.f3) laws_FnFlatAt_an (⟨mkE 80 0 [(0, .dat (.list (.int .u8)) x2)], []⟩ : St) (Ret (tlook tys) Tryd.f3.results.toList r H') :=
  ret_of' (laws_FnFlatAt_n1_l x2) (by unfold laws_FnFlatAt; kernel_rfl) (by
  intro t
  exact ret_mk [.dat .bool t] (by kernel_rfl) (by kernel_rfl) (by kernel_rfl) (by kernel_rfl)) h

def F_laws_FnFlatAt : Fun := fun avs H =>
  match avs, H with
  | [.dat (.list (.int .u8)) x2], [] => ⟨_, laws_FnFlatAt x2, fun (t : Bool) => (.dat .bool t, [])⟩
  | _, _ => Ans.no

theorem laws_FnFlatAt_sound : Sound Tryd.prog 3 F_laws_FnFlatAt := by
  refine fn_sound' (C := laws_FnFlatAt_ctx) (c := bodyOf Tryd.f3) (cok_of tys_ok (List.forall_mem_cons.2 ⟨spec_DrawFlatAt_sound, List.forall_mem_cons.2 ⟨impl_FlatAt_sound, List.forall_mem_cons.2 ⟨spec_FlatAt_sound, List.forall_mem_cons.2 ⟨laws_sameInts_sound, List.forall_mem_cons.2 ⟨laws_alive_sound, List.forall_mem_cons.2 ⟨impl_FlatOk_sound, List.forall_mem_cons.2 ⟨impl_PlaceOf_sound, List.forall_mem_cons.2 ⟨impl_RootOf_sound, by simp⟩⟩⟩⟩⟩⟩⟩⟩) (List.forall_mem_cons.2 ⟨Tryd.call6, List.forall_mem_cons.2 ⟨Tryd.call7, List.forall_mem_cons.2 ⟨Tryd.call8, List.forall_mem_cons.2 ⟨Tryd.call9, List.forall_mem_cons.2 ⟨Tryd.call10, List.forall_mem_cons.2 ⟨Tryd.call11, List.forall_mem_cons.2 ⟨Tryd.call12, List.forall_mem_cons.2 ⟨Tryd.call13, by simp⟩⟩⟩⟩⟩⟩⟩⟩) (by kernel_rfl)) Tryd.func3 (by kernel_rfl) LL laws_FnFlatAt_an ?_
  intro avs H r H' h
  unfold F_laws_FnFlatAt at h
  split at h
  · refine Awp.cast ?_ ?_ ?_ (laws_FnFlatAt_e _ h) <;> kernel_rfl
  · simp [Ans.no, Ans.run] at h

/-! loop.example/headtrees/spec.l20Order -/

def spec_l20Order_an : Ann := (.seq (.leaf [0, 1]) (.seq (.leaf [0, 1, 5]) (.seq (.leaf [0, 1, 5, 6]) (.seq (.seq (.leaf [0, 1, 5, 6, 7]) (.block (.loop (.seq (.seq (.leaf [0, 1, 5, 6, 7, 15]) (.cond (.leaf [0, 1, 5, 6, 7]) (.leaf [5]))) (.seq (.block (.seq (.leaf [0, 1, 5, 6, 7, 8]) (.seq (.seq (.leaf [0, 1, 5, 6, 7, 8, 26]) (.cond (.leaf [0, 1, 5, 6, 7, 8]) (.leaf [0, 1, 5, 6, 7, 8]))) (.seq (.leaf [0, 1, 5, 6, 7, 8, 9]) (.seq (.leaf [0, 1, 5, 6, 7, 8, 9]) (.leaf [0, 1, 5, 6, 7])))))) (.leaf [0, 1, 5, 6, 7])))))) (.seq (.leaf [4]) (.leaf [4]))))))

noncomputable def spec_l20Order_ctx : Ctx := ⟨tlook tys, olook [(20, F_spec_l20Rd_pick)], ioF, 1⟩

theorem spec_l20Order_n1_l (x2625 : Int) (x2626 : List Int) (x2627 : Int) : Link spec_l20Order_ctx LL (Code.seq (Code.fst (bodyOf Tryd.f61)) (Code.seq (Code.fst (Code.snd (bodyOf Tryd.f61))) (Code.fst (Code.snd (Code.snd (bodyOf Tryd.f61)))))) (Ann.seq (Ann.fst spec_l20Order_an) (Ann.seq (Ann.fst (Ann.snd spec_l20Order_an)) (Ann.fst (Ann.snd (Ann.snd spec_l20Order_an))))) (⟨mkE 45 0 [(0, .ptr 0 0), (1, .dat (.int .i64) x2625)], [some (.box [.dat (.list (.int .u8)) x2626, .dat (.int .i64) x2627])]⟩ : St) (spec_l20Order_n1 x2626 x2627) (fun (t : Int × Int) => (Exit.normal, (⟨mkE 45 0 [(0, .ptr 0 0), (1, .dat (.int .i64) x2625), (5, .slc 1), (6, .dat (.int .i64) t.1)], [some (.box [.dat (.list (.int .u8)) x2626, .dat (.int .i64) t.2]), some (.seq (.int .i64) ([] : List Int))]⟩ : St))) := by
  refine Link.of fun K h => ?_
  simp only [spec_l20Order_n1, wpO_bind, wpO_cond, wpO_map, wpO_some] at h
  exact Awp.of (by kernel_rfl) h

theorem spec_l20Order_n2_l (x2625 : Int) (x2629 : Int) (x2626 : List Int) (x2630 : Int) : Link spec_l20Order_ctx LL (Code.fst (Code.fst (Code.snd (Code.snd (Code.snd (bodyOf Tryd.f61)))))) (Ann.fst (Ann.fst (Ann.snd (Ann.snd (Ann.snd spec_l20Order_an))))) (⟨mkE 45 0 [(0, .ptr 0 0), (1, .dat (.int .i64) x2625), (5, .slc 1), (6, .dat (.int .i64) x2629)], [some (.box [.dat (.list (.int .u8)) x2626, .dat (.int .i64) x2630]), some (.seq (.int .i64) ([] : List Int))]⟩ : St) (spec_l20Order_n2) (fun (t : Unit) => (Exit.normal, (⟨mkE 45 0 [(0, .ptr 0 0), (1, .dat (.int .i64) x2625), (5, .slc 1), (6, .dat (.int .i64) x2629), (7, .dat (.int .i64) 1)], [some (.box [.dat (.list (.int .u8)) x2626, .dat (.int .i64) x2630]), some (.seq (.int .i64) ([] : List Int))]⟩ : St))) := by
  refine Link.of fun K h => ?_
  simp only [spec_l20Order_n2, wpO_bind, wpO_cond, wpO_map, wpO_some] at h
  exact Awp.of (by kernel_rfl) h

theorem spec_l20Order_n3_l (x2625 : Int) (x2629 : Int) (x2772 : Int) (x2626 : List Int) (x2773 : Int) (x2774 : List Int) : Link spec_l20Order_ctx LL (Code.fst (Code.fst (Code.snd (Code.fst (Code.snd (Code.snd (Code.snd (bodyOf Tryd.f61)))))))) (Ann.fst (Ann.fst (Ann.snd (Ann.fst (Ann.snd (Ann.snd (Ann.snd spec_l20Order_an))))))) (⟨mkE 45 0 [(0, .ptr 0 0), (1, .dat (.int .i64) x2625), (5, .slc 1), (6, .dat (.int .i64) x2629), (7, .dat (.int .i64) x2772)], [some (.box [.dat (.list (.int .u8)) x2626, .dat (.int .i64) x2773]), some (.seq (.int .i64) x2774)]⟩ : St) (spec_l20Order_n3 x2625 x2629 x2772 x2626 x2773 x2774) (Sum.elim (fun (t : Int × Int × (List Int)) => (Exit.normal, (⟨mkE 45 0 [(0, .ptr 0 0), (1, .dat (.int .i64) x2625), (5, .slc 1), (6, .dat (.int .i64) x2629), (7, .dat (.int .i64) t.1)], [some (.box [.dat (.list (.int .u8)) x2626, .dat (.int .i64) t.2.1]), some (.seq (.int .i64) t.2.2)]⟩ : St))) (fun (t : Int × (List Int)) => ((Exit.exit 0), (⟨mkE 45 0 [(5, .slc 1)], [some (.box [.dat (.list (.int .u8)) x2626, .dat (.int .i64) t.1]), some (.seq (.int .i64) t.2)]⟩ : St)))) := by
  refine Link.of fun K h => ?_
  simp only [spec_l20Order_n3, wpO_bind, wpO_cond, wpO_map, wpO_some] at h
  exact Awp.of (by kernel_rfl) h

theorem spec_l20Order_n4_l (x2625 : Int) (x2629 : Int) (x2626 : List Int) (x2630 : Int) : Link spec_l20Order_ctx LL (Code.fst (Code.snd (Code.fst (Code.snd (Code.snd (Code.snd (bodyOf Tryd.f61))))))) (Ann.fst (Ann.snd (Ann.fst (Ann.snd (Ann.snd (Ann.snd spec_l20Order_an)))))) (⟨mkE 45 0 [(0, .ptr 0 0), (1, .dat (.int .i64) x2625), (5, .slc 1), (6, .dat (.int .i64) x2629), (7, .dat (.int .i64) 1)], [some (.box [.dat (.list (.int .u8)) x2626, .dat (.int .i64) x2630]), some (.seq (.int .i64) ([] : List Int))]⟩ : St) (spec_l20Order_n4 x2625 x2629 x2626 x2630) (fun (t : Int × (List Int)) => ((Exit.exit 0), (⟨mkE 45 0 [(5, .slc 1)], [some (.box [.dat (.list (.int .u8)) x2626, .dat (.int .i64) t.1]), some (.seq (.int .i64) t.2)]⟩ : St))) := by
  unfold spec_l20Order_n4
  exact Link.cast (by kernel_rfl) (by kernel_rfl) (link_loop (mk := fun (s : Int × Int × (List Int)) => (⟨mkE 45 0 [(0, .ptr 0 0), (1, .dat (.int .i64) x2625), (5, .slc 1), (6, .dat (.int .i64) x2629), (7, .dat (.int .i64) s.1)], [some (.box [.dat (.list (.int .u8)) x2626, .dat (.int .i64) s.2.1]), some (.seq (.int .i64) s.2.2)]⟩ : St)) (fin := (fun (t : Int × (List Int)) => ((Exit.exit 0), (⟨mkE 45 0 [(5, .slc 1)], [some (.box [.dat (.list (.int .u8)) x2626, .dat (.int .i64) t.1]), some (.seq (.int .i64) t.2)]⟩ : St)))) (by
  rintro t f K h
  · exact h) (fun s => link_map (spec_l20Order_n3_l x2625 x2629 s.1 x2626 s.2.1 s.2.2) (Sum.elim (fun (t : Int × Int × (List Int)) => Sum.inl (t.1, t.2.1, t.2.2)) (fun (t : Int × (List Int)) => Sum.inr t)) (by
  rintro (t | t)
  · kernel_rfl
  · kernel_rfl)) (1, x2630, ([] : List Int)))

theorem spec_l20Order_n5_l (x2625 : Int) (x2629 : Int) (x2626 : List Int) (x2630 : Int) : Link spec_l20Order_ctx LL (Code.snd (Code.fst (Code.snd (Code.snd (Code.snd (bodyOf Tryd.f61)))))) (Ann.snd (Ann.fst (Ann.snd (Ann.snd (Ann.snd spec_l20Order_an))))) (⟨mkE 45 0 [(0, .ptr 0 0), (1, .dat (.int .i64) x2625), (5, .slc 1), (6, .dat (.int .i64) x2629), (7, .dat (.int .i64) 1)], [some (.box [.dat (.list (.int .u8)) x2626, .dat (.int .i64) x2630]), some (.seq (.int .i64) ([] : List Int))]⟩ : St) (spec_l20Order_n5 x2625 x2629 x2626 x2630) (fun (t : Int × (List Int)) => (Exit.normal, (⟨mkE 45 0 [(5, .slc 1)], [some (.box [.dat (.list (.int .u8)) x2626, .dat (.int .i64) t.1]), some (.seq (.int .i64) t.2)]⟩ : St))) := by
  unfold spec_l20Order_n5
  exact Link.cast (by kernel_rfl) (by kernel_rfl) (link_block (id := 0) (spec_l20Order_n4_l x2625 x2629 x2626 x2630) (fun (t : Int × (List Int)) => (t.1, t.2)) (by
  rintro t K h
  · exact Eq.mp (by kernel_rfl) h))

theorem spec_l20Order_n6_l (x2625 : Int) (x2629 : Int) (x2626 : List Int) (x2630 : Int) : Link spec_l20Order_ctx LL (Code.fst (Code.snd (Code.snd (Code.snd (bodyOf Tryd.f61))))) (Ann.fst (Ann.snd (Ann.snd (Ann.snd spec_l20Order_an)))) (⟨mkE 45 0 [(0, .ptr 0 0), (1, .dat (.int .i64) x2625), (5, .slc 1), (6, .dat (.int .i64) x2629)], [some (.box [.dat (.list (.int .u8)) x2626, .dat (.int .i64) x2630]), some (.seq (.int .i64) ([] : List Int))]⟩ : St) (spec_l20Order_n6 x2625 x2629 x2626 x2630) (fun (t : Int × (List Int)) => (Exit.normal, (⟨mkE 45 0 [(5, .slc 1)], [some (.box [.dat (.list (.int .u8)) x2626, .dat (.int .i64) t.1]), some (.seq (.int .i64) t.2)]⟩ : St))) := by
  unfold spec_l20Order_n6
  exact Link.cast (by kernel_rfl) (by kernel_rfl) (link_seq (b := (Code.snd (Code.fst (Code.snd (Code.snd (Code.snd (bodyOf Tryd.f61))))))) (y := (Ann.snd (Ann.fst (Ann.snd (Ann.snd (Ann.snd spec_l20Order_an)))))) (spec_l20Order_n2_l x2625 x2629 x2626 x2630) (fun (t : Unit) => (spec_l20Order_n5_l x2625 x2629 x2626 x2630)))

theorem spec_l20Order_n7_l (x2626 : List Int) (x2773 : Int) (x2774 : List Int) : Link spec_l20Order_ctx LL (Code.snd (Code.snd (Code.snd (Code.snd (bodyOf Tryd.f61))))) (Ann.snd (Ann.snd (Ann.snd (Ann.snd spec_l20Order_an)))) (⟨mkE 45 0 [(5, .slc 1)], [some (.box [.dat (.list (.int .u8)) x2626, .dat (.int .i64) x2773]), some (.seq (.int .i64) x2774)]⟩ : St) (spec_l20Order_n7 x2773 x2774) (fun (t : Int × (List Int)) => (Exit.ret, (⟨mkE 45 0 [(4, .slc 1)], [some (.box [.dat (.list (.int .u8)) x2626, .dat (.int .i64) t.1]), some (.seq (.int .i64) t.2)]⟩ : St))) := by
  refine Link.of fun K h => ?_
  simp only [spec_l20Order_n7, wpO_bind, wpO_cond, wpO_map, wpO_some] at h
  exact Awp.of (by kernel_rfl) h

theorem spec_l20Order_n8_l (x2625 : Int) (x2629 : Int) (x2626 : List Int) (x2630 : Int) : Link spec_l20Order_ctx LL (Code.snd (Code.snd (Code.snd (bodyOf Tryd.f61)))) (Ann.snd (Ann.snd (Ann.snd spec_l20Order_an))) (⟨mkE 45 0 [(0, .ptr 0 0), (1, .dat (.int .i64) x2625), (5, .slc 1), (6, .dat (.int .i64) x2629)], [some (.box [.dat (.list (.int .u8)) x2626, .dat (.int .i64) x2630]), some (.seq (.int .i64) ([] : List Int))]⟩ : St) (spec_l20Order_n8 x2625 x2629 x2626 x2630) (fun (t : Int × (List Int)) => (Exit.ret, (⟨mkE 45 0 [(4, .slc 1)], [some (.box [.dat (.list (.int .u8)) x2626, .dat (.int .i64) t.1]), some (.seq (.int .i64) t.2)]⟩ : St))) := by
  unfold spec_l20Order_n8
  exact Link.cast (by kernel_rfl) (by kernel_rfl) (link_seq (b := (Code.snd (Code.snd (Code.snd (Code.snd (bodyOf Tryd.f61)))))) (y := (Ann.snd (Ann.snd (Ann.snd (Ann.snd spec_l20Order_an))))) (spec_l20Order_n6_l x2625 x2629 x2626 x2630) (fun (t : Int × (List Int)) => (spec_l20Order_n7_l x2626 t.1 t.2)))

theorem spec_l20Order_n9_l (x2625 : Int) (x2626 : List Int) (x2627 : Int) : Link spec_l20Order_ctx LL (bodyOf Tryd.f61) spec_l20Order_an (⟨mkE 45 0 [(0, .ptr 0 0), (1, .dat (.int .i64) x2625)], [some (.box [.dat (.list (.int .u8)) x2626, .dat (.int .i64) x2627])]⟩ : St) (spec_l20Order_n9 x2625 x2626 x2627) (fun (t : Int × (List Int)) => (Exit.ret, (⟨mkE 45 0 [(4, .slc 1)], [some (.box [.dat (.list (.int .u8)) x2626, .dat (.int .i64) t.1]), some (.seq (.int .i64) t.2)]⟩ : St))) := by
  unfold spec_l20Order_n9
  exact Link.cast (by kernel_rfl) (by kernel_rfl) (link_group (c := (Code.fst (Code.snd (Code.snd (bodyOf Tryd.f61))))) (a := (Ann.fst (Ann.snd (Ann.snd spec_l20Order_an)))) [(Code.fst (bodyOf Tryd.f61)), (Code.fst (Code.snd (bodyOf Tryd.f61)))] [(Ann.fst spec_l20Order_an), (Ann.fst (Ann.snd spec_l20Order_an))] rfl (link_seq (b := (Code.snd (Code.snd (Code.snd (bodyOf Tryd.f61))))) (y := (Ann.snd (Ann.snd (Ann.snd spec_l20Order_an)))) (spec_l20Order_n1_l x2625 x2626 x2627) (fun (t : Int × Int) => (spec_l20Order_n8_l x2625 t.1 x2626 t.2))))

theorem spec_l20Order_e (x2625 : Int) (x2626 : List Int) (x2627 : Int) {r : AV} {H' : Heap} (h : (Ans.mk _ (spec_l20Order x2625 x2626 x2627) (fun (t : Int × (List Int)) => (.slc 1, [some (.box [.dat (.list (.int .u8)) x2626, .dat (.int .i64) t.1]), some (.seq (.int .i64) t.2)]))).run = some (r, H')) : Awp spec_l20Order_ctx LL (bodyOf Tryd.f61) spec_l20Order_an (⟨mkE 45 0 [(0, .ptr 0 0), (1, .dat (.int .i64) x2625)], [some (.box [.dat (.list (.int .u8)) x2626, .dat (.int .i64) x2627])]⟩ : St) (Ret (tlook tys) Tryd.f61.results.toList r H') :=
  ret_of' (spec_l20Order_n9_l x2625 x2626 x2627) (by unfold spec_l20Order; kernel_rfl) (by
  intro t
  exact ret_mk [.slc 1] (by kernel_rfl) (by kernel_rfl) (by kernel_rfl) (by kernel_rfl)) h

def F_spec_l20Order : Fun := fun avs H =>
  match avs, H with
  | [.ptr 0 0, .dat (.int .i64) x2625], [some (.box [.dat (.list (.int .u8)) x2626, .dat (.int .i64) x2627])] => ⟨_, spec_l20Order x2625 x2626 x2627, fun (t : Int × (List Int)) => (.slc 1, [some (.box [.dat (.list (.int .u8)) x2626, .dat (.int .i64) t.1]), some (.seq (.int .i64) t.2)])⟩
  | _, _ => Ans.no

theorem spec_l20Order_sound : Sound Tryd.prog 61 F_spec_l20Order := by
  refine fn_sound' (C := spec_l20Order_ctx) (c := bodyOf Tryd.f61) (cok_of tys_ok (List.forall_mem_cons.2 ⟨spec_l20Rd_pick_sound, by simp⟩) (List.forall_mem_cons.2 ⟨Tryd.call20, by simp⟩) (by kernel_rfl)) Tryd.func61 (by kernel_rfl) LL spec_l20Order_an ?_
  intro avs H r H' h
  unfold F_spec_l20Order at h
  split at h
  · refine Awp.cast ?_ ?_ ?_ (spec_l20Order_e _ _ _ h) <;> kernel_rfl
  · simp [Ans.no, Ans.run] at h

/-! (*loop.example/headtrees/spec.l20Rd).odd -/

def spec_l20Rd_odd_an : Ann := (.seq (.leaf [0, 1]) (.seq (.leaf [4]) (.leaf [4])))

noncomputable def spec_l20Rd_odd_ctx : Ctx := ⟨tlook tys, olook [(20, F_spec_l20Rd_pick)], ioF, 1⟩

theorem spec_l20Rd_odd_n1_l (x3081 : Int) (x3082 : List Int) (x3083 : Int) : Link spec_l20Rd_odd_ctx LL (bodyOf Tryd.f62) spec_l20Rd_odd_an (⟨mkE 15 0 [(0, .ptr 0 0), (1, .dat (.int .i64) x3081)], [some (.box [.dat (.list (.int .u8)) x3082, .dat (.int .i64) x3083])]⟩ : St) (spec_l20Rd_odd_n1 x3081 x3082 x3083) (fun (t : Bool × Int) => (Exit.ret, (⟨mkE 15 0 [(4, .dat .bool t.1)], [some (.box [.dat (.list (.int .u8)) x3082, .dat (.int .i64) t.2])]⟩ : St))) := by
  refine Link.of fun K h => ?_
  simp only [spec_l20Rd_odd_n1, wpO_bind, wpO_cond, wpO_map, wpO_some] at h
  exact Awp.of (by kernel_rfl) h

theorem spec_l20Rd_odd_e (x3081 : Int) (x3082 : List Int) (x3083 : Int) {r : AV} {H' : Heap} (h : (Ans.mk _ (spec_l20Rd_odd x3081 x3082 x3083) (fun (t : Bool × Int) => (.dat .bool t.1, [some (.box [.dat (.list (.int .u8)) x3082, .dat (.int .i64) t.2])]))).run = some (r, H')) : Awp spec_l20Rd_odd_ctx LL (bodyOf Tryd.f62) spec_l20Rd_odd_an (⟨mkE 15 0 [(0, .ptr 0 0), (1, .dat (.int .i64) x3081)], [some (.box [.dat (.list (.int .u8)) x3082, .dat (.int .i64) x3083])]⟩ : St) (Ret (tlook tys) Tryd.f62.results.toList r H') :=
  ret_of' (spec_l20Rd_odd_n1_l x3081 x3082 x3083) (by unfold spec_l20Rd_odd; kernel_rfl) (by
  intro t
  exact ret_mk [.dat .bool t.1] (by kernel_rfl) (by kernel_rfl) (by kernel_rfl) (by kernel_rfl)) h

def F_spec_l20Rd_odd : Fun := fun avs H =>
  match avs, H with
  | [.ptr 0 0, .dat (.int .i64) x3081], [some (.box [.dat (.list (.int .u8)) x3082, .dat (.int .i64) x3083])] => ⟨_, spec_l20Rd_odd x3081 x3082 x3083, fun (t : Bool × Int) => (.dat .bool t.1, [some (.box [.dat (.list (.int .u8)) x3082, .dat (.int .i64) t.2])])⟩
  | _, _ => Ans.no

theorem spec_l20Rd_odd_sound : Sound Tryd.prog 62 F_spec_l20Rd_odd := by
  refine fn_sound' (C := spec_l20Rd_odd_ctx) (c := bodyOf Tryd.f62) (cok_of tys_ok (List.forall_mem_cons.2 ⟨spec_l20Rd_pick_sound, by simp⟩) (List.forall_mem_cons.2 ⟨Tryd.call20, by simp⟩) (by kernel_rfl)) Tryd.func62 (by kernel_rfl) LL spec_l20Rd_odd_an ?_
  intro avs H r H' h
  unfold F_spec_l20Rd_odd at h
  split at h
  · refine Awp.cast ?_ ?_ ?_ (spec_l20Rd_odd_e _ _ _ h) <;> kernel_rfl
  · simp [Ans.no, Ans.run] at h

/-! loop.example/headtrees/spec.l20Tree -/

def spec_l20Tree_an : Ann := (.seq (.leaf [0, 1]) (.seq (.leaf [0, 1, 5]) (.seq (.leaf [0, 1, 5, 6]) (.seq (.leaf [0, 1, 5, 6, 7]) (.seq (.leaf [0, 1, 5, 6, 7, 8]) (.seq (.seq (.leaf [0, 1, 5, 6, 7, 8, 9]) (.block (.loop (.seq (.seq (.leaf [0, 1, 5, 6, 7, 8, 9, 23]) (.cond (.leaf [0, 1, 5, 6, 7, 8, 9]) (.leaf [0, 1, 5, 7]))) (.seq (.block (.seq (.leaf [0, 1, 5, 6, 7, 8, 9, 10]) (.seq (.seq (.leaf [0, 1, 5, 6, 7, 8, 9, 10, 35]) (.cond (.leaf [0, 1, 5, 6, 7, 8, 9, 10]) (.leaf [0, 1, 5, 6, 7, 8, 9, 10]))) (.draw [] [0, 1, 2, 3, 4, 5, 6, 7, 8, 9, 10, 11] [] [0, 1, 5, 6, 7, 8, 9])))) (.leaf [0, 1, 5, 6, 7, 8, 9])))))) (.seq (.seq (.leaf [0, 5, 7, 51]) (.cond (.seq (.leaf [0, 5, 7, 53]) (.block (.seq (.leaf [0, 5, 7, 53, 63]) (.cond (.seq (.leaf [4]) (.leaf [4])) (.seq (.leaf [0, 5, 7, 53, 66]) (.cond (.seq (.leaf [4]) (.leaf [4])) (.seq (.leaf [0, 5, 7, 69]) (.cond (.seq (.leaf [7]) (.seq (.leaf [4]) (.leaf [4]))) (.leaf [7]))))))))) (.leaf [7]))) (.seq (.leaf [4]) (.leaf [4])))))))))

noncomputable def spec_l20Tree_ctx : Ctx := ⟨tlook tys, olook [(20, F_spec_l20Rd_pick), (61, F_spec_l20Order), (62, F_spec_l20Rd_odd)], ioF, 1⟩

theorem spec_l20Tree_n1_l (x2614 : Int) (x2615 : List Int) (x2616 : Int) : Link spec_l20Tree_ctx LL (Code.seq (Code.fst (bodyOf Tryd.f51)) (Code.seq (Code.fst (Code.snd (bodyOf Tryd.f51))) (Code.seq (Code.fst (Code.snd (Code.snd (bodyOf Tryd.f51)))) (Code.seq (Code.fst (Code.snd (Code.snd (Code.snd (bodyOf Tryd.f51))))) (Code.fst (Code.snd (Code.snd (Code.snd (Code.snd (bodyOf Tryd.f51)))))))))) (Ann.seq (Ann.fst spec_l20Tree_an) (Ann.seq (Ann.fst (Ann.snd spec_l20Tree_an)) (Ann.seq (Ann.fst (Ann.snd (Ann.snd spec_l20Tree_an))) (Ann.seq (Ann.fst (Ann.snd (Ann.snd (Ann.snd spec_l20Tree_an)))) (Ann.fst (Ann.snd (Ann.snd (Ann.snd (Ann.snd spec_l20Tree_an))))))))) (⟨mkE 80 0 [(0, .ptr 0 0), (1, .dat (.int .i64) x2614)], [some (.box [.dat (.list (.int .u8)) x2615, .dat (.int .i64) x2616])]⟩ : St) (spec_l20Tree_n1 x2615 x2616) (fun (t : Int × Int × Int × (List Int) × (List Int)) => (Exit.normal, (⟨mkE 80 0 [(0, .ptr 0 0), (1, .dat (.int .i64) x2614), (5, .dat (.int .i64) t.1), (6, .slc 1), (7, .slc 2), (8, .dat (.int .i64) t.2.1)], [some (.box [.dat (.list (.int .u8)) x2615, .dat (.int .i64) t.2.2.1]), some (.seq (.int .i64) t.2.2.2.1), some (.seq (.int .i64) t.2.2.2.2)]⟩ : St))) := by
  refine Link.of fun K h => ?_
  simp only [spec_l20Tree_n1, wpO_bind, wpO_cond, wpO_map, wpO_some] at h
  exact Awp.of (by kernel_rfl) h

theorem spec_l20Tree_n2_l (x2614 : Int) (x2931 : Int) (x2938 : Int) (x2615 : List Int) (x2939 : Int) (x2934 : List Int) (x2936 : List Int) : Link spec_l20Tree_ctx LL (Code.fst (Code.fst (Code.snd (Code.snd (Code.snd (Code.snd (Code.snd (bodyOf Tryd.f51)))))))) (Ann.fst (Ann.fst (Ann.snd (Ann.snd (Ann.snd (Ann.snd (Ann.snd spec_l20Tree_an))))))) (⟨mkE 80 0 [(0, .ptr 0 0), (1, .dat (.int .i64) x2614), (5, .dat (.int .i64) x2931), (6, .slc 1), (7, .slc 2), (8, .dat (.int .i64) x2938)], [some (.box [.dat (.list (.int .u8)) x2615, .dat (.int .i64) x2939]), some (.seq (.int .i64) x2934), some (.seq (.int .i64) x2936)]⟩ : St) (spec_l20Tree_n2) (fun (t : Unit) => (Exit.normal, (⟨mkE 80 0 [(0, .ptr 0 0), (1, .dat (.int .i64) x2614), (5, .dat (.int .i64) x2931), (6, .slc 1), (7, .slc 2), (8, .dat (.int .i64) x2938), (9, .dat (.int .i64) 1)], [some (.box [.dat (.list (.int .u8)) x2615, .dat (.int .i64) x2939]), some (.seq (.int .i64) x2934), some (.seq (.int .i64) x2936)]⟩ : St))) := by
  refine Link.of fun K h => ?_
  simp only [spec_l20Tree_n2, wpO_bind, wpO_cond, wpO_map, wpO_some] at h
  exact Awp.of (by kernel_rfl) h

theorem spec_l20Tree_n3_l (x2614 : Int) (x2931 : Int) (x2938 : Int) (x3009 : Int) (x2615 : List Int) (x3010 : Int) (x2934 : List Int) (x3011 : List Int) : Link spec_l20Tree_ctx LL (Code.fst (Code.fst (Code.snd (Code.fst (Code.snd (Code.snd (Code.snd (Code.snd (Code.snd (bodyOf Tryd.f51)))))))))) (Ann.fst (Ann.fst (Ann.snd (Ann.fst (Ann.snd (Ann.snd (Ann.snd (Ann.snd (Ann.snd spec_l20Tree_an))))))))) (⟨mkE 80 0 [(0, .ptr 0 0), (1, .dat (.int .i64) x2614), (5, .dat (.int .i64) x2931), (6, .slc 1), (7, .slc 2), (8, .dat (.int .i64) x2938), (9, .dat (.int .i64) x3009)], [some (.box [.dat (.list (.int .u8)) x2615, .dat (.int .i64) x3010]), some (.seq (.int .i64) x2934), some (.seq (.int .i64) x3011)]⟩ : St) (spec_l20Tree_n3 x2931 x2938 x3009 x2615 x3010 x2934 x3011) (Sum.elim (fun (t : Int × Int × (List Int)) => (Exit.normal, (⟨mkE 80 0 [(0, .ptr 0 0), (1, .dat (.int .i64) x2614), (5, .dat (.int .i64) x2931), (6, .slc 1), (7, .slc 2), (8, .dat (.int .i64) x2938), (9, .dat (.int .i64) t.1)], [some (.box [.dat (.list (.int .u8)) x2615, .dat (.int .i64) t.2.1]), some (.seq (.int .i64) x2934), some (.seq (.int .i64) t.2.2)]⟩ : St))) (fun (t : Int × (List Int)) => ((Exit.exit 0), (⟨mkE 80 0 [(0, .ptr 0 0), (1, .dat (.int .i64) x2614), (5, .dat (.int .i64) x2931), (7, .slc 1)], [some (.box [.dat (.list (.int .u8)) x2615, .dat (.int .i64) t.1]), some (.seq (.int .i64) t.2)]⟩ : St)))) := by
  refine Link.of fun K h => ?_
  simp only [spec_l20Tree_n3, wpO_bind, wpO_cond, wpO_map, wpO_some] at h
  exact Awp.of (by kernel_rfl) h

theorem spec_l20Tree_n4_l (x2614 : Int) (x2931 : Int) (x2938 : Int) (x2615 : List Int) (x2939 : Int) (x2934 : List Int) (x2936 : List Int) : Link spec_l20Tree_ctx LL (Code.fst (Code.snd (Code.fst (Code.snd (Code.snd (Code.snd (Code.snd (Code.snd (bodyOf Tryd.f51))))))))) (Ann.fst (Ann.snd (Ann.fst (Ann.snd (Ann.snd (Ann.snd (Ann.snd (Ann.snd spec_l20Tree_an)))))))) (⟨mkE 80 0 [(0, .ptr 0 0), (1, .dat (.int .i64) x2614), (5, .dat (.int .i64) x2931), (6, .slc 1), (7, .slc 2), (8, .dat (.int .i64) x2938), (9, .dat (.int .i64) 1)], [some (.box [.dat (.list (.int .u8)) x2615, .dat (.int .i64) x2939]), some (.seq (.int .i64) x2934), some (.seq (.int .i64) x2936)]⟩ : St) (spec_l20Tree_n4 x2931 x2938 x2615 x2939 x2934 x2936) (fun (t : Int × (List Int)) => ((Exit.exit 0), (⟨mkE 80 0 [(0, .ptr 0 0), (1, .dat (.int .i64) x2614), (5, .dat (.int .i64) x2931), (7, .slc 1)], [some (.box [.dat (.list (.int .u8)) x2615, .dat (.int .i64) t.1]), some (.seq (.int .i64) t.2)]⟩ : St))) := by
  unfold spec_l20Tree_n4
  exact Link.cast (by kernel_rfl) (by kernel_rfl) (link_loop (mk := fun (s : Int × Int × (List Int)) => (⟨mkE 80 0 [(0, .ptr 0 0), (1, .dat (.int .i64) x2614), (5, .dat (.int .i64) x2931), (6, .slc 1), (7, .slc 2), (8, .dat (.int .i64) x2938), (9, .dat (.int .i64) s.1)], [some (.box [.dat (.list (.int .u8)) x2615, .dat (.int .i64) s.2.1]), some (.seq (.int .i64) x2934), some (.seq (.int .i64) s.2.2)]⟩ : St)) (fin := (fun (t : Int × (List Int)) => ((Exit.exit 0), (⟨mkE 80 0 [(0, .ptr 0 0), (1, .dat (.int .i64) x2614), (5, .dat (.int .i64) x2931), (7, .slc 1)], [some (.box [.dat (.list (.int .u8)) x2615, .dat (.int .i64) t.1]), some (.seq (.int .i64) t.2)]⟩ : St)))) (by
  rintro t f K h
  · exact h) (fun s => link_map (spec_l20Tree_n3_l x2614 x2931 x2938 s.1 x2615 s.2.1 x2934 s.2.2) (Sum.elim (fun (t : Int × Int × (List Int)) => Sum.inl (t.1, t.2.1, t.2.2)) (fun (t : Int × (List Int)) => Sum.inr t)) (by
  rintro (t | t)
  · kernel_rfl
  · kernel_rfl)) (1, x2939, x2936))

theorem spec_l20Tree_n5_l (x2614 : Int) (x2931 : Int) (x2938 : Int) (x2615 : List Int) (x2939 : Int) (x2934 : List Int) (x2936 : List Int) : Link spec_l20Tree_ctx LL (Code.snd (Code.fst (Code.snd (Code.snd (Code.snd (Code.snd (Code.snd (bodyOf Tryd.f51)))))))) (Ann.snd (Ann.fst (Ann.snd (Ann.snd (Ann.snd (Ann.snd (Ann.snd spec_l20Tree_an))))))) (⟨mkE 80 0 [(0, .ptr 0 0), (1, .dat (.int .i64) x2614), (5, .dat (.int .i64) x2931), (6, .slc 1), (7, .slc 2), (8, .dat (.int .i64) x2938), (9, .dat (.int .i64) 1)], [some (.box [.dat (.list (.int .u8)) x2615, .dat (.int .i64) x2939]), some (.seq (.int .i64) x2934), some (.seq (.int .i64) x2936)]⟩ : St) (spec_l20Tree_n5 x2931 x2938 x2615 x2939 x2934 x2936) (fun (t : Int × (List Int)) => (Exit.normal, (⟨mkE 80 0 [(0, .ptr 0 0), (1, .dat (.int .i64) x2614), (5, .dat (.int .i64) x2931), (7, .slc 1)], [some (.box [.dat (.list (.int .u8)) x2615, .dat (.int .i64) t.1]), some (.seq (.int .i64) t.2)]⟩ : St))) := by
  unfold spec_l20Tree_n5
  exact Link.cast (by kernel_rfl) (by kernel_rfl) (link_block (id := 0) (spec_l20Tree_n4_l x2614 x2931 x2938 x2615 x2939 x2934 x2936) (fun (t : Int × (List Int)) => (t.1, t.2)) (by
  rintro t K h
  · exact Eq.mp (by kernel_rfl) h))

theorem spec_l20Tree_n6_l (x2614 : Int) (x2931 : Int) (x2938 : Int) (x2615 : List Int) (x2939 : Int) (x2934 : List Int) (x2936 : List Int) : Link spec_l20Tree_ctx LL (Code.fst (Code.snd (Code.snd (Code.snd (Code.snd (Code.snd (bodyOf Tryd.f51))))))) (Ann.fst (Ann.snd (Ann.snd (Ann.snd (Ann.snd (Ann.snd spec_l20Tree_an)))))) (⟨mkE 80 0 [(0, .ptr 0 0), (1, .dat (.int .i64) x2614), (5, .dat (.int .i64) x2931), (6, .slc 1), (7, .slc 2), (8, .dat (.int .i64) x2938)], [some (.box [.dat (.list (.int .u8)) x2615, .dat (.int .i64) x2939]), some (.seq (.int .i64) x2934), some (.seq (.int .i64) x2936)]⟩ : St) (spec_l20Tree_n6 x2931 x2938 x2615 x2939 x2934 x2936) (fun (t : Int × (List Int)) => (Exit.normal, (⟨mkE 80 0 [(0, .ptr 0 0), (1, .dat (.int .i64) x2614), (5, .dat (.int .i64) x2931), (7, .slc 1)], [some (.box [.dat (.list (.int .u8)) x2615, .dat (.int .i64) t.1]), some (.seq (.int .i64) t.2)]⟩ : St))) := by
  unfold spec_l20Tree_n6
  exact Link.cast (by kernel_rfl) (by kernel_rfl) (link_seq (b := (Code.snd (Code.fst (Code.snd (Code.snd (Code.snd (Code.snd (Code.snd (bodyOf Tryd.f51))))))))) (y := (Ann.snd (Ann.fst (Ann.snd (Ann.snd (Ann.snd (Ann.snd (Ann.snd spec_l20Tree_an)))))))) (spec_l20Tree_n2_l x2614 x2931 x2938 x2615 x2939 x2934 x2936) (fun (t : Unit) => (spec_l20Tree_n5_l x2614 x2931 x2938 x2615 x2939 x2934 x2936)))

theorem spec_l20Tree_n7_l (x2614 : Int) (x2931 : Int) (x2615 : List Int) (x3010 : Int) (x3011 : List Int) : Link spec_l20Tree_ctx LL (Code.snd (Code.snd (Code.snd (Code.snd (Code.snd (Code.snd (bodyOf Tryd.f51))))))) (Ann.snd (Ann.snd (Ann.snd (Ann.snd (Ann.snd (Ann.snd spec_l20Tree_an)))))) (⟨mkE 80 0 [(0, .ptr 0 0), (1, .dat (.int .i64) x2614), (5, .dat (.int .i64) x2931), (7, .slc 1)], [some (.box [.dat (.list (.int .u8)) x2615, .dat (.int .i64) x3010]), some (.seq (.int .i64) x3011)]⟩ : St) (spec_l20Tree_n7 x2614 x2931 x2615 x3010 x3011) (fun (t : Int × (List Int)) => (Exit.ret, (⟨mkE 80 0 [(4, .slc 1)], [some (.box [.dat (.list (.int .u8)) x2615, .dat (.int .i64) t.1]), some (.seq (.int .i64) t.2)]⟩ : St))) := by
  refine Link.of fun K h => ?_
  simp only [spec_l20Tree_n7, wpO_bind, wpO_cond, wpO_map, wpO_some] at h
  exact Awp.of (by kernel_rfl) h

theorem spec_l20Tree_n8_l (x2614 : Int) (x2931 : Int) (x2938 : Int) (x2615 : List Int) (x2939 : Int) (x2934 : List Int) (x2936 : List Int) : Link spec_l20Tree_ctx LL (Code.snd (Code.snd (Code.snd (Code.snd (Code.snd (bodyOf Tryd.f51)))))) (Ann.snd (Ann.snd (Ann.snd (Ann.snd (Ann.snd spec_l20Tree_an))))) (⟨mkE 80 0 [(0, .ptr 0 0), (1, .dat (.int .i64) x2614), (5, .dat (.int .i64) x2931), (6, .slc 1), (7, .slc 2), (8, .dat (.int .i64) x2938)], [some (.box [.dat (.list (.int .u8)) x2615, .dat (.int .i64) x2939]), some (.seq (.int .i64) x2934), some (.seq (.int .i64) x2936)]⟩ : St) (spec_l20Tree_n8 x2614 x2931 x2938 x2615 x2939 x2934 x2936) (fun (t : Int × (List Int)) => (Exit.ret, (⟨mkE 80 0 [(4, .slc 1)], [some (.box [.dat (.list (.int .u8)) x2615, .dat (.int .i64) t.1]), some (.seq (.int .i64) t.2)]⟩ : St))) := by
  unfold spec_l20Tree_n8
  exact Link.cast (by kernel_rfl) (by kernel_rfl) (link_seq (b := (Code.snd (Code.snd (Code.snd (Code.snd (Code.snd (Code.snd (bodyOf Tryd.f51)))))))) (y := (Ann.snd (Ann.snd (Ann.snd (Ann.snd (Ann.snd (Ann.snd spec_l20Tree_an))))))) (spec_l20Tree_n6_l x2614 x2931 x2938 x2615 x2939 x2934 x2936) (fun (t : Int × (List Int)) => (spec_l20Tree_n7_l x2614 x2931 x2615 t.1 t.2)))

theorem spec_l20Tree_n9_l (x2614 : Int) (x2615 : List Int) (x2616 : Int) : Link spec_l20Tree_ctx LL (bodyOf Tryd.f51) spec_l20Tree_an (⟨mkE 80 0 [(0, .ptr 0 0), (1, .dat (.int .i64) x2614)], [some (.box [.dat (.list (.int .u8)) x2615, .dat (.int .i64) x2616])]⟩ : St) (spec_l20Tree_n9 x2614 x2615 x2616) (fun (t : Int × (List Int)) => (Exit.ret, (⟨mkE 80 0 [(4, .slc 1)], [some (.box [.dat (.list (.int .u8)) x2615, .dat (.int .i64) t.1]), some (.seq (.int .i64) t.2)]⟩ : St))) := by
  unfold spec_l20Tree_n9
  exact Link.cast (by kernel_rfl) (by kernel_rfl) (link_group (c := (Code.fst (Code.snd (Code.snd (Code.snd (Code.snd (bodyOf Tryd.f51))))))) (a := (Ann.fst (Ann.snd (Ann.snd (Ann.snd (Ann.snd spec_l20Tree_an)))))) [(Code.fst (bodyOf Tryd.f51)), (Code.fst (Code.snd (bodyOf Tryd.f51))), (Code.fst (Code.snd (Code.snd (bodyOf Tryd.f51)))), (Code.fst (Code.snd (Code.snd (Code.snd (bodyOf Tryd.f51)))))] [(Ann.fst spec_l20Tree_an), (Ann.fst (Ann.snd spec_l20Tree_an)), (Ann.fst (Ann.snd (Ann.snd spec_l20Tree_an))), (Ann.fst (Ann.snd (Ann.snd (Ann.snd spec_l20Tree_an))))] rfl (link_seq (b := (Code.snd (Code.snd (Code.snd (Code.snd (Code.snd (bodyOf Tryd.f51))))))) (y := (Ann.snd (Ann.snd (Ann.snd (Ann.snd (Ann.snd spec_l20Tree_an)))))) (spec_l20Tree_n1_l x2614 x2615 x2616) (fun (t : Int × Int × Int × (List Int) × (List Int)) => (spec_l20Tree_n8_l x2614 t.1 t.2.1 x2615 t.2.2.1 t.2.2.2.1 t.2.2.2.2))))

theorem spec_l20Tree_e (x2614 : Int) (x2615 : List Int) (x2616 : Int) {r : AV} {H' : Heap} (h : (Ans.mk _ (spec_l20Tree x2614 x2615 x2616) (fun (t : Int × (List Int)) => (.slc 1, [some (.box [.dat (.list (.int .u8)) x2615, .dat (.int .i64) t.1]), some (.seq (.int .i64) t.2)]))).run = some (r, H')) : Awp spec_l20Tree_ctx LL (bodyOf Tryd.f51) spec_l20Tree_an (⟨mkE 80 0 [(0, .ptr 0 0), (1, .dat (.int .i64) x2614)], [some (.box [.dat (.list (.int .u8)) x2615, .dat (.int .i64) x2616])]⟩ : St) (Ret (tlook tys) Tryd.f51.results.toList r H') :=
  ret_of' (spec_l20Tree_n9_l x2614 x2615 x2616) (by unfold spec_l20Tree; kernel_rfl) (by
  intro t
  exact ret_mk [.slc 1] (by kernel_rfl) (by kernel_rfl) (by kernel_rfl) (by kernel_rfl)) h

def F_spec_l20Tree : Fun := fun avs H =>
  match avs, H with
  | [.ptr 0 0, .dat (.int .i64) x2614], [some (.box [.dat (.list (.int .u8)) x2615, .dat (.int .i64) x2616])] => ⟨_, spec_l20Tree x2614 x2615 x2616, fun (t : Int × (List Int)) => (.slc 1, [some (.box [.dat (.list (.int .u8)) x2615, .dat (.int .i64) t.1]), some (.seq (.int .i64) t.2)])⟩
  | _, _ => Ans.no

theorem spec_l20Tree_sound : Sound Tryd.prog 51 F_spec_l20Tree := by
  refine fn_sound' (C := spec_l20Tree_ctx) (c := bodyOf Tryd.f51) (cok_of tys_ok (List.forall_mem_cons.2 ⟨spec_l20Rd_pick_sound, List.forall_mem_cons.2 ⟨spec_l20Order_sound, List.forall_mem_cons.2 ⟨spec_l20Rd_odd_sound, by simp⟩⟩⟩) (List.forall_mem_cons.2 ⟨Tryd.call20, List.forall_mem_cons.2 ⟨Tryd.call61, List.forall_mem_cons.2 ⟨Tryd.call62, by simp⟩⟩⟩) (by kernel_rfl)) Tryd.func51 (by kernel_rfl) LL spec_l20Tree_an ?_
  intro avs H r H' h
  unfold F_spec_l20Tree at h
  split at h
  · refine Awp.cast ?_ ?_ ?_ (spec_l20Tree_e _ _ _ h) <;> kernel_rfl
  · simp [Ans.no, Ans.run] at h

/-! loop.example/headtrees/spec.l20Fill -/

def spec_l20Fill_an : Ann := (.seq (.seq (.leaf [0, 1, 2, 3, 4, 16]) (.cond (.leaf []) (.leaf [0, 1, 2, 3, 4]))) (.seq (.leaf [0, 1, 2, 3, 4, 10]) (.seq (.leaf [0, 1, 2, 3, 10]) (.seq (.leaf [0, 1, 3, 10, 11]) (.seq (.block (.loop (.seq (.seq (.leaf [0, 1, 3, 10, 11, 33]) (.cond (.leaf [0, 1, 3, 10, 11]) (.leaf [0, 1, 3, 10]))) (.block (.seq (.leaf [0, 1, 3, 10, 11, 12]) (.seq (.leaf [0, 1, 3, 10, 12]) (.leaf [0, 1, 3, 10, 11]))))))) (.seq (.leaf [0, 1, 3, 10, 11]) (.block (.loop (.seq (.seq (.leaf [0, 1, 3, 10, 11, 53]) (.cond (.leaf [0, 1, 3, 10, 11]) (.leaf []))) (.block (.seq (.leaf [0, 1, 3, 10, 11, 13]) (.seq (.leaf [0, 1, 3, 10, 13]) (.leaf [0, 1, 3, 10, 11])))))))))))))

def F_spec_l20Fill_fuel (n : Nat) : Fun := fun avs H =>
  match avs, H with
  | [.ptr 0 0, .slc 1, .dat (.int .i64) x3224, .dat (.int .i64) x3225, .dat (.int .i64) x3226], [some (.box [.dat (.list (.int .u8)) x3227, .dat (.int .i64) x3228]), some (.seq (.int .i64) x3229)] => ⟨_, spec_l20Fill_fuel n x3224 x3225 x3226 x3227 x3228 x3229, fun (t : Int × (List Int)) => (.tup [], [some (.box [.dat (.list (.int .u8)) x3227, .dat (.int .i64) t.1]), some (.seq (.int .i64) t.2)])⟩
  | _, _ => Ans.no

noncomputable def spec_l20Fill_ctx (n : Nat) : Ctx := ⟨tlook tys, olook [(20, F_spec_l20Rd_pick), (52, F_spec_l20Fill_fuel n)], ioF, 2⟩

theorem spec_l20Fill_n1_l (n : Nat) (x3224 : Int) (x3225 : Int) (x3226 : Int) (x3227 : List Int) (x3228 : Int) (x3229 : List Int) : Link (spec_l20Fill_ctx n) LL (Code.seq (Code.fst (bodyOf Tryd.f52)) (Code.seq (Code.fst (Code.snd (bodyOf Tryd.f52))) (Code.seq (Code.fst (Code.snd (Code.snd (bodyOf Tryd.f52)))) (Code.fst (Code.snd (Code.snd (Code.snd (bodyOf Tryd.f52)))))))) (Ann.seq (Ann.fst spec_l20Fill_an) (Ann.seq (Ann.fst (Ann.snd spec_l20Fill_an)) (Ann.seq (Ann.fst (Ann.snd (Ann.snd spec_l20Fill_an))) (Ann.fst (Ann.snd (Ann.snd (Ann.snd spec_l20Fill_an))))))) (⟨mkE 70 0 [(0, .ptr 0 0), (1, .slc 1), (2, .dat (.int .i64) x3224), (3, .dat (.int .i64) x3225), (4, .dat (.int .i64) x3226)], [some (.box [.dat (.list (.int .u8)) x3227, .dat (.int .i64) x3228]), some (.seq (.int .i64) x3229)]⟩ : St) (spec_l20Fill_n1 (spec_l20Fill_fuel n) x3224 x3225 x3226 x3227 x3228 x3229) (Sum.elim (fun (t : Int × Int × (List Int)) => (Exit.normal, (⟨mkE 70 0 [(0, .ptr 0 0), (1, .slc 1), (3, .dat (.int .i64) x3225), (10, .dat (.int .i64) t.1), (11, .dat (.int .i64) x3224)], [some (.box [.dat (.list (.int .u8)) x3227, .dat (.int .i64) t.2.1]), some (.seq (.int .i64) t.2.2)]⟩ : St))) (fun (t : Int × (List Int)) => (Exit.ret, (⟨mkE 70 0 [], [some (.box [.dat (.list (.int .u8)) x3227, .dat (.int .i64) t.1]), some (.seq (.int .i64) t.2)]⟩ : St)))) := by
  refine Link.of fun K h => ?_
  simp only [spec_l20Fill_n1, wpO_bind, wpO_cond, wpO_map, wpO_some] at h
  exact Awp.of (by kernel_rfl) h

theorem spec_l20Fill_n2_l (n : Nat) (x3225 : Int) (x3300 : Int) (x3315 : Int) (x3227 : List Int) (x3316 : Int) (x3317 : List Int) : Link (spec_l20Fill_ctx n) LL (Code.fst (Code.fst (Code.fst (Code.snd (Code.snd (Code.snd (Code.snd (bodyOf Tryd.f52)))))))) (Ann.fst (Ann.fst (Ann.fst (Ann.snd (Ann.snd (Ann.snd (Ann.snd spec_l20Fill_an))))))) (⟨mkE 70 0 [(0, .ptr 0 0), (1, .slc 1), (3, .dat (.int .i64) x3225), (10, .dat (.int .i64) x3300), (11, .dat (.int .i64) x3315)], [some (.box [.dat (.list (.int .u8)) x3227, .dat (.int .i64) x3316]), some (.seq (.int .i64) x3317)]⟩ : St) (spec_l20Fill_n2 (spec_l20Fill_fuel n) x3300 x3315 x3227 x3316 x3317) (Sum.elim (fun (t : Int × Int × (List Int)) => (Exit.normal, (⟨mkE 70 0 [(0, .ptr 0 0), (1, .slc 1), (3, .dat (.int .i64) x3225), (10, .dat (.int .i64) x3300), (11, .dat (.int .i64) t.1)], [some (.box [.dat (.list (.int .u8)) x3227, .dat (.int .i64) t.2.1]), some (.seq (.int .i64) t.2.2)]⟩ : St))) (fun (t : Int × (List Int)) => ((Exit.exit 0), (⟨mkE 70 0 [(0, .ptr 0 0), (1, .slc 1), (3, .dat (.int .i64) x3225), (10, .dat (.int .i64) x3300)], [some (.box [.dat (.list (.int .u8)) x3227, .dat (.int .i64) t.1]), some (.seq (.int .i64) t.2)]⟩ : St)))) := by
  refine Link.of fun K h => ?_
  simp only [spec_l20Fill_n2, wpO_bind, wpO_cond, wpO_map, wpO_some] at h
  exact Awp.of (by kernel_rfl) h

theorem spec_l20Fill_n3_l (n : Nat) (x3225 : Int) (x3300 : Int) (x3224 : Int) (x3227 : List Int) (x3299 : Int) (x3303 : List Int) : Link (spec_l20Fill_ctx n) LL (Code.fst (Code.fst (Code.snd (Code.snd (Code.snd (Code.snd (bodyOf Tryd.f52))))))) (Ann.fst (Ann.fst (Ann.snd (Ann.snd (Ann.snd (Ann.snd spec_l20Fill_an)))))) (⟨mkE 70 0 [(0, .ptr 0 0), (1, .slc 1), (3, .dat (.int .i64) x3225), (10, .dat (.int .i64) x3300), (11, .dat (.int .i64) x3224)], [some (.box [.dat (.list (.int .u8)) x3227, .dat (.int .i64) x3299]), some (.seq (.int .i64) x3303)]⟩ : St) (spec_l20Fill_n3 (spec_l20Fill_fuel n) x3300 x3224 x3227 x3299 x3303) (fun (t : Int × (List Int)) => ((Exit.exit 0), (⟨mkE 70 0 [(0, .ptr 0 0), (1, .slc 1), (3, .dat (.int .i64) x3225), (10, .dat (.int .i64) x3300)], [some (.box [.dat (.list (.int .u8)) x3227, .dat (.int .i64) t.1]), some (.seq (.int .i64) t.2)]⟩ : St))) := by
  unfold spec_l20Fill_n3
  exact Link.cast (by kernel_rfl) (by kernel_rfl) (link_loop (mk := fun (s : Int × Int × (List Int)) => (⟨mkE 70 0 [(0, .ptr 0 0), (1, .slc 1), (3, .dat (.int .i64) x3225), (10, .dat (.int .i64) x3300), (11, .dat (.int .i64) s.1)], [some (.box [.dat (.list (.int .u8)) x3227, .dat (.int .i64) s.2.1]), some (.seq (.int .i64) s.2.2)]⟩ : St)) (fin := (fun (t : Int × (List Int)) => ((Exit.exit 0), (⟨mkE 70 0 [(0, .ptr 0 0), (1, .slc 1), (3, .dat (.int .i64) x3225), (10, .dat (.int .i64) x3300)], [some (.box [.dat (.list (.int .u8)) x3227, .dat (.int .i64) t.1]), some (.seq (.int .i64) t.2)]⟩ : St)))) (by
  rintro t f K h
  · exact h) (fun s => link_map (spec_l20Fill_n2_l n x3225 x3300 s.1 x3227 s.2.1 s.2.2) (Sum.elim (fun (t : Int × Int × (List Int)) => Sum.inl (t.1, t.2.1, t.2.2)) (fun (t : Int × (List Int)) => Sum.inr t)) (by
  rintro (t | t)
  · kernel_rfl
  · kernel_rfl)) (x3224, x3299, x3303))

theorem spec_l20Fill_n4_l (n : Nat) (x3225 : Int) (x3300 : Int) (x3224 : Int) (x3227 : List Int) (x3299 : Int) (x3303 : List Int) : Link (spec_l20Fill_ctx n) LL (Code.fst (Code.snd (Code.snd (Code.snd (Code.snd (bodyOf Tryd.f52)))))) (Ann.fst (Ann.snd (Ann.snd (Ann.snd (Ann.snd spec_l20Fill_an))))) (⟨mkE 70 0 [(0, .ptr 0 0), (1, .slc 1), (3, .dat (.int .i64) x3225), (10, .dat (.int .i64) x3300), (11, .dat (.int .i64) x3224)], [some (.box [.dat (.list (.int .u8)) x3227, .dat (.int .i64) x3299]), some (.seq (.int .i64) x3303)]⟩ : St) (spec_l20Fill_n4 (spec_l20Fill_fuel n) x3300 x3224 x3227 x3299 x3303) (fun (t : Int × (List Int)) => (Exit.normal, (⟨mkE 70 0 [(0, .ptr 0 0), (1, .slc 1), (3, .dat (.int .i64) x3225), (10, .dat (.int .i64) x3300)], [some (.box [.dat (.list (.int .u8)) x3227, .dat (.int .i64) t.1]), some (.seq (.int .i64) t.2)]⟩ : St))) := by
  unfold spec_l20Fill_n4
  exact Link.cast (by kernel_rfl) (by kernel_rfl) (link_block (id := 0) (spec_l20Fill_n3_l n x3225 x3300 x3224 x3227 x3299 x3303) (fun (t : Int × (List Int)) => (t.1, t.2)) (by
  rintro t K h
  · exact Eq.mp (by kernel_rfl) h))

theorem spec_l20Fill_n5_l (n : Nat) (x3225 : Int) (x3300 : Int) (x3227 : List Int) (x3316 : Int) (x3317 : List Int) : Link (spec_l20Fill_ctx n) LL (Code.fst (Code.snd (Code.snd (Code.snd (Code.snd (Code.snd (bodyOf Tryd.f52))))))) (Ann.fst (Ann.snd (Ann.snd (Ann.snd (Ann.snd (Ann.snd spec_l20Fill_an)))))) (⟨mkE 70 0 [(0, .ptr 0 0), (1, .slc 1), (3, .dat (.int .i64) x3225), (10, .dat (.int .i64) x3300)], [some (.box [.dat (.list (.int .u8)) x3227, .dat (.int .i64) x3316]), some (.seq (.int .i64) x3317)]⟩ : St) (spec_l20Fill_n5 (spec_l20Fill_fuel n) x3300) (fun (t : Int) => (Exit.normal, (⟨mkE 70 0 [(0, .ptr 0 0), (1, .slc 1), (3, .dat (.int .i64) x3225), (10, .dat (.int .i64) x3300), (11, .dat (.int .i64) t)], [some (.box [.dat (.list (.int .u8)) x3227, .dat (.int .i64) x3316]), some (.seq (.int .i64) x3317)]⟩ : St))) := by
  refine Link.of fun K h => ?_
  simp only [spec_l20Fill_n5, wpO_bind, wpO_cond, wpO_map, wpO_some] at h
  exact Awp.of (by kernel_rfl) h

theorem spec_l20Fill_n6_l (n : Nat) (x3225 : Int) (x3300 : Int) (x3342 : Int) (x3227 : List Int) (x3343 : Int) (x3344 : List Int) : Link (spec_l20Fill_ctx n) LL (Code.fst (Code.fst (Code.snd (Code.snd (Code.snd (Code.snd (Code.snd (Code.snd (bodyOf Tryd.f52))))))))) (Ann.fst (Ann.fst (Ann.snd (Ann.snd (Ann.snd (Ann.snd (Ann.snd (Ann.snd spec_l20Fill_an)))))))) (⟨mkE 70 0 [(0, .ptr 0 0), (1, .slc 1), (3, .dat (.int .i64) x3225), (10, .dat (.int .i64) x3300), (11, .dat (.int .i64) x3342)], [some (.box [.dat (.list (.int .u8)) x3227, .dat (.int .i64) x3343]), some (.seq (.int .i64) x3344)]⟩ : St) (spec_l20Fill_n6 (spec_l20Fill_fuel n) x3225 x3300 x3342 x3227 x3343 x3344) (Sum.elim (fun (t : Int × Int × (List Int)) => (Exit.normal, (⟨mkE 70 0 [(0, .ptr 0 0), (1, .slc 1), (3, .dat (.int .i64) x3225), (10, .dat (.int .i64) x3300), (11, .dat (.int .i64) t.1)], [some (.box [.dat (.list (.int .u8)) x3227, .dat (.int .i64) t.2.1]), some (.seq (.int .i64) t.2.2)]⟩ : St))) (fun (t : Int × (List Int)) => ((Exit.exit 2), (⟨mkE 70 0 [], [some (.box [.dat (.list (.int .u8)) x3227, .dat (.int .i64) t.1]), some (.seq (.int .i64) t.2)]⟩ : St)))) := by
  refine Link.of fun K h => ?_
  simp only [spec_l20Fill_n6, wpO_bind, wpO_cond, wpO_map, wpO_some] at h
  exact Awp.of (by kernel_rfl) h

theorem spec_l20Fill_n7_l (n : Nat) (x3225 : Int) (x3300 : Int) (x3329 : Int) (x3227 : List Int) (x3316 : Int) (x3317 : List Int) : Link (spec_l20Fill_ctx n) LL (Code.fst (Code.snd (Code.snd (Code.snd (Code.snd (Code.snd (Code.snd (bodyOf Tryd.f52)))))))) (Ann.fst (Ann.snd (Ann.snd (Ann.snd (Ann.snd (Ann.snd (Ann.snd spec_l20Fill_an))))))) (⟨mkE 70 0 [(0, .ptr 0 0), (1, .slc 1), (3, .dat (.int .i64) x3225), (10, .dat (.int .i64) x3300), (11, .dat (.int .i64) x3329)], [some (.box [.dat (.list (.int .u8)) x3227, .dat (.int .i64) x3316]), some (.seq (.int .i64) x3317)]⟩ : St) (spec_l20Fill_n7 (spec_l20Fill_fuel n) x3225 x3300 x3329 x3227 x3316 x3317) (fun (t : Int × (List Int)) => ((Exit.exit 2), (⟨mkE 70 0 [], [some (.box [.dat (.list (.int .u8)) x3227, .dat (.int .i64) t.1]), some (.seq (.int .i64) t.2)]⟩ : St))) := by
  unfold spec_l20Fill_n7
  exact Link.cast (by kernel_rfl) (by kernel_rfl) (link_loop (mk := fun (s : Int × Int × (List Int)) => (⟨mkE 70 0 [(0, .ptr 0 0), (1, .slc 1), (3, .dat (.int .i64) x3225), (10, .dat (.int .i64) x3300), (11, .dat (.int .i64) s.1)], [some (.box [.dat (.list (.int .u8)) x3227, .dat (.int .i64) s.2.1]), some (.seq (.int .i64) s.2.2)]⟩ : St)) (fin := (fun (t : Int × (List Int)) => ((Exit.exit 2), (⟨mkE 70 0 [], [some (.box [.dat (.list (.int .u8)) x3227, .dat (.int .i64) t.1]), some (.seq (.int .i64) t.2)]⟩ : St)))) (by
  rintro t f K h
  · exact h) (fun s => link_map (spec_l20Fill_n6_l n x3225 x3300 s.1 x3227 s.2.1 s.2.2) (Sum.elim (fun (t : Int × Int × (List Int)) => Sum.inl (t.1, t.2.1, t.2.2)) (fun (t : Int × (List Int)) => Sum.inr t)) (by
  rintro (t | t)
  · kernel_rfl
  · kernel_rfl)) (x3329, x3316, x3317))

theorem spec_l20Fill_n8_l (n : Nat) (x3225 : Int) (x3300 : Int) (x3329 : Int) (x3227 : List Int) (x3316 : Int) (x3317 : List Int) : Link (spec_l20Fill_ctx n) LL (Code.snd (Code.snd (Code.snd (Code.snd (Code.snd (Code.snd (bodyOf Tryd.f52))))))) (Ann.snd (Ann.snd (Ann.snd (Ann.snd (Ann.snd (Ann.snd spec_l20Fill_an)))))) (⟨mkE 70 0 [(0, .ptr 0 0), (1, .slc 1), (3, .dat (.int .i64) x3225), (10, .dat (.int .i64) x3300), (11, .dat (.int .i64) x3329)], [some (.box [.dat (.list (.int .u8)) x3227, .dat (.int .i64) x3316]), some (.seq (.int .i64) x3317)]⟩ : St) (spec_l20Fill_n8 (spec_l20Fill_fuel n) x3225 x3300 x3329 x3227 x3316 x3317) (fun (t : Int × (List Int)) => (Exit.normal, (⟨mkE 70 0 [], [some (.box [.dat (.list (.int .u8)) x3227, .dat (.int .i64) t.1]), some (.seq (.int .i64) t.2)]⟩ : St))) := by
  unfold spec_l20Fill_n8
  exact Link.cast (by kernel_rfl) (by kernel_rfl) (link_block (id := 2) (spec_l20Fill_n7_l n x3225 x3300 x3329 x3227 x3316 x3317) (fun (t : Int × (List Int)) => (t.1, t.2)) (by
  rintro t K h
  · exact Eq.mp (by kernel_rfl) h))

theorem spec_l20Fill_n9_l (n : Nat) (x3225 : Int) (x3300 : Int) (x3227 : List Int) (x3316 : Int) (x3317 : List Int) : Link (spec_l20Fill_ctx n) LL (Code.snd (Code.snd (Code.snd (Code.snd (Code.snd (bodyOf Tryd.f52)))))) (Ann.snd (Ann.snd (Ann.snd (Ann.snd (Ann.snd spec_l20Fill_an))))) (⟨mkE 70 0 [(0, .ptr 0 0), (1, .slc 1), (3, .dat (.int .i64) x3225), (10, .dat (.int .i64) x3300)], [some (.box [.dat (.list (.int .u8)) x3227, .dat (.int .i64) x3316]), some (.seq (.int .i64) x3317)]⟩ : St) (spec_l20Fill_n9 (spec_l20Fill_fuel n) x3225 x3300 x3227 x3316 x3317) (fun (t : Int × (List Int)) => (Exit.normal, (⟨mkE 70 0 [], [some (.box [.dat (.list (.int .u8)) x3227, .dat (.int .i64) t.1]), some (.seq (.int .i64) t.2)]⟩ : St))) := by
  unfold spec_l20Fill_n9
  exact Link.cast (by kernel_rfl) (by kernel_rfl) (link_seq (b := (Code.snd (Code.snd (Code.snd (Code.snd (Code.snd (Code.snd (bodyOf Tryd.f52)))))))) (y := (Ann.snd (Ann.snd (Ann.snd (Ann.snd (Ann.snd (Ann.snd spec_l20Fill_an))))))) (spec_l20Fill_n5_l n x3225 x3300 x3227 x3316 x3317) (fun (t : Int) => (spec_l20Fill_n8_l n x3225 x3300 t x3227 x3316 x3317)))

theorem spec_l20Fill_n10_l (n : Nat) (x3225 : Int) (x3300 : Int) (x3224 : Int) (x3227 : List Int) (x3299 : Int) (x3303 : List Int) : Link (spec_l20Fill_ctx n) LL (Code.snd (Code.snd (Code.snd (Code.snd (bodyOf Tryd.f52))))) (Ann.snd (Ann.snd (Ann.snd (Ann.snd spec_l20Fill_an)))) (⟨mkE 70 0 [(0, .ptr 0 0), (1, .slc 1), (3, .dat (.int .i64) x3225), (10, .dat (.int .i64) x3300), (11, .dat (.int .i64) x3224)], [some (.box [.dat (.list (.int .u8)) x3227, .dat (.int .i64) x3299]), some (.seq (.int .i64) x3303)]⟩ : St) (spec_l20Fill_n10 (spec_l20Fill_fuel n) x3225 x3300 x3224 x3227 x3299 x3303) (fun (t : Int × (List Int)) => (Exit.normal, (⟨mkE 70 0 [], [some (.box [.dat (.list (.int .u8)) x3227, .dat (.int .i64) t.1]), some (.seq (.int .i64) t.2)]⟩ : St))) := by
  unfold spec_l20Fill_n10
  exact Link.cast (by kernel_rfl) (by kernel_rfl) (link_seq (b := (Code.snd (Code.snd (Code.snd (Code.snd (Code.snd (bodyOf Tryd.f52))))))) (y := (Ann.snd (Ann.snd (Ann.snd (Ann.snd (Ann.snd spec_l20Fill_an)))))) (spec_l20Fill_n4_l n x3225 x3300 x3224 x3227 x3299 x3303) (fun (t : Int × (List Int)) => (spec_l20Fill_n9_l n x3225 x3300 x3227 t.1 t.2)))

theorem spec_l20Fill_n11_l (n : Nat) (x3224 : Int) (x3225 : Int) (x3226 : Int) (x3227 : List Int) (x3228 : Int) (x3229 : List Int) : Link (spec_l20Fill_ctx n) LL (bodyOf Tryd.f52) spec_l20Fill_an (⟨mkE 70 0 [(0, .ptr 0 0), (1, .slc 1), (2, .dat (.int .i64) x3224), (3, .dat (.int .i64) x3225), (4, .dat (.int .i64) x3226)], [some (.box [.dat (.list (.int .u8)) x3227, .dat (.int .i64) x3228]), some (.seq (.int .i64) x3229)]⟩ : St) (spec_l20Fill_n11 (spec_l20Fill_fuel n) x3224 x3225 x3226 x3227 x3228 x3229) (Sum.elim (fun (t : Int × (List Int)) => (Exit.normal, (⟨mkE 70 0 [], [some (.box [.dat (.list (.int .u8)) x3227, .dat (.int .i64) t.1]), some (.seq (.int .i64) t.2)]⟩ : St))) (fun (t : Int × (List Int)) => (Exit.ret, (⟨mkE 70 0 [], [some (.box [.dat (.list (.int .u8)) x3227, .dat (.int .i64) t.1]), some (.seq (.int .i64) t.2)]⟩ : St)))) := by
  unfold spec_l20Fill_n11
  exact Link.cast (by kernel_rfl) (by kernel_rfl) (link_group (c := (Code.fst (Code.snd (Code.snd (Code.snd (bodyOf Tryd.f52)))))) (a := (Ann.fst (Ann.snd (Ann.snd (Ann.snd spec_l20Fill_an))))) [(Code.fst (bodyOf Tryd.f52)), (Code.fst (Code.snd (bodyOf Tryd.f52))), (Code.fst (Code.snd (Code.snd (bodyOf Tryd.f52))))] [(Ann.fst spec_l20Fill_an), (Ann.fst (Ann.snd spec_l20Fill_an)), (Ann.fst (Ann.snd (Ann.snd spec_l20Fill_an)))] rfl (link_seq2 (b := (Code.snd (Code.snd (Code.snd (Code.snd (bodyOf Tryd.f52)))))) (y := (Ann.snd (Ann.snd (Ann.snd (Ann.snd spec_l20Fill_an))))) (spec_l20Fill_n1_l n x3224 x3225 x3226 x3227 x3228 x3229) (fun (t : Int × Int × (List Int)) => (link_map (spec_l20Fill_n10_l n x3225 t.1 x3224 x3227 t.2.1 t.2.2) (fun (u : Int × (List Int)) => (Sum.inl (u.1, u.2))) (by
  rintro t
  · kernel_rfl))) (fun (t : Int × (List Int)) => (Sum.inr t)) (by
  rintro t
  · kernel_rfl) (by
  rintro t f K h
  · exact h)))

theorem spec_l20Fill_e (n : Nat) (x3224 : Int) (x3225 : Int) (x3226 : Int) (x3227 : List Int) (x3228 : Int) (x3229 : List Int) {r : AV} {H' : Heap} (h : (Ans.mk _ (spec_l20Fill_fuel (n + 1) x3224 x3225 x3226 x3227 x3228 x3229) (fun (t : Int × (List Int)) => (.tup [], [some (.box [.dat (.list (.int .u8)) x3227, .dat (.int .i64) t.1]), some (.seq (.int .i64) t.2)]))).run = some (r, H')) : Awp (spec_l20Fill_ctx n) LL (bodyOf Tryd.f52) spec_l20Fill_an (⟨mkE 70 0 [(0, .ptr 0 0), (1, .slc 1), (2, .dat (.int .i64) x3224), (3, .dat (.int .i64) x3225), (4, .dat (.int .i64) x3226)], [some (.box [.dat (.list (.int .u8)) x3227, .dat (.int .i64) x3228]), some (.seq (.int .i64) x3229)]⟩ : St) (Ret (tlook tys) Tryd.f52.results.toList r H') :=
  ret_of (spec_l20Fill_n11_l n x3224 x3225 x3226 x3227 x3228 x3229) (Sum.elim (fun (t : Int × (List Int)) => (t.1, t.2)) (fun (t : Int × (List Int)) => t)) (by (show _ = _); kernel_rfl) (by
  rintro (t | t)
  · exact ret_mk [] (by kernel_rfl) (by kernel_rfl) (by kernel_rfl) (by kernel_rfl)
  · exact ret_mk [] (by kernel_rfl) (by kernel_rfl) (by kernel_rfl) (by kernel_rfl)) h

end Go.Rv
