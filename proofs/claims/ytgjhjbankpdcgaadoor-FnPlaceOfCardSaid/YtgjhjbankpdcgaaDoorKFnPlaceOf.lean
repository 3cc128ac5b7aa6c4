/-
  The checked code answers as the plain functions do; written by program. Conditions: none.
-/
import Derived.Test.YtgjhjbankpdcgaaDoorKFnPlaceOfa
set_option linter.unusedVariables false
set_option linter.unusedSimpArgs false
set_option linter.defProp false
set_option maxRecDepth 100000
namespace Go.Rv
open Go.Proofs
/-! loop.example/headtrees/spec.RootOf -/

def spec_RootOf_an : Ann := (.seq (.leaf [0]) (.seq (.seq (.leaf [0, 3]) (.block (.loop (.seq (.seq (.leaf [0, 3, 11]) (.cond (.leaf [0, 3]) (.leaf []))) (.seq (.block (.seq (.leaf [0, 3, 18]) (.cond (.seq (.leaf [2]) (.leaf [2])) (.leaf [0, 3])))) (.leaf [0, 3])))))) (.seq (.leaf [2]) (.leaf [2]))))

noncomputable def spec_RootOf_ctx : Ctx := ⟨tlook tys, olook [(51, F_spec_TreeOk)], ioF, 0, false, []⟩

theorem spec_RootOf_n1_l (x4097 : List Int) : Link spec_RootOf_ctx LL (cq [0] (bodyOf Tryd.f68)) (aq [0] spec_RootOf_an) ⟨mkE 21 0 [(0, dL x4097)], []⟩ (spec_RootOf_n1) (fun (t : Unit) => (Exit.normal, ⟨mkE 21 0 [(0, dL x4097)], []⟩)) := by
  refine Link.of fun K h => ?_
  simp only [spec_RootOf_n1, wpO_bind, wpO_cond, wpO_map, wpO_some] at h
  exact Awp.of (by kernel_rfl) h

theorem spec_RootOf_n2_l (x4097 : List Int) : Link spec_RootOf_ctx LL (cq [0,0,1] (bodyOf Tryd.f68)) (aq [0,0,1] spec_RootOf_an) ⟨mkE 21 0 [(0, dL x4097)], []⟩ (spec_RootOf_n2) (fun (t : Unit) => (Exit.normal, ⟨mkE 21 0 [(0, dL x4097), (3, dI 0)], []⟩)) := by
  refine Link.of fun K h => ?_
  simp only [spec_RootOf_n2, wpO_bind, wpO_cond, wpO_map, wpO_some] at h
  exact Awp.of (by kernel_rfl) h

theorem spec_RootOf_n3_l (x4097 : List Int) (x4114 : Int) : Link spec_RootOf_ctx LL (cq [0,0,1,0,1] (bodyOf Tryd.f68)) (aq [0,0,1,0,1] spec_RootOf_an) ⟨mkE 21 0 [(0, dL x4097), (3, dI x4114)], []⟩ (spec_RootOf_n3 x4097 x4114) (Sum.elim (fun (t : Int) => (Exit.normal, ⟨mkE 21 0 [(0, dL x4097), (3, dI t)], []⟩)) (Sum.elim (fun (t : Int) => (Exit.ret, ⟨mkE 21 0 [(2, dI t)], []⟩)) (fun (t : Unit) => ((Exit.exit 0), ⟨mkE 21 0 [], []⟩)))) := by
  refine Link.of fun K h => ?_
  simp only [spec_RootOf_n3, wpO_bind, wpO_cond, wpO_map, wpO_some] at h
  exact Awp.of (by kernel_rfl) h

def spec_RootOf_n4_l (x4097 : List Int) := (link_loop (mk := fun (s : Int) => ⟨mkE 21 0 [(0, dL x4097), (3, dI s)], []⟩) (fin := (Sum.elim (fun (t : Int) => (Exit.ret, ⟨mkE 21 0 [(2, dI t)], []⟩)) (fun (t : Unit) => ((Exit.exit 0), ⟨mkE 21 0 [], []⟩)))) (by
  rintro (t | t) f K h
  · exact h
  · exact h) (fun s => link_map (spec_RootOf_n3_l x4097 s) (Sum.elim (fun (t : Int) => Sum.inl t) (Sum.elim (fun (t : Int) => Sum.inr (Sum.inl t)) (fun (t : Unit) => Sum.inr (Sum.inr t)))) (by
  rintro (t | t | t)
  · kernel_rfl
  · kernel_rfl
  · kernel_rfl)) 0)

def spec_RootOf_n5_l (x4097 : List Int) := (link_block (fin2 := (Sum.elim (fun (t : Unit) => (Exit.normal, ⟨mkE 21 0 [], []⟩)) (fun (t : Int) => (Exit.ret, ⟨mkE 21 0 [(2, dI t)], []⟩)))) (id := 0) (spec_RootOf_n4_l x4097) (Sum.elim (fun (t : Int) => (Sum.inr t)) (fun (t : Unit) => (Sum.inl ()))) (by
  rintro (t | t) K h
  · exact Eq.mp (by kernel_rfl) h
  · exact Eq.mp (by kernel_rfl) h))

def spec_RootOf_n6_l (x4097 : List Int) := (link_seq (spec_RootOf_n2_l x4097) (fun (t : Unit) => (spec_RootOf_n5_l x4097)))

theorem spec_RootOf_n7_l : Link spec_RootOf_ctx LL (cq [1,1] (bodyOf Tryd.f68)) (aq [1,1] spec_RootOf_an) ⟨mkE 21 0 [], []⟩ (spec_RootOf_n7) (fun (t : Int) => (Exit.ret, ⟨mkE 21 0 [(2, dI t)], []⟩)) := by
  refine Link.of fun K h => ?_
  simp only [spec_RootOf_n7, wpO_bind, wpO_cond, wpO_map, wpO_some] at h
  exact Awp.of (by kernel_rfl) h

def spec_RootOf_n8_l (x4097 : List Int) := (link_seq2 (spec_RootOf_n6_l x4097) (fun (t : Unit) => (spec_RootOf_n7_l)) (fun (t : Int) => t) (by
  rintro t
  · kernel_rfl) (by
  rintro t f K h
  · exact h))

def spec_RootOf_n9_l (x4097 : List Int) := (link_seq (spec_RootOf_n1_l x4097) (fun (t : Unit) => (spec_RootOf_n8_l x4097)))

theorem spec_RootOf_e (x4097 : List Int) {r : AV} {H' : Heap} (h : (Ans.mk _ (spec_RootOf x4097) (fun (t : Int) => (dI t, [])) [] none).run = some (r, H')) : Awp spec_RootOf_ctx LL (bodyOf Tryd.f68) spec_RootOf_an ⟨mkE 21 0 [(0, dL x4097)], []⟩ (Ret (tlook tys) Tryd.f68.results.toList r H') :=
  ret_of' (Link.cast (by kernel_rfl) (by kernel_rfl) (spec_RootOf_n9_l x4097)) (by unfold spec_RootOf; kernel_rfl) (by
  intro t
  exact ret_mk [dI t] (by kernel_rfl) (by kernel_rfl) (by kernel_rfl) (by kernel_rfl)) h

def F_spec_RootOf : Fun := fun avs H =>
  match avs, H with
  | [.dat (.list (.int .i64)) x4097], [] => ⟨_, spec_RootOf x4097, fun (t : Int) => (dI t, []), [], none⟩
  | _, _ => Ans.no

theorem spec_RootOf_sound : Sound Tryd.prog 68 F_spec_RootOf := by
  refine fn_sound' (C := spec_RootOf_ctx) (c := bodyOf Tryd.f68) (cok_of tys_ok (allc spec_TreeOk_sound alln) (allc Tryd.call51 alln) (by kernel_rfl)) Tryd.func68 (by kernel_rfl) LL spec_RootOf_an ?_
  intro avs H r H' h
  unfold F_spec_RootOf at h
  split at h
  · refine Awp.cast ?_ ?_ ?_ (spec_RootOf_e _ h) <;> kernel_rfl
  · simp [Ans.no, Ans.run] at h


/-! loop.example/headtrees/spec.l4TreeRank, loop.example/headtrees/spec.l4RowRank -/

def spec_l4TreeRank_an : Ann := (.seq (.leaf [0, 1, 2, 3]) (.seq (.leaf [0, 1, 2, 3, 9]) (.seq (.seq (.leaf [0, 1, 2, 3, 9, 10]) (.block (.loop (.seq (.seq (.leaf [0, 1, 2, 3, 9, 10, 14]) (.cond (.leaf [0, 1, 2, 3, 9, 10]) (.leaf [0, 1, 2, 3, 9]))) (.seq (.block (.leaf [0, 1, 2, 3, 9, 10])) (.leaf [0, 1, 2, 3, 9, 10])))))) (.seq (.leaf [8]) (.leaf [8])))))

def spec_l4RowRank_an : Ann := (.seq (.leaf [0, 1, 2, 3]) (.seq (.seq (.leaf [0, 1, 2, 3, 15]) (.cond (.seq (.leaf [8]) (.leaf [8])) (.leaf [0, 1, 2, 3]))) (.seq (.leaf [0, 1, 2, 3, 9]) (.seq (.block (.loop (.seq (.seq (.leaf [0, 1, 2, 3, 9, 23]) (.cond (.leaf [0, 1, 2, 3, 9]) (.leaf [0, 1, 2, 3, 9]))) (.block (.leaf [0, 1, 2, 3, 9]))))) (.seq (.leaf [0, 1, 2, 3, 9, 10]) (.seq (.block (.loop (.seq (.seq (.leaf [0, 1, 2, 3, 9, 10, 38]) (.cond (.leaf [0, 1, 2, 3, 9, 10]) (.leaf [0, 1, 2, 3, 9, 10]))) (.block (.leaf [0, 1, 2, 3, 9, 10]))))) (.seq (.leaf [0, 1, 2, 3, 9, 10, 11]) (.seq (.seq (.leaf [0, 1, 2, 3, 9, 10, 11, 12]) (.block (.loop (.seq (.seq (.leaf [0, 1, 2, 3, 9, 10, 11, 12, 44]) (.cond (.leaf [0, 1, 2, 3, 9, 10, 11, 12]) (.leaf [0, 1, 2, 3, 9, 10, 11]))) (.seq (.block (.leaf [0, 1, 2, 3, 9, 10, 11, 12])) (.leaf [0, 1, 2, 3, 9, 10, 11, 12])))))) (.seq (.leaf [8]) (.leaf [8]))))))))))

def F_spec_l4TreeRank_fuel (n : Nat) : Fun := fun avs H =>
  match avs, H with
  | [.dat (.list (.int .i64)) x4133, .dat (.int .i64) x4134, .dat (.int .i64) x4135, .dat (.int .i64) x4136], [] => ⟨_, spec_l4TreeRank_fuel n x4133 x4134 x4135 x4136, fun (t : Int) => (dI t, []), [], none⟩
  | _, _ => Ans.no

def F_spec_l4RowRank_fuel (n : Nat) : Fun := fun avs H =>
  match avs, H with
  | [.dat (.list (.int .i64)) x4384, .dat (.int .i64) x4385, .dat (.int .i64) x4386, .dat (.int .i64) x4387], [] => ⟨_, spec_l4RowRank_fuel n x4384 x4385 x4386 x4387, fun (t : Int) => (dI t, []), [], none⟩
  | _, _ => Ans.no

noncomputable def spec_l4TreeRank_ctx (n : Nat) : Ctx := ⟨tlook tys, olook [(94, F_spec_l4Rows), (102, F_spec_l4RowRank_fuel n)], ioF, 0, false, []⟩

noncomputable def spec_l4RowRank_ctx (n : Nat) : Ctx := ⟨tlook tys, olook [(101, F_spec_l2Yield), (59, F_spec_l4Flat), (94, F_spec_l4Rows), (67, F_spec_l4TreeRank_fuel n), (102, F_spec_l4RowRank_fuel n)], ioF, 0, false, []⟩

theorem spec_l4TreeRank_n1_l (n : Nat) (x4133 : List Int) (x4134 : Int) (x4135 : Int) (x4136 : Int) : Link (spec_l4TreeRank_ctx n) LL (Code.seq (cq [0] (bodyOf Tryd.f67)) (cq [0,1] (bodyOf Tryd.f67))) (Ann.seq (aq [0] spec_l4TreeRank_an) (aq [0,1] spec_l4TreeRank_an)) ⟨mkE 48 0 [(0, dL x4133), (1, dI x4134), (2, dI x4135), (3, dI x4136)], []⟩ (spec_l4TreeRank_n1 (spec_l4TreeRank_fuel n) (spec_l4RowRank_fuel n)) (fun (t : Unit) => (Exit.normal, ⟨mkE 48 0 [(0, dL x4133), (1, dI x4134), (2, dI x4135), (3, dI x4136), (9, dI 0)], []⟩)) := by
  refine Link.of fun K h => ?_
  simp only [spec_l4TreeRank_n1, wpO_bind, wpO_cond, wpO_map, wpO_some] at h
  exact Awp.of (by kernel_rfl) h

theorem spec_l4TreeRank_n2_l (n : Nat) (x4133 : List Int) (x4134 : Int) (x4135 : Int) (x4136 : Int) : Link (spec_l4TreeRank_ctx n) LL (cq [0,0,1,1] (bodyOf Tryd.f67)) (aq [0,0,1,1] spec_l4TreeRank_an) ⟨mkE 48 0 [(0, dL x4133), (1, dI x4134), (2, dI x4135), (3, dI x4136), (9, dI 0)], []⟩ (spec_l4TreeRank_n2 (spec_l4TreeRank_fuel n) (spec_l4RowRank_fuel n)) (fun (t : Unit) => (Exit.normal, ⟨mkE 48 0 [(0, dL x4133), (1, dI x4134), (2, dI x4135), (3, dI x4136), (9, dI 0), (10, dI x4134)], []⟩)) := by
  refine Link.of fun K h => ?_
  simp only [spec_l4TreeRank_n2, wpO_bind, wpO_cond, wpO_map, wpO_some] at h
  exact Awp.of (by kernel_rfl) h

theorem spec_l4TreeRank_n3_l (n : Nat) (x4133 : List Int) (x4134 : Int) (x4135 : Int) (x4136 : Int) (x4365 : Int) (x4366 : Int) : Link (spec_l4TreeRank_ctx n) LL (cq [0,0,1,0,1,1] (bodyOf Tryd.f67)) (aq [0,0,1,0,1,1] spec_l4TreeRank_an) ⟨mkE 48 0 [(0, dL x4133), (1, dI x4134), (2, dI x4135), (3, dI x4136), (9, dI x4365), (10, dI x4366)], []⟩ (spec_l4TreeRank_n3 (spec_l4TreeRank_fuel n) (spec_l4RowRank_fuel n) x4134 x4135 x4136 x4365 x4366) (Sum.elim (fun (t : Int × Int) => (Exit.normal, ⟨mkE 48 0 [(0, dL x4133), (1, dI x4134), (2, dI x4135), (3, dI x4136), (9, dI t.1), (10, dI t.2)], []⟩)) (fun (t : Int) => ((Exit.exit 0), ⟨mkE 48 0 [(0, dL x4133), (1, dI x4134), (2, dI x4135), (3, dI x4136), (9, dI t)], []⟩))) := by
  refine Link.of fun K h => ?_
  simp only [spec_l4TreeRank_n3, wpO_bind, wpO_cond, wpO_map, wpO_some] at h
  exact Awp.of (by kernel_rfl) h

def spec_l4TreeRank_n4_l (n : Nat) (x4133 : List Int) (x4134 : Int) (x4135 : Int) (x4136 : Int) := (link_loop (mk := fun (s : Int × Int) => ⟨mkE 48 0 [(0, dL x4133), (1, dI x4134), (2, dI x4135), (3, dI x4136), (9, dI s.1), (10, dI s.2)], []⟩) (fin := (fun (t : Int) => ((Exit.exit 0), ⟨mkE 48 0 [(0, dL x4133), (1, dI x4134), (2, dI x4135), (3, dI x4136), (9, dI t)], []⟩))) (by
  rintro t f K h
  · exact h) (fun s => link_map (spec_l4TreeRank_n3_l n x4133 x4134 x4135 x4136 s.1 s.2) (Sum.elim (fun (t : Int × Int) => Sum.inl (t.1, t.2)) (fun (t : Int) => Sum.inr t)) (by
  rintro (t | t)
  · kernel_rfl
  · kernel_rfl)) (0, x4134))

def spec_l4TreeRank_n5_l (n : Nat) (x4133 : List Int) (x4134 : Int) (x4135 : Int) (x4136 : Int) := (link_block (fin2 := (fun (t : Int) => (Exit.normal, ⟨mkE 48 0 [(0, dL x4133), (1, dI x4134), (2, dI x4135), (3, dI x4136), (9, dI t)], []⟩))) (id := 0) (spec_l4TreeRank_n4_l n x4133 x4134 x4135 x4136) (fun (t : Int) => t) (by
  rintro t K h
  · exact Eq.mp (by kernel_rfl) h))

def spec_l4TreeRank_n6_l (n : Nat) (x4133 : List Int) (x4134 : Int) (x4135 : Int) (x4136 : Int) := (link_seq (spec_l4TreeRank_n2_l n x4133 x4134 x4135 x4136) (fun (t : Unit) => (spec_l4TreeRank_n5_l n x4133 x4134 x4135 x4136)))

theorem spec_l4TreeRank_n7_l (n : Nat) (x4133 : List Int) (x4134 : Int) (x4135 : Int) (x4136 : Int) (x4365 : Int) : Link (spec_l4TreeRank_ctx n) LL (cq [1,1,1] (bodyOf Tryd.f67)) (aq [1,1,1] spec_l4TreeRank_an) ⟨mkE 48 0 [(0, dL x4133), (1, dI x4134), (2, dI x4135), (3, dI x4136), (9, dI x4365)], []⟩ (spec_l4TreeRank_n7 (spec_l4TreeRank_fuel n) (spec_l4RowRank_fuel n) x4133 x4134 x4135 x4136 x4365) (fun (t : Int) => (Exit.ret, ⟨mkE 48 0 [(8, dI t)], []⟩)) := by
  refine Link.of fun K h => ?_
  simp only [spec_l4TreeRank_n7, wpO_bind, wpO_cond, wpO_map, wpO_some] at h
  exact Awp.of (by kernel_rfl) h

def spec_l4TreeRank_n8_l (n : Nat) (x4133 : List Int) (x4134 : Int) (x4135 : Int) (x4136 : Int) := (link_seq (spec_l4TreeRank_n6_l n x4133 x4134 x4135 x4136) (fun (t : Int) => (spec_l4TreeRank_n7_l n x4133 x4134 x4135 x4136 t)))

def spec_l4TreeRank_n9_l (n : Nat) (x4133 : List Int) (x4134 : Int) (x4135 : Int) (x4136 : Int) := (link_group (c := (cq [0,1] (bodyOf Tryd.f67))) (a := (aq [0,1] spec_l4TreeRank_an)) [(cq [0] (bodyOf Tryd.f67))] [(aq [0] spec_l4TreeRank_an)] rfl (link_seq (spec_l4TreeRank_n1_l n x4133 x4134 x4135 x4136) (fun (t : Unit) => (spec_l4TreeRank_n8_l n x4133 x4134 x4135 x4136))))

theorem spec_l4TreeRank_e (n : Nat) (x4133 : List Int) (x4134 : Int) (x4135 : Int) (x4136 : Int) {r : AV} {H' : Heap} (h : (Ans.mk _ (spec_l4TreeRank_fuel (n + 1) x4133 x4134 x4135 x4136) (fun (t : Int) => (dI t, [])) [] none).run = some (r, H')) : Awp (spec_l4TreeRank_ctx n) LL (bodyOf Tryd.f67) spec_l4TreeRank_an ⟨mkE 48 0 [(0, dL x4133), (1, dI x4134), (2, dI x4135), (3, dI x4136)], []⟩ (Ret (tlook tys) Tryd.f67.results.toList r H') :=
  ret_of' (Link.cast (by kernel_rfl) (by kernel_rfl) (spec_l4TreeRank_n9_l n x4133 x4134 x4135 x4136)) (by (show _ = _); kernel_rfl) (by
  intro t
  exact ret_mk [dI t] (by kernel_rfl) (by kernel_rfl) (by kernel_rfl) (by kernel_rfl)) h

theorem spec_l4RowRank_n1_l (n : Nat) (x4384 : List Int) (x4385 : Int) (x4386 : Int) (x4387 : Int) : Link (spec_l4RowRank_ctx n) LL (Code.seq (cq [0] (bodyOf Tryd.f102)) (Code.seq (cq [0,1] (bodyOf Tryd.f102)) (cq [0,1,1] (bodyOf Tryd.f102)))) (Ann.seq (aq [0] spec_l4RowRank_an) (Ann.seq (aq [0,1] spec_l4RowRank_an) (aq [0,1,1] spec_l4RowRank_an))) ⟨mkE 78 0 [(0, dL x4384), (1, dI x4385), (2, dI x4386), (3, dI x4387)], []⟩ (spec_l4RowRank_n1 (spec_l4TreeRank_fuel n) (spec_l4RowRank_fuel n) x4385 x4386) (Sum.elim (fun (t : Unit) => (Exit.normal, ⟨mkE 78 0 [(0, dL x4384), (1, dI x4385), (2, dI x4386), (3, dI x4387), (9, dI x4385)], []⟩)) (fun (t : Int) => (Exit.ret, ⟨mkE 78 0 [(8, dI t)], []⟩))) := by
  refine Link.of fun K h => ?_
  simp only [spec_l4RowRank_n1, wpO_bind, wpO_cond, wpO_map, wpO_some] at h
  exact Awp.of (by kernel_rfl) h

theorem spec_l4RowRank_n2_l (n : Nat) (x4384 : List Int) (x4385 : Int) (x4386 : Int) (x4387 : Int) (x4576 : Int) : Link (spec_l4RowRank_ctx n) LL (cq [0,0,0,1,1,1] (bodyOf Tryd.f102)) (aq [0,0,0,1,1,1] spec_l4RowRank_an) ⟨mkE 78 0 [(0, dL x4384), (1, dI x4385), (2, dI x4386), (3, dI x4387), (9, dI x4576)], []⟩ (spec_l4RowRank_n2 (spec_l4TreeRank_fuel n) (spec_l4RowRank_fuel n) x4384 x4387 x4576) (Sum.elim (fun (t : Int) => (Exit.normal, ⟨mkE 78 0 [(0, dL x4384), (1, dI x4385), (2, dI x4386), (3, dI x4387), (9, dI t)], []⟩)) (fun (t : Int) => ((Exit.exit 0), ⟨mkE 78 0 [(0, dL x4384), (1, dI x4385), (2, dI x4386), (3, dI x4387), (9, dI t)], []⟩))) := by
  refine Link.of fun K h => ?_
  simp only [spec_l4RowRank_n2, wpO_bind, wpO_cond, wpO_map, wpO_some] at h
  exact Awp.of (by kernel_rfl) h

def spec_l4RowRank_n3_l (n : Nat) (x4384 : List Int) (x4385 : Int) (x4386 : Int) (x4387 : Int) := (link_loop (mk := fun (s : Int) => ⟨mkE 78 0 [(0, dL x4384), (1, dI x4385), (2, dI x4386), (3, dI x4387), (9, dI s)], []⟩) (fin := (fun (t : Int) => ((Exit.exit 0), ⟨mkE 78 0 [(0, dL x4384), (1, dI x4385), (2, dI x4386), (3, dI x4387), (9, dI t)], []⟩))) (by
  rintro t f K h
  · exact h) (fun s => link_map (spec_l4RowRank_n2_l n x4384 x4385 x4386 x4387 s) (Sum.elim (fun (t : Int) => Sum.inl t) (fun (t : Int) => Sum.inr t)) (by
  rintro (t | t)
  · kernel_rfl
  · kernel_rfl)) x4385)

def spec_l4RowRank_n4_l (n : Nat) (x4384 : List Int) (x4385 : Int) (x4386 : Int) (x4387 : Int) := (link_block (fin2 := (fun (t : Int) => (Exit.normal, ⟨mkE 78 0 [(0, dL x4384), (1, dI x4385), (2, dI x4386), (3, dI x4387), (9, dI t)], []⟩))) (id := 0) (spec_l4RowRank_n3_l n x4384 x4385 x4386 x4387) (fun (t : Int) => t) (by
  rintro t K h
  · exact Eq.mp (by kernel_rfl) h))

theorem spec_l4RowRank_n5_l (n : Nat) (x4384 : List Int) (x4385 : Int) (x4386 : Int) (x4387 : Int) (x4576 : Int) : Link (spec_l4RowRank_ctx n) LL (cq [0,1,1,1,1] (bodyOf Tryd.f102)) (aq [0,1,1,1,1] spec_l4RowRank_an) ⟨mkE 78 0 [(0, dL x4384), (1, dI x4385), (2, dI x4386), (3, dI x4387), (9, dI x4576)], []⟩ (spec_l4RowRank_n5 (spec_l4TreeRank_fuel n) (spec_l4RowRank_fuel n)) (fun (t : Unit) => (Exit.normal, ⟨mkE 78 0 [(0, dL x4384), (1, dI x4385), (2, dI x4386), (3, dI x4387), (9, dI x4576), (10, dI x4385)], []⟩)) := by
  refine Link.of fun K h => ?_
  simp only [spec_l4RowRank_n5, wpO_bind, wpO_cond, wpO_map, wpO_some] at h
  exact Awp.of (by kernel_rfl) h

theorem spec_l4RowRank_n6_l (n : Nat) (x4384 : List Int) (x4385 : Int) (x4386 : Int) (x4387 : Int) (x4576 : Int) (x4595 : Int) : Link (spec_l4RowRank_ctx n) LL (cq [0,0,0,1,1,1,1,1] (bodyOf Tryd.f102)) (aq [0,0,0,1,1,1,1,1] spec_l4RowRank_an) ⟨mkE 78 0 [(0, dL x4384), (1, dI x4385), (2, dI x4386), (3, dI x4387), (9, dI x4576), (10, dI x4595)], []⟩ (spec_l4RowRank_n6 (spec_l4TreeRank_fuel n) (spec_l4RowRank_fuel n) x4384 x4386 x4576 x4595) (Sum.elim (fun (t : Int) => (Exit.normal, ⟨mkE 78 0 [(0, dL x4384), (1, dI x4385), (2, dI x4386), (3, dI x4387), (9, dI x4576), (10, dI t)], []⟩)) (fun (t : Int) => ((Exit.exit 2), ⟨mkE 78 0 [(0, dL x4384), (1, dI x4385), (2, dI x4386), (3, dI x4387), (9, dI x4576), (10, dI t)], []⟩))) := by
  refine Link.of fun K h => ?_
  simp only [spec_l4RowRank_n6, wpO_bind, wpO_cond, wpO_map, wpO_some] at h
  exact Awp.of (by kernel_rfl) h

def spec_l4RowRank_n7_l (n : Nat) (x4384 : List Int) (x4385 : Int) (x4386 : Int) (x4387 : Int) (x4576 : Int) := (link_loop (mk := fun (s : Int) => ⟨mkE 78 0 [(0, dL x4384), (1, dI x4385), (2, dI x4386), (3, dI x4387), (9, dI x4576), (10, dI s)], []⟩) (fin := (fun (t : Int) => ((Exit.exit 2), ⟨mkE 78 0 [(0, dL x4384), (1, dI x4385), (2, dI x4386), (3, dI x4387), (9, dI x4576), (10, dI t)], []⟩))) (by
  rintro t f K h
  · exact h) (fun s => link_map (spec_l4RowRank_n6_l n x4384 x4385 x4386 x4387 x4576 s) (Sum.elim (fun (t : Int) => Sum.inl t) (fun (t : Int) => Sum.inr t)) (by
  rintro (t | t)
  · kernel_rfl
  · kernel_rfl)) x4385)

def spec_l4RowRank_n8_l (n : Nat) (x4384 : List Int) (x4385 : Int) (x4386 : Int) (x4387 : Int) (x4576 : Int) := (link_block (fin2 := (fun (t : Int) => (Exit.normal, ⟨mkE 78 0 [(0, dL x4384), (1, dI x4385), (2, dI x4386), (3, dI x4387), (9, dI x4576), (10, dI t)], []⟩))) (id := 2) (spec_l4RowRank_n7_l n x4384 x4385 x4386 x4387 x4576) (fun (t : Int) => t) (by
  rintro t K h
  · exact Eq.mp (by kernel_rfl) h))

theorem spec_l4RowRank_n9_l (n : Nat) (x4384 : List Int) (x4385 : Int) (x4386 : Int) (x4387 : Int) (x4576 : Int) (x4595 : Int) : Link (spec_l4RowRank_ctx n) LL (cq [0,1,1,1,1,1,1] (bodyOf Tryd.f102)) (aq [0,1,1,1,1,1,1] spec_l4RowRank_an) ⟨mkE 78 0 [(0, dL x4384), (1, dI x4385), (2, dI x4386), (3, dI x4387), (9, dI x4576), (10, dI x4595)], []⟩ (spec_l4RowRank_n9 (spec_l4TreeRank_fuel n) (spec_l4RowRank_fuel n)) (fun (t : Unit) => (Exit.normal, ⟨mkE 78 0 [(0, dL x4384), (1, dI x4385), (2, dI x4386), (3, dI x4387), (9, dI x4576), (10, dI x4595), (11, dI 0)], []⟩)) := by
  refine Link.of fun K h => ?_
  simp only [spec_l4RowRank_n9, wpO_bind, wpO_cond, wpO_map, wpO_some] at h
  exact Awp.of (by kernel_rfl) h

theorem spec_l4RowRank_n10_l (n : Nat) (x4384 : List Int) (x4385 : Int) (x4386 : Int) (x4387 : Int) (x4576 : Int) (x4595 : Int) : Link (spec_l4RowRank_ctx n) LL (cq [0,0,1,1,1,1,1,1,1] (bodyOf Tryd.f102)) (aq [0,0,1,1,1,1,1,1,1] spec_l4RowRank_an) ⟨mkE 78 0 [(0, dL x4384), (1, dI x4385), (2, dI x4386), (3, dI x4387), (9, dI x4576), (10, dI x4595), (11, dI 0)], []⟩ (spec_l4RowRank_n10 (spec_l4TreeRank_fuel n) (spec_l4RowRank_fuel n)) (fun (t : Unit) => (Exit.normal, ⟨mkE 78 0 [(0, dL x4384), (1, dI x4385), (2, dI x4386), (3, dI x4387), (9, dI x4576), (10, dI x4595), (11, dI 0), (12, dI x4385)], []⟩)) := by
  refine Link.of fun K h => ?_
  simp only [spec_l4RowRank_n10, wpO_bind, wpO_cond, wpO_map, wpO_some] at h
  exact Awp.of (by kernel_rfl) h

theorem spec_l4RowRank_n11_l (n : Nat) (x4384 : List Int) (x4385 : Int) (x4386 : Int) (x4387 : Int) (x4576 : Int) (x4595 : Int) (x4625 : Int) (x4626 : Int) : Link (spec_l4RowRank_ctx n) LL (cq [0,0,1,0,1,1,1,1,1,1,1] (bodyOf Tryd.f102)) (aq [0,0,1,0,1,1,1,1,1,1,1] spec_l4RowRank_an) ⟨mkE 78 0 [(0, dL x4384), (1, dI x4385), (2, dI x4386), (3, dI x4387), (9, dI x4576), (10, dI x4595), (11, dI x4625), (12, dI x4626)], []⟩ (spec_l4RowRank_n11 (spec_l4TreeRank_fuel n) (spec_l4RowRank_fuel n) x4385 x4386 x4595 x4625 x4626) (Sum.elim (fun (t : Int × Int) => (Exit.normal, ⟨mkE 78 0 [(0, dL x4384), (1, dI x4385), (2, dI x4386), (3, dI x4387), (9, dI x4576), (10, dI x4595), (11, dI t.1), (12, dI t.2)], []⟩)) (fun (t : Int) => ((Exit.exit 4), ⟨mkE 78 0 [(0, dL x4384), (1, dI x4385), (2, dI x4386), (3, dI x4387), (9, dI x4576), (10, dI x4595), (11, dI t)], []⟩))) := by
  refine Link.of fun K h => ?_
  simp only [spec_l4RowRank_n11, wpO_bind, wpO_cond, wpO_map, wpO_some] at h
  exact Awp.of (by kernel_rfl) h

def spec_l4RowRank_n12_l (n : Nat) (x4384 : List Int) (x4385 : Int) (x4386 : Int) (x4387 : Int) (x4576 : Int) (x4595 : Int) := (link_loop (mk := fun (s : Int × Int) => ⟨mkE 78 0 [(0, dL x4384), (1, dI x4385), (2, dI x4386), (3, dI x4387), (9, dI x4576), (10, dI x4595), (11, dI s.1), (12, dI s.2)], []⟩) (fin := (fun (t : Int) => ((Exit.exit 4), ⟨mkE 78 0 [(0, dL x4384), (1, dI x4385), (2, dI x4386), (3, dI x4387), (9, dI x4576), (10, dI x4595), (11, dI t)], []⟩))) (by
  rintro t f K h
  · exact h) (fun s => link_map (spec_l4RowRank_n11_l n x4384 x4385 x4386 x4387 x4576 x4595 s.1 s.2) (Sum.elim (fun (t : Int × Int) => Sum.inl (t.1, t.2)) (fun (t : Int) => Sum.inr t)) (by
  rintro (t | t)
  · kernel_rfl
  · kernel_rfl)) (0, x4385))

def spec_l4RowRank_n13_l (n : Nat) (x4384 : List Int) (x4385 : Int) (x4386 : Int) (x4387 : Int) (x4576 : Int) (x4595 : Int) := (link_block (fin2 := (fun (t : Int) => (Exit.normal, ⟨mkE 78 0 [(0, dL x4384), (1, dI x4385), (2, dI x4386), (3, dI x4387), (9, dI x4576), (10, dI x4595), (11, dI t)], []⟩))) (id := 4) (spec_l4RowRank_n12_l n x4384 x4385 x4386 x4387 x4576 x4595) (fun (t : Int) => t) (by
  rintro t K h
  · exact Eq.mp (by kernel_rfl) h))

def spec_l4RowRank_n14_l (n : Nat) (x4384 : List Int) (x4385 : Int) (x4386 : Int) (x4387 : Int) (x4576 : Int) (x4595 : Int) := (link_seq (spec_l4RowRank_n10_l n x4384 x4385 x4386 x4387 x4576 x4595) (fun (t : Unit) => (spec_l4RowRank_n13_l n x4384 x4385 x4386 x4387 x4576 x4595)))

theorem spec_l4RowRank_n15_l (n : Nat) (x4384 : List Int) (x4385 : Int) (x4386 : Int) (x4387 : Int) (x4576 : Int) (x4595 : Int) (x4625 : Int) : Link (spec_l4RowRank_ctx n) LL (cq [1,1,1,1,1,1,1,1] (bodyOf Tryd.f102)) (aq [1,1,1,1,1,1,1,1] spec_l4RowRank_an) ⟨mkE 78 0 [(0, dL x4384), (1, dI x4385), (2, dI x4386), (3, dI x4387), (9, dI x4576), (10, dI x4595), (11, dI x4625)], []⟩ (spec_l4RowRank_n15 (spec_l4TreeRank_fuel n) (spec_l4RowRank_fuel n) x4384 x4385 x4386 x4387 x4576 x4595 x4625) (fun (t : Int) => (Exit.ret, ⟨mkE 78 0 [(8, dI t)], []⟩)) := by
  refine Link.of fun K h => ?_
  simp only [spec_l4RowRank_n15, wpO_bind, wpO_cond, wpO_map, wpO_some] at h
  exact Awp.of (by kernel_rfl) h

def spec_l4RowRank_n16_l (n : Nat) (x4384 : List Int) (x4385 : Int) (x4386 : Int) (x4387 : Int) (x4576 : Int) (x4595 : Int) := (link_seq (spec_l4RowRank_n14_l n x4384 x4385 x4386 x4387 x4576 x4595) (fun (t : Int) => (spec_l4RowRank_n15_l n x4384 x4385 x4386 x4387 x4576 x4595 t)))

def spec_l4RowRank_n17_l (n : Nat) (x4384 : List Int) (x4385 : Int) (x4386 : Int) (x4387 : Int) (x4576 : Int) (x4595 : Int) := (link_seq (spec_l4RowRank_n9_l n x4384 x4385 x4386 x4387 x4576 x4595) (fun (t : Unit) => (spec_l4RowRank_n16_l n x4384 x4385 x4386 x4387 x4576 x4595)))

def spec_l4RowRank_n18_l (n : Nat) (x4384 : List Int) (x4385 : Int) (x4386 : Int) (x4387 : Int) (x4576 : Int) := (link_seq (spec_l4RowRank_n8_l n x4384 x4385 x4386 x4387 x4576) (fun (t : Int) => (spec_l4RowRank_n17_l n x4384 x4385 x4386 x4387 x4576 t)))

def spec_l4RowRank_n19_l (n : Nat) (x4384 : List Int) (x4385 : Int) (x4386 : Int) (x4387 : Int) (x4576 : Int) := (link_seq (spec_l4RowRank_n5_l n x4384 x4385 x4386 x4387 x4576) (fun (t : Unit) => (spec_l4RowRank_n18_l n x4384 x4385 x4386 x4387 x4576)))

def spec_l4RowRank_n20_l (n : Nat) (x4384 : List Int) (x4385 : Int) (x4386 : Int) (x4387 : Int) := (link_seq (spec_l4RowRank_n4_l n x4384 x4385 x4386 x4387) (fun (t : Int) => (spec_l4RowRank_n19_l n x4384 x4385 x4386 x4387 t)))

def spec_l4RowRank_n21_l (n : Nat) (x4384 : List Int) (x4385 : Int) (x4386 : Int) (x4387 : Int) := (link_group (c := (cq [0,1,1] (bodyOf Tryd.f102))) (a := (aq [0,1,1] spec_l4RowRank_an)) [(cq [0] (bodyOf Tryd.f102)), (cq [0,1] (bodyOf Tryd.f102))] [(aq [0] spec_l4RowRank_an), (aq [0,1] spec_l4RowRank_an)] rfl (link_seq2 (spec_l4RowRank_n1_l n x4384 x4385 x4386 x4387) (fun (t : Unit) => (spec_l4RowRank_n20_l n x4384 x4385 x4386 x4387)) (fun (t : Int) => t) (by
  rintro t
  · kernel_rfl) (by
  rintro t f K h
  · exact h)))

theorem spec_l4RowRank_e (n : Nat) (x4384 : List Int) (x4385 : Int) (x4386 : Int) (x4387 : Int) {r : AV} {H' : Heap} (h : (Ans.mk _ (spec_l4RowRank_fuel (n + 1) x4384 x4385 x4386 x4387) (fun (t : Int) => (dI t, [])) [] none).run = some (r, H')) : Awp (spec_l4RowRank_ctx n) LL (bodyOf Tryd.f102) spec_l4RowRank_an ⟨mkE 78 0 [(0, dL x4384), (1, dI x4385), (2, dI x4386), (3, dI x4387)], []⟩ (Ret (tlook tys) Tryd.f102.results.toList r H') :=
  ret_of' (Link.cast (by kernel_rfl) (by kernel_rfl) (spec_l4RowRank_n21_l n x4384 x4385 x4386 x4387)) (by (show _ = _); kernel_rfl) (by
  intro t
  exact ret_mk [dI t] (by kernel_rfl) (by kernel_rfl) (by kernel_rfl) (by kernel_rfl)) h

theorem spec_l4TreeRank_step (n : Nat) (h67 : Sound Tryd.prog 67 (F_spec_l4TreeRank_fuel n)) (h102 : Sound Tryd.prog 102 (F_spec_l4RowRank_fuel n)) : Sound Tryd.prog 67 (F_spec_l4TreeRank_fuel (n + 1)) := by
  refine fn_sound' (C := spec_l4TreeRank_ctx n) (c := bodyOf Tryd.f67) (cok_of tys_ok (allc spec_l4Rows_sound (allc h102 alln)) (allc Tryd.call94 (allc Tryd.call102 alln)) (by kernel_rfl)) Tryd.func67 (by kernel_rfl) LL spec_l4TreeRank_an ?_
  intro avs H r H' h
  unfold F_spec_l4TreeRank_fuel at h
  split at h
  · refine Awp.cast ?_ ?_ ?_ (spec_l4TreeRank_e n _ _ _ _ h) <;> kernel_rfl
  · simp [Ans.no, Ans.run] at h

theorem spec_l4TreeRank_null : Sound Tryd.prog 67 (F_spec_l4TreeRank_fuel 0) := by
  intro avs H r H' h
  unfold F_spec_l4TreeRank_fuel at h
  split at h
  · simp [spec_l4TreeRank_fuel, spec_l4TreeRank_knot, Ans.run] at h
  · simp [Ans.no, Ans.run] at h

theorem spec_l4RowRank_step (n : Nat) (h67 : Sound Tryd.prog 67 (F_spec_l4TreeRank_fuel n)) (h102 : Sound Tryd.prog 102 (F_spec_l4RowRank_fuel n)) : Sound Tryd.prog 102 (F_spec_l4RowRank_fuel (n + 1)) := by
  refine fn_sound' (C := spec_l4RowRank_ctx n) (c := bodyOf Tryd.f102) (cok_of tys_ok (allc spec_l2Yield_sound (allc spec_l4Flat_sound (allc spec_l4Rows_sound (allc h67 (allc h102 alln))))) (allc Tryd.call101 (allc Tryd.call59 (allc Tryd.call94 (allc Tryd.call67 (allc Tryd.call102 alln))))) (by kernel_rfl)) Tryd.func102 (by kernel_rfl) LL spec_l4RowRank_an ?_
  intro avs H r H' h
  unfold F_spec_l4RowRank_fuel at h
  split at h
  · refine Awp.cast ?_ ?_ ?_ (spec_l4RowRank_e n _ _ _ _ h) <;> kernel_rfl
  · simp [Ans.no, Ans.run] at h

theorem spec_l4RowRank_null : Sound Tryd.prog 102 (F_spec_l4RowRank_fuel 0) := by
  intro avs H r H' h
  unfold F_spec_l4RowRank_fuel at h
  split at h
  · simp [spec_l4RowRank_fuel, spec_l4TreeRank_knot, Ans.run] at h
  · simp [Ans.no, Ans.run] at h

theorem spec_l4TreeRank_knot_all : ∀ n, Sound Tryd.prog 67 (F_spec_l4TreeRank_fuel n) ∧ Sound Tryd.prog 102 (F_spec_l4RowRank_fuel n)
  | 0 => ⟨spec_l4TreeRank_null, spec_l4RowRank_null⟩
  | n + 1 => by
    obtain ⟨h67, h102⟩ := spec_l4TreeRank_knot_all n
    exact ⟨spec_l4TreeRank_step n h67 h102, spec_l4RowRank_step n h67 h102⟩

def F_spec_l4TreeRank : Fun := fun avs H =>
  match avs, H with
  | [.dat (.list (.int .i64)) x4133, .dat (.int .i64) x4134, .dat (.int .i64) x4135, .dat (.int .i64) x4136], [] => ⟨_, spec_l4TreeRank x4133 x4134 x4135 x4136, fun (t : Int) => (dI t, []), [], none⟩
  | _, _ => Ans.no

theorem spec_l4TreeRank_sound : Sound Tryd.prog 67 F_spec_l4TreeRank := by
  have e : F_spec_l4TreeRank = F_spec_l4TreeRank_fuel RR := by
    funext avs H
    unfold F_spec_l4TreeRank F_spec_l4TreeRank_fuel
    split <;> first | rfl | (simp only [spec_l4TreeRank])
  rw [e]
  exact (spec_l4TreeRank_knot_all RR).1

def F_spec_l4RowRank : Fun := fun avs H =>
  match avs, H with
  | [.dat (.list (.int .i64)) x4384, .dat (.int .i64) x4385, .dat (.int .i64) x4386, .dat (.int .i64) x4387], [] => ⟨_, spec_l4RowRank x4384 x4385 x4386 x4387, fun (t : Int) => (dI t, []), [], none⟩
  | _, _ => Ans.no

theorem spec_l4RowRank_sound : Sound Tryd.prog 102 F_spec_l4RowRank := by
  have e : F_spec_l4RowRank = F_spec_l4RowRank_fuel RR := by
    funext avs H
    unfold F_spec_l4RowRank F_spec_l4RowRank_fuel
    split <;> first | rfl | (simp only [spec_l4RowRank])
  rw [e]
  exact (spec_l4TreeRank_knot_all RR).2


/-! loop.example/headtrees/spec.PlaceOf -/

def spec_PlaceOf_an : Ann := (.seq (.leaf [0]) (.seq (.seq (.leaf [0, 10]) (.cond (.seq (.leaf [2]) (.leaf [2])) (.leaf [0]))) (.seq (.leaf [2]) (.leaf [2]))))

noncomputable def spec_PlaceOf_ctx : Ctx := ⟨tlook tys, olook [(66, F_spec_FlatOk), (68, F_spec_RootOf), (67, F_spec_l4TreeRank)], ioF, 0, false, []⟩

theorem spec_PlaceOf_n1_l (x3957 : List Int) : Link spec_PlaceOf_ctx LL (bodyOf Tryd.f26) spec_PlaceOf_an ⟨mkE 17 0 [(0, dL x3957)], []⟩ (spec_PlaceOf_n1 x3957) (fun (t : Int) => (Exit.ret, ⟨mkE 17 0 [(2, dI t)], []⟩)) := by
  refine Link.of fun K h => ?_
  simp only [spec_PlaceOf_n1, wpO_bind, wpO_cond, wpO_map, wpO_some] at h
  exact Awp.of (by kernel_rfl) h

theorem spec_PlaceOf_e (x3957 : List Int) {r : AV} {H' : Heap} (h : (Ans.mk _ (spec_PlaceOf x3957) (fun (t : Int) => (dI t, [])) [] none).run = some (r, H')) : Awp spec_PlaceOf_ctx LL (bodyOf Tryd.f26) spec_PlaceOf_an ⟨mkE 17 0 [(0, dL x3957)], []⟩ (Ret (tlook tys) Tryd.f26.results.toList r H') :=
  ret_of' (spec_PlaceOf_n1_l x3957) (by unfold spec_PlaceOf; kernel_rfl) (by
  intro t
  exact ret_mk [dI t] (by kernel_rfl) (by kernel_rfl) (by kernel_rfl) (by kernel_rfl)) h

def F_spec_PlaceOf : Fun := fun avs H =>
  match avs, H with
  | [.dat (.list (.int .i64)) x3957], [] => ⟨_, spec_PlaceOf x3957, fun (t : Int) => (dI t, []), [], none⟩
  | _, _ => Ans.no

theorem spec_PlaceOf_sound : Sound Tryd.prog 26 F_spec_PlaceOf := by
  refine fn_sound' (C := spec_PlaceOf_ctx) (c := bodyOf Tryd.f26) (cok_of tys_ok (allc spec_FlatOk_sound (allc spec_RootOf_sound (allc spec_l4TreeRank_sound alln))) (allc Tryd.call66 (allc Tryd.call68 (allc Tryd.call67 alln))) (by kernel_rfl)) Tryd.func26 (by kernel_rfl) LL spec_PlaceOf_an ?_
  intro avs H r H' h
  unfold F_spec_PlaceOf at h
  split at h
  · refine Awp.cast ?_ ?_ ?_ (spec_PlaceOf_e _ h) <;> kernel_rfl
  · simp [Ans.no, Ans.run] at h


/-! loop.example/headtrees/laws.FnPlaceOf -/

def laws_FnPlaceOf_an : Ann := (.seq (.leaf [0]) (.seq (.seq (.leaf [0, 9]) (.cond (.seq (.leaf [2]) (.leaf [2])) (.leaf [0]))) (.seq (.leaf [3]) (.seq (.leaf [3, 4]) (.seq (.seq (.leaf [3, 4, 17]) (.cond (.seq (.leaf [2]) (.leaf [2])) (.leaf [3, 4]))) (.seq (.seq (.leaf [3, 4, 19]) (.cond (.seq (.leaf [2]) (.leaf [2])) (.leaf [3, 4]))) (.seq (.leaf [3, 4, 5, 6]) (.seq (.leaf [2]) (.leaf [2])))))))))

noncomputable def laws_FnPlaceOf_ctx : Ctx := ⟨tlook tys, olook [(25, F_spec_DrawPlaceOf), (23, F_impl_PlaceOf), (26, F_spec_PlaceOf), (22, F_impl_FlatOk), (16, F_laws_alive), (19, F_impl_FlatAt), (27, F_impl_CountFlat), (21, F_laws_sameInts)], ioF, 0, false, []⟩

theorem laws_FnPlaceOf_n1_l (x3715 : List Int) : Link laws_FnPlaceOf_ctx LL (bodyOf Tryd.f5) laws_FnPlaceOf_an ⟨mkE 55 0 [(0, dV x3715)], []⟩ (laws_FnPlaceOf_n1 x3715) (fun (t : Bool) => (Exit.ret, ⟨mkE 55 0 [(2, dB t)], []⟩)) := by
  refine Link.of fun K h => ?_
  simp only [laws_FnPlaceOf_n1, wpO_bind, wpO_cond, wpO_map, wpO_some] at h
  exact Awp.of (by kernel_rfl) h

theorem laws_FnPlaceOf_e (x3715 : List Int) {r : AV} {H' : Heap} (h : (Ans.mk _ (laws_FnPlaceOf x3715) (fun (t : Bool) => (dB t, [])) [] none).run = some (r, H')) : Awp laws_FnPlaceOf_ctx LL (bodyOf Tryd.f5) laws_FnPlaceOf_an ⟨mkE 55 0 [(0, dV x3715)], []⟩ (Ret (tlook tys) Tryd.f5.results.toList r H') :=
  ret_of' (laws_FnPlaceOf_n1_l x3715) (by unfold laws_FnPlaceOf; kernel_rfl) (by
  intro t
  exact ret_mk [dB t] (by kernel_rfl) (by kernel_rfl) (by kernel_rfl) (by kernel_rfl)) h

def F_laws_FnPlaceOf : Fun := fun avs H =>
  match avs, H with
  | [.dat (.list (.int .u8)) x3715], [] => ⟨_, laws_FnPlaceOf x3715, fun (t : Bool) => (dB t, []), [], none⟩
  | _, _ => Ans.no

theorem laws_FnPlaceOf_sound : Sound Tryd.prog 5 F_laws_FnPlaceOf := by
  refine fn_sound' (C := laws_FnPlaceOf_ctx) (c := bodyOf Tryd.f5) (cok_of tys_ok (allc spec_DrawPlaceOf_sound (allc impl_PlaceOf_sound (allc spec_PlaceOf_sound (allc impl_FlatOk_sound (allc laws_alive_sound (allc impl_FlatAt_sound (allc impl_CountFlat_sound (allc laws_sameInts_sound alln)))))))) (allc Tryd.call25 (allc Tryd.call23 (allc Tryd.call26 (allc Tryd.call22 (allc Tryd.call16 (allc Tryd.call19 (allc Tryd.call27 (allc Tryd.call21 alln)))))))) (by kernel_rfl)) Tryd.func5 (by kernel_rfl) LL laws_FnPlaceOf_an ?_
  intro avs H r H' h
  unfold F_laws_FnPlaceOf at h
  split at h
  · refine Awp.cast ?_ ?_ ?_ (laws_FnPlaceOf_e _ h) <;> kernel_rfl
  · simp [Ans.no, Ans.run] at h


end Go.Rv
