/-
  The checked code answers as the plain functions do; written by program. Conditions: none.
-/
import Derived.Test.YtegmjhjihbhakaaDoorGLa
set_option linter.unusedVariables false
set_option linter.unusedSimpArgs false
set_option maxRecDepth 100000
namespace Go.Rv
open Go.Proofs
theorem spec_TreeOk_n21_l (x1295 : List Int) (x1308 : Int) : Link spec_TreeOk_ctx LL (Code.snd (Code.snd (Code.snd (Code.snd (bodyOf Tryd.f27))))) (Ann.snd (Ann.snd (Ann.snd (Ann.snd spec_TreeOk_an)))) (⟨mkE 65 0 [(0, .dat (.list (.int .i64)) x1295), (3, .dat (.int .i64) x1308), (4, .dat (.int .i64) 0)], []⟩ : St) (spec_TreeOk_n21 x1295 x1308) (fun (t : Bool) => (Exit.ret, (⟨mkE 65 0 [(2, .dat .bool t)], []⟩ : St))) := by
  unfold spec_TreeOk_n21
  exact Link.cast (by kernel_rfl) (by kernel_rfl) (link_seq2 (b := (Code.snd (Code.snd (Code.snd (Code.snd (Code.snd (bodyOf Tryd.f27))))))) (y := (Ann.snd (Ann.snd (Ann.snd (Ann.snd (Ann.snd spec_TreeOk_an)))))) (spec_TreeOk_n19_l x1295 x1308) (fun (t : Int) => (spec_TreeOk_n20_l t)) (fun (t : Bool) => t) (by
  rintro t
  · kernel_rfl) (by
  rintro t f K h
  · exact h))

theorem spec_TreeOk_n22_l (x1295 : List Int) : Link spec_TreeOk_ctx LL (bodyOf Tryd.f27) spec_TreeOk_an (⟨mkE 65 0 [(0, .dat (.list (.int .i64)) x1295)], []⟩ : St) (spec_TreeOk_n22 x1295) (fun (t : Bool) => (Exit.ret, (⟨mkE 65 0 [(2, .dat .bool t)], []⟩ : St))) := by
  unfold spec_TreeOk_n22
  exact Link.cast (by kernel_rfl) (by kernel_rfl) (link_group (c := (Code.fst (Code.snd (Code.snd (Code.snd (bodyOf Tryd.f27)))))) (a := (Ann.fst (Ann.snd (Ann.snd (Ann.snd spec_TreeOk_an))))) [(Code.fst (bodyOf Tryd.f27)), (Code.fst (Code.snd (bodyOf Tryd.f27))), (Code.fst (Code.snd (Code.snd (bodyOf Tryd.f27))))] [(Ann.fst spec_TreeOk_an), (Ann.fst (Ann.snd spec_TreeOk_an)), (Ann.fst (Ann.snd (Ann.snd spec_TreeOk_an)))] rfl (link_seq2 (b := (Code.snd (Code.snd (Code.snd (Code.snd (bodyOf Tryd.f27)))))) (y := (Ann.snd (Ann.snd (Ann.snd (Ann.snd spec_TreeOk_an))))) (spec_TreeOk_n1_l x1295) (fun (t : Int) => (spec_TreeOk_n21_l x1295 t)) (fun (t : Bool) => t) (by
  rintro t
  · kernel_rfl) (by
  rintro t f K h
  · exact h)))

theorem spec_TreeOk_e (x1295 : List Int) {r : AV} {H' : Heap} (h : (Ans.mk _ (spec_TreeOk x1295) (fun (t : Bool) => (.dat .bool t, []))).run = some (r, H')) : Awp spec_TreeOk_ctx LL (bodyOf Tryd.f27) spec_TreeOk_an (⟨mkE 65 0 [(0, .dat (.list (.int .i64)) x1295)], []⟩ : St) (Ret (tlook tys) Tryd.f27.results.toList r H') :=
  ret_of' (spec_TreeOk_n22_l x1295) (by unfold spec_TreeOk; kernel_rfl) (by
  intro t
  exact ret_mk [.dat .bool t] (by kernel_rfl) (by kernel_rfl) (by kernel_rfl) (by kernel_rfl)) h

def F_spec_TreeOk : Fun := fun avs H =>
  match avs, H with
  | [.dat (.list (.int .i64)) x1295], [] => ⟨_, spec_TreeOk x1295, fun (t : Bool) => (.dat .bool t, [])⟩
  | _, _ => Ans.no

theorem spec_TreeOk_sound : Sound Tryd.prog 27 F_spec_TreeOk := by
  refine fn_sound' (C := spec_TreeOk_ctx) (c := bodyOf Tryd.f27) (cok_of tys_ok (List.forall_mem_cons.2 ⟨spec_l1In_sound, by simp⟩) (List.forall_mem_cons.2 ⟨Tryd.call58, by simp⟩) (by kernel_rfl)) Tryd.func27 (by kernel_rfl) LL spec_TreeOk_an ?_
  intro avs H r H' h
  unfold F_spec_TreeOk at h
  split at h
  · refine Awp.cast ?_ ?_ ?_ (spec_TreeOk_e _ h) <;> kernel_rfl
  · simp [Ans.no, Ans.run] at h

/-! loop.example/headtrees/spec.l2Yield -/

def spec_l2Yield_an : Ann := (.seq (.leaf [0, 1]) (.seq (.leaf [0, 1, 5]) (.seq (.seq (.leaf [0, 1, 5, 6]) (.block (.loop (.seq (.seq (.leaf [0, 1, 5, 6, 13]) (.cond (.leaf [0, 1, 5, 6]) (.leaf [5]))) (.seq (.block (.seq (.leaf [0, 1, 5, 6, 21]) (.cond (.leaf [0, 1, 5, 6]) (.leaf [0, 1, 5, 6])))) (.leaf [0, 1, 5, 6])))))) (.seq (.leaf [4]) (.leaf [4])))))

def F_spec_l2Yield_fuel (n : Nat) : Fun := fun avs H =>
  match avs, H with
  | [.dat (.list (.int .i64)) x1454, .dat (.int .i64) x1455], [] => ⟨_, spec_l2Yield_fuel n x1454 x1455, fun (t : Int) => (.dat (.int .i64) t, [])⟩
  | _, _ => Ans.no

noncomputable def spec_l2Yield_ctx (n : Nat) : Ctx := ⟨tlook tys, olook [(60, F_spec_l2Yield_fuel n)], ioF, 0⟩

theorem spec_l2Yield_n1_l (n : Nat) (x1454 : List Int) (x1455 : Int) : Link (spec_l2Yield_ctx n) LL (Code.seq (Code.fst (bodyOf Tryd.f60)) (Code.fst (Code.snd (bodyOf Tryd.f60)))) (Ann.seq (Ann.fst spec_l2Yield_an) (Ann.fst (Ann.snd spec_l2Yield_an))) (⟨mkE 29 0 [(0, .dat (.list (.int .i64)) x1454), (1, .dat (.int .i64) x1455)], []⟩ : St) (spec_l2Yield_n1 (spec_l2Yield_fuel n) x1455) (fun (t : Int) => (Exit.normal, (⟨mkE 29 0 [(0, .dat (.list (.int .i64)) x1454), (1, .dat (.int .i64) x1455), (5, .dat (.int .i64) t)], []⟩ : St))) := by
  refine Link.of fun K h => ?_
  simp only [spec_l2Yield_n1, wpO_bind, wpO_cond, wpO_map, wpO_some] at h
  exact Awp.of (by kernel_rfl) h

theorem spec_l2Yield_n2_l (n : Nat) (x1454 : List Int) (x1455 : Int) (x1486 : Int) : Link (spec_l2Yield_ctx n) LL (Code.fst (Code.fst (Code.snd (Code.snd (bodyOf Tryd.f60))))) (Ann.fst (Ann.fst (Ann.snd (Ann.snd spec_l2Yield_an)))) (⟨mkE 29 0 [(0, .dat (.list (.int .i64)) x1454), (1, .dat (.int .i64) x1455), (5, .dat (.int .i64) x1486)], []⟩ : St) (spec_l2Yield_n2 (spec_l2Yield_fuel n)) (fun (t : Unit) => (Exit.normal, (⟨mkE 29 0 [(0, .dat (.list (.int .i64)) x1454), (1, .dat (.int .i64) x1455), (5, .dat (.int .i64) x1486), (6, .dat (.int .i64) 0)], []⟩ : St))) := by
  refine Link.of fun K h => ?_
  simp only [spec_l2Yield_n2, wpO_bind, wpO_cond, wpO_map, wpO_some] at h
  exact Awp.of (by kernel_rfl) h

theorem spec_l2Yield_n3_l (n : Nat) (x1454 : List Int) (x1455 : Int) (x1507 : Int) (x1508 : Int) : Link (spec_l2Yield_ctx n) LL (Code.fst (Code.fst (Code.snd (Code.fst (Code.snd (Code.snd (bodyOf Tryd.f60))))))) (Ann.fst (Ann.fst (Ann.snd (Ann.fst (Ann.snd (Ann.snd spec_l2Yield_an)))))) (⟨mkE 29 0 [(0, .dat (.list (.int .i64)) x1454), (1, .dat (.int .i64) x1455), (5, .dat (.int .i64) x1507), (6, .dat (.int .i64) x1508)], []⟩ : St) (spec_l2Yield_n3 (spec_l2Yield_fuel n) x1454 x1455 x1507 x1508) (Sum.elim (fun (t : Int × Int) => (Exit.normal, (⟨mkE 29 0 [(0, .dat (.list (.int .i64)) x1454), (1, .dat (.int .i64) x1455), (5, .dat (.int .i64) t.1), (6, .dat (.int .i64) t.2)], []⟩ : St))) (fun (t : Int) => ((Exit.exit 0), (⟨mkE 29 0 [(5, .dat (.int .i64) t)], []⟩ : St)))) := by
  refine Link.of fun K h => ?_
  simp only [spec_l2Yield_n3, wpO_bind, wpO_cond, wpO_map, wpO_some] at h
  exact Awp.of (by kernel_rfl) h

theorem spec_l2Yield_n4_l (n : Nat) (x1454 : List Int) (x1455 : Int) (x1486 : Int) : Link (spec_l2Yield_ctx n) LL (Code.fst (Code.snd (Code.fst (Code.snd (Code.snd (bodyOf Tryd.f60)))))) (Ann.fst (Ann.snd (Ann.fst (Ann.snd (Ann.snd spec_l2Yield_an))))) (⟨mkE 29 0 [(0, .dat (.list (.int .i64)) x1454), (1, .dat (.int .i64) x1455), (5, .dat (.int .i64) x1486), (6, .dat (.int .i64) 0)], []⟩ : St) (spec_l2Yield_n4 (spec_l2Yield_fuel n) x1454 x1455 x1486) (fun (t : Int) => ((Exit.exit 0), (⟨mkE 29 0 [(5, .dat (.int .i64) t)], []⟩ : St))) := by
  unfold spec_l2Yield_n4
  exact Link.cast (by kernel_rfl) (by kernel_rfl) (link_loop (mk := fun (s : Int × Int) => (⟨mkE 29 0 [(0, .dat (.list (.int .i64)) x1454), (1, .dat (.int .i64) x1455), (5, .dat (.int .i64) s.1), (6, .dat (.int .i64) s.2)], []⟩ : St)) (fin := (fun (t : Int) => ((Exit.exit 0), (⟨mkE 29 0 [(5, .dat (.int .i64) t)], []⟩ : St)))) (by
  rintro t f K h
  · exact h) (fun s => link_map (spec_l2Yield_n3_l n x1454 x1455 s.1 s.2) (Sum.elim (fun (t : Int × Int) => Sum.inl (t.1, t.2)) (fun (t : Int) => Sum.inr t)) (by
  rintro (t | t)
  · kernel_rfl
  · kernel_rfl)) (x1486, 0))

theorem spec_l2Yield_n5_l (n : Nat) (x1454 : List Int) (x1455 : Int) (x1486 : Int) : Link (spec_l2Yield_ctx n) LL (Code.snd (Code.fst (Code.snd (Code.snd (bodyOf Tryd.f60))))) (Ann.snd (Ann.fst (Ann.snd (Ann.snd spec_l2Yield_an)))) (⟨mkE 29 0 [(0, .dat (.list (.int .i64)) x1454), (1, .dat (.int .i64) x1455), (5, .dat (.int .i64) x1486), (6, .dat (.int .i64) 0)], []⟩ : St) (spec_l2Yield_n5 (spec_l2Yield_fuel n) x1454 x1455 x1486) (fun (t : Int) => (Exit.normal, (⟨mkE 29 0 [(5, .dat (.int .i64) t)], []⟩ : St))) := by
  unfold spec_l2Yield_n5
  exact Link.cast (by kernel_rfl) (by kernel_rfl) (link_block (id := 0) (spec_l2Yield_n4_l n x1454 x1455 x1486) (fun (t : Int) => t) (by
  rintro t K h
  · exact Eq.mp (by kernel_rfl) h))

theorem spec_l2Yield_n6_l (n : Nat) (x1454 : List Int) (x1455 : Int) (x1486 : Int) : Link (spec_l2Yield_ctx n) LL (Code.fst (Code.snd (Code.snd (bodyOf Tryd.f60)))) (Ann.fst (Ann.snd (Ann.snd spec_l2Yield_an))) (⟨mkE 29 0 [(0, .dat (.list (.int .i64)) x1454), (1, .dat (.int .i64) x1455), (5, .dat (.int .i64) x1486)], []⟩ : St) (spec_l2Yield_n6 (spec_l2Yield_fuel n) x1454 x1455 x1486) (fun (t : Int) => (Exit.normal, (⟨mkE 29 0 [(5, .dat (.int .i64) t)], []⟩ : St))) := by
  unfold spec_l2Yield_n6
  exact Link.cast (by kernel_rfl) (by kernel_rfl) (link_seq (b := (Code.snd (Code.fst (Code.snd (Code.snd (bodyOf Tryd.f60)))))) (y := (Ann.snd (Ann.fst (Ann.snd (Ann.snd spec_l2Yield_an))))) (spec_l2Yield_n2_l n x1454 x1455 x1486) (fun (t : Unit) => (spec_l2Yield_n5_l n x1454 x1455 x1486)))

theorem spec_l2Yield_n7_l (n : Nat) (x1507 : Int) : Link (spec_l2Yield_ctx n) LL (Code.snd (Code.snd (Code.snd (bodyOf Tryd.f60)))) (Ann.snd (Ann.snd (Ann.snd spec_l2Yield_an))) (⟨mkE 29 0 [(5, .dat (.int .i64) x1507)], []⟩ : St) (spec_l2Yield_n7 (spec_l2Yield_fuel n) x1507) (fun (t : Int) => (Exit.ret, (⟨mkE 29 0 [(4, .dat (.int .i64) t)], []⟩ : St))) := by
  refine Link.of fun K h => ?_
  simp only [spec_l2Yield_n7, wpO_bind, wpO_cond, wpO_map, wpO_some] at h
  exact Awp.of (by kernel_rfl) h

theorem spec_l2Yield_n8_l (n : Nat) (x1454 : List Int) (x1455 : Int) (x1486 : Int) : Link (spec_l2Yield_ctx n) LL (Code.snd (Code.snd (bodyOf Tryd.f60))) (Ann.snd (Ann.snd spec_l2Yield_an)) (⟨mkE 29 0 [(0, .dat (.list (.int .i64)) x1454), (1, .dat (.int .i64) x1455), (5, .dat (.int .i64) x1486)], []⟩ : St) (spec_l2Yield_n8 (spec_l2Yield_fuel n) x1454 x1455 x1486) (fun (t : Int) => (Exit.ret, (⟨mkE 29 0 [(4, .dat (.int .i64) t)], []⟩ : St))) := by
  unfold spec_l2Yield_n8
  exact Link.cast (by kernel_rfl) (by kernel_rfl) (link_seq (b := (Code.snd (Code.snd (Code.snd (bodyOf Tryd.f60))))) (y := (Ann.snd (Ann.snd (Ann.snd spec_l2Yield_an)))) (spec_l2Yield_n6_l n x1454 x1455 x1486) (fun (t : Int) => (spec_l2Yield_n7_l n t)))

theorem spec_l2Yield_n9_l (n : Nat) (x1454 : List Int) (x1455 : Int) : Link (spec_l2Yield_ctx n) LL (bodyOf Tryd.f60) spec_l2Yield_an (⟨mkE 29 0 [(0, .dat (.list (.int .i64)) x1454), (1, .dat (.int .i64) x1455)], []⟩ : St) (spec_l2Yield_n9 (spec_l2Yield_fuel n) x1454 x1455) (fun (t : Int) => (Exit.ret, (⟨mkE 29 0 [(4, .dat (.int .i64) t)], []⟩ : St))) := by
  unfold spec_l2Yield_n9
  exact Link.cast (by kernel_rfl) (by kernel_rfl) (link_group (c := (Code.fst (Code.snd (bodyOf Tryd.f60)))) (a := (Ann.fst (Ann.snd spec_l2Yield_an))) [(Code.fst (bodyOf Tryd.f60))] [(Ann.fst spec_l2Yield_an)] rfl (link_seq (b := (Code.snd (Code.snd (bodyOf Tryd.f60)))) (y := (Ann.snd (Ann.snd spec_l2Yield_an))) (spec_l2Yield_n1_l n x1454 x1455) (fun (t : Int) => (spec_l2Yield_n8_l n x1454 x1455 t))))

theorem spec_l2Yield_e (n : Nat) (x1454 : List Int) (x1455 : Int) {r : AV} {H' : Heap} (h : (Ans.mk _ (spec_l2Yield_fuel (n + 1) x1454 x1455) (fun (t : Int) => (.dat (.int .i64) t, []))).run = some (r, H')) : Awp (spec_l2Yield_ctx n) LL (bodyOf Tryd.f60) spec_l2Yield_an (⟨mkE 29 0 [(0, .dat (.list (.int .i64)) x1454), (1, .dat (.int .i64) x1455)], []⟩ : St) (Ret (tlook tys) Tryd.f60.results.toList r H') :=
  ret_of' (spec_l2Yield_n9_l n x1454 x1455) (by (show _ = _); kernel_rfl) (by
  intro t
  exact ret_mk [.dat (.int .i64) t] (by kernel_rfl) (by kernel_rfl) (by kernel_rfl) (by kernel_rfl)) h

theorem spec_l2Yield_step (n : Nat) (h60 : Sound Tryd.prog 60 (F_spec_l2Yield_fuel n)) : Sound Tryd.prog 60 (F_spec_l2Yield_fuel (n + 1)) := by
  refine fn_sound' (C := spec_l2Yield_ctx n) (c := bodyOf Tryd.f60) (cok_of tys_ok (List.forall_mem_cons.2 ⟨h60, by simp⟩) (List.forall_mem_cons.2 ⟨Tryd.call60, by simp⟩) (by kernel_rfl)) Tryd.func60 (by kernel_rfl) LL spec_l2Yield_an ?_
  intro avs H r H' h
  unfold F_spec_l2Yield_fuel at h
  split at h
  · refine Awp.cast ?_ ?_ ?_ (spec_l2Yield_e n _ _ h) <;> kernel_rfl
  · simp [Ans.no, Ans.run] at h

theorem spec_l2Yield_null : Sound Tryd.prog 60 (F_spec_l2Yield_fuel 0) := by
  intro avs H r H' h
  unfold F_spec_l2Yield_fuel at h
  split at h
  · simp [spec_l2Yield_fuel, spec_l2Yield_knot, Ans.run] at h
  · simp [Ans.no, Ans.run] at h

theorem spec_l2Yield_knot_all : ∀ n, Sound Tryd.prog 60 (F_spec_l2Yield_fuel n)
  | 0 => spec_l2Yield_null
  | n + 1 => by
    have h60 := spec_l2Yield_knot_all n
    exact spec_l2Yield_step n h60

def F_spec_l2Yield : Fun := fun avs H =>
  match avs, H with
  | [.dat (.list (.int .i64)) x1454, .dat (.int .i64) x1455], [] => ⟨_, spec_l2Yield x1454 x1455, fun (t : Int) => (.dat (.int .i64) t, [])⟩
  | _, _ => Ans.no

theorem spec_l2Yield_sound : Sound Tryd.prog 60 F_spec_l2Yield := by
  have e : F_spec_l2Yield = F_spec_l2Yield_fuel RR := by
    funext avs H
    unfold F_spec_l2Yield F_spec_l2Yield_fuel
    split <;> first | rfl | (simp only [spec_l2Yield])
  rw [e]
  exact (spec_l2Yield_knot_all RR)

/-! loop.example/headtrees/spec.l2Words -/

def spec_l2Words_an : Ann := (.seq (.leaf [0]) (.seq (.leaf [0, 3]) (.seq (.seq (.leaf [0, 3, 4]) (.block (.loop (.seq (.seq (.leaf [0, 3, 4, 9]) (.cond (.leaf [0, 3, 4]) (.leaf [3]))) (.seq (.block (.seq (.leaf [0, 3, 4, 16]) (.cond (.leaf [0, 3, 4]) (.leaf [0, 3, 4])))) (.leaf [0, 3, 4])))))) (.seq (.leaf [2]) (.leaf [2])))))

noncomputable def spec_l2Words_ctx : Ctx := ⟨tlook tys, olook [], ioF, 0⟩

theorem spec_l2Words_n1_l (x1530 : Int) : Link spec_l2Words_ctx LL (Code.seq (Code.fst (bodyOf Tryd.f59)) (Code.fst (Code.snd (bodyOf Tryd.f59)))) (Ann.seq (Ann.fst spec_l2Words_an) (Ann.fst (Ann.snd spec_l2Words_an))) (⟨mkE 23 0 [(0, .dat (.int .i64) x1530)], []⟩ : St) (spec_l2Words_n1) (fun (t : Unit) => (Exit.normal, (⟨mkE 23 0 [(0, .dat (.int .i64) x1530), (3, .slc 0)], [some (.seq (.int .i64) ([] : List Int))]⟩ : St))) := by
  refine Link.of fun K h => ?_
  simp only [spec_l2Words_n1, wpO_bind, wpO_cond, wpO_map, wpO_some] at h
  exact Awp.of (by kernel_rfl) h

theorem spec_l2Words_n2_l (x1530 : Int) : Link spec_l2Words_ctx LL (Code.fst (Code.fst (Code.snd (Code.snd (bodyOf Tryd.f59))))) (Ann.fst (Ann.fst (Ann.snd (Ann.snd spec_l2Words_an)))) (⟨mkE 23 0 [(0, .dat (.int .i64) x1530), (3, .slc 0)], [some (.seq (.int .i64) ([] : List Int))]⟩ : St) (spec_l2Words_n2) (fun (t : Unit) => (Exit.normal, (⟨mkE 23 0 [(0, .dat (.int .i64) x1530), (3, .slc 0), (4, .dat (.int .i64) 0)], [some (.seq (.int .i64) ([] : List Int))]⟩ : St))) := by
  refine Link.of fun K h => ?_
  simp only [spec_l2Words_n2, wpO_bind, wpO_cond, wpO_map, wpO_some] at h
  exact Awp.of (by kernel_rfl) h

theorem spec_l2Words_n3_l (x1530 : Int) (x1557 : Int) (x1558 : List Int) : Link spec_l2Words_ctx LL (Code.fst (Code.fst (Code.snd (Code.fst (Code.snd (Code.snd (bodyOf Tryd.f59))))))) (Ann.fst (Ann.fst (Ann.snd (Ann.fst (Ann.snd (Ann.snd spec_l2Words_an)))))) (⟨mkE 23 0 [(0, .dat (.int .i64) x1530), (3, .slc 0), (4, .dat (.int .i64) x1557)], [some (.seq (.int .i64) x1558)]⟩ : St) (spec_l2Words_n3 x1530 x1557 x1558) (Sum.elim (fun (t : Int × (List Int)) => (Exit.normal, (⟨mkE 23 0 [(0, .dat (.int .i64) x1530), (3, .slc 0), (4, .dat (.int .i64) t.1)], [some (.seq (.int .i64) t.2)]⟩ : St))) (fun (t : (List Int)) => ((Exit.exit 0), (⟨mkE 23 0 [(3, .slc 0)], [some (.seq (.int .i64) t)]⟩ : St)))) := by
  refine Link.of fun K h => ?_
  simp only [spec_l2Words_n3, wpO_bind, wpO_cond, wpO_map, wpO_some] at h
  exact Awp.of (by kernel_rfl) h

theorem spec_l2Words_n4_l (x1530 : Int) : Link spec_l2Words_ctx LL (Code.fst (Code.snd (Code.fst (Code.snd (Code.snd (bodyOf Tryd.f59)))))) (Ann.fst (Ann.snd (Ann.fst (Ann.snd (Ann.snd spec_l2Words_an))))) (⟨mkE 23 0 [(0, .dat (.int .i64) x1530), (3, .slc 0), (4, .dat (.int .i64) 0)], [some (.seq (.int .i64) ([] : List Int))]⟩ : St) (spec_l2Words_n4 x1530) (fun (t : (List Int)) => ((Exit.exit 0), (⟨mkE 23 0 [(3, .slc 0)], [some (.seq (.int .i64) t)]⟩ : St))) := by
  unfold spec_l2Words_n4
  exact Link.cast (by kernel_rfl) (by kernel_rfl) (link_loop (mk := fun (s : Int × (List Int)) => (⟨mkE 23 0 [(0, .dat (.int .i64) x1530), (3, .slc 0), (4, .dat (.int .i64) s.1)], [some (.seq (.int .i64) s.2)]⟩ : St)) (fin := (fun (t : (List Int)) => ((Exit.exit 0), (⟨mkE 23 0 [(3, .slc 0)], [some (.seq (.int .i64) t)]⟩ : St)))) (by
  rintro t f K h
  · exact h) (fun s => link_map (spec_l2Words_n3_l x1530 s.1 s.2) (Sum.elim (fun (t : Int × (List Int)) => Sum.inl (t.1, t.2)) (fun (t : (List Int)) => Sum.inr t)) (by
  rintro (t | t)
  · kernel_rfl
  · kernel_rfl)) (0, ([] : List Int)))

theorem spec_l2Words_n5_l (x1530 : Int) : Link spec_l2Words_ctx LL (Code.snd (Code.fst (Code.snd (Code.snd (bodyOf Tryd.f59))))) (Ann.snd (Ann.fst (Ann.snd (Ann.snd spec_l2Words_an)))) (⟨mkE 23 0 [(0, .dat (.int .i64) x1530), (3, .slc 0), (4, .dat (.int .i64) 0)], [some (.seq (.int .i64) ([] : List Int))]⟩ : St) (spec_l2Words_n5 x1530) (fun (t : (List Int)) => (Exit.normal, (⟨mkE 23 0 [(3, .slc 0)], [some (.seq (.int .i64) t)]⟩ : St))) := by
  unfold spec_l2Words_n5
  exact Link.cast (by kernel_rfl) (by kernel_rfl) (link_block (id := 0) (spec_l2Words_n4_l x1530) (fun (t : (List Int)) => t) (by
  rintro t K h
  · exact Eq.mp (by kernel_rfl) h))

theorem spec_l2Words_n6_l (x1530 : Int) : Link spec_l2Words_ctx LL (Code.fst (Code.snd (Code.snd (bodyOf Tryd.f59)))) (Ann.fst (Ann.snd (Ann.snd spec_l2Words_an))) (⟨mkE 23 0 [(0, .dat (.int .i64) x1530), (3, .slc 0)], [some (.seq (.int .i64) ([] : List Int))]⟩ : St) (spec_l2Words_n6 x1530) (fun (t : (List Int)) => (Exit.normal, (⟨mkE 23 0 [(3, .slc 0)], [some (.seq (.int .i64) t)]⟩ : St))) := by
  unfold spec_l2Words_n6
  exact Link.cast (by kernel_rfl) (by kernel_rfl) (link_seq (b := (Code.snd (Code.fst (Code.snd (Code.snd (bodyOf Tryd.f59)))))) (y := (Ann.snd (Ann.fst (Ann.snd (Ann.snd spec_l2Words_an))))) (spec_l2Words_n2_l x1530) (fun (t : Unit) => (spec_l2Words_n5_l x1530)))

theorem spec_l2Words_n7_l (x1558 : List Int) : Link spec_l2Words_ctx LL (Code.snd (Code.snd (Code.snd (bodyOf Tryd.f59)))) (Ann.snd (Ann.snd (Ann.snd spec_l2Words_an))) (⟨mkE 23 0 [(3, .slc 0)], [some (.seq (.int .i64) x1558)]⟩ : St) (spec_l2Words_n7 x1558) (fun (t : (List Int)) => (Exit.ret, (⟨mkE 23 0 [(2, .slc 0)], [some (.seq (.int .i64) t)]⟩ : St))) := by
  refine Link.of fun K h => ?_
  simp only [spec_l2Words_n7, wpO_bind, wpO_cond, wpO_map, wpO_some] at h
  exact Awp.of (by kernel_rfl) h

theorem spec_l2Words_n8_l (x1530 : Int) : Link spec_l2Words_ctx LL (Code.snd (Code.snd (bodyOf Tryd.f59))) (Ann.snd (Ann.snd spec_l2Words_an)) (⟨mkE 23 0 [(0, .dat (.int .i64) x1530), (3, .slc 0)], [some (.seq (.int .i64) ([] : List Int))]⟩ : St) (spec_l2Words_n8 x1530) (fun (t : (List Int)) => (Exit.ret, (⟨mkE 23 0 [(2, .slc 0)], [some (.seq (.int .i64) t)]⟩ : St))) := by
  unfold spec_l2Words_n8
  exact Link.cast (by kernel_rfl) (by kernel_rfl) (link_seq (b := (Code.snd (Code.snd (Code.snd (bodyOf Tryd.f59))))) (y := (Ann.snd (Ann.snd (Ann.snd spec_l2Words_an)))) (spec_l2Words_n6_l x1530) (fun (t : (List Int)) => (spec_l2Words_n7_l t)))

theorem spec_l2Words_n9_l (x1530 : Int) : Link spec_l2Words_ctx LL (bodyOf Tryd.f59) spec_l2Words_an (⟨mkE 23 0 [(0, .dat (.int .i64) x1530)], []⟩ : St) (spec_l2Words_n9 x1530) (fun (t : (List Int)) => (Exit.ret, (⟨mkE 23 0 [(2, .slc 0)], [some (.seq (.int .i64) t)]⟩ : St))) := by
  unfold spec_l2Words_n9
  exact Link.cast (by kernel_rfl) (by kernel_rfl) (link_group (c := (Code.fst (Code.snd (bodyOf Tryd.f59)))) (a := (Ann.fst (Ann.snd spec_l2Words_an))) [(Code.fst (bodyOf Tryd.f59))] [(Ann.fst spec_l2Words_an)] rfl (link_seq (b := (Code.snd (Code.snd (bodyOf Tryd.f59)))) (y := (Ann.snd (Ann.snd spec_l2Words_an))) (spec_l2Words_n1_l x1530) (fun (t : Unit) => (spec_l2Words_n8_l x1530))))

theorem spec_l2Words_e (x1530 : Int) {r : AV} {H' : Heap} (h : (Ans.mk _ (spec_l2Words x1530) (fun (t : (List Int)) => (.slc 0, [some (.seq (.int .i64) t)]))).run = some (r, H')) : Awp spec_l2Words_ctx LL (bodyOf Tryd.f59) spec_l2Words_an (⟨mkE 23 0 [(0, .dat (.int .i64) x1530)], []⟩ : St) (Ret (tlook tys) Tryd.f59.results.toList r H') :=
  ret_of' (spec_l2Words_n9_l x1530) (by unfold spec_l2Words; kernel_rfl) (by
  intro t
  exact ret_mk [.slc 0] (by kernel_rfl) (by kernel_rfl) (by kernel_rfl) (by kernel_rfl)) h

def F_spec_l2Words : Fun := fun avs H =>
  match avs, H with
  | [.dat (.int .i64) x1530], [] => ⟨_, spec_l2Words x1530, fun (t : (List Int)) => (.slc 0, [some (.seq (.int .i64) t)])⟩
  | _, _ => Ans.no

theorem spec_l2Words_sound : Sound Tryd.prog 59 F_spec_l2Words := by
  refine fn_sound' (C := spec_l2Words_ctx) (c := bodyOf Tryd.f59) (cok_of tys_ok (by simp) (by simp) (by kernel_rfl)) Tryd.func59 (by kernel_rfl) LL spec_l2Words_an ?_
  intro avs H r H' h
  unfold F_spec_l2Words at h
  split at h
  · refine Awp.cast ?_ ?_ ?_ (spec_l2Words_e _ h) <;> kernel_rfl
  · simp [Ans.no, Ans.run] at h

/-! loop.example/headtrees/spec.YieldOf -/

def spec_YieldOf_an : Ann := (.seq (.leaf [0, 1]) (.seq (.seq (.leaf [0, 1, 14]) (.cond (.seq (.leaf [4]) (.leaf [4])) (.leaf [0, 1]))) (.seq (.leaf [4]) (.leaf [4]))))

noncomputable def spec_YieldOf_ctx : Ctx := ⟨tlook tys, olook [(27, F_spec_TreeOk), (58, F_spec_l1In), (60, F_spec_l2Yield), (59, F_spec_l2Words)], ioF, 0⟩

theorem spec_YieldOf_n1_l (x1293 : List Int) (x1294 : Int) : Link spec_YieldOf_ctx LL (bodyOf Tryd.f19) spec_YieldOf_an (⟨mkE 20 0 [(0, .dat (.list (.int .i64)) x1293), (1, .dat (.int .i64) x1294)], []⟩ : St) (spec_YieldOf_n1 x1293 x1294) (fun (t : (List Int)) => (Exit.ret, (⟨mkE 20 0 [(4, .slc 0)], [some (.seq (.int .i64) t)]⟩ : St))) := by
  refine Link.of fun K h => ?_
  simp only [spec_YieldOf_n1, wpO_bind, wpO_cond, wpO_map, wpO_some] at h
  exact Awp.of (by kernel_rfl) h

theorem spec_YieldOf_e (x1293 : List Int) (x1294 : Int) {r : AV} {H' : Heap} (h : (Ans.mk _ (spec_YieldOf x1293 x1294) (fun (t : (List Int)) => (.slc 0, [some (.seq (.int .i64) t)]))).run = some (r, H')) : Awp spec_YieldOf_ctx LL (bodyOf Tryd.f19) spec_YieldOf_an (⟨mkE 20 0 [(0, .dat (.list (.int .i64)) x1293), (1, .dat (.int .i64) x1294)], []⟩ : St) (Ret (tlook tys) Tryd.f19.results.toList r H') :=
  ret_of' (spec_YieldOf_n1_l x1293 x1294) (by unfold spec_YieldOf; kernel_rfl) (by
  intro t
  exact ret_mk [.slc 0] (by kernel_rfl) (by kernel_rfl) (by kernel_rfl) (by kernel_rfl)) h

def F_spec_YieldOf : Fun := fun avs H =>
  match avs, H with
  | [.dat (.list (.int .i64)) x1293, .dat (.int .i64) x1294], [] => ⟨_, spec_YieldOf x1293 x1294, fun (t : (List Int)) => (.slc 0, [some (.seq (.int .i64) t)])⟩
  | _, _ => Ans.no

theorem spec_YieldOf_sound : Sound Tryd.prog 19 F_spec_YieldOf := by
  refine fn_sound' (C := spec_YieldOf_ctx) (c := bodyOf Tryd.f19) (cok_of tys_ok (List.forall_mem_cons.2 ⟨spec_TreeOk_sound, List.forall_mem_cons.2 ⟨spec_l1In_sound, List.forall_mem_cons.2 ⟨spec_l2Yield_sound, List.forall_mem_cons.2 ⟨spec_l2Words_sound, by simp⟩⟩⟩⟩) (List.forall_mem_cons.2 ⟨Tryd.call27, List.forall_mem_cons.2 ⟨Tryd.call58, List.forall_mem_cons.2 ⟨Tryd.call60, List.forall_mem_cons.2 ⟨Tryd.call59, by simp⟩⟩⟩⟩) (by kernel_rfl)) Tryd.func19 (by kernel_rfl) LL spec_YieldOf_an ?_
  intro avs H r H' h
  unfold F_spec_YieldOf at h
  split at h
  · refine Awp.cast ?_ ?_ ?_ (spec_YieldOf_e _ _ h) <;> kernel_rfl
  · simp [Ans.no, Ans.run] at h

/-! loop.example/headtrees/laws.sameInts -/

def laws_sameInts_an : Ann := (.seq (.leaf [0, 1]) (.seq (.seq (.leaf [0, 1, 10]) (.cond (.seq (.leaf [4]) (.leaf [4])) (.leaf [0, 1]))) (.seq (.seq (.leaf [0, 1, 5]) (.block (.loop (.seq (.seq (.leaf [0, 1, 5, 14]) (.cond (.leaf [0, 1, 5]) (.leaf []))) (.seq (.block (.seq (.draw [] [0, 1, 2, 3, 4, 5, 6, 7, 8] [] [0, 1, 5, 25]) (.cond (.seq (.leaf [4]) (.leaf [4])) (.leaf [0, 1, 5])))) (.leaf [0, 1, 5])))))) (.seq (.leaf [4]) (.leaf [4])))))

noncomputable def laws_sameInts_ctx : Ctx := ⟨tlook tys, olook [], ioF, 0⟩

theorem laws_sameInts_n1_l (x1595 : List Int) (x1596 : List Int) : Link laws_sameInts_ctx LL (Code.seq (Code.fst (bodyOf Tryd.f18)) (Code.fst (Code.snd (bodyOf Tryd.f18)))) (Ann.seq (Ann.fst laws_sameInts_an) (Ann.fst (Ann.snd laws_sameInts_an))) (⟨mkE 26 0 [(0, .dat (.list (.int .i64)) x1595), (1, .dat (.list (.int .i64)) x1596)], []⟩ : St) (laws_sameInts_n1 x1595 x1596) (Sum.elim (fun (t : Unit) => (Exit.normal, (⟨mkE 26 0 [(0, .dat (.list (.int .i64)) x1595), (1, .dat (.list (.int .i64)) x1596)], []⟩ : St))) (fun (t : Bool) => (Exit.ret, (⟨mkE 26 0 [(4, .dat .bool t)], []⟩ : St)))) := by
  refine Link.of fun K h => ?_
  simp only [laws_sameInts_n1, wpO_bind, wpO_cond, wpO_map, wpO_some] at h
  exact Awp.of (by kernel_rfl) h

theorem laws_sameInts_n2_l (x1595 : List Int) (x1596 : List Int) : Link laws_sameInts_ctx LL (Code.fst (Code.fst (Code.snd (Code.snd (bodyOf Tryd.f18))))) (Ann.fst (Ann.fst (Ann.snd (Ann.snd laws_sameInts_an)))) (⟨mkE 26 0 [(0, .dat (.list (.int .i64)) x1595), (1, .dat (.list (.int .i64)) x1596)], []⟩ : St) (laws_sameInts_n2) (fun (t : Unit) => (Exit.normal, (⟨mkE 26 0 [(0, .dat (.list (.int .i64)) x1595), (1, .dat (.list (.int .i64)) x1596), (5, .dat (.int .i64) 0)], []⟩ : St))) := by
  refine Link.of fun K h => ?_
  simp only [laws_sameInts_n2, wpO_bind, wpO_cond, wpO_map, wpO_some] at h
  exact Awp.of (by kernel_rfl) h

theorem laws_sameInts_n3_l (x1595 : List Int) (x1596 : List Int) (x1613 : Int) : Link laws_sameInts_ctx LL (Code.fst (Code.fst (Code.snd (Code.fst (Code.snd (Code.snd (bodyOf Tryd.f18))))))) (Ann.fst (Ann.fst (Ann.snd (Ann.fst (Ann.snd (Ann.snd laws_sameInts_an)))))) (⟨mkE 26 0 [(0, .dat (.list (.int .i64)) x1595), (1, .dat (.list (.int .i64)) x1596), (5, .dat (.int .i64) x1613)], []⟩ : St) (laws_sameInts_n3 x1595 x1596 x1613) (Sum.elim (fun (t : Int) => (Exit.normal, (⟨mkE 26 0 [(0, .dat (.list (.int .i64)) x1595), (1, .dat (.list (.int .i64)) x1596), (5, .dat (.int .i64) t)], []⟩ : St))) (Sum.elim (fun (t : Bool) => (Exit.ret, (⟨mkE 26 0 [(4, .dat .bool t)], []⟩ : St))) (fun (t : Unit) => ((Exit.exit 0), (⟨mkE 26 0 [], []⟩ : St))))) := by
  refine Link.of fun K h => ?_
  simp only [laws_sameInts_n3, wpO_bind, wpO_cond, wpO_map, wpO_some] at h
  exact Awp.of (by kernel_rfl) h

theorem laws_sameInts_n4_l (x1595 : List Int) (x1596 : List Int) : Link laws_sameInts_ctx LL (Code.fst (Code.snd (Code.fst (Code.snd (Code.snd (bodyOf Tryd.f18)))))) (Ann.fst (Ann.snd (Ann.fst (Ann.snd (Ann.snd laws_sameInts_an))))) (⟨mkE 26 0 [(0, .dat (.list (.int .i64)) x1595), (1, .dat (.list (.int .i64)) x1596), (5, .dat (.int .i64) 0)], []⟩ : St) (laws_sameInts_n4 x1595 x1596) (Sum.elim (fun (t : Bool) => (Exit.ret, (⟨mkE 26 0 [(4, .dat .bool t)], []⟩ : St))) (fun (t : Unit) => ((Exit.exit 0), (⟨mkE 26 0 [], []⟩ : St)))) := by
  unfold laws_sameInts_n4
  exact Link.cast (by kernel_rfl) (by kernel_rfl) (link_loop (mk := fun (s : Int) => (⟨mkE 26 0 [(0, .dat (.list (.int .i64)) x1595), (1, .dat (.list (.int .i64)) x1596), (5, .dat (.int .i64) s)], []⟩ : St)) (fin := (Sum.elim (fun (t : Bool) => (Exit.ret, (⟨mkE 26 0 [(4, .dat .bool t)], []⟩ : St))) (fun (t : Unit) => ((Exit.exit 0), (⟨mkE 26 0 [], []⟩ : St))))) (by
  rintro (t | t) f K h
  · exact h
  · exact h) (fun s => link_map (laws_sameInts_n3_l x1595 x1596 s) (Sum.elim (fun (t : Int) => Sum.inl t) (Sum.elim (fun (t : Bool) => Sum.inr (Sum.inl t)) (fun (t : Unit) => Sum.inr (Sum.inr t)))) (by
  rintro (t | t | t)
  · kernel_rfl
  · kernel_rfl
  · kernel_rfl)) 0)

theorem laws_sameInts_n5_l (x1595 : List Int) (x1596 : List Int) : Link laws_sameInts_ctx LL (Code.snd (Code.fst (Code.snd (Code.snd (bodyOf Tryd.f18))))) (Ann.snd (Ann.fst (Ann.snd (Ann.snd laws_sameInts_an)))) (⟨mkE 26 0 [(0, .dat (.list (.int .i64)) x1595), (1, .dat (.list (.int .i64)) x1596), (5, .dat (.int .i64) 0)], []⟩ : St) (laws_sameInts_n5 x1595 x1596) (Sum.elim (fun (t : Unit) => (Exit.normal, (⟨mkE 26 0 [], []⟩ : St))) (fun (t : Bool) => (Exit.ret, (⟨mkE 26 0 [(4, .dat .bool t)], []⟩ : St)))) := by
  unfold laws_sameInts_n5
  exact Link.cast (by kernel_rfl) (by kernel_rfl) (link_block (id := 0) (laws_sameInts_n4_l x1595 x1596) (Sum.elim (fun (t : Bool) => (Sum.inr t)) (fun (t : Unit) => (Sum.inl ()))) (by
  rintro (t | t) K h
  · exact Eq.mp (by kernel_rfl) h
  · exact Eq.mp (by kernel_rfl) h))

theorem laws_sameInts_n6_l (x1595 : List Int) (x1596 : List Int) : Link laws_sameInts_ctx LL (Code.fst (Code.snd (Code.snd (bodyOf Tryd.f18)))) (Ann.fst (Ann.snd (Ann.snd laws_sameInts_an))) (⟨mkE 26 0 [(0, .dat (.list (.int .i64)) x1595), (1, .dat (.list (.int .i64)) x1596)], []⟩ : St) (laws_sameInts_n6 x1595 x1596) (Sum.elim (fun (t : Unit) => (Exit.normal, (⟨mkE 26 0 [], []⟩ : St))) (fun (t : Bool) => (Exit.ret, (⟨mkE 26 0 [(4, .dat .bool t)], []⟩ : St)))) := by
  unfold laws_sameInts_n6
  exact Link.cast (by kernel_rfl) (by kernel_rfl) (link_seq (b := (Code.snd (Code.fst (Code.snd (Code.snd (bodyOf Tryd.f18)))))) (y := (Ann.snd (Ann.fst (Ann.snd (Ann.snd laws_sameInts_an))))) (laws_sameInts_n2_l x1595 x1596) (fun (t : Unit) => (laws_sameInts_n5_l x1595 x1596)))

theorem laws_sameInts_n7_l : Link laws_sameInts_ctx LL (Code.snd (Code.snd (Code.snd (bodyOf Tryd.f18)))) (Ann.snd (Ann.snd (Ann.snd laws_sameInts_an))) (⟨mkE 26 0 [], []⟩ : St) (laws_sameInts_n7) (fun (t : Bool) => (Exit.ret, (⟨mkE 26 0 [(4, .dat .bool t)], []⟩ : St))) := by
  refine Link.of fun K h => ?_
  simp only [laws_sameInts_n7, wpO_bind, wpO_cond, wpO_map, wpO_some] at h
  exact Awp.of (by kernel_rfl) h

theorem laws_sameInts_n8_l (x1595 : List Int) (x1596 : List Int) : Link laws_sameInts_ctx LL (Code.snd (Code.snd (bodyOf Tryd.f18))) (Ann.snd (Ann.snd laws_sameInts_an)) (⟨mkE 26 0 [(0, .dat (.list (.int .i64)) x1595), (1, .dat (.list (.int .i64)) x1596)], []⟩ : St) (laws_sameInts_n8 x1595 x1596) (fun (t : Bool) => (Exit.ret, (⟨mkE 26 0 [(4, .dat .bool t)], []⟩ : St))) := by
  unfold laws_sameInts_n8
  exact Link.cast (by kernel_rfl) (by kernel_rfl) (link_seq2 (b := (Code.snd (Code.snd (Code.snd (bodyOf Tryd.f18))))) (y := (Ann.snd (Ann.snd (Ann.snd laws_sameInts_an)))) (laws_sameInts_n6_l x1595 x1596) (fun (t : Unit) => (laws_sameInts_n7_l)) (fun (t : Bool) => t) (by
  rintro t
  · kernel_rfl) (by
  rintro t f K h
  · exact h))

theorem laws_sameInts_n9_l (x1595 : List Int) (x1596 : List Int) : Link laws_sameInts_ctx LL (bodyOf Tryd.f18) laws_sameInts_an (⟨mkE 26 0 [(0, .dat (.list (.int .i64)) x1595), (1, .dat (.list (.int .i64)) x1596)], []⟩ : St) (laws_sameInts_n9 x1595 x1596) (fun (t : Bool) => (Exit.ret, (⟨mkE 26 0 [(4, .dat .bool t)], []⟩ : St))) := by
  unfold laws_sameInts_n9
  exact Link.cast (by kernel_rfl) (by kernel_rfl) (link_group (c := (Code.fst (Code.snd (bodyOf Tryd.f18)))) (a := (Ann.fst (Ann.snd laws_sameInts_an))) [(Code.fst (bodyOf Tryd.f18))] [(Ann.fst laws_sameInts_an)] rfl (link_seq2 (b := (Code.snd (Code.snd (bodyOf Tryd.f18)))) (y := (Ann.snd (Ann.snd laws_sameInts_an))) (laws_sameInts_n1_l x1595 x1596) (fun (t : Unit) => (laws_sameInts_n8_l x1595 x1596)) (fun (t : Bool) => t) (by
  rintro t
  · kernel_rfl) (by
  rintro t f K h
  · exact h)))

theorem laws_sameInts_e (x1595 : List Int) (x1596 : List Int) {r : AV} {H' : Heap} (h : (Ans.mk _ (laws_sameInts x1595 x1596) (fun (t : Bool) => (.dat .bool t, []))).run = some (r, H')) : Awp laws_sameInts_ctx LL (bodyOf Tryd.f18) laws_sameInts_an (⟨mkE 26 0 [(0, .dat (.list (.int .i64)) x1595), (1, .dat (.list (.int .i64)) x1596)], []⟩ : St) (Ret (tlook tys) Tryd.f18.results.toList r H') :=
  ret_of' (laws_sameInts_n9_l x1595 x1596) (by unfold laws_sameInts; kernel_rfl) (by
  intro t
  exact ret_mk [.dat .bool t] (by kernel_rfl) (by kernel_rfl) (by kernel_rfl) (by kernel_rfl)) h

def F_laws_sameInts : Fun := fun avs H =>
  match avs, H with
  | [.dat (.list (.int .i64)) x1595, .dat (.list (.int .i64)) x1596], [] => ⟨_, laws_sameInts x1595 x1596, fun (t : Bool) => (.dat .bool t, [])⟩
  | _, _ => Ans.no

theorem laws_sameInts_sound : Sound Tryd.prog 18 F_laws_sameInts := by
  refine fn_sound' (C := laws_sameInts_ctx) (c := bodyOf Tryd.f18) (cok_of tys_ok (by simp) (by simp) (by kernel_rfl)) Tryd.func18 (by kernel_rfl) LL laws_sameInts_an ?_
  intro avs H r H' h
  unfold F_laws_sameInts at h
  split at h
  · refine Awp.cast ?_ ?_ ?_ (laws_sameInts_e _ _ h) <;> kernel_rfl
  · simp [Ans.no, Ans.run] at h

/-! loop.example/headtrees/laws.alive -/

def laws_alive_an : Ann := (.seq (.leaf []) (.seq (.leaf [0]) (.leaf [0])))

noncomputable def laws_alive_ctx : Ctx := ⟨tlook tys, olook [(40, F_impl_TreeOk)], ioF, 0⟩

theorem laws_alive_n1_l : Link laws_alive_ctx LL (bodyOf Tryd.f20) laws_alive_an (⟨mkE 8 0 [], []⟩ : St) (laws_alive_n1) (fun (t : Bool) => (Exit.ret, (⟨mkE 8 0 [(0, .dat .bool t)], []⟩ : St))) := by
  refine Link.of fun K h => ?_
  simp only [laws_alive_n1, wpO_bind, wpO_cond, wpO_map, wpO_some] at h
  exact Awp.of (by kernel_rfl) h

theorem laws_alive_e {r : AV} {H' : Heap} (h : (Ans.mk _ (laws_alive) (fun (t : Bool) => (.dat .bool t, []))).run = some (r, H')) : Awp laws_alive_ctx LL (bodyOf Tryd.f20) laws_alive_an (⟨mkE 8 0 [], []⟩ : St) (Ret (tlook tys) Tryd.f20.results.toList r H') :=
  ret_of' (laws_alive_n1_l) (by unfold laws_alive; kernel_rfl) (by
  intro t
  exact ret_mk [.dat .bool t] (by kernel_rfl) (by kernel_rfl) (by kernel_rfl) (by kernel_rfl)) h

def F_laws_alive : Fun := fun avs H =>
  match avs, H with
  | [], [] => ⟨_, laws_alive, fun (t : Bool) => (.dat .bool t, [])⟩
  | _, _ => Ans.no

theorem laws_alive_sound : Sound Tryd.prog 20 F_laws_alive := by
  refine fn_sound' (C := laws_alive_ctx) (c := bodyOf Tryd.f20) (cok_of tys_ok (List.forall_mem_cons.2 ⟨impl_TreeOk_sound, by simp⟩) (List.forall_mem_cons.2 ⟨Tryd.call40, by simp⟩) (by kernel_rfl)) Tryd.func20 (by kernel_rfl) LL laws_alive_an ?_
  intro avs H r H' h
  unfold F_laws_alive at h
  split at h
  · refine Awp.cast ?_ ?_ ?_ (laws_alive_e h) <;> kernel_rfl
  · simp [Ans.no, Ans.run] at h

/-! loop.example/headtrees/laws.hasInt -/

def laws_hasInt_an : Ann := (.seq (.leaf [0, 1]) (.seq (.seq (.leaf [0, 1, 5]) (.block (.loop (.seq (.seq (.leaf [0, 1, 5, 9]) (.cond (.leaf [0, 1, 5]) (.leaf []))) (.seq (.block (.seq (.leaf [0, 1, 5, 17]) (.cond (.seq (.leaf [4]) (.leaf [4])) (.leaf [0, 1, 5])))) (.leaf [0, 1, 5])))))) (.seq (.leaf [4]) (.leaf [4]))))

noncomputable def laws_hasInt_ctx : Ctx := ⟨tlook tys, olook [], ioF, 0⟩

theorem laws_hasInt_n1_l (x1663 : List Int) (x1664 : Int) : Link laws_hasInt_ctx LL (Code.fst (bodyOf Tryd.f21)) (Ann.fst laws_hasInt_an) (⟨mkE 18 0 [(0, .dat (.list (.int .i64)) x1663), (1, .dat (.int .i64) x1664)], []⟩ : St) (laws_hasInt_n1) (fun (t : Unit) => (Exit.normal, (⟨mkE 18 0 [(0, .dat (.list (.int .i64)) x1663), (1, .dat (.int .i64) x1664)], []⟩ : St))) := by
  refine Link.of fun K h => ?_
  simp only [laws_hasInt_n1, wpO_bind, wpO_cond, wpO_map, wpO_some] at h
  exact Awp.of (by kernel_rfl) h

theorem laws_hasInt_n2_l (x1663 : List Int) (x1664 : Int) : Link laws_hasInt_ctx LL (Code.fst (Code.fst (Code.snd (bodyOf Tryd.f21)))) (Ann.fst (Ann.fst (Ann.snd laws_hasInt_an))) (⟨mkE 18 0 [(0, .dat (.list (.int .i64)) x1663), (1, .dat (.int .i64) x1664)], []⟩ : St) (laws_hasInt_n2) (fun (t : Unit) => (Exit.normal, (⟨mkE 18 0 [(0, .dat (.list (.int .i64)) x1663), (1, .dat (.int .i64) x1664), (5, .dat (.int .i64) 0)], []⟩ : St))) := by
  refine Link.of fun K h => ?_
  simp only [laws_hasInt_n2, wpO_bind, wpO_cond, wpO_map, wpO_some] at h
  exact Awp.of (by kernel_rfl) h

theorem laws_hasInt_n3_l (x1663 : List Int) (x1664 : Int) (x1676 : Int) : Link laws_hasInt_ctx LL (Code.fst (Code.fst (Code.snd (Code.fst (Code.snd (bodyOf Tryd.f21)))))) (Ann.fst (Ann.fst (Ann.snd (Ann.fst (Ann.snd laws_hasInt_an))))) (⟨mkE 18 0 [(0, .dat (.list (.int .i64)) x1663), (1, .dat (.int .i64) x1664), (5, .dat (.int .i64) x1676)], []⟩ : St) (laws_hasInt_n3 x1663 x1664 x1676) (Sum.elim (fun (t : Int) => (Exit.normal, (⟨mkE 18 0 [(0, .dat (.list (.int .i64)) x1663), (1, .dat (.int .i64) x1664), (5, .dat (.int .i64) t)], []⟩ : St))) (Sum.elim (fun (t : Bool) => (Exit.ret, (⟨mkE 18 0 [(4, .dat .bool t)], []⟩ : St))) (fun (t : Unit) => ((Exit.exit 0), (⟨mkE 18 0 [], []⟩ : St))))) := by
  refine Link.of fun K h => ?_
  simp only [laws_hasInt_n3, wpO_bind, wpO_cond, wpO_map, wpO_some] at h
  exact Awp.of (by kernel_rfl) h

theorem laws_hasInt_n4_l (x1663 : List Int) (x1664 : Int) : Link laws_hasInt_ctx LL (Code.fst (Code.snd (Code.fst (Code.snd (bodyOf Tryd.f21))))) (Ann.fst (Ann.snd (Ann.fst (Ann.snd laws_hasInt_an)))) (⟨mkE 18 0 [(0, .dat (.list (.int .i64)) x1663), (1, .dat (.int .i64) x1664), (5, .dat (.int .i64) 0)], []⟩ : St) (laws_hasInt_n4 x1663 x1664) (Sum.elim (fun (t : Bool) => (Exit.ret, (⟨mkE 18 0 [(4, .dat .bool t)], []⟩ : St))) (fun (t : Unit) => ((Exit.exit 0), (⟨mkE 18 0 [], []⟩ : St)))) := by
  unfold laws_hasInt_n4
  exact Link.cast (by kernel_rfl) (by kernel_rfl) (link_loop (mk := fun (s : Int) => (⟨mkE 18 0 [(0, .dat (.list (.int .i64)) x1663), (1, .dat (.int .i64) x1664), (5, .dat (.int .i64) s)], []⟩ : St)) (fin := (Sum.elim (fun (t : Bool) => (Exit.ret, (⟨mkE 18 0 [(4, .dat .bool t)], []⟩ : St))) (fun (t : Unit) => ((Exit.exit 0), (⟨mkE 18 0 [], []⟩ : St))))) (by
  rintro (t | t) f K h
  · exact h
  · exact h) (fun s => link_map (laws_hasInt_n3_l x1663 x1664 s) (Sum.elim (fun (t : Int) => Sum.inl t) (Sum.elim (fun (t : Bool) => Sum.inr (Sum.inl t)) (fun (t : Unit) => Sum.inr (Sum.inr t)))) (by
  rintro (t | t | t)
  · kernel_rfl
  · kernel_rfl
  · kernel_rfl)) 0)

theorem laws_hasInt_n5_l (x1663 : List Int) (x1664 : Int) : Link laws_hasInt_ctx LL (Code.snd (Code.fst (Code.snd (bodyOf Tryd.f21)))) (Ann.snd (Ann.fst (Ann.snd laws_hasInt_an))) (⟨mkE 18 0 [(0, .dat (.list (.int .i64)) x1663), (1, .dat (.int .i64) x1664), (5, .dat (.int .i64) 0)], []⟩ : St) (laws_hasInt_n5 x1663 x1664) (Sum.elim (fun (t : Unit) => (Exit.normal, (⟨mkE 18 0 [], []⟩ : St))) (fun (t : Bool) => (Exit.ret, (⟨mkE 18 0 [(4, .dat .bool t)], []⟩ : St)))) := by
  unfold laws_hasInt_n5
  exact Link.cast (by kernel_rfl) (by kernel_rfl) (link_block (id := 0) (laws_hasInt_n4_l x1663 x1664) (Sum.elim (fun (t : Bool) => (Sum.inr t)) (fun (t : Unit) => (Sum.inl ()))) (by
  rintro (t | t) K h
  · exact Eq.mp (by kernel_rfl) h
  · exact Eq.mp (by kernel_rfl) h))

theorem laws_hasInt_n6_l (x1663 : List Int) (x1664 : Int) : Link laws_hasInt_ctx LL (Code.fst (Code.snd (bodyOf Tryd.f21))) (Ann.fst (Ann.snd laws_hasInt_an)) (⟨mkE 18 0 [(0, .dat (.list (.int .i64)) x1663), (1, .dat (.int .i64) x1664)], []⟩ : St) (laws_hasInt_n6 x1663 x1664) (Sum.elim (fun (t : Unit) => (Exit.normal, (⟨mkE 18 0 [], []⟩ : St))) (fun (t : Bool) => (Exit.ret, (⟨mkE 18 0 [(4, .dat .bool t)], []⟩ : St)))) := by
  unfold laws_hasInt_n6
  exact Link.cast (by kernel_rfl) (by kernel_rfl) (link_seq (b := (Code.snd (Code.fst (Code.snd (bodyOf Tryd.f21))))) (y := (Ann.snd (Ann.fst (Ann.snd laws_hasInt_an)))) (laws_hasInt_n2_l x1663 x1664) (fun (t : Unit) => (laws_hasInt_n5_l x1663 x1664)))

theorem laws_hasInt_n7_l : Link laws_hasInt_ctx LL (Code.snd (Code.snd (bodyOf Tryd.f21))) (Ann.snd (Ann.snd laws_hasInt_an)) (⟨mkE 18 0 [], []⟩ : St) (laws_hasInt_n7) (fun (t : Bool) => (Exit.ret, (⟨mkE 18 0 [(4, .dat .bool t)], []⟩ : St))) := by
  refine Link.of fun K h => ?_
  simp only [laws_hasInt_n7, wpO_bind, wpO_cond, wpO_map, wpO_some] at h
  exact Awp.of (by kernel_rfl) h

theorem laws_hasInt_n8_l (x1663 : List Int) (x1664 : Int) : Link laws_hasInt_ctx LL (Code.snd (bodyOf Tryd.f21)) (Ann.snd laws_hasInt_an) (⟨mkE 18 0 [(0, .dat (.list (.int .i64)) x1663), (1, .dat (.int .i64) x1664)], []⟩ : St) (laws_hasInt_n8 x1663 x1664) (fun (t : Bool) => (Exit.ret, (⟨mkE 18 0 [(4, .dat .bool t)], []⟩ : St))) := by
  unfold laws_hasInt_n8
  exact Link.cast (by kernel_rfl) (by kernel_rfl) (link_seq2 (b := (Code.snd (Code.snd (bodyOf Tryd.f21)))) (y := (Ann.snd (Ann.snd laws_hasInt_an))) (laws_hasInt_n6_l x1663 x1664) (fun (t : Unit) => (laws_hasInt_n7_l)) (fun (t : Bool) => t) (by
  rintro t
  · kernel_rfl) (by
  rintro t f K h
  · exact h))

theorem laws_hasInt_n9_l (x1663 : List Int) (x1664 : Int) : Link laws_hasInt_ctx LL (bodyOf Tryd.f21) laws_hasInt_an (⟨mkE 18 0 [(0, .dat (.list (.int .i64)) x1663), (1, .dat (.int .i64) x1664)], []⟩ : St) (laws_hasInt_n9 x1663 x1664) (fun (t : Bool) => (Exit.ret, (⟨mkE 18 0 [(4, .dat .bool t)], []⟩ : St))) := by
  unfold laws_hasInt_n9
  exact Link.cast (by kernel_rfl) (by kernel_rfl) (link_seq (b := (Code.snd (bodyOf Tryd.f21))) (y := (Ann.snd laws_hasInt_an)) (laws_hasInt_n1_l x1663 x1664) (fun (t : Unit) => (laws_hasInt_n8_l x1663 x1664)))

theorem laws_hasInt_e (x1663 : List Int) (x1664 : Int) {r : AV} {H' : Heap} (h : (Ans.mk _ (laws_hasInt x1663 x1664) (fun (t : Bool) => (.dat .bool t, []))).run = some (r, H')) : Awp laws_hasInt_ctx LL (bodyOf Tryd.f21) laws_hasInt_an (⟨mkE 18 0 [(0, .dat (.list (.int .i64)) x1663), (1, .dat (.int .i64) x1664)], []⟩ : St) (Ret (tlook tys) Tryd.f21.results.toList r H') :=
  ret_of' (laws_hasInt_n9_l x1663 x1664) (by unfold laws_hasInt; kernel_rfl) (by
  intro t
  exact ret_mk [.dat .bool t] (by kernel_rfl) (by kernel_rfl) (by kernel_rfl) (by kernel_rfl)) h

def F_laws_hasInt : Fun := fun avs H =>
  match avs, H with
  | [.dat (.list (.int .i64)) x1663, .dat (.int .i64) x1664], [] => ⟨_, laws_hasInt x1663 x1664, fun (t : Bool) => (.dat .bool t, [])⟩
  | _, _ => Ans.no

theorem laws_hasInt_sound : Sound Tryd.prog 21 F_laws_hasInt := by
  refine fn_sound' (C := laws_hasInt_ctx) (c := bodyOf Tryd.f21) (cok_of tys_ok (by simp) (by simp) (by kernel_rfl)) Tryd.func21 (by kernel_rfl) LL laws_hasInt_an ?_
  intro avs H r H' h
  unfold F_laws_hasInt at h
  split at h
  · refine Awp.cast ?_ ?_ ?_ (laws_hasInt_e _ _ h) <;> kernel_rfl
  · simp [Ans.no, Ans.run] at h

/-! loop.example/headtrees/laws.ascend -/

def laws_ascend_an : Ann := (.seq (.leaf [0]) (.seq (.seq (.leaf [0, 3]) (.block (.loop (.seq (.seq (.leaf [0, 3, 7]) (.cond (.leaf [0, 3]) (.leaf []))) (.seq (.block (.seq (.draw [] [0, 1, 2, 3, 4, 5, 6, 7, 8, 9] [] [0, 3, 19]) (.cond (.seq (.leaf [2]) (.leaf [2])) (.leaf [0, 3])))) (.leaf [0, 3])))))) (.seq (.leaf [2]) (.leaf [2]))))

noncomputable def laws_ascend_ctx : Ctx := ⟨tlook tys, olook [], ioF, 0⟩

theorem laws_ascend_n1_l (x1786 : List Int) : Link laws_ascend_ctx LL (Code.fst (bodyOf Tryd.f22)) (Ann.fst laws_ascend_an) (⟨mkE 20 0 [(0, .dat (.list (.int .i64)) x1786)], []⟩ : St) (laws_ascend_n1) (fun (t : Unit) => (Exit.normal, (⟨mkE 20 0 [(0, .dat (.list (.int .i64)) x1786)], []⟩ : St))) := by
  refine Link.of fun K h => ?_
  simp only [laws_ascend_n1, wpO_bind, wpO_cond, wpO_map, wpO_some] at h
  exact Awp.of (by kernel_rfl) h

theorem laws_ascend_n2_l (x1786 : List Int) : Link laws_ascend_ctx LL (Code.fst (Code.fst (Code.snd (bodyOf Tryd.f22)))) (Ann.fst (Ann.fst (Ann.snd laws_ascend_an))) (⟨mkE 20 0 [(0, .dat (.list (.int .i64)) x1786)], []⟩ : St) (laws_ascend_n2) (fun (t : Unit) => (Exit.normal, (⟨mkE 20 0 [(0, .dat (.list (.int .i64)) x1786), (3, .dat (.int .i64) 1)], []⟩ : St))) := by
  refine Link.of fun K h => ?_
  simp only [laws_ascend_n2, wpO_bind, wpO_cond, wpO_map, wpO_some] at h
  exact Awp.of (by kernel_rfl) h

theorem laws_ascend_n3_l (x1786 : List Int) (x1802 : Int) : Link laws_ascend_ctx LL (Code.fst (Code.fst (Code.snd (Code.fst (Code.snd (bodyOf Tryd.f22)))))) (Ann.fst (Ann.fst (Ann.snd (Ann.fst (Ann.snd laws_ascend_an))))) (⟨mkE 20 0 [(0, .dat (.list (.int .i64)) x1786), (3, .dat (.int .i64) x1802)], []⟩ : St) (laws_ascend_n3 x1786 x1802) (Sum.elim (fun (t : Int) => (Exit.normal, (⟨mkE 20 0 [(0, .dat (.list (.int .i64)) x1786), (3, .dat (.int .i64) t)], []⟩ : St))) (Sum.elim (fun (t : Bool) => (Exit.ret, (⟨mkE 20 0 [(2, .dat .bool t)], []⟩ : St))) (fun (t : Unit) => ((Exit.exit 0), (⟨mkE 20 0 [], []⟩ : St))))) := by
  refine Link.of fun K h => ?_
  simp only [laws_ascend_n3, wpO_bind, wpO_cond, wpO_map, wpO_some] at h
  exact Awp.of (by kernel_rfl) h

theorem laws_ascend_n4_l (x1786 : List Int) : Link laws_ascend_ctx LL (Code.fst (Code.snd (Code.fst (Code.snd (bodyOf Tryd.f22))))) (Ann.fst (Ann.snd (Ann.fst (Ann.snd laws_ascend_an)))) (⟨mkE 20 0 [(0, .dat (.list (.int .i64)) x1786), (3, .dat (.int .i64) 1)], []⟩ : St) (laws_ascend_n4 x1786) (Sum.elim (fun (t : Bool) => (Exit.ret, (⟨mkE 20 0 [(2, .dat .bool t)], []⟩ : St))) (fun (t : Unit) => ((Exit.exit 0), (⟨mkE 20 0 [], []⟩ : St)))) := by
  unfold laws_ascend_n4
  exact Link.cast (by kernel_rfl) (by kernel_rfl) (link_loop (mk := fun (s : Int) => (⟨mkE 20 0 [(0, .dat (.list (.int .i64)) x1786), (3, .dat (.int .i64) s)], []⟩ : St)) (fin := (Sum.elim (fun (t : Bool) => (Exit.ret, (⟨mkE 20 0 [(2, .dat .bool t)], []⟩ : St))) (fun (t : Unit) => ((Exit.exit 0), (⟨mkE 20 0 [], []⟩ : St))))) (by
  rintro (t | t) f K h
  · exact h
  · exact h) (fun s => link_map (laws_ascend_n3_l x1786 s) (Sum.elim (fun (t : Int) => Sum.inl t) (Sum.elim (fun (t : Bool) => Sum.inr (Sum.inl t)) (fun (t : Unit) => Sum.inr (Sum.inr t)))) (by
  rintro (t | t | t)
  · kernel_rfl
  · kernel_rfl
  · kernel_rfl)) 1)

theorem laws_ascend_n5_l (x1786 : List Int) : Link laws_ascend_ctx LL (Code.snd (Code.fst (Code.snd (bodyOf Tryd.f22)))) (Ann.snd (Ann.fst (Ann.snd laws_ascend_an))) (⟨mkE 20 0 [(0, .dat (.list (.int .i64)) x1786), (3, .dat (.int .i64) 1)], []⟩ : St) (laws_ascend_n5 x1786) (Sum.elim (fun (t : Unit) => (Exit.normal, (⟨mkE 20 0 [], []⟩ : St))) (fun (t : Bool) => (Exit.ret, (⟨mkE 20 0 [(2, .dat .bool t)], []⟩ : St)))) := by
  unfold laws_ascend_n5
  exact Link.cast (by kernel_rfl) (by kernel_rfl) (link_block (id := 0) (laws_ascend_n4_l x1786) (Sum.elim (fun (t : Bool) => (Sum.inr t)) (fun (t : Unit) => (Sum.inl ()))) (by
  rintro (t | t) K h
  · exact Eq.mp (by kernel_rfl) h
  · exact Eq.mp (by kernel_rfl) h))

theorem laws_ascend_n6_l (x1786 : List Int) : Link laws_ascend_ctx LL (Code.fst (Code.snd (bodyOf Tryd.f22))) (Ann.fst (Ann.snd laws_ascend_an)) (⟨mkE 20 0 [(0, .dat (.list (.int .i64)) x1786)], []⟩ : St) (laws_ascend_n6 x1786) (Sum.elim (fun (t : Unit) => (Exit.normal, (⟨mkE 20 0 [], []⟩ : St))) (fun (t : Bool) => (Exit.ret, (⟨mkE 20 0 [(2, .dat .bool t)], []⟩ : St)))) := by
  unfold laws_ascend_n6
  exact Link.cast (by kernel_rfl) (by kernel_rfl) (link_seq (b := (Code.snd (Code.fst (Code.snd (bodyOf Tryd.f22))))) (y := (Ann.snd (Ann.fst (Ann.snd laws_ascend_an)))) (laws_ascend_n2_l x1786) (fun (t : Unit) => (laws_ascend_n5_l x1786)))

theorem laws_ascend_n7_l : Link laws_ascend_ctx LL (Code.snd (Code.snd (bodyOf Tryd.f22))) (Ann.snd (Ann.snd laws_ascend_an)) (⟨mkE 20 0 [], []⟩ : St) (laws_ascend_n7) (fun (t : Bool) => (Exit.ret, (⟨mkE 20 0 [(2, .dat .bool t)], []⟩ : St))) := by
  refine Link.of fun K h => ?_
  simp only [laws_ascend_n7, wpO_bind, wpO_cond, wpO_map, wpO_some] at h
  exact Awp.of (by kernel_rfl) h

theorem laws_ascend_n8_l (x1786 : List Int) : Link laws_ascend_ctx LL (Code.snd (bodyOf Tryd.f22)) (Ann.snd laws_ascend_an) (⟨mkE 20 0 [(0, .dat (.list (.int .i64)) x1786)], []⟩ : St) (laws_ascend_n8 x1786) (fun (t : Bool) => (Exit.ret, (⟨mkE 20 0 [(2, .dat .bool t)], []⟩ : St))) := by
  unfold laws_ascend_n8
  exact Link.cast (by kernel_rfl) (by kernel_rfl) (link_seq2 (b := (Code.snd (Code.snd (bodyOf Tryd.f22)))) (y := (Ann.snd (Ann.snd laws_ascend_an))) (laws_ascend_n6_l x1786) (fun (t : Unit) => (laws_ascend_n7_l)) (fun (t : Bool) => t) (by
  rintro t
  · kernel_rfl) (by
  rintro t f K h
  · exact h))

theorem laws_ascend_n9_l (x1786 : List Int) : Link laws_ascend_ctx LL (bodyOf Tryd.f22) laws_ascend_an (⟨mkE 20 0 [(0, .dat (.list (.int .i64)) x1786)], []⟩ : St) (laws_ascend_n9 x1786) (fun (t : Bool) => (Exit.ret, (⟨mkE 20 0 [(2, .dat .bool t)], []⟩ : St))) := by
  unfold laws_ascend_n9
  exact Link.cast (by kernel_rfl) (by kernel_rfl) (link_seq (b := (Code.snd (bodyOf Tryd.f22))) (y := (Ann.snd laws_ascend_an)) (laws_ascend_n1_l x1786) (fun (t : Unit) => (laws_ascend_n8_l x1786)))

theorem laws_ascend_e (x1786 : List Int) {r : AV} {H' : Heap} (h : (Ans.mk _ (laws_ascend x1786) (fun (t : Bool) => (.dat .bool t, []))).run = some (r, H')) : Awp laws_ascend_ctx LL (bodyOf Tryd.f22) laws_ascend_an (⟨mkE 20 0 [(0, .dat (.list (.int .i64)) x1786)], []⟩ : St) (Ret (tlook tys) Tryd.f22.results.toList r H') :=
  ret_of' (laws_ascend_n9_l x1786) (by unfold laws_ascend; kernel_rfl) (by
  intro t
  exact ret_mk [.dat .bool t] (by kernel_rfl) (by kernel_rfl) (by kernel_rfl) (by kernel_rfl)) h

def F_laws_ascend : Fun := fun avs H =>
  match avs, H with
  | [.dat (.list (.int .i64)) x1786], [] => ⟨_, laws_ascend x1786, fun (t : Bool) => (.dat .bool t, [])⟩
  | _, _ => Ans.no

theorem laws_ascend_sound : Sound Tryd.prog 22 F_laws_ascend := by
  refine fn_sound' (C := laws_ascend_ctx) (c := bodyOf Tryd.f22) (cok_of tys_ok (by simp) (by simp) (by kernel_rfl)) Tryd.func22 (by kernel_rfl) LL laws_ascend_an ?_
  intro avs H r H' h
  unfold F_laws_ascend at h
  split at h
  · refine Awp.cast ?_ ?_ ?_ (laws_ascend_e _ h) <;> kernel_rfl
  · simp [Ans.no, Ans.run] at h

/-! loop.example/headtrees/laws.FnYieldOf -/

def laws_FnYieldOf_an : Ann := (.seq (.leaf [0]) (.seq (.seq (.leaf [0, 12]) (.cond (.seq (.leaf [2]) (.leaf [2])) (.leaf [0]))) (.seq (.leaf [3, 4]) (.seq (.leaf [3, 4, 5]) (.seq (.seq (.leaf [3, 4, 5, 26]) (.cond (.seq (.leaf [2]) (.leaf [2])) (.leaf [3, 4, 5]))) (.seq (.seq (.leaf [3, 4, 5, 29]) (.cond (.seq (.leaf [2]) (.leaf [2])) (.leaf [3, 4, 5]))) (.seq (.seq (.leaf [3, 4, 5, 6]) (.block (.loop (.seq (.seq (.leaf [3, 4, 5, 6, 34]) (.cond (.leaf [3, 4, 5, 6]) (.leaf [3, 4, 5]))) (.seq (.block (.seq (.leaf [3, 4, 5, 6, 7]) (.seq (.leaf [3, 4, 5, 6, 7, 8]) (.seq (.seq (.leaf [3, 4, 5, 6, 7, 8, 9]) (.block (.loop (.seq (.seq (.leaf [3, 4, 5, 6, 7, 8, 9, 43]) (.cond (.leaf [3, 4, 5, 6, 7, 8, 9]) (.leaf [3, 4, 5, 6, 7, 8]))) (.seq (.block (.seq (.leaf [3, 4, 5, 6, 7, 8, 9, 51]) (.cond (.leaf [3, 4, 5, 6, 7, 8, 9]) (.leaf [3, 4, 5, 6, 7, 8, 9])))) (.leaf [3, 4, 5, 6, 7, 8, 9])))))) (.seq (.leaf [3, 4, 5, 6, 67]) (.cond (.seq (.leaf [2]) (.leaf [2])) (.leaf [3, 4, 5, 6]))))))) (.leaf [3, 4, 5, 6])))))) (.seq (.leaf [2]) (.leaf [2])))))))))

noncomputable def laws_FnYieldOf_ctx : Ctx := ⟨tlook tys, olook [(16, F_spec_DrawYieldOf), (17, F_impl_YieldOf), (19, F_spec_YieldOf), (18, F_laws_sameInts), (20, F_laws_alive), (21, F_laws_hasInt), (22, F_laws_ascend), (23, F_impl_RootOf)], ioF, 0⟩

theorem laws_FnYieldOf_n1_l (x2 : List Int) : Link laws_FnYieldOf_ctx LL (Code.seq (Code.fst (bodyOf Tryd.f3)) (Code.seq (Code.fst (Code.snd (bodyOf Tryd.f3))) (Code.seq (Code.fst (Code.snd (Code.snd (bodyOf Tryd.f3)))) (Code.seq (Code.fst (Code.snd (Code.snd (Code.snd (bodyOf Tryd.f3))))) (Code.seq (Code.fst (Code.snd (Code.snd (Code.snd (Code.snd (bodyOf Tryd.f3)))))) (Code.fst (Code.snd (Code.snd (Code.snd (Code.snd (Code.snd (bodyOf Tryd.f3)))))))))))) (Ann.seq (Ann.fst laws_FnYieldOf_an) (Ann.seq (Ann.fst (Ann.snd laws_FnYieldOf_an)) (Ann.seq (Ann.fst (Ann.snd (Ann.snd laws_FnYieldOf_an))) (Ann.seq (Ann.fst (Ann.snd (Ann.snd (Ann.snd laws_FnYieldOf_an)))) (Ann.seq (Ann.fst (Ann.snd (Ann.snd (Ann.snd (Ann.snd laws_FnYieldOf_an))))) (Ann.fst (Ann.snd (Ann.snd (Ann.snd (Ann.snd (Ann.snd laws_FnYieldOf_an))))))))))) (⟨mkE 87 0 [(0, .dat (.list (.int .u8)) x2)], []⟩ : St) (laws_FnYieldOf_n1 x2) (Sum.elim (fun (t : Int × (List Int) × (List Int)) => (Exit.normal, (⟨mkE 87 0 [(3, .slc 0), (4, .dat (.int .i64) t.1), (5, .slc 1)], [some (.seq (.int .i64) t.2.1), some (.seq (.int .i64) t.2.2)]⟩ : St))) (fun (t : Bool) => (Exit.ret, (⟨mkE 87 0 [(2, .dat .bool t)], []⟩ : St)))) := by
  refine Link.of fun K h => ?_
  simp only [laws_FnYieldOf_n1, wpO_bind, wpO_cond, wpO_map, wpO_some] at h
  exact Awp.of (by kernel_rfl) h

theorem laws_FnYieldOf_n2_l (x1633 : Int) (x1634 : List Int) (x1635 : List Int) : Link laws_FnYieldOf_ctx LL (Code.fst (Code.fst (Code.snd (Code.snd (Code.snd (Code.snd (Code.snd (Code.snd (bodyOf Tryd.f3))))))))) (Ann.fst (Ann.fst (Ann.snd (Ann.snd (Ann.snd (Ann.snd (Ann.snd (Ann.snd laws_FnYieldOf_an)))))))) (⟨mkE 87 0 [(3, .slc 0), (4, .dat (.int .i64) x1633), (5, .slc 1)], [some (.seq (.int .i64) x1634), some (.seq (.int .i64) x1635)]⟩ : St) (laws_FnYieldOf_n2) (fun (t : Unit) => (Exit.normal, (⟨mkE 87 0 [(3, .slc 0), (4, .dat (.int .i64) x1633), (5, .slc 1), (6, .dat (.int .i64) 1)], [some (.seq (.int .i64) x1634), some (.seq (.int .i64) x1635)]⟩ : St))) := by
  refine Link.of fun K h => ?_
  simp only [laws_FnYieldOf_n2, wpO_bind, wpO_cond, wpO_map, wpO_some] at h
  exact Awp.of (by kernel_rfl) h

theorem laws_FnYieldOf_n3_l (x1633 : Int) (x1732 : Int) (x1634 : List Int) (x1635 : List Int) : Link laws_FnYieldOf_ctx LL (Code.fst (Code.fst (Code.fst (Code.snd (Code.fst (Code.snd (Code.snd (Code.snd (Code.snd (Code.snd (Code.snd (bodyOf Tryd.f3)))))))))))) (Ann.fst (Ann.fst (Ann.fst (Ann.snd (Ann.fst (Ann.snd (Ann.snd (Ann.snd (Ann.snd (Ann.snd (Ann.snd laws_FnYieldOf_an))))))))))) (⟨mkE 87 0 [(3, .slc 0), (4, .dat (.int .i64) x1633), (5, .slc 1), (6, .dat (.int .i64) x1732)], [some (.seq (.int .i64) x1634), some (.seq (.int .i64) x1635)]⟩ : St) (laws_FnYieldOf_n3 x1732 x1634) (Sum.elim (fun (t : Unit) => (Exit.normal, (⟨mkE 87 0 [(3, .slc 0), (4, .dat (.int .i64) x1633), (5, .slc 1), (6, .dat (.int .i64) x1732)], [some (.seq (.int .i64) x1634), some (.seq (.int .i64) x1635)]⟩ : St))) (fun (t : Unit) => ((Exit.exit 0), (⟨mkE 87 0 [(3, .slc 0), (4, .dat (.int .i64) x1633), (5, .slc 1)], [some (.seq (.int .i64) x1634), some (.seq (.int .i64) x1635)]⟩ : St)))) := by
  refine Link.of fun K h => ?_
  simp only [laws_FnYieldOf_n3, wpO_bind, wpO_cond, wpO_map, wpO_some] at h
  exact Awp.of (by kernel_rfl) h

theorem laws_FnYieldOf_n4_l (x1633 : Int) (x1732 : Int) (x1634 : List Int) (x1635 : List Int) : Link laws_FnYieldOf_ctx LL (Code.seq (Code.fst (Code.fst (Code.fst (Code.snd (Code.fst (Code.fst (Code.snd (Code.fst (Code.snd (Code.snd (Code.snd (Code.snd (Code.snd (Code.snd (bodyOf Tryd.f3))))))))))))))) (Code.fst (Code.snd (Code.fst (Code.fst (Code.snd (Code.fst (Code.fst (Code.snd (Code.fst (Code.snd (Code.snd (Code.snd (Code.snd (Code.snd (Code.snd (bodyOf Tryd.f3))))))))))))))))) (Ann.seq (Ann.fst (Ann.fst (Ann.fst (Ann.snd (Ann.fst (Ann.fst (Ann.snd (Ann.fst (Ann.snd (Ann.snd (Ann.snd (Ann.snd (Ann.snd (Ann.snd laws_FnYieldOf_an)))))))))))))) (Ann.fst (Ann.snd (Ann.fst (Ann.fst (Ann.snd (Ann.fst (Ann.fst (Ann.snd (Ann.fst (Ann.snd (Ann.snd (Ann.snd (Ann.snd (Ann.snd (Ann.snd laws_FnYieldOf_an)))))))))))))))) (⟨mkE 87 0 [(3, .slc 0), (4, .dat (.int .i64) x1633), (5, .slc 1), (6, .dat (.int .i64) x1732)], [some (.seq (.int .i64) x1634), some (.seq (.int .i64) x1635)]⟩ : St) (laws_FnYieldOf_n4 x1732 x1634) (fun (t : (List Int)) => (Exit.normal, (⟨mkE 87 0 [(3, .slc 0), (4, .dat (.int .i64) x1633), (5, .slc 1), (6, .dat (.int .i64) x1732), (7, .slc 2), (8, .dat (.int .i64) 0)], [some (.seq (.int .i64) x1634), some (.seq (.int .i64) x1635), some (.seq (.int .i64) t)]⟩ : St))) := by
  refine Link.of fun K h => ?_
  simp only [laws_FnYieldOf_n4, wpO_bind, wpO_cond, wpO_map, wpO_some] at h
  exact Awp.of (by kernel_rfl) h

theorem laws_FnYieldOf_n5_l (x1633 : Int) (x1732 : Int) (x1634 : List Int) (x1635 : List Int) (x1736 : List Int) : Link laws_FnYieldOf_ctx LL (Code.fst (Code.fst (Code.snd (Code.snd (Code.fst (Code.fst (Code.snd (Code.fst (Code.fst (Code.snd (Code.fst (Code.snd (Code.snd (Code.snd (Code.snd (Code.snd (Code.snd (bodyOf Tryd.f3)))))))))))))))))) (Ann.fst (Ann.fst (Ann.snd (Ann.snd (Ann.fst (Ann.fst (Ann.snd (Ann.fst (Ann.fst (Ann.snd (Ann.fst (Ann.snd (Ann.snd (Ann.snd (Ann.snd (Ann.snd (Ann.snd laws_FnYieldOf_an))))))))))))))))) (⟨mkE 87 0 [(3, .slc 0), (4, .dat (.int .i64) x1633), (5, .slc 1), (6, .dat (.int .i64) x1732), (7, .slc 2), (8, .dat (.int .i64) 0)], [some (.seq (.int .i64) x1634), some (.seq (.int .i64) x1635), some (.seq (.int .i64) x1736)]⟩ : St) (laws_FnYieldOf_n5) (fun (t : Unit) => (Exit.normal, (⟨mkE 87 0 [(3, .slc 0), (4, .dat (.int .i64) x1633), (5, .slc 1), (6, .dat (.int .i64) x1732), (7, .slc 2), (8, .dat (.int .i64) 0), (9, .dat (.int .i64) 0)], [some (.seq (.int .i64) x1634), some (.seq (.int .i64) x1635), some (.seq (.int .i64) x1736)]⟩ : St))) := by
  refine Link.of fun K h => ?_
  simp only [laws_FnYieldOf_n5, wpO_bind, wpO_cond, wpO_map, wpO_some] at h
  exact Awp.of (by kernel_rfl) h

theorem laws_FnYieldOf_n6_l (x1633 : Int) (x1732 : Int) (x1755 : Int) (x1756 : Int) (x1634 : List Int) (x1635 : List Int) (x1736 : List Int) : Link laws_FnYieldOf_ctx LL (Code.fst (Code.fst (Code.snd (Code.fst (Code.snd (Code.snd (Code.fst (Code.fst (Code.snd (Code.fst (Code.fst (Code.snd (Code.fst (Code.snd (Code.snd (Code.snd (Code.snd (Code.snd (Code.snd (bodyOf Tryd.f3)))))))))))))))))))) (Ann.fst (Ann.fst (Ann.snd (Ann.fst (Ann.snd (Ann.snd (Ann.fst (Ann.fst (Ann.snd (Ann.fst (Ann.fst (Ann.snd (Ann.fst (Ann.snd (Ann.snd (Ann.snd (Ann.snd (Ann.snd (Ann.snd laws_FnYieldOf_an))))))))))))))))))) (⟨mkE 87 0 [(3, .slc 0), (4, .dat (.int .i64) x1633), (5, .slc 1), (6, .dat (.int .i64) x1732), (7, .slc 2), (8, .dat (.int .i64) x1755), (9, .dat (.int .i64) x1756)], [some (.seq (.int .i64) x1634), some (.seq (.int .i64) x1635), some (.seq (.int .i64) x1736)]⟩ : St) (laws_FnYieldOf_n6 x1755 x1756 x1635 x1736) (Sum.elim (fun (t : Int × Int) => (Exit.normal, (⟨mkE 87 0 [(3, .slc 0), (4, .dat (.int .i64) x1633), (5, .slc 1), (6, .dat (.int .i64) x1732), (7, .slc 2), (8, .dat (.int .i64) t.1), (9, .dat (.int .i64) t.2)], [some (.seq (.int .i64) x1634), some (.seq (.int .i64) x1635), some (.seq (.int .i64) x1736)]⟩ : St))) (fun (t : Int) => ((Exit.exit 2), (⟨mkE 87 0 [(3, .slc 0), (4, .dat (.int .i64) x1633), (5, .slc 1), (6, .dat (.int .i64) x1732), (7, .slc 2), (8, .dat (.int .i64) t)], [some (.seq (.int .i64) x1634), some (.seq (.int .i64) x1635), some (.seq (.int .i64) x1736)]⟩ : St)))) := by
  refine Link.of fun K h => ?_
  simp only [laws_FnYieldOf_n6, wpO_bind, wpO_cond, wpO_map, wpO_some] at h
  exact Awp.of (by kernel_rfl) h

theorem laws_FnYieldOf_n7_l (x1633 : Int) (x1732 : Int) (x1634 : List Int) (x1635 : List Int) (x1736 : List Int) : Link laws_FnYieldOf_ctx LL (Code.fst (Code.snd (Code.fst (Code.snd (Code.snd (Code.fst (Code.fst (Code.snd (Code.fst (Code.fst (Code.snd (Code.fst (Code.snd (Code.snd (Code.snd (Code.snd (Code.snd (Code.snd (bodyOf Tryd.f3))))))))))))))))))) (Ann.fst (Ann.snd (Ann.fst (Ann.snd (Ann.snd (Ann.fst (Ann.fst (Ann.snd (Ann.fst (Ann.fst (Ann.snd (Ann.fst (Ann.snd (Ann.snd (Ann.snd (Ann.snd (Ann.snd (Ann.snd laws_FnYieldOf_an)))))))))))))))))) (⟨mkE 87 0 [(3, .slc 0), (4, .dat (.int .i64) x1633), (5, .slc 1), (6, .dat (.int .i64) x1732), (7, .slc 2), (8, .dat (.int .i64) 0), (9, .dat (.int .i64) 0)], [some (.seq (.int .i64) x1634), some (.seq (.int .i64) x1635), some (.seq (.int .i64) x1736)]⟩ : St) (laws_FnYieldOf_n7 x1635 x1736) (fun (t : Int) => ((Exit.exit 2), (⟨mkE 87 0 [(3, .slc 0), (4, .dat (.int .i64) x1633), (5, .slc 1), (6, .dat (.int .i64) x1732), (7, .slc 2), (8, .dat (.int .i64) t)], [some (.seq (.int .i64) x1634), some (.seq (.int .i64) x1635), some (.seq (.int .i64) x1736)]⟩ : St))) := by
  unfold laws_FnYieldOf_n7
  exact Link.cast (by kernel_rfl) (by kernel_rfl) (link_loop (mk := fun (s : Int × Int) => (⟨mkE 87 0 [(3, .slc 0), (4, .dat (.int .i64) x1633), (5, .slc 1), (6, .dat (.int .i64) x1732), (7, .slc 2), (8, .dat (.int .i64) s.1), (9, .dat (.int .i64) s.2)], [some (.seq (.int .i64) x1634), some (.seq (.int .i64) x1635), some (.seq (.int .i64) x1736)]⟩ : St)) (fin := (fun (t : Int) => ((Exit.exit 2), (⟨mkE 87 0 [(3, .slc 0), (4, .dat (.int .i64) x1633), (5, .slc 1), (6, .dat (.int .i64) x1732), (7, .slc 2), (8, .dat (.int .i64) t)], [some (.seq (.int .i64) x1634), some (.seq (.int .i64) x1635), some (.seq (.int .i64) x1736)]⟩ : St)))) (by
  rintro t f K h
  · exact h) (fun s => link_map (laws_FnYieldOf_n6_l x1633 x1732 s.1 s.2 x1634 x1635 x1736) (Sum.elim (fun (t : Int × Int) => Sum.inl (t.1, t.2)) (fun (t : Int) => Sum.inr t)) (by
  rintro (t | t)
  · kernel_rfl
  · kernel_rfl)) (0, 0))

theorem laws_FnYieldOf_n8_l (x1633 : Int) (x1732 : Int) (x1634 : List Int) (x1635 : List Int) (x1736 : List Int) : Link laws_FnYieldOf_ctx LL (Code.snd (Code.fst (Code.snd (Code.snd (Code.fst (Code.fst (Code.snd (Code.fst (Code.fst (Code.snd (Code.fst (Code.snd (Code.snd (Code.snd (Code.snd (Code.snd (Code.snd (bodyOf Tryd.f3)))))))))))))))))) (Ann.snd (Ann.fst (Ann.snd (Ann.snd (Ann.fst (Ann.fst (Ann.snd (Ann.fst (Ann.fst (Ann.snd (Ann.fst (Ann.snd (Ann.snd (Ann.snd (Ann.snd (Ann.snd (Ann.snd laws_FnYieldOf_an))))))))))))))))) (⟨mkE 87 0 [(3, .slc 0), (4, .dat (.int .i64) x1633), (5, .slc 1), (6, .dat (.int .i64) x1732), (7, .slc 2), (8, .dat (.int .i64) 0), (9, .dat (.int .i64) 0)], [some (.seq (.int .i64) x1634), some (.seq (.int .i64) x1635), some (.seq (.int .i64) x1736)]⟩ : St) (laws_FnYieldOf_n8 x1635 x1736) (fun (t : Int) => (Exit.normal, (⟨mkE 87 0 [(3, .slc 0), (4, .dat (.int .i64) x1633), (5, .slc 1), (6, .dat (.int .i64) x1732), (7, .slc 2), (8, .dat (.int .i64) t)], [some (.seq (.int .i64) x1634), some (.seq (.int .i64) x1635), some (.seq (.int .i64) x1736)]⟩ : St))) := by
  unfold laws_FnYieldOf_n8
  exact Link.cast (by kernel_rfl) (by kernel_rfl) (link_block (id := 2) (laws_FnYieldOf_n7_l x1633 x1732 x1634 x1635 x1736) (fun (t : Int) => t) (by
  rintro t K h
  · exact Eq.mp (by kernel_rfl) h))

theorem laws_FnYieldOf_n9_l (x1633 : Int) (x1732 : Int) (x1634 : List Int) (x1635 : List Int) (x1736 : List Int) : Link laws_FnYieldOf_ctx LL (Code.fst (Code.snd (Code.snd (Code.fst (Code.fst (Code.snd (Code.fst (Code.fst (Code.snd (Code.fst (Code.snd (Code.snd (Code.snd (Code.snd (Code.snd (Code.snd (bodyOf Tryd.f3))))))))))))))))) (Ann.fst (Ann.snd (Ann.snd (Ann.fst (Ann.fst (Ann.snd (Ann.fst (Ann.fst (Ann.snd (Ann.fst (Ann.snd (Ann.snd (Ann.snd (Ann.snd (Ann.snd (Ann.snd laws_FnYieldOf_an)))))))))))))))) (⟨mkE 87 0 [(3, .slc 0), (4, .dat (.int .i64) x1633), (5, .slc 1), (6, .dat (.int .i64) x1732), (7, .slc 2), (8, .dat (.int .i64) 0)], [some (.seq (.int .i64) x1634), some (.seq (.int .i64) x1635), some (.seq (.int .i64) x1736)]⟩ : St) (laws_FnYieldOf_n9 x1635 x1736) (fun (t : Int) => (Exit.normal, (⟨mkE 87 0 [(3, .slc 0), (4, .dat (.int .i64) x1633), (5, .slc 1), (6, .dat (.int .i64) x1732), (7, .slc 2), (8, .dat (.int .i64) t)], [some (.seq (.int .i64) x1634), some (.seq (.int .i64) x1635), some (.seq (.int .i64) x1736)]⟩ : St))) := by
  unfold laws_FnYieldOf_n9
  exact Link.cast (by kernel_rfl) (by kernel_rfl) (link_seq (b := (Code.snd (Code.fst (Code.snd (Code.snd (Code.fst (Code.fst (Code.snd (Code.fst (Code.fst (Code.snd (Code.fst (Code.snd (Code.snd (Code.snd (Code.snd (Code.snd (Code.snd (bodyOf Tryd.f3))))))))))))))))))) (y := (Ann.snd (Ann.fst (Ann.snd (Ann.snd (Ann.fst (Ann.fst (Ann.snd (Ann.fst (Ann.fst (Ann.snd (Ann.fst (Ann.snd (Ann.snd (Ann.snd (Ann.snd (Ann.snd (Ann.snd laws_FnYieldOf_an)))))))))))))))))) (laws_FnYieldOf_n5_l x1633 x1732 x1634 x1635 x1736) (fun (t : Unit) => (laws_FnYieldOf_n8_l x1633 x1732 x1634 x1635 x1736)))

theorem laws_FnYieldOf_n10_l (x1633 : Int) (x1732 : Int) (x1755 : Int) (x1634 : List Int) (x1635 : List Int) (x1736 : List Int) : Link laws_FnYieldOf_ctx LL (Code.snd (Code.snd (Code.snd (Code.fst (Code.fst (Code.snd (Code.fst (Code.fst (Code.snd (Code.fst (Code.snd (Code.snd (Code.snd (Code.snd (Code.snd (Code.snd (bodyOf Tryd.f3))))))))))))))))) (Ann.snd (Ann.snd (Ann.snd (Ann.fst (Ann.fst (Ann.snd (Ann.fst (Ann.fst (Ann.snd (Ann.fst (Ann.snd (Ann.snd (Ann.snd (Ann.snd (Ann.snd (Ann.snd laws_FnYieldOf_an)))))))))))))))) (⟨mkE 87 0 [(3, .slc 0), (4, .dat (.int .i64) x1633), (5, .slc 1), (6, .dat (.int .i64) x1732), (7, .slc 2), (8, .dat (.int .i64) x1755)], [some (.seq (.int .i64) x1634), some (.seq (.int .i64) x1635), some (.seq (.int .i64) x1736)]⟩ : St) (laws_FnYieldOf_n10 x1755 x1635 x1736) (Sum.elim (fun (t : Unit) => (Exit.normal, (⟨mkE 87 0 [(3, .slc 0), (4, .dat (.int .i64) x1633), (5, .slc 1), (6, .dat (.int .i64) x1732)], [some (.seq (.int .i64) x1634), some (.seq (.int .i64) x1635)]⟩ : St))) (fun (t : Bool) => (Exit.ret, (⟨mkE 87 0 [(2, .dat .bool t)], []⟩ : St)))) := by
  refine Link.of fun K h => ?_
  simp only [laws_FnYieldOf_n10, wpO_bind, wpO_cond, wpO_map, wpO_some] at h
  exact Awp.of (by kernel_rfl) h

theorem laws_FnYieldOf_n11_l (x1633 : Int) (x1732 : Int) (x1634 : List Int) (x1635 : List Int) (x1736 : List Int) : Link laws_FnYieldOf_ctx LL (Code.snd (Code.snd (Code.fst (Code.fst (Code.snd (Code.fst (Code.fst (Code.snd (Code.fst (Code.snd (Code.snd (Code.snd (Code.snd (Code.snd (Code.snd (bodyOf Tryd.f3)))))))))))))))) (Ann.snd (Ann.snd (Ann.fst (Ann.fst (Ann.snd (Ann.fst (Ann.fst (Ann.snd (Ann.fst (Ann.snd (Ann.snd (Ann.snd (Ann.snd (Ann.snd (Ann.snd laws_FnYieldOf_an))))))))))))))) (⟨mkE 87 0 [(3, .slc 0), (4, .dat (.int .i64) x1633), (5, .slc 1), (6, .dat (.int .i64) x1732), (7, .slc 2), (8, .dat (.int .i64) 0)], [some (.seq (.int .i64) x1634), some (.seq (.int .i64) x1635), some (.seq (.int .i64) x1736)]⟩ : St) (laws_FnYieldOf_n11 x1635 x1736) (Sum.elim (fun (t : Unit) => (Exit.normal, (⟨mkE 87 0 [(3, .slc 0), (4, .dat (.int .i64) x1633), (5, .slc 1), (6, .dat (.int .i64) x1732)], [some (.seq (.int .i64) x1634), some (.seq (.int .i64) x1635)]⟩ : St))) (fun (t : Bool) => (Exit.ret, (⟨mkE 87 0 [(2, .dat .bool t)], []⟩ : St)))) := by
  unfold laws_FnYieldOf_n11
  exact Link.cast (by kernel_rfl) (by kernel_rfl) (link_seq (b := (Code.snd (Code.snd (Code.snd (Code.fst (Code.fst (Code.snd (Code.fst (Code.fst (Code.snd (Code.fst (Code.snd (Code.snd (Code.snd (Code.snd (Code.snd (Code.snd (bodyOf Tryd.f3)))))))))))))))))) (y := (Ann.snd (Ann.snd (Ann.snd (Ann.fst (Ann.fst (Ann.snd (Ann.fst (Ann.fst (Ann.snd (Ann.fst (Ann.snd (Ann.snd (Ann.snd (Ann.snd (Ann.snd (Ann.snd laws_FnYieldOf_an))))))))))))))))) (laws_FnYieldOf_n9_l x1633 x1732 x1634 x1635 x1736) (fun (t : Int) => (laws_FnYieldOf_n10_l x1633 x1732 t x1634 x1635 x1736)))

theorem laws_FnYieldOf_n12_l (x1633 : Int) (x1732 : Int) (x1634 : List Int) (x1635 : List Int) : Link laws_FnYieldOf_ctx LL (Code.fst (Code.fst (Code.snd (Code.fst (Code.fst (Code.snd (Code.fst (Code.snd (Code.snd (Code.snd (Code.snd (Code.snd (Code.snd (bodyOf Tryd.f3)))))))))))))) (Ann.fst (Ann.fst (Ann.snd (Ann.fst (Ann.fst (Ann.snd (Ann.fst (Ann.snd (Ann.snd (Ann.snd (Ann.snd (Ann.snd (Ann.snd laws_FnYieldOf_an))))))))))))) (⟨mkE 87 0 [(3, .slc 0), (4, .dat (.int .i64) x1633), (5, .slc 1), (6, .dat (.int .i64) x1732)], [some (.seq (.int .i64) x1634), some (.seq (.int .i64) x1635)]⟩ : St) (laws_FnYieldOf_n12 x1732 x1634 x1635) (Sum.elim (fun (t : Unit) => (Exit.normal, (⟨mkE 87 0 [(3, .slc 0), (4, .dat (.int .i64) x1633), (5, .slc 1), (6, .dat (.int .i64) x1732)], [some (.seq (.int .i64) x1634), some (.seq (.int .i64) x1635)]⟩ : St))) (fun (t : Bool) => (Exit.ret, (⟨mkE 87 0 [(2, .dat .bool t)], []⟩ : St)))) := by
  unfold laws_FnYieldOf_n12
  exact Link.cast (by kernel_rfl) (by kernel_rfl) (link_group (c := (Code.fst (Code.snd (Code.fst (Code.fst (Code.snd (Code.fst (Code.fst (Code.snd (Code.fst (Code.snd (Code.snd (Code.snd (Code.snd (Code.snd (Code.snd (bodyOf Tryd.f3))))))))))))))))) (a := (Ann.fst (Ann.snd (Ann.fst (Ann.fst (Ann.snd (Ann.fst (Ann.fst (Ann.snd (Ann.fst (Ann.snd (Ann.snd (Ann.snd (Ann.snd (Ann.snd (Ann.snd laws_FnYieldOf_an)))))))))))))))) [(Code.fst (Code.fst (Code.fst (Code.snd (Code.fst (Code.fst (Code.snd (Code.fst (Code.snd (Code.snd (Code.snd (Code.snd (Code.snd (Code.snd (bodyOf Tryd.f3)))))))))))))))] [(Ann.fst (Ann.fst (Ann.fst (Ann.snd (Ann.fst (Ann.fst (Ann.snd (Ann.fst (Ann.snd (Ann.snd (Ann.snd (Ann.snd (Ann.snd (Ann.snd laws_FnYieldOf_an))))))))))))))] rfl (link_seq (b := (Code.snd (Code.snd (Code.fst (Code.fst (Code.snd (Code.fst (Code.fst (Code.snd (Code.fst (Code.snd (Code.snd (Code.snd (Code.snd (Code.snd (Code.snd (bodyOf Tryd.f3))))))))))))))))) (y := (Ann.snd (Ann.snd (Ann.fst (Ann.fst (Ann.snd (Ann.fst (Ann.fst (Ann.snd (Ann.fst (Ann.snd (Ann.snd (Ann.snd (Ann.snd (Ann.snd (Ann.snd laws_FnYieldOf_an)))))))))))))))) (laws_FnYieldOf_n4_l x1633 x1732 x1634 x1635) (fun (t : (List Int)) => (laws_FnYieldOf_n11_l x1633 x1732 x1634 x1635 t))))

theorem laws_FnYieldOf_n13_l (x1633 : Int) (x1732 : Int) (x1634 : List Int) (x1635 : List Int) : Link laws_FnYieldOf_ctx LL (Code.fst (Code.snd (Code.fst (Code.fst (Code.snd (Code.fst (Code.snd (Code.snd (Code.snd (Code.snd (Code.snd (Code.snd (bodyOf Tryd.f3))))))))))))) (Ann.fst (Ann.snd (Ann.fst (Ann.fst (Ann.snd (Ann.fst (Ann.snd (Ann.snd (Ann.snd (Ann.snd (Ann.snd (Ann.snd laws_FnYieldOf_an)))))))))))) (⟨mkE 87 0 [(3, .slc 0), (4, .dat (.int .i64) x1633), (5, .slc 1), (6, .dat (.int .i64) x1732)], [some (.seq (.int .i64) x1634), some (.seq (.int .i64) x1635)]⟩ : St) (laws_FnYieldOf_n13 x1732 x1634 x1635) (Sum.elim (fun (t : Unit) => (Exit.normal, (⟨mkE 87 0 [(3, .slc 0), (4, .dat (.int .i64) x1633), (5, .slc 1), (6, .dat (.int .i64) x1732)], [some (.seq (.int .i64) x1634), some (.seq (.int .i64) x1635)]⟩ : St))) (fun (t : Bool) => (Exit.ret, (⟨mkE 87 0 [(2, .dat .bool t)], []⟩ : St)))) := by
  unfold laws_FnYieldOf_n13
  exact Link.cast (by kernel_rfl) (by kernel_rfl) (link_block (id := 1) (laws_FnYieldOf_n12_l x1633 x1732 x1634 x1635) (Sum.elim (fun (t : Unit) => (Sum.inl ())) (fun (t : Bool) => (Sum.inr t))) (by
  rintro (t | t) K h
  · exact Eq.mp (by kernel_rfl) h
  · exact Eq.mp (by kernel_rfl) h))

theorem laws_FnYieldOf_n14_l (x1633 : Int) (x1732 : Int) (x1634 : List Int) (x1635 : List Int) : Link laws_FnYieldOf_ctx LL (Code.snd (Code.snd (Code.fst (Code.fst (Code.snd (Code.fst (Code.snd (Code.snd (Code.snd (Code.snd (Code.snd (Code.snd (bodyOf Tryd.f3))))))))))))) (Ann.snd (Ann.snd (Ann.fst (Ann.fst (Ann.snd (Ann.fst (Ann.snd (Ann.snd (Ann.snd (Ann.snd (Ann.snd (Ann.snd laws_FnYieldOf_an)))))))))))) (⟨mkE 87 0 [(3, .slc 0), (4, .dat (.int .i64) x1633), (5, .slc 1), (6, .dat (.int .i64) x1732)], [some (.seq (.int .i64) x1634), some (.seq (.int .i64) x1635)]⟩ : St) (laws_FnYieldOf_n14 x1732) (fun (t : Int) => (Exit.normal, (⟨mkE 87 0 [(3, .slc 0), (4, .dat (.int .i64) x1633), (5, .slc 1), (6, .dat (.int .i64) t)], [some (.seq (.int .i64) x1634), some (.seq (.int .i64) x1635)]⟩ : St))) := by
  refine Link.of fun K h => ?_
  simp only [laws_FnYieldOf_n14, wpO_bind, wpO_cond, wpO_map, wpO_some] at h
  exact Awp.of (by kernel_rfl) h

theorem laws_FnYieldOf_n15_l (x1633 : Int) (x1732 : Int) (x1634 : List Int) (x1635 : List Int) : Link laws_FnYieldOf_ctx LL (Code.snd (Code.fst (Code.fst (Code.snd (Code.fst (Code.snd (Code.snd (Code.snd (Code.snd (Code.snd (Code.snd (bodyOf Tryd.f3)))))))))))) (Ann.snd (Ann.fst (Ann.fst (Ann.snd (Ann.fst (Ann.snd (Ann.snd (Ann.snd (Ann.snd (Ann.snd (Ann.snd laws_FnYieldOf_an))))))))))) (⟨mkE 87 0 [(3, .slc 0), (4, .dat (.int .i64) x1633), (5, .slc 1), (6, .dat (.int .i64) x1732)], [some (.seq (.int .i64) x1634), some (.seq (.int .i64) x1635)]⟩ : St) (laws_FnYieldOf_n15 x1732 x1634 x1635) (Sum.elim (fun (t : Int) => (Exit.normal, (⟨mkE 87 0 [(3, .slc 0), (4, .dat (.int .i64) x1633), (5, .slc 1), (6, .dat (.int .i64) t)], [some (.seq (.int .i64) x1634), some (.seq (.int .i64) x1635)]⟩ : St))) (fun (t : Bool) => (Exit.ret, (⟨mkE 87 0 [(2, .dat .bool t)], []⟩ : St)))) := by
  unfold laws_FnYieldOf_n15
  exact Link.cast (by kernel_rfl) (by kernel_rfl) (link_seq2 (b := (Code.snd (Code.snd (Code.fst (Code.fst (Code.snd (Code.fst (Code.snd (Code.snd (Code.snd (Code.snd (Code.snd (Code.snd (bodyOf Tryd.f3)))))))))))))) (y := (Ann.snd (Ann.snd (Ann.fst (Ann.fst (Ann.snd (Ann.fst (Ann.snd (Ann.snd (Ann.snd (Ann.snd (Ann.snd (Ann.snd laws_FnYieldOf_an))))))))))))) (laws_FnYieldOf_n13_l x1633 x1732 x1634 x1635) (fun (t : Unit) => (link_map (laws_FnYieldOf_n14_l x1633 x1732 x1634 x1635) (fun (t : Int) => (Sum.inl t)) (by
  rintro t
  · kernel_rfl))) (fun (t : Bool) => (Sum.inr t)) (by
  rintro t
  · kernel_rfl) (by
  rintro t f K h
  · exact h))

theorem laws_FnYieldOf_n16_l (x1633 : Int) (x1732 : Int) (x1634 : List Int) (x1635 : List Int) : Link laws_FnYieldOf_ctx LL (Code.fst (Code.fst (Code.snd (Code.fst (Code.snd (Code.snd (Code.snd (Code.snd (Code.snd (Code.snd (bodyOf Tryd.f3))))))))))) (Ann.fst (Ann.fst (Ann.snd (Ann.fst (Ann.snd (Ann.snd (Ann.snd (Ann.snd (Ann.snd (Ann.snd laws_FnYieldOf_an)))))))))) (⟨mkE 87 0 [(3, .slc 0), (4, .dat (.int .i64) x1633), (5, .slc 1), (6, .dat (.int .i64) x1732)], [some (.seq (.int .i64) x1634), some (.seq (.int .i64) x1635)]⟩ : St) (laws_FnYieldOf_n16 x1732 x1634 x1635) (Sum.elim (fun (t : Int) => (Exit.normal, (⟨mkE 87 0 [(3, .slc 0), (4, .dat (.int .i64) x1633), (5, .slc 1), (6, .dat (.int .i64) t)], [some (.seq (.int .i64) x1634), some (.seq (.int .i64) x1635)]⟩ : St))) (Sum.elim (fun (t : Bool) => (Exit.ret, (⟨mkE 87 0 [(2, .dat .bool t)], []⟩ : St))) (fun (t : Unit) => ((Exit.exit 0), (⟨mkE 87 0 [(3, .slc 0), (4, .dat (.int .i64) x1633), (5, .slc 1)], [some (.seq (.int .i64) x1634), some (.seq (.int .i64) x1635)]⟩ : St))))) := by
  unfold laws_FnYieldOf_n16
  exact Link.cast (by kernel_rfl) (by kernel_rfl) (link_seq2 (b := (Code.snd (Code.fst (Code.fst (Code.snd (Code.fst (Code.snd (Code.snd (Code.snd (Code.snd (Code.snd (Code.snd (bodyOf Tryd.f3))))))))))))) (y := (Ann.snd (Ann.fst (Ann.fst (Ann.snd (Ann.fst (Ann.snd (Ann.snd (Ann.snd (Ann.snd (Ann.snd (Ann.snd laws_FnYieldOf_an)))))))))))) (laws_FnYieldOf_n3_l x1633 x1732 x1634 x1635) (fun (t : Unit) => (link_map (laws_FnYieldOf_n15_l x1633 x1732 x1634 x1635) (Sum.elim (fun (t : Int) => (Sum.inl t)) (fun (t : Bool) => (Sum.inr (Sum.inl t)))) (by
  rintro (t | t)
  · kernel_rfl
  · kernel_rfl))) (fun (t : Unit) => (Sum.inr (Sum.inr t))) (by
  rintro t
  · kernel_rfl) (by
  rintro t f K h
  · exact h))

theorem laws_FnYieldOf_n17_l (x1633 : Int) (x1634 : List Int) (x1635 : List Int) : Link laws_FnYieldOf_ctx LL (Code.fst (Code.snd (Code.fst (Code.snd (Code.snd (Code.snd (Code.snd (Code.snd (Code.snd (bodyOf Tryd.f3)))))))))) (Ann.fst (Ann.snd (Ann.fst (Ann.snd (Ann.snd (Ann.snd (Ann.snd (Ann.snd (Ann.snd laws_FnYieldOf_an))))))))) (⟨mkE 87 0 [(3, .slc 0), (4, .dat (.int .i64) x1633), (5, .slc 1), (6, .dat (.int .i64) 1)], [some (.seq (.int .i64) x1634), some (.seq (.int .i64) x1635)]⟩ : St) (laws_FnYieldOf_n17 x1634 x1635) (Sum.elim (fun (t : Bool) => (Exit.ret, (⟨mkE 87 0 [(2, .dat .bool t)], []⟩ : St))) (fun (t : Unit) => ((Exit.exit 0), (⟨mkE 87 0 [(3, .slc 0), (4, .dat (.int .i64) x1633), (5, .slc 1)], [some (.seq (.int .i64) x1634), some (.seq (.int .i64) x1635)]⟩ : St)))) := by
  unfold laws_FnYieldOf_n17
  exact Link.cast (by kernel_rfl) (by kernel_rfl) (link_loop (mk := fun (s : Int) => (⟨mkE 87 0 [(3, .slc 0), (4, .dat (.int .i64) x1633), (5, .slc 1), (6, .dat (.int .i64) s)], [some (.seq (.int .i64) x1634), some (.seq (.int .i64) x1635)]⟩ : St)) (fin := (Sum.elim (fun (t : Bool) => (Exit.ret, (⟨mkE 87 0 [(2, .dat .bool t)], []⟩ : St))) (fun (t : Unit) => ((Exit.exit 0), (⟨mkE 87 0 [(3, .slc 0), (4, .dat (.int .i64) x1633), (5, .slc 1)], [some (.seq (.int .i64) x1634), some (.seq (.int .i64) x1635)]⟩ : St))))) (by
  rintro (t | t) f K h
  · exact h
  · exact h) (fun s => link_map (laws_FnYieldOf_n16_l x1633 s x1634 x1635) (Sum.elim (fun (t : Int) => Sum.inl t) (Sum.elim (fun (t : Bool) => Sum.inr (Sum.inl t)) (fun (t : Unit) => Sum.inr (Sum.inr t)))) (by
  rintro (t | t | t)
  · kernel_rfl
  · kernel_rfl
  · kernel_rfl)) 1)

theorem laws_FnYieldOf_n18_l (x1633 : Int) (x1634 : List Int) (x1635 : List Int) : Link laws_FnYieldOf_ctx LL (Code.snd (Code.fst (Code.snd (Code.snd (Code.snd (Code.snd (Code.snd (Code.snd (bodyOf Tryd.f3))))))))) (Ann.snd (Ann.fst (Ann.snd (Ann.snd (Ann.snd (Ann.snd (Ann.snd (Ann.snd laws_FnYieldOf_an)))))))) (⟨mkE 87 0 [(3, .slc 0), (4, .dat (.int .i64) x1633), (5, .slc 1), (6, .dat (.int .i64) 1)], [some (.seq (.int .i64) x1634), some (.seq (.int .i64) x1635)]⟩ : St) (laws_FnYieldOf_n18 x1634 x1635) (Sum.elim (fun (t : Unit) => (Exit.normal, (⟨mkE 87 0 [(3, .slc 0), (4, .dat (.int .i64) x1633), (5, .slc 1)], [some (.seq (.int .i64) x1634), some (.seq (.int .i64) x1635)]⟩ : St))) (fun (t : Bool) => (Exit.ret, (⟨mkE 87 0 [(2, .dat .bool t)], []⟩ : St)))) := by
  unfold laws_FnYieldOf_n18
  exact Link.cast (by kernel_rfl) (by kernel_rfl) (link_block (id := 0) (laws_FnYieldOf_n17_l x1633 x1634 x1635) (Sum.elim (fun (t : Bool) => (Sum.inr t)) (fun (t : Unit) => (Sum.inl ()))) (by
  rintro (t | t) K h
  · exact Eq.mp (by kernel_rfl) h
  · exact Eq.mp (by kernel_rfl) h))

theorem laws_FnYieldOf_n19_l (x1633 : Int) (x1634 : List Int) (x1635 : List Int) : Link laws_FnYieldOf_ctx LL (Code.fst (Code.snd (Code.snd (Code.snd (Code.snd (Code.snd (Code.snd (bodyOf Tryd.f3)))))))) (Ann.fst (Ann.snd (Ann.snd (Ann.snd (Ann.snd (Ann.snd (Ann.snd laws_FnYieldOf_an))))))) (⟨mkE 87 0 [(3, .slc 0), (4, .dat (.int .i64) x1633), (5, .slc 1)], [some (.seq (.int .i64) x1634), some (.seq (.int .i64) x1635)]⟩ : St) (laws_FnYieldOf_n19 x1634 x1635) (Sum.elim (fun (t : Unit) => (Exit.normal, (⟨mkE 87 0 [(3, .slc 0), (4, .dat (.int .i64) x1633), (5, .slc 1)], [some (.seq (.int .i64) x1634), some (.seq (.int .i64) x1635)]⟩ : St))) (fun (t : Bool) => (Exit.ret, (⟨mkE 87 0 [(2, .dat .bool t)], []⟩ : St)))) := by
  unfold laws_FnYieldOf_n19
  exact Link.cast (by kernel_rfl) (by kernel_rfl) (link_seq (b := (Code.snd (Code.fst (Code.snd (Code.snd (Code.snd (Code.snd (Code.snd (Code.snd (bodyOf Tryd.f3)))))))))) (y := (Ann.snd (Ann.fst (Ann.snd (Ann.snd (Ann.snd (Ann.snd (Ann.snd (Ann.snd laws_FnYieldOf_an))))))))) (laws_FnYieldOf_n2_l x1633 x1634 x1635) (fun (t : Unit) => (laws_FnYieldOf_n18_l x1633 x1634 x1635)))

theorem laws_FnYieldOf_n20_l (x1633 : Int) (x1634 : List Int) (x1635 : List Int) : Link laws_FnYieldOf_ctx LL (Code.snd (Code.snd (Code.snd (Code.snd (Code.snd (Code.snd (Code.snd (bodyOf Tryd.f3)))))))) (Ann.snd (Ann.snd (Ann.snd (Ann.snd (Ann.snd (Ann.snd (Ann.snd laws_FnYieldOf_an))))))) (⟨mkE 87 0 [(3, .slc 0), (4, .dat (.int .i64) x1633), (5, .slc 1)], [some (.seq (.int .i64) x1634), some (.seq (.int .i64) x1635)]⟩ : St) (laws_FnYieldOf_n20 x1633 x1634 x1635) (fun (t : Bool) => (Exit.ret, (⟨mkE 87 0 [(2, .dat .bool t)], []⟩ : St))) := by
  refine Link.of fun K h => ?_
  simp only [laws_FnYieldOf_n20, wpO_bind, wpO_cond, wpO_map, wpO_some] at h
  exact Awp.of (by kernel_rfl) h

theorem laws_FnYieldOf_n21_l (x1633 : Int) (x1634 : List Int) (x1635 : List Int) : Link laws_FnYieldOf_ctx LL (Code.snd (Code.snd (Code.snd (Code.snd (Code.snd (Code.snd (bodyOf Tryd.f3))))))) (Ann.snd (Ann.snd (Ann.snd (Ann.snd (Ann.snd (Ann.snd laws_FnYieldOf_an)))))) (⟨mkE 87 0 [(3, .slc 0), (4, .dat (.int .i64) x1633), (5, .slc 1)], [some (.seq (.int .i64) x1634), some (.seq (.int .i64) x1635)]⟩ : St) (laws_FnYieldOf_n21 x1633 x1634 x1635) (fun (t : Bool) => (Exit.ret, (⟨mkE 87 0 [(2, .dat .bool t)], []⟩ : St))) := by
  unfold laws_FnYieldOf_n21
  exact Link.cast (by kernel_rfl) (by kernel_rfl) (link_seq2 (b := (Code.snd (Code.snd (Code.snd (Code.snd (Code.snd (Code.snd (Code.snd (bodyOf Tryd.f3))))))))) (y := (Ann.snd (Ann.snd (Ann.snd (Ann.snd (Ann.snd (Ann.snd (Ann.snd laws_FnYieldOf_an)))))))) (laws_FnYieldOf_n19_l x1633 x1634 x1635) (fun (t : Unit) => (laws_FnYieldOf_n20_l x1633 x1634 x1635)) (fun (t : Bool) => t) (by
  rintro t
  · kernel_rfl) (by
  rintro t f K h
  · exact h))

theorem laws_FnYieldOf_n22_l (x2 : List Int) : Link laws_FnYieldOf_ctx LL (bodyOf Tryd.f3) laws_FnYieldOf_an (⟨mkE 87 0 [(0, .dat (.list (.int .u8)) x2)], []⟩ : St) (laws_FnYieldOf_n22 x2) (fun (t : Bool) => (Exit.ret, (⟨mkE 87 0 [(2, .dat .bool t)], []⟩ : St))) := by
  unfold laws_FnYieldOf_n22
  exact Link.cast (by kernel_rfl) (by kernel_rfl) (link_group (c := (Code.fst (Code.snd (Code.snd (Code.snd (Code.snd (Code.snd (bodyOf Tryd.f3)))))))) (a := (Ann.fst (Ann.snd (Ann.snd (Ann.snd (Ann.snd (Ann.snd laws_FnYieldOf_an))))))) [(Code.fst (bodyOf Tryd.f3)), (Code.fst (Code.snd (bodyOf Tryd.f3))), (Code.fst (Code.snd (Code.snd (bodyOf Tryd.f3)))), (Code.fst (Code.snd (Code.snd (Code.snd (bodyOf Tryd.f3))))), (Code.fst (Code.snd (Code.snd (Code.snd (Code.snd (bodyOf Tryd.f3))))))] [(Ann.fst laws_FnYieldOf_an), (Ann.fst (Ann.snd laws_FnYieldOf_an)), (Ann.fst (Ann.snd (Ann.snd laws_FnYieldOf_an))), (Ann.fst (Ann.snd (Ann.snd (Ann.snd laws_FnYieldOf_an)))), (Ann.fst (Ann.snd (Ann.snd (Ann.snd (Ann.snd laws_FnYieldOf_an)))))] rfl (link_seq2 (b := (Code.snd (Code.snd (Code.snd (Code.snd (Code.snd (Code.snd (bodyOf Tryd.f3)))))))) (y := (Ann.snd (Ann.snd (Ann.snd (Ann.snd (Ann.snd (Ann.snd laws_FnYieldOf_an))))))) (laws_FnYieldOf_n1_l x2) (fun (t : Int × (List Int) × (List Int)) => (laws_FnYieldOf_n21_l t.1 t.2.1 t.2.2)) (fun (t : Bool) => t) (by
  rintro t
  · kernel_rfl) (by
  rintro t f K h
  · exact h)))

theorem laws_FnYieldOf_e (x2 : List Int) {r : AV} {H' : Heap} (h : (Ans.mk _ (laws_FnYieldOf x2) (fun (t : Bool) => (.dat .bool t, []))).run = some (r, H')) : Awp laws_FnYieldOf_ctx LL (bodyOf Tryd.f3) laws_FnYieldOf_an (⟨mkE 87 0 [(0, .dat (.list (.int .u8)) x2)], []⟩ : St) (Ret (tlook tys) Tryd.f3.results.toList r H') :=
  ret_of' (laws_FnYieldOf_n22_l x2) (by unfold laws_FnYieldOf; kernel_rfl) (by
  intro t
  exact ret_mk [.dat .bool t] (by kernel_rfl) (by kernel_rfl) (by kernel_rfl) (by kernel_rfl)) h

def F_laws_FnYieldOf : Fun := fun avs H =>
  match avs, H with
  | [.dat (.list (.int .u8)) x2], [] => ⟨_, laws_FnYieldOf x2, fun (t : Bool) => (.dat .bool t, [])⟩
  | _, _ => Ans.no

theorem laws_FnYieldOf_sound : Sound Tryd.prog 3 F_laws_FnYieldOf := by
  refine fn_sound' (C := laws_FnYieldOf_ctx) (c := bodyOf Tryd.f3) (cok_of tys_ok (List.forall_mem_cons.2 ⟨spec_DrawYieldOf_sound, List.forall_mem_cons.2 ⟨impl_YieldOf_sound, List.forall_mem_cons.2 ⟨spec_YieldOf_sound, List.forall_mem_cons.2 ⟨laws_sameInts_sound, List.forall_mem_cons.2 ⟨laws_alive_sound, List.forall_mem_cons.2 ⟨laws_hasInt_sound, List.forall_mem_cons.2 ⟨laws_ascend_sound, List.forall_mem_cons.2 ⟨impl_RootOf_sound, by simp⟩⟩⟩⟩⟩⟩⟩⟩) (List.forall_mem_cons.2 ⟨Tryd.call16, List.forall_mem_cons.2 ⟨Tryd.call17, List.forall_mem_cons.2 ⟨Tryd.call19, List.forall_mem_cons.2 ⟨Tryd.call18, List.forall_mem_cons.2 ⟨Tryd.call20, List.forall_mem_cons.2 ⟨Tryd.call21, List.forall_mem_cons.2 ⟨Tryd.call22, List.forall_mem_cons.2 ⟨Tryd.call23, by simp⟩⟩⟩⟩⟩⟩⟩⟩) (by kernel_rfl)) Tryd.func3 (by kernel_rfl) LL laws_FnYieldOf_an ?_
  intro avs H r H' h
  unfold F_laws_FnYieldOf at h
  split at h
  · refine Awp.cast ?_ ?_ ?_ (laws_FnYieldOf_e _ h) <;> kernel_rfl
  · simp [Ans.no, Ans.run] at h

/-! loop.example/headtrees/spec.DrawDependsOf -/

def spec_DrawDependsOf_an : Ann := (.seq (.leaf [0]) (.seq (.leaf [4, 5]) (.seq (.leaf [2, 3]) (.leaf [2, 3]))))

noncomputable def spec_DrawDependsOf_ctx : Ctx := ⟨tlook tys, olook [(54, F_spec_l20Open), (53, F_spec_l20Word)], ioF, 0⟩

theorem spec_DrawDependsOf_n1_l (x1842 : List Int) : Link spec_DrawDependsOf_ctx LL (bodyOf Tryd.f24) spec_DrawDependsOf_an (⟨mkE 15 0 [(0, .dat (.list (.int .u8)) x1842)], []⟩ : St) (spec_DrawDependsOf_n1 x1842) (fun (t : Int × (List Int)) => (Exit.ret, (⟨mkE 15 0 [(2, .slc 0), (3, .dat (.int .i64) t.1)], [some (.seq (.int .i64) t.2)]⟩ : St))) := by
  refine Link.of fun K h => ?_
  simp only [spec_DrawDependsOf_n1, wpO_bind, wpO_cond, wpO_map, wpO_some] at h
  exact Awp.of (by kernel_rfl) h

theorem spec_DrawDependsOf_e (x1842 : List Int) {r : AV} {H' : Heap} (h : (Ans.mk _ (spec_DrawDependsOf x1842) (fun (t : Int × (List Int)) => (.tup [.slc 0, .dat (.int .i64) t.1], [some (.seq (.int .i64) t.2)]))).run = some (r, H')) : Awp spec_DrawDependsOf_ctx LL (bodyOf Tryd.f24) spec_DrawDependsOf_an (⟨mkE 15 0 [(0, .dat (.list (.int .u8)) x1842)], []⟩ : St) (Ret (tlook tys) Tryd.f24.results.toList r H') :=
  ret_of' (spec_DrawDependsOf_n1_l x1842) (by unfold spec_DrawDependsOf; kernel_rfl) (by
  intro t
  exact ret_mk [.slc 0, .dat (.int .i64) t.1] (by kernel_rfl) (by kernel_rfl) (by kernel_rfl) (by kernel_rfl)) h

def F_spec_DrawDependsOf : Fun := fun avs H =>
  match avs, H with
  | [.dat (.list (.int .u8)) x1842], [] => ⟨_, spec_DrawDependsOf x1842, fun (t : Int × (List Int)) => (.tup [.slc 0, .dat (.int .i64) t.1], [some (.seq (.int .i64) t.2)])⟩
  | _, _ => Ans.no

theorem spec_DrawDependsOf_sound : Sound Tryd.prog 24 F_spec_DrawDependsOf := by
  refine fn_sound' (C := spec_DrawDependsOf_ctx) (c := bodyOf Tryd.f24) (cok_of tys_ok (List.forall_mem_cons.2 ⟨spec_l20Open_sound, List.forall_mem_cons.2 ⟨spec_l20Word_sound, by simp⟩⟩) (List.forall_mem_cons.2 ⟨Tryd.call54, List.forall_mem_cons.2 ⟨Tryd.call53, by simp⟩⟩) (by kernel_rfl)) Tryd.func24 (by kernel_rfl) LL spec_DrawDependsOf_an ?_
  intro avs H r H' h
  unfold F_spec_DrawDependsOf at h
  split at h
  · refine Awp.cast ?_ ?_ ?_ (spec_DrawDependsOf_e _ h) <;> kernel_rfl
  · simp [Ans.no, Ans.run] at h

/-! loop.example/headtrees/impl.DependsOf -/

def impl_DependsOf_an : Ann := (.seq (.leaf [0, 1]) (.seq (.seq (.leaf [0, 1, 17]) (.cond (.seq (.leaf [4]) (.leaf [4])) (.leaf [0, 1]))) (.seq (.leaf [4]) (.leaf [4]))))

noncomputable def impl_DependsOf_ctx : Ctx := ⟨tlook tys, olook [(40, F_impl_TreeOk), (62, F_impl_dependents), (57, F_impl_wordSet_list)], ioF, 0⟩

theorem impl_DependsOf_n1_l (x1868 : List Int) (x1869 : Int) : Link impl_DependsOf_ctx LL (bodyOf Tryd.f25) impl_DependsOf_an (⟨mkE 22 0 [(0, .dat (.list (.int .i64)) x1868), (1, .dat (.int .i64) x1869)], []⟩ : St) (impl_DependsOf_n1 x1868 x1869) (fun (t : (List Int)) => (Exit.ret, (⟨mkE 22 0 [(4, .slc 0)], [some (.seq (.int .i64) t)]⟩ : St))) := by
  refine Link.of fun K h => ?_
  simp only [impl_DependsOf_n1, wpO_bind, wpO_cond, wpO_map, wpO_some] at h
  exact Awp.of (by kernel_rfl) h

theorem impl_DependsOf_e (x1868 : List Int) (x1869 : Int) {r : AV} {H' : Heap} (h : (Ans.mk _ (impl_DependsOf x1868 x1869) (fun (t : (List Int)) => (.slc 0, [some (.seq (.int .i64) t)]))).run = some (r, H')) : Awp impl_DependsOf_ctx LL (bodyOf Tryd.f25) impl_DependsOf_an (⟨mkE 22 0 [(0, .dat (.list (.int .i64)) x1868), (1, .dat (.int .i64) x1869)], []⟩ : St) (Ret (tlook tys) Tryd.f25.results.toList r H') :=
  ret_of' (impl_DependsOf_n1_l x1868 x1869) (by unfold impl_DependsOf; kernel_rfl) (by
  intro t
  exact ret_mk [.slc 0] (by kernel_rfl) (by kernel_rfl) (by kernel_rfl) (by kernel_rfl)) h

def F_impl_DependsOf : Fun := fun avs H =>
  match avs, H with
  | [.dat (.list (.int .i64)) x1868, .dat (.int .i64) x1869], [] => ⟨_, impl_DependsOf x1868 x1869, fun (t : (List Int)) => (.slc 0, [some (.seq (.int .i64) t)])⟩
  | _, _ => Ans.no

theorem impl_DependsOf_sound : Sound Tryd.prog 25 F_impl_DependsOf := by
  refine fn_sound' (C := impl_DependsOf_ctx) (c := bodyOf Tryd.f25) (cok_of tys_ok (List.forall_mem_cons.2 ⟨impl_TreeOk_sound, List.forall_mem_cons.2 ⟨impl_dependents_sound, List.forall_mem_cons.2 ⟨impl_wordSet_list_sound, by simp⟩⟩⟩) (List.forall_mem_cons.2 ⟨Tryd.call40, List.forall_mem_cons.2 ⟨Tryd.call62, List.forall_mem_cons.2 ⟨Tryd.call57, by simp⟩⟩⟩) (by kernel_rfl)) Tryd.func25 (by kernel_rfl) LL impl_DependsOf_an ?_
  intro avs H r H' h
  unfold F_impl_DependsOf at h
  split at h
  · refine Awp.cast ?_ ?_ ?_ (impl_DependsOf_e _ _ h) <;> kernel_rfl
  · simp [Ans.no, Ans.run] at h

/-! loop.example/headtrees/spec.DependsOf -/

def spec_DependsOf_an : Ann := (.seq (.leaf [0, 1]) (.seq (.leaf [0, 1, 5]) (.seq (.seq (.leaf [0, 1, 5, 6]) (.block (.loop (.seq (.seq (.leaf [0, 1, 5, 6, 15]) (.cond (.leaf [0, 1, 5, 6]) (.leaf [5]))) (.seq (.block (.seq (.leaf [0, 1, 5, 6, 23]) (.cond (.leaf [0, 1, 5, 6]) (.leaf [0, 1, 5, 6])))) (.leaf [0, 1, 5, 6])))))) (.seq (.leaf [4]) (.leaf [4])))))

noncomputable def spec_DependsOf_ctx : Ctx := ⟨tlook tys, olook [(27, F_spec_TreeOk)], ioF, 0⟩

theorem spec_DependsOf_n1_l (x1897 : List Int) (x1898 : Int) : Link spec_DependsOf_ctx LL (Code.seq (Code.fst (bodyOf Tryd.f26)) (Code.fst (Code.snd (bodyOf Tryd.f26)))) (Ann.seq (Ann.fst spec_DependsOf_an) (Ann.fst (Ann.snd spec_DependsOf_an))) (⟨mkE 30 0 [(0, .dat (.list (.int .i64)) x1897), (1, .dat (.int .i64) x1898)], []⟩ : St) (spec_DependsOf_n1) (fun (t : Unit) => (Exit.normal, (⟨mkE 30 0 [(0, .dat (.list (.int .i64)) x1897), (1, .dat (.int .i64) x1898), (5, .slc 0)], [some (.seq (.int .i64) ([] : List Int))]⟩ : St))) := by
  refine Link.of fun K h => ?_
  simp only [spec_DependsOf_n1, wpO_bind, wpO_cond, wpO_map, wpO_some] at h
  exact Awp.of (by kernel_rfl) h

theorem spec_DependsOf_n2_l (x1897 : List Int) (x1898 : Int) : Link spec_DependsOf_ctx LL (Code.fst (Code.fst (Code.snd (Code.snd (bodyOf Tryd.f26))))) (Ann.fst (Ann.fst (Ann.snd (Ann.snd spec_DependsOf_an)))) (⟨mkE 30 0 [(0, .dat (.list (.int .i64)) x1897), (1, .dat (.int .i64) x1898), (5, .slc 0)], [some (.seq (.int .i64) ([] : List Int))]⟩ : St) (spec_DependsOf_n2) (fun (t : Unit) => (Exit.normal, (⟨mkE 30 0 [(0, .dat (.list (.int .i64)) x1897), (1, .dat (.int .i64) x1898), (5, .slc 0), (6, .dat (.int .i64) 0)], [some (.seq (.int .i64) ([] : List Int))]⟩ : St))) := by
  refine Link.of fun K h => ?_
  simp only [spec_DependsOf_n2, wpO_bind, wpO_cond, wpO_map, wpO_some] at h
  exact Awp.of (by kernel_rfl) h

theorem spec_DependsOf_n3_l (x1897 : List Int) (x1898 : Int) (x1926 : Int) (x1927 : List Int) : Link spec_DependsOf_ctx LL (Code.fst (Code.fst (Code.snd (Code.fst (Code.snd (Code.snd (bodyOf Tryd.f26))))))) (Ann.fst (Ann.fst (Ann.snd (Ann.fst (Ann.snd (Ann.snd spec_DependsOf_an)))))) (⟨mkE 30 0 [(0, .dat (.list (.int .i64)) x1897), (1, .dat (.int .i64) x1898), (5, .slc 0), (6, .dat (.int .i64) x1926)], [some (.seq (.int .i64) x1927)]⟩ : St) (spec_DependsOf_n3 x1897 x1898 x1926 x1927) (Sum.elim (fun (t : Int × (List Int)) => (Exit.normal, (⟨mkE 30 0 [(0, .dat (.list (.int .i64)) x1897), (1, .dat (.int .i64) x1898), (5, .slc 0), (6, .dat (.int .i64) t.1)], [some (.seq (.int .i64) t.2)]⟩ : St))) (fun (t : (List Int)) => ((Exit.exit 0), (⟨mkE 30 0 [(5, .slc 0)], [some (.seq (.int .i64) t)]⟩ : St)))) := by
  refine Link.of fun K h => ?_
  simp only [spec_DependsOf_n3, wpO_bind, wpO_cond, wpO_map, wpO_some] at h
  exact Awp.of (by kernel_rfl) h

theorem spec_DependsOf_n4_l (x1897 : List Int) (x1898 : Int) : Link spec_DependsOf_ctx LL (Code.fst (Code.snd (Code.fst (Code.snd (Code.snd (bodyOf Tryd.f26)))))) (Ann.fst (Ann.snd (Ann.fst (Ann.snd (Ann.snd spec_DependsOf_an))))) (⟨mkE 30 0 [(0, .dat (.list (.int .i64)) x1897), (1, .dat (.int .i64) x1898), (5, .slc 0), (6, .dat (.int .i64) 0)], [some (.seq (.int .i64) ([] : List Int))]⟩ : St) (spec_DependsOf_n4 x1897 x1898) (fun (t : (List Int)) => ((Exit.exit 0), (⟨mkE 30 0 [(5, .slc 0)], [some (.seq (.int .i64) t)]⟩ : St))) := by
  unfold spec_DependsOf_n4
  exact Link.cast (by kernel_rfl) (by kernel_rfl) (link_loop (mk := fun (s : Int × (List Int)) => (⟨mkE 30 0 [(0, .dat (.list (.int .i64)) x1897), (1, .dat (.int .i64) x1898), (5, .slc 0), (6, .dat (.int .i64) s.1)], [some (.seq (.int .i64) s.2)]⟩ : St)) (fin := (fun (t : (List Int)) => ((Exit.exit 0), (⟨mkE 30 0 [(5, .slc 0)], [some (.seq (.int .i64) t)]⟩ : St)))) (by
  rintro t f K h
  · exact h) (fun s => link_map (spec_DependsOf_n3_l x1897 x1898 s.1 s.2) (Sum.elim (fun (t : Int × (List Int)) => Sum.inl (t.1, t.2)) (fun (t : (List Int)) => Sum.inr t)) (by
  rintro (t | t)
  · kernel_rfl
  · kernel_rfl)) (0, ([] : List Int)))

theorem spec_DependsOf_n5_l (x1897 : List Int) (x1898 : Int) : Link spec_DependsOf_ctx LL (Code.snd (Code.fst (Code.snd (Code.snd (bodyOf Tryd.f26))))) (Ann.snd (Ann.fst (Ann.snd (Ann.snd spec_DependsOf_an)))) (⟨mkE 30 0 [(0, .dat (.list (.int .i64)) x1897), (1, .dat (.int .i64) x1898), (5, .slc 0), (6, .dat (.int .i64) 0)], [some (.seq (.int .i64) ([] : List Int))]⟩ : St) (spec_DependsOf_n5 x1897 x1898) (fun (t : (List Int)) => (Exit.normal, (⟨mkE 30 0 [(5, .slc 0)], [some (.seq (.int .i64) t)]⟩ : St))) := by
  unfold spec_DependsOf_n5
  exact Link.cast (by kernel_rfl) (by kernel_rfl) (link_block (id := 0) (spec_DependsOf_n4_l x1897 x1898) (fun (t : (List Int)) => t) (by
  rintro t K h
  · exact Eq.mp (by kernel_rfl) h))

theorem spec_DependsOf_n6_l (x1897 : List Int) (x1898 : Int) : Link spec_DependsOf_ctx LL (Code.fst (Code.snd (Code.snd (bodyOf Tryd.f26)))) (Ann.fst (Ann.snd (Ann.snd spec_DependsOf_an))) (⟨mkE 30 0 [(0, .dat (.list (.int .i64)) x1897), (1, .dat (.int .i64) x1898), (5, .slc 0)], [some (.seq (.int .i64) ([] : List Int))]⟩ : St) (spec_DependsOf_n6 x1897 x1898) (fun (t : (List Int)) => (Exit.normal, (⟨mkE 30 0 [(5, .slc 0)], [some (.seq (.int .i64) t)]⟩ : St))) := by
  unfold spec_DependsOf_n6
  exact Link.cast (by kernel_rfl) (by kernel_rfl) (link_seq (b := (Code.snd (Code.fst (Code.snd (Code.snd (bodyOf Tryd.f26)))))) (y := (Ann.snd (Ann.fst (Ann.snd (Ann.snd spec_DependsOf_an))))) (spec_DependsOf_n2_l x1897 x1898) (fun (t : Unit) => (spec_DependsOf_n5_l x1897 x1898)))

theorem spec_DependsOf_n7_l (x1927 : List Int) : Link spec_DependsOf_ctx LL (Code.snd (Code.snd (Code.snd (bodyOf Tryd.f26)))) (Ann.snd (Ann.snd (Ann.snd spec_DependsOf_an))) (⟨mkE 30 0 [(5, .slc 0)], [some (.seq (.int .i64) x1927)]⟩ : St) (spec_DependsOf_n7 x1927) (fun (t : (List Int)) => (Exit.ret, (⟨mkE 30 0 [(4, .slc 0)], [some (.seq (.int .i64) t)]⟩ : St))) := by
  refine Link.of fun K h => ?_
  simp only [spec_DependsOf_n7, wpO_bind, wpO_cond, wpO_map, wpO_some] at h
  exact Awp.of (by kernel_rfl) h

theorem spec_DependsOf_n8_l (x1897 : List Int) (x1898 : Int) : Link spec_DependsOf_ctx LL (Code.snd (Code.snd (bodyOf Tryd.f26))) (Ann.snd (Ann.snd spec_DependsOf_an)) (⟨mkE 30 0 [(0, .dat (.list (.int .i64)) x1897), (1, .dat (.int .i64) x1898), (5, .slc 0)], [some (.seq (.int .i64) ([] : List Int))]⟩ : St) (spec_DependsOf_n8 x1897 x1898) (fun (t : (List Int)) => (Exit.ret, (⟨mkE 30 0 [(4, .slc 0)], [some (.seq (.int .i64) t)]⟩ : St))) := by
  unfold spec_DependsOf_n8
  exact Link.cast (by kernel_rfl) (by kernel_rfl) (link_seq (b := (Code.snd (Code.snd (Code.snd (bodyOf Tryd.f26))))) (y := (Ann.snd (Ann.snd (Ann.snd spec_DependsOf_an)))) (spec_DependsOf_n6_l x1897 x1898) (fun (t : (List Int)) => (spec_DependsOf_n7_l t)))

theorem spec_DependsOf_n9_l (x1897 : List Int) (x1898 : Int) : Link spec_DependsOf_ctx LL (bodyOf Tryd.f26) spec_DependsOf_an (⟨mkE 30 0 [(0, .dat (.list (.int .i64)) x1897), (1, .dat (.int .i64) x1898)], []⟩ : St) (spec_DependsOf_n9 x1897 x1898) (fun (t : (List Int)) => (Exit.ret, (⟨mkE 30 0 [(4, .slc 0)], [some (.seq (.int .i64) t)]⟩ : St))) := by
  unfold spec_DependsOf_n9
  exact Link.cast (by kernel_rfl) (by kernel_rfl) (link_group (c := (Code.fst (Code.snd (bodyOf Tryd.f26)))) (a := (Ann.fst (Ann.snd spec_DependsOf_an))) [(Code.fst (bodyOf Tryd.f26))] [(Ann.fst spec_DependsOf_an)] rfl (link_seq (b := (Code.snd (Code.snd (bodyOf Tryd.f26)))) (y := (Ann.snd (Ann.snd spec_DependsOf_an))) (spec_DependsOf_n1_l x1897 x1898) (fun (t : Unit) => (spec_DependsOf_n8_l x1897 x1898))))

theorem spec_DependsOf_e (x1897 : List Int) (x1898 : Int) {r : AV} {H' : Heap} (h : (Ans.mk _ (spec_DependsOf x1897 x1898) (fun (t : (List Int)) => (.slc 0, [some (.seq (.int .i64) t)]))).run = some (r, H')) : Awp spec_DependsOf_ctx LL (bodyOf Tryd.f26) spec_DependsOf_an (⟨mkE 30 0 [(0, .dat (.list (.int .i64)) x1897), (1, .dat (.int .i64) x1898)], []⟩ : St) (Ret (tlook tys) Tryd.f26.results.toList r H') :=
  ret_of' (spec_DependsOf_n9_l x1897 x1898) (by unfold spec_DependsOf; kernel_rfl) (by
  intro t
  exact ret_mk [.slc 0] (by kernel_rfl) (by kernel_rfl) (by kernel_rfl) (by kernel_rfl)) h

def F_spec_DependsOf : Fun := fun avs H =>
  match avs, H with
  | [.dat (.list (.int .i64)) x1897, .dat (.int .i64) x1898], [] => ⟨_, spec_DependsOf x1897 x1898, fun (t : (List Int)) => (.slc 0, [some (.seq (.int .i64) t)])⟩
  | _, _ => Ans.no

theorem spec_DependsOf_sound : Sound Tryd.prog 26 F_spec_DependsOf := by
  refine fn_sound' (C := spec_DependsOf_ctx) (c := bodyOf Tryd.f26) (cok_of tys_ok (List.forall_mem_cons.2 ⟨spec_TreeOk_sound, by simp⟩) (List.forall_mem_cons.2 ⟨Tryd.call27, by simp⟩) (by kernel_rfl)) Tryd.func26 (by kernel_rfl) LL spec_DependsOf_an ?_
  intro avs H r H' h
  unfold F_spec_DependsOf at h
  split at h
  · refine Awp.cast ?_ ?_ ?_ (spec_DependsOf_e _ _ h) <;> kernel_rfl
  · simp [Ans.no, Ans.run] at h

/-! loop.example/headtrees/laws.FnDependsOf -/

def laws_FnDependsOf_an : Ann := (.seq (.leaf [0]) (.seq (.seq (.leaf [0, 13]) (.cond (.seq (.leaf [2]) (.leaf [2])) (.leaf [0]))) (.seq (.leaf [3, 4]) (.seq (.leaf [3, 4, 5]) (.seq (.seq (.leaf [3, 4, 5, 27]) (.cond (.seq (.leaf [2]) (.leaf [2])) (.leaf [3, 4, 5]))) (.seq (.seq (.leaf [3, 4, 5, 40]) (.cond (.seq (.leaf [2]) (.leaf [2])) (.leaf [3, 4, 5]))) (.seq (.seq (.leaf [3, 4, 5, 48]) (.cond (.seq (.draw [8] [0, 1, 2, 3, 4, 5, 6, 7, 8, 9, 10, 11] [] [2]) (.leaf [2])) (.leaf [3, 4, 5]))) (.seq (.leaf [3, 4, 5, 6]) (.seq (.leaf [3, 4, 5, 6, 7]) (.seq (.seq (.leaf [3, 4, 5, 6, 7, 8]) (.block (.loop (.seq (.seq (.leaf [3, 4, 5, 6, 7, 8, 66]) (.cond (.leaf [3, 4, 5, 6, 7, 8]) (.leaf [5, 6, 7]))) (.seq (.block (.seq (.leaf [3, 4, 5, 6, 7, 8, 9]) (.seq (.seq (.leaf [3, 4, 5, 6, 7, 8, 9, 10]) (.block (.loop (.seq (.seq (.leaf [3, 4, 5, 6, 7, 8, 9, 10, 78]) (.cond (.leaf [3, 4, 5, 6, 7, 8, 9, 10]) (.leaf [3, 4, 5, 6, 7, 8, 9]))) (.seq (.block (.seq (.leaf [3, 4, 5, 6, 7, 8, 9, 10, 95]) (.cond (.seq (.leaf [2]) (.leaf [2])) (.leaf [3, 4, 5, 6, 7, 8, 9, 10])))) (.leaf [3, 4, 5, 6, 7, 8, 9, 10])))))) (.leaf [3, 4, 5, 6, 7, 8])))) (.leaf [3, 4, 5, 6, 7, 8])))))) (.seq (.leaf [2]) (.leaf [2]))))))))))))

noncomputable def laws_FnDependsOf_ctx : Ctx := ⟨tlook tys, olook [(24, F_spec_DrawDependsOf), (25, F_impl_DependsOf), (26, F_spec_DependsOf), (18, F_laws_sameInts), (27, F_spec_TreeOk), (20, F_laws_alive), (23, F_impl_RootOf), (17, F_impl_YieldOf), (21, F_laws_hasInt), (22, F_laws_ascend)], ioF, 0⟩

theorem laws_FnDependsOf_n1_l (x1837 : List Int) : Link laws_FnDependsOf_ctx LL (Code.seq (Code.fst (bodyOf Tryd.f4)) (Code.seq (Code.fst (Code.snd (bodyOf Tryd.f4))) (Code.seq (Code.fst (Code.snd (Code.snd (bodyOf Tryd.f4)))) (Code.seq (Code.fst (Code.snd (Code.snd (Code.snd (bodyOf Tryd.f4))))) (Code.seq (Code.fst (Code.snd (Code.snd (Code.snd (Code.snd (bodyOf Tryd.f4)))))) (Code.seq (Code.fst (Code.snd (Code.snd (Code.snd (Code.snd (Code.snd (bodyOf Tryd.f4))))))) (Code.seq (Code.fst (Code.snd (Code.snd (Code.snd (Code.snd (Code.snd (Code.snd (bodyOf Tryd.f4)))))))) (Code.seq (Code.fst (Code.snd (Code.snd (Code.snd (Code.snd (Code.snd (Code.snd (Code.snd (bodyOf Tryd.f4))))))))) (Code.fst (Code.snd (Code.snd (Code.snd (Code.snd (Code.snd (Code.snd (Code.snd (Code.snd (bodyOf Tryd.f4)))))))))))))))))) (Ann.seq (Ann.fst laws_FnDependsOf_an) (Ann.seq (Ann.fst (Ann.snd laws_FnDependsOf_an)) (Ann.seq (Ann.fst (Ann.snd (Ann.snd laws_FnDependsOf_an))) (Ann.seq (Ann.fst (Ann.snd (Ann.snd (Ann.snd laws_FnDependsOf_an)))) (Ann.seq (Ann.fst (Ann.snd (Ann.snd (Ann.snd (Ann.snd laws_FnDependsOf_an))))) (Ann.seq (Ann.fst (Ann.snd (Ann.snd (Ann.snd (Ann.snd (Ann.snd laws_FnDependsOf_an)))))) (Ann.seq (Ann.fst (Ann.snd (Ann.snd (Ann.snd (Ann.snd (Ann.snd (Ann.snd laws_FnDependsOf_an))))))) (Ann.seq (Ann.fst (Ann.snd (Ann.snd (Ann.snd (Ann.snd (Ann.snd (Ann.snd (Ann.snd laws_FnDependsOf_an)))))))) (Ann.fst (Ann.snd (Ann.snd (Ann.snd (Ann.snd (Ann.snd (Ann.snd (Ann.snd (Ann.snd laws_FnDependsOf_an))))))))))))))))) (⟨mkE 108 0 [(0, .dat (.list (.int .u8)) x1837)], []⟩ : St) (laws_FnDependsOf_n1 x1837) (Sum.elim (fun (t : Int × (List Int) × (List Int) × (List Int)) => (Exit.normal, (⟨mkE 108 0 [(3, .slc 0), (4, .dat (.int .i64) t.1), (5, .slc 1), (6, .slc 2), (7, .dat (.int .i64) 1)], [some (.seq (.int .i64) t.2.1), some (.seq (.int .i64) t.2.2.1), some (.seq (.int .i64) t.2.2.2)]⟩ : St))) (fun (t : Bool) => (Exit.ret, (⟨mkE 108 0 [(2, .dat .bool t)], []⟩ : St)))) := by
  refine Link.of fun K h => ?_
  simp only [laws_FnDependsOf_n1, wpO_bind, wpO_cond, wpO_map, wpO_some] at h
  exact Awp.of (by kernel_rfl) h

theorem laws_FnDependsOf_n2_l (x2045 : Int) (x2046 : List Int) (x2047 : List Int) (x2072 : List Int) : Link laws_FnDependsOf_ctx LL (Code.fst (Code.fst (Code.snd (Code.snd (Code.snd (Code.snd (Code.snd (Code.snd (Code.snd (Code.snd (Code.snd (bodyOf Tryd.f4)))))))))))) (Ann.fst (Ann.fst (Ann.snd (Ann.snd (Ann.snd (Ann.snd (Ann.snd (Ann.snd (Ann.snd (Ann.snd (Ann.snd laws_FnDependsOf_an))))))))))) (⟨mkE 108 0 [(3, .slc 0), (4, .dat (.int .i64) x2045), (5, .slc 1), (6, .slc 2), (7, .dat (.int .i64) 1)], [some (.seq (.int .i64) x2046), some (.seq (.int .i64) x2047), some (.seq (.int .i64) x2072)]⟩ : St) (laws_FnDependsOf_n2) (fun (t : Unit) => (Exit.normal, (⟨mkE 108 0 [(3, .slc 0), (4, .dat (.int .i64) x2045), (5, .slc 1), (6, .slc 2), (7, .dat (.int .i64) 1), (8, .dat (.int .i64) 0)], [some (.seq (.int .i64) x2046), some (.seq (.int .i64) x2047), some (.seq (.int .i64) x2072)]⟩ : St))) := by
  refine Link.of fun K h => ?_
  simp only [laws_FnDependsOf_n2, wpO_bind, wpO_cond, wpO_map, wpO_some] at h
  exact Awp.of (by kernel_rfl) h

theorem laws_FnDependsOf_n3_l (x2045 : Int) (x2124 : Int) (x2125 : Int) (x2046 : List Int) (x2047 : List Int) (x2072 : List Int) : Link laws_FnDependsOf_ctx LL (Code.fst (Code.fst (Code.fst (Code.snd (Code.fst (Code.snd (Code.snd (Code.snd (Code.snd (Code.snd (Code.snd (Code.snd (Code.snd (Code.snd (bodyOf Tryd.f4))))))))))))))) (Ann.fst (Ann.fst (Ann.fst (Ann.snd (Ann.fst (Ann.snd (Ann.snd (Ann.snd (Ann.snd (Ann.snd (Ann.snd (Ann.snd (Ann.snd (Ann.snd laws_FnDependsOf_an)))))))))))))) (⟨mkE 108 0 [(3, .slc 0), (4, .dat (.int .i64) x2045), (5, .slc 1), (6, .slc 2), (7, .dat (.int .i64) x2124), (8, .dat (.int .i64) x2125)], [some (.seq (.int .i64) x2046), some (.seq (.int .i64) x2047), some (.seq (.int .i64) x2072)]⟩ : St) (laws_FnDependsOf_n3 x2124 x2125 x2047) (Sum.elim (fun (t : Unit) => (Exit.normal, (⟨mkE 108 0 [(3, .slc 0), (4, .dat (.int .i64) x2045), (5, .slc 1), (6, .slc 2), (7, .dat (.int .i64) x2124), (8, .dat (.int .i64) x2125)], [some (.seq (.int .i64) x2046), some (.seq (.int .i64) x2047), some (.seq (.int .i64) x2072)]⟩ : St))) (fun (t : Int) => ((Exit.exit 0), (⟨mkE 108 0 [(5, .slc 0), (6, .slc 1), (7, .dat (.int .i64) t)], [some (.seq (.int .i64) x2047), some (.seq (.int .i64) x2072)]⟩ : St)))) := by
  refine Link.of fun K h => ?_
  simp only [laws_FnDependsOf_n3, wpO_bind, wpO_cond, wpO_map, wpO_some] at h
  exact Awp.of (by kernel_rfl) h

theorem laws_FnDependsOf_n4_l (x2045 : Int) (x2124 : Int) (x2125 : Int) (x2046 : List Int) (x2047 : List Int) (x2072 : List Int) : Link laws_FnDependsOf_ctx LL (Code.fst (Code.fst (Code.fst (Code.snd (Code.fst (Code.fst (Code.snd (Code.fst (Code.snd (Code.snd (Code.snd (Code.snd (Code.snd (Code.snd (Code.snd (Code.snd (Code.snd (bodyOf Tryd.f4)))))))))))))))))) (Ann.fst (Ann.fst (Ann.fst (Ann.snd (Ann.fst (Ann.fst (Ann.snd (Ann.fst (Ann.snd (Ann.snd (Ann.snd (Ann.snd (Ann.snd (Ann.snd (Ann.snd (Ann.snd (Ann.snd laws_FnDependsOf_an))))))))))))))))) (⟨mkE 108 0 [(3, .slc 0), (4, .dat (.int .i64) x2045), (5, .slc 1), (6, .slc 2), (7, .dat (.int .i64) x2124), (8, .dat (.int .i64) x2125)], [some (.seq (.int .i64) x2046), some (.seq (.int .i64) x2047), some (.seq (.int .i64) x2072)]⟩ : St) (laws_FnDependsOf_n4 x2125 x2046 x2047) (fun (t : (List Int)) => (Exit.normal, (⟨mkE 108 0 [(3, .slc 0), (4, .dat (.int .i64) x2045), (5, .slc 1), (6, .slc 2), (7, .dat (.int .i64) x2124), (8, .dat (.int .i64) x2125), (9, .slc 3)], [some (.seq (.int .i64) x2046), some (.seq (.int .i64) x2047), some (.seq (.int .i64) x2072), some (.seq (.int .i64) t)]⟩ : St))) := by
  refine Link.of fun K h => ?_
  simp only [laws_FnDependsOf_n4, wpO_bind, wpO_cond, wpO_map, wpO_some] at h
  exact Awp.of (by kernel_rfl) h

theorem laws_FnDependsOf_n5_l (x2045 : Int) (x2124 : Int) (x2125 : Int) (x2046 : List Int) (x2047 : List Int) (x2072 : List Int) (x2130 : List Int) : Link laws_FnDependsOf_ctx LL (Code.fst (Code.fst (Code.snd (Code.fst (Code.fst (Code.snd (Code.fst (Code.fst (Code.snd (Code.fst (Code.snd (Code.snd (Code.snd (Code.snd (Code.snd (Code.snd (Code.snd (Code.snd (Code.snd (bodyOf Tryd.f4)))))))))))))))))))) (Ann.fst (Ann.fst (Ann.snd (Ann.fst (Ann.fst (Ann.snd (Ann.fst (Ann.fst (Ann.snd (Ann.fst (Ann.snd (Ann.snd (Ann.snd (Ann.snd (Ann.snd (Ann.snd (Ann.snd (Ann.snd (Ann.snd laws_FnDependsOf_an))))))))))))))))))) (⟨mkE 108 0 [(3, .slc 0), (4, .dat (.int .i64) x2045), (5, .slc 1), (6, .slc 2), (7, .dat (.int .i64) x2124), (8, .dat (.int .i64) x2125), (9, .slc 3)], [some (.seq (.int .i64) x2046), some (.seq (.int .i64) x2047), some (.seq (.int .i64) x2072), some (.seq (.int .i64) x2130)]⟩ : St) (laws_FnDependsOf_n5) (fun (t : Unit) => (Exit.normal, (⟨mkE 108 0 [(3, .slc 0), (4, .dat (.int .i64) x2045), (5, .slc 1), (6, .slc 2), (7, .dat (.int .i64) x2124), (8, .dat (.int .i64) x2125), (9, .slc 3), (10, .dat (.int .i64) 0)], [some (.seq (.int .i64) x2046), some (.seq (.int .i64) x2047), some (.seq (.int .i64) x2072), some (.seq (.int .i64) x2130)]⟩ : St))) := by
  refine Link.of fun K h => ?_
  simp only [laws_FnDependsOf_n5, wpO_bind, wpO_cond, wpO_map, wpO_some] at h
  exact Awp.of (by kernel_rfl) h

theorem laws_FnDependsOf_n6_l (x2045 : Int) (x2124 : Int) (x2125 : Int) (x2152 : Int) (x2046 : List Int) (x2047 : List Int) (x2072 : List Int) (x2130 : List Int) : Link laws_FnDependsOf_ctx LL (Code.fst (Code.fst (Code.snd (Code.fst (Code.snd (Code.fst (Code.fst (Code.snd (Code.fst (Code.fst (Code.snd (Code.fst (Code.snd (Code.snd (Code.snd (Code.snd (Code.snd (Code.snd (Code.snd (Code.snd (Code.snd (bodyOf Tryd.f4)))))))))))))))))))))) (Ann.fst (Ann.fst (Ann.snd (Ann.fst (Ann.snd (Ann.fst (Ann.fst (Ann.snd (Ann.fst (Ann.fst (Ann.snd (Ann.fst (Ann.snd (Ann.snd (Ann.snd (Ann.snd (Ann.snd (Ann.snd (Ann.snd (Ann.snd (Ann.snd laws_FnDependsOf_an))))))))))))))))))))) (⟨mkE 108 0 [(3, .slc 0), (4, .dat (.int .i64) x2045), (5, .slc 1), (6, .slc 2), (7, .dat (.int .i64) x2124), (8, .dat (.int .i64) x2125), (9, .slc 3), (10, .dat (.int .i64) x2152)], [some (.seq (.int .i64) x2046), some (.seq (.int .i64) x2047), some (.seq (.int .i64) x2072), some (.seq (.int .i64) x2130)]⟩ : St) (laws_FnDependsOf_n6 x2045 x2152 x2072 x2130) (Sum.elim (fun (t : Int) => (Exit.normal, (⟨mkE 108 0 [(3, .slc 0), (4, .dat (.int .i64) x2045), (5, .slc 1), (6, .slc 2), (7, .dat (.int .i64) x2124), (8, .dat (.int .i64) x2125), (9, .slc 3), (10, .dat (.int .i64) t)], [some (.seq (.int .i64) x2046), some (.seq (.int .i64) x2047), some (.seq (.int .i64) x2072), some (.seq (.int .i64) x2130)]⟩ : St))) (Sum.elim (fun (t : Bool) => (Exit.ret, (⟨mkE 108 0 [(2, .dat .bool t)], []⟩ : St))) (fun (t : Unit) => ((Exit.exit 2), (⟨mkE 108 0 [(3, .slc 0), (4, .dat (.int .i64) x2045), (5, .slc 1), (6, .slc 2), (7, .dat (.int .i64) x2124), (8, .dat (.int .i64) x2125), (9, .slc 3)], [some (.seq (.int .i64) x2046), some (.seq (.int .i64) x2047), some (.seq (.int .i64) x2072), some (.seq (.int .i64) x2130)]⟩ : St))))) := by
  refine Link.of fun K h => ?_
  simp only [laws_FnDependsOf_n6, wpO_bind, wpO_cond, wpO_map, wpO_some] at h
  exact Awp.of (by kernel_rfl) h

theorem laws_FnDependsOf_n7_l (x2045 : Int) (x2124 : Int) (x2125 : Int) (x2046 : List Int) (x2047 : List Int) (x2072 : List Int) (x2130 : List Int) : Link laws_FnDependsOf_ctx LL (Code.fst (Code.snd (Code.fst (Code.snd (Code.fst (Code.fst (Code.snd (Code.fst (Code.fst (Code.snd (Code.fst (Code.snd (Code.snd (Code.snd (Code.snd (Code.snd (Code.snd (Code.snd (Code.snd (Code.snd (bodyOf Tryd.f4))))))))))))))))))))) (Ann.fst (Ann.snd (Ann.fst (Ann.snd (Ann.fst (Ann.fst (Ann.snd (Ann.fst (Ann.fst (Ann.snd (Ann.fst (Ann.snd (Ann.snd (Ann.snd (Ann.snd (Ann.snd (Ann.snd (Ann.snd (Ann.snd (Ann.snd laws_FnDependsOf_an)))))))))))))))))))) (⟨mkE 108 0 [(3, .slc 0), (4, .dat (.int .i64) x2045), (5, .slc 1), (6, .slc 2), (7, .dat (.int .i64) x2124), (8, .dat (.int .i64) x2125), (9, .slc 3), (10, .dat (.int .i64) 0)], [some (.seq (.int .i64) x2046), some (.seq (.int .i64) x2047), some (.seq (.int .i64) x2072), some (.seq (.int .i64) x2130)]⟩ : St) (laws_FnDependsOf_n7 x2045 x2072 x2130) (Sum.elim (fun (t : Bool) => (Exit.ret, (⟨mkE 108 0 [(2, .dat .bool t)], []⟩ : St))) (fun (t : Unit) => ((Exit.exit 2), (⟨mkE 108 0 [(3, .slc 0), (4, .dat (.int .i64) x2045), (5, .slc 1), (6, .slc 2), (7, .dat (.int .i64) x2124), (8, .dat (.int .i64) x2125), (9, .slc 3)], [some (.seq (.int .i64) x2046), some (.seq (.int .i64) x2047), some (.seq (.int .i64) x2072), some (.seq (.int .i64) x2130)]⟩ : St)))) := by
  unfold laws_FnDependsOf_n7
  exact Link.cast (by kernel_rfl) (by kernel_rfl) (link_loop (mk := fun (s : Int) => (⟨mkE 108 0 [(3, .slc 0), (4, .dat (.int .i64) x2045), (5, .slc 1), (6, .slc 2), (7, .dat (.int .i64) x2124), (8, .dat (.int .i64) x2125), (9, .slc 3), (10, .dat (.int .i64) s)], [some (.seq (.int .i64) x2046), some (.seq (.int .i64) x2047), some (.seq (.int .i64) x2072), some (.seq (.int .i64) x2130)]⟩ : St)) (fin := (Sum.elim (fun (t : Bool) => (Exit.ret, (⟨mkE 108 0 [(2, .dat .bool t)], []⟩ : St))) (fun (t : Unit) => ((Exit.exit 2), (⟨mkE 108 0 [(3, .slc 0), (4, .dat (.int .i64) x2045), (5, .slc 1), (6, .slc 2), (7, .dat (.int .i64) x2124), (8, .dat (.int .i64) x2125), (9, .slc 3)], [some (.seq (.int .i64) x2046), some (.seq (.int .i64) x2047), some (.seq (.int .i64) x2072), some (.seq (.int .i64) x2130)]⟩ : St))))) (by
  rintro (t | t) f K h
  · exact h
  · exact h) (fun s => link_map (laws_FnDependsOf_n6_l x2045 x2124 x2125 s x2046 x2047 x2072 x2130) (Sum.elim (fun (t : Int) => Sum.inl t) (Sum.elim (fun (t : Bool) => Sum.inr (Sum.inl t)) (fun (t : Unit) => Sum.inr (Sum.inr t)))) (by
  rintro (t | t | t)
  · kernel_rfl
  · kernel_rfl
  · kernel_rfl)) 0)

theorem laws_FnDependsOf_n8_l (x2045 : Int) (x2124 : Int) (x2125 : Int) (x2046 : List Int) (x2047 : List Int) (x2072 : List Int) (x2130 : List Int) : Link laws_FnDependsOf_ctx LL (Code.snd (Code.fst (Code.snd (Code.fst (Code.fst (Code.snd (Code.fst (Code.fst (Code.snd (Code.fst (Code.snd (Code.snd (Code.snd (Code.snd (Code.snd (Code.snd (Code.snd (Code.snd (Code.snd (bodyOf Tryd.f4)))))))))))))))))))) (Ann.snd (Ann.fst (Ann.snd (Ann.fst (Ann.fst (Ann.snd (Ann.fst (Ann.fst (Ann.snd (Ann.fst (Ann.snd (Ann.snd (Ann.snd (Ann.snd (Ann.snd (Ann.snd (Ann.snd (Ann.snd (Ann.snd laws_FnDependsOf_an))))))))))))))))))) (⟨mkE 108 0 [(3, .slc 0), (4, .dat (.int .i64) x2045), (5, .slc 1), (6, .slc 2), (7, .dat (.int .i64) x2124), (8, .dat (.int .i64) x2125), (9, .slc 3), (10, .dat (.int .i64) 0)], [some (.seq (.int .i64) x2046), some (.seq (.int .i64) x2047), some (.seq (.int .i64) x2072), some (.seq (.int .i64) x2130)]⟩ : St) (laws_FnDependsOf_n8 x2045 x2072 x2130) (Sum.elim (fun (t : Unit) => (Exit.normal, (⟨mkE 108 0 [(3, .slc 0), (4, .dat (.int .i64) x2045), (5, .slc 1), (6, .slc 2), (7, .dat (.int .i64) x2124), (8, .dat (.int .i64) x2125), (9, .slc 3)], [some (.seq (.int .i64) x2046), some (.seq (.int .i64) x2047), some (.seq (.int .i64) x2072), some (.seq (.int .i64) x2130)]⟩ : St))) (fun (t : Bool) => (Exit.ret, (⟨mkE 108 0 [(2, .dat .bool t)], []⟩ : St)))) := by
  unfold laws_FnDependsOf_n8
  exact Link.cast (by kernel_rfl) (by kernel_rfl) (link_block (id := 2) (laws_FnDependsOf_n7_l x2045 x2124 x2125 x2046 x2047 x2072 x2130) (Sum.elim (fun (t : Bool) => (Sum.inr t)) (fun (t : Unit) => (Sum.inl ()))) (by
  rintro (t | t) K h
  · exact Eq.mp (by kernel_rfl) h
  · exact Eq.mp (by kernel_rfl) h))

theorem laws_FnDependsOf_n9_l (x2045 : Int) (x2124 : Int) (x2125 : Int) (x2046 : List Int) (x2047 : List Int) (x2072 : List Int) (x2130 : List Int) : Link laws_FnDependsOf_ctx LL (Code.fst (Code.snd (Code.fst (Code.fst (Code.snd (Code.fst (Code.fst (Code.snd (Code.fst (Code.snd (Code.snd (Code.snd (Code.snd (Code.snd (Code.snd (Code.snd (Code.snd (Code.snd (bodyOf Tryd.f4))))))))))))))))))) (Ann.fst (Ann.snd (Ann.fst (Ann.fst (Ann.snd (Ann.fst (Ann.fst (Ann.snd (Ann.fst (Ann.snd (Ann.snd (Ann.snd (Ann.snd (Ann.snd (Ann.snd (Ann.snd (Ann.snd (Ann.snd laws_FnDependsOf_an)))))))))))))))))) (⟨mkE 108 0 [(3, .slc 0), (4, .dat (.int .i64) x2045), (5, .slc 1), (6, .slc 2), (7, .dat (.int .i64) x2124), (8, .dat (.int .i64) x2125), (9, .slc 3)], [some (.seq (.int .i64) x2046), some (.seq (.int .i64) x2047), some (.seq (.int .i64) x2072), some (.seq (.int .i64) x2130)]⟩ : St) (laws_FnDependsOf_n9 x2045 x2072 x2130) (Sum.elim (fun (t : Unit) => (Exit.normal, (⟨mkE 108 0 [(3, .slc 0), (4, .dat (.int .i64) x2045), (5, .slc 1), (6, .slc 2), (7, .dat (.int .i64) x2124), (8, .dat (.int .i64) x2125), (9, .slc 3)], [some (.seq (.int .i64) x2046), some (.seq (.int .i64) x2047), some (.seq (.int .i64) x2072), some (.seq (.int .i64) x2130)]⟩ : St))) (fun (t : Bool) => (Exit.ret, (⟨mkE 108 0 [(2, .dat .bool t)], []⟩ : St)))) := by
  unfold laws_FnDependsOf_n9
  exact Link.cast (by kernel_rfl) (by kernel_rfl) (link_seq (b := (Code.snd (Code.fst (Code.snd (Code.fst (Code.fst (Code.snd (Code.fst (Code.fst (Code.snd (Code.fst (Code.snd (Code.snd (Code.snd (Code.snd (Code.snd (Code.snd (Code.snd (Code.snd (Code.snd (bodyOf Tryd.f4))))))))))))))))))))) (y := (Ann.snd (Ann.fst (Ann.snd (Ann.fst (Ann.fst (Ann.snd (Ann.fst (Ann.fst (Ann.snd (Ann.fst (Ann.snd (Ann.snd (Ann.snd (Ann.snd (Ann.snd (Ann.snd (Ann.snd (Ann.snd (Ann.snd laws_FnDependsOf_an)))))))))))))))))))) (laws_FnDependsOf_n5_l x2045 x2124 x2125 x2046 x2047 x2072 x2130) (fun (t : Unit) => (laws_FnDependsOf_n8_l x2045 x2124 x2125 x2046 x2047 x2072 x2130)))

theorem laws_FnDependsOf_n10_l (x2045 : Int) (x2124 : Int) (x2125 : Int) (x2046 : List Int) (x2047 : List Int) (x2072 : List Int) (x2130 : List Int) : Link laws_FnDependsOf_ctx LL (Code.snd (Code.snd (Code.fst (Code.fst (Code.snd (Code.fst (Code.fst (Code.snd (Code.fst (Code.snd (Code.snd (Code.snd (Code.snd (Code.snd (Code.snd (Code.snd (Code.snd (Code.snd (bodyOf Tryd.f4))))))))))))))))))) (Ann.snd (Ann.snd (Ann.fst (Ann.fst (Ann.snd (Ann.fst (Ann.fst (Ann.snd (Ann.fst (Ann.snd (Ann.snd (Ann.snd (Ann.snd (Ann.snd (Ann.snd (Ann.snd (Ann.snd (Ann.snd laws_FnDependsOf_an)))))))))))))))))) (⟨mkE 108 0 [(3, .slc 0), (4, .dat (.int .i64) x2045), (5, .slc 1), (6, .slc 2), (7, .dat (.int .i64) x2124), (8, .dat (.int .i64) x2125), (9, .slc 3)], [some (.seq (.int .i64) x2046), some (.seq (.int .i64) x2047), some (.seq (.int .i64) x2072), some (.seq (.int .i64) x2130)]⟩ : St) (laws_FnDependsOf_n10 x2124 x2130) (fun (t : Int) => (Exit.normal, (⟨mkE 108 0 [(3, .slc 0), (4, .dat (.int .i64) x2045), (5, .slc 1), (6, .slc 2), (7, .dat (.int .i64) t), (8, .dat (.int .i64) x2125)], [some (.seq (.int .i64) x2046), some (.seq (.int .i64) x2047), some (.seq (.int .i64) x2072)]⟩ : St))) := by
  refine Link.of fun K h => ?_
  simp only [laws_FnDependsOf_n10, wpO_bind, wpO_cond, wpO_map, wpO_some] at h
  exact Awp.of (by kernel_rfl) h

theorem laws_FnDependsOf_n11_l (x2045 : Int) (x2124 : Int) (x2125 : Int) (x2046 : List Int) (x2047 : List Int) (x2072 : List Int) (x2130 : List Int) : Link laws_FnDependsOf_ctx LL (Code.snd (Code.fst (Code.fst (Code.snd (Code.fst (Code.fst (Code.snd (Code.fst (Code.snd (Code.snd (Code.snd (Code.snd (Code.snd (Code.snd (Code.snd (Code.snd (Code.snd (bodyOf Tryd.f4)))))))))))))))))) (Ann.snd (Ann.fst (Ann.fst (Ann.snd (Ann.fst (Ann.fst (Ann.snd (Ann.fst (Ann.snd (Ann.snd (Ann.snd (Ann.snd (Ann.snd (Ann.snd (Ann.snd (Ann.snd (Ann.snd laws_FnDependsOf_an))))))))))))))))) (⟨mkE 108 0 [(3, .slc 0), (4, .dat (.int .i64) x2045), (5, .slc 1), (6, .slc 2), (7, .dat (.int .i64) x2124), (8, .dat (.int .i64) x2125), (9, .slc 3)], [some (.seq (.int .i64) x2046), some (.seq (.int .i64) x2047), some (.seq (.int .i64) x2072), some (.seq (.int .i64) x2130)]⟩ : St) (laws_FnDependsOf_n11 x2045 x2124 x2072 x2130) (Sum.elim (fun (t : Int) => (Exit.normal, (⟨mkE 108 0 [(3, .slc 0), (4, .dat (.int .i64) x2045), (5, .slc 1), (6, .slc 2), (7, .dat (.int .i64) t), (8, .dat (.int .i64) x2125)], [some (.seq (.int .i64) x2046), some (.seq (.int .i64) x2047), some (.seq (.int .i64) x2072)]⟩ : St))) (fun (t : Bool) => (Exit.ret, (⟨mkE 108 0 [(2, .dat .bool t)], []⟩ : St)))) := by
  unfold laws_FnDependsOf_n11
  exact Link.cast (by kernel_rfl) (by kernel_rfl) (link_seq2 (b := (Code.snd (Code.snd (Code.fst (Code.fst (Code.snd (Code.fst (Code.fst (Code.snd (Code.fst (Code.snd (Code.snd (Code.snd (Code.snd (Code.snd (Code.snd (Code.snd (Code.snd (Code.snd (bodyOf Tryd.f4)))))))))))))))))))) (y := (Ann.snd (Ann.snd (Ann.fst (Ann.fst (Ann.snd (Ann.fst (Ann.fst (Ann.snd (Ann.fst (Ann.snd (Ann.snd (Ann.snd (Ann.snd (Ann.snd (Ann.snd (Ann.snd (Ann.snd (Ann.snd laws_FnDependsOf_an))))))))))))))))))) (laws_FnDependsOf_n9_l x2045 x2124 x2125 x2046 x2047 x2072 x2130) (fun (t : Unit) => (link_map (laws_FnDependsOf_n10_l x2045 x2124 x2125 x2046 x2047 x2072 x2130) (fun (t : Int) => (Sum.inl t)) (by
  rintro t
  · kernel_rfl))) (fun (t : Bool) => (Sum.inr t)) (by
  rintro t
  · kernel_rfl) (by
  rintro t f K h
  · exact h))

theorem laws_FnDependsOf_n12_l (x2045 : Int) (x2124 : Int) (x2125 : Int) (x2046 : List Int) (x2047 : List Int) (x2072 : List Int) : Link laws_FnDependsOf_ctx LL (Code.fst (Code.fst (Code.snd (Code.fst (Code.fst (Code.snd (Code.fst (Code.snd (Code.snd (Code.snd (Code.snd (Code.snd (Code.snd (Code.snd (Code.snd (Code.snd (bodyOf Tryd.f4))))))))))))))))) (Ann.fst (Ann.fst (Ann.snd (Ann.fst (Ann.fst (Ann.snd (Ann.fst (Ann.snd (Ann.snd (Ann.snd (Ann.snd (Ann.snd (Ann.snd (Ann.snd (Ann.snd (Ann.snd laws_FnDependsOf_an)))))))))))))))) (⟨mkE 108 0 [(3, .slc 0), (4, .dat (.int .i64) x2045), (5, .slc 1), (6, .slc 2), (7, .dat (.int .i64) x2124), (8, .dat (.int .i64) x2125)], [some (.seq (.int .i64) x2046), some (.seq (.int .i64) x2047), some (.seq (.int .i64) x2072)]⟩ : St) (laws_FnDependsOf_n12 x2045 x2124 x2125 x2046 x2047 x2072) (Sum.elim (fun (t : Int) => (Exit.normal, (⟨mkE 108 0 [(3, .slc 0), (4, .dat (.int .i64) x2045), (5, .slc 1), (6, .slc 2), (7, .dat (.int .i64) t), (8, .dat (.int .i64) x2125)], [some (.seq (.int .i64) x2046), some (.seq (.int .i64) x2047), some (.seq (.int .i64) x2072)]⟩ : St))) (fun (t : Bool) => (Exit.ret, (⟨mkE 108 0 [(2, .dat .bool t)], []⟩ : St)))) := by
  unfold laws_FnDependsOf_n12
  exact Link.cast (by kernel_rfl) (by kernel_rfl) (link_seq (b := (Code.snd (Code.fst (Code.fst (Code.snd (Code.fst (Code.fst (Code.snd (Code.fst (Code.snd (Code.snd (Code.snd (Code.snd (Code.snd (Code.snd (Code.snd (Code.snd (Code.snd (bodyOf Tryd.f4))))))))))))))))))) (y := (Ann.snd (Ann.fst (Ann.fst (Ann.snd (Ann.fst (Ann.fst (Ann.snd (Ann.fst (Ann.snd (Ann.snd (Ann.snd (Ann.snd (Ann.snd (Ann.snd (Ann.snd (Ann.snd (Ann.snd laws_FnDependsOf_an)))))))))))))))))) (laws_FnDependsOf_n4_l x2045 x2124 x2125 x2046 x2047 x2072) (fun (t : (List Int)) => (laws_FnDependsOf_n11_l x2045 x2124 x2125 x2046 x2047 x2072 t)))

theorem laws_FnDependsOf_n13_l (x2045 : Int) (x2124 : Int) (x2125 : Int) (x2046 : List Int) (x2047 : List Int) (x2072 : List Int) : Link laws_FnDependsOf_ctx LL (Code.fst (Code.snd (Code.fst (Code.fst (Code.snd (Code.fst (Code.snd (Code.snd (Code.snd (Code.snd (Code.snd (Code.snd (Code.snd (Code.snd (Code.snd (bodyOf Tryd.f4)))))))))))))))) (Ann.fst (Ann.snd (Ann.fst (Ann.fst (Ann.snd (Ann.fst (Ann.snd (Ann.snd (Ann.snd (Ann.snd (Ann.snd (Ann.snd (Ann.snd (Ann.snd (Ann.snd laws_FnDependsOf_an))))))))))))))) (⟨mkE 108 0 [(3, .slc 0), (4, .dat (.int .i64) x2045), (5, .slc 1), (6, .slc 2), (7, .dat (.int .i64) x2124), (8, .dat (.int .i64) x2125)], [some (.seq (.int .i64) x2046), some (.seq (.int .i64) x2047), some (.seq (.int .i64) x2072)]⟩ : St) (laws_FnDependsOf_n13 x2045 x2124 x2125 x2046 x2047 x2072) (Sum.elim (fun (t : Int) => (Exit.normal, (⟨mkE 108 0 [(3, .slc 0), (4, .dat (.int .i64) x2045), (5, .slc 1), (6, .slc 2), (7, .dat (.int .i64) t), (8, .dat (.int .i64) x2125)], [some (.seq (.int .i64) x2046), some (.seq (.int .i64) x2047), some (.seq (.int .i64) x2072)]⟩ : St))) (fun (t : Bool) => (Exit.ret, (⟨mkE 108 0 [(2, .dat .bool t)], []⟩ : St)))) := by
  unfold laws_FnDependsOf_n13
  exact Link.cast (by kernel_rfl) (by kernel_rfl) (link_block (id := 1) (laws_FnDependsOf_n12_l x2045 x2124 x2125 x2046 x2047 x2072) (Sum.elim (fun (t : Int) => (Sum.inl t)) (fun (t : Bool) => (Sum.inr t))) (by
  rintro (t | t) K h
  · exact Eq.mp (by kernel_rfl) h
  · exact Eq.mp (by kernel_rfl) h))

theorem laws_FnDependsOf_n14_l (x2045 : Int) (x2175 : Int) (x2125 : Int) (x2046 : List Int) (x2047 : List Int) (x2072 : List Int) : Link laws_FnDependsOf_ctx LL (Code.snd (Code.snd (Code.fst (Code.fst (Code.snd (Code.fst (Code.snd (Code.snd (Code.snd (Code.snd (Code.snd (Code.snd (Code.snd (Code.snd (Code.snd (bodyOf Tryd.f4)))))))))))))))) (Ann.snd (Ann.snd (Ann.fst (Ann.fst (Ann.snd (Ann.fst (Ann.snd (Ann.snd (Ann.snd (Ann.snd (Ann.snd (Ann.snd (Ann.snd (Ann.snd (Ann.snd laws_FnDependsOf_an))))))))))))))) (⟨mkE 108 0 [(3, .slc 0), (4, .dat (.int .i64) x2045), (5, .slc 1), (6, .slc 2), (7, .dat (.int .i64) x2175), (8, .dat (.int .i64) x2125)], [some (.seq (.int .i64) x2046), some (.seq (.int .i64) x2047), some (.seq (.int .i64) x2072)]⟩ : St) (laws_FnDependsOf_n14 x2125) (fun (t : Int) => (Exit.normal, (⟨mkE 108 0 [(3, .slc 0), (4, .dat (.int .i64) x2045), (5, .slc 1), (6, .slc 2), (7, .dat (.int .i64) x2175), (8, .dat (.int .i64) t)], [some (.seq (.int .i64) x2046), some (.seq (.int .i64) x2047), some (.seq (.int .i64) x2072)]⟩ : St))) := by
  refine Link.of fun K h => ?_
  simp only [laws_FnDependsOf_n14, wpO_bind, wpO_cond, wpO_map, wpO_some] at h
  exact Awp.of (by kernel_rfl) h

theorem laws_FnDependsOf_n15_l (x2045 : Int) (x2124 : Int) (x2125 : Int) (x2046 : List Int) (x2047 : List Int) (x2072 : List Int) : Link laws_FnDependsOf_ctx LL (Code.snd (Code.fst (Code.fst (Code.snd (Code.fst (Code.snd (Code.snd (Code.snd (Code.snd (Code.snd (Code.snd (Code.snd (Code.snd (Code.snd (bodyOf Tryd.f4))))))))))))))) (Ann.snd (Ann.fst (Ann.fst (Ann.snd (Ann.fst (Ann.snd (Ann.snd (Ann.snd (Ann.snd (Ann.snd (Ann.snd (Ann.snd (Ann.snd (Ann.snd laws_FnDependsOf_an)))))))))))))) (⟨mkE 108 0 [(3, .slc 0), (4, .dat (.int .i64) x2045), (5, .slc 1), (6, .slc 2), (7, .dat (.int .i64) x2124), (8, .dat (.int .i64) x2125)], [some (.seq (.int .i64) x2046), some (.seq (.int .i64) x2047), some (.seq (.int .i64) x2072)]⟩ : St) (laws_FnDependsOf_n15 x2045 x2124 x2125 x2046 x2047 x2072) (Sum.elim (fun (t : Int × Int) => (Exit.normal, (⟨mkE 108 0 [(3, .slc 0), (4, .dat (.int .i64) x2045), (5, .slc 1), (6, .slc 2), (7, .dat (.int .i64) t.1), (8, .dat (.int .i64) t.2)], [some (.seq (.int .i64) x2046), some (.seq (.int .i64) x2047), some (.seq (.int .i64) x2072)]⟩ : St))) (fun (t : Bool) => (Exit.ret, (⟨mkE 108 0 [(2, .dat .bool t)], []⟩ : St)))) := by
  unfold laws_FnDependsOf_n15
  exact Link.cast (by kernel_rfl) (by kernel_rfl) (link_seq2 (b := (Code.snd (Code.snd (Code.fst (Code.fst (Code.snd (Code.fst (Code.snd (Code.snd (Code.snd (Code.snd (Code.snd (Code.snd (Code.snd (Code.snd (Code.snd (bodyOf Tryd.f4))))))))))))))))) (y := (Ann.snd (Ann.snd (Ann.fst (Ann.fst (Ann.snd (Ann.fst (Ann.snd (Ann.snd (Ann.snd (Ann.snd (Ann.snd (Ann.snd (Ann.snd (Ann.snd (Ann.snd laws_FnDependsOf_an)))))))))))))))) (laws_FnDependsOf_n13_l x2045 x2124 x2125 x2046 x2047 x2072) (fun (t : Int) => (link_map (laws_FnDependsOf_n14_l x2045 t x2125 x2046 x2047 x2072) (fun (u : Int) => (Sum.inl (t, u))) (by
  rintro t
  · kernel_rfl))) (fun (t : Bool) => (Sum.inr t)) (by
  rintro t
  · kernel_rfl) (by
  rintro t f K h
  · exact h))

theorem laws_FnDependsOf_n16_l (x2045 : Int) (x2124 : Int) (x2125 : Int) (x2046 : List Int) (x2047 : List Int) (x2072 : List Int) : Link laws_FnDependsOf_ctx LL (Code.fst (Code.fst (Code.snd (Code.fst (Code.snd (Code.snd (Code.snd (Code.snd (Code.snd (Code.snd (Code.snd (Code.snd (Code.snd (bodyOf Tryd.f4)))))))))))))) (Ann.fst (Ann.fst (Ann.snd (Ann.fst (Ann.snd (Ann.snd (Ann.snd (Ann.snd (Ann.snd (Ann.snd (Ann.snd (Ann.snd (Ann.snd laws_FnDependsOf_an))))))))))))) (⟨mkE 108 0 [(3, .slc 0), (4, .dat (.int .i64) x2045), (5, .slc 1), (6, .slc 2), (7, .dat (.int .i64) x2124), (8, .dat (.int .i64) x2125)], [some (.seq (.int .i64) x2046), some (.seq (.int .i64) x2047), some (.seq (.int .i64) x2072)]⟩ : St) (laws_FnDependsOf_n16 x2045 x2124 x2125 x2046 x2047 x2072) (Sum.elim (fun (t : Int × Int) => (Exit.normal, (⟨mkE 108 0 [(3, .slc 0), (4, .dat (.int .i64) x2045), (5, .slc 1), (6, .slc 2), (7, .dat (.int .i64) t.1), (8, .dat (.int .i64) t.2)], [some (.seq (.int .i64) x2046), some (.seq (.int .i64) x2047), some (.seq (.int .i64) x2072)]⟩ : St))) (Sum.elim (fun (t : Bool) => (Exit.ret, (⟨mkE 108 0 [(2, .dat .bool t)], []⟩ : St))) (fun (t : Int) => ((Exit.exit 0), (⟨mkE 108 0 [(5, .slc 0), (6, .slc 1), (7, .dat (.int .i64) t)], [some (.seq (.int .i64) x2047), some (.seq (.int .i64) x2072)]⟩ : St))))) := by
  unfold laws_FnDependsOf_n16
  exact Link.cast (by kernel_rfl) (by kernel_rfl) (link_seq2 (b := (Code.snd (Code.fst (Code.fst (Code.snd (Code.fst (Code.snd (Code.snd (Code.snd (Code.snd (Code.snd (Code.snd (Code.snd (Code.snd (Code.snd (bodyOf Tryd.f4)))))))))))))))) (y := (Ann.snd (Ann.fst (Ann.fst (Ann.snd (Ann.fst (Ann.snd (Ann.snd (Ann.snd (Ann.snd (Ann.snd (Ann.snd (Ann.snd (Ann.snd (Ann.snd laws_FnDependsOf_an))))))))))))))) (laws_FnDependsOf_n3_l x2045 x2124 x2125 x2046 x2047 x2072) (fun (t : Unit) => (link_map (laws_FnDependsOf_n15_l x2045 x2124 x2125 x2046 x2047 x2072) (Sum.elim (fun (t : Int × Int) => (Sum.inl (t.1, t.2))) (fun (t : Bool) => (Sum.inr (Sum.inl t)))) (by
  rintro (t | t)
  · kernel_rfl
  · kernel_rfl))) (fun (t : Int) => (Sum.inr (Sum.inr t))) (by
  rintro t
  · kernel_rfl) (by
  rintro t f K h
  · exact h))

theorem laws_FnDependsOf_n17_l (x2045 : Int) (x2046 : List Int) (x2047 : List Int) (x2072 : List Int) : Link laws_FnDependsOf_ctx LL (Code.fst (Code.snd (Code.fst (Code.snd (Code.snd (Code.snd (Code.snd (Code.snd (Code.snd (Code.snd (Code.snd (Code.snd (bodyOf Tryd.f4))))))))))))) (Ann.fst (Ann.snd (Ann.fst (Ann.snd (Ann.snd (Ann.snd (Ann.snd (Ann.snd (Ann.snd (Ann.snd (Ann.snd (Ann.snd laws_FnDependsOf_an)))))))))))) (⟨mkE 108 0 [(3, .slc 0), (4, .dat (.int .i64) x2045), (5, .slc 1), (6, .slc 2), (7, .dat (.int .i64) 1), (8, .dat (.int .i64) 0)], [some (.seq (.int .i64) x2046), some (.seq (.int .i64) x2047), some (.seq (.int .i64) x2072)]⟩ : St) (laws_FnDependsOf_n17 x2045 x2046 x2047 x2072) (Sum.elim (fun (t : Bool) => (Exit.ret, (⟨mkE 108 0 [(2, .dat .bool t)], []⟩ : St))) (fun (t : Int) => ((Exit.exit 0), (⟨mkE 108 0 [(5, .slc 0), (6, .slc 1), (7, .dat (.int .i64) t)], [some (.seq (.int .i64) x2047), some (.seq (.int .i64) x2072)]⟩ : St)))) := by
  unfold laws_FnDependsOf_n17
  exact Link.cast (by kernel_rfl) (by kernel_rfl) (link_loop (mk := fun (s : Int × Int) => (⟨mkE 108 0 [(3, .slc 0), (4, .dat (.int .i64) x2045), (5, .slc 1), (6, .slc 2), (7, .dat (.int .i64) s.1), (8, .dat (.int .i64) s.2)], [some (.seq (.int .i64) x2046), some (.seq (.int .i64) x2047), some (.seq (.int .i64) x2072)]⟩ : St)) (fin := (Sum.elim (fun (t : Bool) => (Exit.ret, (⟨mkE 108 0 [(2, .dat .bool t)], []⟩ : St))) (fun (t : Int) => ((Exit.exit 0), (⟨mkE 108 0 [(5, .slc 0), (6, .slc 1), (7, .dat (.int .i64) t)], [some (.seq (.int .i64) x2047), some (.seq (.int .i64) x2072)]⟩ : St))))) (by
  rintro (t | t) f K h
  · exact h
  · exact h) (fun s => link_map (laws_FnDependsOf_n16_l x2045 s.1 s.2 x2046 x2047 x2072) (Sum.elim (fun (t : Int × Int) => Sum.inl (t.1, t.2)) (Sum.elim (fun (t : Bool) => Sum.inr (Sum.inl t)) (fun (t : Int) => Sum.inr (Sum.inr t)))) (by
  rintro (t | t | t)
  · kernel_rfl
  · kernel_rfl
  · kernel_rfl)) (1, 0))

theorem laws_FnDependsOf_n18_l (x2045 : Int) (x2046 : List Int) (x2047 : List Int) (x2072 : List Int) : Link laws_FnDependsOf_ctx LL (Code.snd (Code.fst (Code.snd (Code.snd (Code.snd (Code.snd (Code.snd (Code.snd (Code.snd (Code.snd (Code.snd (bodyOf Tryd.f4)))))))))))) (Ann.snd (Ann.fst (Ann.snd (Ann.snd (Ann.snd (Ann.snd (Ann.snd (Ann.snd (Ann.snd (Ann.snd (Ann.snd laws_FnDependsOf_an))))))))))) (⟨mkE 108 0 [(3, .slc 0), (4, .dat (.int .i64) x2045), (5, .slc 1), (6, .slc 2), (7, .dat (.int .i64) 1), (8, .dat (.int .i64) 0)], [some (.seq (.int .i64) x2046), some (.seq (.int .i64) x2047), some (.seq (.int .i64) x2072)]⟩ : St) (laws_FnDependsOf_n18 x2045 x2046 x2047 x2072) (Sum.elim (fun (t : Int) => (Exit.normal, (⟨mkE 108 0 [(5, .slc 0), (6, .slc 1), (7, .dat (.int .i64) t)], [some (.seq (.int .i64) x2047), some (.seq (.int .i64) x2072)]⟩ : St))) (fun (t : Bool) => (Exit.ret, (⟨mkE 108 0 [(2, .dat .bool t)], []⟩ : St)))) := by
  unfold laws_FnDependsOf_n18
  exact Link.cast (by kernel_rfl) (by kernel_rfl) (link_block (id := 0) (laws_FnDependsOf_n17_l x2045 x2046 x2047 x2072) (Sum.elim (fun (t : Bool) => (Sum.inr t)) (fun (t : Int) => (Sum.inl t))) (by
  rintro (t | t) K h
  · exact Eq.mp (by kernel_rfl) h
  · exact Eq.mp (by kernel_rfl) h))

theorem laws_FnDependsOf_n19_l (x2045 : Int) (x2046 : List Int) (x2047 : List Int) (x2072 : List Int) : Link laws_FnDependsOf_ctx LL (Code.fst (Code.snd (Code.snd (Code.snd (Code.snd (Code.snd (Code.snd (Code.snd (Code.snd (Code.snd (bodyOf Tryd.f4))))))))))) (Ann.fst (Ann.snd (Ann.snd (Ann.snd (Ann.snd (Ann.snd (Ann.snd (Ann.snd (Ann.snd (Ann.snd laws_FnDependsOf_an)))))))))) (⟨mkE 108 0 [(3, .slc 0), (4, .dat (.int .i64) x2045), (5, .slc 1), (6, .slc 2), (7, .dat (.int .i64) 1)], [some (.seq (.int .i64) x2046), some (.seq (.int .i64) x2047), some (.seq (.int .i64) x2072)]⟩ : St) (laws_FnDependsOf_n19 x2045 x2046 x2047 x2072) (Sum.elim (fun (t : Int) => (Exit.normal, (⟨mkE 108 0 [(5, .slc 0), (6, .slc 1), (7, .dat (.int .i64) t)], [some (.seq (.int .i64) x2047), some (.seq (.int .i64) x2072)]⟩ : St))) (fun (t : Bool) => (Exit.ret, (⟨mkE 108 0 [(2, .dat .bool t)], []⟩ : St)))) := by
  unfold laws_FnDependsOf_n19
  exact Link.cast (by kernel_rfl) (by kernel_rfl) (link_seq (b := (Code.snd (Code.fst (Code.snd (Code.snd (Code.snd (Code.snd (Code.snd (Code.snd (Code.snd (Code.snd (Code.snd (bodyOf Tryd.f4))))))))))))) (y := (Ann.snd (Ann.fst (Ann.snd (Ann.snd (Ann.snd (Ann.snd (Ann.snd (Ann.snd (Ann.snd (Ann.snd (Ann.snd laws_FnDependsOf_an)))))))))))) (laws_FnDependsOf_n2_l x2045 x2046 x2047 x2072) (fun (t : Unit) => (laws_FnDependsOf_n18_l x2045 x2046 x2047 x2072)))

theorem laws_FnDependsOf_n20_l (x2124 : Int) (x2047 : List Int) (x2072 : List Int) : Link laws_FnDependsOf_ctx LL (Code.snd (Code.snd (Code.snd (Code.snd (Code.snd (Code.snd (Code.snd (Code.snd (Code.snd (Code.snd (bodyOf Tryd.f4))))))))))) (Ann.snd (Ann.snd (Ann.snd (Ann.snd (Ann.snd (Ann.snd (Ann.snd (Ann.snd (Ann.snd (Ann.snd laws_FnDependsOf_an)))))))))) (⟨mkE 108 0 [(5, .slc 0), (6, .slc 1), (7, .dat (.int .i64) x2124)], [some (.seq (.int .i64) x2047), some (.seq (.int .i64) x2072)]⟩ : St) (laws_FnDependsOf_n20 x2124 x2047 x2072) (fun (t : Bool) => (Exit.ret, (⟨mkE 108 0 [(2, .dat .bool t)], []⟩ : St))) := by
  refine Link.of fun K h => ?_
  simp only [laws_FnDependsOf_n20, wpO_bind, wpO_cond, wpO_map, wpO_some] at h
  exact Awp.of (by kernel_rfl) h

theorem laws_FnDependsOf_n21_l (x2045 : Int) (x2046 : List Int) (x2047 : List Int) (x2072 : List Int) : Link laws_FnDependsOf_ctx LL (Code.snd (Code.snd (Code.snd (Code.snd (Code.snd (Code.snd (Code.snd (Code.snd (Code.snd (bodyOf Tryd.f4)))))))))) (Ann.snd (Ann.snd (Ann.snd (Ann.snd (Ann.snd (Ann.snd (Ann.snd (Ann.snd (Ann.snd laws_FnDependsOf_an))))))))) (⟨mkE 108 0 [(3, .slc 0), (4, .dat (.int .i64) x2045), (5, .slc 1), (6, .slc 2), (7, .dat (.int .i64) 1)], [some (.seq (.int .i64) x2046), some (.seq (.int .i64) x2047), some (.seq (.int .i64) x2072)]⟩ : St) (laws_FnDependsOf_n21 x2045 x2046 x2047 x2072) (fun (t : Bool) => (Exit.ret, (⟨mkE 108 0 [(2, .dat .bool t)], []⟩ : St))) := by
  unfold laws_FnDependsOf_n21
  exact Link.cast (by kernel_rfl) (by kernel_rfl) (link_seq2 (b := (Code.snd (Code.snd (Code.snd (Code.snd (Code.snd (Code.snd (Code.snd (Code.snd (Code.snd (Code.snd (bodyOf Tryd.f4)))))))))))) (y := (Ann.snd (Ann.snd (Ann.snd (Ann.snd (Ann.snd (Ann.snd (Ann.snd (Ann.snd (Ann.snd (Ann.snd laws_FnDependsOf_an))))))))))) (laws_FnDependsOf_n19_l x2045 x2046 x2047 x2072) (fun (t : Int) => (laws_FnDependsOf_n20_l t x2047 x2072)) (fun (t : Bool) => t) (by
  rintro t
  · kernel_rfl) (by
  rintro t f K h
  · exact h))

theorem laws_FnDependsOf_n22_l (x1837 : List Int) : Link laws_FnDependsOf_ctx LL (bodyOf Tryd.f4) laws_FnDependsOf_an (⟨mkE 108 0 [(0, .dat (.list (.int .u8)) x1837)], []⟩ : St) (laws_FnDependsOf_n22 x1837) (fun (t : Bool) => (Exit.ret, (⟨mkE 108 0 [(2, .dat .bool t)], []⟩ : St))) := by
  unfold laws_FnDependsOf_n22
  exact Link.cast (by kernel_rfl) (by kernel_rfl) (link_group (c := (Code.fst (Code.snd (Code.snd (Code.snd (Code.snd (Code.snd (Code.snd (Code.snd (Code.snd (bodyOf Tryd.f4))))))))))) (a := (Ann.fst (Ann.snd (Ann.snd (Ann.snd (Ann.snd (Ann.snd (Ann.snd (Ann.snd (Ann.snd laws_FnDependsOf_an)))))))))) [(Code.fst (bodyOf Tryd.f4)), (Code.fst (Code.snd (bodyOf Tryd.f4))), (Code.fst (Code.snd (Code.snd (bodyOf Tryd.f4)))), (Code.fst (Code.snd (Code.snd (Code.snd (bodyOf Tryd.f4))))), (Code.fst (Code.snd (Code.snd (Code.snd (Code.snd (bodyOf Tryd.f4)))))), (Code.fst (Code.snd (Code.snd (Code.snd (Code.snd (Code.snd (bodyOf Tryd.f4))))))), (Code.fst (Code.snd (Code.snd (Code.snd (Code.snd (Code.snd (Code.snd (bodyOf Tryd.f4)))))))), (Code.fst (Code.snd (Code.snd (Code.snd (Code.snd (Code.snd (Code.snd (Code.snd (bodyOf Tryd.f4)))))))))] [(Ann.fst laws_FnDependsOf_an), (Ann.fst (Ann.snd laws_FnDependsOf_an)), (Ann.fst (Ann.snd (Ann.snd laws_FnDependsOf_an))), (Ann.fst (Ann.snd (Ann.snd (Ann.snd laws_FnDependsOf_an)))), (Ann.fst (Ann.snd (Ann.snd (Ann.snd (Ann.snd laws_FnDependsOf_an))))), (Ann.fst (Ann.snd (Ann.snd (Ann.snd (Ann.snd (Ann.snd laws_FnDependsOf_an)))))), (Ann.fst (Ann.snd (Ann.snd (Ann.snd (Ann.snd (Ann.snd (Ann.snd laws_FnDependsOf_an))))))), (Ann.fst (Ann.snd (Ann.snd (Ann.snd (Ann.snd (Ann.snd (Ann.snd (Ann.snd laws_FnDependsOf_an))))))))] rfl (link_seq2 (b := (Code.snd (Code.snd (Code.snd (Code.snd (Code.snd (Code.snd (Code.snd (Code.snd (Code.snd (bodyOf Tryd.f4))))))))))) (y := (Ann.snd (Ann.snd (Ann.snd (Ann.snd (Ann.snd (Ann.snd (Ann.snd (Ann.snd (Ann.snd laws_FnDependsOf_an)))))))))) (laws_FnDependsOf_n1_l x1837) (fun (t : Int × (List Int) × (List Int) × (List Int)) => (laws_FnDependsOf_n21_l t.1 t.2.1 t.2.2.1 t.2.2.2)) (fun (t : Bool) => t) (by
  rintro t
  · kernel_rfl) (by
  rintro t f K h
  · exact h)))

theorem laws_FnDependsOf_e (x1837 : List Int) {r : AV} {H' : Heap} (h : (Ans.mk _ (laws_FnDependsOf x1837) (fun (t : Bool) => (.dat .bool t, []))).run = some (r, H')) : Awp laws_FnDependsOf_ctx LL (bodyOf Tryd.f4) laws_FnDependsOf_an (⟨mkE 108 0 [(0, .dat (.list (.int .u8)) x1837)], []⟩ : St) (Ret (tlook tys) Tryd.f4.results.toList r H') :=
  ret_of' (laws_FnDependsOf_n22_l x1837) (by unfold laws_FnDependsOf; kernel_rfl) (by
  intro t
  exact ret_mk [.dat .bool t] (by kernel_rfl) (by kernel_rfl) (by kernel_rfl) (by kernel_rfl)) h

def F_laws_FnDependsOf : Fun := fun avs H =>
  match avs, H with
  | [.dat (.list (.int .u8)) x1837], [] => ⟨_, laws_FnDependsOf x1837, fun (t : Bool) => (.dat .bool t, [])⟩
  | _, _ => Ans.no

theorem laws_FnDependsOf_sound : Sound Tryd.prog 4 F_laws_FnDependsOf := by
  refine fn_sound' (C := laws_FnDependsOf_ctx) (c := bodyOf Tryd.f4) (cok_of tys_ok (List.forall_mem_cons.2 ⟨spec_DrawDependsOf_sound, List.forall_mem_cons.2 ⟨impl_DependsOf_sound, List.forall_mem_cons.2 ⟨spec_DependsOf_sound, List.forall_mem_cons.2 ⟨laws_sameInts_sound, List.forall_mem_cons.2 ⟨spec_TreeOk_sound, List.forall_mem_cons.2 ⟨laws_alive_sound, List.forall_mem_cons.2 ⟨impl_RootOf_sound, List.forall_mem_cons.2 ⟨impl_YieldOf_sound, List.forall_mem_cons.2 ⟨laws_hasInt_sound, List.forall_mem_cons.2 ⟨laws_ascend_sound, by simp⟩⟩⟩⟩⟩⟩⟩⟩⟩⟩) (List.forall_mem_cons.2 ⟨Tryd.call24, List.forall_mem_cons.2 ⟨Tryd.call25, List.forall_mem_cons.2 ⟨Tryd.call26, List.forall_mem_cons.2 ⟨Tryd.call18, List.forall_mem_cons.2 ⟨Tryd.call27, List.forall_mem_cons.2 ⟨Tryd.call20, List.forall_mem_cons.2 ⟨Tryd.call23, List.forall_mem_cons.2 ⟨Tryd.call17, List.forall_mem_cons.2 ⟨Tryd.call21, List.forall_mem_cons.2 ⟨Tryd.call22, by simp⟩⟩⟩⟩⟩⟩⟩⟩⟩⟩) (by kernel_rfl)) Tryd.func4 (by kernel_rfl) LL laws_FnDependsOf_an ?_
  intro avs H r H' h
  unfold F_laws_FnDependsOf at h
  split at h
  · refine Awp.cast ?_ ?_ ?_ (laws_FnDependsOf_e _ h) <;> kernel_rfl
  · simp [Ans.no, Ans.run] at h

/-! loop.example/headtrees/spec.DrawUnderOk -/

def spec_DrawUnderOk_an : Ann := (.seq (.leaf [0]) (.seq (.leaf [5]) (.seq (.leaf [5, 6, 7]) (.seq (.leaf [2, 3, 4]) (.leaf [2, 3, 4])))))

noncomputable def spec_DrawUnderOk_ctx : Ctx := ⟨tlook tys, olook [(54, F_spec_l20Open), (53, F_spec_l20Word), (63, F_spec_l20Rd_pick)], ioF, 0⟩

theorem spec_DrawUnderOk_n1_l (x2190 : List Int) : Link spec_DrawUnderOk_ctx LL (bodyOf Tryd.f28) spec_DrawUnderOk_an (⟨mkE 23 0 [(0, .dat (.list (.int .u8)) x2190)], []⟩ : St) (spec_DrawUnderOk_n1 x2190) (fun (t : Int × Int × (List Int)) => (Exit.ret, (⟨mkE 23 0 [(2, .slc 0), (3, .dat (.int .i64) t.1), (4, .dat (.int .i64) t.2.1)], [some (.seq (.int .i64) t.2.2)]⟩ : St))) := by
  refine Link.of fun K h => ?_
  simp only [spec_DrawUnderOk_n1, wpO_bind, wpO_cond, wpO_map, wpO_some] at h
  exact Awp.of (by kernel_rfl) h

theorem spec_DrawUnderOk_e (x2190 : List Int) {r : AV} {H' : Heap} (h : (Ans.mk _ (spec_DrawUnderOk x2190) (fun (t : Int × Int × (List Int)) => (.tup [.slc 0, .dat (.int .i64) t.1, .dat (.int .i64) t.2.1], [some (.seq (.int .i64) t.2.2)]))).run = some (r, H')) : Awp spec_DrawUnderOk_ctx LL (bodyOf Tryd.f28) spec_DrawUnderOk_an (⟨mkE 23 0 [(0, .dat (.list (.int .u8)) x2190)], []⟩ : St) (Ret (tlook tys) Tryd.f28.results.toList r H') :=
  ret_of' (spec_DrawUnderOk_n1_l x2190) (by unfold spec_DrawUnderOk; kernel_rfl) (by
  intro t
  exact ret_mk [.slc 0, .dat (.int .i64) t.1, .dat (.int .i64) t.2.1] (by kernel_rfl) (by kernel_rfl) (by kernel_rfl) (by kernel_rfl)) h

def F_spec_DrawUnderOk : Fun := fun avs H =>
  match avs, H with
  | [.dat (.list (.int .u8)) x2190], [] => ⟨_, spec_DrawUnderOk x2190, fun (t : Int × Int × (List Int)) => (.tup [.slc 0, .dat (.int .i64) t.1, .dat (.int .i64) t.2.1], [some (.seq (.int .i64) t.2.2)])⟩
  | _, _ => Ans.no

theorem spec_DrawUnderOk_sound : Sound Tryd.prog 28 F_spec_DrawUnderOk := by
  refine fn_sound' (C := spec_DrawUnderOk_ctx) (c := bodyOf Tryd.f28) (cok_of tys_ok (List.forall_mem_cons.2 ⟨spec_l20Open_sound, List.forall_mem_cons.2 ⟨spec_l20Word_sound, List.forall_mem_cons.2 ⟨spec_l20Rd_pick_sound, by simp⟩⟩⟩) (List.forall_mem_cons.2 ⟨Tryd.call54, List.forall_mem_cons.2 ⟨Tryd.call53, List.forall_mem_cons.2 ⟨Tryd.call63, by simp⟩⟩⟩) (by kernel_rfl)) Tryd.func28 (by kernel_rfl) LL spec_DrawUnderOk_an ?_
  intro avs H r H' h
  unfold F_spec_DrawUnderOk at h
  split at h
  · refine Awp.cast ?_ ?_ ?_ (spec_DrawUnderOk_e _ h) <;> kernel_rfl
  · simp [Ans.no, Ans.run] at h

/-! (loop.example/headtrees/impl.wordSet).hasAll -/

def impl_wordSet_hasAll_an : Ann := (.seq (.leaf [0, 1]) (.seq (.leaf [4]) (.leaf [4])))

noncomputable def impl_wordSet_hasAll_ctx : Ctx := ⟨tlook tys, olook [], ioF, 0⟩

theorem impl_wordSet_hasAll_n1_l (x2245 : Int) (x2246 : Int) : Link impl_wordSet_hasAll_ctx LL (bodyOf Tryd.f64) impl_wordSet_hasAll_an (⟨mkE 10 0 [(0, .dat (.int .u64) x2245), (1, .dat (.int .u64) x2246)], []⟩ : St) (impl_wordSet_hasAll_n1 x2245 x2246) (fun (t : Bool) => (Exit.ret, (⟨mkE 10 0 [(4, .dat .bool t)], []⟩ : St))) := by
  refine Link.of fun K h => ?_
  simp only [impl_wordSet_hasAll_n1, wpO_bind, wpO_cond, wpO_map, wpO_some] at h
  exact Awp.of (by kernel_rfl) h

theorem impl_wordSet_hasAll_e (x2245 : Int) (x2246 : Int) {r : AV} {H' : Heap} (h : (Ans.mk _ (impl_wordSet_hasAll x2245 x2246) (fun (t : Bool) => (.dat .bool t, []))).run = some (r, H')) : Awp impl_wordSet_hasAll_ctx LL (bodyOf Tryd.f64) impl_wordSet_hasAll_an (⟨mkE 10 0 [(0, .dat (.int .u64) x2245), (1, .dat (.int .u64) x2246)], []⟩ : St) (Ret (tlook tys) Tryd.f64.results.toList r H') :=
  ret_of' (impl_wordSet_hasAll_n1_l x2245 x2246) (by unfold impl_wordSet_hasAll; kernel_rfl) (by
  intro t
  exact ret_mk [.dat .bool t] (by kernel_rfl) (by kernel_rfl) (by kernel_rfl) (by kernel_rfl)) h

def F_impl_wordSet_hasAll : Fun := fun avs H =>
  match avs, H with
  | [.dat (.int .u64) x2245, .dat (.int .u64) x2246], [] => ⟨_, impl_wordSet_hasAll x2245 x2246, fun (t : Bool) => (.dat .bool t, [])⟩
  | _, _ => Ans.no

theorem impl_wordSet_hasAll_sound : Sound Tryd.prog 64 F_impl_wordSet_hasAll := by
  refine fn_sound' (C := impl_wordSet_hasAll_ctx) (c := bodyOf Tryd.f64) (cok_of tys_ok (by simp) (by simp) (by kernel_rfl)) Tryd.func64 (by kernel_rfl) LL impl_wordSet_hasAll_an ?_
  intro avs H r H' h
  unfold F_impl_wordSet_hasAll at h
  split at h
  · refine Awp.cast ?_ ?_ ?_ (impl_wordSet_hasAll_e _ _ h) <;> kernel_rfl
  · simp [Ans.no, Ans.run] at h

/-! loop.example/headtrees/impl.UnderOk -/

def impl_UnderOk_an : Ann := (.seq (.leaf [0, 1, 2]) (.seq (.seq (.leaf [0, 1, 2, 16]) (.cond (.seq (.leaf [6]) (.leaf [6])) (.leaf [0, 1, 2]))) (.seq (.draw [1, 7, 8] [0, 2, 3, 6, 1, 4, 5, 7, 8, 9] [] [6]) (.leaf [6]))))

noncomputable def impl_UnderOk_ctx : Ctx := ⟨tlook tys, olook [(55, F_impl_wordOk), (56, F_impl_yieldsOf), (65, F_impl_only), (64, F_impl_wordSet_hasAll)], ioF, 0⟩

theorem impl_UnderOk_n1_l (x2229 : List Int) (x2230 : Int) (x2231 : Int) : Link impl_UnderOk_ctx LL (bodyOf Tryd.f29) impl_UnderOk_an (⟨mkE 26 0 [(0, .dat (.list (.int .i64)) x2229), (1, .dat (.int .i64) x2230), (2, .dat (.int .i64) x2231)], []⟩ : St) (impl_UnderOk_n1 x2229 x2230 x2231) (fun (t : Bool) => (Exit.ret, (⟨mkE 26 0 [(6, .dat .bool t)], []⟩ : St))) := by
  refine Link.of fun K h => ?_
  simp only [impl_UnderOk_n1, wpO_bind, wpO_cond, wpO_map, wpO_some] at h
  exact Awp.of (by kernel_rfl) h

theorem impl_UnderOk_e (x2229 : List Int) (x2230 : Int) (x2231 : Int) {r : AV} {H' : Heap} (h : (Ans.mk _ (impl_UnderOk x2229 x2230 x2231) (fun (t : Bool) => (.dat .bool t, []))).run = some (r, H')) : Awp impl_UnderOk_ctx LL (bodyOf Tryd.f29) impl_UnderOk_an (⟨mkE 26 0 [(0, .dat (.list (.int .i64)) x2229), (1, .dat (.int .i64) x2230), (2, .dat (.int .i64) x2231)], []⟩ : St) (Ret (tlook tys) Tryd.f29.results.toList r H') :=
  ret_of' (impl_UnderOk_n1_l x2229 x2230 x2231) (by unfold impl_UnderOk; kernel_rfl) (by
  intro t
  exact ret_mk [.dat .bool t] (by kernel_rfl) (by kernel_rfl) (by kernel_rfl) (by kernel_rfl)) h

def F_impl_UnderOk : Fun := fun avs H =>
  match avs, H with
  | [.dat (.list (.int .i64)) x2229, .dat (.int .i64) x2230, .dat (.int .i64) x2231], [] => ⟨_, impl_UnderOk x2229 x2230 x2231, fun (t : Bool) => (.dat .bool t, [])⟩
  | _, _ => Ans.no

theorem impl_UnderOk_sound : Sound Tryd.prog 29 F_impl_UnderOk := by
  refine fn_sound' (C := impl_UnderOk_ctx) (c := bodyOf Tryd.f29) (cok_of tys_ok (List.forall_mem_cons.2 ⟨impl_wordOk_sound, List.forall_mem_cons.2 ⟨impl_yieldsOf_sound, List.forall_mem_cons.2 ⟨impl_only_sound, List.forall_mem_cons.2 ⟨impl_wordSet_hasAll_sound, by simp⟩⟩⟩⟩) (List.forall_mem_cons.2 ⟨Tryd.call55, List.forall_mem_cons.2 ⟨Tryd.call56, List.forall_mem_cons.2 ⟨Tryd.call65, List.forall_mem_cons.2 ⟨Tryd.call64, by simp⟩⟩⟩⟩) (by kernel_rfl)) Tryd.func29 (by kernel_rfl) LL impl_UnderOk_an ?_
  intro avs H r H' h
  unfold F_impl_UnderOk at h
  split at h
  · refine Awp.cast ?_ ?_ ?_ (impl_UnderOk_e _ _ _ h) <;> kernel_rfl
  · simp [Ans.no, Ans.run] at h

/-! loop.example/headtrees/spec.UnderOk -/

def spec_UnderOk_an : Ann := (.seq (.leaf [0, 1, 2]) (.seq (.seq (.leaf [0, 1, 2, 23]) (.cond (.seq (.leaf [6]) (.leaf [6])) (.leaf [0, 1, 2]))) (.seq (.leaf [6]) (.leaf [6]))))

noncomputable def spec_UnderOk_ctx : Ctx := ⟨tlook tys, olook [(27, F_spec_TreeOk), (58, F_spec_l1In), (60, F_spec_l2Yield)], ioF, 0⟩

theorem spec_UnderOk_n1_l (x2271 : List Int) (x2272 : Int) (x2273 : Int) : Link spec_UnderOk_ctx LL (bodyOf Tryd.f30) spec_UnderOk_an (⟨mkE 32 0 [(0, .dat (.list (.int .i64)) x2271), (1, .dat (.int .i64) x2272), (2, .dat (.int .i64) x2273)], []⟩ : St) (spec_UnderOk_n1 x2271 x2272 x2273) (fun (t : Bool) => (Exit.ret, (⟨mkE 32 0 [(6, .dat .bool t)], []⟩ : St))) := by
  refine Link.of fun K h => ?_
  simp only [spec_UnderOk_n1, wpO_bind, wpO_cond, wpO_map, wpO_some] at h
  exact Awp.of (by kernel_rfl) h

theorem spec_UnderOk_e (x2271 : List Int) (x2272 : Int) (x2273 : Int) {r : AV} {H' : Heap} (h : (Ans.mk _ (spec_UnderOk x2271 x2272 x2273) (fun (t : Bool) => (.dat .bool t, []))).run = some (r, H')) : Awp spec_UnderOk_ctx LL (bodyOf Tryd.f30) spec_UnderOk_an (⟨mkE 32 0 [(0, .dat (.list (.int .i64)) x2271), (1, .dat (.int .i64) x2272), (2, .dat (.int .i64) x2273)], []⟩ : St) (Ret (tlook tys) Tryd.f30.results.toList r H') :=
  ret_of' (spec_UnderOk_n1_l x2271 x2272 x2273) (by unfold spec_UnderOk; kernel_rfl) (by
  intro t
  exact ret_mk [.dat .bool t] (by kernel_rfl) (by kernel_rfl) (by kernel_rfl) (by kernel_rfl)) h

def F_spec_UnderOk : Fun := fun avs H =>
  match avs, H with
  | [.dat (.list (.int .i64)) x2271, .dat (.int .i64) x2272, .dat (.int .i64) x2273], [] => ⟨_, spec_UnderOk x2271 x2272 x2273, fun (t : Bool) => (.dat .bool t, [])⟩
  | _, _ => Ans.no

theorem spec_UnderOk_sound : Sound Tryd.prog 30 F_spec_UnderOk := by
  refine fn_sound' (C := spec_UnderOk_ctx) (c := bodyOf Tryd.f30) (cok_of tys_ok (List.forall_mem_cons.2 ⟨spec_TreeOk_sound, List.forall_mem_cons.2 ⟨spec_l1In_sound, List.forall_mem_cons.2 ⟨spec_l2Yield_sound, by simp⟩⟩⟩) (List.forall_mem_cons.2 ⟨Tryd.call27, List.forall_mem_cons.2 ⟨Tryd.call58, List.forall_mem_cons.2 ⟨Tryd.call60, by simp⟩⟩⟩) (by kernel_rfl)) Tryd.func30 (by kernel_rfl) LL spec_UnderOk_an ?_
  intro avs H r H' h
  unfold F_spec_UnderOk at h
  split at h
  · refine Awp.cast ?_ ?_ ?_ (spec_UnderOk_e _ _ _ h) <;> kernel_rfl
  · simp [Ans.no, Ans.run] at h

/-! loop.example/headtrees/laws.FnUnderOk -/

def laws_FnUnderOk_an : Ann := (.seq (.leaf [0]) (.seq (.seq (.leaf [0, 9]) (.cond (.seq (.leaf [2]) (.leaf [2])) (.leaf [0]))) (.seq (.leaf [3, 4, 5]) (.seq (.leaf [3, 4, 5, 6]) (.seq (.seq (.leaf [3, 4, 5, 6, 25]) (.cond (.seq (.leaf [2]) (.leaf [2])) (.leaf [3, 4, 5, 6]))) (.seq (.seq (.leaf [3, 4, 5, 6, 38]) (.cond (.seq (.leaf [2]) (.leaf [2])) (.leaf [3, 4, 5, 6]))) (.seq (.leaf [2]) (.leaf [2]))))))))

noncomputable def laws_FnUnderOk_ctx : Ctx := ⟨tlook tys, olook [(28, F_spec_DrawUnderOk), (29, F_impl_UnderOk), (30, F_spec_UnderOk), (27, F_spec_TreeOk), (20, F_laws_alive), (23, F_impl_RootOf)], ioF, 0⟩

theorem laws_FnUnderOk_n1_l (x2185 : List Int) : Link laws_FnUnderOk_ctx LL (Code.seq (Code.fst (bodyOf Tryd.f5)) (Code.seq (Code.fst (Code.snd (bodyOf Tryd.f5))) (Code.seq (Code.fst (Code.snd (Code.snd (bodyOf Tryd.f5)))) (Code.seq (Code.fst (Code.snd (Code.snd (Code.snd (bodyOf Tryd.f5))))) (Code.seq (Code.fst (Code.snd (Code.snd (Code.snd (Code.snd (bodyOf Tryd.f5)))))) (Code.fst (Code.snd (Code.snd (Code.snd (Code.snd (Code.snd (bodyOf Tryd.f5)))))))))))) (Ann.seq (Ann.fst laws_FnUnderOk_an) (Ann.seq (Ann.fst (Ann.snd laws_FnUnderOk_an)) (Ann.seq (Ann.fst (Ann.snd (Ann.snd laws_FnUnderOk_an))) (Ann.seq (Ann.fst (Ann.snd (Ann.snd (Ann.snd laws_FnUnderOk_an)))) (Ann.seq (Ann.fst (Ann.snd (Ann.snd (Ann.snd (Ann.snd laws_FnUnderOk_an))))) (Ann.fst (Ann.snd (Ann.snd (Ann.snd (Ann.snd (Ann.snd laws_FnUnderOk_an))))))))))) (⟨mkE 89 0 [(0, .dat (.list (.int .u8)) x2185)], []⟩ : St) (laws_FnUnderOk_n1 x2185) (Sum.elim (fun (t : Int × Int × Bool × (List Int)) => (Exit.normal, (⟨mkE 89 0 [(3, .slc 0), (4, .dat (.int .i64) t.1), (5, .dat (.int .i64) t.2.1), (6, .dat .bool t.2.2.1)], [some (.seq (.int .i64) t.2.2.2)]⟩ : St))) (fun (t : Bool) => (Exit.ret, (⟨mkE 89 0 [(2, .dat .bool t)], []⟩ : St)))) := by
  refine Link.of fun K h => ?_
  simp only [laws_FnUnderOk_n1, wpO_bind, wpO_cond, wpO_map, wpO_some] at h
  exact Awp.of (by kernel_rfl) h

theorem laws_FnUnderOk_n2_l (x2314 : Int) (x2315 : Int) (x2317 : Bool) (x2316 : List Int) : Link laws_FnUnderOk_ctx LL (Code.snd (Code.snd (Code.snd (Code.snd (Code.snd (Code.snd (bodyOf Tryd.f5))))))) (Ann.snd (Ann.snd (Ann.snd (Ann.snd (Ann.snd (Ann.snd laws_FnUnderOk_an)))))) (⟨mkE 89 0 [(3, .slc 0), (4, .dat (.int .i64) x2314), (5, .dat (.int .i64) x2315), (6, .dat .bool x2317)], [some (.seq (.int .i64) x2316)]⟩ : St) (laws_FnUnderOk_n2 x2314 x2315 x2317 x2316) (fun (t : Bool) => (Exit.ret, (⟨mkE 89 0 [(2, .dat .bool t)], []⟩ : St))) := by
  refine Link.of fun K h => ?_
  simp only [laws_FnUnderOk_n2, wpO_bind, wpO_cond, wpO_map, wpO_some] at h
  exact Awp.of (by kernel_rfl) h

theorem laws_FnUnderOk_n3_l (x2185 : List Int) : Link laws_FnUnderOk_ctx LL (bodyOf Tryd.f5) laws_FnUnderOk_an (⟨mkE 89 0 [(0, .dat (.list (.int .u8)) x2185)], []⟩ : St) (laws_FnUnderOk_n3 x2185) (fun (t : Bool) => (Exit.ret, (⟨mkE 89 0 [(2, .dat .bool t)], []⟩ : St))) := by
  unfold laws_FnUnderOk_n3
  exact Link.cast (by kernel_rfl) (by kernel_rfl) (link_group (c := (Code.fst (Code.snd (Code.snd (Code.snd (Code.snd (Code.snd (bodyOf Tryd.f5)))))))) (a := (Ann.fst (Ann.snd (Ann.snd (Ann.snd (Ann.snd (Ann.snd laws_FnUnderOk_an))))))) [(Code.fst (bodyOf Tryd.f5)), (Code.fst (Code.snd (bodyOf Tryd.f5))), (Code.fst (Code.snd (Code.snd (bodyOf Tryd.f5)))), (Code.fst (Code.snd (Code.snd (Code.snd (bodyOf Tryd.f5))))), (Code.fst (Code.snd (Code.snd (Code.snd (Code.snd (bodyOf Tryd.f5))))))] [(Ann.fst laws_FnUnderOk_an), (Ann.fst (Ann.snd laws_FnUnderOk_an)), (Ann.fst (Ann.snd (Ann.snd laws_FnUnderOk_an))), (Ann.fst (Ann.snd (Ann.snd (Ann.snd laws_FnUnderOk_an)))), (Ann.fst (Ann.snd (Ann.snd (Ann.snd (Ann.snd laws_FnUnderOk_an)))))] rfl (link_seq2 (b := (Code.snd (Code.snd (Code.snd (Code.snd (Code.snd (Code.snd (bodyOf Tryd.f5)))))))) (y := (Ann.snd (Ann.snd (Ann.snd (Ann.snd (Ann.snd (Ann.snd laws_FnUnderOk_an))))))) (laws_FnUnderOk_n1_l x2185) (fun (t : Int × Int × Bool × (List Int)) => (laws_FnUnderOk_n2_l t.1 t.2.1 t.2.2.1 t.2.2.2)) (fun (t : Bool) => t) (by
  rintro t
  · kernel_rfl) (by
  rintro t f K h
  · exact h)))

theorem laws_FnUnderOk_e (x2185 : List Int) {r : AV} {H' : Heap} (h : (Ans.mk _ (laws_FnUnderOk x2185) (fun (t : Bool) => (.dat .bool t, []))).run = some (r, H')) : Awp laws_FnUnderOk_ctx LL (bodyOf Tryd.f5) laws_FnUnderOk_an (⟨mkE 89 0 [(0, .dat (.list (.int .u8)) x2185)], []⟩ : St) (Ret (tlook tys) Tryd.f5.results.toList r H') :=
  ret_of' (laws_FnUnderOk_n3_l x2185) (by unfold laws_FnUnderOk; kernel_rfl) (by
  intro t
  exact ret_mk [.dat .bool t] (by kernel_rfl) (by kernel_rfl) (by kernel_rfl) (by kernel_rfl)) h

def F_laws_FnUnderOk : Fun := fun avs H =>
  match avs, H with
  | [.dat (.list (.int .u8)) x2185], [] => ⟨_, laws_FnUnderOk x2185, fun (t : Bool) => (.dat .bool t, [])⟩
  | _, _ => Ans.no

theorem laws_FnUnderOk_sound : Sound Tryd.prog 5 F_laws_FnUnderOk := by
  refine fn_sound' (C := laws_FnUnderOk_ctx) (c := bodyOf Tryd.f5) (cok_of tys_ok (List.forall_mem_cons.2 ⟨spec_DrawUnderOk_sound, List.forall_mem_cons.2 ⟨impl_UnderOk_sound, List.forall_mem_cons.2 ⟨spec_UnderOk_sound, List.forall_mem_cons.2 ⟨spec_TreeOk_sound, List.forall_mem_cons.2 ⟨laws_alive_sound, List.forall_mem_cons.2 ⟨impl_RootOf_sound, by simp⟩⟩⟩⟩⟩⟩) (List.forall_mem_cons.2 ⟨Tryd.call28, List.forall_mem_cons.2 ⟨Tryd.call29, List.forall_mem_cons.2 ⟨Tryd.call30, List.forall_mem_cons.2 ⟨Tryd.call27, List.forall_mem_cons.2 ⟨Tryd.call20, List.forall_mem_cons.2 ⟨Tryd.call23, by simp⟩⟩⟩⟩⟩⟩) (by kernel_rfl)) Tryd.func5 (by kernel_rfl) LL laws_FnUnderOk_an ?_
  intro avs H r H' h
  unfold F_laws_FnUnderOk at h
  split at h
  · refine Awp.cast ?_ ?_ ?_ (laws_FnUnderOk_e _ h) <;> kernel_rfl
  · simp [Ans.no, Ans.run] at h

/-! loop.example/headtrees/spec.DrawMeetOf -/

def spec_DrawMeetOf_an : Ann := (.seq (.leaf [0]) (.seq (.leaf [2, 3, 4]) (.leaf [2, 3, 4])))

noncomputable def spec_DrawMeetOf_ctx : Ctx := ⟨tlook tys, olook [(28, F_spec_DrawUnderOk)], ioF, 0⟩

theorem spec_DrawMeetOf_n1_l (x2451 : List Int) : Link spec_DrawMeetOf_ctx LL (bodyOf Tryd.f31) spec_DrawMeetOf_an (⟨mkE 10 0 [(0, .dat (.list (.int .u8)) x2451)], []⟩ : St) (spec_DrawMeetOf_n1 x2451) (fun (t : Int × Int × (List Int)) => (Exit.ret, (⟨mkE 10 0 [(2, .slc 0), (3, .dat (.int .i64) t.1), (4, .dat (.int .i64) t.2.1)], [some (.seq (.int .i64) t.2.2)]⟩ : St))) := by
  refine Link.of fun K h => ?_
  simp only [spec_DrawMeetOf_n1, wpO_bind, wpO_cond, wpO_map, wpO_some] at h
  exact Awp.of (by kernel_rfl) h

theorem spec_DrawMeetOf_e (x2451 : List Int) {r : AV} {H' : Heap} (h : (Ans.mk _ (spec_DrawMeetOf x2451) (fun (t : Int × Int × (List Int)) => (.tup [.slc 0, .dat (.int .i64) t.1, .dat (.int .i64) t.2.1], [some (.seq (.int .i64) t.2.2)]))).run = some (r, H')) : Awp spec_DrawMeetOf_ctx LL (bodyOf Tryd.f31) spec_DrawMeetOf_an (⟨mkE 10 0 [(0, .dat (.list (.int .u8)) x2451)], []⟩ : St) (Ret (tlook tys) Tryd.f31.results.toList r H') :=
  ret_of' (spec_DrawMeetOf_n1_l x2451) (by unfold spec_DrawMeetOf; kernel_rfl) (by
  intro t
  exact ret_mk [.slc 0, .dat (.int .i64) t.1, .dat (.int .i64) t.2.1] (by kernel_rfl) (by kernel_rfl) (by kernel_rfl) (by kernel_rfl)) h

def F_spec_DrawMeetOf : Fun := fun avs H =>
  match avs, H with
  | [.dat (.list (.int .u8)) x2451], [] => ⟨_, spec_DrawMeetOf x2451, fun (t : Int × Int × (List Int)) => (.tup [.slc 0, .dat (.int .i64) t.1, .dat (.int .i64) t.2.1], [some (.seq (.int .i64) t.2.2)])⟩
  | _, _ => Ans.no

theorem spec_DrawMeetOf_sound : Sound Tryd.prog 31 F_spec_DrawMeetOf := by
  refine fn_sound' (C := spec_DrawMeetOf_ctx) (c := bodyOf Tryd.f31) (cok_of tys_ok (List.forall_mem_cons.2 ⟨spec_DrawUnderOk_sound, by simp⟩) (List.forall_mem_cons.2 ⟨Tryd.call28, by simp⟩) (by kernel_rfl)) Tryd.func31 (by kernel_rfl) LL spec_DrawMeetOf_an ?_
  intro avs H r H' h
  unfold F_spec_DrawMeetOf at h
  split at h
  · refine Awp.cast ?_ ?_ ?_ (spec_DrawMeetOf_e _ h) <;> kernel_rfl
  · simp [Ans.no, Ans.run] at h

/-! loop.example/headtrees/impl.DepthOf -/

def impl_DepthOf_an : Ann := (.seq (.leaf [0]) (.seq (.seq (.leaf [0, 7]) (.cond (.seq (.leaf [2]) (.leaf [2])) (.leaf [0]))) (.seq (.leaf [0, 3]) (.seq (.seq (.leaf [0, 3, 12, 13]) (.block (.loop (.seq (.leaf [0, 3, 12, 13, 14]) (.seq (.cond (.leaf [0, 3, 12, 13]) (.leaf [3])) (.seq (.block (.seq (.leaf [0, 3, 4, 12, 13]) (.leaf [0, 3, 12, 13]))) (.leaf [0, 3, 12, 13]))))))) (.seq (.leaf [2]) (.leaf [2]))))))

noncomputable def impl_DepthOf_ctx : Ctx := ⟨tlook tys, olook [(40, F_impl_TreeOk), (75, F_impl_stepsToRoot)], ioF, 0⟩

theorem impl_DepthOf_n1_l (x2487 : List Int) : Link impl_DepthOf_ctx LL (Code.seq (Code.fst (bodyOf Tryd.f48)) (Code.seq (Code.fst (Code.snd (bodyOf Tryd.f48))) (Code.fst (Code.snd (Code.snd (bodyOf Tryd.f48)))))) (Ann.seq (Ann.fst impl_DepthOf_an) (Ann.seq (Ann.fst (Ann.snd impl_DepthOf_an)) (Ann.fst (Ann.snd (Ann.snd impl_DepthOf_an))))) (⟨mkE 28 0 [(0, .dat (.list (.int .i64)) x2487)], []⟩ : St) (impl_DepthOf_n1 x2487) (Sum.elim (fun (t : (List Int)) => (Exit.normal, (⟨mkE 28 0 [(0, .dat (.list (.int .i64)) x2487), (3, .slc 0)], [some (.seq (.int .i64) t)]⟩ : St))) (fun (t : (List Int)) => (Exit.ret, (⟨mkE 28 0 [(2, .slc 0)], [some (.seq (.int .i64) t)]⟩ : St)))) := by
  refine Link.of fun K h => ?_
  simp only [impl_DepthOf_n1, wpO_bind, wpO_cond, wpO_map, wpO_some] at h
  exact Awp.of (by kernel_rfl) h

theorem impl_DepthOf_n2_l (x2487 : List Int) (x2494 : List Int) : Link impl_DepthOf_ctx LL (Code.fst (Code.fst (Code.snd (Code.snd (Code.snd (bodyOf Tryd.f48)))))) (Ann.fst (Ann.fst (Ann.snd (Ann.snd (Ann.snd impl_DepthOf_an))))) (⟨mkE 28 0 [(0, .dat (.list (.int .i64)) x2487), (3, .slc 0)], [some (.seq (.int .i64) x2494)]⟩ : St) (impl_DepthOf_n2 x2487) (fun (t : Int) => (Exit.normal, (⟨mkE 28 0 [(0, .dat (.list (.int .i64)) x2487), (3, .slc 0), (12, .dat (.int .i64) t), (13, .dat (.int .i64) 0)], [some (.seq (.int .i64) x2494)]⟩ : St))) := by
  refine Link.of fun K h => ?_
  simp only [impl_DepthOf_n2, wpO_bind, wpO_cond, wpO_map, wpO_some] at h
  exact Awp.of (by kernel_rfl) h

theorem impl_DepthOf_n3_l (x2487 : List Int) (x2495 : Int) (x2513 : Int) (x2514 : List Int) : Link impl_DepthOf_ctx LL (Code.fst (Code.fst (Code.snd (Code.fst (Code.snd (Code.snd (Code.snd (bodyOf Tryd.f48)))))))) (Ann.fst (Ann.fst (Ann.snd (Ann.fst (Ann.snd (Ann.snd (Ann.snd impl_DepthOf_an))))))) (⟨mkE 28 0 [(0, .dat (.list (.int .i64)) x2487), (3, .slc 0), (12, .dat (.int .i64) x2495), (13, .dat (.int .i64) x2513)], [some (.seq (.int .i64) x2514)]⟩ : St) (impl_DepthOf_n3 x2487 x2495 x2513 x2514) (Sum.elim (fun (t : Int × (List Int)) => (Exit.normal, (⟨mkE 28 0 [(0, .dat (.list (.int .i64)) x2487), (3, .slc 0), (12, .dat (.int .i64) x2495), (13, .dat (.int .i64) t.1)], [some (.seq (.int .i64) t.2)]⟩ : St))) (fun (t : (List Int)) => ((Exit.exit 0), (⟨mkE 28 0 [(3, .slc 0)], [some (.seq (.int .i64) t)]⟩ : St)))) := by
  refine Link.of fun K h => ?_
  simp only [impl_DepthOf_n3, wpO_bind, wpO_cond, wpO_map, wpO_some] at h
  exact Awp.of (by kernel_rfl) h

theorem impl_DepthOf_n4_l (x2487 : List Int) (x2495 : Int) (x2494 : List Int) : Link impl_DepthOf_ctx LL (Code.fst (Code.snd (Code.fst (Code.snd (Code.snd (Code.snd (bodyOf Tryd.f48))))))) (Ann.fst (Ann.snd (Ann.fst (Ann.snd (Ann.snd (Ann.snd impl_DepthOf_an)))))) (⟨mkE 28 0 [(0, .dat (.list (.int .i64)) x2487), (3, .slc 0), (12, .dat (.int .i64) x2495), (13, .dat (.int .i64) 0)], [some (.seq (.int .i64) x2494)]⟩ : St) (impl_DepthOf_n4 x2487 x2495 x2494) (fun (t : (List Int)) => ((Exit.exit 0), (⟨mkE 28 0 [(3, .slc 0)], [some (.seq (.int .i64) t)]⟩ : St))) := by
  unfold impl_DepthOf_n4
  exact Link.cast (by kernel_rfl) (by kernel_rfl) (link_loop (mk := fun (s : Int × (List Int)) => (⟨mkE 28 0 [(0, .dat (.list (.int .i64)) x2487), (3, .slc 0), (12, .dat (.int .i64) x2495), (13, .dat (.int .i64) s.1)], [some (.seq (.int .i64) s.2)]⟩ : St)) (fin := (fun (t : (List Int)) => ((Exit.exit 0), (⟨mkE 28 0 [(3, .slc 0)], [some (.seq (.int .i64) t)]⟩ : St)))) (by
  rintro t f K h
  · exact h) (fun s => link_map (impl_DepthOf_n3_l x2487 x2495 s.1 s.2) (Sum.elim (fun (t : Int × (List Int)) => Sum.inl (t.1, t.2)) (fun (t : (List Int)) => Sum.inr t)) (by
  rintro (t | t)
  · kernel_rfl
  · kernel_rfl)) (0, x2494))

theorem impl_DepthOf_n5_l (x2487 : List Int) (x2495 : Int) (x2494 : List Int) : Link impl_DepthOf_ctx LL (Code.snd (Code.fst (Code.snd (Code.snd (Code.snd (bodyOf Tryd.f48)))))) (Ann.snd (Ann.fst (Ann.snd (Ann.snd (Ann.snd impl_DepthOf_an))))) (⟨mkE 28 0 [(0, .dat (.list (.int .i64)) x2487), (3, .slc 0), (12, .dat (.int .i64) x2495), (13, .dat (.int .i64) 0)], [some (.seq (.int .i64) x2494)]⟩ : St) (impl_DepthOf_n5 x2487 x2495 x2494) (fun (t : (List Int)) => (Exit.normal, (⟨mkE 28 0 [(3, .slc 0)], [some (.seq (.int .i64) t)]⟩ : St))) := by
  unfold impl_DepthOf_n5
  exact Link.cast (by kernel_rfl) (by kernel_rfl) (link_block (id := 0) (impl_DepthOf_n4_l x2487 x2495 x2494) (fun (t : (List Int)) => t) (by
  rintro t K h
  · exact Eq.mp (by kernel_rfl) h))

theorem impl_DepthOf_n6_l (x2487 : List Int) (x2494 : List Int) : Link impl_DepthOf_ctx LL (Code.fst (Code.snd (Code.snd (Code.snd (bodyOf Tryd.f48))))) (Ann.fst (Ann.snd (Ann.snd (Ann.snd impl_DepthOf_an)))) (⟨mkE 28 0 [(0, .dat (.list (.int .i64)) x2487), (3, .slc 0)], [some (.seq (.int .i64) x2494)]⟩ : St) (impl_DepthOf_n6 x2487 x2494) (fun (t : (List Int)) => (Exit.normal, (⟨mkE 28 0 [(3, .slc 0)], [some (.seq (.int .i64) t)]⟩ : St))) := by
  unfold impl_DepthOf_n6
  exact Link.cast (by kernel_rfl) (by kernel_rfl) (link_seq (b := (Code.snd (Code.fst (Code.snd (Code.snd (Code.snd (bodyOf Tryd.f48))))))) (y := (Ann.snd (Ann.fst (Ann.snd (Ann.snd (Ann.snd impl_DepthOf_an)))))) (impl_DepthOf_n2_l x2487 x2494) (fun (t : Int) => (impl_DepthOf_n5_l x2487 t x2494)))

theorem impl_DepthOf_n7_l (x2514 : List Int) : Link impl_DepthOf_ctx LL (Code.snd (Code.snd (Code.snd (Code.snd (bodyOf Tryd.f48))))) (Ann.snd (Ann.snd (Ann.snd (Ann.snd impl_DepthOf_an)))) (⟨mkE 28 0 [(3, .slc 0)], [some (.seq (.int .i64) x2514)]⟩ : St) (impl_DepthOf_n7 x2514) (fun (t : (List Int)) => (Exit.ret, (⟨mkE 28 0 [(2, .slc 0)], [some (.seq (.int .i64) t)]⟩ : St))) := by
  refine Link.of fun K h => ?_
  simp only [impl_DepthOf_n7, wpO_bind, wpO_cond, wpO_map, wpO_some] at h
  exact Awp.of (by kernel_rfl) h

theorem impl_DepthOf_n8_l (x2487 : List Int) (x2494 : List Int) : Link impl_DepthOf_ctx LL (Code.snd (Code.snd (Code.snd (bodyOf Tryd.f48)))) (Ann.snd (Ann.snd (Ann.snd impl_DepthOf_an))) (⟨mkE 28 0 [(0, .dat (.list (.int .i64)) x2487), (3, .slc 0)], [some (.seq (.int .i64) x2494)]⟩ : St) (impl_DepthOf_n8 x2487 x2494) (fun (t : (List Int)) => (Exit.ret, (⟨mkE 28 0 [(2, .slc 0)], [some (.seq (.int .i64) t)]⟩ : St))) := by
  unfold impl_DepthOf_n8
  exact Link.cast (by kernel_rfl) (by kernel_rfl) (link_seq (b := (Code.snd (Code.snd (Code.snd (Code.snd (bodyOf Tryd.f48)))))) (y := (Ann.snd (Ann.snd (Ann.snd (Ann.snd impl_DepthOf_an))))) (impl_DepthOf_n6_l x2487 x2494) (fun (t : (List Int)) => (impl_DepthOf_n7_l t)))

theorem impl_DepthOf_n9_l (x2487 : List Int) : Link impl_DepthOf_ctx LL (bodyOf Tryd.f48) impl_DepthOf_an (⟨mkE 28 0 [(0, .dat (.list (.int .i64)) x2487)], []⟩ : St) (impl_DepthOf_n9 x2487) (fun (t : (List Int)) => (Exit.ret, (⟨mkE 28 0 [(2, .slc 0)], [some (.seq (.int .i64) t)]⟩ : St))) := by
  unfold impl_DepthOf_n9
  exact Link.cast (by kernel_rfl) (by kernel_rfl) (link_group (c := (Code.fst (Code.snd (Code.snd (bodyOf Tryd.f48))))) (a := (Ann.fst (Ann.snd (Ann.snd impl_DepthOf_an)))) [(Code.fst (bodyOf Tryd.f48)), (Code.fst (Code.snd (bodyOf Tryd.f48)))] [(Ann.fst impl_DepthOf_an), (Ann.fst (Ann.snd impl_DepthOf_an))] rfl (link_seq2 (b := (Code.snd (Code.snd (Code.snd (bodyOf Tryd.f48))))) (y := (Ann.snd (Ann.snd (Ann.snd impl_DepthOf_an)))) (impl_DepthOf_n1_l x2487) (fun (t : (List Int)) => (impl_DepthOf_n8_l x2487 t)) (fun (t : (List Int)) => t) (by
  rintro t
  · kernel_rfl) (by
  rintro t f K h
  · exact h)))

theorem impl_DepthOf_e (x2487 : List Int) {r : AV} {H' : Heap} (h : (Ans.mk _ (impl_DepthOf x2487) (fun (t : (List Int)) => (.slc 0, [some (.seq (.int .i64) t)]))).run = some (r, H')) : Awp impl_DepthOf_ctx LL (bodyOf Tryd.f48) impl_DepthOf_an (⟨mkE 28 0 [(0, .dat (.list (.int .i64)) x2487)], []⟩ : St) (Ret (tlook tys) Tryd.f48.results.toList r H') :=
  ret_of' (impl_DepthOf_n9_l x2487) (by unfold impl_DepthOf; kernel_rfl) (by
  intro t
  exact ret_mk [.slc 0] (by kernel_rfl) (by kernel_rfl) (by kernel_rfl) (by kernel_rfl)) h

def F_impl_DepthOf : Fun := fun avs H =>
  match avs, H with
  | [.dat (.list (.int .i64)) x2487], [] => ⟨_, impl_DepthOf x2487, fun (t : (List Int)) => (.slc 0, [some (.seq (.int .i64) t)])⟩
  | _, _ => Ans.no

theorem impl_DepthOf_sound : Sound Tryd.prog 48 F_impl_DepthOf := by
  refine fn_sound' (C := impl_DepthOf_ctx) (c := bodyOf Tryd.f48) (cok_of tys_ok (List.forall_mem_cons.2 ⟨impl_TreeOk_sound, List.forall_mem_cons.2 ⟨impl_stepsToRoot_sound, by simp⟩⟩) (List.forall_mem_cons.2 ⟨Tryd.call40, List.forall_mem_cons.2 ⟨Tryd.call75, by simp⟩⟩) (by kernel_rfl)) Tryd.func48 (by kernel_rfl) LL impl_DepthOf_an ?_
  intro avs H r H' h
  unfold F_impl_DepthOf at h
  split at h
  · refine Awp.cast ?_ ?_ ?_ (impl_DepthOf_e _ h) <;> kernel_rfl
  · simp [Ans.no, Ans.run] at h

/-! loop.example/headtrees/impl.MeetOf -/

def impl_MeetOf_an : Ann := (.seq (.leaf [0, 1, 2]) (.seq (.seq (.leaf [0, 1, 2, 20]) (.cond (.seq (.leaf [6]) (.leaf [6])) (.leaf [0, 1, 2]))) (.seq (.leaf [0, 1, 2, 7]) (.seq (.leaf [0, 1, 2, 7, 8]) (.seq (.seq (.leaf [1, 2, 7, 8, 26, 27, 28]) (.block (.loop (.seq (.leaf [1, 2, 7, 8, 26, 27, 28, 29]) (.seq (.cond (.leaf [1, 2, 7, 8, 26, 27, 28]) (.leaf [7])) (.seq (.block (.seq (.leaf [1, 2, 7, 8, 9, 10, 26, 27, 28]) (.seq (.draw [2, 4, 6] [0, 1, 3, 2, 4, 5, 6, 7, 8, 9, 10, 11, 12, 13, 14, 15, 16, 17, 18] [] [1, 2, 7, 8, 9, 26, 27, 28, 51]) (.cond (.leaf [1, 2, 7, 8, 26, 27, 28]) (.leaf [1, 2, 7, 8, 26, 27, 28]))))) (.leaf [1, 2, 7, 8, 26, 27, 28]))))))) (.seq (.leaf [6]) (.leaf [6])))))))

noncomputable def impl_MeetOf_ctx : Ctx := ⟨tlook tys, olook [(55, F_impl_wordOk), (23, F_impl_RootOf), (48, F_impl_DepthOf), (56, F_impl_yieldsOf), (65, F_impl_only), (64, F_impl_wordSet_hasAll)], ioF, 0⟩

theorem impl_MeetOf_n1_l (x2470 : List Int) (x2471 : Int) (x2472 : Int) : Link impl_MeetOf_ctx LL (Code.seq (Code.fst (bodyOf Tryd.f32)) (Code.seq (Code.fst (Code.snd (bodyOf Tryd.f32))) (Code.seq (Code.fst (Code.snd (Code.snd (bodyOf Tryd.f32)))) (Code.fst (Code.snd (Code.snd (Code.snd (bodyOf Tryd.f32)))))))) (Ann.seq (Ann.fst impl_MeetOf_an) (Ann.seq (Ann.fst (Ann.snd impl_MeetOf_an)) (Ann.seq (Ann.fst (Ann.snd (Ann.snd impl_MeetOf_an))) (Ann.fst (Ann.snd (Ann.snd (Ann.snd impl_MeetOf_an))))))) (⟨mkE 56 0 [(0, .dat (.list (.int .i64)) x2470), (1, .dat (.int .i64) x2471), (2, .dat (.int .i64) x2472)], []⟩ : St) (impl_MeetOf_n1 x2470 x2471 x2472) (Sum.elim (fun (t : Int × (List Int)) => (Exit.normal, (⟨mkE 56 0 [(0, .dat (.list (.int .i64)) x2470), (1, .dat (.int .i64) x2471), (2, .dat (.int .i64) x2472), (7, .dat (.int .i64) t.1), (8, .slc 0)], [some (.seq (.int .i64) t.2)]⟩ : St))) (fun (t : Int) => (Exit.ret, (⟨mkE 56 0 [(6, .dat (.int .i64) t)], []⟩ : St)))) := by
  refine Link.of fun K h => ?_
  simp only [impl_MeetOf_n1, wpO_bind, wpO_cond, wpO_map, wpO_some] at h
  exact Awp.of (by kernel_rfl) h

theorem impl_MeetOf_n2_l (x2470 : List Int) (x2471 : Int) (x2472 : Int) (x2486 : Int) (x2533 : List Int) : Link impl_MeetOf_ctx LL (Code.fst (Code.fst (Code.snd (Code.snd (Code.snd (Code.snd (bodyOf Tryd.f32))))))) (Ann.fst (Ann.fst (Ann.snd (Ann.snd (Ann.snd (Ann.snd impl_MeetOf_an)))))) (⟨mkE 56 0 [(0, .dat (.list (.int .i64)) x2470), (1, .dat (.int .i64) x2471), (2, .dat (.int .i64) x2472), (7, .dat (.int .i64) x2486), (8, .slc 0)], [some (.seq (.int .i64) x2533)]⟩ : St) (impl_MeetOf_n2 x2470) (fun (t : Int × (List Int)) => (Exit.normal, (⟨mkE 56 0 [(1, .dat (.int .i64) x2471), (2, .dat (.int .i64) x2472), (7, .dat (.int .i64) x2486), (8, .slc 0), (26, .slc 1), (27, .dat (.int .i64) t.1), (28, .dat (.int .i64) 0)], [some (.seq (.int .i64) x2533), some (.seq (.int .u64) t.2)]⟩ : St))) := by
  refine Link.of fun K h => ?_
  simp only [impl_MeetOf_n2, wpO_bind, wpO_cond, wpO_map, wpO_some] at h
  exact Awp.of (by kernel_rfl) h

theorem impl_MeetOf_n3_l (x2471 : Int) (x2472 : Int) (x2571 : Int) (x2535 : Int) (x2572 : Int) (x2533 : List Int) (x2534 : List Int) : Link impl_MeetOf_ctx LL (Code.fst (Code.fst (Code.snd (Code.fst (Code.snd (Code.snd (Code.snd (Code.snd (bodyOf Tryd.f32))))))))) (Ann.fst (Ann.fst (Ann.snd (Ann.fst (Ann.snd (Ann.snd (Ann.snd (Ann.snd impl_MeetOf_an)))))))) (⟨mkE 56 0 [(1, .dat (.int .i64) x2471), (2, .dat (.int .i64) x2472), (7, .dat (.int .i64) x2571), (8, .slc 0), (26, .slc 1), (27, .dat (.int .i64) x2535), (28, .dat (.int .i64) x2572)], [some (.seq (.int .i64) x2533), some (.seq (.int .u64) x2534)]⟩ : St) (impl_MeetOf_n3 x2471 x2472 x2571 x2535 x2572 x2533 x2534) (Sum.elim (fun (t : Int × Int) => (Exit.normal, (⟨mkE 56 0 [(1, .dat (.int .i64) x2471), (2, .dat (.int .i64) x2472), (7, .dat (.int .i64) t.1), (8, .slc 0), (26, .slc 1), (27, .dat (.int .i64) x2535), (28, .dat (.int .i64) t.2)], [some (.seq (.int .i64) x2533), some (.seq (.int .u64) x2534)]⟩ : St))) (fun (t : Int) => ((Exit.exit 0), (⟨mkE 56 0 [(7, .dat (.int .i64) t)], []⟩ : St)))) := by
  refine Link.of fun K h => ?_
  simp only [impl_MeetOf_n3, wpO_bind, wpO_cond, wpO_map, wpO_some] at h
  exact Awp.of (by kernel_rfl) h

end Go.Rv
