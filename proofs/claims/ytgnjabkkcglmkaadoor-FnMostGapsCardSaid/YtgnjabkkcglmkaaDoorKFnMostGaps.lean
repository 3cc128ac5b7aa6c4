/-
  The checked code answers as the plain functions do; written by program. Conditions: none.
-/
import Derived.Test.YtgnjabkkcglmkaaDoorKFnMostGapsa
set_option linter.unusedVariables false
set_option linter.unusedSimpArgs false
set_option maxRecDepth 100000
namespace Go.Rv
open Go.Proofs
/-! loop.example/headtrees/impl.MostGaps -/

def impl_MostGaps_an : Ann := (.seq (.leaf [0]) (.seq (.seq (.leaf [0, 8]) (.cond (.seq (.leaf [2]) (.leaf [2])) (.leaf [0]))) (.seq (.leaf [0, 3]) (.seq (.seq (.leaf [3, 10, 11, 12]) (.block (.loop (.seq (.leaf [3, 10, 11, 12, 13]) (.seq (.cond (.leaf [3, 10, 11, 12]) (.leaf [3])) (.seq (.block (.seq (.leaf [3, 5, 10, 11, 12]) (.leaf [3, 10, 11, 12]))) (.leaf [3, 10, 11, 12]))))))) (.seq (.leaf [2]) (.leaf [2]))))))

noncomputable def impl_MostGaps_ctx : Ctx := ⟨tlook tys, olook [(22, F_impl_TreeOk), (43, F_impl_yieldsOf), (44, F_impl_wordSet_gaps)], ioF, 0, false⟩

theorem impl_MostGaps_n1_l (x2474 : List Int) : Link impl_MostGaps_ctx LL (Code.seq (Code.fst (bodyOf Tryd.f20)) (Code.seq (Code.fst (Code.snd (bodyOf Tryd.f20))) (Code.fst (Code.snd (Code.snd (bodyOf Tryd.f20)))))) (Ann.seq (Ann.fst impl_MostGaps_an) (Ann.seq (Ann.fst (Ann.snd impl_MostGaps_an)) (Ann.fst (Ann.snd (Ann.snd impl_MostGaps_an))))) (⟨mkE 22 0 [(0, .dat (.list (.int .i64)) x2474)], []⟩ : St) (impl_MostGaps_n1 x2474) (Sum.elim (fun (t : Unit) => (Exit.normal, (⟨mkE 22 0 [(0, .dat (.list (.int .i64)) x2474), (3, .dat (.int .i64) 0)], []⟩ : St))) (fun (t : Int) => (Exit.ret, (⟨mkE 22 0 [(2, .dat (.int .i64) t)], []⟩ : St)))) := by
  refine Link.of fun K h => ?_
  simp only [impl_MostGaps_n1, wpO_bind, wpO_cond, wpO_map, wpO_some] at h
  exact Awp.of (by kernel_rfl) h

theorem impl_MostGaps_n2_l (x2474 : List Int) : Link impl_MostGaps_ctx LL (Code.fst (Code.fst (Code.snd (Code.snd (Code.snd (bodyOf Tryd.f20)))))) (Ann.fst (Ann.fst (Ann.snd (Ann.snd (Ann.snd impl_MostGaps_an))))) (⟨mkE 22 0 [(0, .dat (.list (.int .i64)) x2474), (3, .dat (.int .i64) 0)], []⟩ : St) (impl_MostGaps_n2 x2474) (fun (t : Int × (List Int)) => (Exit.normal, (⟨mkE 22 0 [(3, .dat (.int .i64) 0), (10, .slc 0), (11, .dat (.int .i64) t.1), (12, .dat (.int .i64) 0)], [some (.seq (.int .u64) t.2)]⟩ : St))) := by
  refine Link.of fun K h => ?_
  simp only [impl_MostGaps_n2, wpO_bind, wpO_cond, wpO_map, wpO_some] at h
  exact Awp.of (by kernel_rfl) h

theorem impl_MostGaps_n3_l (x2494 : Int) (x2480 : Int) (x2495 : Int) (x2479 : List Int) : Link impl_MostGaps_ctx LL (Code.fst (Code.fst (Code.snd (Code.fst (Code.snd (Code.snd (Code.snd (bodyOf Tryd.f20)))))))) (Ann.fst (Ann.fst (Ann.snd (Ann.fst (Ann.snd (Ann.snd (Ann.snd impl_MostGaps_an))))))) (⟨mkE 22 0 [(3, .dat (.int .i64) x2494), (10, .slc 0), (11, .dat (.int .i64) x2480), (12, .dat (.int .i64) x2495)], [some (.seq (.int .u64) x2479)]⟩ : St) (impl_MostGaps_n3 x2494 x2480 x2495 x2479) (Sum.elim (fun (t : Int × Int) => (Exit.normal, (⟨mkE 22 0 [(3, .dat (.int .i64) t.1), (10, .slc 0), (11, .dat (.int .i64) x2480), (12, .dat (.int .i64) t.2)], [some (.seq (.int .u64) x2479)]⟩ : St))) (fun (t : Int) => ((Exit.exit 0), (⟨mkE 22 0 [(3, .dat (.int .i64) t)], []⟩ : St)))) := by
  refine Link.of fun K h => ?_
  simp only [impl_MostGaps_n3, wpO_bind, wpO_cond, wpO_map, wpO_some] at h
  exact Awp.of (by kernel_rfl) h

theorem impl_MostGaps_n4_l (x2480 : Int) (x2479 : List Int) : Link impl_MostGaps_ctx LL (Code.fst (Code.snd (Code.fst (Code.snd (Code.snd (Code.snd (bodyOf Tryd.f20))))))) (Ann.fst (Ann.snd (Ann.fst (Ann.snd (Ann.snd (Ann.snd impl_MostGaps_an)))))) (⟨mkE 22 0 [(3, .dat (.int .i64) 0), (10, .slc 0), (11, .dat (.int .i64) x2480), (12, .dat (.int .i64) 0)], [some (.seq (.int .u64) x2479)]⟩ : St) (impl_MostGaps_n4 x2480 x2479) (fun (t : Int) => ((Exit.exit 0), (⟨mkE 22 0 [(3, .dat (.int .i64) t)], []⟩ : St))) := by
  unfold impl_MostGaps_n4
  exact Link.cast (by kernel_rfl) (by kernel_rfl) (link_loop (mk := fun (s : Int × Int) => (⟨mkE 22 0 [(3, .dat (.int .i64) s.1), (10, .slc 0), (11, .dat (.int .i64) x2480), (12, .dat (.int .i64) s.2)], [some (.seq (.int .u64) x2479)]⟩ : St)) (fin := (fun (t : Int) => ((Exit.exit 0), (⟨mkE 22 0 [(3, .dat (.int .i64) t)], []⟩ : St)))) (by
  rintro t f K h
  · exact h) (fun s => link_map (impl_MostGaps_n3_l s.1 x2480 s.2 x2479) (Sum.elim (fun (t : Int × Int) => Sum.inl (t.1, t.2)) (fun (t : Int) => Sum.inr t)) (by
  rintro (t | t)
  · kernel_rfl
  · kernel_rfl)) (0, 0))

theorem impl_MostGaps_n5_l (x2480 : Int) (x2479 : List Int) : Link impl_MostGaps_ctx LL (Code.snd (Code.fst (Code.snd (Code.snd (Code.snd (bodyOf Tryd.f20)))))) (Ann.snd (Ann.fst (Ann.snd (Ann.snd (Ann.snd impl_MostGaps_an))))) (⟨mkE 22 0 [(3, .dat (.int .i64) 0), (10, .slc 0), (11, .dat (.int .i64) x2480), (12, .dat (.int .i64) 0)], [some (.seq (.int .u64) x2479)]⟩ : St) (impl_MostGaps_n5 x2480 x2479) (fun (t : Int) => (Exit.normal, (⟨mkE 22 0 [(3, .dat (.int .i64) t)], []⟩ : St))) := by
  unfold impl_MostGaps_n5
  exact Link.cast (by kernel_rfl) (by kernel_rfl) (link_block (id := 0) (impl_MostGaps_n4_l x2480 x2479) (fun (t : Int) => t) (by
  rintro t K h
  · exact Eq.mp (by kernel_rfl) h))

theorem impl_MostGaps_n6_l (x2474 : List Int) : Link impl_MostGaps_ctx LL (Code.fst (Code.snd (Code.snd (Code.snd (bodyOf Tryd.f20))))) (Ann.fst (Ann.snd (Ann.snd (Ann.snd impl_MostGaps_an)))) (⟨mkE 22 0 [(0, .dat (.list (.int .i64)) x2474), (3, .dat (.int .i64) 0)], []⟩ : St) (impl_MostGaps_n6 x2474) (fun (t : Int) => (Exit.normal, (⟨mkE 22 0 [(3, .dat (.int .i64) t)], []⟩ : St))) := by
  unfold impl_MostGaps_n6
  exact Link.cast (by kernel_rfl) (by kernel_rfl) (link_seq (b := (Code.snd (Code.fst (Code.snd (Code.snd (Code.snd (bodyOf Tryd.f20))))))) (y := (Ann.snd (Ann.fst (Ann.snd (Ann.snd (Ann.snd impl_MostGaps_an)))))) (impl_MostGaps_n2_l x2474) (fun (t : Int × (List Int)) => (impl_MostGaps_n5_l t.1 t.2)))

theorem impl_MostGaps_n7_l (x2494 : Int) : Link impl_MostGaps_ctx LL (Code.snd (Code.snd (Code.snd (Code.snd (bodyOf Tryd.f20))))) (Ann.snd (Ann.snd (Ann.snd (Ann.snd impl_MostGaps_an)))) (⟨mkE 22 0 [(3, .dat (.int .i64) x2494)], []⟩ : St) (impl_MostGaps_n7 x2494) (fun (t : Int) => (Exit.ret, (⟨mkE 22 0 [(2, .dat (.int .i64) t)], []⟩ : St))) := by
  refine Link.of fun K h => ?_
  simp only [impl_MostGaps_n7, wpO_bind, wpO_cond, wpO_map, wpO_some] at h
  exact Awp.of (by kernel_rfl) h

theorem impl_MostGaps_n8_l (x2474 : List Int) : Link impl_MostGaps_ctx LL (Code.snd (Code.snd (Code.snd (bodyOf Tryd.f20)))) (Ann.snd (Ann.snd (Ann.snd impl_MostGaps_an))) (⟨mkE 22 0 [(0, .dat (.list (.int .i64)) x2474), (3, .dat (.int .i64) 0)], []⟩ : St) (impl_MostGaps_n8 x2474) (fun (t : Int) => (Exit.ret, (⟨mkE 22 0 [(2, .dat (.int .i64) t)], []⟩ : St))) := by
  unfold impl_MostGaps_n8
  exact Link.cast (by kernel_rfl) (by kernel_rfl) (link_seq (b := (Code.snd (Code.snd (Code.snd (Code.snd (bodyOf Tryd.f20)))))) (y := (Ann.snd (Ann.snd (Ann.snd (Ann.snd impl_MostGaps_an))))) (impl_MostGaps_n6_l x2474) (fun (t : Int) => (impl_MostGaps_n7_l t)))

theorem impl_MostGaps_n9_l (x2474 : List Int) : Link impl_MostGaps_ctx LL (bodyOf Tryd.f20) impl_MostGaps_an (⟨mkE 22 0 [(0, .dat (.list (.int .i64)) x2474)], []⟩ : St) (impl_MostGaps_n9 x2474) (fun (t : Int) => (Exit.ret, (⟨mkE 22 0 [(2, .dat (.int .i64) t)], []⟩ : St))) := by
  unfold impl_MostGaps_n9
  exact Link.cast (by kernel_rfl) (by kernel_rfl) (link_group (c := (Code.fst (Code.snd (Code.snd (bodyOf Tryd.f20))))) (a := (Ann.fst (Ann.snd (Ann.snd impl_MostGaps_an)))) [(Code.fst (bodyOf Tryd.f20)), (Code.fst (Code.snd (bodyOf Tryd.f20)))] [(Ann.fst impl_MostGaps_an), (Ann.fst (Ann.snd impl_MostGaps_an))] rfl (link_seq2 (b := (Code.snd (Code.snd (Code.snd (bodyOf Tryd.f20))))) (y := (Ann.snd (Ann.snd (Ann.snd impl_MostGaps_an)))) (impl_MostGaps_n1_l x2474) (fun (t : Unit) => (impl_MostGaps_n8_l x2474)) (fun (t : Int) => t) (by
  rintro t
  · kernel_rfl) (by
  rintro t f K h
  · exact h)))

theorem impl_MostGaps_e (x2474 : List Int) {r : AV} {H' : Heap} (h : (Ans.mk _ (impl_MostGaps x2474) (fun (t : Int) => (.dat (.int .i64) t, []))).run = some (r, H')) : Awp impl_MostGaps_ctx LL (bodyOf Tryd.f20) impl_MostGaps_an (⟨mkE 22 0 [(0, .dat (.list (.int .i64)) x2474)], []⟩ : St) (Ret (tlook tys) Tryd.f20.results.toList r H') :=
  ret_of' (impl_MostGaps_n9_l x2474) (by unfold impl_MostGaps; kernel_rfl) (by
  intro t
  exact ret_mk [.dat (.int .i64) t] (by kernel_rfl) (by kernel_rfl) (by kernel_rfl) (by kernel_rfl)) h

def F_impl_MostGaps : Fun := fun avs H =>
  match avs, H with
  | [.dat (.list (.int .i64)) x2474], [] => ⟨_, impl_MostGaps x2474, fun (t : Int) => (.dat (.int .i64) t, [])⟩
  | _, _ => Ans.no

theorem impl_MostGaps_sound : Sound Tryd.prog 20 F_impl_MostGaps := by
  refine fn_sound' (C := impl_MostGaps_ctx) (c := bodyOf Tryd.f20) (cok_of tys_ok (List.forall_mem_cons.2 ⟨impl_TreeOk_sound, List.forall_mem_cons.2 ⟨impl_yieldsOf_sound, List.forall_mem_cons.2 ⟨impl_wordSet_gaps_sound, by simp⟩⟩⟩) (List.forall_mem_cons.2 ⟨Tryd.call22, List.forall_mem_cons.2 ⟨Tryd.call43, List.forall_mem_cons.2 ⟨Tryd.call44, by simp⟩⟩⟩) (by kernel_rfl)) Tryd.func20 (by kernel_rfl) LL impl_MostGaps_an ?_
  intro avs H r H' h
  unfold F_impl_MostGaps at h
  split at h
  · refine Awp.cast ?_ ?_ ?_ (impl_MostGaps_e _ h) <;> kernel_rfl
  · simp [Ans.no, Ans.run] at h


/-! loop.example/headtrees/spec.MostGaps -/

def spec_MostGaps_an : Ann := (.seq (.leaf [0]) (.seq (.leaf [0, 3]) (.seq (.seq (.leaf [0, 3, 4]) (.block (.loop (.seq (.seq (.leaf [0, 3, 4, 12]) (.cond (.leaf [0, 3, 4]) (.leaf [3]))) (.seq (.block (.leaf [0, 3, 4])) (.leaf [0, 3, 4])))))) (.seq (.leaf [2]) (.leaf [2])))))

noncomputable def spec_MostGaps_ctx : Ctx := ⟨tlook tys, olook [(32, F_spec_TreeOk), (13, F_spec_GapsOf)], ioF, 0, false⟩

theorem spec_MostGaps_n1_l (x2515 : List Int) : Link spec_MostGaps_ctx LL (Code.seq (Code.fst (bodyOf Tryd.f21)) (Code.fst (Code.snd (bodyOf Tryd.f21)))) (Ann.seq (Ann.fst spec_MostGaps_an) (Ann.fst (Ann.snd spec_MostGaps_an))) (⟨mkE 21 0 [(0, .dat (.list (.int .i64)) x2515)], []⟩ : St) (spec_MostGaps_n1) (fun (t : Unit) => (Exit.normal, (⟨mkE 21 0 [(0, .dat (.list (.int .i64)) x2515), (3, .dat (.int .i64) (-1))], []⟩ : St))) := by
  refine Link.of fun K h => ?_
  simp only [spec_MostGaps_n1, wpO_bind, wpO_cond, wpO_map, wpO_some] at h
  exact Awp.of (by kernel_rfl) h

theorem spec_MostGaps_n2_l (x2515 : List Int) : Link spec_MostGaps_ctx LL (Code.fst (Code.fst (Code.snd (Code.snd (bodyOf Tryd.f21))))) (Ann.fst (Ann.fst (Ann.snd (Ann.snd spec_MostGaps_an)))) (⟨mkE 21 0 [(0, .dat (.list (.int .i64)) x2515), (3, .dat (.int .i64) (-1))], []⟩ : St) (spec_MostGaps_n2) (fun (t : Unit) => (Exit.normal, (⟨mkE 21 0 [(0, .dat (.list (.int .i64)) x2515), (3, .dat (.int .i64) (-1)), (4, .dat (.int .i64) 1)], []⟩ : St))) := by
  refine Link.of fun K h => ?_
  simp only [spec_MostGaps_n2, wpO_bind, wpO_cond, wpO_map, wpO_some] at h
  exact Awp.of (by kernel_rfl) h

theorem spec_MostGaps_n3_l (x2515 : List Int) (x2530 : Int) (x2531 : Int) : Link spec_MostGaps_ctx LL (Code.fst (Code.fst (Code.snd (Code.fst (Code.snd (Code.snd (bodyOf Tryd.f21))))))) (Ann.fst (Ann.fst (Ann.snd (Ann.fst (Ann.snd (Ann.snd spec_MostGaps_an)))))) (⟨mkE 21 0 [(0, .dat (.list (.int .i64)) x2515), (3, .dat (.int .i64) x2530), (4, .dat (.int .i64) x2531)], []⟩ : St) (spec_MostGaps_n3 x2515 x2530 x2531) (Sum.elim (fun (t : Int × Int) => (Exit.normal, (⟨mkE 21 0 [(0, .dat (.list (.int .i64)) x2515), (3, .dat (.int .i64) t.1), (4, .dat (.int .i64) t.2)], []⟩ : St))) (fun (t : Int) => ((Exit.exit 0), (⟨mkE 21 0 [(3, .dat (.int .i64) t)], []⟩ : St)))) := by
  refine Link.of fun K h => ?_
  simp only [spec_MostGaps_n3, wpO_bind, wpO_cond, wpO_map, wpO_some] at h
  exact Awp.of (by kernel_rfl) h

theorem spec_MostGaps_n4_l (x2515 : List Int) : Link spec_MostGaps_ctx LL (Code.fst (Code.snd (Code.fst (Code.snd (Code.snd (bodyOf Tryd.f21)))))) (Ann.fst (Ann.snd (Ann.fst (Ann.snd (Ann.snd spec_MostGaps_an))))) (⟨mkE 21 0 [(0, .dat (.list (.int .i64)) x2515), (3, .dat (.int .i64) (-1)), (4, .dat (.int .i64) 1)], []⟩ : St) (spec_MostGaps_n4 x2515) (fun (t : Int) => ((Exit.exit 0), (⟨mkE 21 0 [(3, .dat (.int .i64) t)], []⟩ : St))) := by
  unfold spec_MostGaps_n4
  exact Link.cast (by kernel_rfl) (by kernel_rfl) (link_loop (mk := fun (s : Int × Int) => (⟨mkE 21 0 [(0, .dat (.list (.int .i64)) x2515), (3, .dat (.int .i64) s.1), (4, .dat (.int .i64) s.2)], []⟩ : St)) (fin := (fun (t : Int) => ((Exit.exit 0), (⟨mkE 21 0 [(3, .dat (.int .i64) t)], []⟩ : St)))) (by
  rintro t f K h
  · exact h) (fun s => link_map (spec_MostGaps_n3_l x2515 s.1 s.2) (Sum.elim (fun (t : Int × Int) => Sum.inl (t.1, t.2)) (fun (t : Int) => Sum.inr t)) (by
  rintro (t | t)
  · kernel_rfl
  · kernel_rfl)) ((-1), 1))

theorem spec_MostGaps_n5_l (x2515 : List Int) : Link spec_MostGaps_ctx LL (Code.snd (Code.fst (Code.snd (Code.snd (bodyOf Tryd.f21))))) (Ann.snd (Ann.fst (Ann.snd (Ann.snd spec_MostGaps_an)))) (⟨mkE 21 0 [(0, .dat (.list (.int .i64)) x2515), (3, .dat (.int .i64) (-1)), (4, .dat (.int .i64) 1)], []⟩ : St) (spec_MostGaps_n5 x2515) (fun (t : Int) => (Exit.normal, (⟨mkE 21 0 [(3, .dat (.int .i64) t)], []⟩ : St))) := by
  unfold spec_MostGaps_n5
  exact Link.cast (by kernel_rfl) (by kernel_rfl) (link_block (id := 0) (spec_MostGaps_n4_l x2515) (fun (t : Int) => t) (by
  rintro t K h
  · exact Eq.mp (by kernel_rfl) h))

theorem spec_MostGaps_n6_l (x2515 : List Int) : Link spec_MostGaps_ctx LL (Code.fst (Code.snd (Code.snd (bodyOf Tryd.f21)))) (Ann.fst (Ann.snd (Ann.snd spec_MostGaps_an))) (⟨mkE 21 0 [(0, .dat (.list (.int .i64)) x2515), (3, .dat (.int .i64) (-1))], []⟩ : St) (spec_MostGaps_n6 x2515) (fun (t : Int) => (Exit.normal, (⟨mkE 21 0 [(3, .dat (.int .i64) t)], []⟩ : St))) := by
  unfold spec_MostGaps_n6
  exact Link.cast (by kernel_rfl) (by kernel_rfl) (link_seq (b := (Code.snd (Code.fst (Code.snd (Code.snd (bodyOf Tryd.f21)))))) (y := (Ann.snd (Ann.fst (Ann.snd (Ann.snd spec_MostGaps_an))))) (spec_MostGaps_n2_l x2515) (fun (t : Unit) => (spec_MostGaps_n5_l x2515)))

theorem spec_MostGaps_n7_l (x2530 : Int) : Link spec_MostGaps_ctx LL (Code.snd (Code.snd (Code.snd (bodyOf Tryd.f21)))) (Ann.snd (Ann.snd (Ann.snd spec_MostGaps_an))) (⟨mkE 21 0 [(3, .dat (.int .i64) x2530)], []⟩ : St) (spec_MostGaps_n7 x2530) (fun (t : Int) => (Exit.ret, (⟨mkE 21 0 [(2, .dat (.int .i64) t)], []⟩ : St))) := by
  refine Link.of fun K h => ?_
  simp only [spec_MostGaps_n7, wpO_bind, wpO_cond, wpO_map, wpO_some] at h
  exact Awp.of (by kernel_rfl) h

theorem spec_MostGaps_n8_l (x2515 : List Int) : Link spec_MostGaps_ctx LL (Code.snd (Code.snd (bodyOf Tryd.f21))) (Ann.snd (Ann.snd spec_MostGaps_an)) (⟨mkE 21 0 [(0, .dat (.list (.int .i64)) x2515), (3, .dat (.int .i64) (-1))], []⟩ : St) (spec_MostGaps_n8 x2515) (fun (t : Int) => (Exit.ret, (⟨mkE 21 0 [(2, .dat (.int .i64) t)], []⟩ : St))) := by
  unfold spec_MostGaps_n8
  exact Link.cast (by kernel_rfl) (by kernel_rfl) (link_seq (b := (Code.snd (Code.snd (Code.snd (bodyOf Tryd.f21))))) (y := (Ann.snd (Ann.snd (Ann.snd spec_MostGaps_an)))) (spec_MostGaps_n6_l x2515) (fun (t : Int) => (spec_MostGaps_n7_l t)))

theorem spec_MostGaps_n9_l (x2515 : List Int) : Link spec_MostGaps_ctx LL (bodyOf Tryd.f21) spec_MostGaps_an (⟨mkE 21 0 [(0, .dat (.list (.int .i64)) x2515)], []⟩ : St) (spec_MostGaps_n9 x2515) (fun (t : Int) => (Exit.ret, (⟨mkE 21 0 [(2, .dat (.int .i64) t)], []⟩ : St))) := by
  unfold spec_MostGaps_n9
  exact Link.cast (by kernel_rfl) (by kernel_rfl) (link_group (c := (Code.fst (Code.snd (bodyOf Tryd.f21)))) (a := (Ann.fst (Ann.snd spec_MostGaps_an))) [(Code.fst (bodyOf Tryd.f21))] [(Ann.fst spec_MostGaps_an)] rfl (link_seq (b := (Code.snd (Code.snd (bodyOf Tryd.f21)))) (y := (Ann.snd (Ann.snd spec_MostGaps_an))) (spec_MostGaps_n1_l x2515) (fun (t : Unit) => (spec_MostGaps_n8_l x2515))))

theorem spec_MostGaps_e (x2515 : List Int) {r : AV} {H' : Heap} (h : (Ans.mk _ (spec_MostGaps x2515) (fun (t : Int) => (.dat (.int .i64) t, []))).run = some (r, H')) : Awp spec_MostGaps_ctx LL (bodyOf Tryd.f21) spec_MostGaps_an (⟨mkE 21 0 [(0, .dat (.list (.int .i64)) x2515)], []⟩ : St) (Ret (tlook tys) Tryd.f21.results.toList r H') :=
  ret_of' (spec_MostGaps_n9_l x2515) (by unfold spec_MostGaps; kernel_rfl) (by
  intro t
  exact ret_mk [.dat (.int .i64) t] (by kernel_rfl) (by kernel_rfl) (by kernel_rfl) (by kernel_rfl)) h

def F_spec_MostGaps : Fun := fun avs H =>
  match avs, H with
  | [.dat (.list (.int .i64)) x2515], [] => ⟨_, spec_MostGaps x2515, fun (t : Int) => (.dat (.int .i64) t, [])⟩
  | _, _ => Ans.no

theorem spec_MostGaps_sound : Sound Tryd.prog 21 F_spec_MostGaps := by
  refine fn_sound' (C := spec_MostGaps_ctx) (c := bodyOf Tryd.f21) (cok_of tys_ok (List.forall_mem_cons.2 ⟨spec_TreeOk_sound, List.forall_mem_cons.2 ⟨spec_GapsOf_sound, by simp⟩⟩) (List.forall_mem_cons.2 ⟨Tryd.call32, List.forall_mem_cons.2 ⟨Tryd.call13, by simp⟩⟩) (by kernel_rfl)) Tryd.func21 (by kernel_rfl) LL spec_MostGaps_an ?_
  intro avs H r H' h
  unfold F_spec_MostGaps at h
  split at h
  · refine Awp.cast ?_ ?_ ?_ (spec_MostGaps_e _ h) <;> kernel_rfl
  · simp [Ans.no, Ans.run] at h


/-! (loop.example/headtrees/impl.wordSet).isRow -/

def impl_wordSet_isRow_an : Ann := (.seq (.leaf [0]) (.seq (.leaf [0, 3]) (.seq (.leaf [2]) (.leaf [2]))))

noncomputable def impl_wordSet_isRow_ctx : Ctx := ⟨tlook tys, olook [], ioF, 0, false⟩

theorem impl_wordSet_isRow_n1_l (x2581 : Int) : Link impl_wordSet_isRow_ctx LL (bodyOf Tryd.f55) impl_wordSet_isRow_an (⟨mkE 14 0 [(0, .dat (.int .u64) x2581)], []⟩ : St) (impl_wordSet_isRow_n1 x2581) (fun (t : Bool) => (Exit.ret, (⟨mkE 14 0 [(2, .dat .bool t)], []⟩ : St))) := by
  refine Link.of fun K h => ?_
  simp only [impl_wordSet_isRow_n1, wpO_bind, wpO_cond, wpO_map, wpO_some] at h
  exact Awp.of (by kernel_rfl) h

theorem impl_wordSet_isRow_e (x2581 : Int) {r : AV} {H' : Heap} (h : (Ans.mk _ (impl_wordSet_isRow x2581) (fun (t : Bool) => (.dat .bool t, []))).run = some (r, H')) : Awp impl_wordSet_isRow_ctx LL (bodyOf Tryd.f55) impl_wordSet_isRow_an (⟨mkE 14 0 [(0, .dat (.int .u64) x2581)], []⟩ : St) (Ret (tlook tys) Tryd.f55.results.toList r H') :=
  ret_of' (impl_wordSet_isRow_n1_l x2581) (by unfold impl_wordSet_isRow; kernel_rfl) (by
  intro t
  exact ret_mk [.dat .bool t] (by kernel_rfl) (by kernel_rfl) (by kernel_rfl) (by kernel_rfl)) h

def F_impl_wordSet_isRow : Fun := fun avs H =>
  match avs, H with
  | [.dat (.int .u64) x2581], [] => ⟨_, impl_wordSet_isRow x2581, fun (t : Bool) => (.dat .bool t, [])⟩
  | _, _ => Ans.no

theorem impl_wordSet_isRow_sound : Sound Tryd.prog 55 F_impl_wordSet_isRow := by
  refine fn_sound' (C := impl_wordSet_isRow_ctx) (c := bodyOf Tryd.f55) (cok_of tys_ok (by simp) (by simp) (by kernel_rfl)) Tryd.func55 (by kernel_rfl) LL impl_wordSet_isRow_an ?_
  intro avs H r H' h
  unfold F_impl_wordSet_isRow at h
  split at h
  · refine Awp.cast ?_ ?_ ?_ (impl_wordSet_isRow_e _ h) <;> kernel_rfl
  · simp [Ans.no, Ans.run] at h


/-! loop.example/headtrees/impl.FlatOk -/

def impl_FlatOk_an : Ann := (.seq (.leaf [0]) (.seq (.seq (.leaf [0, 7]) (.cond (.seq (.leaf [2]) (.leaf [2])) (.leaf [0]))) (.seq (.seq (.leaf [9, 10, 11]) (.block (.loop (.seq (.leaf [9, 10, 11, 12]) (.seq (.cond (.leaf [9, 10, 11]) (.leaf [])) (.seq (.block (.seq (.leaf [4, 9, 10, 11]) (.seq (.leaf [9, 10, 11, 17]) (.cond (.seq (.leaf [2]) (.leaf [2])) (.leaf [9, 10, 11]))))) (.leaf [9, 10, 11]))))))) (.seq (.leaf [2]) (.leaf [2])))))

noncomputable def impl_FlatOk_ctx : Ctx := ⟨tlook tys, olook [(22, F_impl_TreeOk), (43, F_impl_yieldsOf), (55, F_impl_wordSet_isRow)], ioF, 0, false⟩

theorem impl_FlatOk_n1_l (x2571 : List Int) : Link impl_FlatOk_ctx LL (Code.seq (Code.fst (bodyOf Tryd.f23)) (Code.fst (Code.snd (bodyOf Tryd.f23)))) (Ann.seq (Ann.fst impl_FlatOk_an) (Ann.fst (Ann.snd impl_FlatOk_an))) (⟨mkE 19 0 [(0, .dat (.list (.int .i64)) x2571)], []⟩ : St) (impl_FlatOk_n1 x2571) (Sum.elim (fun (t : Unit) => (Exit.normal, (⟨mkE 19 0 [(0, .dat (.list (.int .i64)) x2571)], []⟩ : St))) (fun (t : Bool) => (Exit.ret, (⟨mkE 19 0 [(2, .dat .bool t)], []⟩ : St)))) := by
  refine Link.of fun K h => ?_
  simp only [impl_FlatOk_n1, wpO_bind, wpO_cond, wpO_map, wpO_some] at h
  exact Awp.of (by kernel_rfl) h

theorem impl_FlatOk_n2_l (x2571 : List Int) : Link impl_FlatOk_ctx LL (Code.fst (Code.fst (Code.snd (Code.snd (bodyOf Tryd.f23))))) (Ann.fst (Ann.fst (Ann.snd (Ann.snd impl_FlatOk_an)))) (⟨mkE 19 0 [(0, .dat (.list (.int .i64)) x2571)], []⟩ : St) (impl_FlatOk_n2 x2571) (fun (t : Int × (List Int)) => (Exit.normal, (⟨mkE 19 0 [(9, .slc 0), (10, .dat (.int .i64) t.1), (11, .dat (.int .i64) 0)], [some (.seq (.int .u64) t.2)]⟩ : St))) := by
  refine Link.of fun K h => ?_
  simp only [impl_FlatOk_n2, wpO_bind, wpO_cond, wpO_map, wpO_some] at h
  exact Awp.of (by kernel_rfl) h

theorem impl_FlatOk_n3_l (x2575 : Int) (x2602 : Int) (x2574 : List Int) : Link impl_FlatOk_ctx LL (Code.fst (Code.fst (Code.snd (Code.fst (Code.snd (Code.snd (bodyOf Tryd.f23))))))) (Ann.fst (Ann.fst (Ann.snd (Ann.fst (Ann.snd (Ann.snd impl_FlatOk_an)))))) (⟨mkE 19 0 [(9, .slc 0), (10, .dat (.int .i64) x2575), (11, .dat (.int .i64) x2602)], [some (.seq (.int .u64) x2574)]⟩ : St) (impl_FlatOk_n3 x2575 x2602 x2574) (Sum.elim (fun (t : Int) => (Exit.normal, (⟨mkE 19 0 [(9, .slc 0), (10, .dat (.int .i64) x2575), (11, .dat (.int .i64) t)], [some (.seq (.int .u64) x2574)]⟩ : St))) (Sum.elim (fun (t : Bool) => (Exit.ret, (⟨mkE 19 0 [(2, .dat .bool t)], []⟩ : St))) (fun (t : Unit) => ((Exit.exit 0), (⟨mkE 19 0 [], []⟩ : St))))) := by
  refine Link.of fun K h => ?_
  simp only [impl_FlatOk_n3, wpO_bind, wpO_cond, wpO_map, wpO_some] at h
  exact Awp.of (by kernel_rfl) h

theorem impl_FlatOk_n4_l (x2575 : Int) (x2574 : List Int) : Link impl_FlatOk_ctx LL (Code.fst (Code.snd (Code.fst (Code.snd (Code.snd (bodyOf Tryd.f23)))))) (Ann.fst (Ann.snd (Ann.fst (Ann.snd (Ann.snd impl_FlatOk_an))))) (⟨mkE 19 0 [(9, .slc 0), (10, .dat (.int .i64) x2575), (11, .dat (.int .i64) 0)], [some (.seq (.int .u64) x2574)]⟩ : St) (impl_FlatOk_n4 x2575 x2574) (Sum.elim (fun (t : Bool) => (Exit.ret, (⟨mkE 19 0 [(2, .dat .bool t)], []⟩ : St))) (fun (t : Unit) => ((Exit.exit 0), (⟨mkE 19 0 [], []⟩ : St)))) := by
  unfold impl_FlatOk_n4
  exact Link.cast (by kernel_rfl) (by kernel_rfl) (link_loop (mk := fun (s : Int) => (⟨mkE 19 0 [(9, .slc 0), (10, .dat (.int .i64) x2575), (11, .dat (.int .i64) s)], [some (.seq (.int .u64) x2574)]⟩ : St)) (fin := (Sum.elim (fun (t : Bool) => (Exit.ret, (⟨mkE 19 0 [(2, .dat .bool t)], []⟩ : St))) (fun (t : Unit) => ((Exit.exit 0), (⟨mkE 19 0 [], []⟩ : St))))) (by
  rintro (t | t) f K h
  · exact h
  · exact h) (fun s => link_map (impl_FlatOk_n3_l x2575 s x2574) (Sum.elim (fun (t : Int) => Sum.inl t) (Sum.elim (fun (t : Bool) => Sum.inr (Sum.inl t)) (fun (t : Unit) => Sum.inr (Sum.inr t)))) (by
  rintro (t | t | t)
  · kernel_rfl
  · kernel_rfl
  · kernel_rfl)) 0)

theorem impl_FlatOk_n5_l (x2575 : Int) (x2574 : List Int) : Link impl_FlatOk_ctx LL (Code.snd (Code.fst (Code.snd (Code.snd (bodyOf Tryd.f23))))) (Ann.snd (Ann.fst (Ann.snd (Ann.snd impl_FlatOk_an)))) (⟨mkE 19 0 [(9, .slc 0), (10, .dat (.int .i64) x2575), (11, .dat (.int .i64) 0)], [some (.seq (.int .u64) x2574)]⟩ : St) (impl_FlatOk_n5 x2575 x2574) (Sum.elim (fun (t : Unit) => (Exit.normal, (⟨mkE 19 0 [], []⟩ : St))) (fun (t : Bool) => (Exit.ret, (⟨mkE 19 0 [(2, .dat .bool t)], []⟩ : St)))) := by
  unfold impl_FlatOk_n5
  exact Link.cast (by kernel_rfl) (by kernel_rfl) (link_block (id := 0) (impl_FlatOk_n4_l x2575 x2574) (Sum.elim (fun (t : Bool) => (Sum.inr t)) (fun (t : Unit) => (Sum.inl ()))) (by
  rintro (t | t) K h
  · exact Eq.mp (by kernel_rfl) h
  · exact Eq.mp (by kernel_rfl) h))

theorem impl_FlatOk_n6_l (x2571 : List Int) : Link impl_FlatOk_ctx LL (Code.fst (Code.snd (Code.snd (bodyOf Tryd.f23)))) (Ann.fst (Ann.snd (Ann.snd impl_FlatOk_an))) (⟨mkE 19 0 [(0, .dat (.list (.int .i64)) x2571)], []⟩ : St) (impl_FlatOk_n6 x2571) (Sum.elim (fun (t : Unit) => (Exit.normal, (⟨mkE 19 0 [], []⟩ : St))) (fun (t : Bool) => (Exit.ret, (⟨mkE 19 0 [(2, .dat .bool t)], []⟩ : St)))) := by
  unfold impl_FlatOk_n6
  exact Link.cast (by kernel_rfl) (by kernel_rfl) (link_seq (b := (Code.snd (Code.fst (Code.snd (Code.snd (bodyOf Tryd.f23)))))) (y := (Ann.snd (Ann.fst (Ann.snd (Ann.snd impl_FlatOk_an))))) (impl_FlatOk_n2_l x2571) (fun (t : Int × (List Int)) => (impl_FlatOk_n5_l t.1 t.2)))

theorem impl_FlatOk_n7_l : Link impl_FlatOk_ctx LL (Code.snd (Code.snd (Code.snd (bodyOf Tryd.f23)))) (Ann.snd (Ann.snd (Ann.snd impl_FlatOk_an))) (⟨mkE 19 0 [], []⟩ : St) (impl_FlatOk_n7) (fun (t : Bool) => (Exit.ret, (⟨mkE 19 0 [(2, .dat .bool t)], []⟩ : St))) := by
  refine Link.of fun K h => ?_
  simp only [impl_FlatOk_n7, wpO_bind, wpO_cond, wpO_map, wpO_some] at h
  exact Awp.of (by kernel_rfl) h

theorem impl_FlatOk_n8_l (x2571 : List Int) : Link impl_FlatOk_ctx LL (Code.snd (Code.snd (bodyOf Tryd.f23))) (Ann.snd (Ann.snd impl_FlatOk_an)) (⟨mkE 19 0 [(0, .dat (.list (.int .i64)) x2571)], []⟩ : St) (impl_FlatOk_n8 x2571) (fun (t : Bool) => (Exit.ret, (⟨mkE 19 0 [(2, .dat .bool t)], []⟩ : St))) := by
  unfold impl_FlatOk_n8
  exact Link.cast (by kernel_rfl) (by kernel_rfl) (link_seq2 (b := (Code.snd (Code.snd (Code.snd (bodyOf Tryd.f23))))) (y := (Ann.snd (Ann.snd (Ann.snd impl_FlatOk_an)))) (impl_FlatOk_n6_l x2571) (fun (t : Unit) => (impl_FlatOk_n7_l)) (fun (t : Bool) => t) (by
  rintro t
  · kernel_rfl) (by
  rintro t f K h
  · exact h))

theorem impl_FlatOk_n9_l (x2571 : List Int) : Link impl_FlatOk_ctx LL (bodyOf Tryd.f23) impl_FlatOk_an (⟨mkE 19 0 [(0, .dat (.list (.int .i64)) x2571)], []⟩ : St) (impl_FlatOk_n9 x2571) (fun (t : Bool) => (Exit.ret, (⟨mkE 19 0 [(2, .dat .bool t)], []⟩ : St))) := by
  unfold impl_FlatOk_n9
  exact Link.cast (by kernel_rfl) (by kernel_rfl) (link_group (c := (Code.fst (Code.snd (bodyOf Tryd.f23)))) (a := (Ann.fst (Ann.snd impl_FlatOk_an))) [(Code.fst (bodyOf Tryd.f23))] [(Ann.fst impl_FlatOk_an)] rfl (link_seq2 (b := (Code.snd (Code.snd (bodyOf Tryd.f23)))) (y := (Ann.snd (Ann.snd impl_FlatOk_an))) (impl_FlatOk_n1_l x2571) (fun (t : Unit) => (impl_FlatOk_n8_l x2571)) (fun (t : Bool) => t) (by
  rintro t
  · kernel_rfl) (by
  rintro t f K h
  · exact h)))

theorem impl_FlatOk_e (x2571 : List Int) {r : AV} {H' : Heap} (h : (Ans.mk _ (impl_FlatOk x2571) (fun (t : Bool) => (.dat .bool t, []))).run = some (r, H')) : Awp impl_FlatOk_ctx LL (bodyOf Tryd.f23) impl_FlatOk_an (⟨mkE 19 0 [(0, .dat (.list (.int .i64)) x2571)], []⟩ : St) (Ret (tlook tys) Tryd.f23.results.toList r H') :=
  ret_of' (impl_FlatOk_n9_l x2571) (by unfold impl_FlatOk; kernel_rfl) (by
  intro t
  exact ret_mk [.dat .bool t] (by kernel_rfl) (by kernel_rfl) (by kernel_rfl) (by kernel_rfl)) h

def F_impl_FlatOk : Fun := fun avs H =>
  match avs, H with
  | [.dat (.list (.int .i64)) x2571], [] => ⟨_, impl_FlatOk x2571, fun (t : Bool) => (.dat .bool t, [])⟩
  | _, _ => Ans.no

theorem impl_FlatOk_sound : Sound Tryd.prog 23 F_impl_FlatOk := by
  refine fn_sound' (C := impl_FlatOk_ctx) (c := bodyOf Tryd.f23) (cok_of tys_ok (List.forall_mem_cons.2 ⟨impl_TreeOk_sound, List.forall_mem_cons.2 ⟨impl_yieldsOf_sound, List.forall_mem_cons.2 ⟨impl_wordSet_isRow_sound, by simp⟩⟩⟩) (List.forall_mem_cons.2 ⟨Tryd.call22, List.forall_mem_cons.2 ⟨Tryd.call43, List.forall_mem_cons.2 ⟨Tryd.call55, by simp⟩⟩⟩) (by kernel_rfl)) Tryd.func23 (by kernel_rfl) LL impl_FlatOk_an ?_
  intro avs H r H' h
  unfold F_impl_FlatOk at h
  split at h
  · refine Awp.cast ?_ ?_ ?_ (impl_FlatOk_e _ h) <;> kernel_rfl
  · simp [Ans.no, Ans.run] at h


/-! loop.example/headtrees/impl.arcBetween -/

def impl_arcBetween_an : Ann := (.seq (.leaf [0, 1, 4]) (.seq (.seq (.leaf [0, 1, 4, 16]) (.cond (.seq (.leaf [4, 5]) (.leaf [4, 5])) (.leaf [0, 1, 4]))) (.seq (.leaf [4, 5]) (.leaf [4, 5]))))

noncomputable def impl_arcBetween_ctx : Ctx := ⟨tlook tys, olook [], ioF, 0, false⟩

theorem impl_arcBetween_n1_l (x2635 : Int) (x2636 : Int) : Link impl_arcBetween_ctx LL (bodyOf Tryd.f78) impl_arcBetween_an (⟨mkE 25 0 [(0, .dat (.int .i64) x2635), (1, .dat (.int .i64) x2636)], []⟩ : St) (impl_arcBetween_n1 x2635 x2636) (fun (t : Bool × Int × Int) => (Exit.ret, (⟨mkE 25 0 [(4, .ptr 0 0), (5, .dat .bool t.1)], [some (.box [.dat (.int .i64) t.2.1, .dat (.int .i64) t.2.2])]⟩ : St))) := by
  refine Link.of fun K h => ?_
  simp only [impl_arcBetween_n1, wpO_bind, wpO_cond, wpO_map, wpO_some] at h
  exact Awp.of (by kernel_rfl) h

theorem impl_arcBetween_e (x2635 : Int) (x2636 : Int) {r : AV} {H' : Heap} (h : (Ans.mk _ (impl_arcBetween x2635 x2636) (fun (t : Bool × Int × Int) => (.tup [.agg [.dat (.int .i64) t.2.1, .dat (.int .i64) t.2.2], .dat .bool t.1], [some (.box [.dat (.int .i64) t.2.1, .dat (.int .i64) t.2.2])]))).run = some (r, H')) : Awp impl_arcBetween_ctx LL (bodyOf Tryd.f78) impl_arcBetween_an (⟨mkE 25 0 [(0, .dat (.int .i64) x2635), (1, .dat (.int .i64) x2636)], []⟩ : St) (Ret (tlook tys) Tryd.f78.results.toList r H') :=
  ret_of' (impl_arcBetween_n1_l x2635 x2636) (by unfold impl_arcBetween; kernel_rfl) (by
  intro t
  exact ret_mk [.agg [.dat (.int .i64) t.2.1, .dat (.int .i64) t.2.2], .dat .bool t.1] (by kernel_rfl) (by kernel_rfl) (by kernel_rfl) (by kernel_rfl)) h

def F_impl_arcBetween : Fun := fun avs H =>
  match avs, H with
  | [.dat (.int .i64) x2635, .dat (.int .i64) x2636], [] => ⟨_, impl_arcBetween x2635 x2636, fun (t : Bool × Int × Int) => (.tup [.agg [.dat (.int .i64) t.2.1, .dat (.int .i64) t.2.2], .dat .bool t.1], [some (.box [.dat (.int .i64) t.2.1, .dat (.int .i64) t.2.2])])⟩
  | _, _ => Ans.no

theorem impl_arcBetween_sound : Sound Tryd.prog 78 F_impl_arcBetween := by
  refine fn_sound' (C := impl_arcBetween_ctx) (c := bodyOf Tryd.f78) (cok_of tys_ok (by simp) (by simp) (by kernel_rfl)) Tryd.func78 (by kernel_rfl) LL impl_arcBetween_an ?_
  intro avs H r H' h
  unfold F_impl_arcBetween at h
  split at h
  · refine Awp.cast ?_ ?_ ?_ (impl_arcBetween_e _ _ h) <;> kernel_rfl
  · simp [Ans.no, Ans.run] at h


/-! loop.example/headtrees/impl.arcsOf -/

def impl_arcsOf_an : Ann := (.seq (.leaf [0]) (.seq (.leaf [0, 3]) (.seq (.seq (.leaf [3, 11, 12, 13]) (.block (.loop (.seq (.leaf [3, 11, 12, 13, 14]) (.seq (.cond (.leaf [3, 11, 12, 13]) (.leaf [3])) (.seq (.block (.seq (.leaf [3, 4, 5, 11, 12, 13]) (.seq (.leaf [3, 6, 7, 11, 12, 13]) (.seq (.leaf [3, 6, 11, 12, 13, 25]) (.cond (.leaf [3, 11, 12, 13]) (.leaf [3, 11, 12, 13])))))) (.leaf [3, 11, 12, 13]))))))) (.seq (.leaf [2]) (.leaf [2])))))

noncomputable def impl_arcsOf_ctx : Ctx := ⟨tlook tys, olook [(78, F_impl_arcBetween)], ioF, 0, false⟩

theorem impl_arcsOf_n1_l (x2624 : List Int) : Link impl_arcsOf_ctx LL (Code.seq (Code.fst (bodyOf Tryd.f57)) (Code.fst (Code.snd (bodyOf Tryd.f57)))) (Ann.seq (Ann.fst impl_arcsOf_an) (Ann.fst (Ann.snd impl_arcsOf_an))) (⟨mkE 32 0 [(0, .dat (.list (.int .i64)) x2624)], []⟩ : St) (impl_arcsOf_n1 x2624) (fun (t : (List (Int × Int × Unit))) => (Exit.normal, (⟨mkE 32 0 [(0, .dat (.list (.int .i64)) x2624), (3, .slc 0)], [some (.seq (.pair (.int .i64) (.pair (.int .i64) .unit)) t)]⟩ : St))) := by
  refine Link.of fun K h => ?_
  simp only [impl_arcsOf_n1, wpO_bind, wpO_cond, wpO_map, wpO_some] at h
  exact Awp.of (by kernel_rfl) h

theorem impl_arcsOf_n2_l (x2624 : List Int) (x2628 : List (Int × Int × Unit)) : Link impl_arcsOf_ctx LL (Code.fst (Code.fst (Code.snd (Code.snd (bodyOf Tryd.f57))))) (Ann.fst (Ann.fst (Ann.snd (Ann.snd impl_arcsOf_an)))) (⟨mkE 32 0 [(0, .dat (.list (.int .i64)) x2624), (3, .slc 0)], [some (.seq (.pair (.int .i64) (.pair (.int .i64) .unit)) x2628)]⟩ : St) (impl_arcsOf_n2 x2624) (fun (t : Int) => (Exit.normal, (⟨mkE 32 0 [(3, .slc 0), (11, .dat (.list (.int .i64)) x2624), (12, .dat (.int .i64) t), (13, .dat (.int .i64) 0)], [some (.seq (.pair (.int .i64) (.pair (.int .i64) .unit)) x2628)]⟩ : St))) := by
  refine Link.of fun K h => ?_
  simp only [impl_arcsOf_n2, wpO_bind, wpO_cond, wpO_map, wpO_some] at h
  exact Awp.of (by kernel_rfl) h

theorem impl_arcsOf_n3_l (x2624 : List Int) (x2629 : Int) (x2681 : Int) (x2682 : List (Int × Int × Unit)) : Link impl_arcsOf_ctx LL (Code.fst (Code.fst (Code.snd (Code.fst (Code.snd (Code.snd (bodyOf Tryd.f57))))))) (Ann.fst (Ann.fst (Ann.snd (Ann.fst (Ann.snd (Ann.snd impl_arcsOf_an)))))) (⟨mkE 32 0 [(3, .slc 0), (11, .dat (.list (.int .i64)) x2624), (12, .dat (.int .i64) x2629), (13, .dat (.int .i64) x2681)], [some (.seq (.pair (.int .i64) (.pair (.int .i64) .unit)) x2682)]⟩ : St) (impl_arcsOf_n3 x2624 x2629 x2681 x2682) (Sum.elim (fun (t : Int × (List (Int × Int × Unit))) => (Exit.normal, (⟨mkE 32 0 [(3, .slc 0), (11, .dat (.list (.int .i64)) x2624), (12, .dat (.int .i64) x2629), (13, .dat (.int .i64) t.1)], [some (.seq (.pair (.int .i64) (.pair (.int .i64) .unit)) t.2)]⟩ : St))) (fun (t : (List (Int × Int × Unit))) => ((Exit.exit 0), (⟨mkE 32 0 [(3, .slc 0)], [some (.seq (.pair (.int .i64) (.pair (.int .i64) .unit)) t)]⟩ : St)))) := by
  refine Link.of fun K h => ?_
  simp only [impl_arcsOf_n3, wpO_bind, wpO_cond, wpO_map, wpO_some] at h
  exact Awp.of (by kernel_rfl) h

theorem impl_arcsOf_n4_l (x2624 : List Int) (x2629 : Int) (x2628 : List (Int × Int × Unit)) : Link impl_arcsOf_ctx LL (Code.fst (Code.snd (Code.fst (Code.snd (Code.snd (bodyOf Tryd.f57)))))) (Ann.fst (Ann.snd (Ann.fst (Ann.snd (Ann.snd impl_arcsOf_an))))) (⟨mkE 32 0 [(3, .slc 0), (11, .dat (.list (.int .i64)) x2624), (12, .dat (.int .i64) x2629), (13, .dat (.int .i64) 0)], [some (.seq (.pair (.int .i64) (.pair (.int .i64) .unit)) x2628)]⟩ : St) (impl_arcsOf_n4 x2624 x2629 x2628) (fun (t : (List (Int × Int × Unit))) => ((Exit.exit 0), (⟨mkE 32 0 [(3, .slc 0)], [some (.seq (.pair (.int .i64) (.pair (.int .i64) .unit)) t)]⟩ : St))) := by
  unfold impl_arcsOf_n4
  exact Link.cast (by kernel_rfl) (by kernel_rfl) (link_loop (mk := fun (s : Int × (List (Int × Int × Unit))) => (⟨mkE 32 0 [(3, .slc 0), (11, .dat (.list (.int .i64)) x2624), (12, .dat (.int .i64) x2629), (13, .dat (.int .i64) s.1)], [some (.seq (.pair (.int .i64) (.pair (.int .i64) .unit)) s.2)]⟩ : St)) (fin := (fun (t : (List (Int × Int × Unit))) => ((Exit.exit 0), (⟨mkE 32 0 [(3, .slc 0)], [some (.seq (.pair (.int .i64) (.pair (.int .i64) .unit)) t)]⟩ : St)))) (by
  rintro t f K h
  · exact h) (fun s => link_map (impl_arcsOf_n3_l x2624 x2629 s.1 s.2) (Sum.elim (fun (t : Int × (List (Int × Int × Unit))) => Sum.inl (t.1, t.2)) (fun (t : (List (Int × Int × Unit))) => Sum.inr t)) (by
  rintro (t | t)
  · kernel_rfl
  · kernel_rfl)) (0, x2628))

theorem impl_arcsOf_n5_l (x2624 : List Int) (x2629 : Int) (x2628 : List (Int × Int × Unit)) : Link impl_arcsOf_ctx LL (Code.snd (Code.fst (Code.snd (Code.snd (bodyOf Tryd.f57))))) (Ann.snd (Ann.fst (Ann.snd (Ann.snd impl_arcsOf_an)))) (⟨mkE 32 0 [(3, .slc 0), (11, .dat (.list (.int .i64)) x2624), (12, .dat (.int .i64) x2629), (13, .dat (.int .i64) 0)], [some (.seq (.pair (.int .i64) (.pair (.int .i64) .unit)) x2628)]⟩ : St) (impl_arcsOf_n5 x2624 x2629 x2628) (fun (t : (List (Int × Int × Unit))) => (Exit.normal, (⟨mkE 32 0 [(3, .slc 0)], [some (.seq (.pair (.int .i64) (.pair (.int .i64) .unit)) t)]⟩ : St))) := by
  unfold impl_arcsOf_n5
  exact Link.cast (by kernel_rfl) (by kernel_rfl) (link_block (id := 0) (impl_arcsOf_n4_l x2624 x2629 x2628) (fun (t : (List (Int × Int × Unit))) => t) (by
  rintro t K h
  · exact Eq.mp (by kernel_rfl) h))

theorem impl_arcsOf_n6_l (x2624 : List Int) (x2628 : List (Int × Int × Unit)) : Link impl_arcsOf_ctx LL (Code.fst (Code.snd (Code.snd (bodyOf Tryd.f57)))) (Ann.fst (Ann.snd (Ann.snd impl_arcsOf_an))) (⟨mkE 32 0 [(0, .dat (.list (.int .i64)) x2624), (3, .slc 0)], [some (.seq (.pair (.int .i64) (.pair (.int .i64) .unit)) x2628)]⟩ : St) (impl_arcsOf_n6 x2624 x2628) (fun (t : (List (Int × Int × Unit))) => (Exit.normal, (⟨mkE 32 0 [(3, .slc 0)], [some (.seq (.pair (.int .i64) (.pair (.int .i64) .unit)) t)]⟩ : St))) := by
  unfold impl_arcsOf_n6
  exact Link.cast (by kernel_rfl) (by kernel_rfl) (link_seq (b := (Code.snd (Code.fst (Code.snd (Code.snd (bodyOf Tryd.f57)))))) (y := (Ann.snd (Ann.fst (Ann.snd (Ann.snd impl_arcsOf_an))))) (impl_arcsOf_n2_l x2624 x2628) (fun (t : Int) => (impl_arcsOf_n5_l x2624 t x2628)))

theorem impl_arcsOf_n7_l (x2682 : List (Int × Int × Unit)) : Link impl_arcsOf_ctx LL (Code.snd (Code.snd (Code.snd (bodyOf Tryd.f57)))) (Ann.snd (Ann.snd (Ann.snd impl_arcsOf_an))) (⟨mkE 32 0 [(3, .slc 0)], [some (.seq (.pair (.int .i64) (.pair (.int .i64) .unit)) x2682)]⟩ : St) (impl_arcsOf_n7 x2682) (fun (t : (List (Int × Int × Unit))) => (Exit.ret, (⟨mkE 32 0 [(2, .slc 0)], [some (.seq (.pair (.int .i64) (.pair (.int .i64) .unit)) t)]⟩ : St))) := by
  refine Link.of fun K h => ?_
  simp only [impl_arcsOf_n7, wpO_bind, wpO_cond, wpO_map, wpO_some] at h
  exact Awp.of (by kernel_rfl) h

theorem impl_arcsOf_n8_l (x2624 : List Int) (x2628 : List (Int × Int × Unit)) : Link impl_arcsOf_ctx LL (Code.snd (Code.snd (bodyOf Tryd.f57))) (Ann.snd (Ann.snd impl_arcsOf_an)) (⟨mkE 32 0 [(0, .dat (.list (.int .i64)) x2624), (3, .slc 0)], [some (.seq (.pair (.int .i64) (.pair (.int .i64) .unit)) x2628)]⟩ : St) (impl_arcsOf_n8 x2624 x2628) (fun (t : (List (Int × Int × Unit))) => (Exit.ret, (⟨mkE 32 0 [(2, .slc 0)], [some (.seq (.pair (.int .i64) (.pair (.int .i64) .unit)) t)]⟩ : St))) := by
  unfold impl_arcsOf_n8
  exact Link.cast (by kernel_rfl) (by kernel_rfl) (link_seq (b := (Code.snd (Code.snd (Code.snd (bodyOf Tryd.f57))))) (y := (Ann.snd (Ann.snd (Ann.snd impl_arcsOf_an)))) (impl_arcsOf_n6_l x2624 x2628) (fun (t : (List (Int × Int × Unit))) => (impl_arcsOf_n7_l t)))

theorem impl_arcsOf_n9_l (x2624 : List Int) : Link impl_arcsOf_ctx LL (bodyOf Tryd.f57) impl_arcsOf_an (⟨mkE 32 0 [(0, .dat (.list (.int .i64)) x2624)], []⟩ : St) (impl_arcsOf_n9 x2624) (fun (t : (List (Int × Int × Unit))) => (Exit.ret, (⟨mkE 32 0 [(2, .slc 0)], [some (.seq (.pair (.int .i64) (.pair (.int .i64) .unit)) t)]⟩ : St))) := by
  unfold impl_arcsOf_n9
  exact Link.cast (by kernel_rfl) (by kernel_rfl) (link_group (c := (Code.fst (Code.snd (bodyOf Tryd.f57)))) (a := (Ann.fst (Ann.snd impl_arcsOf_an))) [(Code.fst (bodyOf Tryd.f57))] [(Ann.fst impl_arcsOf_an)] rfl (link_seq (b := (Code.snd (Code.snd (bodyOf Tryd.f57)))) (y := (Ann.snd (Ann.snd impl_arcsOf_an))) (impl_arcsOf_n1_l x2624) (fun (t : (List (Int × Int × Unit))) => (impl_arcsOf_n8_l x2624 t))))

theorem impl_arcsOf_e (x2624 : List Int) {r : AV} {H' : Heap} (h : (Ans.mk _ (impl_arcsOf x2624) (fun (t : (List (Int × Int × Unit))) => (.slc 0, [some (.seq (.pair (.int .i64) (.pair (.int .i64) .unit)) t)]))).run = some (r, H')) : Awp impl_arcsOf_ctx LL (bodyOf Tryd.f57) impl_arcsOf_an (⟨mkE 32 0 [(0, .dat (.list (.int .i64)) x2624)], []⟩ : St) (Ret (tlook tys) Tryd.f57.results.toList r H') :=
  ret_of' (impl_arcsOf_n9_l x2624) (by unfold impl_arcsOf; kernel_rfl) (by
  intro t
  exact ret_mk [.slc 0] (by kernel_rfl) (by kernel_rfl) (by kernel_rfl) (by kernel_rfl)) h

def F_impl_arcsOf : Fun := fun avs H =>
  match avs, H with
  | [.dat (.list (.int .i64)) x2624], [] => ⟨_, impl_arcsOf x2624, fun (t : (List (Int × Int × Unit))) => (.slc 0, [some (.seq (.pair (.int .i64) (.pair (.int .i64) .unit)) t)])⟩
  | _, _ => Ans.no

theorem impl_arcsOf_sound : Sound Tryd.prog 57 F_impl_arcsOf := by
  refine fn_sound' (C := impl_arcsOf_ctx) (c := bodyOf Tryd.f57) (cok_of tys_ok (List.forall_mem_cons.2 ⟨impl_arcBetween_sound, by simp⟩) (List.forall_mem_cons.2 ⟨Tryd.call78, by simp⟩) (by kernel_rfl)) Tryd.func57 (by kernel_rfl) LL impl_arcsOf_an ?_
  intro avs H r H' h
  unfold F_impl_arcsOf at h
  split at h
  · refine Awp.cast ?_ ?_ ?_ (impl_arcsOf_e _ h) <;> kernel_rfl
  · simp [Ans.no, Ans.run] at h


/-! (loop.example/headtrees/impl.arc).covers -/

def impl_arc_covers_an : Ann := (.seq (.leaf [1, 2]) (.seq (.leaf [4]) (.leaf [4])))

noncomputable def impl_arc_covers_ctx : Ctx := ⟨tlook tys, olook [], ioF, 0, false⟩

theorem impl_arc_covers_n1_l (x2747 : Int) (x2748 : Int) (x2749 : Int) : Link impl_arc_covers_ctx LL (bodyOf Tryd.f79) impl_arc_covers_an (⟨mkE 15 0 [(0, .agg [.dat (.int .i64) x2747, .dat (.int .i64) x2748]), (1, .dat (.int .i64) x2749)], []⟩ : St) (impl_arc_covers_n1 x2747 x2748 x2749) (fun (t : Bool) => (Exit.ret, (⟨mkE 15 0 [(4, .dat .bool t)], []⟩ : St))) := by
  refine Link.of fun K h => ?_
  simp only [impl_arc_covers_n1, wpO_bind, wpO_cond, wpO_map, wpO_some] at h
  exact Awp.of (by kernel_rfl) h

theorem impl_arc_covers_e (x2747 : Int) (x2748 : Int) (x2749 : Int) {r : AV} {H' : Heap} (h : (Ans.mk _ (impl_arc_covers x2747 x2748 x2749) (fun (t : Bool) => (.dat .bool t, []))).run = some (r, H')) : Awp impl_arc_covers_ctx LL (bodyOf Tryd.f79) impl_arc_covers_an (⟨mkE 15 0 [(0, .agg [.dat (.int .i64) x2747, .dat (.int .i64) x2748]), (1, .dat (.int .i64) x2749)], []⟩ : St) (Ret (tlook tys) Tryd.f79.results.toList r H') :=
  ret_of' (impl_arc_covers_n1_l x2747 x2748 x2749) (by unfold impl_arc_covers; kernel_rfl) (by
  intro t
  exact ret_mk [.dat .bool t] (by kernel_rfl) (by kernel_rfl) (by kernel_rfl) (by kernel_rfl)) h

def F_impl_arc_covers : Fun := fun avs H =>
  match avs, H with
  | [.agg [.dat (.int .i64) x2747, .dat (.int .i64) x2748], .dat (.int .i64) x2749], [] => ⟨_, impl_arc_covers x2747 x2748 x2749, fun (t : Bool) => (.dat .bool t, [])⟩
  | _, _ => Ans.no

theorem impl_arc_covers_sound : Sound Tryd.prog 79 F_impl_arc_covers := by
  refine fn_sound' (C := impl_arc_covers_ctx) (c := bodyOf Tryd.f79) (cok_of tys_ok (by simp) (by simp) (by kernel_rfl)) Tryd.func79 (by kernel_rfl) LL impl_arc_covers_an ?_
  intro avs H r H' h
  unfold F_impl_arc_covers at h
  split at h
  · refine Awp.cast ?_ ?_ ?_ (impl_arc_covers_e _ _ _ h) <;> kernel_rfl
  · simp [Ans.no, Ans.run] at h


/-! (loop.example/headtrees/impl.arc).leavesOut -/

def impl_arc_leavesOut_an : Ann := (.seq (.leaf [1, 2]) (.seq (.leaf [4]) (.leaf [4])))

noncomputable def impl_arc_leavesOut_ctx : Ctx := ⟨tlook tys, olook [], ioF, 0, false⟩

theorem impl_arc_leavesOut_n1_l (x2756 : Int) (x2757 : Int) (x2758 : Int) : Link impl_arc_leavesOut_ctx LL (bodyOf Tryd.f80) impl_arc_leavesOut_an (⟨mkE 15 0 [(0, .agg [.dat (.int .i64) x2756, .dat (.int .i64) x2757]), (1, .dat (.int .i64) x2758)], []⟩ : St) (impl_arc_leavesOut_n1 x2756 x2757 x2758) (fun (t : Bool) => (Exit.ret, (⟨mkE 15 0 [(4, .dat .bool t)], []⟩ : St))) := by
  refine Link.of fun K h => ?_
  simp only [impl_arc_leavesOut_n1, wpO_bind, wpO_cond, wpO_map, wpO_some] at h
  exact Awp.of (by kernel_rfl) h

theorem impl_arc_leavesOut_e (x2756 : Int) (x2757 : Int) (x2758 : Int) {r : AV} {H' : Heap} (h : (Ans.mk _ (impl_arc_leavesOut x2756 x2757 x2758) (fun (t : Bool) => (.dat .bool t, []))).run = some (r, H')) : Awp impl_arc_leavesOut_ctx LL (bodyOf Tryd.f80) impl_arc_leavesOut_an (⟨mkE 15 0 [(0, .agg [.dat (.int .i64) x2756, .dat (.int .i64) x2757]), (1, .dat (.int .i64) x2758)], []⟩ : St) (Ret (tlook tys) Tryd.f80.results.toList r H') :=
  ret_of' (impl_arc_leavesOut_n1_l x2756 x2757 x2758) (by unfold impl_arc_leavesOut; kernel_rfl) (by
  intro t
  exact ret_mk [.dat .bool t] (by kernel_rfl) (by kernel_rfl) (by kernel_rfl) (by kernel_rfl)) h

def F_impl_arc_leavesOut : Fun := fun avs H =>
  match avs, H with
  | [.agg [.dat (.int .i64) x2756, .dat (.int .i64) x2757], .dat (.int .i64) x2758], [] => ⟨_, impl_arc_leavesOut x2756 x2757 x2758, fun (t : Bool) => (.dat .bool t, [])⟩
  | _, _ => Ans.no

theorem impl_arc_leavesOut_sound : Sound Tryd.prog 80 F_impl_arc_leavesOut := by
  refine fn_sound' (C := impl_arc_leavesOut_ctx) (c := bodyOf Tryd.f80) (cok_of tys_ok (by simp) (by simp) (by kernel_rfl)) Tryd.func80 (by kernel_rfl) LL impl_arc_leavesOut_an ?_
  intro avs H r H' h
  unfold F_impl_arc_leavesOut at h
  split at h
  · refine Awp.cast ?_ ?_ ?_ (impl_arc_leavesOut_e _ _ _ h) <;> kernel_rfl
  · simp [Ans.no, Ans.run] at h


/-! (loop.example/headtrees/impl.arc).crosses -/

def impl_arc_crosses_an : Ann := (.seq (.leaf [2, 3]) (.seq (.leaf [4]) (.leaf [4])))

noncomputable def impl_arc_crosses_ctx : Ctx := ⟨tlook tys, olook [(79, F_impl_arc_covers), (80, F_impl_arc_leavesOut)], ioF, 0, false⟩

theorem impl_arc_crosses_n1_l (x2743 : Int) (x2744 : Int) (x2745 : Int) (x2746 : Int) : Link impl_arc_crosses_ctx LL (bodyOf Tryd.f58) impl_arc_crosses_an (⟨mkE 27 0 [(0, .agg [.dat (.int .i64) x2743, .dat (.int .i64) x2744]), (1, .agg [.dat (.int .i64) x2745, .dat (.int .i64) x2746])], []⟩ : St) (impl_arc_crosses_n1 x2743 x2744 x2745 x2746) (fun (t : Bool) => (Exit.ret, (⟨mkE 27 0 [(4, .dat .bool t)], []⟩ : St))) := by
  refine Link.of fun K h => ?_
  simp only [impl_arc_crosses_n1, wpO_bind, wpO_cond, wpO_map, wpO_some] at h
  exact Awp.of (by kernel_rfl) h

theorem impl_arc_crosses_e (x2743 : Int) (x2744 : Int) (x2745 : Int) (x2746 : Int) {r : AV} {H' : Heap} (h : (Ans.mk _ (impl_arc_crosses x2743 x2744 x2745 x2746) (fun (t : Bool) => (.dat .bool t, []))).run = some (r, H')) : Awp impl_arc_crosses_ctx LL (bodyOf Tryd.f58) impl_arc_crosses_an (⟨mkE 27 0 [(0, .agg [.dat (.int .i64) x2743, .dat (.int .i64) x2744]), (1, .agg [.dat (.int .i64) x2745, .dat (.int .i64) x2746])], []⟩ : St) (Ret (tlook tys) Tryd.f58.results.toList r H') :=
  ret_of' (impl_arc_crosses_n1_l x2743 x2744 x2745 x2746) (by unfold impl_arc_crosses; kernel_rfl) (by
  intro t
  exact ret_mk [.dat .bool t] (by kernel_rfl) (by kernel_rfl) (by kernel_rfl) (by kernel_rfl)) h

def F_impl_arc_crosses : Fun := fun avs H =>
  match avs, H with
  | [.agg [.dat (.int .i64) x2743, .dat (.int .i64) x2744], .agg [.dat (.int .i64) x2745, .dat (.int .i64) x2746]], [] => ⟨_, impl_arc_crosses x2743 x2744 x2745 x2746, fun (t : Bool) => (.dat .bool t, [])⟩
  | _, _ => Ans.no

theorem impl_arc_crosses_sound : Sound Tryd.prog 58 F_impl_arc_crosses := by
  refine fn_sound' (C := impl_arc_crosses_ctx) (c := bodyOf Tryd.f58) (cok_of tys_ok (List.forall_mem_cons.2 ⟨impl_arc_covers_sound, List.forall_mem_cons.2 ⟨impl_arc_leavesOut_sound, by simp⟩⟩) (List.forall_mem_cons.2 ⟨Tryd.call79, List.forall_mem_cons.2 ⟨Tryd.call80, by simp⟩⟩) (by kernel_rfl)) Tryd.func58 (by kernel_rfl) LL impl_arc_crosses_an ?_
  intro avs H r H' h
  unfold F_impl_arc_crosses at h
  split at h
  · refine Awp.cast ?_ ?_ ?_ (impl_arc_crosses_e _ _ _ _ h) <;> kernel_rfl
  · simp [Ans.no, Ans.run] at h


/-! loop.example/headtrees/impl.countPairs[loop.example/headtrees/impl.arc] -/

def impl_countPairs_impl_arc_an : Ann := (.seq (.leaf [0, 1]) (.seq (.leaf [0, 1, 5]) (.seq (.seq (.leaf [0, 1, 5, 10, 11, 12]) (.block (.loop (.seq (.leaf [0, 1, 5, 10, 11, 12, 13]) (.seq (.cond (.leaf [0, 1, 5, 10, 11, 12]) (.leaf [5])) (.seq (.block (.seq (.leaf [0, 1, 5, 6, 7, 10, 11, 12]) (.seq (.leaf [0, 1, 5, 7, 10, 11, 12, 20, 21, 22]) (.block (.loop (.seq (.leaf [0, 1, 5, 7, 10, 11, 12, 20, 21, 22, 23]) (.seq (.cond (.leaf [0, 1, 5, 7, 10, 11, 12, 20, 21, 22]) (.leaf [0, 1, 5, 10, 11, 12])) (.seq (.block (.seq (.leaf [0, 1, 5, 7, 9, 10, 11, 12, 20, 21, 22]) (.seq (.leaf [0, 1, 5, 7, 10, 11, 12, 20, 21, 22, 29]) (.cond (.leaf [0, 1, 5, 7, 10, 11, 12, 20, 21, 22]) (.leaf [0, 1, 5, 7, 10, 11, 12, 20, 21, 22]))))) (.leaf [0, 1, 5, 7, 10, 11, 12, 20, 21, 22]))))))))) (.leaf [0, 1, 5, 10, 11, 12]))))))) (.seq (.leaf [4]) (.leaf [4])))))

noncomputable def impl_countPairs_impl_arc_ctx : Ctx := ⟨tlook tys, olook [(58, F_impl_arc_crosses)], ioF, 0, false⟩

theorem impl_countPairs_impl_arc_n1_l (x2716 : List (Int × Int × Unit)) : Link impl_countPairs_impl_arc_ctx LL (Code.seq (Code.fst (bodyOf Tryd.f56)) (Code.fst (Code.snd (bodyOf Tryd.f56)))) (Ann.seq (Ann.fst impl_countPairs_impl_arc_an) (Ann.fst (Ann.snd impl_countPairs_impl_arc_an))) (⟨mkE 35 0 [(0, .dat (.list (.pair (.int .i64) (.pair (.int .i64) .unit))) x2716), (1, .fn 58 [] [])], []⟩ : St) (impl_countPairs_impl_arc_n1) (fun (t : Unit) => (Exit.normal, (⟨mkE 35 0 [(0, .dat (.list (.pair (.int .i64) (.pair (.int .i64) .unit))) x2716), (1, .fn 58 [] []), (5, .dat (.int .i64) 0)], []⟩ : St))) := by
  refine Link.of fun K h => ?_
  simp only [impl_countPairs_impl_arc_n1, wpO_bind, wpO_cond, wpO_map, wpO_some] at h
  exact Awp.of (by kernel_rfl) h

theorem impl_countPairs_impl_arc_n2_l (x2716 : List (Int × Int × Unit)) : Link impl_countPairs_impl_arc_ctx LL (Code.fst (Code.fst (Code.snd (Code.snd (bodyOf Tryd.f56))))) (Ann.fst (Ann.fst (Ann.snd (Ann.snd impl_countPairs_impl_arc_an)))) (⟨mkE 35 0 [(0, .dat (.list (.pair (.int .i64) (.pair (.int .i64) .unit))) x2716), (1, .fn 58 [] []), (5, .dat (.int .i64) 0)], []⟩ : St) (impl_countPairs_impl_arc_n2 x2716) (fun (t : Int) => (Exit.normal, (⟨mkE 35 0 [(0, .dat (.list (.pair (.int .i64) (.pair (.int .i64) .unit))) x2716), (1, .fn 58 [] []), (5, .dat (.int .i64) 0), (10, .dat (.list (.pair (.int .i64) (.pair (.int .i64) .unit))) x2716), (11, .dat (.int .i64) t), (12, .dat (.int .i64) 0)], []⟩ : St))) := by
  refine Link.of fun K h => ?_
  simp only [impl_countPairs_impl_arc_n2, wpO_bind, wpO_cond, wpO_map, wpO_some] at h
  exact Awp.of (by kernel_rfl) h

theorem impl_countPairs_impl_arc_n3_l (x2716 : List (Int × Int × Unit)) (x2815 : Int) (x2717 : Int) (x2816 : Int) : Link impl_countPairs_impl_arc_ctx LL (Code.seq (Code.fst (Code.fst (Code.fst (Code.snd (Code.fst (Code.snd (Code.snd (bodyOf Tryd.f56)))))))) (Code.fst (Code.snd (Code.fst (Code.fst (Code.snd (Code.fst (Code.snd (Code.snd (bodyOf Tryd.f56)))))))))) (Ann.seq (Ann.fst (Ann.fst (Ann.fst (Ann.snd (Ann.fst (Ann.snd (Ann.snd impl_countPairs_impl_arc_an))))))) (Ann.fst (Ann.snd (Ann.fst (Ann.fst (Ann.snd (Ann.fst (Ann.snd (Ann.snd impl_countPairs_impl_arc_an))))))))) (⟨mkE 35 0 [(0, .dat (.list (.pair (.int .i64) (.pair (.int .i64) .unit))) x2716), (1, .fn 58 [] []), (5, .dat (.int .i64) x2815), (10, .dat (.list (.pair (.int .i64) (.pair (.int .i64) .unit))) x2716), (11, .dat (.int .i64) x2717), (12, .dat (.int .i64) x2816)], []⟩ : St) (impl_countPairs_impl_arc_n3 x2815 x2717 x2816) (Sum.elim (fun (t : Unit) => (Exit.normal, (⟨mkE 35 0 [(0, .dat (.list (.pair (.int .i64) (.pair (.int .i64) .unit))) x2716), (1, .fn 58 [] []), (5, .dat (.int .i64) x2815), (10, .dat (.list (.pair (.int .i64) (.pair (.int .i64) .unit))) x2716), (11, .dat (.int .i64) x2717), (12, .dat (.int .i64) x2816)], []⟩ : St))) (fun (t : Int) => ((Exit.exit 0), (⟨mkE 35 0 [(5, .dat (.int .i64) t)], []⟩ : St)))) := by
  refine Link.of fun K h => ?_
  simp only [impl_countPairs_impl_arc_n3, wpO_bind, wpO_cond, wpO_map, wpO_some] at h
  exact Awp.of (by kernel_rfl) h

theorem impl_countPairs_impl_arc_n4_l (x2716 : List (Int × Int × Unit)) (x2815 : Int) (x2717 : Int) (x2816 : Int) : Link impl_countPairs_impl_arc_ctx LL (Code.seq (Code.fst (Code.fst (Code.fst (Code.snd (Code.snd (Code.fst (Code.fst (Code.snd (Code.fst (Code.snd (Code.snd (bodyOf Tryd.f56)))))))))))) (Code.fst (Code.snd (Code.fst (Code.fst (Code.snd (Code.snd (Code.fst (Code.fst (Code.snd (Code.fst (Code.snd (Code.snd (bodyOf Tryd.f56)))))))))))))) (Ann.seq (Ann.fst (Ann.fst (Ann.fst (Ann.snd (Ann.snd (Ann.fst (Ann.fst (Ann.snd (Ann.fst (Ann.snd (Ann.snd impl_countPairs_impl_arc_an))))))))))) (Ann.fst (Ann.snd (Ann.fst (Ann.fst (Ann.snd (Ann.snd (Ann.fst (Ann.fst (Ann.snd (Ann.fst (Ann.snd (Ann.snd impl_countPairs_impl_arc_an))))))))))))) (⟨mkE 35 0 [(0, .dat (.list (.pair (.int .i64) (.pair (.int .i64) .unit))) x2716), (1, .fn 58 [] []), (5, .dat (.int .i64) x2815), (10, .dat (.list (.pair (.int .i64) (.pair (.int .i64) .unit))) x2716), (11, .dat (.int .i64) x2717), (12, .dat (.int .i64) x2816)], []⟩ : St) (impl_countPairs_impl_arc_n4 x2716 x2816) (fun (t : (List (Int × Int × Unit)) × Int × Int × Int) => (Exit.normal, (⟨mkE 35 0 [(0, .dat (.list (.pair (.int .i64) (.pair (.int .i64) .unit))) x2716), (1, .fn 58 [] []), (5, .dat (.int .i64) x2815), (7, .ptr 0 0), (10, .dat (.list (.pair (.int .i64) (.pair (.int .i64) .unit))) x2716), (11, .dat (.int .i64) x2717), (12, .dat (.int .i64) x2816), (20, .dat (.list (.pair (.int .i64) (.pair (.int .i64) .unit))) t.1), (21, .dat (.int .i64) t.2.1), (22, .dat (.int .i64) 0)], [some (.box [.dat (.int .i64) t.2.2.1, .dat (.int .i64) t.2.2.2])]⟩ : St))) := by
  refine Link.of fun K h => ?_
  simp only [impl_countPairs_impl_arc_n4, wpO_bind, wpO_cond, wpO_map, wpO_some] at h
  exact Awp.of (by kernel_rfl) h

theorem impl_countPairs_impl_arc_n5_l (x2716 : List (Int × Int × Unit)) (x2856 : Int) (x2717 : Int) (x2816 : Int) (x2832 : List (Int × Int × Unit)) (x2833 : Int) (x2857 : Int) (x2825 : Int) (x2827 : Int) : Link impl_countPairs_impl_arc_ctx LL (Code.fst (Code.fst (Code.snd (Code.snd (Code.fst (Code.fst (Code.snd (Code.snd (Code.fst (Code.fst (Code.snd (Code.fst (Code.snd (Code.snd (bodyOf Tryd.f56))))))))))))))) (Ann.fst (Ann.fst (Ann.snd (Ann.snd (Ann.fst (Ann.fst (Ann.snd (Ann.snd (Ann.fst (Ann.fst (Ann.snd (Ann.fst (Ann.snd (Ann.snd impl_countPairs_impl_arc_an)))))))))))))) (⟨mkE 35 0 [(0, .dat (.list (.pair (.int .i64) (.pair (.int .i64) .unit))) x2716), (1, .fn 58 [] []), (5, .dat (.int .i64) x2856), (7, .ptr 0 0), (10, .dat (.list (.pair (.int .i64) (.pair (.int .i64) .unit))) x2716), (11, .dat (.int .i64) x2717), (12, .dat (.int .i64) x2816), (20, .dat (.list (.pair (.int .i64) (.pair (.int .i64) .unit))) x2832), (21, .dat (.int .i64) x2833), (22, .dat (.int .i64) x2857)], [some (.box [.dat (.int .i64) x2825, .dat (.int .i64) x2827])]⟩ : St) (impl_countPairs_impl_arc_n5 x2856 x2832 x2833 x2857 x2825 x2827) (Sum.elim (fun (t : Int × Int) => (Exit.normal, (⟨mkE 35 0 [(0, .dat (.list (.pair (.int .i64) (.pair (.int .i64) .unit))) x2716), (1, .fn 58 [] []), (5, .dat (.int .i64) t.1), (7, .ptr 0 0), (10, .dat (.list (.pair (.int .i64) (.pair (.int .i64) .unit))) x2716), (11, .dat (.int .i64) x2717), (12, .dat (.int .i64) x2816), (20, .dat (.list (.pair (.int .i64) (.pair (.int .i64) .unit))) x2832), (21, .dat (.int .i64) x2833), (22, .dat (.int .i64) t.2)], [some (.box [.dat (.int .i64) x2825, .dat (.int .i64) x2827])]⟩ : St))) (fun (t : Int) => ((Exit.exit 2), (⟨mkE 35 0 [(0, .dat (.list (.pair (.int .i64) (.pair (.int .i64) .unit))) x2716), (1, .fn 58 [] []), (5, .dat (.int .i64) t), (10, .dat (.list (.pair (.int .i64) (.pair (.int .i64) .unit))) x2716), (11, .dat (.int .i64) x2717), (12, .dat (.int .i64) x2816)], []⟩ : St)))) := by
  refine Link.of fun K h => ?_
  simp only [impl_countPairs_impl_arc_n5, wpO_bind, wpO_cond, wpO_map, wpO_some] at h
  exact Awp.of (by kernel_rfl) h

theorem impl_countPairs_impl_arc_n6_l (x2716 : List (Int × Int × Unit)) (x2815 : Int) (x2717 : Int) (x2816 : Int) (x2832 : List (Int × Int × Unit)) (x2833 : Int) (x2825 : Int) (x2827 : Int) : Link impl_countPairs_impl_arc_ctx LL (Code.fst (Code.snd (Code.snd (Code.fst (Code.fst (Code.snd (Code.snd (Code.fst (Code.fst (Code.snd (Code.fst (Code.snd (Code.snd (bodyOf Tryd.f56)))))))))))))) (Ann.fst (Ann.snd (Ann.snd (Ann.fst (Ann.fst (Ann.snd (Ann.snd (Ann.fst (Ann.fst (Ann.snd (Ann.fst (Ann.snd (Ann.snd impl_countPairs_impl_arc_an))))))))))))) (⟨mkE 35 0 [(0, .dat (.list (.pair (.int .i64) (.pair (.int .i64) .unit))) x2716), (1, .fn 58 [] []), (5, .dat (.int .i64) x2815), (7, .ptr 0 0), (10, .dat (.list (.pair (.int .i64) (.pair (.int .i64) .unit))) x2716), (11, .dat (.int .i64) x2717), (12, .dat (.int .i64) x2816), (20, .dat (.list (.pair (.int .i64) (.pair (.int .i64) .unit))) x2832), (21, .dat (.int .i64) x2833), (22, .dat (.int .i64) 0)], [some (.box [.dat (.int .i64) x2825, .dat (.int .i64) x2827])]⟩ : St) (impl_countPairs_impl_arc_n6 x2815 x2832 x2833 x2825 x2827) (fun (t : Int) => ((Exit.exit 2), (⟨mkE 35 0 [(0, .dat (.list (.pair (.int .i64) (.pair (.int .i64) .unit))) x2716), (1, .fn 58 [] []), (5, .dat (.int .i64) t), (10, .dat (.list (.pair (.int .i64) (.pair (.int .i64) .unit))) x2716), (11, .dat (.int .i64) x2717), (12, .dat (.int .i64) x2816)], []⟩ : St))) := by
  unfold impl_countPairs_impl_arc_n6
  exact Link.cast (by kernel_rfl) (by kernel_rfl) (link_loop (mk := fun (s : Int × Int) => (⟨mkE 35 0 [(0, .dat (.list (.pair (.int .i64) (.pair (.int .i64) .unit))) x2716), (1, .fn 58 [] []), (5, .dat (.int .i64) s.1), (7, .ptr 0 0), (10, .dat (.list (.pair (.int .i64) (.pair (.int .i64) .unit))) x2716), (11, .dat (.int .i64) x2717), (12, .dat (.int .i64) x2816), (20, .dat (.list (.pair (.int .i64) (.pair (.int .i64) .unit))) x2832), (21, .dat (.int .i64) x2833), (22, .dat (.int .i64) s.2)], [some (.box [.dat (.int .i64) x2825, .dat (.int .i64) x2827])]⟩ : St)) (fin := (fun (t : Int) => ((Exit.exit 2), (⟨mkE 35 0 [(0, .dat (.list (.pair (.int .i64) (.pair (.int .i64) .unit))) x2716), (1, .fn 58 [] []), (5, .dat (.int .i64) t), (10, .dat (.list (.pair (.int .i64) (.pair (.int .i64) .unit))) x2716), (11, .dat (.int .i64) x2717), (12, .dat (.int .i64) x2816)], []⟩ : St)))) (by
  rintro t f K h
  · exact h) (fun s => link_map (impl_countPairs_impl_arc_n5_l x2716 s.1 x2717 x2816 x2832 x2833 s.2 x2825 x2827) (Sum.elim (fun (t : Int × Int) => Sum.inl (t.1, t.2)) (fun (t : Int) => Sum.inr t)) (by
  rintro (t | t)
  · kernel_rfl
  · kernel_rfl)) (x2815, 0))

theorem impl_countPairs_impl_arc_n7_l (x2716 : List (Int × Int × Unit)) (x2815 : Int) (x2717 : Int) (x2816 : Int) (x2832 : List (Int × Int × Unit)) (x2833 : Int) (x2825 : Int) (x2827 : Int) : Link impl_countPairs_impl_arc_ctx LL (Code.snd (Code.snd (Code.fst (Code.fst (Code.snd (Code.snd (Code.fst (Code.fst (Code.snd (Code.fst (Code.snd (Code.snd (bodyOf Tryd.f56))))))))))))) (Ann.snd (Ann.snd (Ann.fst (Ann.fst (Ann.snd (Ann.snd (Ann.fst (Ann.fst (Ann.snd (Ann.fst (Ann.snd (Ann.snd impl_countPairs_impl_arc_an)))))))))))) (⟨mkE 35 0 [(0, .dat (.list (.pair (.int .i64) (.pair (.int .i64) .unit))) x2716), (1, .fn 58 [] []), (5, .dat (.int .i64) x2815), (7, .ptr 0 0), (10, .dat (.list (.pair (.int .i64) (.pair (.int .i64) .unit))) x2716), (11, .dat (.int .i64) x2717), (12, .dat (.int .i64) x2816), (20, .dat (.list (.pair (.int .i64) (.pair (.int .i64) .unit))) x2832), (21, .dat (.int .i64) x2833), (22, .dat (.int .i64) 0)], [some (.box [.dat (.int .i64) x2825, .dat (.int .i64) x2827])]⟩ : St) (impl_countPairs_impl_arc_n7 x2815 x2832 x2833 x2825 x2827) (fun (t : Int) => (Exit.normal, (⟨mkE 35 0 [(0, .dat (.list (.pair (.int .i64) (.pair (.int .i64) .unit))) x2716), (1, .fn 58 [] []), (5, .dat (.int .i64) t), (10, .dat (.list (.pair (.int .i64) (.pair (.int .i64) .unit))) x2716), (11, .dat (.int .i64) x2717), (12, .dat (.int .i64) x2816)], []⟩ : St))) := by
  unfold impl_countPairs_impl_arc_n7
  exact Link.cast (by kernel_rfl) (by kernel_rfl) (link_block (id := 2) (impl_countPairs_impl_arc_n6_l x2716 x2815 x2717 x2816 x2832 x2833 x2825 x2827) (fun (t : Int) => t) (by
  rintro t K h
  · exact Eq.mp (by kernel_rfl) h))

theorem impl_countPairs_impl_arc_n8_l (x2716 : List (Int × Int × Unit)) (x2815 : Int) (x2717 : Int) (x2816 : Int) : Link impl_countPairs_impl_arc_ctx LL (Code.fst (Code.fst (Code.snd (Code.snd (Code.fst (Code.fst (Code.snd (Code.fst (Code.snd (Code.snd (bodyOf Tryd.f56))))))))))) (Ann.fst (Ann.fst (Ann.snd (Ann.snd (Ann.fst (Ann.fst (Ann.snd (Ann.fst (Ann.snd (Ann.snd impl_countPairs_impl_arc_an)))))))))) (⟨mkE 35 0 [(0, .dat (.list (.pair (.int .i64) (.pair (.int .i64) .unit))) x2716), (1, .fn 58 [] []), (5, .dat (.int .i64) x2815), (10, .dat (.list (.pair (.int .i64) (.pair (.int .i64) .unit))) x2716), (11, .dat (.int .i64) x2717), (12, .dat (.int .i64) x2816)], []⟩ : St) (impl_countPairs_impl_arc_n8 x2716 x2815 x2816) (fun (t : Int) => (Exit.normal, (⟨mkE 35 0 [(0, .dat (.list (.pair (.int .i64) (.pair (.int .i64) .unit))) x2716), (1, .fn 58 [] []), (5, .dat (.int .i64) t), (10, .dat (.list (.pair (.int .i64) (.pair (.int .i64) .unit))) x2716), (11, .dat (.int .i64) x2717), (12, .dat (.int .i64) x2816)], []⟩ : St))) := by
  unfold impl_countPairs_impl_arc_n8
  exact Link.cast (by kernel_rfl) (by kernel_rfl) (link_group (c := (Code.fst (Code.snd (Code.fst (Code.fst (Code.snd (Code.snd (Code.fst (Code.fst (Code.snd (Code.fst (Code.snd (Code.snd (bodyOf Tryd.f56)))))))))))))) (a := (Ann.fst (Ann.snd (Ann.fst (Ann.fst (Ann.snd (Ann.snd (Ann.fst (Ann.fst (Ann.snd (Ann.fst (Ann.snd (Ann.snd impl_countPairs_impl_arc_an))))))))))))) [(Code.fst (Code.fst (Code.fst (Code.snd (Code.snd (Code.fst (Code.fst (Code.snd (Code.fst (Code.snd (Code.snd (bodyOf Tryd.f56))))))))))))] [(Ann.fst (Ann.fst (Ann.fst (Ann.snd (Ann.snd (Ann.fst (Ann.fst (Ann.snd (Ann.fst (Ann.snd (Ann.snd impl_countPairs_impl_arc_an)))))))))))] rfl (link_seq (b := (Code.snd (Code.snd (Code.fst (Code.fst (Code.snd (Code.snd (Code.fst (Code.fst (Code.snd (Code.fst (Code.snd (Code.snd (bodyOf Tryd.f56)))))))))))))) (y := (Ann.snd (Ann.snd (Ann.fst (Ann.fst (Ann.snd (Ann.snd (Ann.fst (Ann.fst (Ann.snd (Ann.fst (Ann.snd (Ann.snd impl_countPairs_impl_arc_an))))))))))))) (impl_countPairs_impl_arc_n4_l x2716 x2815 x2717 x2816) (fun (t : (List (Int × Int × Unit)) × Int × Int × Int) => (impl_countPairs_impl_arc_n7_l x2716 x2815 x2717 x2816 t.1 t.2.1 t.2.2.1 t.2.2.2))))

theorem impl_countPairs_impl_arc_n9_l (x2716 : List (Int × Int × Unit)) (x2815 : Int) (x2717 : Int) (x2816 : Int) : Link impl_countPairs_impl_arc_ctx LL (Code.fst (Code.snd (Code.snd (Code.fst (Code.fst (Code.snd (Code.fst (Code.snd (Code.snd (bodyOf Tryd.f56)))))))))) (Ann.fst (Ann.snd (Ann.snd (Ann.fst (Ann.fst (Ann.snd (Ann.fst (Ann.snd (Ann.snd impl_countPairs_impl_arc_an))))))))) (⟨mkE 35 0 [(0, .dat (.list (.pair (.int .i64) (.pair (.int .i64) .unit))) x2716), (1, .fn 58 [] []), (5, .dat (.int .i64) x2815), (10, .dat (.list (.pair (.int .i64) (.pair (.int .i64) .unit))) x2716), (11, .dat (.int .i64) x2717), (12, .dat (.int .i64) x2816)], []⟩ : St) (impl_countPairs_impl_arc_n9 x2716 x2815 x2816) (fun (t : Int) => (Exit.normal, (⟨mkE 35 0 [(0, .dat (.list (.pair (.int .i64) (.pair (.int .i64) .unit))) x2716), (1, .fn 58 [] []), (5, .dat (.int .i64) t), (10, .dat (.list (.pair (.int .i64) (.pair (.int .i64) .unit))) x2716), (11, .dat (.int .i64) x2717), (12, .dat (.int .i64) x2816)], []⟩ : St))) := by
  unfold impl_countPairs_impl_arc_n9
  exact Link.cast (by kernel_rfl) (by kernel_rfl) (link_block (id := 1) (impl_countPairs_impl_arc_n8_l x2716 x2815 x2717 x2816) (fun (t : Int) => t) (by
  rintro t K h
  · exact Eq.mp (by kernel_rfl) h))

theorem impl_countPairs_impl_arc_n10_l (x2716 : List (Int × Int × Unit)) (x2856 : Int) (x2717 : Int) (x2816 : Int) : Link impl_countPairs_impl_arc_ctx LL (Code.snd (Code.snd (Code.snd (Code.fst (Code.fst (Code.snd (Code.fst (Code.snd (Code.snd (bodyOf Tryd.f56)))))))))) (Ann.snd (Ann.snd (Ann.snd (Ann.fst (Ann.fst (Ann.snd (Ann.fst (Ann.snd (Ann.snd impl_countPairs_impl_arc_an))))))))) (⟨mkE 35 0 [(0, .dat (.list (.pair (.int .i64) (.pair (.int .i64) .unit))) x2716), (1, .fn 58 [] []), (5, .dat (.int .i64) x2856), (10, .dat (.list (.pair (.int .i64) (.pair (.int .i64) .unit))) x2716), (11, .dat (.int .i64) x2717), (12, .dat (.int .i64) x2816)], []⟩ : St) (impl_countPairs_impl_arc_n10 x2816) (fun (t : Int) => (Exit.normal, (⟨mkE 35 0 [(0, .dat (.list (.pair (.int .i64) (.pair (.int .i64) .unit))) x2716), (1, .fn 58 [] []), (5, .dat (.int .i64) x2856), (10, .dat (.list (.pair (.int .i64) (.pair (.int .i64) .unit))) x2716), (11, .dat (.int .i64) x2717), (12, .dat (.int .i64) t)], []⟩ : St))) := by
  refine Link.of fun K h => ?_
  simp only [impl_countPairs_impl_arc_n10, wpO_bind, wpO_cond, wpO_map, wpO_some] at h
  exact Awp.of (by kernel_rfl) h

theorem impl_countPairs_impl_arc_n11_l (x2716 : List (Int × Int × Unit)) (x2815 : Int) (x2717 : Int) (x2816 : Int) : Link impl_countPairs_impl_arc_ctx LL (Code.snd (Code.snd (Code.fst (Code.fst (Code.snd (Code.fst (Code.snd (Code.snd (bodyOf Tryd.f56))))))))) (Ann.snd (Ann.snd (Ann.fst (Ann.fst (Ann.snd (Ann.fst (Ann.snd (Ann.snd impl_countPairs_impl_arc_an)))))))) (⟨mkE 35 0 [(0, .dat (.list (.pair (.int .i64) (.pair (.int .i64) .unit))) x2716), (1, .fn 58 [] []), (5, .dat (.int .i64) x2815), (10, .dat (.list (.pair (.int .i64) (.pair (.int .i64) .unit))) x2716), (11, .dat (.int .i64) x2717), (12, .dat (.int .i64) x2816)], []⟩ : St) (impl_countPairs_impl_arc_n11 x2716 x2815 x2816) (fun (t : Int × Int) => (Exit.normal, (⟨mkE 35 0 [(0, .dat (.list (.pair (.int .i64) (.pair (.int .i64) .unit))) x2716), (1, .fn 58 [] []), (5, .dat (.int .i64) t.1), (10, .dat (.list (.pair (.int .i64) (.pair (.int .i64) .unit))) x2716), (11, .dat (.int .i64) x2717), (12, .dat (.int .i64) t.2)], []⟩ : St))) := by
  unfold impl_countPairs_impl_arc_n11
  exact Link.cast (by kernel_rfl) (by kernel_rfl) (link_seq (b := (Code.snd (Code.snd (Code.snd (Code.fst (Code.fst (Code.snd (Code.fst (Code.snd (Code.snd (bodyOf Tryd.f56))))))))))) (y := (Ann.snd (Ann.snd (Ann.snd (Ann.fst (Ann.fst (Ann.snd (Ann.fst (Ann.snd (Ann.snd impl_countPairs_impl_arc_an)))))))))) (impl_countPairs_impl_arc_n9_l x2716 x2815 x2717 x2816) (fun (t : Int) => (link_map (impl_countPairs_impl_arc_n10_l x2716 t x2717 x2816) (fun (u : Int) => (t, u)) (by
  rintro t
  · kernel_rfl))))

theorem impl_countPairs_impl_arc_n12_l (x2716 : List (Int × Int × Unit)) (x2815 : Int) (x2717 : Int) (x2816 : Int) : Link impl_countPairs_impl_arc_ctx LL (Code.fst (Code.fst (Code.snd (Code.fst (Code.snd (Code.snd (bodyOf Tryd.f56))))))) (Ann.fst (Ann.fst (Ann.snd (Ann.fst (Ann.snd (Ann.snd impl_countPairs_impl_arc_an)))))) (⟨mkE 35 0 [(0, .dat (.list (.pair (.int .i64) (.pair (.int .i64) .unit))) x2716), (1, .fn 58 [] []), (5, .dat (.int .i64) x2815), (10, .dat (.list (.pair (.int .i64) (.pair (.int .i64) .unit))) x2716), (11, .dat (.int .i64) x2717), (12, .dat (.int .i64) x2816)], []⟩ : St) (impl_countPairs_impl_arc_n12 x2716 x2815 x2717 x2816) (Sum.elim (fun (t : Int × Int) => (Exit.normal, (⟨mkE 35 0 [(0, .dat (.list (.pair (.int .i64) (.pair (.int .i64) .unit))) x2716), (1, .fn 58 [] []), (5, .dat (.int .i64) t.1), (10, .dat (.list (.pair (.int .i64) (.pair (.int .i64) .unit))) x2716), (11, .dat (.int .i64) x2717), (12, .dat (.int .i64) t.2)], []⟩ : St))) (fun (t : Int) => ((Exit.exit 0), (⟨mkE 35 0 [(5, .dat (.int .i64) t)], []⟩ : St)))) := by
  unfold impl_countPairs_impl_arc_n12
  exact Link.cast (by kernel_rfl) (by kernel_rfl) (link_group (c := (Code.fst (Code.snd (Code.fst (Code.fst (Code.snd (Code.fst (Code.snd (Code.snd (bodyOf Tryd.f56)))))))))) (a := (Ann.fst (Ann.snd (Ann.fst (Ann.fst (Ann.snd (Ann.fst (Ann.snd (Ann.snd impl_countPairs_impl_arc_an))))))))) [(Code.fst (Code.fst (Code.fst (Code.snd (Code.fst (Code.snd (Code.snd (bodyOf Tryd.f56))))))))] [(Ann.fst (Ann.fst (Ann.fst (Ann.snd (Ann.fst (Ann.snd (Ann.snd impl_countPairs_impl_arc_an)))))))] rfl (link_seq2 (b := (Code.snd (Code.snd (Code.fst (Code.fst (Code.snd (Code.fst (Code.snd (Code.snd (bodyOf Tryd.f56)))))))))) (y := (Ann.snd (Ann.snd (Ann.fst (Ann.fst (Ann.snd (Ann.fst (Ann.snd (Ann.snd impl_countPairs_impl_arc_an))))))))) (impl_countPairs_impl_arc_n3_l x2716 x2815 x2717 x2816) (fun (t : Unit) => (link_map (impl_countPairs_impl_arc_n11_l x2716 x2815 x2717 x2816) (fun (t : Int × Int) => (Sum.inl (t.1, t.2))) (by
  rintro t
  · kernel_rfl))) (fun (t : Int) => (Sum.inr t)) (by
  rintro t
  · kernel_rfl) (by
  rintro t f K h
  · exact h)))

theorem impl_countPairs_impl_arc_n13_l (x2716 : List (Int × Int × Unit)) (x2717 : Int) : Link impl_countPairs_impl_arc_ctx LL (Code.fst (Code.snd (Code.fst (Code.snd (Code.snd (bodyOf Tryd.f56)))))) (Ann.fst (Ann.snd (Ann.fst (Ann.snd (Ann.snd impl_countPairs_impl_arc_an))))) (⟨mkE 35 0 [(0, .dat (.list (.pair (.int .i64) (.pair (.int .i64) .unit))) x2716), (1, .fn 58 [] []), (5, .dat (.int .i64) 0), (10, .dat (.list (.pair (.int .i64) (.pair (.int .i64) .unit))) x2716), (11, .dat (.int .i64) x2717), (12, .dat (.int .i64) 0)], []⟩ : St) (impl_countPairs_impl_arc_n13 x2716 x2717) (fun (t : Int) => ((Exit.exit 0), (⟨mkE 35 0 [(5, .dat (.int .i64) t)], []⟩ : St))) := by
  unfold impl_countPairs_impl_arc_n13
  exact Link.cast (by kernel_rfl) (by kernel_rfl) (link_loop (mk := fun (s : Int × Int) => (⟨mkE 35 0 [(0, .dat (.list (.pair (.int .i64) (.pair (.int .i64) .unit))) x2716), (1, .fn 58 [] []), (5, .dat (.int .i64) s.1), (10, .dat (.list (.pair (.int .i64) (.pair (.int .i64) .unit))) x2716), (11, .dat (.int .i64) x2717), (12, .dat (.int .i64) s.2)], []⟩ : St)) (fin := (fun (t : Int) => ((Exit.exit 0), (⟨mkE 35 0 [(5, .dat (.int .i64) t)], []⟩ : St)))) (by
  rintro t f K h
  · exact h) (fun s => link_map (impl_countPairs_impl_arc_n12_l x2716 s.1 x2717 s.2) (Sum.elim (fun (t : Int × Int) => Sum.inl (t.1, t.2)) (fun (t : Int) => Sum.inr t)) (by
  rintro (t | t)
  · kernel_rfl
  · kernel_rfl)) (0, 0))

theorem impl_countPairs_impl_arc_n14_l (x2716 : List (Int × Int × Unit)) (x2717 : Int) : Link impl_countPairs_impl_arc_ctx LL (Code.snd (Code.fst (Code.snd (Code.snd (bodyOf Tryd.f56))))) (Ann.snd (Ann.fst (Ann.snd (Ann.snd impl_countPairs_impl_arc_an)))) (⟨mkE 35 0 [(0, .dat (.list (.pair (.int .i64) (.pair (.int .i64) .unit))) x2716), (1, .fn 58 [] []), (5, .dat (.int .i64) 0), (10, .dat (.list (.pair (.int .i64) (.pair (.int .i64) .unit))) x2716), (11, .dat (.int .i64) x2717), (12, .dat (.int .i64) 0)], []⟩ : St) (impl_countPairs_impl_arc_n14 x2716 x2717) (fun (t : Int) => (Exit.normal, (⟨mkE 35 0 [(5, .dat (.int .i64) t)], []⟩ : St))) := by
  unfold impl_countPairs_impl_arc_n14
  exact Link.cast (by kernel_rfl) (by kernel_rfl) (link_block (id := 0) (impl_countPairs_impl_arc_n13_l x2716 x2717) (fun (t : Int) => t) (by
  rintro t K h
  · exact Eq.mp (by kernel_rfl) h))

theorem impl_countPairs_impl_arc_n15_l (x2716 : List (Int × Int × Unit)) : Link impl_countPairs_impl_arc_ctx LL (Code.fst (Code.snd (Code.snd (bodyOf Tryd.f56)))) (Ann.fst (Ann.snd (Ann.snd impl_countPairs_impl_arc_an))) (⟨mkE 35 0 [(0, .dat (.list (.pair (.int .i64) (.pair (.int .i64) .unit))) x2716), (1, .fn 58 [] []), (5, .dat (.int .i64) 0)], []⟩ : St) (impl_countPairs_impl_arc_n15 x2716) (fun (t : Int) => (Exit.normal, (⟨mkE 35 0 [(5, .dat (.int .i64) t)], []⟩ : St))) := by
  unfold impl_countPairs_impl_arc_n15
  exact Link.cast (by kernel_rfl) (by kernel_rfl) (link_seq (b := (Code.snd (Code.fst (Code.snd (Code.snd (bodyOf Tryd.f56)))))) (y := (Ann.snd (Ann.fst (Ann.snd (Ann.snd impl_countPairs_impl_arc_an))))) (impl_countPairs_impl_arc_n2_l x2716) (fun (t : Int) => (impl_countPairs_impl_arc_n14_l x2716 t)))

theorem impl_countPairs_impl_arc_n16_l (x2815 : Int) : Link impl_countPairs_impl_arc_ctx LL (Code.snd (Code.snd (Code.snd (bodyOf Tryd.f56)))) (Ann.snd (Ann.snd (Ann.snd impl_countPairs_impl_arc_an))) (⟨mkE 35 0 [(5, .dat (.int .i64) x2815)], []⟩ : St) (impl_countPairs_impl_arc_n16 x2815) (fun (t : Int) => (Exit.ret, (⟨mkE 35 0 [(4, .dat (.int .i64) t)], []⟩ : St))) := by
  refine Link.of fun K h => ?_
  simp only [impl_countPairs_impl_arc_n16, wpO_bind, wpO_cond, wpO_map, wpO_some] at h
  exact Awp.of (by kernel_rfl) h

theorem impl_countPairs_impl_arc_n17_l (x2716 : List (Int × Int × Unit)) : Link impl_countPairs_impl_arc_ctx LL (Code.snd (Code.snd (bodyOf Tryd.f56))) (Ann.snd (Ann.snd impl_countPairs_impl_arc_an)) (⟨mkE 35 0 [(0, .dat (.list (.pair (.int .i64) (.pair (.int .i64) .unit))) x2716), (1, .fn 58 [] []), (5, .dat (.int .i64) 0)], []⟩ : St) (impl_countPairs_impl_arc_n17 x2716) (fun (t : Int) => (Exit.ret, (⟨mkE 35 0 [(4, .dat (.int .i64) t)], []⟩ : St))) := by
  unfold impl_countPairs_impl_arc_n17
  exact Link.cast (by kernel_rfl) (by kernel_rfl) (link_seq (b := (Code.snd (Code.snd (Code.snd (bodyOf Tryd.f56))))) (y := (Ann.snd (Ann.snd (Ann.snd impl_countPairs_impl_arc_an)))) (impl_countPairs_impl_arc_n15_l x2716) (fun (t : Int) => (impl_countPairs_impl_arc_n16_l t)))

theorem impl_countPairs_impl_arc_n18_l (x2716 : List (Int × Int × Unit)) : Link impl_countPairs_impl_arc_ctx LL (bodyOf Tryd.f56) impl_countPairs_impl_arc_an (⟨mkE 35 0 [(0, .dat (.list (.pair (.int .i64) (.pair (.int .i64) .unit))) x2716), (1, .fn 58 [] [])], []⟩ : St) (impl_countPairs_impl_arc_n18 x2716) (fun (t : Int) => (Exit.ret, (⟨mkE 35 0 [(4, .dat (.int .i64) t)], []⟩ : St))) := by
  unfold impl_countPairs_impl_arc_n18
  exact Link.cast (by kernel_rfl) (by kernel_rfl) (link_group (c := (Code.fst (Code.snd (bodyOf Tryd.f56)))) (a := (Ann.fst (Ann.snd impl_countPairs_impl_arc_an))) [(Code.fst (bodyOf Tryd.f56))] [(Ann.fst impl_countPairs_impl_arc_an)] rfl (link_seq (b := (Code.snd (Code.snd (bodyOf Tryd.f56)))) (y := (Ann.snd (Ann.snd impl_countPairs_impl_arc_an))) (impl_countPairs_impl_arc_n1_l x2716) (fun (t : Unit) => (impl_countPairs_impl_arc_n17_l x2716))))

theorem impl_countPairs_impl_arc_e (x2716 : List (Int × Int × Unit)) {r : AV} {H' : Heap} (h : (Ans.mk _ (impl_countPairs_impl_arc x2716) (fun (t : Int) => (.dat (.int .i64) t, []))).run = some (r, H')) : Awp impl_countPairs_impl_arc_ctx LL (bodyOf Tryd.f56) impl_countPairs_impl_arc_an (⟨mkE 35 0 [(0, .dat (.list (.pair (.int .i64) (.pair (.int .i64) .unit))) x2716), (1, .fn 58 [] [])], []⟩ : St) (Ret (tlook tys) Tryd.f56.results.toList r H') :=
  ret_of' (impl_countPairs_impl_arc_n18_l x2716) (by unfold impl_countPairs_impl_arc; kernel_rfl) (by
  intro t
  exact ret_mk [.dat (.int .i64) t] (by kernel_rfl) (by kernel_rfl) (by kernel_rfl) (by kernel_rfl)) h

def F_impl_countPairs_impl_arc : Fun := fun avs H =>
  match avs, H with
  | [.dat (.list (.pair (.int .i64) (.pair (.int .i64) .unit))) x2716, .fn 58 [] []], [] => ⟨_, impl_countPairs_impl_arc x2716, fun (t : Int) => (.dat (.int .i64) t, [])⟩
  | _, _ => Ans.no

theorem impl_countPairs_impl_arc_sound : Sound Tryd.prog 56 F_impl_countPairs_impl_arc := by
  refine fn_sound' (C := impl_countPairs_impl_arc_ctx) (c := bodyOf Tryd.f56) (cok_of tys_ok (List.forall_mem_cons.2 ⟨impl_arc_crosses_sound, by simp⟩) (List.forall_mem_cons.2 ⟨Tryd.call58, by simp⟩) (by kernel_rfl)) Tryd.func56 (by kernel_rfl) LL impl_countPairs_impl_arc_an ?_
  intro avs H r H' h
  unfold F_impl_countPairs_impl_arc at h
  split at h
  · refine Awp.cast ?_ ?_ ?_ (impl_countPairs_impl_arc_e _ h) <;> kernel_rfl
  · simp [Ans.no, Ans.run] at h


/-! loop.example/headtrees/impl.CrossingsOf -/

def impl_CrossingsOf_an : Ann := (.seq (.leaf [0]) (.seq (.seq (.leaf [0, 5]) (.cond (.seq (.leaf [2]) (.leaf [2])) (.leaf [0]))) (.seq (.leaf [2]) (.leaf [2]))))

noncomputable def impl_CrossingsOf_ctx : Ctx := ⟨tlook tys, olook [(22, F_impl_TreeOk), (57, F_impl_arcsOf), (56, F_impl_countPairs_impl_arc)], ioF, 0, false⟩

theorem impl_CrossingsOf_n1_l (x2619 : List Int) : Link impl_CrossingsOf_ctx LL (bodyOf Tryd.f24) impl_CrossingsOf_an (⟨mkE 9 0 [(0, .dat (.list (.int .i64)) x2619)], []⟩ : St) (impl_CrossingsOf_n1 x2619) (fun (t : Int) => (Exit.ret, (⟨mkE 9 0 [(2, .dat (.int .i64) t)], []⟩ : St))) := by
  refine Link.of fun K h => ?_
  simp only [impl_CrossingsOf_n1, wpO_bind, wpO_cond, wpO_map, wpO_some] at h
  exact Awp.of (by kernel_rfl) h

theorem impl_CrossingsOf_e (x2619 : List Int) {r : AV} {H' : Heap} (h : (Ans.mk _ (impl_CrossingsOf x2619) (fun (t : Int) => (.dat (.int .i64) t, []))).run = some (r, H')) : Awp impl_CrossingsOf_ctx LL (bodyOf Tryd.f24) impl_CrossingsOf_an (⟨mkE 9 0 [(0, .dat (.list (.int .i64)) x2619)], []⟩ : St) (Ret (tlook tys) Tryd.f24.results.toList r H') :=
  ret_of' (impl_CrossingsOf_n1_l x2619) (by unfold impl_CrossingsOf; kernel_rfl) (by
  intro t
  exact ret_mk [.dat (.int .i64) t] (by kernel_rfl) (by kernel_rfl) (by kernel_rfl) (by kernel_rfl)) h

def F_impl_CrossingsOf : Fun := fun avs H =>
  match avs, H with
  | [.dat (.list (.int .i64)) x2619], [] => ⟨_, impl_CrossingsOf x2619, fun (t : Int) => (.dat (.int .i64) t, [])⟩
  | _, _ => Ans.no

theorem impl_CrossingsOf_sound : Sound Tryd.prog 24 F_impl_CrossingsOf := by
  refine fn_sound' (C := impl_CrossingsOf_ctx) (c := bodyOf Tryd.f24) (cok_of tys_ok (List.forall_mem_cons.2 ⟨impl_TreeOk_sound, List.forall_mem_cons.2 ⟨impl_arcsOf_sound, List.forall_mem_cons.2 ⟨impl_countPairs_impl_arc_sound, by simp⟩⟩⟩) (List.forall_mem_cons.2 ⟨Tryd.call22, List.forall_mem_cons.2 ⟨Tryd.call57, List.forall_mem_cons.2 ⟨Tryd.call56, by simp⟩⟩⟩) (by kernel_rfl)) Tryd.func24 (by kernel_rfl) LL impl_CrossingsOf_an ?_
  intro avs H r H' h
  unfold F_impl_CrossingsOf at h
  split at h
  · refine Awp.cast ?_ ?_ ?_ (impl_CrossingsOf_e _ h) <;> kernel_rfl
  · simp [Ans.no, Ans.run] at h


/-! loop.example/headtrees/laws.FnMostGaps -/

def laws_FnMostGaps_an : Ann := (.seq (.leaf [0]) (.seq (.seq (.leaf [0, 7]) (.cond (.seq (.leaf [2]) (.leaf [2])) (.leaf [0]))) (.seq (.leaf [3]) (.seq (.leaf [3, 4]) (.seq (.seq (.leaf [3, 4, 15]) (.cond (.seq (.leaf [2]) (.leaf [2])) (.leaf [3, 4]))) (.seq (.seq (.leaf [3, 4, 17]) (.cond (.seq (.leaf [2]) (.leaf [2])) (.leaf [3, 4]))) (.seq (.leaf [2]) (.leaf [2]))))))))

noncomputable def laws_FnMostGaps_ctx : Ctx := ⟨tlook tys, olook [(19, F_spec_DrawMostGaps), (20, F_impl_MostGaps), (21, F_spec_MostGaps), (22, F_impl_TreeOk), (14, F_laws_alive), (23, F_impl_FlatOk), (24, F_impl_CrossingsOf)], ioF, 0, false⟩

theorem laws_FnMostGaps_n1_l (x2455 : List Int) : Link laws_FnMostGaps_ctx LL (bodyOf Tryd.f4) laws_FnMostGaps_an (⟨mkE 42 0 [(0, .dat (.list (.int .u8)) x2455)], []⟩ : St) (laws_FnMostGaps_n1 x2455) (fun (t : Bool) => (Exit.ret, (⟨mkE 42 0 [(2, .dat .bool t)], []⟩ : St))) := by
  refine Link.of fun K h => ?_
  simp only [laws_FnMostGaps_n1, wpO_bind, wpO_cond, wpO_map, wpO_some] at h
  exact Awp.of (by kernel_rfl) h

theorem laws_FnMostGaps_e (x2455 : List Int) {r : AV} {H' : Heap} (h : (Ans.mk _ (laws_FnMostGaps x2455) (fun (t : Bool) => (.dat .bool t, []))).run = some (r, H')) : Awp laws_FnMostGaps_ctx LL (bodyOf Tryd.f4) laws_FnMostGaps_an (⟨mkE 42 0 [(0, .dat (.list (.int .u8)) x2455)], []⟩ : St) (Ret (tlook tys) Tryd.f4.results.toList r H') :=
  ret_of' (laws_FnMostGaps_n1_l x2455) (by unfold laws_FnMostGaps; kernel_rfl) (by
  intro t
  exact ret_mk [.dat .bool t] (by kernel_rfl) (by kernel_rfl) (by kernel_rfl) (by kernel_rfl)) h

def F_laws_FnMostGaps : Fun := fun avs H =>
  match avs, H with
  | [.dat (.list (.int .u8)) x2455], [] => ⟨_, laws_FnMostGaps x2455, fun (t : Bool) => (.dat .bool t, [])⟩
  | _, _ => Ans.no

theorem laws_FnMostGaps_sound : Sound Tryd.prog 4 F_laws_FnMostGaps := by
  refine fn_sound' (C := laws_FnMostGaps_ctx) (c := bodyOf Tryd.f4) (cok_of tys_ok (List.forall_mem_cons.2 ⟨spec_DrawMostGaps_sound, List.forall_mem_cons.2 ⟨impl_MostGaps_sound, List.forall_mem_cons.2 ⟨spec_MostGaps_sound, List.forall_mem_cons.2 ⟨impl_TreeOk_sound, List.forall_mem_cons.2 ⟨laws_alive_sound, List.forall_mem_cons.2 ⟨impl_FlatOk_sound, List.forall_mem_cons.2 ⟨impl_CrossingsOf_sound, by simp⟩⟩⟩⟩⟩⟩⟩) (List.forall_mem_cons.2 ⟨Tryd.call19, List.forall_mem_cons.2 ⟨Tryd.call20, List.forall_mem_cons.2 ⟨Tryd.call21, List.forall_mem_cons.2 ⟨Tryd.call22, List.forall_mem_cons.2 ⟨Tryd.call14, List.forall_mem_cons.2 ⟨Tryd.call23, List.forall_mem_cons.2 ⟨Tryd.call24, by simp⟩⟩⟩⟩⟩⟩⟩) (by kernel_rfl)) Tryd.func4 (by kernel_rfl) LL laws_FnMostGaps_an ?_
  intro avs H r H' h
  unfold F_laws_FnMostGaps at h
  split at h
  · refine Awp.cast ?_ ?_ ?_ (laws_FnMostGaps_e _ h) <;> kernel_rfl
  · simp [Ans.no, Ans.run] at h


end Go.Rv
