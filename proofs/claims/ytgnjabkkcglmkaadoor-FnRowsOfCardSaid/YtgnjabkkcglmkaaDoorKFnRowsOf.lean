/-
  The checked code answers as the plain functions do; written by program. Conditions: none.
-/
import Derived.Test.YtgnjabkkcglmkaaDoorKFnRowsOfa
set_option linter.unusedVariables false
set_option linter.unusedSimpArgs false
set_option maxRecDepth 100000
namespace Go.Rv
open Go.Proofs
/-! loop.example/headtrees/impl.RowsOf -/

def impl_RowsOf_an : Ann := (.seq (.leaf [0, 1]) (.seq (.seq (.leaf [0, 1, 13]) (.cond (.seq (.leaf [4]) (.leaf [4])) (.leaf [0, 1]))) (.seq (.leaf [5]) (.seq (.leaf [5, 6]) (.seq (.leaf [5, 6, 7]) (.seq (.seq (.leaf [6, 7, 28, 29, 30]) (.block (.loop (.seq (.leaf [6, 7, 28, 29, 30, 31]) (.seq (.cond (.leaf [6, 7, 28, 29, 30]) (.leaf [7])) (.seq (.block (.seq (.leaf [6, 7, 8, 9, 28, 29, 30]) (.leafF [⟨9, 42, false, none⟩] [6, 7, 28, 29, 30]))) (.leaf [6, 7, 28, 29, 30]))))))) (.seq (.leaf [4]) (.leaf [4]))))))))

noncomputable def impl_RowsOf_ctx : Ctx := ⟨tlook tys, olook [(42, F_impl_wordOk), (43, F_impl_yieldsOf), (64, F_impl_wordSet_ends), (49, F_impl_wordSet_list), (65, F_impl_wordSet_begins)], ioF, 0, false⟩

theorem impl_RowsOf_n1_l (x4024 : List Int) (x4025 : Int) : Link impl_RowsOf_ctx LL (Code.seq (Code.fst (bodyOf Tryd.f34)) (Code.seq (Code.fst (Code.snd (bodyOf Tryd.f34))) (Code.seq (Code.fst (Code.snd (Code.snd (bodyOf Tryd.f34)))) (Code.seq (Code.fst (Code.snd (Code.snd (Code.snd (bodyOf Tryd.f34))))) (Code.fst (Code.snd (Code.snd (Code.snd (Code.snd (bodyOf Tryd.f34)))))))))) (Ann.seq (Ann.fst impl_RowsOf_an) (Ann.seq (Ann.fst (Ann.snd impl_RowsOf_an)) (Ann.seq (Ann.fst (Ann.snd (Ann.snd impl_RowsOf_an))) (Ann.seq (Ann.fst (Ann.snd (Ann.snd (Ann.snd impl_RowsOf_an)))) (Ann.fst (Ann.snd (Ann.snd (Ann.snd (Ann.snd impl_RowsOf_an))))))))) (⟨mkE 46 0 [(0, .dat (.list (.int .i64)) x4024), (1, .dat (.int .i64) x4025)], []⟩ : St) (impl_RowsOf_n1 x4024 x4025) (Sum.elim (fun (t : Int × (List Int) × (List (List Int))) => (Exit.normal, (⟨mkE 46 0 [(5, .dat (.int .u64) t.1), (6, .slc 0), (7, .slc 1)], [some (.seq (.int .i64) t.2.1), some (.seq (.list (.int .i64)) t.2.2)]⟩ : St))) (fun (t : (List (List Int))) => (Exit.ret, (⟨mkE 46 0 [(4, .slc 0)], [some (.seq (.list (.int .i64)) t)]⟩ : St)))) := by
  refine Link.of fun K h => ?_
  simp only [impl_RowsOf_n1, wpO_bind, wpO_cond, wpO_map, wpO_some] at h
  exact Awp.of (by kernel_rfl) h

theorem impl_RowsOf_n2_l (x4092 : Int) (x4094 : List Int) (x4097 : List (List Int)) : Link impl_RowsOf_ctx LL (Code.fst (Code.fst (Code.snd (Code.snd (Code.snd (Code.snd (Code.snd (bodyOf Tryd.f34)))))))) (Ann.fst (Ann.fst (Ann.snd (Ann.snd (Ann.snd (Ann.snd (Ann.snd impl_RowsOf_an))))))) (⟨mkE 46 0 [(5, .dat (.int .u64) x4092), (6, .slc 0), (7, .slc 1)], [some (.seq (.int .i64) x4094), some (.seq (.list (.int .i64)) x4097)]⟩ : St) (impl_RowsOf_n2 x4092) (fun (t : Int × (List Int)) => (Exit.normal, (⟨mkE 46 0 [(6, .slc 0), (7, .slc 1), (28, .slc 2), (29, .dat (.int .i64) t.1), (30, .dat (.int .i64) 0)], [some (.seq (.int .i64) x4094), some (.seq (.list (.int .i64)) x4097), some (.seq (.int .i64) t.2)]⟩ : St))) := by
  refine Link.of fun K h => ?_
  simp only [impl_RowsOf_n2, wpO_bind, wpO_cond, wpO_map, wpO_some] at h
  exact Awp.of (by kernel_rfl) h

theorem impl_RowsOf_n3_l (x4100 : Int) (x4120 : Int) (x4094 : List Int) (x4121 : List (List Int)) (x4099 : List Int) : Link impl_RowsOf_ctx LL (Code.fst (Code.fst (Code.snd (Code.fst (Code.snd (Code.snd (Code.snd (Code.snd (Code.snd (bodyOf Tryd.f34)))))))))) (Ann.fst (Ann.fst (Ann.snd (Ann.fst (Ann.snd (Ann.snd (Ann.snd (Ann.snd (Ann.snd impl_RowsOf_an))))))))) (⟨mkE 46 0 [(6, .slc 0), (7, .slc 1), (28, .slc 2), (29, .dat (.int .i64) x4100), (30, .dat (.int .i64) x4120)], [some (.seq (.int .i64) x4094), some (.seq (.list (.int .i64)) x4121), some (.seq (.int .i64) x4099)]⟩ : St) (impl_RowsOf_n3 x4100 x4120 x4094 x4121 x4099) (Sum.elim (fun (t : Int × (List (List Int))) => (Exit.normal, (⟨mkE 46 0 [(6, .slc 0), (7, .slc 1), (28, .slc 2), (29, .dat (.int .i64) x4100), (30, .dat (.int .i64) t.1)], [some (.seq (.int .i64) x4094), some (.seq (.list (.int .i64)) t.2), some (.seq (.int .i64) x4099)]⟩ : St))) (fun (t : (List (List Int))) => ((Exit.exit 0), (⟨mkE 46 0 [(7, .slc 0)], [some (.seq (.list (.int .i64)) t)]⟩ : St)))) := by
  refine Link.of fun K h => ?_
  simp only [impl_RowsOf_n3, wpO_bind, wpO_cond, wpO_map, wpO_some] at h
  exact Awp.of (by kernel_rfl) h

theorem impl_RowsOf_n4_l (x4100 : Int) (x4094 : List Int) (x4097 : List (List Int)) (x4099 : List Int) : Link impl_RowsOf_ctx LL (Code.fst (Code.snd (Code.fst (Code.snd (Code.snd (Code.snd (Code.snd (Code.snd (bodyOf Tryd.f34))))))))) (Ann.fst (Ann.snd (Ann.fst (Ann.snd (Ann.snd (Ann.snd (Ann.snd (Ann.snd impl_RowsOf_an)))))))) (⟨mkE 46 0 [(6, .slc 0), (7, .slc 1), (28, .slc 2), (29, .dat (.int .i64) x4100), (30, .dat (.int .i64) 0)], [some (.seq (.int .i64) x4094), some (.seq (.list (.int .i64)) x4097), some (.seq (.int .i64) x4099)]⟩ : St) (impl_RowsOf_n4 x4100 x4094 x4097 x4099) (fun (t : (List (List Int))) => ((Exit.exit 0), (⟨mkE 46 0 [(7, .slc 0)], [some (.seq (.list (.int .i64)) t)]⟩ : St))) := by
  unfold impl_RowsOf_n4
  exact Link.cast (by kernel_rfl) (by kernel_rfl) (link_loop (mk := fun (s : Int × (List (List Int))) => (⟨mkE 46 0 [(6, .slc 0), (7, .slc 1), (28, .slc 2), (29, .dat (.int .i64) x4100), (30, .dat (.int .i64) s.1)], [some (.seq (.int .i64) x4094), some (.seq (.list (.int .i64)) s.2), some (.seq (.int .i64) x4099)]⟩ : St)) (fin := (fun (t : (List (List Int))) => ((Exit.exit 0), (⟨mkE 46 0 [(7, .slc 0)], [some (.seq (.list (.int .i64)) t)]⟩ : St)))) (by
  rintro t f K h
  · exact h) (fun s => link_map (impl_RowsOf_n3_l x4100 s.1 x4094 s.2 x4099) (Sum.elim (fun (t : Int × (List (List Int))) => Sum.inl (t.1, t.2)) (fun (t : (List (List Int))) => Sum.inr t)) (by
  rintro (t | t)
  · kernel_rfl
  · kernel_rfl)) (0, x4097))

theorem impl_RowsOf_n5_l (x4100 : Int) (x4094 : List Int) (x4097 : List (List Int)) (x4099 : List Int) : Link impl_RowsOf_ctx LL (Code.snd (Code.fst (Code.snd (Code.snd (Code.snd (Code.snd (Code.snd (bodyOf Tryd.f34)))))))) (Ann.snd (Ann.fst (Ann.snd (Ann.snd (Ann.snd (Ann.snd (Ann.snd impl_RowsOf_an))))))) (⟨mkE 46 0 [(6, .slc 0), (7, .slc 1), (28, .slc 2), (29, .dat (.int .i64) x4100), (30, .dat (.int .i64) 0)], [some (.seq (.int .i64) x4094), some (.seq (.list (.int .i64)) x4097), some (.seq (.int .i64) x4099)]⟩ : St) (impl_RowsOf_n5 x4100 x4094 x4097 x4099) (fun (t : (List (List Int))) => (Exit.normal, (⟨mkE 46 0 [(7, .slc 0)], [some (.seq (.list (.int .i64)) t)]⟩ : St))) := by
  unfold impl_RowsOf_n5
  exact Link.cast (by kernel_rfl) (by kernel_rfl) (link_block (id := 0) (impl_RowsOf_n4_l x4100 x4094 x4097 x4099) (fun (t : (List (List Int))) => t) (by
  rintro t K h
  · exact Eq.mp (by kernel_rfl) h))

theorem impl_RowsOf_n6_l (x4092 : Int) (x4094 : List Int) (x4097 : List (List Int)) : Link impl_RowsOf_ctx LL (Code.fst (Code.snd (Code.snd (Code.snd (Code.snd (Code.snd (bodyOf Tryd.f34))))))) (Ann.fst (Ann.snd (Ann.snd (Ann.snd (Ann.snd (Ann.snd impl_RowsOf_an)))))) (⟨mkE 46 0 [(5, .dat (.int .u64) x4092), (6, .slc 0), (7, .slc 1)], [some (.seq (.int .i64) x4094), some (.seq (.list (.int .i64)) x4097)]⟩ : St) (impl_RowsOf_n6 x4092 x4094 x4097) (fun (t : (List (List Int))) => (Exit.normal, (⟨mkE 46 0 [(7, .slc 0)], [some (.seq (.list (.int .i64)) t)]⟩ : St))) := by
  unfold impl_RowsOf_n6
  exact Link.cast (by kernel_rfl) (by kernel_rfl) (link_seq (b := (Code.snd (Code.fst (Code.snd (Code.snd (Code.snd (Code.snd (Code.snd (bodyOf Tryd.f34))))))))) (y := (Ann.snd (Ann.fst (Ann.snd (Ann.snd (Ann.snd (Ann.snd (Ann.snd impl_RowsOf_an)))))))) (impl_RowsOf_n2_l x4092 x4094 x4097) (fun (t : Int × (List Int)) => (impl_RowsOf_n5_l t.1 x4094 x4097 t.2)))

theorem impl_RowsOf_n7_l (x4121 : List (List Int)) : Link impl_RowsOf_ctx LL (Code.snd (Code.snd (Code.snd (Code.snd (Code.snd (Code.snd (bodyOf Tryd.f34))))))) (Ann.snd (Ann.snd (Ann.snd (Ann.snd (Ann.snd (Ann.snd impl_RowsOf_an)))))) (⟨mkE 46 0 [(7, .slc 0)], [some (.seq (.list (.int .i64)) x4121)]⟩ : St) (impl_RowsOf_n7 x4121) (fun (t : (List (List Int))) => (Exit.ret, (⟨mkE 46 0 [(4, .slc 0)], [some (.seq (.list (.int .i64)) t)]⟩ : St))) := by
  refine Link.of fun K h => ?_
  simp only [impl_RowsOf_n7, wpO_bind, wpO_cond, wpO_map, wpO_some] at h
  exact Awp.of (by kernel_rfl) h

theorem impl_RowsOf_n8_l (x4092 : Int) (x4094 : List Int) (x4097 : List (List Int)) : Link impl_RowsOf_ctx LL (Code.snd (Code.snd (Code.snd (Code.snd (Code.snd (bodyOf Tryd.f34)))))) (Ann.snd (Ann.snd (Ann.snd (Ann.snd (Ann.snd impl_RowsOf_an))))) (⟨mkE 46 0 [(5, .dat (.int .u64) x4092), (6, .slc 0), (7, .slc 1)], [some (.seq (.int .i64) x4094), some (.seq (.list (.int .i64)) x4097)]⟩ : St) (impl_RowsOf_n8 x4092 x4094 x4097) (fun (t : (List (List Int))) => (Exit.ret, (⟨mkE 46 0 [(4, .slc 0)], [some (.seq (.list (.int .i64)) t)]⟩ : St))) := by
  unfold impl_RowsOf_n8
  exact Link.cast (by kernel_rfl) (by kernel_rfl) (link_seq (b := (Code.snd (Code.snd (Code.snd (Code.snd (Code.snd (Code.snd (bodyOf Tryd.f34)))))))) (y := (Ann.snd (Ann.snd (Ann.snd (Ann.snd (Ann.snd (Ann.snd impl_RowsOf_an))))))) (impl_RowsOf_n6_l x4092 x4094 x4097) (fun (t : (List (List Int))) => (impl_RowsOf_n7_l t)))

theorem impl_RowsOf_n9_l (x4024 : List Int) (x4025 : Int) : Link impl_RowsOf_ctx LL (bodyOf Tryd.f34) impl_RowsOf_an (⟨mkE 46 0 [(0, .dat (.list (.int .i64)) x4024), (1, .dat (.int .i64) x4025)], []⟩ : St) (impl_RowsOf_n9 x4024 x4025) (fun (t : (List (List Int))) => (Exit.ret, (⟨mkE 46 0 [(4, .slc 0)], [some (.seq (.list (.int .i64)) t)]⟩ : St))) := by
  unfold impl_RowsOf_n9
  exact Link.cast (by kernel_rfl) (by kernel_rfl) (link_group (c := (Code.fst (Code.snd (Code.snd (Code.snd (Code.snd (bodyOf Tryd.f34))))))) (a := (Ann.fst (Ann.snd (Ann.snd (Ann.snd (Ann.snd impl_RowsOf_an)))))) [(Code.fst (bodyOf Tryd.f34)), (Code.fst (Code.snd (bodyOf Tryd.f34))), (Code.fst (Code.snd (Code.snd (bodyOf Tryd.f34)))), (Code.fst (Code.snd (Code.snd (Code.snd (bodyOf Tryd.f34)))))] [(Ann.fst impl_RowsOf_an), (Ann.fst (Ann.snd impl_RowsOf_an)), (Ann.fst (Ann.snd (Ann.snd impl_RowsOf_an))), (Ann.fst (Ann.snd (Ann.snd (Ann.snd impl_RowsOf_an))))] rfl (link_seq2 (b := (Code.snd (Code.snd (Code.snd (Code.snd (Code.snd (bodyOf Tryd.f34))))))) (y := (Ann.snd (Ann.snd (Ann.snd (Ann.snd (Ann.snd impl_RowsOf_an)))))) (impl_RowsOf_n1_l x4024 x4025) (fun (t : Int × (List Int) × (List (List Int))) => (impl_RowsOf_n8_l t.1 t.2.1 t.2.2)) (fun (t : (List (List Int))) => t) (by
  rintro t
  · kernel_rfl) (by
  rintro t f K h
  · exact h)))

theorem impl_RowsOf_e (x4024 : List Int) (x4025 : Int) {r : AV} {H' : Heap} (h : (Ans.mk _ (impl_RowsOf x4024 x4025) (fun (t : (List (List Int))) => (.slc 0, [some (.seq (.list (.int .i64)) t)]))).run = some (r, H')) : Awp impl_RowsOf_ctx LL (bodyOf Tryd.f34) impl_RowsOf_an (⟨mkE 46 0 [(0, .dat (.list (.int .i64)) x4024), (1, .dat (.int .i64) x4025)], []⟩ : St) (Ret (tlook tys) Tryd.f34.results.toList r H') :=
  ret_of' (impl_RowsOf_n9_l x4024 x4025) (by unfold impl_RowsOf; kernel_rfl) (by
  intro t
  exact ret_mk [.slc 0] (by kernel_rfl) (by kernel_rfl) (by kernel_rfl) (by kernel_rfl)) h

def F_impl_RowsOf : Fun := fun avs H =>
  match avs, H with
  | [.dat (.list (.int .i64)) x4024, .dat (.int .i64) x4025], [] => ⟨_, impl_RowsOf x4024 x4025, fun (t : (List (List Int))) => (.slc 0, [some (.seq (.list (.int .i64)) t)])⟩
  | _, _ => Ans.no

theorem impl_RowsOf_sound : Sound Tryd.prog 34 F_impl_RowsOf := by
  refine fn_sound' (C := impl_RowsOf_ctx) (c := bodyOf Tryd.f34) (cok_of tys_ok (List.forall_mem_cons.2 ⟨impl_wordOk_sound, List.forall_mem_cons.2 ⟨impl_yieldsOf_sound, List.forall_mem_cons.2 ⟨impl_wordSet_ends_sound, List.forall_mem_cons.2 ⟨impl_wordSet_list_sound, List.forall_mem_cons.2 ⟨impl_wordSet_begins_sound, by simp⟩⟩⟩⟩⟩) (List.forall_mem_cons.2 ⟨Tryd.call42, List.forall_mem_cons.2 ⟨Tryd.call43, List.forall_mem_cons.2 ⟨Tryd.call64, List.forall_mem_cons.2 ⟨Tryd.call49, List.forall_mem_cons.2 ⟨Tryd.call65, by simp⟩⟩⟩⟩⟩) (by kernel_rfl)) Tryd.func34 (by kernel_rfl) LL impl_RowsOf_an ?_
  intro avs H r H' h
  unfold F_impl_RowsOf at h
  split at h
  · refine Awp.cast ?_ ?_ ?_ (impl_RowsOf_e _ _ h) <;> kernel_rfl
  · simp [Ans.no, Ans.run] at h


/-! loop.example/headtrees/spec.l2Words -/

def spec_l2Words_an : Ann := (.seq (.leaf [0]) (.seq (.leaf [0, 3]) (.seq (.seq (.leaf [0, 3, 4]) (.block (.loop (.seq (.seq (.leaf [0, 3, 4, 9]) (.cond (.leaf [0, 3, 4]) (.leaf [3]))) (.seq (.block (.seq (.leaf [0, 3, 4, 16]) (.cond (.leaf [0, 3, 4]) (.leaf [0, 3, 4])))) (.leaf [0, 3, 4])))))) (.seq (.leaf [2]) (.leaf [2])))))

noncomputable def spec_l2Words_ctx : Ctx := ⟨tlook tys, olook [], ioF, 0, false⟩

theorem spec_l2Words_n1_l (x4176 : Int) : Link spec_l2Words_ctx LL (Code.seq (Code.fst (bodyOf Tryd.f85)) (Code.fst (Code.snd (bodyOf Tryd.f85)))) (Ann.seq (Ann.fst spec_l2Words_an) (Ann.fst (Ann.snd spec_l2Words_an))) (⟨mkE 23 0 [(0, .dat (.int .i64) x4176)], []⟩ : St) (spec_l2Words_n1) (fun (t : Unit) => (Exit.normal, (⟨mkE 23 0 [(0, .dat (.int .i64) x4176), (3, .slc 0)], [some (.seq (.int .i64) ([] : List Int))]⟩ : St))) := by
  refine Link.of fun K h => ?_
  simp only [spec_l2Words_n1, wpO_bind, wpO_cond, wpO_map, wpO_some] at h
  exact Awp.of (by kernel_rfl) h

theorem spec_l2Words_n2_l (x4176 : Int) : Link spec_l2Words_ctx LL (Code.fst (Code.fst (Code.snd (Code.snd (bodyOf Tryd.f85))))) (Ann.fst (Ann.fst (Ann.snd (Ann.snd spec_l2Words_an)))) (⟨mkE 23 0 [(0, .dat (.int .i64) x4176), (3, .slc 0)], [some (.seq (.int .i64) ([] : List Int))]⟩ : St) (spec_l2Words_n2) (fun (t : Unit) => (Exit.normal, (⟨mkE 23 0 [(0, .dat (.int .i64) x4176), (3, .slc 0), (4, .dat (.int .i64) 0)], [some (.seq (.int .i64) ([] : List Int))]⟩ : St))) := by
  refine Link.of fun K h => ?_
  simp only [spec_l2Words_n2, wpO_bind, wpO_cond, wpO_map, wpO_some] at h
  exact Awp.of (by kernel_rfl) h

theorem spec_l2Words_n3_l (x4176 : Int) (x4203 : Int) (x4204 : List Int) : Link spec_l2Words_ctx LL (Code.fst (Code.fst (Code.snd (Code.fst (Code.snd (Code.snd (bodyOf Tryd.f85))))))) (Ann.fst (Ann.fst (Ann.snd (Ann.fst (Ann.snd (Ann.snd spec_l2Words_an)))))) (⟨mkE 23 0 [(0, .dat (.int .i64) x4176), (3, .slc 0), (4, .dat (.int .i64) x4203)], [some (.seq (.int .i64) x4204)]⟩ : St) (spec_l2Words_n3 x4176 x4203 x4204) (Sum.elim (fun (t : Int × (List Int)) => (Exit.normal, (⟨mkE 23 0 [(0, .dat (.int .i64) x4176), (3, .slc 0), (4, .dat (.int .i64) t.1)], [some (.seq (.int .i64) t.2)]⟩ : St))) (fun (t : (List Int)) => ((Exit.exit 0), (⟨mkE 23 0 [(3, .slc 0)], [some (.seq (.int .i64) t)]⟩ : St)))) := by
  refine Link.of fun K h => ?_
  simp only [spec_l2Words_n3, wpO_bind, wpO_cond, wpO_map, wpO_some] at h
  exact Awp.of (by kernel_rfl) h

theorem spec_l2Words_n4_l (x4176 : Int) : Link spec_l2Words_ctx LL (Code.fst (Code.snd (Code.fst (Code.snd (Code.snd (bodyOf Tryd.f85)))))) (Ann.fst (Ann.snd (Ann.fst (Ann.snd (Ann.snd spec_l2Words_an))))) (⟨mkE 23 0 [(0, .dat (.int .i64) x4176), (3, .slc 0), (4, .dat (.int .i64) 0)], [some (.seq (.int .i64) ([] : List Int))]⟩ : St) (spec_l2Words_n4 x4176) (fun (t : (List Int)) => ((Exit.exit 0), (⟨mkE 23 0 [(3, .slc 0)], [some (.seq (.int .i64) t)]⟩ : St))) := by
  unfold spec_l2Words_n4
  exact Link.cast (by kernel_rfl) (by kernel_rfl) (link_loop (mk := fun (s : Int × (List Int)) => (⟨mkE 23 0 [(0, .dat (.int .i64) x4176), (3, .slc 0), (4, .dat (.int .i64) s.1)], [some (.seq (.int .i64) s.2)]⟩ : St)) (fin := (fun (t : (List Int)) => ((Exit.exit 0), (⟨mkE 23 0 [(3, .slc 0)], [some (.seq (.int .i64) t)]⟩ : St)))) (by
  rintro t f K h
  · exact h) (fun s => link_map (spec_l2Words_n3_l x4176 s.1 s.2) (Sum.elim (fun (t : Int × (List Int)) => Sum.inl (t.1, t.2)) (fun (t : (List Int)) => Sum.inr t)) (by
  rintro (t | t)
  · kernel_rfl
  · kernel_rfl)) (0, ([] : List Int)))

theorem spec_l2Words_n5_l (x4176 : Int) : Link spec_l2Words_ctx LL (Code.snd (Code.fst (Code.snd (Code.snd (bodyOf Tryd.f85))))) (Ann.snd (Ann.fst (Ann.snd (Ann.snd spec_l2Words_an)))) (⟨mkE 23 0 [(0, .dat (.int .i64) x4176), (3, .slc 0), (4, .dat (.int .i64) 0)], [some (.seq (.int .i64) ([] : List Int))]⟩ : St) (spec_l2Words_n5 x4176) (fun (t : (List Int)) => (Exit.normal, (⟨mkE 23 0 [(3, .slc 0)], [some (.seq (.int .i64) t)]⟩ : St))) := by
  unfold spec_l2Words_n5
  exact Link.cast (by kernel_rfl) (by kernel_rfl) (link_block (id := 0) (spec_l2Words_n4_l x4176) (fun (t : (List Int)) => t) (by
  rintro t K h
  · exact Eq.mp (by kernel_rfl) h))

theorem spec_l2Words_n6_l (x4176 : Int) : Link spec_l2Words_ctx LL (Code.fst (Code.snd (Code.snd (bodyOf Tryd.f85)))) (Ann.fst (Ann.snd (Ann.snd spec_l2Words_an))) (⟨mkE 23 0 [(0, .dat (.int .i64) x4176), (3, .slc 0)], [some (.seq (.int .i64) ([] : List Int))]⟩ : St) (spec_l2Words_n6 x4176) (fun (t : (List Int)) => (Exit.normal, (⟨mkE 23 0 [(3, .slc 0)], [some (.seq (.int .i64) t)]⟩ : St))) := by
  unfold spec_l2Words_n6
  exact Link.cast (by kernel_rfl) (by kernel_rfl) (link_seq (b := (Code.snd (Code.fst (Code.snd (Code.snd (bodyOf Tryd.f85)))))) (y := (Ann.snd (Ann.fst (Ann.snd (Ann.snd spec_l2Words_an))))) (spec_l2Words_n2_l x4176) (fun (t : Unit) => (spec_l2Words_n5_l x4176)))

theorem spec_l2Words_n7_l (x4204 : List Int) : Link spec_l2Words_ctx LL (Code.snd (Code.snd (Code.snd (bodyOf Tryd.f85)))) (Ann.snd (Ann.snd (Ann.snd spec_l2Words_an))) (⟨mkE 23 0 [(3, .slc 0)], [some (.seq (.int .i64) x4204)]⟩ : St) (spec_l2Words_n7 x4204) (fun (t : (List Int)) => (Exit.ret, (⟨mkE 23 0 [(2, .slc 0)], [some (.seq (.int .i64) t)]⟩ : St))) := by
  refine Link.of fun K h => ?_
  simp only [spec_l2Words_n7, wpO_bind, wpO_cond, wpO_map, wpO_some] at h
  exact Awp.of (by kernel_rfl) h

theorem spec_l2Words_n8_l (x4176 : Int) : Link spec_l2Words_ctx LL (Code.snd (Code.snd (bodyOf Tryd.f85))) (Ann.snd (Ann.snd spec_l2Words_an)) (⟨mkE 23 0 [(0, .dat (.int .i64) x4176), (3, .slc 0)], [some (.seq (.int .i64) ([] : List Int))]⟩ : St) (spec_l2Words_n8 x4176) (fun (t : (List Int)) => (Exit.ret, (⟨mkE 23 0 [(2, .slc 0)], [some (.seq (.int .i64) t)]⟩ : St))) := by
  unfold spec_l2Words_n8
  exact Link.cast (by kernel_rfl) (by kernel_rfl) (link_seq (b := (Code.snd (Code.snd (Code.snd (bodyOf Tryd.f85))))) (y := (Ann.snd (Ann.snd (Ann.snd spec_l2Words_an)))) (spec_l2Words_n6_l x4176) (fun (t : (List Int)) => (spec_l2Words_n7_l t)))

theorem spec_l2Words_n9_l (x4176 : Int) : Link spec_l2Words_ctx LL (bodyOf Tryd.f85) spec_l2Words_an (⟨mkE 23 0 [(0, .dat (.int .i64) x4176)], []⟩ : St) (spec_l2Words_n9 x4176) (fun (t : (List Int)) => (Exit.ret, (⟨mkE 23 0 [(2, .slc 0)], [some (.seq (.int .i64) t)]⟩ : St))) := by
  unfold spec_l2Words_n9
  exact Link.cast (by kernel_rfl) (by kernel_rfl) (link_group (c := (Code.fst (Code.snd (bodyOf Tryd.f85)))) (a := (Ann.fst (Ann.snd spec_l2Words_an))) [(Code.fst (bodyOf Tryd.f85))] [(Ann.fst spec_l2Words_an)] rfl (link_seq (b := (Code.snd (Code.snd (bodyOf Tryd.f85)))) (y := (Ann.snd (Ann.snd spec_l2Words_an))) (spec_l2Words_n1_l x4176) (fun (t : Unit) => (spec_l2Words_n8_l x4176))))

theorem spec_l2Words_e (x4176 : Int) {r : AV} {H' : Heap} (h : (Ans.mk _ (spec_l2Words x4176) (fun (t : (List Int)) => (.slc 0, [some (.seq (.int .i64) t)]))).run = some (r, H')) : Awp spec_l2Words_ctx LL (bodyOf Tryd.f85) spec_l2Words_an (⟨mkE 23 0 [(0, .dat (.int .i64) x4176)], []⟩ : St) (Ret (tlook tys) Tryd.f85.results.toList r H') :=
  ret_of' (spec_l2Words_n9_l x4176) (by unfold spec_l2Words; kernel_rfl) (by
  intro t
  exact ret_mk [.slc 0] (by kernel_rfl) (by kernel_rfl) (by kernel_rfl) (by kernel_rfl)) h

def F_spec_l2Words : Fun := fun avs H =>
  match avs, H with
  | [.dat (.int .i64) x4176], [] => ⟨_, spec_l2Words x4176, fun (t : (List Int)) => (.slc 0, [some (.seq (.int .i64) t)])⟩
  | _, _ => Ans.no

theorem spec_l2Words_sound : Sound Tryd.prog 85 F_spec_l2Words := by
  refine fn_sound' (C := spec_l2Words_ctx) (c := bodyOf Tryd.f85) (cok_of tys_ok (by simp) (by simp) (by kernel_rfl)) Tryd.func85 (by kernel_rfl) LL spec_l2Words_an ?_
  intro avs H r H' h
  unfold F_spec_l2Words at h
  split at h
  · refine Awp.cast ?_ ?_ ?_ (spec_l2Words_e _ h) <;> kernel_rfl
  · simp [Ans.no, Ans.run] at h


/-! loop.example/headtrees/spec.YieldOf -/

def spec_YieldOf_an : Ann := (.seq (.leaf [0, 1]) (.seq (.seq (.leaf [0, 1, 14]) (.cond (.seq (.leaf [4]) (.leaf [4])) (.leaf [0, 1]))) (.seq (.leaf [4]) (.leaf [4]))))

noncomputable def spec_YieldOf_ctx : Ctx := ⟨tlook tys, olook [(32, F_spec_TreeOk), (45, F_spec_l1In), (47, F_spec_l2Yield), (85, F_spec_l2Words)], ioF, 0, false⟩

theorem spec_YieldOf_n1_l (x4163 : List Int) (x4164 : Int) : Link spec_YieldOf_ctx LL (bodyOf Tryd.f66) spec_YieldOf_an (⟨mkE 20 0 [(0, .dat (.list (.int .i64)) x4163), (1, .dat (.int .i64) x4164)], []⟩ : St) (spec_YieldOf_n1 x4163 x4164) (fun (t : (List Int)) => (Exit.ret, (⟨mkE 20 0 [(4, .slc 0)], [some (.seq (.int .i64) t)]⟩ : St))) := by
  refine Link.of fun K h => ?_
  simp only [spec_YieldOf_n1, wpO_bind, wpO_cond, wpO_map, wpO_some] at h
  exact Awp.of (by kernel_rfl) h

theorem spec_YieldOf_e (x4163 : List Int) (x4164 : Int) {r : AV} {H' : Heap} (h : (Ans.mk _ (spec_YieldOf x4163 x4164) (fun (t : (List Int)) => (.slc 0, [some (.seq (.int .i64) t)]))).run = some (r, H')) : Awp spec_YieldOf_ctx LL (bodyOf Tryd.f66) spec_YieldOf_an (⟨mkE 20 0 [(0, .dat (.list (.int .i64)) x4163), (1, .dat (.int .i64) x4164)], []⟩ : St) (Ret (tlook tys) Tryd.f66.results.toList r H') :=
  ret_of' (spec_YieldOf_n1_l x4163 x4164) (by unfold spec_YieldOf; kernel_rfl) (by
  intro t
  exact ret_mk [.slc 0] (by kernel_rfl) (by kernel_rfl) (by kernel_rfl) (by kernel_rfl)) h

def F_spec_YieldOf : Fun := fun avs H =>
  match avs, H with
  | [.dat (.list (.int .i64)) x4163, .dat (.int .i64) x4164], [] => ⟨_, spec_YieldOf x4163 x4164, fun (t : (List Int)) => (.slc 0, [some (.seq (.int .i64) t)])⟩
  | _, _ => Ans.no

theorem spec_YieldOf_sound : Sound Tryd.prog 66 F_spec_YieldOf := by
  refine fn_sound' (C := spec_YieldOf_ctx) (c := bodyOf Tryd.f66) (cok_of tys_ok (List.forall_mem_cons.2 ⟨spec_TreeOk_sound, List.forall_mem_cons.2 ⟨spec_l1In_sound, List.forall_mem_cons.2 ⟨spec_l2Yield_sound, List.forall_mem_cons.2 ⟨spec_l2Words_sound, by simp⟩⟩⟩⟩) (List.forall_mem_cons.2 ⟨Tryd.call32, List.forall_mem_cons.2 ⟨Tryd.call45, List.forall_mem_cons.2 ⟨Tryd.call47, List.forall_mem_cons.2 ⟨Tryd.call85, by simp⟩⟩⟩⟩) (by kernel_rfl)) Tryd.func66 (by kernel_rfl) LL spec_YieldOf_an ?_
  intro avs H r H' h
  unfold F_spec_YieldOf at h
  split at h
  · refine Awp.cast ?_ ?_ ?_ (spec_YieldOf_e _ _ h) <;> kernel_rfl
  · simp [Ans.no, Ans.run] at h


/-! loop.example/headtrees/spec.RowsOf -/

def spec_RowsOf_an : Ann := (.seq (.leaf [0, 1]) (.seq (.leaf [0, 1, 5]) (.seq (.leaf [5, 6]) (.seq (.seq (.leaf [5, 6, 7]) (.block (.loop (.seq (.seq (.leaf [5, 6, 7, 15]) (.cond (.leaf [5, 6, 7]) (.leaf [5]))) (.seq (.block (.seq (.draw [] [0, 1, 2, 3, 4, 5, 6, 7, 8, 9, 10, 11, 12, 13, 14] [] [5, 6, 7, 32]) (.cond (.draw [16] [0, 1, 2, 3, 4, 5, 6, 7, 8, 9, 10, 11, 12, 13, 14, 15, 16, 17, 18] [] [5, 6, 7]) (.draw [9] [0, 1, 2, 3, 4, 5, 6, 7, 8, 9, 10, 11, 12] [] [5, 6, 7])))) (.leaf [5, 6, 7])))))) (.seq (.leaf [4]) (.leaf [4]))))))

noncomputable def spec_RowsOf_ctx : Ctx := ⟨tlook tys, olook [(66, F_spec_YieldOf)], ioF, 0, false⟩

theorem spec_RowsOf_n1_l (x4161 : List Int) (x4162 : Int) : Link spec_RowsOf_ctx LL (Code.seq (Code.fst (bodyOf Tryd.f35)) (Code.seq (Code.fst (Code.snd (bodyOf Tryd.f35))) (Code.fst (Code.snd (Code.snd (bodyOf Tryd.f35)))))) (Ann.seq (Ann.fst spec_RowsOf_an) (Ann.seq (Ann.fst (Ann.snd spec_RowsOf_an)) (Ann.fst (Ann.snd (Ann.snd spec_RowsOf_an))))) (⟨mkE 64 0 [(0, .dat (.list (.int .i64)) x4161), (1, .dat (.int .i64) x4162)], []⟩ : St) (spec_RowsOf_n1 x4161 x4162) (fun (t : (List Int)) => (Exit.normal, (⟨mkE 64 0 [(5, .slc 0), (6, .slc 1)], [some (.seq (.list (.int .i64)) ([] : List (List Int))), some (.seq (.int .i64) t)]⟩ : St))) := by
  refine Link.of fun K h => ?_
  simp only [spec_RowsOf_n1, wpO_bind, wpO_cond, wpO_map, wpO_some] at h
  exact Awp.of (by kernel_rfl) h

theorem spec_RowsOf_n2_l (x4294 : List Int) : Link spec_RowsOf_ctx LL (Code.fst (Code.fst (Code.snd (Code.snd (Code.snd (bodyOf Tryd.f35)))))) (Ann.fst (Ann.fst (Ann.snd (Ann.snd (Ann.snd spec_RowsOf_an))))) (⟨mkE 64 0 [(5, .slc 0), (6, .slc 1)], [some (.seq (.list (.int .i64)) ([] : List (List Int))), some (.seq (.int .i64) x4294)]⟩ : St) (spec_RowsOf_n2) (fun (t : Unit) => (Exit.normal, (⟨mkE 64 0 [(5, .slc 0), (6, .slc 1), (7, .dat (.int .i64) 0)], [some (.seq (.list (.int .i64)) ([] : List (List Int))), some (.seq (.int .i64) x4294)]⟩ : St))) := by
  refine Link.of fun K h => ?_
  simp only [spec_RowsOf_n2, wpO_bind, wpO_cond, wpO_map, wpO_some] at h
  exact Awp.of (by kernel_rfl) h

theorem spec_RowsOf_n3_l (x4382 : Int) (x4383 : List (List Int)) (x4294 : List Int) : Link spec_RowsOf_ctx LL (Code.fst (Code.fst (Code.snd (Code.fst (Code.snd (Code.snd (Code.snd (bodyOf Tryd.f35)))))))) (Ann.fst (Ann.fst (Ann.snd (Ann.fst (Ann.snd (Ann.snd (Ann.snd spec_RowsOf_an))))))) (⟨mkE 64 0 [(5, .slc 0), (6, .slc 1), (7, .dat (.int .i64) x4382)], [some (.seq (.list (.int .i64)) x4383), some (.seq (.int .i64) x4294)]⟩ : St) (spec_RowsOf_n3 x4382 x4383 x4294) (Sum.elim (fun (t : Int × (List (List Int))) => (Exit.normal, (⟨mkE 64 0 [(5, .slc 0), (6, .slc 1), (7, .dat (.int .i64) t.1)], [some (.seq (.list (.int .i64)) t.2), some (.seq (.int .i64) x4294)]⟩ : St))) (fun (t : (List (List Int))) => ((Exit.exit 0), (⟨mkE 64 0 [(5, .slc 0)], [some (.seq (.list (.int .i64)) t)]⟩ : St)))) := by
  refine Link.of fun K h => ?_
  simp only [spec_RowsOf_n3, wpO_bind, wpO_cond, wpO_map, wpO_some] at h
  exact Awp.of (by kernel_rfl) h

theorem spec_RowsOf_n4_l (x4294 : List Int) : Link spec_RowsOf_ctx LL (Code.fst (Code.snd (Code.fst (Code.snd (Code.snd (Code.snd (bodyOf Tryd.f35))))))) (Ann.fst (Ann.snd (Ann.fst (Ann.snd (Ann.snd (Ann.snd spec_RowsOf_an)))))) (⟨mkE 64 0 [(5, .slc 0), (6, .slc 1), (7, .dat (.int .i64) 0)], [some (.seq (.list (.int .i64)) ([] : List (List Int))), some (.seq (.int .i64) x4294)]⟩ : St) (spec_RowsOf_n4 x4294) (fun (t : (List (List Int))) => ((Exit.exit 0), (⟨mkE 64 0 [(5, .slc 0)], [some (.seq (.list (.int .i64)) t)]⟩ : St))) := by
  unfold spec_RowsOf_n4
  exact Link.cast (by kernel_rfl) (by kernel_rfl) (link_loop (mk := fun (s : Int × (List (List Int))) => (⟨mkE 64 0 [(5, .slc 0), (6, .slc 1), (7, .dat (.int .i64) s.1)], [some (.seq (.list (.int .i64)) s.2), some (.seq (.int .i64) x4294)]⟩ : St)) (fin := (fun (t : (List (List Int))) => ((Exit.exit 0), (⟨mkE 64 0 [(5, .slc 0)], [some (.seq (.list (.int .i64)) t)]⟩ : St)))) (by
  rintro t f K h
  · exact h) (fun s => link_map (spec_RowsOf_n3_l s.1 s.2 x4294) (Sum.elim (fun (t : Int × (List (List Int))) => Sum.inl (t.1, t.2)) (fun (t : (List (List Int))) => Sum.inr t)) (by
  rintro (t | t)
  · kernel_rfl
  · kernel_rfl)) (0, ([] : List (List Int))))

theorem spec_RowsOf_n5_l (x4294 : List Int) : Link spec_RowsOf_ctx LL (Code.snd (Code.fst (Code.snd (Code.snd (Code.snd (bodyOf Tryd.f35)))))) (Ann.snd (Ann.fst (Ann.snd (Ann.snd (Ann.snd spec_RowsOf_an))))) (⟨mkE 64 0 [(5, .slc 0), (6, .slc 1), (7, .dat (.int .i64) 0)], [some (.seq (.list (.int .i64)) ([] : List (List Int))), some (.seq (.int .i64) x4294)]⟩ : St) (spec_RowsOf_n5 x4294) (fun (t : (List (List Int))) => (Exit.normal, (⟨mkE 64 0 [(5, .slc 0)], [some (.seq (.list (.int .i64)) t)]⟩ : St))) := by
  unfold spec_RowsOf_n5
  exact Link.cast (by kernel_rfl) (by kernel_rfl) (link_block (id := 0) (spec_RowsOf_n4_l x4294) (fun (t : (List (List Int))) => t) (by
  rintro t K h
  · exact Eq.mp (by kernel_rfl) h))

theorem spec_RowsOf_n6_l (x4294 : List Int) : Link spec_RowsOf_ctx LL (Code.fst (Code.snd (Code.snd (Code.snd (bodyOf Tryd.f35))))) (Ann.fst (Ann.snd (Ann.snd (Ann.snd spec_RowsOf_an)))) (⟨mkE 64 0 [(5, .slc 0), (6, .slc 1)], [some (.seq (.list (.int .i64)) ([] : List (List Int))), some (.seq (.int .i64) x4294)]⟩ : St) (spec_RowsOf_n6 x4294) (fun (t : (List (List Int))) => (Exit.normal, (⟨mkE 64 0 [(5, .slc 0)], [some (.seq (.list (.int .i64)) t)]⟩ : St))) := by
  unfold spec_RowsOf_n6
  exact Link.cast (by kernel_rfl) (by kernel_rfl) (link_seq (b := (Code.snd (Code.fst (Code.snd (Code.snd (Code.snd (bodyOf Tryd.f35))))))) (y := (Ann.snd (Ann.fst (Ann.snd (Ann.snd (Ann.snd spec_RowsOf_an)))))) (spec_RowsOf_n2_l x4294) (fun (t : Unit) => (spec_RowsOf_n5_l x4294)))

theorem spec_RowsOf_n7_l (x4383 : List (List Int)) : Link spec_RowsOf_ctx LL (Code.snd (Code.snd (Code.snd (Code.snd (bodyOf Tryd.f35))))) (Ann.snd (Ann.snd (Ann.snd (Ann.snd spec_RowsOf_an)))) (⟨mkE 64 0 [(5, .slc 0)], [some (.seq (.list (.int .i64)) x4383)]⟩ : St) (spec_RowsOf_n7 x4383) (fun (t : (List (List Int))) => (Exit.ret, (⟨mkE 64 0 [(4, .slc 0)], [some (.seq (.list (.int .i64)) t)]⟩ : St))) := by
  refine Link.of fun K h => ?_
  simp only [spec_RowsOf_n7, wpO_bind, wpO_cond, wpO_map, wpO_some] at h
  exact Awp.of (by kernel_rfl) h

theorem spec_RowsOf_n8_l (x4294 : List Int) : Link spec_RowsOf_ctx LL (Code.snd (Code.snd (Code.snd (bodyOf Tryd.f35)))) (Ann.snd (Ann.snd (Ann.snd spec_RowsOf_an))) (⟨mkE 64 0 [(5, .slc 0), (6, .slc 1)], [some (.seq (.list (.int .i64)) ([] : List (List Int))), some (.seq (.int .i64) x4294)]⟩ : St) (spec_RowsOf_n8 x4294) (fun (t : (List (List Int))) => (Exit.ret, (⟨mkE 64 0 [(4, .slc 0)], [some (.seq (.list (.int .i64)) t)]⟩ : St))) := by
  unfold spec_RowsOf_n8
  exact Link.cast (by kernel_rfl) (by kernel_rfl) (link_seq (b := (Code.snd (Code.snd (Code.snd (Code.snd (bodyOf Tryd.f35)))))) (y := (Ann.snd (Ann.snd (Ann.snd (Ann.snd spec_RowsOf_an))))) (spec_RowsOf_n6_l x4294) (fun (t : (List (List Int))) => (spec_RowsOf_n7_l t)))

theorem spec_RowsOf_n9_l (x4161 : List Int) (x4162 : Int) : Link spec_RowsOf_ctx LL (bodyOf Tryd.f35) spec_RowsOf_an (⟨mkE 64 0 [(0, .dat (.list (.int .i64)) x4161), (1, .dat (.int .i64) x4162)], []⟩ : St) (spec_RowsOf_n9 x4161 x4162) (fun (t : (List (List Int))) => (Exit.ret, (⟨mkE 64 0 [(4, .slc 0)], [some (.seq (.list (.int .i64)) t)]⟩ : St))) := by
  unfold spec_RowsOf_n9
  exact Link.cast (by kernel_rfl) (by kernel_rfl) (link_group (c := (Code.fst (Code.snd (Code.snd (bodyOf Tryd.f35))))) (a := (Ann.fst (Ann.snd (Ann.snd spec_RowsOf_an)))) [(Code.fst (bodyOf Tryd.f35)), (Code.fst (Code.snd (bodyOf Tryd.f35)))] [(Ann.fst spec_RowsOf_an), (Ann.fst (Ann.snd spec_RowsOf_an))] rfl (link_seq (b := (Code.snd (Code.snd (Code.snd (bodyOf Tryd.f35))))) (y := (Ann.snd (Ann.snd (Ann.snd spec_RowsOf_an)))) (spec_RowsOf_n1_l x4161 x4162) (fun (t : (List Int)) => (spec_RowsOf_n8_l t))))

theorem spec_RowsOf_e (x4161 : List Int) (x4162 : Int) {r : AV} {H' : Heap} (h : (Ans.mk _ (spec_RowsOf x4161 x4162) (fun (t : (List (List Int))) => (.slc 0, [some (.seq (.list (.int .i64)) t)]))).run = some (r, H')) : Awp spec_RowsOf_ctx LL (bodyOf Tryd.f35) spec_RowsOf_an (⟨mkE 64 0 [(0, .dat (.list (.int .i64)) x4161), (1, .dat (.int .i64) x4162)], []⟩ : St) (Ret (tlook tys) Tryd.f35.results.toList r H') :=
  ret_of' (spec_RowsOf_n9_l x4161 x4162) (by unfold spec_RowsOf; kernel_rfl) (by
  intro t
  exact ret_mk [.slc 0] (by kernel_rfl) (by kernel_rfl) (by kernel_rfl) (by kernel_rfl)) h

def F_spec_RowsOf : Fun := fun avs H =>
  match avs, H with
  | [.dat (.list (.int .i64)) x4161, .dat (.int .i64) x4162], [] => ⟨_, spec_RowsOf x4161 x4162, fun (t : (List (List Int))) => (.slc 0, [some (.seq (.list (.int .i64)) t)])⟩
  | _, _ => Ans.no

theorem spec_RowsOf_sound : Sound Tryd.prog 35 F_spec_RowsOf := by
  refine fn_sound' (C := spec_RowsOf_ctx) (c := bodyOf Tryd.f35) (cok_of tys_ok (List.forall_mem_cons.2 ⟨spec_YieldOf_sound, by simp⟩) (List.forall_mem_cons.2 ⟨Tryd.call66, by simp⟩) (by kernel_rfl)) Tryd.func35 (by kernel_rfl) LL spec_RowsOf_an ?_
  intro avs H r H' h
  unfold F_spec_RowsOf at h
  split at h
  · refine Awp.cast ?_ ?_ ?_ (spec_RowsOf_e _ _ h) <;> kernel_rfl
  · simp [Ans.no, Ans.run] at h


/-! loop.example/headtrees/laws.sameInts -/

def laws_sameInts_an : Ann := (.seq (.leaf [0, 1]) (.seq (.seq (.leaf [0, 1, 10]) (.cond (.seq (.leaf [4]) (.leaf [4])) (.leaf [0, 1]))) (.seq (.seq (.leaf [0, 1, 5]) (.block (.loop (.seq (.seq (.leaf [0, 1, 5, 14]) (.cond (.leaf [0, 1, 5]) (.leaf []))) (.seq (.block (.seq (.draw [] [0, 1, 2, 3, 4, 5, 6, 7, 8] [] [0, 1, 5, 25]) (.cond (.seq (.leaf [4]) (.leaf [4])) (.leaf [0, 1, 5])))) (.leaf [0, 1, 5])))))) (.seq (.leaf [4]) (.leaf [4])))))

noncomputable def laws_sameInts_ctx : Ctx := ⟨tlook tys, olook [], ioF, 0, false⟩

theorem laws_sameInts_n1_l (x4500 : List Int) (x4501 : List Int) : Link laws_sameInts_ctx LL (Code.seq (Code.fst (bodyOf Tryd.f36)) (Code.fst (Code.snd (bodyOf Tryd.f36)))) (Ann.seq (Ann.fst laws_sameInts_an) (Ann.fst (Ann.snd laws_sameInts_an))) (⟨mkE 26 0 [(0, .dat (.list (.int .i64)) x4500), (1, .dat (.list (.int .i64)) x4501)], []⟩ : St) (laws_sameInts_n1 x4500 x4501) (Sum.elim (fun (t : Unit) => (Exit.normal, (⟨mkE 26 0 [(0, .dat (.list (.int .i64)) x4500), (1, .dat (.list (.int .i64)) x4501)], []⟩ : St))) (fun (t : Bool) => (Exit.ret, (⟨mkE 26 0 [(4, .dat .bool t)], []⟩ : St)))) := by
  refine Link.of fun K h => ?_
  simp only [laws_sameInts_n1, wpO_bind, wpO_cond, wpO_map, wpO_some] at h
  exact Awp.of (by kernel_rfl) h

theorem laws_sameInts_n2_l (x4500 : List Int) (x4501 : List Int) : Link laws_sameInts_ctx LL (Code.fst (Code.fst (Code.snd (Code.snd (bodyOf Tryd.f36))))) (Ann.fst (Ann.fst (Ann.snd (Ann.snd laws_sameInts_an)))) (⟨mkE 26 0 [(0, .dat (.list (.int .i64)) x4500), (1, .dat (.list (.int .i64)) x4501)], []⟩ : St) (laws_sameInts_n2) (fun (t : Unit) => (Exit.normal, (⟨mkE 26 0 [(0, .dat (.list (.int .i64)) x4500), (1, .dat (.list (.int .i64)) x4501), (5, .dat (.int .i64) 0)], []⟩ : St))) := by
  refine Link.of fun K h => ?_
  simp only [laws_sameInts_n2, wpO_bind, wpO_cond, wpO_map, wpO_some] at h
  exact Awp.of (by kernel_rfl) h

theorem laws_sameInts_n3_l (x4500 : List Int) (x4501 : List Int) (x4518 : Int) : Link laws_sameInts_ctx LL (Code.fst (Code.fst (Code.snd (Code.fst (Code.snd (Code.snd (bodyOf Tryd.f36))))))) (Ann.fst (Ann.fst (Ann.snd (Ann.fst (Ann.snd (Ann.snd laws_sameInts_an)))))) (⟨mkE 26 0 [(0, .dat (.list (.int .i64)) x4500), (1, .dat (.list (.int .i64)) x4501), (5, .dat (.int .i64) x4518)], []⟩ : St) (laws_sameInts_n3 x4500 x4501 x4518) (Sum.elim (fun (t : Int) => (Exit.normal, (⟨mkE 26 0 [(0, .dat (.list (.int .i64)) x4500), (1, .dat (.list (.int .i64)) x4501), (5, .dat (.int .i64) t)], []⟩ : St))) (Sum.elim (fun (t : Bool) => (Exit.ret, (⟨mkE 26 0 [(4, .dat .bool t)], []⟩ : St))) (fun (t : Unit) => ((Exit.exit 0), (⟨mkE 26 0 [], []⟩ : St))))) := by
  refine Link.of fun K h => ?_
  simp only [laws_sameInts_n3, wpO_bind, wpO_cond, wpO_map, wpO_some] at h
  exact Awp.of (by kernel_rfl) h

theorem laws_sameInts_n4_l (x4500 : List Int) (x4501 : List Int) : Link laws_sameInts_ctx LL (Code.fst (Code.snd (Code.fst (Code.snd (Code.snd (bodyOf Tryd.f36)))))) (Ann.fst (Ann.snd (Ann.fst (Ann.snd (Ann.snd laws_sameInts_an))))) (⟨mkE 26 0 [(0, .dat (.list (.int .i64)) x4500), (1, .dat (.list (.int .i64)) x4501), (5, .dat (.int .i64) 0)], []⟩ : St) (laws_sameInts_n4 x4500 x4501) (Sum.elim (fun (t : Bool) => (Exit.ret, (⟨mkE 26 0 [(4, .dat .bool t)], []⟩ : St))) (fun (t : Unit) => ((Exit.exit 0), (⟨mkE 26 0 [], []⟩ : St)))) := by
  unfold laws_sameInts_n4
  exact Link.cast (by kernel_rfl) (by kernel_rfl) (link_loop (mk := fun (s : Int) => (⟨mkE 26 0 [(0, .dat (.list (.int .i64)) x4500), (1, .dat (.list (.int .i64)) x4501), (5, .dat (.int .i64) s)], []⟩ : St)) (fin := (Sum.elim (fun (t : Bool) => (Exit.ret, (⟨mkE 26 0 [(4, .dat .bool t)], []⟩ : St))) (fun (t : Unit) => ((Exit.exit 0), (⟨mkE 26 0 [], []⟩ : St))))) (by
  rintro (t | t) f K h
  · exact h
  · exact h) (fun s => link_map (laws_sameInts_n3_l x4500 x4501 s) (Sum.elim (fun (t : Int) => Sum.inl t) (Sum.elim (fun (t : Bool) => Sum.inr (Sum.inl t)) (fun (t : Unit) => Sum.inr (Sum.inr t)))) (by
  rintro (t | t | t)
  · kernel_rfl
  · kernel_rfl
  · kernel_rfl)) 0)

theorem laws_sameInts_n5_l (x4500 : List Int) (x4501 : List Int) : Link laws_sameInts_ctx LL (Code.snd (Code.fst (Code.snd (Code.snd (bodyOf Tryd.f36))))) (Ann.snd (Ann.fst (Ann.snd (Ann.snd laws_sameInts_an)))) (⟨mkE 26 0 [(0, .dat (.list (.int .i64)) x4500), (1, .dat (.list (.int .i64)) x4501), (5, .dat (.int .i64) 0)], []⟩ : St) (laws_sameInts_n5 x4500 x4501) (Sum.elim (fun (t : Unit) => (Exit.normal, (⟨mkE 26 0 [], []⟩ : St))) (fun (t : Bool) => (Exit.ret, (⟨mkE 26 0 [(4, .dat .bool t)], []⟩ : St)))) := by
  unfold laws_sameInts_n5
  exact Link.cast (by kernel_rfl) (by kernel_rfl) (link_block (id := 0) (laws_sameInts_n4_l x4500 x4501) (Sum.elim (fun (t : Bool) => (Sum.inr t)) (fun (t : Unit) => (Sum.inl ()))) (by
  rintro (t | t) K h
  · exact Eq.mp (by kernel_rfl) h
  · exact Eq.mp (by kernel_rfl) h))

theorem laws_sameInts_n6_l (x4500 : List Int) (x4501 : List Int) : Link laws_sameInts_ctx LL (Code.fst (Code.snd (Code.snd (bodyOf Tryd.f36)))) (Ann.fst (Ann.snd (Ann.snd laws_sameInts_an))) (⟨mkE 26 0 [(0, .dat (.list (.int .i64)) x4500), (1, .dat (.list (.int .i64)) x4501)], []⟩ : St) (laws_sameInts_n6 x4500 x4501) (Sum.elim (fun (t : Unit) => (Exit.normal, (⟨mkE 26 0 [], []⟩ : St))) (fun (t : Bool) => (Exit.ret, (⟨mkE 26 0 [(4, .dat .bool t)], []⟩ : St)))) := by
  unfold laws_sameInts_n6
  exact Link.cast (by kernel_rfl) (by kernel_rfl) (link_seq (b := (Code.snd (Code.fst (Code.snd (Code.snd (bodyOf Tryd.f36)))))) (y := (Ann.snd (Ann.fst (Ann.snd (Ann.snd laws_sameInts_an))))) (laws_sameInts_n2_l x4500 x4501) (fun (t : Unit) => (laws_sameInts_n5_l x4500 x4501)))

theorem laws_sameInts_n7_l : Link laws_sameInts_ctx LL (Code.snd (Code.snd (Code.snd (bodyOf Tryd.f36)))) (Ann.snd (Ann.snd (Ann.snd laws_sameInts_an))) (⟨mkE 26 0 [], []⟩ : St) (laws_sameInts_n7) (fun (t : Bool) => (Exit.ret, (⟨mkE 26 0 [(4, .dat .bool t)], []⟩ : St))) := by
  refine Link.of fun K h => ?_
  simp only [laws_sameInts_n7, wpO_bind, wpO_cond, wpO_map, wpO_some] at h
  exact Awp.of (by kernel_rfl) h

theorem laws_sameInts_n8_l (x4500 : List Int) (x4501 : List Int) : Link laws_sameInts_ctx LL (Code.snd (Code.snd (bodyOf Tryd.f36))) (Ann.snd (Ann.snd laws_sameInts_an)) (⟨mkE 26 0 [(0, .dat (.list (.int .i64)) x4500), (1, .dat (.list (.int .i64)) x4501)], []⟩ : St) (laws_sameInts_n8 x4500 x4501) (fun (t : Bool) => (Exit.ret, (⟨mkE 26 0 [(4, .dat .bool t)], []⟩ : St))) := by
  unfold laws_sameInts_n8
  exact Link.cast (by kernel_rfl) (by kernel_rfl) (link_seq2 (b := (Code.snd (Code.snd (Code.snd (bodyOf Tryd.f36))))) (y := (Ann.snd (Ann.snd (Ann.snd laws_sameInts_an)))) (laws_sameInts_n6_l x4500 x4501) (fun (t : Unit) => (laws_sameInts_n7_l)) (fun (t : Bool) => t) (by
  rintro t
  · kernel_rfl) (by
  rintro t f K h
  · exact h))

theorem laws_sameInts_n9_l (x4500 : List Int) (x4501 : List Int) : Link laws_sameInts_ctx LL (bodyOf Tryd.f36) laws_sameInts_an (⟨mkE 26 0 [(0, .dat (.list (.int .i64)) x4500), (1, .dat (.list (.int .i64)) x4501)], []⟩ : St) (laws_sameInts_n9 x4500 x4501) (fun (t : Bool) => (Exit.ret, (⟨mkE 26 0 [(4, .dat .bool t)], []⟩ : St))) := by
  unfold laws_sameInts_n9
  exact Link.cast (by kernel_rfl) (by kernel_rfl) (link_group (c := (Code.fst (Code.snd (bodyOf Tryd.f36)))) (a := (Ann.fst (Ann.snd laws_sameInts_an))) [(Code.fst (bodyOf Tryd.f36))] [(Ann.fst laws_sameInts_an)] rfl (link_seq2 (b := (Code.snd (Code.snd (bodyOf Tryd.f36)))) (y := (Ann.snd (Ann.snd laws_sameInts_an))) (laws_sameInts_n1_l x4500 x4501) (fun (t : Unit) => (laws_sameInts_n8_l x4500 x4501)) (fun (t : Bool) => t) (by
  rintro t
  · kernel_rfl) (by
  rintro t f K h
  · exact h)))

theorem laws_sameInts_e (x4500 : List Int) (x4501 : List Int) {r : AV} {H' : Heap} (h : (Ans.mk _ (laws_sameInts x4500 x4501) (fun (t : Bool) => (.dat .bool t, []))).run = some (r, H')) : Awp laws_sameInts_ctx LL (bodyOf Tryd.f36) laws_sameInts_an (⟨mkE 26 0 [(0, .dat (.list (.int .i64)) x4500), (1, .dat (.list (.int .i64)) x4501)], []⟩ : St) (Ret (tlook tys) Tryd.f36.results.toList r H') :=
  ret_of' (laws_sameInts_n9_l x4500 x4501) (by unfold laws_sameInts; kernel_rfl) (by
  intro t
  exact ret_mk [.dat .bool t] (by kernel_rfl) (by kernel_rfl) (by kernel_rfl) (by kernel_rfl)) h

def F_laws_sameInts : Fun := fun avs H =>
  match avs, H with
  | [.dat (.list (.int .i64)) x4500, .dat (.list (.int .i64)) x4501], [] => ⟨_, laws_sameInts x4500 x4501, fun (t : Bool) => (.dat .bool t, [])⟩
  | _, _ => Ans.no

theorem laws_sameInts_sound : Sound Tryd.prog 36 F_laws_sameInts := by
  refine fn_sound' (C := laws_sameInts_ctx) (c := bodyOf Tryd.f36) (cok_of tys_ok (by simp) (by simp) (by kernel_rfl)) Tryd.func36 (by kernel_rfl) LL laws_sameInts_an ?_
  intro avs H r H' h
  unfold F_laws_sameInts at h
  split at h
  · refine Awp.cast ?_ ?_ ?_ (laws_sameInts_e _ _ h) <;> kernel_rfl
  · simp [Ans.no, Ans.run] at h


/-! loop.example/headtrees/laws.FnRowsOf -/

def laws_FnRowsOf_an : Ann := (.seq (.leaf [0]) (.seq (.seq (.leaf [0, 11]) (.cond (.seq (.leaf [2]) (.leaf [2])) (.leaf [0]))) (.seq (.leaf [3, 4]) (.seq (.leafF [⟨2, 17, false, none⟩] [3, 4, 5]) (.seq (.leaf [3, 4, 5, 6]) (.seq (.seq (.leaf [3, 4, 5, 6, 27]) (.cond (.seq (.leaf [2]) (.leaf [2])) (.leaf [3, 4, 5, 6]))) (.seq (.leaf [3, 4, 5, 6, 7]) (.seq (.seq (.leaf [3, 4, 5, 6, 7, 8]) (.block (.loop (.seq (.seq (.leaf [3, 4, 5, 6, 7, 8, 31]) (.cond (.leaf [3, 4, 5, 6, 7, 8]) (.leaf [3, 4, 5, 7]))) (.seq (.block (.seq (.seq (.draw [8] [0, 1, 2, 3, 4, 5, 6, 7, 8, 9, 10, 11, 12, 13, 14, 15, 16, 17, 18, 19, 20, 21, 22, 23, 24, 25, 26, 27, 28, 29, 30] [] [3, 4, 5, 6, 7, 8, 64]) (.cond (.seq (.leaf [2]) (.leaf [2])) (.leaf [3, 4, 5, 6, 7, 8]))) (.draw [] [0, 1, 2, 3, 4, 5, 6, 7, 8, 9, 10, 11, 12, 13, 14, 15, 16] [] [3, 4, 5, 6, 7, 8]))) (.leaf [3, 4, 5, 6, 7, 8])))))) (.seq (.leaf [2]) (.leaf [2]))))))))))

noncomputable def laws_FnRowsOf_ctx : Ctx := ⟨tlook tys, olook [(33, F_spec_DrawRowsOf), (34, F_impl_RowsOf), (35, F_spec_RowsOf), (36, F_laws_sameInts), (12, F_impl_GapsOf), (17, F_impl_YieldOf), (14, F_laws_alive)], ioF, 0, false⟩

theorem laws_FnRowsOf_n1_l (x4004 : List Int) : Link laws_FnRowsOf_ctx LL (Code.seq (Code.fst (bodyOf Tryd.f7)) (Code.seq (Code.fst (Code.snd (bodyOf Tryd.f7))) (Code.seq (Code.fst (Code.snd (Code.snd (bodyOf Tryd.f7)))) (Code.seq (Code.fst (Code.snd (Code.snd (Code.snd (bodyOf Tryd.f7))))) (Code.seq (Code.fst (Code.snd (Code.snd (Code.snd (Code.snd (bodyOf Tryd.f7)))))) (Code.seq (Code.fst (Code.snd (Code.snd (Code.snd (Code.snd (Code.snd (bodyOf Tryd.f7))))))) (Code.fst (Code.snd (Code.snd (Code.snd (Code.snd (Code.snd (Code.snd (bodyOf Tryd.f7)))))))))))))) (Ann.seq (Ann.fst laws_FnRowsOf_an) (Ann.seq (Ann.fst (Ann.snd laws_FnRowsOf_an)) (Ann.seq (Ann.fst (Ann.snd (Ann.snd laws_FnRowsOf_an))) (Ann.seq (Ann.fst (Ann.snd (Ann.snd (Ann.snd laws_FnRowsOf_an)))) (Ann.seq (Ann.fst (Ann.snd (Ann.snd (Ann.snd (Ann.snd laws_FnRowsOf_an))))) (Ann.seq (Ann.fst (Ann.snd (Ann.snd (Ann.snd (Ann.snd (Ann.snd laws_FnRowsOf_an)))))) (Ann.fst (Ann.snd (Ann.snd (Ann.snd (Ann.snd (Ann.snd (Ann.snd laws_FnRowsOf_an))))))))))))) (⟨mkE 99 0 [(0, .dat (.list (.int .u8)) x4004)], []⟩ : St) (laws_FnRowsOf_n1 x4004) (Sum.elim (fun (t : (List Int) × Int × (List (List Int)) × (List (List Int))) => (Exit.normal, (⟨mkE 99 0 [(3, .dat (.list (.int .i64)) t.1), (4, .dat (.int .i64) t.2.1), (5, .slc 0), (6, .slc 1), (7, .dat (.int .i64) 0)], [some (.seq (.list (.int .i64)) t.2.2.1), some (.seq (.list (.int .i64)) t.2.2.2)]⟩ : St))) (fun (t : Bool) => (Exit.ret, (⟨mkE 99 0 [(2, .dat .bool t)], []⟩ : St)))) := by
  refine Link.of fun K h => ?_
  simp only [laws_FnRowsOf_n1, wpO_bind, wpO_cond, wpO_map, wpO_some] at h
  exact Awp.of (by kernel_rfl) h

theorem laws_FnRowsOf_n2_l (x4486 : List Int) (x4485 : Int) (x4487 : List (List Int)) (x4488 : List (List Int)) : Link laws_FnRowsOf_ctx LL (Code.fst (Code.fst (Code.snd (Code.snd (Code.snd (Code.snd (Code.snd (Code.snd (Code.snd (bodyOf Tryd.f7)))))))))) (Ann.fst (Ann.fst (Ann.snd (Ann.snd (Ann.snd (Ann.snd (Ann.snd (Ann.snd (Ann.snd laws_FnRowsOf_an))))))))) (⟨mkE 99 0 [(3, .dat (.list (.int .i64)) x4486), (4, .dat (.int .i64) x4485), (5, .slc 0), (6, .slc 1), (7, .dat (.int .i64) 0)], [some (.seq (.list (.int .i64)) x4487), some (.seq (.list (.int .i64)) x4488)]⟩ : St) (laws_FnRowsOf_n2) (fun (t : Unit) => (Exit.normal, (⟨mkE 99 0 [(3, .dat (.list (.int .i64)) x4486), (4, .dat (.int .i64) x4485), (5, .slc 0), (6, .slc 1), (7, .dat (.int .i64) 0), (8, .dat (.int .i64) 0)], [some (.seq (.list (.int .i64)) x4487), some (.seq (.list (.int .i64)) x4488)]⟩ : St))) := by
  refine Link.of fun K h => ?_
  simp only [laws_FnRowsOf_n2, wpO_bind, wpO_cond, wpO_map, wpO_some] at h
  exact Awp.of (by kernel_rfl) h

theorem laws_FnRowsOf_n3_l (x4486 : List Int) (x4485 : Int) (x4603 : Int) (x4604 : Int) (x4487 : List (List Int)) (x4488 : List (List Int)) : Link laws_FnRowsOf_ctx LL (Code.fst (Code.fst (Code.snd (Code.fst (Code.snd (Code.snd (Code.snd (Code.snd (Code.snd (Code.snd (Code.snd (bodyOf Tryd.f7)))))))))))) (Ann.fst (Ann.fst (Ann.snd (Ann.fst (Ann.snd (Ann.snd (Ann.snd (Ann.snd (Ann.snd (Ann.snd (Ann.snd laws_FnRowsOf_an))))))))))) (⟨mkE 99 0 [(3, .dat (.list (.int .i64)) x4486), (4, .dat (.int .i64) x4485), (5, .slc 0), (6, .slc 1), (7, .dat (.int .i64) x4603), (8, .dat (.int .i64) x4604)], [some (.seq (.list (.int .i64)) x4487), some (.seq (.list (.int .i64)) x4488)]⟩ : St) (laws_FnRowsOf_n3 x4603 x4604 x4487 x4488) (Sum.elim (fun (t : Int × Int) => (Exit.normal, (⟨mkE 99 0 [(3, .dat (.list (.int .i64)) x4486), (4, .dat (.int .i64) x4485), (5, .slc 0), (6, .slc 1), (7, .dat (.int .i64) t.1), (8, .dat (.int .i64) t.2)], [some (.seq (.list (.int .i64)) x4487), some (.seq (.list (.int .i64)) x4488)]⟩ : St))) (Sum.elim (fun (t : Bool) => (Exit.ret, (⟨mkE 99 0 [(2, .dat .bool t)], []⟩ : St))) (fun (t : Int) => ((Exit.exit 0), (⟨mkE 99 0 [(3, .dat (.list (.int .i64)) x4486), (4, .dat (.int .i64) x4485), (5, .slc 0), (7, .dat (.int .i64) t)], [some (.seq (.list (.int .i64)) x4487)]⟩ : St))))) := by
  refine Link.of fun K h => ?_
  simp only [laws_FnRowsOf_n3, wpO_bind, wpO_cond, wpO_map, wpO_some] at h
  exact Awp.of (by kernel_rfl) h

theorem laws_FnRowsOf_n4_l (x4486 : List Int) (x4485 : Int) (x4487 : List (List Int)) (x4488 : List (List Int)) : Link laws_FnRowsOf_ctx LL (Code.fst (Code.snd (Code.fst (Code.snd (Code.snd (Code.snd (Code.snd (Code.snd (Code.snd (Code.snd (bodyOf Tryd.f7))))))))))) (Ann.fst (Ann.snd (Ann.fst (Ann.snd (Ann.snd (Ann.snd (Ann.snd (Ann.snd (Ann.snd (Ann.snd laws_FnRowsOf_an)))))))))) (⟨mkE 99 0 [(3, .dat (.list (.int .i64)) x4486), (4, .dat (.int .i64) x4485), (5, .slc 0), (6, .slc 1), (7, .dat (.int .i64) 0), (8, .dat (.int .i64) 0)], [some (.seq (.list (.int .i64)) x4487), some (.seq (.list (.int .i64)) x4488)]⟩ : St) (laws_FnRowsOf_n4 x4487 x4488) (Sum.elim (fun (t : Bool) => (Exit.ret, (⟨mkE 99 0 [(2, .dat .bool t)], []⟩ : St))) (fun (t : Int) => ((Exit.exit 0), (⟨mkE 99 0 [(3, .dat (.list (.int .i64)) x4486), (4, .dat (.int .i64) x4485), (5, .slc 0), (7, .dat (.int .i64) t)], [some (.seq (.list (.int .i64)) x4487)]⟩ : St)))) := by
  unfold laws_FnRowsOf_n4
  exact Link.cast (by kernel_rfl) (by kernel_rfl) (link_loop (mk := fun (s : Int × Int) => (⟨mkE 99 0 [(3, .dat (.list (.int .i64)) x4486), (4, .dat (.int .i64) x4485), (5, .slc 0), (6, .slc 1), (7, .dat (.int .i64) s.1), (8, .dat (.int .i64) s.2)], [some (.seq (.list (.int .i64)) x4487), some (.seq (.list (.int .i64)) x4488)]⟩ : St)) (fin := (Sum.elim (fun (t : Bool) => (Exit.ret, (⟨mkE 99 0 [(2, .dat .bool t)], []⟩ : St))) (fun (t : Int) => ((Exit.exit 0), (⟨mkE 99 0 [(3, .dat (.list (.int .i64)) x4486), (4, .dat (.int .i64) x4485), (5, .slc 0), (7, .dat (.int .i64) t)], [some (.seq (.list (.int .i64)) x4487)]⟩ : St))))) (by
  rintro (t | t) f K h
  · exact h
  · exact h) (fun s => link_map (laws_FnRowsOf_n3_l x4486 x4485 s.1 s.2 x4487 x4488) (Sum.elim (fun (t : Int × Int) => Sum.inl (t.1, t.2)) (Sum.elim (fun (t : Bool) => Sum.inr (Sum.inl t)) (fun (t : Int) => Sum.inr (Sum.inr t)))) (by
  rintro (t | t | t)
  · kernel_rfl
  · kernel_rfl
  · kernel_rfl)) (0, 0))

theorem laws_FnRowsOf_n5_l (x4486 : List Int) (x4485 : Int) (x4487 : List (List Int)) (x4488 : List (List Int)) : Link laws_FnRowsOf_ctx LL (Code.snd (Code.fst (Code.snd (Code.snd (Code.snd (Code.snd (Code.snd (Code.snd (Code.snd (bodyOf Tryd.f7)))))))))) (Ann.snd (Ann.fst (Ann.snd (Ann.snd (Ann.snd (Ann.snd (Ann.snd (Ann.snd (Ann.snd laws_FnRowsOf_an))))))))) (⟨mkE 99 0 [(3, .dat (.list (.int .i64)) x4486), (4, .dat (.int .i64) x4485), (5, .slc 0), (6, .slc 1), (7, .dat (.int .i64) 0), (8, .dat (.int .i64) 0)], [some (.seq (.list (.int .i64)) x4487), some (.seq (.list (.int .i64)) x4488)]⟩ : St) (laws_FnRowsOf_n5 x4487 x4488) (Sum.elim (fun (t : Int) => (Exit.normal, (⟨mkE 99 0 [(3, .dat (.list (.int .i64)) x4486), (4, .dat (.int .i64) x4485), (5, .slc 0), (7, .dat (.int .i64) t)], [some (.seq (.list (.int .i64)) x4487)]⟩ : St))) (fun (t : Bool) => (Exit.ret, (⟨mkE 99 0 [(2, .dat .bool t)], []⟩ : St)))) := by
  unfold laws_FnRowsOf_n5
  exact Link.cast (by kernel_rfl) (by kernel_rfl) (link_block (id := 0) (laws_FnRowsOf_n4_l x4486 x4485 x4487 x4488) (Sum.elim (fun (t : Bool) => (Sum.inr t)) (fun (t : Int) => (Sum.inl t))) (by
  rintro (t | t) K h
  · exact Eq.mp (by kernel_rfl) h
  · exact Eq.mp (by kernel_rfl) h))

theorem laws_FnRowsOf_n6_l (x4486 : List Int) (x4485 : Int) (x4487 : List (List Int)) (x4488 : List (List Int)) : Link laws_FnRowsOf_ctx LL (Code.fst (Code.snd (Code.snd (Code.snd (Code.snd (Code.snd (Code.snd (Code.snd (bodyOf Tryd.f7))))))))) (Ann.fst (Ann.snd (Ann.snd (Ann.snd (Ann.snd (Ann.snd (Ann.snd (Ann.snd laws_FnRowsOf_an)))))))) (⟨mkE 99 0 [(3, .dat (.list (.int .i64)) x4486), (4, .dat (.int .i64) x4485), (5, .slc 0), (6, .slc 1), (7, .dat (.int .i64) 0)], [some (.seq (.list (.int .i64)) x4487), some (.seq (.list (.int .i64)) x4488)]⟩ : St) (laws_FnRowsOf_n6 x4487 x4488) (Sum.elim (fun (t : Int) => (Exit.normal, (⟨mkE 99 0 [(3, .dat (.list (.int .i64)) x4486), (4, .dat (.int .i64) x4485), (5, .slc 0), (7, .dat (.int .i64) t)], [some (.seq (.list (.int .i64)) x4487)]⟩ : St))) (fun (t : Bool) => (Exit.ret, (⟨mkE 99 0 [(2, .dat .bool t)], []⟩ : St)))) := by
  unfold laws_FnRowsOf_n6
  exact Link.cast (by kernel_rfl) (by kernel_rfl) (link_seq (b := (Code.snd (Code.fst (Code.snd (Code.snd (Code.snd (Code.snd (Code.snd (Code.snd (Code.snd (bodyOf Tryd.f7))))))))))) (y := (Ann.snd (Ann.fst (Ann.snd (Ann.snd (Ann.snd (Ann.snd (Ann.snd (Ann.snd (Ann.snd laws_FnRowsOf_an)))))))))) (laws_FnRowsOf_n2_l x4486 x4485 x4487 x4488) (fun (t : Unit) => (laws_FnRowsOf_n5_l x4486 x4485 x4487 x4488)))

theorem laws_FnRowsOf_n7_l (x4486 : List Int) (x4485 : Int) (x4603 : Int) (x4487 : List (List Int)) : Link laws_FnRowsOf_ctx LL (Code.snd (Code.snd (Code.snd (Code.snd (Code.snd (Code.snd (Code.snd (Code.snd (bodyOf Tryd.f7))))))))) (Ann.snd (Ann.snd (Ann.snd (Ann.snd (Ann.snd (Ann.snd (Ann.snd (Ann.snd laws_FnRowsOf_an)))))))) (⟨mkE 99 0 [(3, .dat (.list (.int .i64)) x4486), (4, .dat (.int .i64) x4485), (5, .slc 0), (7, .dat (.int .i64) x4603)], [some (.seq (.list (.int .i64)) x4487)]⟩ : St) (laws_FnRowsOf_n7 x4486 x4485 x4603 x4487) (fun (t : Bool) => (Exit.ret, (⟨mkE 99 0 [(2, .dat .bool t)], []⟩ : St))) := by
  refine Link.of fun K h => ?_
  simp only [laws_FnRowsOf_n7, wpO_bind, wpO_cond, wpO_map, wpO_some] at h
  exact Awp.of (by kernel_rfl) h

theorem laws_FnRowsOf_n8_l (x4486 : List Int) (x4485 : Int) (x4487 : List (List Int)) (x4488 : List (List Int)) : Link laws_FnRowsOf_ctx LL (Code.snd (Code.snd (Code.snd (Code.snd (Code.snd (Code.snd (Code.snd (bodyOf Tryd.f7)))))))) (Ann.snd (Ann.snd (Ann.snd (Ann.snd (Ann.snd (Ann.snd (Ann.snd laws_FnRowsOf_an))))))) (⟨mkE 99 0 [(3, .dat (.list (.int .i64)) x4486), (4, .dat (.int .i64) x4485), (5, .slc 0), (6, .slc 1), (7, .dat (.int .i64) 0)], [some (.seq (.list (.int .i64)) x4487), some (.seq (.list (.int .i64)) x4488)]⟩ : St) (laws_FnRowsOf_n8 x4486 x4485 x4487 x4488) (fun (t : Bool) => (Exit.ret, (⟨mkE 99 0 [(2, .dat .bool t)], []⟩ : St))) := by
  unfold laws_FnRowsOf_n8
  exact Link.cast (by kernel_rfl) (by kernel_rfl) (link_seq2 (b := (Code.snd (Code.snd (Code.snd (Code.snd (Code.snd (Code.snd (Code.snd (Code.snd (bodyOf Tryd.f7)))))))))) (y := (Ann.snd (Ann.snd (Ann.snd (Ann.snd (Ann.snd (Ann.snd (Ann.snd (Ann.snd laws_FnRowsOf_an))))))))) (laws_FnRowsOf_n6_l x4486 x4485 x4487 x4488) (fun (t : Int) => (laws_FnRowsOf_n7_l x4486 x4485 t x4487)) (fun (t : Bool) => t) (by
  rintro t
  · kernel_rfl) (by
  rintro t f K h
  · exact h))

theorem laws_FnRowsOf_n9_l (x4004 : List Int) : Link laws_FnRowsOf_ctx LL (bodyOf Tryd.f7) laws_FnRowsOf_an (⟨mkE 99 0 [(0, .dat (.list (.int .u8)) x4004)], []⟩ : St) (laws_FnRowsOf_n9 x4004) (fun (t : Bool) => (Exit.ret, (⟨mkE 99 0 [(2, .dat .bool t)], []⟩ : St))) := by
  unfold laws_FnRowsOf_n9
  exact Link.cast (by kernel_rfl) (by kernel_rfl) (link_group (c := (Code.fst (Code.snd (Code.snd (Code.snd (Code.snd (Code.snd (Code.snd (bodyOf Tryd.f7))))))))) (a := (Ann.fst (Ann.snd (Ann.snd (Ann.snd (Ann.snd (Ann.snd (Ann.snd laws_FnRowsOf_an)))))))) [(Code.fst (bodyOf Tryd.f7)), (Code.fst (Code.snd (bodyOf Tryd.f7))), (Code.fst (Code.snd (Code.snd (bodyOf Tryd.f7)))), (Code.fst (Code.snd (Code.snd (Code.snd (bodyOf Tryd.f7))))), (Code.fst (Code.snd (Code.snd (Code.snd (Code.snd (bodyOf Tryd.f7)))))), (Code.fst (Code.snd (Code.snd (Code.snd (Code.snd (Code.snd (bodyOf Tryd.f7)))))))] [(Ann.fst laws_FnRowsOf_an), (Ann.fst (Ann.snd laws_FnRowsOf_an)), (Ann.fst (Ann.snd (Ann.snd laws_FnRowsOf_an))), (Ann.fst (Ann.snd (Ann.snd (Ann.snd laws_FnRowsOf_an)))), (Ann.fst (Ann.snd (Ann.snd (Ann.snd (Ann.snd laws_FnRowsOf_an))))), (Ann.fst (Ann.snd (Ann.snd (Ann.snd (Ann.snd (Ann.snd laws_FnRowsOf_an))))))] rfl (link_seq2 (b := (Code.snd (Code.snd (Code.snd (Code.snd (Code.snd (Code.snd (Code.snd (bodyOf Tryd.f7))))))))) (y := (Ann.snd (Ann.snd (Ann.snd (Ann.snd (Ann.snd (Ann.snd (Ann.snd laws_FnRowsOf_an)))))))) (laws_FnRowsOf_n1_l x4004) (fun (t : (List Int) × Int × (List (List Int)) × (List (List Int))) => (laws_FnRowsOf_n8_l t.1 t.2.1 t.2.2.1 t.2.2.2)) (fun (t : Bool) => t) (by
  rintro t
  · kernel_rfl) (by
  rintro t f K h
  · exact h)))

theorem laws_FnRowsOf_e (x4004 : List Int) {r : AV} {H' : Heap} (h : (Ans.mk _ (laws_FnRowsOf x4004) (fun (t : Bool) => (.dat .bool t, []))).run = some (r, H')) : Awp laws_FnRowsOf_ctx LL (bodyOf Tryd.f7) laws_FnRowsOf_an (⟨mkE 99 0 [(0, .dat (.list (.int .u8)) x4004)], []⟩ : St) (Ret (tlook tys) Tryd.f7.results.toList r H') :=
  ret_of' (laws_FnRowsOf_n9_l x4004) (by unfold laws_FnRowsOf; kernel_rfl) (by
  intro t
  exact ret_mk [.dat .bool t] (by kernel_rfl) (by kernel_rfl) (by kernel_rfl) (by kernel_rfl)) h

def F_laws_FnRowsOf : Fun := fun avs H =>
  match avs, H with
  | [.dat (.list (.int .u8)) x4004], [] => ⟨_, laws_FnRowsOf x4004, fun (t : Bool) => (.dat .bool t, [])⟩
  | _, _ => Ans.no

theorem laws_FnRowsOf_sound : Sound Tryd.prog 7 F_laws_FnRowsOf := by
  refine fn_sound' (C := laws_FnRowsOf_ctx) (c := bodyOf Tryd.f7) (cok_of tys_ok (List.forall_mem_cons.2 ⟨spec_DrawRowsOf_sound, List.forall_mem_cons.2 ⟨impl_RowsOf_sound, List.forall_mem_cons.2 ⟨spec_RowsOf_sound, List.forall_mem_cons.2 ⟨laws_sameInts_sound, List.forall_mem_cons.2 ⟨impl_GapsOf_sound, List.forall_mem_cons.2 ⟨impl_YieldOf_sound, List.forall_mem_cons.2 ⟨laws_alive_sound, by simp⟩⟩⟩⟩⟩⟩⟩) (List.forall_mem_cons.2 ⟨Tryd.call33, List.forall_mem_cons.2 ⟨Tryd.call34, List.forall_mem_cons.2 ⟨Tryd.call35, List.forall_mem_cons.2 ⟨Tryd.call36, List.forall_mem_cons.2 ⟨Tryd.call12, List.forall_mem_cons.2 ⟨Tryd.call17, List.forall_mem_cons.2 ⟨Tryd.call14, by simp⟩⟩⟩⟩⟩⟩⟩) (by kernel_rfl)) Tryd.func7 (by kernel_rfl) LL laws_FnRowsOf_an ?_
  intro avs H r H' h
  unfold F_laws_FnRowsOf at h
  split at h
  · refine Awp.cast ?_ ?_ ?_ (laws_FnRowsOf_e _ h) <;> kernel_rfl
  · simp [Ans.no, Ans.run] at h


end Go.Rv
