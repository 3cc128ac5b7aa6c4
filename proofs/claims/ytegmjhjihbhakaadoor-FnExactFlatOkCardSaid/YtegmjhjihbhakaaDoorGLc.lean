/-
  The checked code answers as the plain functions do; written by program. Conditions: none.
-/
import Derived.Test.YtegmjhjihbhakaaDoorGLb
set_option linter.unusedVariables false
set_option linter.unusedSimpArgs false
set_option maxRecDepth 100000
namespace Go.Rv
open Go.Proofs
theorem impl_MeetOf_n4_l (x2471 : Int) (x2472 : Int) (x2486 : Int) (x2535 : Int) (x2533 : List Int) (x2534 : List Int) : Link impl_MeetOf_ctx LL (Code.fst (Code.snd (Code.fst (Code.snd (Code.snd (Code.snd (Code.snd (bodyOf Tryd.f32)))))))) (Ann.fst (Ann.snd (Ann.fst (Ann.snd (Ann.snd (Ann.snd (Ann.snd impl_MeetOf_an))))))) (⟨mkE 56 0 [(1, .dat (.int .i64) x2471), (2, .dat (.int .i64) x2472), (7, .dat (.int .i64) x2486), (8, .slc 0), (26, .slc 1), (27, .dat (.int .i64) x2535), (28, .dat (.int .i64) 0)], [some (.seq (.int .i64) x2533), some (.seq (.int .u64) x2534)]⟩ : St) (impl_MeetOf_n4 x2471 x2472 x2486 x2535 x2533 x2534) (fun (t : Int) => ((Exit.exit 0), (⟨mkE 56 0 [(7, .dat (.int .i64) t)], []⟩ : St))) := by
  unfold impl_MeetOf_n4
  exact Link.cast (by kernel_rfl) (by kernel_rfl) (link_loop (mk := fun (s : Int × Int) => (⟨mkE 56 0 [(1, .dat (.int .i64) x2471), (2, .dat (.int .i64) x2472), (7, .dat (.int .i64) s.1), (8, .slc 0), (26, .slc 1), (27, .dat (.int .i64) x2535), (28, .dat (.int .i64) s.2)], [some (.seq (.int .i64) x2533), some (.seq (.int .u64) x2534)]⟩ : St)) (fin := (fun (t : Int) => ((Exit.exit 0), (⟨mkE 56 0 [(7, .dat (.int .i64) t)], []⟩ : St)))) (by
  rintro t f K h
  · exact h) (fun s => link_map (impl_MeetOf_n3_l x2471 x2472 s.1 x2535 s.2 x2533 x2534) (Sum.elim (fun (t : Int × Int) => Sum.inl (t.1, t.2)) (fun (t : Int) => Sum.inr t)) (by
  rintro (t | t)
  · kernel_rfl
  · kernel_rfl)) (x2486, 0))

theorem impl_MeetOf_n5_l (x2471 : Int) (x2472 : Int) (x2486 : Int) (x2535 : Int) (x2533 : List Int) (x2534 : List Int) : Link impl_MeetOf_ctx LL (Code.snd (Code.fst (Code.snd (Code.snd (Code.snd (Code.snd (bodyOf Tryd.f32))))))) (Ann.snd (Ann.fst (Ann.snd (Ann.snd (Ann.snd (Ann.snd impl_MeetOf_an)))))) (⟨mkE 56 0 [(1, .dat (.int .i64) x2471), (2, .dat (.int .i64) x2472), (7, .dat (.int .i64) x2486), (8, .slc 0), (26, .slc 1), (27, .dat (.int .i64) x2535), (28, .dat (.int .i64) 0)], [some (.seq (.int .i64) x2533), some (.seq (.int .u64) x2534)]⟩ : St) (impl_MeetOf_n5 x2471 x2472 x2486 x2535 x2533 x2534) (fun (t : Int) => (Exit.normal, (⟨mkE 56 0 [(7, .dat (.int .i64) t)], []⟩ : St))) := by
  unfold impl_MeetOf_n5
  exact Link.cast (by kernel_rfl) (by kernel_rfl) (link_block (id := 0) (impl_MeetOf_n4_l x2471 x2472 x2486 x2535 x2533 x2534) (fun (t : Int) => t) (by
  rintro t K h
  · exact Eq.mp (by kernel_rfl) h))

theorem impl_MeetOf_n6_l (x2470 : List Int) (x2471 : Int) (x2472 : Int) (x2486 : Int) (x2533 : List Int) : Link impl_MeetOf_ctx LL (Code.fst (Code.snd (Code.snd (Code.snd (Code.snd (bodyOf Tryd.f32)))))) (Ann.fst (Ann.snd (Ann.snd (Ann.snd (Ann.snd impl_MeetOf_an))))) (⟨mkE 56 0 [(0, .dat (.list (.int .i64)) x2470), (1, .dat (.int .i64) x2471), (2, .dat (.int .i64) x2472), (7, .dat (.int .i64) x2486), (8, .slc 0)], [some (.seq (.int .i64) x2533)]⟩ : St) (impl_MeetOf_n6 x2470 x2471 x2472 x2486 x2533) (fun (t : Int) => (Exit.normal, (⟨mkE 56 0 [(7, .dat (.int .i64) t)], []⟩ : St))) := by
  unfold impl_MeetOf_n6
  exact Link.cast (by kernel_rfl) (by kernel_rfl) (link_seq (b := (Code.snd (Code.fst (Code.snd (Code.snd (Code.snd (Code.snd (bodyOf Tryd.f32)))))))) (y := (Ann.snd (Ann.fst (Ann.snd (Ann.snd (Ann.snd (Ann.snd impl_MeetOf_an))))))) (impl_MeetOf_n2_l x2470 x2471 x2472 x2486 x2533) (fun (t : Int × (List Int)) => (impl_MeetOf_n5_l x2471 x2472 x2486 t.1 x2533 t.2)))

theorem impl_MeetOf_n7_l (x2571 : Int) : Link impl_MeetOf_ctx LL (Code.snd (Code.snd (Code.snd (Code.snd (Code.snd (bodyOf Tryd.f32)))))) (Ann.snd (Ann.snd (Ann.snd (Ann.snd (Ann.snd impl_MeetOf_an))))) (⟨mkE 56 0 [(7, .dat (.int .i64) x2571)], []⟩ : St) (impl_MeetOf_n7 x2571) (fun (t : Int) => (Exit.ret, (⟨mkE 56 0 [(6, .dat (.int .i64) t)], []⟩ : St))) := by
  refine Link.of fun K h => ?_
  simp only [impl_MeetOf_n7, wpO_bind, wpO_cond, wpO_map, wpO_some] at h
  exact Awp.of (by kernel_rfl) h

theorem impl_MeetOf_n8_l (x2470 : List Int) (x2471 : Int) (x2472 : Int) (x2486 : Int) (x2533 : List Int) : Link impl_MeetOf_ctx LL (Code.snd (Code.snd (Code.snd (Code.snd (bodyOf Tryd.f32))))) (Ann.snd (Ann.snd (Ann.snd (Ann.snd impl_MeetOf_an)))) (⟨mkE 56 0 [(0, .dat (.list (.int .i64)) x2470), (1, .dat (.int .i64) x2471), (2, .dat (.int .i64) x2472), (7, .dat (.int .i64) x2486), (8, .slc 0)], [some (.seq (.int .i64) x2533)]⟩ : St) (impl_MeetOf_n8 x2470 x2471 x2472 x2486 x2533) (fun (t : Int) => (Exit.ret, (⟨mkE 56 0 [(6, .dat (.int .i64) t)], []⟩ : St))) := by
  unfold impl_MeetOf_n8
  exact Link.cast (by kernel_rfl) (by kernel_rfl) (link_seq (b := (Code.snd (Code.snd (Code.snd (Code.snd (Code.snd (bodyOf Tryd.f32))))))) (y := (Ann.snd (Ann.snd (Ann.snd (Ann.snd (Ann.snd impl_MeetOf_an)))))) (impl_MeetOf_n6_l x2470 x2471 x2472 x2486 x2533) (fun (t : Int) => (impl_MeetOf_n7_l t)))

theorem impl_MeetOf_n9_l (x2470 : List Int) (x2471 : Int) (x2472 : Int) : Link impl_MeetOf_ctx LL (bodyOf Tryd.f32) impl_MeetOf_an (⟨mkE 56 0 [(0, .dat (.list (.int .i64)) x2470), (1, .dat (.int .i64) x2471), (2, .dat (.int .i64) x2472)], []⟩ : St) (impl_MeetOf_n9 x2470 x2471 x2472) (fun (t : Int) => (Exit.ret, (⟨mkE 56 0 [(6, .dat (.int .i64) t)], []⟩ : St))) := by
  unfold impl_MeetOf_n9
  exact Link.cast (by kernel_rfl) (by kernel_rfl) (link_group (c := (Code.fst (Code.snd (Code.snd (Code.snd (bodyOf Tryd.f32)))))) (a := (Ann.fst (Ann.snd (Ann.snd (Ann.snd impl_MeetOf_an))))) [(Code.fst (bodyOf Tryd.f32)), (Code.fst (Code.snd (bodyOf Tryd.f32))), (Code.fst (Code.snd (Code.snd (bodyOf Tryd.f32))))] [(Ann.fst impl_MeetOf_an), (Ann.fst (Ann.snd impl_MeetOf_an)), (Ann.fst (Ann.snd (Ann.snd impl_MeetOf_an)))] rfl (link_seq2 (b := (Code.snd (Code.snd (Code.snd (Code.snd (bodyOf Tryd.f32)))))) (y := (Ann.snd (Ann.snd (Ann.snd (Ann.snd impl_MeetOf_an))))) (impl_MeetOf_n1_l x2470 x2471 x2472) (fun (t : Int × (List Int)) => (impl_MeetOf_n8_l x2470 x2471 x2472 t.1 t.2)) (fun (t : Int) => t) (by
  rintro t
  · kernel_rfl) (by
  rintro t f K h
  · exact h)))

theorem impl_MeetOf_e (x2470 : List Int) (x2471 : Int) (x2472 : Int) {r : AV} {H' : Heap} (h : (Ans.mk _ (impl_MeetOf x2470 x2471 x2472) (fun (t : Int) => (.dat (.int .i64) t, []))).run = some (r, H')) : Awp impl_MeetOf_ctx LL (bodyOf Tryd.f32) impl_MeetOf_an (⟨mkE 56 0 [(0, .dat (.list (.int .i64)) x2470), (1, .dat (.int .i64) x2471), (2, .dat (.int .i64) x2472)], []⟩ : St) (Ret (tlook tys) Tryd.f32.results.toList r H') :=
  ret_of' (impl_MeetOf_n9_l x2470 x2471 x2472) (by unfold impl_MeetOf; kernel_rfl) (by
  intro t
  exact ret_mk [.dat (.int .i64) t] (by kernel_rfl) (by kernel_rfl) (by kernel_rfl) (by kernel_rfl)) h

def F_impl_MeetOf : Fun := fun avs H =>
  match avs, H with
  | [.dat (.list (.int .i64)) x2470, .dat (.int .i64) x2471, .dat (.int .i64) x2472], [] => ⟨_, impl_MeetOf x2470 x2471 x2472, fun (t : Int) => (.dat (.int .i64) t, [])⟩
  | _, _ => Ans.no

theorem impl_MeetOf_sound : Sound Tryd.prog 32 F_impl_MeetOf := by
  refine fn_sound' (C := impl_MeetOf_ctx) (c := bodyOf Tryd.f32) (cok_of tys_ok (List.forall_mem_cons.2 ⟨impl_wordOk_sound, List.forall_mem_cons.2 ⟨impl_RootOf_sound, List.forall_mem_cons.2 ⟨impl_DepthOf_sound, List.forall_mem_cons.2 ⟨impl_yieldsOf_sound, List.forall_mem_cons.2 ⟨impl_only_sound, List.forall_mem_cons.2 ⟨impl_wordSet_hasAll_sound, by simp⟩⟩⟩⟩⟩⟩) (List.forall_mem_cons.2 ⟨Tryd.call55, List.forall_mem_cons.2 ⟨Tryd.call23, List.forall_mem_cons.2 ⟨Tryd.call48, List.forall_mem_cons.2 ⟨Tryd.call56, List.forall_mem_cons.2 ⟨Tryd.call65, List.forall_mem_cons.2 ⟨Tryd.call64, by simp⟩⟩⟩⟩⟩⟩) (by kernel_rfl)) Tryd.func32 (by kernel_rfl) LL impl_MeetOf_an ?_
  intro avs H r H' h
  unfold F_impl_MeetOf at h
  split at h
  · refine Awp.cast ?_ ?_ ?_ (impl_MeetOf_e _ _ _ h) <;> kernel_rfl
  · simp [Ans.no, Ans.run] at h

/-! loop.example/headtrees/spec.MeetOf -/

def spec_MeetOf_an : Ann := (.seq (.leaf [0, 1, 2]) (.seq (.seq (.leaf [0, 1, 2, 24]) (.cond (.seq (.leaf [6]) (.leaf [6])) (.leaf [0, 1, 2]))) (.seq (.leaf [0, 2, 7]) (.block (.loop (.seq (.block (.seq (.leaf [0, 2, 7, 38]) (.cond (.seq (.leaf [6]) (.leaf [6])) (.leaf [0, 2, 7])))) (.leaf [0, 2, 7])))))))

noncomputable def spec_MeetOf_ctx : Ctx := ⟨tlook tys, olook [(27, F_spec_TreeOk), (58, F_spec_l1In), (60, F_spec_l2Yield)], ioF, 0⟩

theorem spec_MeetOf_n1_l (x2617 : List Int) (x2618 : Int) (x2619 : Int) : Link spec_MeetOf_ctx LL (Code.seq (Code.fst (bodyOf Tryd.f33)) (Code.seq (Code.fst (Code.snd (bodyOf Tryd.f33))) (Code.fst (Code.snd (Code.snd (bodyOf Tryd.f33)))))) (Ann.seq (Ann.fst spec_MeetOf_an) (Ann.seq (Ann.fst (Ann.snd spec_MeetOf_an)) (Ann.fst (Ann.snd (Ann.snd spec_MeetOf_an))))) (⟨mkE 40 0 [(0, .dat (.list (.int .i64)) x2617), (1, .dat (.int .i64) x2618), (2, .dat (.int .i64) x2619)], []⟩ : St) (spec_MeetOf_n1 x2617 x2618 x2619) (Sum.elim (fun (t : Unit) => (Exit.normal, (⟨mkE 40 0 [(0, .dat (.list (.int .i64)) x2617), (2, .dat (.int .i64) x2619), (7, .dat (.int .i64) x2618)], []⟩ : St))) (fun (t : Int) => (Exit.ret, (⟨mkE 40 0 [(6, .dat (.int .i64) t)], []⟩ : St)))) := by
  refine Link.of fun K h => ?_
  simp only [spec_MeetOf_n1, wpO_bind, wpO_cond, wpO_map, wpO_some] at h
  exact Awp.of (by kernel_rfl) h

theorem spec_MeetOf_n2_l (x2617 : List Int) (x2619 : Int) (x2648 : Int) : Link spec_MeetOf_ctx LL (Code.fst (Code.fst (Code.snd (Code.snd (Code.snd (bodyOf Tryd.f33)))))) (Ann.fst (Ann.fst (Ann.snd (Ann.snd (Ann.snd spec_MeetOf_an))))) (⟨mkE 40 0 [(0, .dat (.list (.int .i64)) x2617), (2, .dat (.int .i64) x2619), (7, .dat (.int .i64) x2648)], []⟩ : St) (spec_MeetOf_n2 x2617 x2619 x2648) (Sum.elim (fun (t : Int) => (Exit.normal, (⟨mkE 40 0 [(0, .dat (.list (.int .i64)) x2617), (2, .dat (.int .i64) x2619), (7, .dat (.int .i64) t)], []⟩ : St))) (fun (t : Int) => (Exit.ret, (⟨mkE 40 0 [(6, .dat (.int .i64) t)], []⟩ : St)))) := by
  refine Link.of fun K h => ?_
  simp only [spec_MeetOf_n2, wpO_bind, wpO_cond, wpO_map, wpO_some] at h
  exact Awp.of (by kernel_rfl) h

theorem spec_MeetOf_n3_l (x2617 : List Int) (x2619 : Int) (x2618 : Int) : Link spec_MeetOf_ctx LL (Code.fst (Code.snd (Code.snd (Code.snd (bodyOf Tryd.f33))))) (Ann.fst (Ann.snd (Ann.snd (Ann.snd spec_MeetOf_an)))) (⟨mkE 40 0 [(0, .dat (.list (.int .i64)) x2617), (2, .dat (.int .i64) x2619), (7, .dat (.int .i64) x2618)], []⟩ : St) (spec_MeetOf_n3 x2617 x2619 x2618) (fun (t : Int) => (Exit.ret, (⟨mkE 40 0 [(6, .dat (.int .i64) t)], []⟩ : St))) := by
  unfold spec_MeetOf_n3
  exact Link.cast (by kernel_rfl) (by kernel_rfl) (link_loop (mk := fun (s : Int) => (⟨mkE 40 0 [(0, .dat (.list (.int .i64)) x2617), (2, .dat (.int .i64) x2619), (7, .dat (.int .i64) s)], []⟩ : St)) (fin := (fun (t : Int) => (Exit.ret, (⟨mkE 40 0 [(6, .dat (.int .i64) t)], []⟩ : St)))) (by
  rintro t f K h
  · exact h) (fun s => link_map (spec_MeetOf_n2_l x2617 x2619 s) (Sum.elim (fun (t : Int) => Sum.inl t) (fun (t : Int) => Sum.inr t)) (by
  rintro (t | t)
  · kernel_rfl
  · kernel_rfl)) x2618)

theorem spec_MeetOf_n4_l (x2617 : List Int) (x2619 : Int) (x2618 : Int) : Link spec_MeetOf_ctx LL (Code.snd (Code.snd (Code.snd (bodyOf Tryd.f33)))) (Ann.snd (Ann.snd (Ann.snd spec_MeetOf_an))) (⟨mkE 40 0 [(0, .dat (.list (.int .i64)) x2617), (2, .dat (.int .i64) x2619), (7, .dat (.int .i64) x2618)], []⟩ : St) (spec_MeetOf_n4 x2617 x2619 x2618) (fun (t : Int) => (Exit.ret, (⟨mkE 40 0 [(6, .dat (.int .i64) t)], []⟩ : St))) := by
  unfold spec_MeetOf_n4
  exact Link.cast (by kernel_rfl) (by kernel_rfl) (link_block (id := 0) (spec_MeetOf_n3_l x2617 x2619 x2618) (fun (t : Int) => t) (by
  rintro t K h
  · exact Eq.mp (by kernel_rfl) h))

theorem spec_MeetOf_n5_l (x2617 : List Int) (x2618 : Int) (x2619 : Int) : Link spec_MeetOf_ctx LL (bodyOf Tryd.f33) spec_MeetOf_an (⟨mkE 40 0 [(0, .dat (.list (.int .i64)) x2617), (1, .dat (.int .i64) x2618), (2, .dat (.int .i64) x2619)], []⟩ : St) (spec_MeetOf_n5 x2617 x2618 x2619) (fun (t : Int) => (Exit.ret, (⟨mkE 40 0 [(6, .dat (.int .i64) t)], []⟩ : St))) := by
  unfold spec_MeetOf_n5
  exact Link.cast (by kernel_rfl) (by kernel_rfl) (link_group (c := (Code.fst (Code.snd (Code.snd (bodyOf Tryd.f33))))) (a := (Ann.fst (Ann.snd (Ann.snd spec_MeetOf_an)))) [(Code.fst (bodyOf Tryd.f33)), (Code.fst (Code.snd (bodyOf Tryd.f33)))] [(Ann.fst spec_MeetOf_an), (Ann.fst (Ann.snd spec_MeetOf_an))] rfl (link_seq2 (b := (Code.snd (Code.snd (Code.snd (bodyOf Tryd.f33))))) (y := (Ann.snd (Ann.snd (Ann.snd spec_MeetOf_an)))) (spec_MeetOf_n1_l x2617 x2618 x2619) (fun (t : Unit) => (spec_MeetOf_n4_l x2617 x2619 x2618)) (fun (t : Int) => t) (by
  rintro t
  · kernel_rfl) (by
  rintro t f K h
  · exact h)))

theorem spec_MeetOf_e (x2617 : List Int) (x2618 : Int) (x2619 : Int) {r : AV} {H' : Heap} (h : (Ans.mk _ (spec_MeetOf x2617 x2618 x2619) (fun (t : Int) => (.dat (.int .i64) t, []))).run = some (r, H')) : Awp spec_MeetOf_ctx LL (bodyOf Tryd.f33) spec_MeetOf_an (⟨mkE 40 0 [(0, .dat (.list (.int .i64)) x2617), (1, .dat (.int .i64) x2618), (2, .dat (.int .i64) x2619)], []⟩ : St) (Ret (tlook tys) Tryd.f33.results.toList r H') :=
  ret_of' (spec_MeetOf_n5_l x2617 x2618 x2619) (by unfold spec_MeetOf; kernel_rfl) (by
  intro t
  exact ret_mk [.dat (.int .i64) t] (by kernel_rfl) (by kernel_rfl) (by kernel_rfl) (by kernel_rfl)) h

def F_spec_MeetOf : Fun := fun avs H =>
  match avs, H with
  | [.dat (.list (.int .i64)) x2617, .dat (.int .i64) x2618, .dat (.int .i64) x2619], [] => ⟨_, spec_MeetOf x2617 x2618 x2619, fun (t : Int) => (.dat (.int .i64) t, [])⟩
  | _, _ => Ans.no

theorem spec_MeetOf_sound : Sound Tryd.prog 33 F_spec_MeetOf := by
  refine fn_sound' (C := spec_MeetOf_ctx) (c := bodyOf Tryd.f33) (cok_of tys_ok (List.forall_mem_cons.2 ⟨spec_TreeOk_sound, List.forall_mem_cons.2 ⟨spec_l1In_sound, List.forall_mem_cons.2 ⟨spec_l2Yield_sound, by simp⟩⟩⟩) (List.forall_mem_cons.2 ⟨Tryd.call27, List.forall_mem_cons.2 ⟨Tryd.call58, List.forall_mem_cons.2 ⟨Tryd.call60, by simp⟩⟩⟩) (by kernel_rfl)) Tryd.func33 (by kernel_rfl) LL spec_MeetOf_an ?_
  intro avs H r H' h
  unfold F_spec_MeetOf at h
  split at h
  · refine Awp.cast ?_ ?_ ?_ (spec_MeetOf_e _ _ _ h) <;> kernel_rfl
  · simp [Ans.no, Ans.run] at h

/-! loop.example/headtrees/laws.FnMeetOf -/

def laws_FnMeetOf_an : Ann := (.seq (.leaf [0]) (.seq (.seq (.leaf [0, 10]) (.cond (.seq (.leaf [2]) (.leaf [2])) (.leaf [0]))) (.seq (.leaf [3, 4, 5]) (.seq (.leaf [3, 4, 5, 6]) (.seq (.seq (.leaf [3, 4, 5, 6, 26]) (.cond (.seq (.leaf [2]) (.leaf [2])) (.leaf [3, 4, 5, 6]))) (.seq (.seq (.leaf [3, 4, 5, 6, 28]) (.cond (.seq (.leaf [2]) (.leaf [2])) (.leaf [3, 4, 5, 6]))) (.seq (.seq (.leaf [3, 4, 5, 6, 7]) (.block (.loop (.seq (.seq (.leaf [3, 4, 5, 6, 7, 37]) (.cond (.leaf [3, 4, 5, 6, 7]) (.leaf [3, 4, 5, 6]))) (.seq (.block (.seq (.leaf [3, 4, 5, 6, 7, 56]) (.cond (.seq (.leaf [2]) (.leaf [2])) (.leaf [3, 4, 5, 6, 7])))) (.leaf [3, 4, 5, 6, 7])))))) (.seq (.leaf [2]) (.leaf [2])))))))))

noncomputable def laws_FnMeetOf_ctx : Ctx := ⟨tlook tys, olook [(31, F_spec_DrawMeetOf), (32, F_impl_MeetOf), (33, F_spec_MeetOf), (20, F_laws_alive), (29, F_impl_UnderOk)], ioF, 0⟩

theorem laws_FnMeetOf_n1_l (x2446 : List Int) : Link laws_FnMeetOf_ctx LL (Code.seq (Code.fst (bodyOf Tryd.f6)) (Code.seq (Code.fst (Code.snd (bodyOf Tryd.f6))) (Code.seq (Code.fst (Code.snd (Code.snd (bodyOf Tryd.f6)))) (Code.seq (Code.fst (Code.snd (Code.snd (Code.snd (bodyOf Tryd.f6))))) (Code.seq (Code.fst (Code.snd (Code.snd (Code.snd (Code.snd (bodyOf Tryd.f6)))))) (Code.fst (Code.snd (Code.snd (Code.snd (Code.snd (Code.snd (bodyOf Tryd.f6)))))))))))) (Ann.seq (Ann.fst laws_FnMeetOf_an) (Ann.seq (Ann.fst (Ann.snd laws_FnMeetOf_an)) (Ann.seq (Ann.fst (Ann.snd (Ann.snd laws_FnMeetOf_an))) (Ann.seq (Ann.fst (Ann.snd (Ann.snd (Ann.snd laws_FnMeetOf_an)))) (Ann.seq (Ann.fst (Ann.snd (Ann.snd (Ann.snd (Ann.snd laws_FnMeetOf_an))))) (Ann.fst (Ann.snd (Ann.snd (Ann.snd (Ann.snd (Ann.snd laws_FnMeetOf_an))))))))))) (⟨mkE 75 0 [(0, .dat (.list (.int .u8)) x2446)], []⟩ : St) (laws_FnMeetOf_n1 x2446) (Sum.elim (fun (t : Int × Int × Int × (List Int)) => (Exit.normal, (⟨mkE 75 0 [(3, .slc 0), (4, .dat (.int .i64) t.1), (5, .dat (.int .i64) t.2.1), (6, .dat (.int .i64) t.2.2.1)], [some (.seq (.int .i64) t.2.2.2)]⟩ : St))) (fun (t : Bool) => (Exit.ret, (⟨mkE 75 0 [(2, .dat .bool t)], []⟩ : St)))) := by
  refine Link.of fun K h => ?_
  simp only [laws_FnMeetOf_n1, wpO_bind, wpO_cond, wpO_map, wpO_some] at h
  exact Awp.of (by kernel_rfl) h

theorem laws_FnMeetOf_n2_l (x2667 : Int) (x2668 : Int) (x2670 : Int) (x2669 : List Int) : Link laws_FnMeetOf_ctx LL (Code.fst (Code.fst (Code.snd (Code.snd (Code.snd (Code.snd (Code.snd (Code.snd (bodyOf Tryd.f6))))))))) (Ann.fst (Ann.fst (Ann.snd (Ann.snd (Ann.snd (Ann.snd (Ann.snd (Ann.snd laws_FnMeetOf_an)))))))) (⟨mkE 75 0 [(3, .slc 0), (4, .dat (.int .i64) x2667), (5, .dat (.int .i64) x2668), (6, .dat (.int .i64) x2670)], [some (.seq (.int .i64) x2669)]⟩ : St) (laws_FnMeetOf_n2) (fun (t : Unit) => (Exit.normal, (⟨mkE 75 0 [(3, .slc 0), (4, .dat (.int .i64) x2667), (5, .dat (.int .i64) x2668), (6, .dat (.int .i64) x2670), (7, .dat (.int .i64) 1)], [some (.seq (.int .i64) x2669)]⟩ : St))) := by
  refine Link.of fun K h => ?_
  simp only [laws_FnMeetOf_n2, wpO_bind, wpO_cond, wpO_map, wpO_some] at h
  exact Awp.of (by kernel_rfl) h

theorem laws_FnMeetOf_n3_l (x2667 : Int) (x2668 : Int) (x2670 : Int) (x2694 : Int) (x2669 : List Int) : Link laws_FnMeetOf_ctx LL (Code.fst (Code.fst (Code.snd (Code.fst (Code.snd (Code.snd (Code.snd (Code.snd (Code.snd (Code.snd (bodyOf Tryd.f6))))))))))) (Ann.fst (Ann.fst (Ann.snd (Ann.fst (Ann.snd (Ann.snd (Ann.snd (Ann.snd (Ann.snd (Ann.snd laws_FnMeetOf_an)))))))))) (⟨mkE 75 0 [(3, .slc 0), (4, .dat (.int .i64) x2667), (5, .dat (.int .i64) x2668), (6, .dat (.int .i64) x2670), (7, .dat (.int .i64) x2694)], [some (.seq (.int .i64) x2669)]⟩ : St) (laws_FnMeetOf_n3 x2667 x2668 x2670 x2694 x2669) (Sum.elim (fun (t : Int) => (Exit.normal, (⟨mkE 75 0 [(3, .slc 0), (4, .dat (.int .i64) x2667), (5, .dat (.int .i64) x2668), (6, .dat (.int .i64) x2670), (7, .dat (.int .i64) t)], [some (.seq (.int .i64) x2669)]⟩ : St))) (Sum.elim (fun (t : Bool) => (Exit.ret, (⟨mkE 75 0 [(2, .dat .bool t)], []⟩ : St))) (fun (t : Unit) => ((Exit.exit 0), (⟨mkE 75 0 [(3, .slc 0), (4, .dat (.int .i64) x2667), (5, .dat (.int .i64) x2668), (6, .dat (.int .i64) x2670)], [some (.seq (.int .i64) x2669)]⟩ : St))))) := by
  refine Link.of fun K h => ?_
  simp only [laws_FnMeetOf_n3, wpO_bind, wpO_cond, wpO_map, wpO_some] at h
  exact Awp.of (by kernel_rfl) h

theorem laws_FnMeetOf_n4_l (x2667 : Int) (x2668 : Int) (x2670 : Int) (x2669 : List Int) : Link laws_FnMeetOf_ctx LL (Code.fst (Code.snd (Code.fst (Code.snd (Code.snd (Code.snd (Code.snd (Code.snd (Code.snd (bodyOf Tryd.f6)))))))))) (Ann.fst (Ann.snd (Ann.fst (Ann.snd (Ann.snd (Ann.snd (Ann.snd (Ann.snd (Ann.snd laws_FnMeetOf_an))))))))) (⟨mkE 75 0 [(3, .slc 0), (4, .dat (.int .i64) x2667), (5, .dat (.int .i64) x2668), (6, .dat (.int .i64) x2670), (7, .dat (.int .i64) 1)], [some (.seq (.int .i64) x2669)]⟩ : St) (laws_FnMeetOf_n4 x2667 x2668 x2670 x2669) (Sum.elim (fun (t : Bool) => (Exit.ret, (⟨mkE 75 0 [(2, .dat .bool t)], []⟩ : St))) (fun (t : Unit) => ((Exit.exit 0), (⟨mkE 75 0 [(3, .slc 0), (4, .dat (.int .i64) x2667), (5, .dat (.int .i64) x2668), (6, .dat (.int .i64) x2670)], [some (.seq (.int .i64) x2669)]⟩ : St)))) := by
  unfold laws_FnMeetOf_n4
  exact Link.cast (by kernel_rfl) (by kernel_rfl) (link_loop (mk := fun (s : Int) => (⟨mkE 75 0 [(3, .slc 0), (4, .dat (.int .i64) x2667), (5, .dat (.int .i64) x2668), (6, .dat (.int .i64) x2670), (7, .dat (.int .i64) s)], [some (.seq (.int .i64) x2669)]⟩ : St)) (fin := (Sum.elim (fun (t : Bool) => (Exit.ret, (⟨mkE 75 0 [(2, .dat .bool t)], []⟩ : St))) (fun (t : Unit) => ((Exit.exit 0), (⟨mkE 75 0 [(3, .slc 0), (4, .dat (.int .i64) x2667), (5, .dat (.int .i64) x2668), (6, .dat (.int .i64) x2670)], [some (.seq (.int .i64) x2669)]⟩ : St))))) (by
  rintro (t | t) f K h
  · exact h
  · exact h) (fun s => link_map (laws_FnMeetOf_n3_l x2667 x2668 x2670 s x2669) (Sum.elim (fun (t : Int) => Sum.inl t) (Sum.elim (fun (t : Bool) => Sum.inr (Sum.inl t)) (fun (t : Unit) => Sum.inr (Sum.inr t)))) (by
  rintro (t | t | t)
  · kernel_rfl
  · kernel_rfl
  · kernel_rfl)) 1)

theorem laws_FnMeetOf_n5_l (x2667 : Int) (x2668 : Int) (x2670 : Int) (x2669 : List Int) : Link laws_FnMeetOf_ctx LL (Code.snd (Code.fst (Code.snd (Code.snd (Code.snd (Code.snd (Code.snd (Code.snd (bodyOf Tryd.f6))))))))) (Ann.snd (Ann.fst (Ann.snd (Ann.snd (Ann.snd (Ann.snd (Ann.snd (Ann.snd laws_FnMeetOf_an)))))))) (⟨mkE 75 0 [(3, .slc 0), (4, .dat (.int .i64) x2667), (5, .dat (.int .i64) x2668), (6, .dat (.int .i64) x2670), (7, .dat (.int .i64) 1)], [some (.seq (.int .i64) x2669)]⟩ : St) (laws_FnMeetOf_n5 x2667 x2668 x2670 x2669) (Sum.elim (fun (t : Unit) => (Exit.normal, (⟨mkE 75 0 [(3, .slc 0), (4, .dat (.int .i64) x2667), (5, .dat (.int .i64) x2668), (6, .dat (.int .i64) x2670)], [some (.seq (.int .i64) x2669)]⟩ : St))) (fun (t : Bool) => (Exit.ret, (⟨mkE 75 0 [(2, .dat .bool t)], []⟩ : St)))) := by
  unfold laws_FnMeetOf_n5
  exact Link.cast (by kernel_rfl) (by kernel_rfl) (link_block (id := 0) (laws_FnMeetOf_n4_l x2667 x2668 x2670 x2669) (Sum.elim (fun (t : Bool) => (Sum.inr t)) (fun (t : Unit) => (Sum.inl ()))) (by
  rintro (t | t) K h
  · exact Eq.mp (by kernel_rfl) h
  · exact Eq.mp (by kernel_rfl) h))

theorem laws_FnMeetOf_n6_l (x2667 : Int) (x2668 : Int) (x2670 : Int) (x2669 : List Int) : Link laws_FnMeetOf_ctx LL (Code.fst (Code.snd (Code.snd (Code.snd (Code.snd (Code.snd (Code.snd (bodyOf Tryd.f6)))))))) (Ann.fst (Ann.snd (Ann.snd (Ann.snd (Ann.snd (Ann.snd (Ann.snd laws_FnMeetOf_an))))))) (⟨mkE 75 0 [(3, .slc 0), (4, .dat (.int .i64) x2667), (5, .dat (.int .i64) x2668), (6, .dat (.int .i64) x2670)], [some (.seq (.int .i64) x2669)]⟩ : St) (laws_FnMeetOf_n6 x2667 x2668 x2670 x2669) (Sum.elim (fun (t : Unit) => (Exit.normal, (⟨mkE 75 0 [(3, .slc 0), (4, .dat (.int .i64) x2667), (5, .dat (.int .i64) x2668), (6, .dat (.int .i64) x2670)], [some (.seq (.int .i64) x2669)]⟩ : St))) (fun (t : Bool) => (Exit.ret, (⟨mkE 75 0 [(2, .dat .bool t)], []⟩ : St)))) := by
  unfold laws_FnMeetOf_n6
  exact Link.cast (by kernel_rfl) (by kernel_rfl) (link_seq (b := (Code.snd (Code.fst (Code.snd (Code.snd (Code.snd (Code.snd (Code.snd (Code.snd (bodyOf Tryd.f6)))))))))) (y := (Ann.snd (Ann.fst (Ann.snd (Ann.snd (Ann.snd (Ann.snd (Ann.snd (Ann.snd laws_FnMeetOf_an))))))))) (laws_FnMeetOf_n2_l x2667 x2668 x2670 x2669) (fun (t : Unit) => (laws_FnMeetOf_n5_l x2667 x2668 x2670 x2669)))

theorem laws_FnMeetOf_n7_l (x2667 : Int) (x2668 : Int) (x2670 : Int) (x2669 : List Int) : Link laws_FnMeetOf_ctx LL (Code.snd (Code.snd (Code.snd (Code.snd (Code.snd (Code.snd (Code.snd (bodyOf Tryd.f6)))))))) (Ann.snd (Ann.snd (Ann.snd (Ann.snd (Ann.snd (Ann.snd (Ann.snd laws_FnMeetOf_an))))))) (⟨mkE 75 0 [(3, .slc 0), (4, .dat (.int .i64) x2667), (5, .dat (.int .i64) x2668), (6, .dat (.int .i64) x2670)], [some (.seq (.int .i64) x2669)]⟩ : St) (laws_FnMeetOf_n7 x2667 x2668 x2670 x2669) (fun (t : Bool) => (Exit.ret, (⟨mkE 75 0 [(2, .dat .bool t)], []⟩ : St))) := by
  refine Link.of fun K h => ?_
  simp only [laws_FnMeetOf_n7, wpO_bind, wpO_cond, wpO_map, wpO_some] at h
  exact Awp.of (by kernel_rfl) h

theorem laws_FnMeetOf_n8_l (x2667 : Int) (x2668 : Int) (x2670 : Int) (x2669 : List Int) : Link laws_FnMeetOf_ctx LL (Code.snd (Code.snd (Code.snd (Code.snd (Code.snd (Code.snd (bodyOf Tryd.f6))))))) (Ann.snd (Ann.snd (Ann.snd (Ann.snd (Ann.snd (Ann.snd laws_FnMeetOf_an)))))) (⟨mkE 75 0 [(3, .slc 0), (4, .dat (.int .i64) x2667), (5, .dat (.int .i64) x2668), (6, .dat (.int .i64) x2670)], [some (.seq (.int .i64) x2669)]⟩ : St) (laws_FnMeetOf_n8 x2667 x2668 x2670 x2669) (fun (t : Bool) => (Exit.ret, (⟨mkE 75 0 [(2, .dat .bool t)], []⟩ : St))) := by
  unfold laws_FnMeetOf_n8
  exact Link.cast (by kernel_rfl) (by kernel_rfl) (link_seq2 (b := (Code.snd (Code.snd (Code.snd (Code.snd (Code.snd (Code.snd (Code.snd (bodyOf Tryd.f6))))))))) (y := (Ann.snd (Ann.snd (Ann.snd (Ann.snd (Ann.snd (Ann.snd (Ann.snd laws_FnMeetOf_an)))))))) (laws_FnMeetOf_n6_l x2667 x2668 x2670 x2669) (fun (t : Unit) => (laws_FnMeetOf_n7_l x2667 x2668 x2670 x2669)) (fun (t : Bool) => t) (by
  rintro t
  · kernel_rfl) (by
  rintro t f K h
  · exact h))

theorem laws_FnMeetOf_n9_l (x2446 : List Int) : Link laws_FnMeetOf_ctx LL (bodyOf Tryd.f6) laws_FnMeetOf_an (⟨mkE 75 0 [(0, .dat (.list (.int .u8)) x2446)], []⟩ : St) (laws_FnMeetOf_n9 x2446) (fun (t : Bool) => (Exit.ret, (⟨mkE 75 0 [(2, .dat .bool t)], []⟩ : St))) := by
  unfold laws_FnMeetOf_n9
  exact Link.cast (by kernel_rfl) (by kernel_rfl) (link_group (c := (Code.fst (Code.snd (Code.snd (Code.snd (Code.snd (Code.snd (bodyOf Tryd.f6)))))))) (a := (Ann.fst (Ann.snd (Ann.snd (Ann.snd (Ann.snd (Ann.snd laws_FnMeetOf_an))))))) [(Code.fst (bodyOf Tryd.f6)), (Code.fst (Code.snd (bodyOf Tryd.f6))), (Code.fst (Code.snd (Code.snd (bodyOf Tryd.f6)))), (Code.fst (Code.snd (Code.snd (Code.snd (bodyOf Tryd.f6))))), (Code.fst (Code.snd (Code.snd (Code.snd (Code.snd (bodyOf Tryd.f6))))))] [(Ann.fst laws_FnMeetOf_an), (Ann.fst (Ann.snd laws_FnMeetOf_an)), (Ann.fst (Ann.snd (Ann.snd laws_FnMeetOf_an))), (Ann.fst (Ann.snd (Ann.snd (Ann.snd laws_FnMeetOf_an)))), (Ann.fst (Ann.snd (Ann.snd (Ann.snd (Ann.snd laws_FnMeetOf_an)))))] rfl (link_seq2 (b := (Code.snd (Code.snd (Code.snd (Code.snd (Code.snd (Code.snd (bodyOf Tryd.f6)))))))) (y := (Ann.snd (Ann.snd (Ann.snd (Ann.snd (Ann.snd (Ann.snd laws_FnMeetOf_an))))))) (laws_FnMeetOf_n1_l x2446) (fun (t : Int × Int × Int × (List Int)) => (laws_FnMeetOf_n8_l t.1 t.2.1 t.2.2.1 t.2.2.2)) (fun (t : Bool) => t) (by
  rintro t
  · kernel_rfl) (by
  rintro t f K h
  · exact h)))

theorem laws_FnMeetOf_e (x2446 : List Int) {r : AV} {H' : Heap} (h : (Ans.mk _ (laws_FnMeetOf x2446) (fun (t : Bool) => (.dat .bool t, []))).run = some (r, H')) : Awp laws_FnMeetOf_ctx LL (bodyOf Tryd.f6) laws_FnMeetOf_an (⟨mkE 75 0 [(0, .dat (.list (.int .u8)) x2446)], []⟩ : St) (Ret (tlook tys) Tryd.f6.results.toList r H') :=
  ret_of' (laws_FnMeetOf_n9_l x2446) (by unfold laws_FnMeetOf; kernel_rfl) (by
  intro t
  exact ret_mk [.dat .bool t] (by kernel_rfl) (by kernel_rfl) (by kernel_rfl) (by kernel_rfl)) h

def F_laws_FnMeetOf : Fun := fun avs H =>
  match avs, H with
  | [.dat (.list (.int .u8)) x2446], [] => ⟨_, laws_FnMeetOf x2446, fun (t : Bool) => (.dat .bool t, [])⟩
  | _, _ => Ans.no

theorem laws_FnMeetOf_sound : Sound Tryd.prog 6 F_laws_FnMeetOf := by
  refine fn_sound' (C := laws_FnMeetOf_ctx) (c := bodyOf Tryd.f6) (cok_of tys_ok (List.forall_mem_cons.2 ⟨spec_DrawMeetOf_sound, List.forall_mem_cons.2 ⟨impl_MeetOf_sound, List.forall_mem_cons.2 ⟨spec_MeetOf_sound, List.forall_mem_cons.2 ⟨laws_alive_sound, List.forall_mem_cons.2 ⟨impl_UnderOk_sound, by simp⟩⟩⟩⟩⟩) (List.forall_mem_cons.2 ⟨Tryd.call31, List.forall_mem_cons.2 ⟨Tryd.call32, List.forall_mem_cons.2 ⟨Tryd.call33, List.forall_mem_cons.2 ⟨Tryd.call20, List.forall_mem_cons.2 ⟨Tryd.call29, by simp⟩⟩⟩⟩⟩) (by kernel_rfl)) Tryd.func6 (by kernel_rfl) LL laws_FnMeetOf_an ?_
  intro avs H r H' h
  unfold F_laws_FnMeetOf at h
  split at h
  · refine Awp.cast ?_ ?_ ?_ (laws_FnMeetOf_e _ h) <;> kernel_rfl
  · simp [Ans.no, Ans.run] at h

/-! loop.example/headtrees/spec.DrawSidesOf -/

def spec_DrawSidesOf_an : Ann := (.seq (.leaf [0]) (.seq (.leaf [2, 3]) (.leaf [2, 3])))

noncomputable def spec_DrawSidesOf_ctx : Ctx := ⟨tlook tys, olook [(54, F_spec_l20Open), (53, F_spec_l20Word)], ioF, 0⟩

theorem spec_DrawSidesOf_n1_l (x2728 : List Int) : Link spec_DrawSidesOf_ctx LL (bodyOf Tryd.f34) spec_DrawSidesOf_an (⟨mkE 9 0 [(0, .dat (.list (.int .u8)) x2728)], []⟩ : St) (spec_DrawSidesOf_n1 x2728) (fun (t : Int × (List Int)) => (Exit.ret, (⟨mkE 9 0 [(2, .slc 0), (3, .dat (.int .i64) t.1)], [some (.seq (.int .i64) t.2)]⟩ : St))) := by
  refine Link.of fun K h => ?_
  simp only [spec_DrawSidesOf_n1, wpO_bind, wpO_cond, wpO_map, wpO_some] at h
  exact Awp.of (by kernel_rfl) h

theorem spec_DrawSidesOf_e (x2728 : List Int) {r : AV} {H' : Heap} (h : (Ans.mk _ (spec_DrawSidesOf x2728) (fun (t : Int × (List Int)) => (.tup [.slc 0, .dat (.int .i64) t.1], [some (.seq (.int .i64) t.2)]))).run = some (r, H')) : Awp spec_DrawSidesOf_ctx LL (bodyOf Tryd.f34) spec_DrawSidesOf_an (⟨mkE 9 0 [(0, .dat (.list (.int .u8)) x2728)], []⟩ : St) (Ret (tlook tys) Tryd.f34.results.toList r H') :=
  ret_of' (spec_DrawSidesOf_n1_l x2728) (by unfold spec_DrawSidesOf; kernel_rfl) (by
  intro t
  exact ret_mk [.slc 0, .dat (.int .i64) t.1] (by kernel_rfl) (by kernel_rfl) (by kernel_rfl) (by kernel_rfl)) h

def F_spec_DrawSidesOf : Fun := fun avs H =>
  match avs, H with
  | [.dat (.list (.int .u8)) x2728], [] => ⟨_, spec_DrawSidesOf x2728, fun (t : Int × (List Int)) => (.tup [.slc 0, .dat (.int .i64) t.1], [some (.seq (.int .i64) t.2)])⟩
  | _, _ => Ans.no

theorem spec_DrawSidesOf_sound : Sound Tryd.prog 34 F_spec_DrawSidesOf := by
  refine fn_sound' (C := spec_DrawSidesOf_ctx) (c := bodyOf Tryd.f34) (cok_of tys_ok (List.forall_mem_cons.2 ⟨spec_l20Open_sound, List.forall_mem_cons.2 ⟨spec_l20Word_sound, by simp⟩⟩) (List.forall_mem_cons.2 ⟨Tryd.call54, List.forall_mem_cons.2 ⟨Tryd.call53, by simp⟩⟩) (by kernel_rfl)) Tryd.func34 (by kernel_rfl) LL spec_DrawSidesOf_an ?_
  intro avs H r H' h
  unfold F_spec_DrawSidesOf at h
  split at h
  · refine Awp.cast ?_ ?_ ?_ (spec_DrawSidesOf_e _ h) <;> kernel_rfl
  · simp [Ans.no, Ans.run] at h

/-! loop.example/headtrees/impl.before -/

def impl_before_an : Ann := (.seq (.leaf [0]) (.seq (.leaf [2]) (.leaf [2])))

noncomputable def impl_before_ctx : Ctx := ⟨tlook tys, olook [(65, F_impl_only)], ioF, 0⟩

theorem impl_before_n1_l (x2757 : Int) : Link impl_before_ctx LL (bodyOf Tryd.f66) impl_before_an (⟨mkE 6 0 [(0, .dat (.int .i64) x2757)], []⟩ : St) (impl_before_n1 x2757) (fun (t : Int) => (Exit.ret, (⟨mkE 6 0 [(2, .dat (.int .u64) t)], []⟩ : St))) := by
  refine Link.of fun K h => ?_
  simp only [impl_before_n1, wpO_bind, wpO_cond, wpO_map, wpO_some] at h
  exact Awp.of (by kernel_rfl) h

theorem impl_before_e (x2757 : Int) {r : AV} {H' : Heap} (h : (Ans.mk _ (impl_before x2757) (fun (t : Int) => (.dat (.int .u64) t, []))).run = some (r, H')) : Awp impl_before_ctx LL (bodyOf Tryd.f66) impl_before_an (⟨mkE 6 0 [(0, .dat (.int .i64) x2757)], []⟩ : St) (Ret (tlook tys) Tryd.f66.results.toList r H') :=
  ret_of' (impl_before_n1_l x2757) (by unfold impl_before; kernel_rfl) (by
  intro t
  exact ret_mk [.dat (.int .u64) t] (by kernel_rfl) (by kernel_rfl) (by kernel_rfl) (by kernel_rfl)) h

def F_impl_before : Fun := fun avs H =>
  match avs, H with
  | [.dat (.int .i64) x2757], [] => ⟨_, impl_before x2757, fun (t : Int) => (.dat (.int .u64) t, [])⟩
  | _, _ => Ans.no

theorem impl_before_sound : Sound Tryd.prog 66 F_impl_before := by
  refine fn_sound' (C := impl_before_ctx) (c := bodyOf Tryd.f66) (cok_of tys_ok (List.forall_mem_cons.2 ⟨impl_only_sound, by simp⟩) (List.forall_mem_cons.2 ⟨Tryd.call65, by simp⟩) (by kernel_rfl)) Tryd.func66 (by kernel_rfl) LL impl_before_an ?_
  intro avs H r H' h
  unfold F_impl_before at h
  split at h
  · refine Awp.cast ?_ ?_ ?_ (impl_before_e _ h) <;> kernel_rfl
  · simp [Ans.no, Ans.run] at h

/-! loop.example/headtrees/impl.SidesOf -/

def impl_SidesOf_an : Ann := (.seq (.leaf [0, 1]) (.seq (.seq (.leaf [0, 1, 11]) (.cond (.seq (.leaf [4, 5, 6]) (.leaf [4, 5, 6])) (.leaf [0, 1]))) (.seq (.leaf [1, 7]) (.seq (.leaf [4, 5, 6]) (.leaf [4, 5, 6])))))

noncomputable def impl_SidesOf_ctx : Ctx := ⟨tlook tys, olook [(55, F_impl_wordOk), (62, F_impl_dependents), (66, F_impl_before), (67, F_impl_wordSet_count)], ioF, 0⟩

theorem impl_SidesOf_n1_l (x2747 : List Int) (x2748 : Int) : Link impl_SidesOf_ctx LL (bodyOf Tryd.f35) impl_SidesOf_an (⟨mkE 25 0 [(0, .dat (.list (.int .i64)) x2747), (1, .dat (.int .i64) x2748)], []⟩ : St) (impl_SidesOf_n1 x2747 x2748) (fun (t : Int × Int × Bool) => (Exit.ret, (⟨mkE 25 0 [(4, .dat (.int .i64) t.1), (5, .dat (.int .i64) t.2.1), (6, .dat .bool t.2.2)], []⟩ : St))) := by
  refine Link.of fun K h => ?_
  simp only [impl_SidesOf_n1, wpO_bind, wpO_cond, wpO_map, wpO_some] at h
  exact Awp.of (by kernel_rfl) h

theorem impl_SidesOf_e (x2747 : List Int) (x2748 : Int) {r : AV} {H' : Heap} (h : (Ans.mk _ (impl_SidesOf x2747 x2748) (fun (t : Int × Int × Bool) => (.tup [.dat (.int .i64) t.1, .dat (.int .i64) t.2.1, .dat .bool t.2.2], []))).run = some (r, H')) : Awp impl_SidesOf_ctx LL (bodyOf Tryd.f35) impl_SidesOf_an (⟨mkE 25 0 [(0, .dat (.list (.int .i64)) x2747), (1, .dat (.int .i64) x2748)], []⟩ : St) (Ret (tlook tys) Tryd.f35.results.toList r H') :=
  ret_of' (impl_SidesOf_n1_l x2747 x2748) (by unfold impl_SidesOf; kernel_rfl) (by
  intro t
  exact ret_mk [.dat (.int .i64) t.1, .dat (.int .i64) t.2.1, .dat .bool t.2.2] (by kernel_rfl) (by kernel_rfl) (by kernel_rfl) (by kernel_rfl)) h

def F_impl_SidesOf : Fun := fun avs H =>
  match avs, H with
  | [.dat (.list (.int .i64)) x2747, .dat (.int .i64) x2748], [] => ⟨_, impl_SidesOf x2747 x2748, fun (t : Int × Int × Bool) => (.tup [.dat (.int .i64) t.1, .dat (.int .i64) t.2.1, .dat .bool t.2.2], [])⟩
  | _, _ => Ans.no

theorem impl_SidesOf_sound : Sound Tryd.prog 35 F_impl_SidesOf := by
  refine fn_sound' (C := impl_SidesOf_ctx) (c := bodyOf Tryd.f35) (cok_of tys_ok (List.forall_mem_cons.2 ⟨impl_wordOk_sound, List.forall_mem_cons.2 ⟨impl_dependents_sound, List.forall_mem_cons.2 ⟨impl_before_sound, List.forall_mem_cons.2 ⟨impl_wordSet_count_sound, by simp⟩⟩⟩⟩) (List.forall_mem_cons.2 ⟨Tryd.call55, List.forall_mem_cons.2 ⟨Tryd.call62, List.forall_mem_cons.2 ⟨Tryd.call66, List.forall_mem_cons.2 ⟨Tryd.call67, by simp⟩⟩⟩⟩) (by kernel_rfl)) Tryd.func35 (by kernel_rfl) LL impl_SidesOf_an ?_
  intro avs H r H' h
  unfold F_impl_SidesOf at h
  split at h
  · refine Awp.cast ?_ ?_ ?_ (impl_SidesOf_e _ _ h) <;> kernel_rfl
  · simp [Ans.no, Ans.run] at h

/-! loop.example/headtrees/spec.SidesOf -/

def spec_SidesOf_an : Ann := (.seq (.leaf [0, 1]) (.seq (.seq (.leaf [0, 1, 19]) (.cond (.seq (.leaf [4, 5, 6]) (.leaf [4, 5, 6])) (.leaf [0, 1]))) (.seq (.leaf [0, 1, 7]) (.seq (.leaf [0, 1, 7, 8]) (.seq (.seq (.leaf [0, 1, 7, 8, 9]) (.block (.loop (.seq (.seq (.leaf [0, 1, 7, 8, 9, 23]) (.cond (.leaf [0, 1, 7, 8, 9]) (.leaf [7, 8]))) (.seq (.block (.seq (.seq (.leaf [0, 1, 7, 8, 9, 37]) (.cond (.leaf [0, 1, 7, 8, 9]) (.leaf [0, 1, 7, 8, 9]))) (.seq (.leaf [0, 1, 7, 8, 9, 51]) (.cond (.leaf [0, 1, 7, 8, 9]) (.leaf [0, 1, 7, 8, 9]))))) (.leaf [0, 1, 7, 8, 9])))))) (.seq (.leaf [4, 5, 6]) (.leaf [4, 5, 6])))))))

noncomputable def spec_SidesOf_ctx : Ctx := ⟨tlook tys, olook [(27, F_spec_TreeOk), (58, F_spec_l1In)], ioF, 0⟩

theorem spec_SidesOf_n1_l (x2793 : List Int) (x2794 : Int) : Link spec_SidesOf_ctx LL (Code.seq (Code.fst (bodyOf Tryd.f36)) (Code.seq (Code.fst (Code.snd (bodyOf Tryd.f36))) (Code.seq (Code.fst (Code.snd (Code.snd (bodyOf Tryd.f36)))) (Code.fst (Code.snd (Code.snd (Code.snd (bodyOf Tryd.f36)))))))) (Ann.seq (Ann.fst spec_SidesOf_an) (Ann.seq (Ann.fst (Ann.snd spec_SidesOf_an)) (Ann.seq (Ann.fst (Ann.snd (Ann.snd spec_SidesOf_an))) (Ann.fst (Ann.snd (Ann.snd (Ann.snd spec_SidesOf_an))))))) (⟨mkE 56 0 [(0, .dat (.list (.int .i64)) x2793), (1, .dat (.int .i64) x2794)], []⟩ : St) (spec_SidesOf_n1 x2793 x2794) (Sum.elim (fun (t : Unit) => (Exit.normal, (⟨mkE 56 0 [(0, .dat (.list (.int .i64)) x2793), (1, .dat (.int .i64) x2794), (7, .dat (.int .i64) 0), (8, .dat (.int .i64) 0)], []⟩ : St))) (fun (t : Int × Int × Bool) => (Exit.ret, (⟨mkE 56 0 [(4, .dat (.int .i64) t.1), (5, .dat (.int .i64) t.2.1), (6, .dat .bool t.2.2)], []⟩ : St)))) := by
  refine Link.of fun K h => ?_
  simp only [spec_SidesOf_n1, wpO_bind, wpO_cond, wpO_map, wpO_some] at h
  exact Awp.of (by kernel_rfl) h

theorem spec_SidesOf_n2_l (x2793 : List Int) (x2794 : Int) : Link spec_SidesOf_ctx LL (Code.fst (Code.fst (Code.snd (Code.snd (Code.snd (Code.snd (bodyOf Tryd.f36))))))) (Ann.fst (Ann.fst (Ann.snd (Ann.snd (Ann.snd (Ann.snd spec_SidesOf_an)))))) (⟨mkE 56 0 [(0, .dat (.list (.int .i64)) x2793), (1, .dat (.int .i64) x2794), (7, .dat (.int .i64) 0), (8, .dat (.int .i64) 0)], []⟩ : St) (spec_SidesOf_n2) (fun (t : Unit) => (Exit.normal, (⟨mkE 56 0 [(0, .dat (.list (.int .i64)) x2793), (1, .dat (.int .i64) x2794), (7, .dat (.int .i64) 0), (8, .dat (.int .i64) 0), (9, .dat (.int .i64) 0)], []⟩ : St))) := by
  refine Link.of fun K h => ?_
  simp only [spec_SidesOf_n2, wpO_bind, wpO_cond, wpO_map, wpO_some] at h
  exact Awp.of (by kernel_rfl) h

theorem spec_SidesOf_n3_l (x2793 : List Int) (x2794 : Int) (x2868 : Int) (x2869 : Int) (x2870 : Int) : Link spec_SidesOf_ctx LL (Code.fst (Code.fst (Code.snd (Code.fst (Code.snd (Code.snd (Code.snd (Code.snd (bodyOf Tryd.f36))))))))) (Ann.fst (Ann.fst (Ann.snd (Ann.fst (Ann.snd (Ann.snd (Ann.snd (Ann.snd spec_SidesOf_an)))))))) (⟨mkE 56 0 [(0, .dat (.list (.int .i64)) x2793), (1, .dat (.int .i64) x2794), (7, .dat (.int .i64) x2868), (8, .dat (.int .i64) x2869), (9, .dat (.int .i64) x2870)], []⟩ : St) (spec_SidesOf_n3 x2793 x2794 x2868 x2869 x2870) (Sum.elim (fun (t : Int × Int × Int) => (Exit.normal, (⟨mkE 56 0 [(0, .dat (.list (.int .i64)) x2793), (1, .dat (.int .i64) x2794), (7, .dat (.int .i64) t.1), (8, .dat (.int .i64) t.2.1), (9, .dat (.int .i64) t.2.2)], []⟩ : St))) (fun (t : Int × Int) => ((Exit.exit 0), (⟨mkE 56 0 [(7, .dat (.int .i64) t.1), (8, .dat (.int .i64) t.2)], []⟩ : St)))) := by
  refine Link.of fun K h => ?_
  simp only [spec_SidesOf_n3, wpO_bind, wpO_cond, wpO_map, wpO_some] at h
  exact Awp.of (by kernel_rfl) h

theorem spec_SidesOf_n4_l (x2793 : List Int) (x2794 : Int) : Link spec_SidesOf_ctx LL (Code.fst (Code.snd (Code.fst (Code.snd (Code.snd (Code.snd (Code.snd (bodyOf Tryd.f36)))))))) (Ann.fst (Ann.snd (Ann.fst (Ann.snd (Ann.snd (Ann.snd (Ann.snd spec_SidesOf_an))))))) (⟨mkE 56 0 [(0, .dat (.list (.int .i64)) x2793), (1, .dat (.int .i64) x2794), (7, .dat (.int .i64) 0), (8, .dat (.int .i64) 0), (9, .dat (.int .i64) 0)], []⟩ : St) (spec_SidesOf_n4 x2793 x2794) (fun (t : Int × Int) => ((Exit.exit 0), (⟨mkE 56 0 [(7, .dat (.int .i64) t.1), (8, .dat (.int .i64) t.2)], []⟩ : St))) := by
  unfold spec_SidesOf_n4
  exact Link.cast (by kernel_rfl) (by kernel_rfl) (link_loop (mk := fun (s : Int × Int × Int) => (⟨mkE 56 0 [(0, .dat (.list (.int .i64)) x2793), (1, .dat (.int .i64) x2794), (7, .dat (.int .i64) s.1), (8, .dat (.int .i64) s.2.1), (9, .dat (.int .i64) s.2.2)], []⟩ : St)) (fin := (fun (t : Int × Int) => ((Exit.exit 0), (⟨mkE 56 0 [(7, .dat (.int .i64) t.1), (8, .dat (.int .i64) t.2)], []⟩ : St)))) (by
  rintro t f K h
  · exact h) (fun s => link_map (spec_SidesOf_n3_l x2793 x2794 s.1 s.2.1 s.2.2) (Sum.elim (fun (t : Int × Int × Int) => Sum.inl (t.1, t.2.1, t.2.2)) (fun (t : Int × Int) => Sum.inr t)) (by
  rintro (t | t)
  · kernel_rfl
  · kernel_rfl)) (0, 0, 0))

theorem spec_SidesOf_n5_l (x2793 : List Int) (x2794 : Int) : Link spec_SidesOf_ctx LL (Code.snd (Code.fst (Code.snd (Code.snd (Code.snd (Code.snd (bodyOf Tryd.f36))))))) (Ann.snd (Ann.fst (Ann.snd (Ann.snd (Ann.snd (Ann.snd spec_SidesOf_an)))))) (⟨mkE 56 0 [(0, .dat (.list (.int .i64)) x2793), (1, .dat (.int .i64) x2794), (7, .dat (.int .i64) 0), (8, .dat (.int .i64) 0), (9, .dat (.int .i64) 0)], []⟩ : St) (spec_SidesOf_n5 x2793 x2794) (fun (t : Int × Int) => (Exit.normal, (⟨mkE 56 0 [(7, .dat (.int .i64) t.1), (8, .dat (.int .i64) t.2)], []⟩ : St))) := by
  unfold spec_SidesOf_n5
  exact Link.cast (by kernel_rfl) (by kernel_rfl) (link_block (id := 0) (spec_SidesOf_n4_l x2793 x2794) (fun (t : Int × Int) => (t.1, t.2)) (by
  rintro t K h
  · exact Eq.mp (by kernel_rfl) h))

theorem spec_SidesOf_n6_l (x2793 : List Int) (x2794 : Int) : Link spec_SidesOf_ctx LL (Code.fst (Code.snd (Code.snd (Code.snd (Code.snd (bodyOf Tryd.f36)))))) (Ann.fst (Ann.snd (Ann.snd (Ann.snd (Ann.snd spec_SidesOf_an))))) (⟨mkE 56 0 [(0, .dat (.list (.int .i64)) x2793), (1, .dat (.int .i64) x2794), (7, .dat (.int .i64) 0), (8, .dat (.int .i64) 0)], []⟩ : St) (spec_SidesOf_n6 x2793 x2794) (fun (t : Int × Int) => (Exit.normal, (⟨mkE 56 0 [(7, .dat (.int .i64) t.1), (8, .dat (.int .i64) t.2)], []⟩ : St))) := by
  unfold spec_SidesOf_n6
  exact Link.cast (by kernel_rfl) (by kernel_rfl) (link_seq (b := (Code.snd (Code.fst (Code.snd (Code.snd (Code.snd (Code.snd (bodyOf Tryd.f36)))))))) (y := (Ann.snd (Ann.fst (Ann.snd (Ann.snd (Ann.snd (Ann.snd spec_SidesOf_an))))))) (spec_SidesOf_n2_l x2793 x2794) (fun (t : Unit) => (spec_SidesOf_n5_l x2793 x2794)))

theorem spec_SidesOf_n7_l (x2868 : Int) (x2869 : Int) : Link spec_SidesOf_ctx LL (Code.snd (Code.snd (Code.snd (Code.snd (Code.snd (bodyOf Tryd.f36)))))) (Ann.snd (Ann.snd (Ann.snd (Ann.snd (Ann.snd spec_SidesOf_an))))) (⟨mkE 56 0 [(7, .dat (.int .i64) x2868), (8, .dat (.int .i64) x2869)], []⟩ : St) (spec_SidesOf_n7 x2868 x2869) (fun (t : Int × Int × Bool) => (Exit.ret, (⟨mkE 56 0 [(4, .dat (.int .i64) t.1), (5, .dat (.int .i64) t.2.1), (6, .dat .bool t.2.2)], []⟩ : St))) := by
  refine Link.of fun K h => ?_
  simp only [spec_SidesOf_n7, wpO_bind, wpO_cond, wpO_map, wpO_some] at h
  exact Awp.of (by kernel_rfl) h

theorem spec_SidesOf_n8_l (x2793 : List Int) (x2794 : Int) : Link spec_SidesOf_ctx LL (Code.snd (Code.snd (Code.snd (Code.snd (bodyOf Tryd.f36))))) (Ann.snd (Ann.snd (Ann.snd (Ann.snd spec_SidesOf_an)))) (⟨mkE 56 0 [(0, .dat (.list (.int .i64)) x2793), (1, .dat (.int .i64) x2794), (7, .dat (.int .i64) 0), (8, .dat (.int .i64) 0)], []⟩ : St) (spec_SidesOf_n8 x2793 x2794) (fun (t : Int × Int × Bool) => (Exit.ret, (⟨mkE 56 0 [(4, .dat (.int .i64) t.1), (5, .dat (.int .i64) t.2.1), (6, .dat .bool t.2.2)], []⟩ : St))) := by
  unfold spec_SidesOf_n8
  exact Link.cast (by kernel_rfl) (by kernel_rfl) (link_seq (b := (Code.snd (Code.snd (Code.snd (Code.snd (Code.snd (bodyOf Tryd.f36))))))) (y := (Ann.snd (Ann.snd (Ann.snd (Ann.snd (Ann.snd spec_SidesOf_an)))))) (spec_SidesOf_n6_l x2793 x2794) (fun (t : Int × Int) => (spec_SidesOf_n7_l t.1 t.2)))

theorem spec_SidesOf_n9_l (x2793 : List Int) (x2794 : Int) : Link spec_SidesOf_ctx LL (bodyOf Tryd.f36) spec_SidesOf_an (⟨mkE 56 0 [(0, .dat (.list (.int .i64)) x2793), (1, .dat (.int .i64) x2794)], []⟩ : St) (spec_SidesOf_n9 x2793 x2794) (fun (t : Int × Int × Bool) => (Exit.ret, (⟨mkE 56 0 [(4, .dat (.int .i64) t.1), (5, .dat (.int .i64) t.2.1), (6, .dat .bool t.2.2)], []⟩ : St))) := by
  unfold spec_SidesOf_n9
  exact Link.cast (by kernel_rfl) (by kernel_rfl) (link_group (c := (Code.fst (Code.snd (Code.snd (Code.snd (bodyOf Tryd.f36)))))) (a := (Ann.fst (Ann.snd (Ann.snd (Ann.snd spec_SidesOf_an))))) [(Code.fst (bodyOf Tryd.f36)), (Code.fst (Code.snd (bodyOf Tryd.f36))), (Code.fst (Code.snd (Code.snd (bodyOf Tryd.f36))))] [(Ann.fst spec_SidesOf_an), (Ann.fst (Ann.snd spec_SidesOf_an)), (Ann.fst (Ann.snd (Ann.snd spec_SidesOf_an)))] rfl (link_seq2 (b := (Code.snd (Code.snd (Code.snd (Code.snd (bodyOf Tryd.f36)))))) (y := (Ann.snd (Ann.snd (Ann.snd (Ann.snd spec_SidesOf_an))))) (spec_SidesOf_n1_l x2793 x2794) (fun (t : Unit) => (spec_SidesOf_n8_l x2793 x2794)) (fun (t : Int × Int × Bool) => t) (by
  rintro t
  · kernel_rfl) (by
  rintro t f K h
  · exact h)))

theorem spec_SidesOf_e (x2793 : List Int) (x2794 : Int) {r : AV} {H' : Heap} (h : (Ans.mk _ (spec_SidesOf x2793 x2794) (fun (t : Int × Int × Bool) => (.tup [.dat (.int .i64) t.1, .dat (.int .i64) t.2.1, .dat .bool t.2.2], []))).run = some (r, H')) : Awp spec_SidesOf_ctx LL (bodyOf Tryd.f36) spec_SidesOf_an (⟨mkE 56 0 [(0, .dat (.list (.int .i64)) x2793), (1, .dat (.int .i64) x2794)], []⟩ : St) (Ret (tlook tys) Tryd.f36.results.toList r H') :=
  ret_of' (spec_SidesOf_n9_l x2793 x2794) (by unfold spec_SidesOf; kernel_rfl) (by
  intro t
  exact ret_mk [.dat (.int .i64) t.1, .dat (.int .i64) t.2.1, .dat .bool t.2.2] (by kernel_rfl) (by kernel_rfl) (by kernel_rfl) (by kernel_rfl)) h

def F_spec_SidesOf : Fun := fun avs H =>
  match avs, H with
  | [.dat (.list (.int .i64)) x2793, .dat (.int .i64) x2794], [] => ⟨_, spec_SidesOf x2793 x2794, fun (t : Int × Int × Bool) => (.tup [.dat (.int .i64) t.1, .dat (.int .i64) t.2.1, .dat .bool t.2.2], [])⟩
  | _, _ => Ans.no

theorem spec_SidesOf_sound : Sound Tryd.prog 36 F_spec_SidesOf := by
  refine fn_sound' (C := spec_SidesOf_ctx) (c := bodyOf Tryd.f36) (cok_of tys_ok (List.forall_mem_cons.2 ⟨spec_TreeOk_sound, List.forall_mem_cons.2 ⟨spec_l1In_sound, by simp⟩⟩) (List.forall_mem_cons.2 ⟨Tryd.call27, List.forall_mem_cons.2 ⟨Tryd.call58, by simp⟩⟩) (by kernel_rfl)) Tryd.func36 (by kernel_rfl) LL spec_SidesOf_an ?_
  intro avs H r H' h
  unfold F_spec_SidesOf at h
  split at h
  · refine Awp.cast ?_ ?_ ?_ (spec_SidesOf_e _ _ h) <;> kernel_rfl
  · simp [Ans.no, Ans.run] at h

/-! loop.example/headtrees/laws.FnSidesOf -/

def laws_FnSidesOf_an : Ann := (.seq (.leaf [0]) (.seq (.seq (.leaf [0, 18]) (.cond (.seq (.leaf [2]) (.leaf [2])) (.leaf [0]))) (.seq (.leaf [3, 4]) (.seq (.leaf [3, 4, 5, 6, 7]) (.seq (.leaf [3, 4, 5, 6, 7, 8, 9, 10]) (.seq (.seq (.leaf [3, 4, 5, 6, 7, 50]) (.cond (.seq (.leaf [2]) (.leaf [2])) (.leaf [3, 4, 5, 6, 7]))) (.seq (.seq (.leaf [3, 4, 5, 6, 52]) (.cond (.seq (.leaf [2]) (.leaf [2])) (.leaf [3, 4, 5, 6]))) (.seq (.leaf [3, 4, 5, 6, 11]) (.seq (.seq (.leaf [3, 4, 5, 6, 11, 12]) (.block (.loop (.seq (.seq (.leaf [3, 4, 5, 6, 11, 12, 65]) (.cond (.leaf [3, 4, 5, 6, 11, 12]) (.leaf [3, 4, 5, 6, 11]))) (.seq (.block (.seq (.leaf [3, 4, 5, 6, 11, 12, 13, 14]) (.leaf [3, 4, 5, 6, 11, 12]))) (.leaf [3, 4, 5, 6, 11, 12])))))) (.seq (.leaf [2]) (.leaf [2])))))))))))

noncomputable def laws_FnSidesOf_ctx : Ctx := ⟨tlook tys, olook [(34, F_spec_DrawSidesOf), (35, F_impl_SidesOf), (36, F_spec_SidesOf), (20, F_laws_alive), (25, F_impl_DependsOf)], ioF, 0⟩

theorem laws_FnSidesOf_n1_l (x2723 : List Int) : Link laws_FnSidesOf_ctx LL (Code.seq (Code.fst (bodyOf Tryd.f7)) (Code.seq (Code.fst (Code.snd (bodyOf Tryd.f7))) (Code.seq (Code.fst (Code.snd (Code.snd (bodyOf Tryd.f7)))) (Code.seq (Code.fst (Code.snd (Code.snd (Code.snd (bodyOf Tryd.f7))))) (Code.seq (Code.fst (Code.snd (Code.snd (Code.snd (Code.snd (bodyOf Tryd.f7)))))) (Code.seq (Code.fst (Code.snd (Code.snd (Code.snd (Code.snd (Code.snd (bodyOf Tryd.f7))))))) (Code.seq (Code.fst (Code.snd (Code.snd (Code.snd (Code.snd (Code.snd (Code.snd (bodyOf Tryd.f7)))))))) (Code.fst (Code.snd (Code.snd (Code.snd (Code.snd (Code.snd (Code.snd (Code.snd (bodyOf Tryd.f7)))))))))))))))) (Ann.seq (Ann.fst laws_FnSidesOf_an) (Ann.seq (Ann.fst (Ann.snd laws_FnSidesOf_an)) (Ann.seq (Ann.fst (Ann.snd (Ann.snd laws_FnSidesOf_an))) (Ann.seq (Ann.fst (Ann.snd (Ann.snd (Ann.snd laws_FnSidesOf_an)))) (Ann.seq (Ann.fst (Ann.snd (Ann.snd (Ann.snd (Ann.snd laws_FnSidesOf_an))))) (Ann.seq (Ann.fst (Ann.snd (Ann.snd (Ann.snd (Ann.snd (Ann.snd laws_FnSidesOf_an)))))) (Ann.seq (Ann.fst (Ann.snd (Ann.snd (Ann.snd (Ann.snd (Ann.snd (Ann.snd laws_FnSidesOf_an))))))) (Ann.fst (Ann.snd (Ann.snd (Ann.snd (Ann.snd (Ann.snd (Ann.snd (Ann.snd laws_FnSidesOf_an))))))))))))))) (⟨mkE 95 0 [(0, .dat (.list (.int .u8)) x2723)], []⟩ : St) (laws_FnSidesOf_n1 x2723) (Sum.elim (fun (t : Int × Int × Int × (List Int)) => (Exit.normal, (⟨mkE 95 0 [(3, .slc 0), (4, .dat (.int .i64) t.1), (5, .dat (.int .i64) t.2.1), (6, .dat (.int .i64) t.2.2.1), (11, .dat (.int .i64) 0)], [some (.seq (.int .i64) t.2.2.2)]⟩ : St))) (fun (t : Bool) => (Exit.ret, (⟨mkE 95 0 [(2, .dat .bool t)], []⟩ : St)))) := by
  refine Link.of fun K h => ?_
  simp only [laws_FnSidesOf_n1, wpO_bind, wpO_cond, wpO_map, wpO_some] at h
  exact Awp.of (by kernel_rfl) h

theorem laws_FnSidesOf_n2_l (x2975 : Int) (x2978 : Int) (x2979 : Int) (x2976 : List Int) : Link laws_FnSidesOf_ctx LL (Code.fst (Code.fst (Code.snd (Code.snd (Code.snd (Code.snd (Code.snd (Code.snd (Code.snd (Code.snd (bodyOf Tryd.f7))))))))))) (Ann.fst (Ann.fst (Ann.snd (Ann.snd (Ann.snd (Ann.snd (Ann.snd (Ann.snd (Ann.snd (Ann.snd laws_FnSidesOf_an)))))))))) (⟨mkE 95 0 [(3, .slc 0), (4, .dat (.int .i64) x2975), (5, .dat (.int .i64) x2978), (6, .dat (.int .i64) x2979), (11, .dat (.int .i64) 0)], [some (.seq (.int .i64) x2976)]⟩ : St) (laws_FnSidesOf_n2) (fun (t : Unit) => (Exit.normal, (⟨mkE 95 0 [(3, .slc 0), (4, .dat (.int .i64) x2975), (5, .dat (.int .i64) x2978), (6, .dat (.int .i64) x2979), (11, .dat (.int .i64) 0), (12, .dat (.int .i64) 1)], [some (.seq (.int .i64) x2976)]⟩ : St))) := by
  refine Link.of fun K h => ?_
  simp only [laws_FnSidesOf_n2, wpO_bind, wpO_cond, wpO_map, wpO_some] at h
  exact Awp.of (by kernel_rfl) h

theorem laws_FnSidesOf_n3_l (x2975 : Int) (x2978 : Int) (x2979 : Int) (x3011 : Int) (x3012 : Int) (x2976 : List Int) : Link laws_FnSidesOf_ctx LL (Code.fst (Code.fst (Code.snd (Code.fst (Code.snd (Code.snd (Code.snd (Code.snd (Code.snd (Code.snd (Code.snd (Code.snd (bodyOf Tryd.f7))))))))))))) (Ann.fst (Ann.fst (Ann.snd (Ann.fst (Ann.snd (Ann.snd (Ann.snd (Ann.snd (Ann.snd (Ann.snd (Ann.snd (Ann.snd laws_FnSidesOf_an)))))))))))) (⟨mkE 95 0 [(3, .slc 0), (4, .dat (.int .i64) x2975), (5, .dat (.int .i64) x2978), (6, .dat (.int .i64) x2979), (11, .dat (.int .i64) x3011), (12, .dat (.int .i64) x3012)], [some (.seq (.int .i64) x2976)]⟩ : St) (laws_FnSidesOf_n3 x3011 x3012 x2976) (Sum.elim (fun (t : Int × Int) => (Exit.normal, (⟨mkE 95 0 [(3, .slc 0), (4, .dat (.int .i64) x2975), (5, .dat (.int .i64) x2978), (6, .dat (.int .i64) x2979), (11, .dat (.int .i64) t.1), (12, .dat (.int .i64) t.2)], [some (.seq (.int .i64) x2976)]⟩ : St))) (fun (t : Int) => ((Exit.exit 0), (⟨mkE 95 0 [(3, .slc 0), (4, .dat (.int .i64) x2975), (5, .dat (.int .i64) x2978), (6, .dat (.int .i64) x2979), (11, .dat (.int .i64) t)], [some (.seq (.int .i64) x2976)]⟩ : St)))) := by
  refine Link.of fun K h => ?_
  simp only [laws_FnSidesOf_n3, wpO_bind, wpO_cond, wpO_map, wpO_some] at h
  exact Awp.of (by kernel_rfl) h

theorem laws_FnSidesOf_n4_l (x2975 : Int) (x2978 : Int) (x2979 : Int) (x2976 : List Int) : Link laws_FnSidesOf_ctx LL (Code.fst (Code.snd (Code.fst (Code.snd (Code.snd (Code.snd (Code.snd (Code.snd (Code.snd (Code.snd (Code.snd (bodyOf Tryd.f7)))))))))))) (Ann.fst (Ann.snd (Ann.fst (Ann.snd (Ann.snd (Ann.snd (Ann.snd (Ann.snd (Ann.snd (Ann.snd (Ann.snd laws_FnSidesOf_an))))))))))) (⟨mkE 95 0 [(3, .slc 0), (4, .dat (.int .i64) x2975), (5, .dat (.int .i64) x2978), (6, .dat (.int .i64) x2979), (11, .dat (.int .i64) 0), (12, .dat (.int .i64) 1)], [some (.seq (.int .i64) x2976)]⟩ : St) (laws_FnSidesOf_n4 x2976) (fun (t : Int) => ((Exit.exit 0), (⟨mkE 95 0 [(3, .slc 0), (4, .dat (.int .i64) x2975), (5, .dat (.int .i64) x2978), (6, .dat (.int .i64) x2979), (11, .dat (.int .i64) t)], [some (.seq (.int .i64) x2976)]⟩ : St))) := by
  unfold laws_FnSidesOf_n4
  exact Link.cast (by kernel_rfl) (by kernel_rfl) (link_loop (mk := fun (s : Int × Int) => (⟨mkE 95 0 [(3, .slc 0), (4, .dat (.int .i64) x2975), (5, .dat (.int .i64) x2978), (6, .dat (.int .i64) x2979), (11, .dat (.int .i64) s.1), (12, .dat (.int .i64) s.2)], [some (.seq (.int .i64) x2976)]⟩ : St)) (fin := (fun (t : Int) => ((Exit.exit 0), (⟨mkE 95 0 [(3, .slc 0), (4, .dat (.int .i64) x2975), (5, .dat (.int .i64) x2978), (6, .dat (.int .i64) x2979), (11, .dat (.int .i64) t)], [some (.seq (.int .i64) x2976)]⟩ : St)))) (by
  rintro t f K h
  · exact h) (fun s => link_map (laws_FnSidesOf_n3_l x2975 x2978 x2979 s.1 s.2 x2976) (Sum.elim (fun (t : Int × Int) => Sum.inl (t.1, t.2)) (fun (t : Int) => Sum.inr t)) (by
  rintro (t | t)
  · kernel_rfl
  · kernel_rfl)) (0, 1))

theorem laws_FnSidesOf_n5_l (x2975 : Int) (x2978 : Int) (x2979 : Int) (x2976 : List Int) : Link laws_FnSidesOf_ctx LL (Code.snd (Code.fst (Code.snd (Code.snd (Code.snd (Code.snd (Code.snd (Code.snd (Code.snd (Code.snd (bodyOf Tryd.f7))))))))))) (Ann.snd (Ann.fst (Ann.snd (Ann.snd (Ann.snd (Ann.snd (Ann.snd (Ann.snd (Ann.snd (Ann.snd laws_FnSidesOf_an)))))))))) (⟨mkE 95 0 [(3, .slc 0), (4, .dat (.int .i64) x2975), (5, .dat (.int .i64) x2978), (6, .dat (.int .i64) x2979), (11, .dat (.int .i64) 0), (12, .dat (.int .i64) 1)], [some (.seq (.int .i64) x2976)]⟩ : St) (laws_FnSidesOf_n5 x2976) (fun (t : Int) => (Exit.normal, (⟨mkE 95 0 [(3, .slc 0), (4, .dat (.int .i64) x2975), (5, .dat (.int .i64) x2978), (6, .dat (.int .i64) x2979), (11, .dat (.int .i64) t)], [some (.seq (.int .i64) x2976)]⟩ : St))) := by
  unfold laws_FnSidesOf_n5
  exact Link.cast (by kernel_rfl) (by kernel_rfl) (link_block (id := 0) (laws_FnSidesOf_n4_l x2975 x2978 x2979 x2976) (fun (t : Int) => t) (by
  rintro t K h
  · exact Eq.mp (by kernel_rfl) h))

theorem laws_FnSidesOf_n6_l (x2975 : Int) (x2978 : Int) (x2979 : Int) (x2976 : List Int) : Link laws_FnSidesOf_ctx LL (Code.fst (Code.snd (Code.snd (Code.snd (Code.snd (Code.snd (Code.snd (Code.snd (Code.snd (bodyOf Tryd.f7)))))))))) (Ann.fst (Ann.snd (Ann.snd (Ann.snd (Ann.snd (Ann.snd (Ann.snd (Ann.snd (Ann.snd laws_FnSidesOf_an))))))))) (⟨mkE 95 0 [(3, .slc 0), (4, .dat (.int .i64) x2975), (5, .dat (.int .i64) x2978), (6, .dat (.int .i64) x2979), (11, .dat (.int .i64) 0)], [some (.seq (.int .i64) x2976)]⟩ : St) (laws_FnSidesOf_n6 x2976) (fun (t : Int) => (Exit.normal, (⟨mkE 95 0 [(3, .slc 0), (4, .dat (.int .i64) x2975), (5, .dat (.int .i64) x2978), (6, .dat (.int .i64) x2979), (11, .dat (.int .i64) t)], [some (.seq (.int .i64) x2976)]⟩ : St))) := by
  unfold laws_FnSidesOf_n6
  exact Link.cast (by kernel_rfl) (by kernel_rfl) (link_seq (b := (Code.snd (Code.fst (Code.snd (Code.snd (Code.snd (Code.snd (Code.snd (Code.snd (Code.snd (Code.snd (bodyOf Tryd.f7)))))))))))) (y := (Ann.snd (Ann.fst (Ann.snd (Ann.snd (Ann.snd (Ann.snd (Ann.snd (Ann.snd (Ann.snd (Ann.snd laws_FnSidesOf_an))))))))))) (laws_FnSidesOf_n2_l x2975 x2978 x2979 x2976) (fun (t : Unit) => (laws_FnSidesOf_n5_l x2975 x2978 x2979 x2976)))

theorem laws_FnSidesOf_n7_l (x2975 : Int) (x2978 : Int) (x2979 : Int) (x3011 : Int) (x2976 : List Int) : Link laws_FnSidesOf_ctx LL (Code.snd (Code.snd (Code.snd (Code.snd (Code.snd (Code.snd (Code.snd (Code.snd (Code.snd (bodyOf Tryd.f7)))))))))) (Ann.snd (Ann.snd (Ann.snd (Ann.snd (Ann.snd (Ann.snd (Ann.snd (Ann.snd (Ann.snd laws_FnSidesOf_an))))))))) (⟨mkE 95 0 [(3, .slc 0), (4, .dat (.int .i64) x2975), (5, .dat (.int .i64) x2978), (6, .dat (.int .i64) x2979), (11, .dat (.int .i64) x3011)], [some (.seq (.int .i64) x2976)]⟩ : St) (laws_FnSidesOf_n7 x2975 x2978 x2979 x3011 x2976) (fun (t : Bool) => (Exit.ret, (⟨mkE 95 0 [(2, .dat .bool t)], []⟩ : St))) := by
  refine Link.of fun K h => ?_
  simp only [laws_FnSidesOf_n7, wpO_bind, wpO_cond, wpO_map, wpO_some] at h
  exact Awp.of (by kernel_rfl) h

theorem laws_FnSidesOf_n8_l (x2975 : Int) (x2978 : Int) (x2979 : Int) (x2976 : List Int) : Link laws_FnSidesOf_ctx LL (Code.snd (Code.snd (Code.snd (Code.snd (Code.snd (Code.snd (Code.snd (Code.snd (bodyOf Tryd.f7))))))))) (Ann.snd (Ann.snd (Ann.snd (Ann.snd (Ann.snd (Ann.snd (Ann.snd (Ann.snd laws_FnSidesOf_an)))))))) (⟨mkE 95 0 [(3, .slc 0), (4, .dat (.int .i64) x2975), (5, .dat (.int .i64) x2978), (6, .dat (.int .i64) x2979), (11, .dat (.int .i64) 0)], [some (.seq (.int .i64) x2976)]⟩ : St) (laws_FnSidesOf_n8 x2975 x2978 x2979 x2976) (fun (t : Bool) => (Exit.ret, (⟨mkE 95 0 [(2, .dat .bool t)], []⟩ : St))) := by
  unfold laws_FnSidesOf_n8
  exact Link.cast (by kernel_rfl) (by kernel_rfl) (link_seq (b := (Code.snd (Code.snd (Code.snd (Code.snd (Code.snd (Code.snd (Code.snd (Code.snd (Code.snd (bodyOf Tryd.f7))))))))))) (y := (Ann.snd (Ann.snd (Ann.snd (Ann.snd (Ann.snd (Ann.snd (Ann.snd (Ann.snd (Ann.snd laws_FnSidesOf_an)))))))))) (laws_FnSidesOf_n6_l x2975 x2978 x2979 x2976) (fun (t : Int) => (laws_FnSidesOf_n7_l x2975 x2978 x2979 t x2976)))

theorem laws_FnSidesOf_n9_l (x2723 : List Int) : Link laws_FnSidesOf_ctx LL (bodyOf Tryd.f7) laws_FnSidesOf_an (⟨mkE 95 0 [(0, .dat (.list (.int .u8)) x2723)], []⟩ : St) (laws_FnSidesOf_n9 x2723) (fun (t : Bool) => (Exit.ret, (⟨mkE 95 0 [(2, .dat .bool t)], []⟩ : St))) := by
  unfold laws_FnSidesOf_n9
  exact Link.cast (by kernel_rfl) (by kernel_rfl) (link_group (c := (Code.fst (Code.snd (Code.snd (Code.snd (Code.snd (Code.snd (Code.snd (Code.snd (bodyOf Tryd.f7)))))))))) (a := (Ann.fst (Ann.snd (Ann.snd (Ann.snd (Ann.snd (Ann.snd (Ann.snd (Ann.snd laws_FnSidesOf_an))))))))) [(Code.fst (bodyOf Tryd.f7)), (Code.fst (Code.snd (bodyOf Tryd.f7))), (Code.fst (Code.snd (Code.snd (bodyOf Tryd.f7)))), (Code.fst (Code.snd (Code.snd (Code.snd (bodyOf Tryd.f7))))), (Code.fst (Code.snd (Code.snd (Code.snd (Code.snd (bodyOf Tryd.f7)))))), (Code.fst (Code.snd (Code.snd (Code.snd (Code.snd (Code.snd (bodyOf Tryd.f7))))))), (Code.fst (Code.snd (Code.snd (Code.snd (Code.snd (Code.snd (Code.snd (bodyOf Tryd.f7))))))))] [(Ann.fst laws_FnSidesOf_an), (Ann.fst (Ann.snd laws_FnSidesOf_an)), (Ann.fst (Ann.snd (Ann.snd laws_FnSidesOf_an))), (Ann.fst (Ann.snd (Ann.snd (Ann.snd laws_FnSidesOf_an)))), (Ann.fst (Ann.snd (Ann.snd (Ann.snd (Ann.snd laws_FnSidesOf_an))))), (Ann.fst (Ann.snd (Ann.snd (Ann.snd (Ann.snd (Ann.snd laws_FnSidesOf_an)))))), (Ann.fst (Ann.snd (Ann.snd (Ann.snd (Ann.snd (Ann.snd (Ann.snd laws_FnSidesOf_an)))))))] rfl (link_seq2 (b := (Code.snd (Code.snd (Code.snd (Code.snd (Code.snd (Code.snd (Code.snd (Code.snd (bodyOf Tryd.f7)))))))))) (y := (Ann.snd (Ann.snd (Ann.snd (Ann.snd (Ann.snd (Ann.snd (Ann.snd (Ann.snd laws_FnSidesOf_an))))))))) (laws_FnSidesOf_n1_l x2723) (fun (t : Int × Int × Int × (List Int)) => (laws_FnSidesOf_n8_l t.1 t.2.1 t.2.2.1 t.2.2.2)) (fun (t : Bool) => t) (by
  rintro t
  · kernel_rfl) (by
  rintro t f K h
  · exact h)))

theorem laws_FnSidesOf_e (x2723 : List Int) {r : AV} {H' : Heap} (h : (Ans.mk _ (laws_FnSidesOf x2723) (fun (t : Bool) => (.dat .bool t, []))).run = some (r, H')) : Awp laws_FnSidesOf_ctx LL (bodyOf Tryd.f7) laws_FnSidesOf_an (⟨mkE 95 0 [(0, .dat (.list (.int .u8)) x2723)], []⟩ : St) (Ret (tlook tys) Tryd.f7.results.toList r H') :=
  ret_of' (laws_FnSidesOf_n9_l x2723) (by unfold laws_FnSidesOf; kernel_rfl) (by
  intro t
  exact ret_mk [.dat .bool t] (by kernel_rfl) (by kernel_rfl) (by kernel_rfl) (by kernel_rfl)) h

def F_laws_FnSidesOf : Fun := fun avs H =>
  match avs, H with
  | [.dat (.list (.int .u8)) x2723], [] => ⟨_, laws_FnSidesOf x2723, fun (t : Bool) => (.dat .bool t, [])⟩
  | _, _ => Ans.no

theorem laws_FnSidesOf_sound : Sound Tryd.prog 7 F_laws_FnSidesOf := by
  refine fn_sound' (C := laws_FnSidesOf_ctx) (c := bodyOf Tryd.f7) (cok_of tys_ok (List.forall_mem_cons.2 ⟨spec_DrawSidesOf_sound, List.forall_mem_cons.2 ⟨impl_SidesOf_sound, List.forall_mem_cons.2 ⟨spec_SidesOf_sound, List.forall_mem_cons.2 ⟨laws_alive_sound, List.forall_mem_cons.2 ⟨impl_DependsOf_sound, by simp⟩⟩⟩⟩⟩) (List.forall_mem_cons.2 ⟨Tryd.call34, List.forall_mem_cons.2 ⟨Tryd.call35, List.forall_mem_cons.2 ⟨Tryd.call36, List.forall_mem_cons.2 ⟨Tryd.call20, List.forall_mem_cons.2 ⟨Tryd.call25, by simp⟩⟩⟩⟩⟩) (by kernel_rfl)) Tryd.func7 (by kernel_rfl) LL laws_FnSidesOf_an ?_
  intro avs H r H' h
  unfold F_laws_FnSidesOf at h
  split at h
  · refine Awp.cast ?_ ?_ ?_ (laws_FnSidesOf_e _ h) <;> kernel_rfl
  · simp [Ans.no, Ans.run] at h

/-! loop.example/headtrees/spec.l20Fill -/

def spec_l20Fill_an : Ann := (.seq (.seq (.leaf [0, 1, 2, 3, 4, 16]) (.cond (.leaf []) (.leaf [0, 1, 2, 3, 4]))) (.seq (.leaf [0, 1, 2, 3, 4, 10]) (.seq (.leaf [0, 1, 2, 3, 10]) (.seq (.leaf [0, 1, 3, 10, 11]) (.seq (.block (.loop (.seq (.seq (.leaf [0, 1, 3, 10, 11, 33]) (.cond (.leaf [0, 1, 3, 10, 11]) (.leaf [0, 1, 3, 10]))) (.block (.seq (.leaf [0, 1, 3, 10, 11, 12]) (.seq (.leaf [0, 1, 3, 10, 12]) (.leaf [0, 1, 3, 10, 11]))))))) (.seq (.leaf [0, 1, 3, 10, 11]) (.block (.loop (.seq (.seq (.leaf [0, 1, 3, 10, 11, 53]) (.cond (.leaf [0, 1, 3, 10, 11]) (.leaf []))) (.block (.seq (.leaf [0, 1, 3, 10, 11, 13]) (.seq (.leaf [0, 1, 3, 10, 13]) (.leaf [0, 1, 3, 10, 11])))))))))))))

def F_spec_l20Fill_fuel (n : Nat) : Fun := fun avs H =>
  match avs, H with
  | [.ptr 0 0, .slc 1, .dat (.int .i64) x3102, .dat (.int .i64) x3103, .dat (.int .i64) x3104], [some (.box [.dat (.list (.int .u8)) x3105, .dat (.int .i64) x3106]), some (.seq (.int .i64) x3107)] => ⟨_, spec_l20Fill_fuel n x3102 x3103 x3104 x3105 x3106 x3107, fun (t : Int × (List Int)) => (.tup [], [some (.box [.dat (.list (.int .u8)) x3105, .dat (.int .i64) t.1]), some (.seq (.int .i64) t.2)])⟩
  | _, _ => Ans.no

noncomputable def spec_l20Fill_ctx (n : Nat) : Ctx := ⟨tlook tys, olook [(63, F_spec_l20Rd_pick), (85, F_spec_l20Fill_fuel n)], ioF, 2⟩

theorem spec_l20Fill_n1_l (n : Nat) (x3102 : Int) (x3103 : Int) (x3104 : Int) (x3105 : List Int) (x3106 : Int) (x3107 : List Int) : Link (spec_l20Fill_ctx n) LL (Code.seq (Code.fst (bodyOf Tryd.f85)) (Code.seq (Code.fst (Code.snd (bodyOf Tryd.f85))) (Code.seq (Code.fst (Code.snd (Code.snd (bodyOf Tryd.f85)))) (Code.fst (Code.snd (Code.snd (Code.snd (bodyOf Tryd.f85)))))))) (Ann.seq (Ann.fst spec_l20Fill_an) (Ann.seq (Ann.fst (Ann.snd spec_l20Fill_an)) (Ann.seq (Ann.fst (Ann.snd (Ann.snd spec_l20Fill_an))) (Ann.fst (Ann.snd (Ann.snd (Ann.snd spec_l20Fill_an))))))) (⟨mkE 70 0 [(0, .ptr 0 0), (1, .slc 1), (2, .dat (.int .i64) x3102), (3, .dat (.int .i64) x3103), (4, .dat (.int .i64) x3104)], [some (.box [.dat (.list (.int .u8)) x3105, .dat (.int .i64) x3106]), some (.seq (.int .i64) x3107)]⟩ : St) (spec_l20Fill_n1 (spec_l20Fill_fuel n) x3102 x3103 x3104 x3105 x3106 x3107) (Sum.elim (fun (t : Int × Int × (List Int)) => (Exit.normal, (⟨mkE 70 0 [(0, .ptr 0 0), (1, .slc 1), (3, .dat (.int .i64) x3103), (10, .dat (.int .i64) t.1), (11, .dat (.int .i64) x3102)], [some (.box [.dat (.list (.int .u8)) x3105, .dat (.int .i64) t.2.1]), some (.seq (.int .i64) t.2.2)]⟩ : St))) (fun (t : Int × (List Int)) => (Exit.ret, (⟨mkE 70 0 [], [some (.box [.dat (.list (.int .u8)) x3105, .dat (.int .i64) t.1]), some (.seq (.int .i64) t.2)]⟩ : St)))) := by
  refine Link.of fun K h => ?_
  simp only [spec_l20Fill_n1, wpO_bind, wpO_cond, wpO_map, wpO_some] at h
  exact Awp.of (by kernel_rfl) h

theorem spec_l20Fill_n2_l (n : Nat) (x3103 : Int) (x3178 : Int) (x3193 : Int) (x3105 : List Int) (x3194 : Int) (x3195 : List Int) : Link (spec_l20Fill_ctx n) LL (Code.fst (Code.fst (Code.fst (Code.snd (Code.snd (Code.snd (Code.snd (bodyOf Tryd.f85)))))))) (Ann.fst (Ann.fst (Ann.fst (Ann.snd (Ann.snd (Ann.snd (Ann.snd spec_l20Fill_an))))))) (⟨mkE 70 0 [(0, .ptr 0 0), (1, .slc 1), (3, .dat (.int .i64) x3103), (10, .dat (.int .i64) x3178), (11, .dat (.int .i64) x3193)], [some (.box [.dat (.list (.int .u8)) x3105, .dat (.int .i64) x3194]), some (.seq (.int .i64) x3195)]⟩ : St) (spec_l20Fill_n2 (spec_l20Fill_fuel n) x3178 x3193 x3105 x3194 x3195) (Sum.elim (fun (t : Int × Int × (List Int)) => (Exit.normal, (⟨mkE 70 0 [(0, .ptr 0 0), (1, .slc 1), (3, .dat (.int .i64) x3103), (10, .dat (.int .i64) x3178), (11, .dat (.int .i64) t.1)], [some (.box [.dat (.list (.int .u8)) x3105, .dat (.int .i64) t.2.1]), some (.seq (.int .i64) t.2.2)]⟩ : St))) (fun (t : Int × (List Int)) => ((Exit.exit 0), (⟨mkE 70 0 [(0, .ptr 0 0), (1, .slc 1), (3, .dat (.int .i64) x3103), (10, .dat (.int .i64) x3178)], [some (.box [.dat (.list (.int .u8)) x3105, .dat (.int .i64) t.1]), some (.seq (.int .i64) t.2)]⟩ : St)))) := by
  refine Link.of fun K h => ?_
  simp only [spec_l20Fill_n2, wpO_bind, wpO_cond, wpO_map, wpO_some] at h
  exact Awp.of (by kernel_rfl) h

theorem spec_l20Fill_n3_l (n : Nat) (x3103 : Int) (x3178 : Int) (x3102 : Int) (x3105 : List Int) (x3177 : Int) (x3181 : List Int) : Link (spec_l20Fill_ctx n) LL (Code.fst (Code.fst (Code.snd (Code.snd (Code.snd (Code.snd (bodyOf Tryd.f85))))))) (Ann.fst (Ann.fst (Ann.snd (Ann.snd (Ann.snd (Ann.snd spec_l20Fill_an)))))) (⟨mkE 70 0 [(0, .ptr 0 0), (1, .slc 1), (3, .dat (.int .i64) x3103), (10, .dat (.int .i64) x3178), (11, .dat (.int .i64) x3102)], [some (.box [.dat (.list (.int .u8)) x3105, .dat (.int .i64) x3177]), some (.seq (.int .i64) x3181)]⟩ : St) (spec_l20Fill_n3 (spec_l20Fill_fuel n) x3178 x3102 x3105 x3177 x3181) (fun (t : Int × (List Int)) => ((Exit.exit 0), (⟨mkE 70 0 [(0, .ptr 0 0), (1, .slc 1), (3, .dat (.int .i64) x3103), (10, .dat (.int .i64) x3178)], [some (.box [.dat (.list (.int .u8)) x3105, .dat (.int .i64) t.1]), some (.seq (.int .i64) t.2)]⟩ : St))) := by
  unfold spec_l20Fill_n3
  exact Link.cast (by kernel_rfl) (by kernel_rfl) (link_loop (mk := fun (s : Int × Int × (List Int)) => (⟨mkE 70 0 [(0, .ptr 0 0), (1, .slc 1), (3, .dat (.int .i64) x3103), (10, .dat (.int .i64) x3178), (11, .dat (.int .i64) s.1)], [some (.box [.dat (.list (.int .u8)) x3105, .dat (.int .i64) s.2.1]), some (.seq (.int .i64) s.2.2)]⟩ : St)) (fin := (fun (t : Int × (List Int)) => ((Exit.exit 0), (⟨mkE 70 0 [(0, .ptr 0 0), (1, .slc 1), (3, .dat (.int .i64) x3103), (10, .dat (.int .i64) x3178)], [some (.box [.dat (.list (.int .u8)) x3105, .dat (.int .i64) t.1]), some (.seq (.int .i64) t.2)]⟩ : St)))) (by
  rintro t f K h
  · exact h) (fun s => link_map (spec_l20Fill_n2_l n x3103 x3178 s.1 x3105 s.2.1 s.2.2) (Sum.elim (fun (t : Int × Int × (List Int)) => Sum.inl (t.1, t.2.1, t.2.2)) (fun (t : Int × (List Int)) => Sum.inr t)) (by
  rintro (t | t)
  · kernel_rfl
  · kernel_rfl)) (x3102, x3177, x3181))

theorem spec_l20Fill_n4_l (n : Nat) (x3103 : Int) (x3178 : Int) (x3102 : Int) (x3105 : List Int) (x3177 : Int) (x3181 : List Int) : Link (spec_l20Fill_ctx n) LL (Code.fst (Code.snd (Code.snd (Code.snd (Code.snd (bodyOf Tryd.f85)))))) (Ann.fst (Ann.snd (Ann.snd (Ann.snd (Ann.snd spec_l20Fill_an))))) (⟨mkE 70 0 [(0, .ptr 0 0), (1, .slc 1), (3, .dat (.int .i64) x3103), (10, .dat (.int .i64) x3178), (11, .dat (.int .i64) x3102)], [some (.box [.dat (.list (.int .u8)) x3105, .dat (.int .i64) x3177]), some (.seq (.int .i64) x3181)]⟩ : St) (spec_l20Fill_n4 (spec_l20Fill_fuel n) x3178 x3102 x3105 x3177 x3181) (fun (t : Int × (List Int)) => (Exit.normal, (⟨mkE 70 0 [(0, .ptr 0 0), (1, .slc 1), (3, .dat (.int .i64) x3103), (10, .dat (.int .i64) x3178)], [some (.box [.dat (.list (.int .u8)) x3105, .dat (.int .i64) t.1]), some (.seq (.int .i64) t.2)]⟩ : St))) := by
  unfold spec_l20Fill_n4
  exact Link.cast (by kernel_rfl) (by kernel_rfl) (link_block (id := 0) (spec_l20Fill_n3_l n x3103 x3178 x3102 x3105 x3177 x3181) (fun (t : Int × (List Int)) => (t.1, t.2)) (by
  rintro t K h
  · exact Eq.mp (by kernel_rfl) h))

theorem spec_l20Fill_n5_l (n : Nat) (x3103 : Int) (x3178 : Int) (x3105 : List Int) (x3194 : Int) (x3195 : List Int) : Link (spec_l20Fill_ctx n) LL (Code.fst (Code.snd (Code.snd (Code.snd (Code.snd (Code.snd (bodyOf Tryd.f85))))))) (Ann.fst (Ann.snd (Ann.snd (Ann.snd (Ann.snd (Ann.snd spec_l20Fill_an)))))) (⟨mkE 70 0 [(0, .ptr 0 0), (1, .slc 1), (3, .dat (.int .i64) x3103), (10, .dat (.int .i64) x3178)], [some (.box [.dat (.list (.int .u8)) x3105, .dat (.int .i64) x3194]), some (.seq (.int .i64) x3195)]⟩ : St) (spec_l20Fill_n5 (spec_l20Fill_fuel n) x3178) (fun (t : Int) => (Exit.normal, (⟨mkE 70 0 [(0, .ptr 0 0), (1, .slc 1), (3, .dat (.int .i64) x3103), (10, .dat (.int .i64) x3178), (11, .dat (.int .i64) t)], [some (.box [.dat (.list (.int .u8)) x3105, .dat (.int .i64) x3194]), some (.seq (.int .i64) x3195)]⟩ : St))) := by
  refine Link.of fun K h => ?_
  simp only [spec_l20Fill_n5, wpO_bind, wpO_cond, wpO_map, wpO_some] at h
  exact Awp.of (by kernel_rfl) h

theorem spec_l20Fill_n6_l (n : Nat) (x3103 : Int) (x3178 : Int) (x3220 : Int) (x3105 : List Int) (x3221 : Int) (x3222 : List Int) : Link (spec_l20Fill_ctx n) LL (Code.fst (Code.fst (Code.snd (Code.snd (Code.snd (Code.snd (Code.snd (Code.snd (bodyOf Tryd.f85))))))))) (Ann.fst (Ann.fst (Ann.snd (Ann.snd (Ann.snd (Ann.snd (Ann.snd (Ann.snd spec_l20Fill_an)))))))) (⟨mkE 70 0 [(0, .ptr 0 0), (1, .slc 1), (3, .dat (.int .i64) x3103), (10, .dat (.int .i64) x3178), (11, .dat (.int .i64) x3220)], [some (.box [.dat (.list (.int .u8)) x3105, .dat (.int .i64) x3221]), some (.seq (.int .i64) x3222)]⟩ : St) (spec_l20Fill_n6 (spec_l20Fill_fuel n) x3103 x3178 x3220 x3105 x3221 x3222) (Sum.elim (fun (t : Int × Int × (List Int)) => (Exit.normal, (⟨mkE 70 0 [(0, .ptr 0 0), (1, .slc 1), (3, .dat (.int .i64) x3103), (10, .dat (.int .i64) x3178), (11, .dat (.int .i64) t.1)], [some (.box [.dat (.list (.int .u8)) x3105, .dat (.int .i64) t.2.1]), some (.seq (.int .i64) t.2.2)]⟩ : St))) (fun (t : Int × (List Int)) => ((Exit.exit 2), (⟨mkE 70 0 [], [some (.box [.dat (.list (.int .u8)) x3105, .dat (.int .i64) t.1]), some (.seq (.int .i64) t.2)]⟩ : St)))) := by
  refine Link.of fun K h => ?_
  simp only [spec_l20Fill_n6, wpO_bind, wpO_cond, wpO_map, wpO_some] at h
  exact Awp.of (by kernel_rfl) h

theorem spec_l20Fill_n7_l (n : Nat) (x3103 : Int) (x3178 : Int) (x3207 : Int) (x3105 : List Int) (x3194 : Int) (x3195 : List Int) : Link (spec_l20Fill_ctx n) LL (Code.fst (Code.snd (Code.snd (Code.snd (Code.snd (Code.snd (Code.snd (bodyOf Tryd.f85)))))))) (Ann.fst (Ann.snd (Ann.snd (Ann.snd (Ann.snd (Ann.snd (Ann.snd spec_l20Fill_an))))))) (⟨mkE 70 0 [(0, .ptr 0 0), (1, .slc 1), (3, .dat (.int .i64) x3103), (10, .dat (.int .i64) x3178), (11, .dat (.int .i64) x3207)], [some (.box [.dat (.list (.int .u8)) x3105, .dat (.int .i64) x3194]), some (.seq (.int .i64) x3195)]⟩ : St) (spec_l20Fill_n7 (spec_l20Fill_fuel n) x3103 x3178 x3207 x3105 x3194 x3195) (fun (t : Int × (List Int)) => ((Exit.exit 2), (⟨mkE 70 0 [], [some (.box [.dat (.list (.int .u8)) x3105, .dat (.int .i64) t.1]), some (.seq (.int .i64) t.2)]⟩ : St))) := by
  unfold spec_l20Fill_n7
  exact Link.cast (by kernel_rfl) (by kernel_rfl) (link_loop (mk := fun (s : Int × Int × (List Int)) => (⟨mkE 70 0 [(0, .ptr 0 0), (1, .slc 1), (3, .dat (.int .i64) x3103), (10, .dat (.int .i64) x3178), (11, .dat (.int .i64) s.1)], [some (.box [.dat (.list (.int .u8)) x3105, .dat (.int .i64) s.2.1]), some (.seq (.int .i64) s.2.2)]⟩ : St)) (fin := (fun (t : Int × (List Int)) => ((Exit.exit 2), (⟨mkE 70 0 [], [some (.box [.dat (.list (.int .u8)) x3105, .dat (.int .i64) t.1]), some (.seq (.int .i64) t.2)]⟩ : St)))) (by
  rintro t f K h
  · exact h) (fun s => link_map (spec_l20Fill_n6_l n x3103 x3178 s.1 x3105 s.2.1 s.2.2) (Sum.elim (fun (t : Int × Int × (List Int)) => Sum.inl (t.1, t.2.1, t.2.2)) (fun (t : Int × (List Int)) => Sum.inr t)) (by
  rintro (t | t)
  · kernel_rfl
  · kernel_rfl)) (x3207, x3194, x3195))

theorem spec_l20Fill_n8_l (n : Nat) (x3103 : Int) (x3178 : Int) (x3207 : Int) (x3105 : List Int) (x3194 : Int) (x3195 : List Int) : Link (spec_l20Fill_ctx n) LL (Code.snd (Code.snd (Code.snd (Code.snd (Code.snd (Code.snd (bodyOf Tryd.f85))))))) (Ann.snd (Ann.snd (Ann.snd (Ann.snd (Ann.snd (Ann.snd spec_l20Fill_an)))))) (⟨mkE 70 0 [(0, .ptr 0 0), (1, .slc 1), (3, .dat (.int .i64) x3103), (10, .dat (.int .i64) x3178), (11, .dat (.int .i64) x3207)], [some (.box [.dat (.list (.int .u8)) x3105, .dat (.int .i64) x3194]), some (.seq (.int .i64) x3195)]⟩ : St) (spec_l20Fill_n8 (spec_l20Fill_fuel n) x3103 x3178 x3207 x3105 x3194 x3195) (fun (t : Int × (List Int)) => (Exit.normal, (⟨mkE 70 0 [], [some (.box [.dat (.list (.int .u8)) x3105, .dat (.int .i64) t.1]), some (.seq (.int .i64) t.2)]⟩ : St))) := by
  unfold spec_l20Fill_n8
  exact Link.cast (by kernel_rfl) (by kernel_rfl) (link_block (id := 2) (spec_l20Fill_n7_l n x3103 x3178 x3207 x3105 x3194 x3195) (fun (t : Int × (List Int)) => (t.1, t.2)) (by
  rintro t K h
  · exact Eq.mp (by kernel_rfl) h))

theorem spec_l20Fill_n9_l (n : Nat) (x3103 : Int) (x3178 : Int) (x3105 : List Int) (x3194 : Int) (x3195 : List Int) : Link (spec_l20Fill_ctx n) LL (Code.snd (Code.snd (Code.snd (Code.snd (Code.snd (bodyOf Tryd.f85)))))) (Ann.snd (Ann.snd (Ann.snd (Ann.snd (Ann.snd spec_l20Fill_an))))) (⟨mkE 70 0 [(0, .ptr 0 0), (1, .slc 1), (3, .dat (.int .i64) x3103), (10, .dat (.int .i64) x3178)], [some (.box [.dat (.list (.int .u8)) x3105, .dat (.int .i64) x3194]), some (.seq (.int .i64) x3195)]⟩ : St) (spec_l20Fill_n9 (spec_l20Fill_fuel n) x3103 x3178 x3105 x3194 x3195) (fun (t : Int × (List Int)) => (Exit.normal, (⟨mkE 70 0 [], [some (.box [.dat (.list (.int .u8)) x3105, .dat (.int .i64) t.1]), some (.seq (.int .i64) t.2)]⟩ : St))) := by
  unfold spec_l20Fill_n9
  exact Link.cast (by kernel_rfl) (by kernel_rfl) (link_seq (b := (Code.snd (Code.snd (Code.snd (Code.snd (Code.snd (Code.snd (bodyOf Tryd.f85)))))))) (y := (Ann.snd (Ann.snd (Ann.snd (Ann.snd (Ann.snd (Ann.snd spec_l20Fill_an))))))) (spec_l20Fill_n5_l n x3103 x3178 x3105 x3194 x3195) (fun (t : Int) => (spec_l20Fill_n8_l n x3103 x3178 t x3105 x3194 x3195)))

theorem spec_l20Fill_n10_l (n : Nat) (x3103 : Int) (x3178 : Int) (x3102 : Int) (x3105 : List Int) (x3177 : Int) (x3181 : List Int) : Link (spec_l20Fill_ctx n) LL (Code.snd (Code.snd (Code.snd (Code.snd (bodyOf Tryd.f85))))) (Ann.snd (Ann.snd (Ann.snd (Ann.snd spec_l20Fill_an)))) (⟨mkE 70 0 [(0, .ptr 0 0), (1, .slc 1), (3, .dat (.int .i64) x3103), (10, .dat (.int .i64) x3178), (11, .dat (.int .i64) x3102)], [some (.box [.dat (.list (.int .u8)) x3105, .dat (.int .i64) x3177]), some (.seq (.int .i64) x3181)]⟩ : St) (spec_l20Fill_n10 (spec_l20Fill_fuel n) x3103 x3178 x3102 x3105 x3177 x3181) (fun (t : Int × (List Int)) => (Exit.normal, (⟨mkE 70 0 [], [some (.box [.dat (.list (.int .u8)) x3105, .dat (.int .i64) t.1]), some (.seq (.int .i64) t.2)]⟩ : St))) := by
  unfold spec_l20Fill_n10
  exact Link.cast (by kernel_rfl) (by kernel_rfl) (link_seq (b := (Code.snd (Code.snd (Code.snd (Code.snd (Code.snd (bodyOf Tryd.f85))))))) (y := (Ann.snd (Ann.snd (Ann.snd (Ann.snd (Ann.snd spec_l20Fill_an)))))) (spec_l20Fill_n4_l n x3103 x3178 x3102 x3105 x3177 x3181) (fun (t : Int × (List Int)) => (spec_l20Fill_n9_l n x3103 x3178 x3105 t.1 t.2)))

theorem spec_l20Fill_n11_l (n : Nat) (x3102 : Int) (x3103 : Int) (x3104 : Int) (x3105 : List Int) (x3106 : Int) (x3107 : List Int) : Link (spec_l20Fill_ctx n) LL (bodyOf Tryd.f85) spec_l20Fill_an (⟨mkE 70 0 [(0, .ptr 0 0), (1, .slc 1), (2, .dat (.int .i64) x3102), (3, .dat (.int .i64) x3103), (4, .dat (.int .i64) x3104)], [some (.box [.dat (.list (.int .u8)) x3105, .dat (.int .i64) x3106]), some (.seq (.int .i64) x3107)]⟩ : St) (spec_l20Fill_n11 (spec_l20Fill_fuel n) x3102 x3103 x3104 x3105 x3106 x3107) (Sum.elim (fun (t : Int × (List Int)) => (Exit.normal, (⟨mkE 70 0 [], [some (.box [.dat (.list (.int .u8)) x3105, .dat (.int .i64) t.1]), some (.seq (.int .i64) t.2)]⟩ : St))) (fun (t : Int × (List Int)) => (Exit.ret, (⟨mkE 70 0 [], [some (.box [.dat (.list (.int .u8)) x3105, .dat (.int .i64) t.1]), some (.seq (.int .i64) t.2)]⟩ : St)))) := by
  unfold spec_l20Fill_n11
  exact Link.cast (by kernel_rfl) (by kernel_rfl) (link_group (c := (Code.fst (Code.snd (Code.snd (Code.snd (bodyOf Tryd.f85)))))) (a := (Ann.fst (Ann.snd (Ann.snd (Ann.snd spec_l20Fill_an))))) [(Code.fst (bodyOf Tryd.f85)), (Code.fst (Code.snd (bodyOf Tryd.f85))), (Code.fst (Code.snd (Code.snd (bodyOf Tryd.f85))))] [(Ann.fst spec_l20Fill_an), (Ann.fst (Ann.snd spec_l20Fill_an)), (Ann.fst (Ann.snd (Ann.snd spec_l20Fill_an)))] rfl (link_seq2 (b := (Code.snd (Code.snd (Code.snd (Code.snd (bodyOf Tryd.f85)))))) (y := (Ann.snd (Ann.snd (Ann.snd (Ann.snd spec_l20Fill_an))))) (spec_l20Fill_n1_l n x3102 x3103 x3104 x3105 x3106 x3107) (fun (t : Int × Int × (List Int)) => (link_map (spec_l20Fill_n10_l n x3103 t.1 x3102 x3105 t.2.1 t.2.2) (fun (u : Int × (List Int)) => (Sum.inl (u.1, u.2))) (by
  rintro t
  · kernel_rfl))) (fun (t : Int × (List Int)) => (Sum.inr t)) (by
  rintro t
  · kernel_rfl) (by
  rintro t f K h
  · exact h)))

theorem spec_l20Fill_e (n : Nat) (x3102 : Int) (x3103 : Int) (x3104 : Int) (x3105 : List Int) (x3106 : Int) (x3107 : List Int) {r : AV} {H' : Heap} (h : (Ans.mk _ (spec_l20Fill_fuel (n + 1) x3102 x3103 x3104 x3105 x3106 x3107) (fun (t : Int × (List Int)) => (.tup [], [some (.box [.dat (.list (.int .u8)) x3105, .dat (.int .i64) t.1]), some (.seq (.int .i64) t.2)]))).run = some (r, H')) : Awp (spec_l20Fill_ctx n) LL (bodyOf Tryd.f85) spec_l20Fill_an (⟨mkE 70 0 [(0, .ptr 0 0), (1, .slc 1), (2, .dat (.int .i64) x3102), (3, .dat (.int .i64) x3103), (4, .dat (.int .i64) x3104)], [some (.box [.dat (.list (.int .u8)) x3105, .dat (.int .i64) x3106]), some (.seq (.int .i64) x3107)]⟩ : St) (Ret (tlook tys) Tryd.f85.results.toList r H') :=
  ret_of (spec_l20Fill_n11_l n x3102 x3103 x3104 x3105 x3106 x3107) (Sum.elim (fun (t : Int × (List Int)) => (t.1, t.2)) (fun (t : Int × (List Int)) => t)) (by (show _ = _); kernel_rfl) (by
  rintro (t | t)
  · exact ret_mk [] (by kernel_rfl) (by kernel_rfl) (by kernel_rfl) (by kernel_rfl)
  · exact ret_mk [] (by kernel_rfl) (by kernel_rfl) (by kernel_rfl) (by kernel_rfl)) h

theorem spec_l20Fill_step (n : Nat) (h85 : Sound Tryd.prog 85 (F_spec_l20Fill_fuel n)) : Sound Tryd.prog 85 (F_spec_l20Fill_fuel (n + 1)) := by
  refine fn_sound' (C := spec_l20Fill_ctx n) (c := bodyOf Tryd.f85) (cok_of tys_ok (List.forall_mem_cons.2 ⟨spec_l20Rd_pick_sound, List.forall_mem_cons.2 ⟨h85, by simp⟩⟩) (List.forall_mem_cons.2 ⟨Tryd.call63, List.forall_mem_cons.2 ⟨Tryd.call85, by simp⟩⟩) (by kernel_rfl)) Tryd.func85 (by kernel_rfl) LL spec_l20Fill_an ?_
  intro avs H r H' h
  unfold F_spec_l20Fill_fuel at h
  split at h
  · refine Awp.cast ?_ ?_ ?_ (spec_l20Fill_e n _ _ _ _ _ _ h) <;> kernel_rfl
  · simp [Ans.no, Ans.run] at h

theorem spec_l20Fill_null : Sound Tryd.prog 85 (F_spec_l20Fill_fuel 0) := by
  intro avs H r H' h
  unfold F_spec_l20Fill_fuel at h
  split at h
  · simp [spec_l20Fill_fuel, spec_l20Fill_knot, Ans.run] at h
  · simp [Ans.no, Ans.run] at h

theorem spec_l20Fill_knot_all : ∀ n, Sound Tryd.prog 85 (F_spec_l20Fill_fuel n)
  | 0 => spec_l20Fill_null
  | n + 1 => by
    have h85 := spec_l20Fill_knot_all n
    exact spec_l20Fill_step n h85

def F_spec_l20Fill : Fun := fun avs H =>
  match avs, H with
  | [.ptr 0 0, .slc 1, .dat (.int .i64) x3102, .dat (.int .i64) x3103, .dat (.int .i64) x3104], [some (.box [.dat (.list (.int .u8)) x3105, .dat (.int .i64) x3106]), some (.seq (.int .i64) x3107)] => ⟨_, spec_l20Fill x3102 x3103 x3104 x3105 x3106 x3107, fun (t : Int × (List Int)) => (.tup [], [some (.box [.dat (.list (.int .u8)) x3105, .dat (.int .i64) t.1]), some (.seq (.int .i64) t.2)])⟩
  | _, _ => Ans.no

theorem spec_l20Fill_sound : Sound Tryd.prog 85 F_spec_l20Fill := by
  have e : F_spec_l20Fill = F_spec_l20Fill_fuel RR := by
    funext avs H
    unfold F_spec_l20Fill F_spec_l20Fill_fuel
    split <;> first | rfl | (simp only [spec_l20Fill])
  rw [e]
  exact (spec_l20Fill_knot_all RR)

/-! loop.example/headtrees/spec.l20Flat -/

def spec_l20Flat_an : Ann := (.seq (.leaf [0, 1]) (.seq (.seq (.leaf [0, 1, 9]) (.cond (.seq (.leaf [4]) (.leaf [4])) (.leaf [0]))) (.seq (.leaf [0, 5]) (.seq (.leaf [0, 5, 6]) (.seq (.leaf [6]) (.seq (.leaf [4]) (.leaf [4])))))))

noncomputable def spec_l20Flat_ctx : Ctx := ⟨tlook tys, olook [(63, F_spec_l20Rd_pick), (81, F_spec_l20Tree), (85, F_spec_l20Fill)], ioF, 1⟩

theorem spec_l20Flat_n1_l (x3055 : Int) (x3056 : List Int) (x3057 : Int) : Link spec_l20Flat_ctx LL (bodyOf Tryd.f68) spec_l20Flat_an (⟨mkE 23 0 [(0, .ptr 0 0), (1, .dat (.int .i64) x3055)], [some (.box [.dat (.list (.int .u8)) x3056, .dat (.int .i64) x3057])]⟩ : St) (spec_l20Flat_n1 x3055 x3056 x3057) (fun (t : Int × (List Int)) => (Exit.ret, (⟨mkE 23 0 [(4, .slc 1)], [some (.box [.dat (.list (.int .u8)) x3056, .dat (.int .i64) t.1]), some (.seq (.int .i64) t.2)]⟩ : St))) := by
  refine Link.of fun K h => ?_
  simp only [spec_l20Flat_n1, wpO_bind, wpO_cond, wpO_map, wpO_some] at h
  exact Awp.of (by kernel_rfl) h

theorem spec_l20Flat_e (x3055 : Int) (x3056 : List Int) (x3057 : Int) {r : AV} {H' : Heap} (h : (Ans.mk _ (spec_l20Flat x3055 x3056 x3057) (fun (t : Int × (List Int)) => (.slc 1, [some (.box [.dat (.list (.int .u8)) x3056, .dat (.int .i64) t.1]), some (.seq (.int .i64) t.2)]))).run = some (r, H')) : Awp spec_l20Flat_ctx LL (bodyOf Tryd.f68) spec_l20Flat_an (⟨mkE 23 0 [(0, .ptr 0 0), (1, .dat (.int .i64) x3055)], [some (.box [.dat (.list (.int .u8)) x3056, .dat (.int .i64) x3057])]⟩ : St) (Ret (tlook tys) Tryd.f68.results.toList r H') :=
  ret_of' (spec_l20Flat_n1_l x3055 x3056 x3057) (by unfold spec_l20Flat; kernel_rfl) (by
  intro t
  exact ret_mk [.slc 1] (by kernel_rfl) (by kernel_rfl) (by kernel_rfl) (by kernel_rfl)) h

def F_spec_l20Flat : Fun := fun avs H =>
  match avs, H with
  | [.ptr 0 0, .dat (.int .i64) x3055], [some (.box [.dat (.list (.int .u8)) x3056, .dat (.int .i64) x3057])] => ⟨_, spec_l20Flat x3055 x3056 x3057, fun (t : Int × (List Int)) => (.slc 1, [some (.box [.dat (.list (.int .u8)) x3056, .dat (.int .i64) t.1]), some (.seq (.int .i64) t.2)])⟩
  | _, _ => Ans.no

theorem spec_l20Flat_sound : Sound Tryd.prog 68 F_spec_l20Flat := by
  refine fn_sound' (C := spec_l20Flat_ctx) (c := bodyOf Tryd.f68) (cok_of tys_ok (List.forall_mem_cons.2 ⟨spec_l20Rd_pick_sound, List.forall_mem_cons.2 ⟨spec_l20Tree_sound, List.forall_mem_cons.2 ⟨spec_l20Fill_sound, by simp⟩⟩⟩) (List.forall_mem_cons.2 ⟨Tryd.call63, List.forall_mem_cons.2 ⟨Tryd.call81, List.forall_mem_cons.2 ⟨Tryd.call85, by simp⟩⟩⟩) (by kernel_rfl)) Tryd.func68 (by kernel_rfl) LL spec_l20Flat_an ?_
  intro avs H r H' h
  unfold F_spec_l20Flat at h
  split at h
  · refine Awp.cast ?_ ?_ ?_ (spec_l20Flat_e _ _ _ h) <;> kernel_rfl
  · simp [Ans.no, Ans.run] at h

/-! loop.example/headtrees/spec.DrawCrossingsOf -/

def spec_DrawCrossingsOf_an : Ann := (.seq (.leaf [0]) (.seq (.leaf [2]) (.leaf [2])))

noncomputable def spec_DrawCrossingsOf_ctx : Ctx := ⟨tlook tys, olook [(54, F_spec_l20Open), (68, F_spec_l20Flat)], ioF, 0⟩

theorem spec_DrawCrossingsOf_n1_l (x3053 : List Int) : Link spec_DrawCrossingsOf_ctx LL (bodyOf Tryd.f37) spec_DrawCrossingsOf_an (⟨mkE 6 0 [(0, .dat (.list (.int .u8)) x3053)], []⟩ : St) (spec_DrawCrossingsOf_n1 x3053) (fun (t : (List Int)) => (Exit.ret, (⟨mkE 6 0 [(2, .slc 0)], [some (.seq (.int .i64) t)]⟩ : St))) := by
  refine Link.of fun K h => ?_
  simp only [spec_DrawCrossingsOf_n1, wpO_bind, wpO_cond, wpO_map, wpO_some] at h
  exact Awp.of (by kernel_rfl) h

theorem spec_DrawCrossingsOf_e (x3053 : List Int) {r : AV} {H' : Heap} (h : (Ans.mk _ (spec_DrawCrossingsOf x3053) (fun (t : (List Int)) => (.slc 0, [some (.seq (.int .i64) t)]))).run = some (r, H')) : Awp spec_DrawCrossingsOf_ctx LL (bodyOf Tryd.f37) spec_DrawCrossingsOf_an (⟨mkE 6 0 [(0, .dat (.list (.int .u8)) x3053)], []⟩ : St) (Ret (tlook tys) Tryd.f37.results.toList r H') :=
  ret_of' (spec_DrawCrossingsOf_n1_l x3053) (by unfold spec_DrawCrossingsOf; kernel_rfl) (by
  intro t
  exact ret_mk [.slc 0] (by kernel_rfl) (by kernel_rfl) (by kernel_rfl) (by kernel_rfl)) h

def F_spec_DrawCrossingsOf : Fun := fun avs H =>
  match avs, H with
  | [.dat (.list (.int .u8)) x3053], [] => ⟨_, spec_DrawCrossingsOf x3053, fun (t : (List Int)) => (.slc 0, [some (.seq (.int .i64) t)])⟩
  | _, _ => Ans.no

theorem spec_DrawCrossingsOf_sound : Sound Tryd.prog 37 F_spec_DrawCrossingsOf := by
  refine fn_sound' (C := spec_DrawCrossingsOf_ctx) (c := bodyOf Tryd.f37) (cok_of tys_ok (List.forall_mem_cons.2 ⟨spec_l20Open_sound, List.forall_mem_cons.2 ⟨spec_l20Flat_sound, by simp⟩⟩) (List.forall_mem_cons.2 ⟨Tryd.call54, List.forall_mem_cons.2 ⟨Tryd.call68, by simp⟩⟩) (by kernel_rfl)) Tryd.func37 (by kernel_rfl) LL spec_DrawCrossingsOf_an ?_
  intro avs H r H' h
  unfold F_spec_DrawCrossingsOf at h
  split at h
  · refine Awp.cast ?_ ?_ ?_ (spec_DrawCrossingsOf_e _ h) <;> kernel_rfl
  · simp [Ans.no, Ans.run] at h

/-! loop.example/headtrees/spec.DrawFlatOk -/

def spec_DrawFlatOk_an : Ann := (.seq (.leaf [0]) (.seq (.leaf [2]) (.leaf [2])))

noncomputable def spec_DrawFlatOk_ctx : Ctx := ⟨tlook tys, olook [(54, F_spec_l20Open), (68, F_spec_l20Flat)], ioF, 0⟩

theorem spec_DrawFlatOk_n1_l (x3299 : List Int) : Link spec_DrawFlatOk_ctx LL (bodyOf Tryd.f43) spec_DrawFlatOk_an (⟨mkE 6 0 [(0, .dat (.list (.int .u8)) x3299)], []⟩ : St) (spec_DrawFlatOk_n1 x3299) (fun (t : (List Int)) => (Exit.ret, (⟨mkE 6 0 [(2, .slc 0)], [some (.seq (.int .i64) t)]⟩ : St))) := by
  refine Link.of fun K h => ?_
  simp only [spec_DrawFlatOk_n1, wpO_bind, wpO_cond, wpO_map, wpO_some] at h
  exact Awp.of (by kernel_rfl) h

theorem spec_DrawFlatOk_e (x3299 : List Int) {r : AV} {H' : Heap} (h : (Ans.mk _ (spec_DrawFlatOk x3299) (fun (t : (List Int)) => (.slc 0, [some (.seq (.int .i64) t)]))).run = some (r, H')) : Awp spec_DrawFlatOk_ctx LL (bodyOf Tryd.f43) spec_DrawFlatOk_an (⟨mkE 6 0 [(0, .dat (.list (.int .u8)) x3299)], []⟩ : St) (Ret (tlook tys) Tryd.f43.results.toList r H') :=
  ret_of' (spec_DrawFlatOk_n1_l x3299) (by unfold spec_DrawFlatOk; kernel_rfl) (by
  intro t
  exact ret_mk [.slc 0] (by kernel_rfl) (by kernel_rfl) (by kernel_rfl) (by kernel_rfl)) h

def F_spec_DrawFlatOk : Fun := fun avs H =>
  match avs, H with
  | [.dat (.list (.int .u8)) x3299], [] => ⟨_, spec_DrawFlatOk x3299, fun (t : (List Int)) => (.slc 0, [some (.seq (.int .i64) t)])⟩
  | _, _ => Ans.no

theorem spec_DrawFlatOk_sound : Sound Tryd.prog 43 F_spec_DrawFlatOk := by
  refine fn_sound' (C := spec_DrawFlatOk_ctx) (c := bodyOf Tryd.f43) (cok_of tys_ok (List.forall_mem_cons.2 ⟨spec_l20Open_sound, List.forall_mem_cons.2 ⟨spec_l20Flat_sound, by simp⟩⟩) (List.forall_mem_cons.2 ⟨Tryd.call54, List.forall_mem_cons.2 ⟨Tryd.call68, by simp⟩⟩) (by kernel_rfl)) Tryd.func43 (by kernel_rfl) LL spec_DrawFlatOk_an ?_
  intro avs H r H' h
  unfold F_spec_DrawFlatOk at h
  split at h
  · refine Awp.cast ?_ ?_ ?_ (spec_DrawFlatOk_e _ h) <;> kernel_rfl
  · simp [Ans.no, Ans.run] at h

/-! (loop.example/headtrees/impl.wordSet).isRow -/

def impl_wordSet_isRow_an : Ann := (.seq (.leaf [0]) (.seq (.leaf [0, 3]) (.seq (.leaf [2]) (.leaf [2]))))

noncomputable def impl_wordSet_isRow_ctx : Ctx := ⟨tlook tys, olook [], ioF, 0⟩

theorem impl_wordSet_isRow_n1_l (x3322 : Int) : Link impl_wordSet_isRow_ctx LL (bodyOf Tryd.f76) impl_wordSet_isRow_an (⟨mkE 14 0 [(0, .dat (.int .u64) x3322)], []⟩ : St) (impl_wordSet_isRow_n1 x3322) (fun (t : Bool) => (Exit.ret, (⟨mkE 14 0 [(2, .dat .bool t)], []⟩ : St))) := by
  refine Link.of fun K h => ?_
  simp only [impl_wordSet_isRow_n1, wpO_bind, wpO_cond, wpO_map, wpO_some] at h
  exact Awp.of (by kernel_rfl) h

theorem impl_wordSet_isRow_e (x3322 : Int) {r : AV} {H' : Heap} (h : (Ans.mk _ (impl_wordSet_isRow x3322) (fun (t : Bool) => (.dat .bool t, []))).run = some (r, H')) : Awp impl_wordSet_isRow_ctx LL (bodyOf Tryd.f76) impl_wordSet_isRow_an (⟨mkE 14 0 [(0, .dat (.int .u64) x3322)], []⟩ : St) (Ret (tlook tys) Tryd.f76.results.toList r H') :=
  ret_of' (impl_wordSet_isRow_n1_l x3322) (by unfold impl_wordSet_isRow; kernel_rfl) (by
  intro t
  exact ret_mk [.dat .bool t] (by kernel_rfl) (by kernel_rfl) (by kernel_rfl) (by kernel_rfl)) h

def F_impl_wordSet_isRow : Fun := fun avs H =>
  match avs, H with
  | [.dat (.int .u64) x3322], [] => ⟨_, impl_wordSet_isRow x3322, fun (t : Bool) => (.dat .bool t, [])⟩
  | _, _ => Ans.no

theorem impl_wordSet_isRow_sound : Sound Tryd.prog 76 F_impl_wordSet_isRow := by
  refine fn_sound' (C := impl_wordSet_isRow_ctx) (c := bodyOf Tryd.f76) (cok_of tys_ok (by simp) (by simp) (by kernel_rfl)) Tryd.func76 (by kernel_rfl) LL impl_wordSet_isRow_an ?_
  intro avs H r H' h
  unfold F_impl_wordSet_isRow at h
  split at h
  · refine Awp.cast ?_ ?_ ?_ (impl_wordSet_isRow_e _ h) <;> kernel_rfl
  · simp [Ans.no, Ans.run] at h

/-! loop.example/headtrees/impl.FlatOk -/

def impl_FlatOk_an : Ann := (.seq (.leaf [0]) (.seq (.seq (.leaf [0, 7]) (.cond (.seq (.leaf [2]) (.leaf [2])) (.leaf [0]))) (.seq (.seq (.leaf [9, 10, 11]) (.block (.loop (.seq (.leaf [9, 10, 11, 12]) (.seq (.cond (.leaf [9, 10, 11]) (.leaf [])) (.seq (.block (.seq (.leaf [4, 9, 10, 11]) (.seq (.leaf [9, 10, 11, 17]) (.cond (.seq (.leaf [2]) (.leaf [2])) (.leaf [9, 10, 11]))))) (.leaf [9, 10, 11]))))))) (.seq (.leaf [2]) (.leaf [2])))))

noncomputable def impl_FlatOk_ctx : Ctx := ⟨tlook tys, olook [(40, F_impl_TreeOk), (56, F_impl_yieldsOf), (76, F_impl_wordSet_isRow)], ioF, 0⟩

theorem impl_FlatOk_n1_l (x3312 : List Int) : Link impl_FlatOk_ctx LL (Code.seq (Code.fst (bodyOf Tryd.f41)) (Code.fst (Code.snd (bodyOf Tryd.f41)))) (Ann.seq (Ann.fst impl_FlatOk_an) (Ann.fst (Ann.snd impl_FlatOk_an))) (⟨mkE 19 0 [(0, .dat (.list (.int .i64)) x3312)], []⟩ : St) (impl_FlatOk_n1 x3312) (Sum.elim (fun (t : Unit) => (Exit.normal, (⟨mkE 19 0 [(0, .dat (.list (.int .i64)) x3312)], []⟩ : St))) (fun (t : Bool) => (Exit.ret, (⟨mkE 19 0 [(2, .dat .bool t)], []⟩ : St)))) := by
  refine Link.of fun K h => ?_
  simp only [impl_FlatOk_n1, wpO_bind, wpO_cond, wpO_map, wpO_some] at h
  exact Awp.of (by kernel_rfl) h

theorem impl_FlatOk_n2_l (x3312 : List Int) : Link impl_FlatOk_ctx LL (Code.fst (Code.fst (Code.snd (Code.snd (bodyOf Tryd.f41))))) (Ann.fst (Ann.fst (Ann.snd (Ann.snd impl_FlatOk_an)))) (⟨mkE 19 0 [(0, .dat (.list (.int .i64)) x3312)], []⟩ : St) (impl_FlatOk_n2 x3312) (fun (t : Int × (List Int)) => (Exit.normal, (⟨mkE 19 0 [(9, .slc 0), (10, .dat (.int .i64) t.1), (11, .dat (.int .i64) 0)], [some (.seq (.int .u64) t.2)]⟩ : St))) := by
  refine Link.of fun K h => ?_
  simp only [impl_FlatOk_n2, wpO_bind, wpO_cond, wpO_map, wpO_some] at h
  exact Awp.of (by kernel_rfl) h

theorem impl_FlatOk_n3_l (x3316 : Int) (x3343 : Int) (x3315 : List Int) : Link impl_FlatOk_ctx LL (Code.fst (Code.fst (Code.snd (Code.fst (Code.snd (Code.snd (bodyOf Tryd.f41))))))) (Ann.fst (Ann.fst (Ann.snd (Ann.fst (Ann.snd (Ann.snd impl_FlatOk_an)))))) (⟨mkE 19 0 [(9, .slc 0), (10, .dat (.int .i64) x3316), (11, .dat (.int .i64) x3343)], [some (.seq (.int .u64) x3315)]⟩ : St) (impl_FlatOk_n3 x3316 x3343 x3315) (Sum.elim (fun (t : Int) => (Exit.normal, (⟨mkE 19 0 [(9, .slc 0), (10, .dat (.int .i64) x3316), (11, .dat (.int .i64) t)], [some (.seq (.int .u64) x3315)]⟩ : St))) (Sum.elim (fun (t : Bool) => (Exit.ret, (⟨mkE 19 0 [(2, .dat .bool t)], []⟩ : St))) (fun (t : Unit) => ((Exit.exit 0), (⟨mkE 19 0 [], []⟩ : St))))) := by
  refine Link.of fun K h => ?_
  simp only [impl_FlatOk_n3, wpO_bind, wpO_cond, wpO_map, wpO_some] at h
  exact Awp.of (by kernel_rfl) h

theorem impl_FlatOk_n4_l (x3316 : Int) (x3315 : List Int) : Link impl_FlatOk_ctx LL (Code.fst (Code.snd (Code.fst (Code.snd (Code.snd (bodyOf Tryd.f41)))))) (Ann.fst (Ann.snd (Ann.fst (Ann.snd (Ann.snd impl_FlatOk_an))))) (⟨mkE 19 0 [(9, .slc 0), (10, .dat (.int .i64) x3316), (11, .dat (.int .i64) 0)], [some (.seq (.int .u64) x3315)]⟩ : St) (impl_FlatOk_n4 x3316 x3315) (Sum.elim (fun (t : Bool) => (Exit.ret, (⟨mkE 19 0 [(2, .dat .bool t)], []⟩ : St))) (fun (t : Unit) => ((Exit.exit 0), (⟨mkE 19 0 [], []⟩ : St)))) := by
  unfold impl_FlatOk_n4
  exact Link.cast (by kernel_rfl) (by kernel_rfl) (link_loop (mk := fun (s : Int) => (⟨mkE 19 0 [(9, .slc 0), (10, .dat (.int .i64) x3316), (11, .dat (.int .i64) s)], [some (.seq (.int .u64) x3315)]⟩ : St)) (fin := (Sum.elim (fun (t : Bool) => (Exit.ret, (⟨mkE 19 0 [(2, .dat .bool t)], []⟩ : St))) (fun (t : Unit) => ((Exit.exit 0), (⟨mkE 19 0 [], []⟩ : St))))) (by
  rintro (t | t) f K h
  · exact h
  · exact h) (fun s => link_map (impl_FlatOk_n3_l x3316 s x3315) (Sum.elim (fun (t : Int) => Sum.inl t) (Sum.elim (fun (t : Bool) => Sum.inr (Sum.inl t)) (fun (t : Unit) => Sum.inr (Sum.inr t)))) (by
  rintro (t | t | t)
  · kernel_rfl
  · kernel_rfl
  · kernel_rfl)) 0)

theorem impl_FlatOk_n5_l (x3316 : Int) (x3315 : List Int) : Link impl_FlatOk_ctx LL (Code.snd (Code.fst (Code.snd (Code.snd (bodyOf Tryd.f41))))) (Ann.snd (Ann.fst (Ann.snd (Ann.snd impl_FlatOk_an)))) (⟨mkE 19 0 [(9, .slc 0), (10, .dat (.int .i64) x3316), (11, .dat (.int .i64) 0)], [some (.seq (.int .u64) x3315)]⟩ : St) (impl_FlatOk_n5 x3316 x3315) (Sum.elim (fun (t : Unit) => (Exit.normal, (⟨mkE 19 0 [], []⟩ : St))) (fun (t : Bool) => (Exit.ret, (⟨mkE 19 0 [(2, .dat .bool t)], []⟩ : St)))) := by
  unfold impl_FlatOk_n5
  exact Link.cast (by kernel_rfl) (by kernel_rfl) (link_block (id := 0) (impl_FlatOk_n4_l x3316 x3315) (Sum.elim (fun (t : Bool) => (Sum.inr t)) (fun (t : Unit) => (Sum.inl ()))) (by
  rintro (t | t) K h
  · exact Eq.mp (by kernel_rfl) h
  · exact Eq.mp (by kernel_rfl) h))

theorem impl_FlatOk_n6_l (x3312 : List Int) : Link impl_FlatOk_ctx LL (Code.fst (Code.snd (Code.snd (bodyOf Tryd.f41)))) (Ann.fst (Ann.snd (Ann.snd impl_FlatOk_an))) (⟨mkE 19 0 [(0, .dat (.list (.int .i64)) x3312)], []⟩ : St) (impl_FlatOk_n6 x3312) (Sum.elim (fun (t : Unit) => (Exit.normal, (⟨mkE 19 0 [], []⟩ : St))) (fun (t : Bool) => (Exit.ret, (⟨mkE 19 0 [(2, .dat .bool t)], []⟩ : St)))) := by
  unfold impl_FlatOk_n6
  exact Link.cast (by kernel_rfl) (by kernel_rfl) (link_seq (b := (Code.snd (Code.fst (Code.snd (Code.snd (bodyOf Tryd.f41)))))) (y := (Ann.snd (Ann.fst (Ann.snd (Ann.snd impl_FlatOk_an))))) (impl_FlatOk_n2_l x3312) (fun (t : Int × (List Int)) => (impl_FlatOk_n5_l t.1 t.2)))

theorem impl_FlatOk_n7_l : Link impl_FlatOk_ctx LL (Code.snd (Code.snd (Code.snd (bodyOf Tryd.f41)))) (Ann.snd (Ann.snd (Ann.snd impl_FlatOk_an))) (⟨mkE 19 0 [], []⟩ : St) (impl_FlatOk_n7) (fun (t : Bool) => (Exit.ret, (⟨mkE 19 0 [(2, .dat .bool t)], []⟩ : St))) := by
  refine Link.of fun K h => ?_
  simp only [impl_FlatOk_n7, wpO_bind, wpO_cond, wpO_map, wpO_some] at h
  exact Awp.of (by kernel_rfl) h

theorem impl_FlatOk_n8_l (x3312 : List Int) : Link impl_FlatOk_ctx LL (Code.snd (Code.snd (bodyOf Tryd.f41))) (Ann.snd (Ann.snd impl_FlatOk_an)) (⟨mkE 19 0 [(0, .dat (.list (.int .i64)) x3312)], []⟩ : St) (impl_FlatOk_n8 x3312) (fun (t : Bool) => (Exit.ret, (⟨mkE 19 0 [(2, .dat .bool t)], []⟩ : St))) := by
  unfold impl_FlatOk_n8
  exact Link.cast (by kernel_rfl) (by kernel_rfl) (link_seq2 (b := (Code.snd (Code.snd (Code.snd (bodyOf Tryd.f41))))) (y := (Ann.snd (Ann.snd (Ann.snd impl_FlatOk_an)))) (impl_FlatOk_n6_l x3312) (fun (t : Unit) => (impl_FlatOk_n7_l)) (fun (t : Bool) => t) (by
  rintro t
  · kernel_rfl) (by
  rintro t f K h
  · exact h))

theorem impl_FlatOk_n9_l (x3312 : List Int) : Link impl_FlatOk_ctx LL (bodyOf Tryd.f41) impl_FlatOk_an (⟨mkE 19 0 [(0, .dat (.list (.int .i64)) x3312)], []⟩ : St) (impl_FlatOk_n9 x3312) (fun (t : Bool) => (Exit.ret, (⟨mkE 19 0 [(2, .dat .bool t)], []⟩ : St))) := by
  unfold impl_FlatOk_n9
  exact Link.cast (by kernel_rfl) (by kernel_rfl) (link_group (c := (Code.fst (Code.snd (bodyOf Tryd.f41)))) (a := (Ann.fst (Ann.snd impl_FlatOk_an))) [(Code.fst (bodyOf Tryd.f41))] [(Ann.fst impl_FlatOk_an)] rfl (link_seq2 (b := (Code.snd (Code.snd (bodyOf Tryd.f41)))) (y := (Ann.snd (Ann.snd impl_FlatOk_an))) (impl_FlatOk_n1_l x3312) (fun (t : Unit) => (impl_FlatOk_n8_l x3312)) (fun (t : Bool) => t) (by
  rintro t
  · kernel_rfl) (by
  rintro t f K h
  · exact h)))

theorem impl_FlatOk_e (x3312 : List Int) {r : AV} {H' : Heap} (h : (Ans.mk _ (impl_FlatOk x3312) (fun (t : Bool) => (.dat .bool t, []))).run = some (r, H')) : Awp impl_FlatOk_ctx LL (bodyOf Tryd.f41) impl_FlatOk_an (⟨mkE 19 0 [(0, .dat (.list (.int .i64)) x3312)], []⟩ : St) (Ret (tlook tys) Tryd.f41.results.toList r H') :=
  ret_of' (impl_FlatOk_n9_l x3312) (by unfold impl_FlatOk; kernel_rfl) (by
  intro t
  exact ret_mk [.dat .bool t] (by kernel_rfl) (by kernel_rfl) (by kernel_rfl) (by kernel_rfl)) h

def F_impl_FlatOk : Fun := fun avs H =>
  match avs, H with
  | [.dat (.list (.int .i64)) x3312], [] => ⟨_, impl_FlatOk x3312, fun (t : Bool) => (.dat .bool t, [])⟩
  | _, _ => Ans.no

theorem impl_FlatOk_sound : Sound Tryd.prog 41 F_impl_FlatOk := by
  refine fn_sound' (C := impl_FlatOk_ctx) (c := bodyOf Tryd.f41) (cok_of tys_ok (List.forall_mem_cons.2 ⟨impl_TreeOk_sound, List.forall_mem_cons.2 ⟨impl_yieldsOf_sound, List.forall_mem_cons.2 ⟨impl_wordSet_isRow_sound, by simp⟩⟩⟩) (List.forall_mem_cons.2 ⟨Tryd.call40, List.forall_mem_cons.2 ⟨Tryd.call56, List.forall_mem_cons.2 ⟨Tryd.call76, by simp⟩⟩⟩) (by kernel_rfl)) Tryd.func41 (by kernel_rfl) LL impl_FlatOk_an ?_
  intro avs H r H' h
  unfold F_impl_FlatOk at h
  split at h
  · refine Awp.cast ?_ ?_ ?_ (impl_FlatOk_e _ h) <;> kernel_rfl
  · simp [Ans.no, Ans.run] at h

/-! loop.example/headtrees/spec.l3Row -/

def spec_l3Row_an : Ann := (.seq (.leaf [0]) (.seq (.block (.loop (.seq (.seq (.leaf [0, 5]) (.cond (.leaf [0]) (.leaf [0]))) (.block (.leaf [0]))))) (.seq (.leaf [2]) (.leaf [2]))))

noncomputable def spec_l3Row_ctx : Ctx := ⟨tlook tys, olook [], ioF, 0⟩

theorem spec_l3Row_n1_l (x3371 : Int) : Link spec_l3Row_ctx LL (Code.fst (bodyOf Tryd.f79)) (Ann.fst spec_l3Row_an) (⟨mkE 13 0 [(0, .dat (.int .i64) x3371)], []⟩ : St) (spec_l3Row_n1) (fun (t : Unit) => (Exit.normal, (⟨mkE 13 0 [(0, .dat (.int .i64) x3371)], []⟩ : St))) := by
  refine Link.of fun K h => ?_
  simp only [spec_l3Row_n1, wpO_bind, wpO_cond, wpO_map, wpO_some] at h
  exact Awp.of (by kernel_rfl) h

theorem spec_l3Row_n2_l (x3377 : Int) : Link spec_l3Row_ctx LL (Code.fst (Code.fst (Code.fst (Code.snd (bodyOf Tryd.f79))))) (Ann.fst (Ann.fst (Ann.fst (Ann.snd spec_l3Row_an)))) (⟨mkE 13 0 [(0, .dat (.int .i64) x3377)], []⟩ : St) (spec_l3Row_n2 x3377) (Sum.elim (fun (t : Int) => (Exit.normal, (⟨mkE 13 0 [(0, .dat (.int .i64) t)], []⟩ : St))) (fun (t : Int) => ((Exit.exit 0), (⟨mkE 13 0 [(0, .dat (.int .i64) t)], []⟩ : St)))) := by
  refine Link.of fun K h => ?_
  simp only [spec_l3Row_n2, wpO_bind, wpO_cond, wpO_map, wpO_some] at h
  exact Awp.of (by kernel_rfl) h

theorem spec_l3Row_n3_l (x3371 : Int) : Link spec_l3Row_ctx LL (Code.fst (Code.fst (Code.snd (bodyOf Tryd.f79)))) (Ann.fst (Ann.fst (Ann.snd spec_l3Row_an))) (⟨mkE 13 0 [(0, .dat (.int .i64) x3371)], []⟩ : St) (spec_l3Row_n3 x3371) (fun (t : Int) => ((Exit.exit 0), (⟨mkE 13 0 [(0, .dat (.int .i64) t)], []⟩ : St))) := by
  unfold spec_l3Row_n3
  exact Link.cast (by kernel_rfl) (by kernel_rfl) (link_loop (mk := fun (s : Int) => (⟨mkE 13 0 [(0, .dat (.int .i64) s)], []⟩ : St)) (fin := (fun (t : Int) => ((Exit.exit 0), (⟨mkE 13 0 [(0, .dat (.int .i64) t)], []⟩ : St)))) (by
  rintro t f K h
  · exact h) (fun s => link_map (spec_l3Row_n2_l s) (Sum.elim (fun (t : Int) => Sum.inl t) (fun (t : Int) => Sum.inr t)) (by
  rintro (t | t)
  · kernel_rfl
  · kernel_rfl)) x3371)

theorem spec_l3Row_n4_l (x3371 : Int) : Link spec_l3Row_ctx LL (Code.fst (Code.snd (bodyOf Tryd.f79))) (Ann.fst (Ann.snd spec_l3Row_an)) (⟨mkE 13 0 [(0, .dat (.int .i64) x3371)], []⟩ : St) (spec_l3Row_n4 x3371) (fun (t : Int) => (Exit.normal, (⟨mkE 13 0 [(0, .dat (.int .i64) t)], []⟩ : St))) := by
  unfold spec_l3Row_n4
  exact Link.cast (by kernel_rfl) (by kernel_rfl) (link_block (id := 0) (spec_l3Row_n3_l x3371) (fun (t : Int) => t) (by
  rintro t K h
  · exact Eq.mp (by kernel_rfl) h))

theorem spec_l3Row_n5_l (x3377 : Int) : Link spec_l3Row_ctx LL (Code.snd (Code.snd (bodyOf Tryd.f79))) (Ann.snd (Ann.snd spec_l3Row_an)) (⟨mkE 13 0 [(0, .dat (.int .i64) x3377)], []⟩ : St) (spec_l3Row_n5 x3377) (fun (t : Bool) => (Exit.ret, (⟨mkE 13 0 [(2, .dat .bool t)], []⟩ : St))) := by
  refine Link.of fun K h => ?_
  simp only [spec_l3Row_n5, wpO_bind, wpO_cond, wpO_map, wpO_some] at h
  exact Awp.of (by kernel_rfl) h

theorem spec_l3Row_n6_l (x3371 : Int) : Link spec_l3Row_ctx LL (Code.snd (bodyOf Tryd.f79)) (Ann.snd spec_l3Row_an) (⟨mkE 13 0 [(0, .dat (.int .i64) x3371)], []⟩ : St) (spec_l3Row_n6 x3371) (fun (t : Bool) => (Exit.ret, (⟨mkE 13 0 [(2, .dat .bool t)], []⟩ : St))) := by
  unfold spec_l3Row_n6
  exact Link.cast (by kernel_rfl) (by kernel_rfl) (link_seq (b := (Code.snd (Code.snd (bodyOf Tryd.f79)))) (y := (Ann.snd (Ann.snd spec_l3Row_an))) (spec_l3Row_n4_l x3371) (fun (t : Int) => (spec_l3Row_n5_l t)))

theorem spec_l3Row_n7_l (x3371 : Int) : Link spec_l3Row_ctx LL (bodyOf Tryd.f79) spec_l3Row_an (⟨mkE 13 0 [(0, .dat (.int .i64) x3371)], []⟩ : St) (spec_l3Row_n7 x3371) (fun (t : Bool) => (Exit.ret, (⟨mkE 13 0 [(2, .dat .bool t)], []⟩ : St))) := by
  unfold spec_l3Row_n7
  exact Link.cast (by kernel_rfl) (by kernel_rfl) (link_seq (b := (Code.snd (bodyOf Tryd.f79))) (y := (Ann.snd spec_l3Row_an)) (spec_l3Row_n1_l x3371) (fun (t : Unit) => (spec_l3Row_n6_l x3371)))

theorem spec_l3Row_e (x3371 : Int) {r : AV} {H' : Heap} (h : (Ans.mk _ (spec_l3Row x3371) (fun (t : Bool) => (.dat .bool t, []))).run = some (r, H')) : Awp spec_l3Row_ctx LL (bodyOf Tryd.f79) spec_l3Row_an (⟨mkE 13 0 [(0, .dat (.int .i64) x3371)], []⟩ : St) (Ret (tlook tys) Tryd.f79.results.toList r H') :=
  ret_of' (spec_l3Row_n7_l x3371) (by unfold spec_l3Row; kernel_rfl) (by
  intro t
  exact ret_mk [.dat .bool t] (by kernel_rfl) (by kernel_rfl) (by kernel_rfl) (by kernel_rfl)) h

def F_spec_l3Row : Fun := fun avs H =>
  match avs, H with
  | [.dat (.int .i64) x3371], [] => ⟨_, spec_l3Row x3371, fun (t : Bool) => (.dat .bool t, [])⟩
  | _, _ => Ans.no

theorem spec_l3Row_sound : Sound Tryd.prog 79 F_spec_l3Row := by
  refine fn_sound' (C := spec_l3Row_ctx) (c := bodyOf Tryd.f79) (cok_of tys_ok (by simp) (by simp) (by kernel_rfl)) Tryd.func79 (by kernel_rfl) LL spec_l3Row_an ?_
  intro avs H r H' h
  unfold F_spec_l3Row at h
  split at h
  · refine Awp.cast ?_ ?_ ?_ (spec_l3Row_e _ h) <;> kernel_rfl
  · simp [Ans.no, Ans.run] at h

/-! loop.example/headtrees/spec.FlatOk -/

def spec_FlatOk_an : Ann := (.seq (.leaf [0]) (.seq (.seq (.leaf [0, 3]) (.block (.loop (.seq (.seq (.leaf [0, 3, 11]) (.cond (.leaf [0, 3]) (.leaf [0]))) (.seq (.block (.seq (.leaf [0, 3, 18]) (.cond (.seq (.leaf [2]) (.leaf [2])) (.leaf [0, 3])))) (.leaf [0, 3])))))) (.seq (.leaf [2]) (.leaf [2]))))

noncomputable def spec_FlatOk_ctx : Ctx := ⟨tlook tys, olook [(27, F_spec_TreeOk), (60, F_spec_l2Yield), (79, F_spec_l3Row)], ioF, 0⟩

theorem spec_FlatOk_n1_l (x3363 : List Int) : Link spec_FlatOk_ctx LL (Code.fst (bodyOf Tryd.f44)) (Ann.fst spec_FlatOk_an) (⟨mkE 21 0 [(0, .dat (.list (.int .i64)) x3363)], []⟩ : St) (spec_FlatOk_n1) (fun (t : Unit) => (Exit.normal, (⟨mkE 21 0 [(0, .dat (.list (.int .i64)) x3363)], []⟩ : St))) := by
  refine Link.of fun K h => ?_
  simp only [spec_FlatOk_n1, wpO_bind, wpO_cond, wpO_map, wpO_some] at h
  exact Awp.of (by kernel_rfl) h

theorem spec_FlatOk_n2_l (x3363 : List Int) : Link spec_FlatOk_ctx LL (Code.fst (Code.fst (Code.snd (bodyOf Tryd.f44)))) (Ann.fst (Ann.fst (Ann.snd spec_FlatOk_an))) (⟨mkE 21 0 [(0, .dat (.list (.int .i64)) x3363)], []⟩ : St) (spec_FlatOk_n2) (fun (t : Unit) => (Exit.normal, (⟨mkE 21 0 [(0, .dat (.list (.int .i64)) x3363), (3, .dat (.int .i64) 1)], []⟩ : St))) := by
  refine Link.of fun K h => ?_
  simp only [spec_FlatOk_n2, wpO_bind, wpO_cond, wpO_map, wpO_some] at h
  exact Awp.of (by kernel_rfl) h

theorem spec_FlatOk_n3_l (x3363 : List Int) (x3398 : Int) : Link spec_FlatOk_ctx LL (Code.fst (Code.fst (Code.snd (Code.fst (Code.snd (bodyOf Tryd.f44)))))) (Ann.fst (Ann.fst (Ann.snd (Ann.fst (Ann.snd spec_FlatOk_an))))) (⟨mkE 21 0 [(0, .dat (.list (.int .i64)) x3363), (3, .dat (.int .i64) x3398)], []⟩ : St) (spec_FlatOk_n3 x3363 x3398) (Sum.elim (fun (t : Int) => (Exit.normal, (⟨mkE 21 0 [(0, .dat (.list (.int .i64)) x3363), (3, .dat (.int .i64) t)], []⟩ : St))) (Sum.elim (fun (t : Bool) => (Exit.ret, (⟨mkE 21 0 [(2, .dat .bool t)], []⟩ : St))) (fun (t : Unit) => ((Exit.exit 0), (⟨mkE 21 0 [(0, .dat (.list (.int .i64)) x3363)], []⟩ : St))))) := by
  refine Link.of fun K h => ?_
  simp only [spec_FlatOk_n3, wpO_bind, wpO_cond, wpO_map, wpO_some] at h
  exact Awp.of (by kernel_rfl) h

theorem spec_FlatOk_n4_l (x3363 : List Int) : Link spec_FlatOk_ctx LL (Code.fst (Code.snd (Code.fst (Code.snd (bodyOf Tryd.f44))))) (Ann.fst (Ann.snd (Ann.fst (Ann.snd spec_FlatOk_an)))) (⟨mkE 21 0 [(0, .dat (.list (.int .i64)) x3363), (3, .dat (.int .i64) 1)], []⟩ : St) (spec_FlatOk_n4 x3363) (Sum.elim (fun (t : Bool) => (Exit.ret, (⟨mkE 21 0 [(2, .dat .bool t)], []⟩ : St))) (fun (t : Unit) => ((Exit.exit 0), (⟨mkE 21 0 [(0, .dat (.list (.int .i64)) x3363)], []⟩ : St)))) := by
  unfold spec_FlatOk_n4
  exact Link.cast (by kernel_rfl) (by kernel_rfl) (link_loop (mk := fun (s : Int) => (⟨mkE 21 0 [(0, .dat (.list (.int .i64)) x3363), (3, .dat (.int .i64) s)], []⟩ : St)) (fin := (Sum.elim (fun (t : Bool) => (Exit.ret, (⟨mkE 21 0 [(2, .dat .bool t)], []⟩ : St))) (fun (t : Unit) => ((Exit.exit 0), (⟨mkE 21 0 [(0, .dat (.list (.int .i64)) x3363)], []⟩ : St))))) (by
  rintro (t | t) f K h
  · exact h
  · exact h) (fun s => link_map (spec_FlatOk_n3_l x3363 s) (Sum.elim (fun (t : Int) => Sum.inl t) (Sum.elim (fun (t : Bool) => Sum.inr (Sum.inl t)) (fun (t : Unit) => Sum.inr (Sum.inr t)))) (by
  rintro (t | t | t)
  · kernel_rfl
  · kernel_rfl
  · kernel_rfl)) 1)

theorem spec_FlatOk_n5_l (x3363 : List Int) : Link spec_FlatOk_ctx LL (Code.snd (Code.fst (Code.snd (bodyOf Tryd.f44)))) (Ann.snd (Ann.fst (Ann.snd spec_FlatOk_an))) (⟨mkE 21 0 [(0, .dat (.list (.int .i64)) x3363), (3, .dat (.int .i64) 1)], []⟩ : St) (spec_FlatOk_n5 x3363) (Sum.elim (fun (t : Unit) => (Exit.normal, (⟨mkE 21 0 [(0, .dat (.list (.int .i64)) x3363)], []⟩ : St))) (fun (t : Bool) => (Exit.ret, (⟨mkE 21 0 [(2, .dat .bool t)], []⟩ : St)))) := by
  unfold spec_FlatOk_n5
  exact Link.cast (by kernel_rfl) (by kernel_rfl) (link_block (id := 0) (spec_FlatOk_n4_l x3363) (Sum.elim (fun (t : Bool) => (Sum.inr t)) (fun (t : Unit) => (Sum.inl ()))) (by
  rintro (t | t) K h
  · exact Eq.mp (by kernel_rfl) h
  · exact Eq.mp (by kernel_rfl) h))

theorem spec_FlatOk_n6_l (x3363 : List Int) : Link spec_FlatOk_ctx LL (Code.fst (Code.snd (bodyOf Tryd.f44))) (Ann.fst (Ann.snd spec_FlatOk_an)) (⟨mkE 21 0 [(0, .dat (.list (.int .i64)) x3363)], []⟩ : St) (spec_FlatOk_n6 x3363) (Sum.elim (fun (t : Unit) => (Exit.normal, (⟨mkE 21 0 [(0, .dat (.list (.int .i64)) x3363)], []⟩ : St))) (fun (t : Bool) => (Exit.ret, (⟨mkE 21 0 [(2, .dat .bool t)], []⟩ : St)))) := by
  unfold spec_FlatOk_n6
  exact Link.cast (by kernel_rfl) (by kernel_rfl) (link_seq (b := (Code.snd (Code.fst (Code.snd (bodyOf Tryd.f44))))) (y := (Ann.snd (Ann.fst (Ann.snd spec_FlatOk_an)))) (spec_FlatOk_n2_l x3363) (fun (t : Unit) => (spec_FlatOk_n5_l x3363)))

theorem spec_FlatOk_n7_l (x3363 : List Int) : Link spec_FlatOk_ctx LL (Code.snd (Code.snd (bodyOf Tryd.f44))) (Ann.snd (Ann.snd spec_FlatOk_an)) (⟨mkE 21 0 [(0, .dat (.list (.int .i64)) x3363)], []⟩ : St) (spec_FlatOk_n7 x3363) (fun (t : Bool) => (Exit.ret, (⟨mkE 21 0 [(2, .dat .bool t)], []⟩ : St))) := by
  refine Link.of fun K h => ?_
  simp only [spec_FlatOk_n7, wpO_bind, wpO_cond, wpO_map, wpO_some] at h
  exact Awp.of (by kernel_rfl) h

theorem spec_FlatOk_n8_l (x3363 : List Int) : Link spec_FlatOk_ctx LL (Code.snd (bodyOf Tryd.f44)) (Ann.snd spec_FlatOk_an) (⟨mkE 21 0 [(0, .dat (.list (.int .i64)) x3363)], []⟩ : St) (spec_FlatOk_n8 x3363) (fun (t : Bool) => (Exit.ret, (⟨mkE 21 0 [(2, .dat .bool t)], []⟩ : St))) := by
  unfold spec_FlatOk_n8
  exact Link.cast (by kernel_rfl) (by kernel_rfl) (link_seq2 (b := (Code.snd (Code.snd (bodyOf Tryd.f44)))) (y := (Ann.snd (Ann.snd spec_FlatOk_an))) (spec_FlatOk_n6_l x3363) (fun (t : Unit) => (spec_FlatOk_n7_l x3363)) (fun (t : Bool) => t) (by
  rintro t
  · kernel_rfl) (by
  rintro t f K h
  · exact h))

theorem spec_FlatOk_n9_l (x3363 : List Int) : Link spec_FlatOk_ctx LL (bodyOf Tryd.f44) spec_FlatOk_an (⟨mkE 21 0 [(0, .dat (.list (.int .i64)) x3363)], []⟩ : St) (spec_FlatOk_n9 x3363) (fun (t : Bool) => (Exit.ret, (⟨mkE 21 0 [(2, .dat .bool t)], []⟩ : St))) := by
  unfold spec_FlatOk_n9
  exact Link.cast (by kernel_rfl) (by kernel_rfl) (link_seq (b := (Code.snd (bodyOf Tryd.f44))) (y := (Ann.snd spec_FlatOk_an)) (spec_FlatOk_n1_l x3363) (fun (t : Unit) => (spec_FlatOk_n8_l x3363)))

theorem spec_FlatOk_e (x3363 : List Int) {r : AV} {H' : Heap} (h : (Ans.mk _ (spec_FlatOk x3363) (fun (t : Bool) => (.dat .bool t, []))).run = some (r, H')) : Awp spec_FlatOk_ctx LL (bodyOf Tryd.f44) spec_FlatOk_an (⟨mkE 21 0 [(0, .dat (.list (.int .i64)) x3363)], []⟩ : St) (Ret (tlook tys) Tryd.f44.results.toList r H') :=
  ret_of' (spec_FlatOk_n9_l x3363) (by unfold spec_FlatOk; kernel_rfl) (by
  intro t
  exact ret_mk [.dat .bool t] (by kernel_rfl) (by kernel_rfl) (by kernel_rfl) (by kernel_rfl)) h

def F_spec_FlatOk : Fun := fun avs H =>
  match avs, H with
  | [.dat (.list (.int .i64)) x3363], [] => ⟨_, spec_FlatOk x3363, fun (t : Bool) => (.dat .bool t, [])⟩
  | _, _ => Ans.no

theorem spec_FlatOk_sound : Sound Tryd.prog 44 F_spec_FlatOk := by
  refine fn_sound' (C := spec_FlatOk_ctx) (c := bodyOf Tryd.f44) (cok_of tys_ok (List.forall_mem_cons.2 ⟨spec_TreeOk_sound, List.forall_mem_cons.2 ⟨spec_l2Yield_sound, List.forall_mem_cons.2 ⟨spec_l3Row_sound, by simp⟩⟩⟩) (List.forall_mem_cons.2 ⟨Tryd.call27, List.forall_mem_cons.2 ⟨Tryd.call60, List.forall_mem_cons.2 ⟨Tryd.call79, by simp⟩⟩⟩) (by kernel_rfl)) Tryd.func44 (by kernel_rfl) LL spec_FlatOk_an ?_
  intro avs H r H' h
  unfold F_spec_FlatOk at h
  split at h
  · refine Awp.cast ?_ ?_ ?_ (spec_FlatOk_e _ h) <;> kernel_rfl
  · simp [Ans.no, Ans.run] at h

/-! loop.example/headtrees/spec.DrawBackOf -/

def spec_DrawBackOf_an : Ann := (.seq (.leaf [0]) (.seq (.leaf [2]) (.leaf [2])))

noncomputable def spec_DrawBackOf_ctx : Ctx := ⟨tlook tys, olook [(54, F_spec_l20Open), (68, F_spec_l20Flat)], ioF, 0⟩

theorem spec_DrawBackOf_n1_l (x3538 : List Int) : Link spec_DrawBackOf_ctx LL (bodyOf Tryd.f46) spec_DrawBackOf_an (⟨mkE 6 0 [(0, .dat (.list (.int .u8)) x3538)], []⟩ : St) (spec_DrawBackOf_n1 x3538) (fun (t : (List Int)) => (Exit.ret, (⟨mkE 6 0 [(2, .slc 0)], [some (.seq (.int .i64) t)]⟩ : St))) := by
  refine Link.of fun K h => ?_
  simp only [spec_DrawBackOf_n1, wpO_bind, wpO_cond, wpO_map, wpO_some] at h
  exact Awp.of (by kernel_rfl) h

theorem spec_DrawBackOf_e (x3538 : List Int) {r : AV} {H' : Heap} (h : (Ans.mk _ (spec_DrawBackOf x3538) (fun (t : (List Int)) => (.slc 0, [some (.seq (.int .i64) t)]))).run = some (r, H')) : Awp spec_DrawBackOf_ctx LL (bodyOf Tryd.f46) spec_DrawBackOf_an (⟨mkE 6 0 [(0, .dat (.list (.int .u8)) x3538)], []⟩ : St) (Ret (tlook tys) Tryd.f46.results.toList r H') :=
  ret_of' (spec_DrawBackOf_n1_l x3538) (by unfold spec_DrawBackOf; kernel_rfl) (by
  intro t
  exact ret_mk [.slc 0] (by kernel_rfl) (by kernel_rfl) (by kernel_rfl) (by kernel_rfl)) h

def F_spec_DrawBackOf : Fun := fun avs H =>
  match avs, H with
  | [.dat (.list (.int .u8)) x3538], [] => ⟨_, spec_DrawBackOf x3538, fun (t : (List Int)) => (.slc 0, [some (.seq (.int .i64) t)])⟩
  | _, _ => Ans.no

theorem spec_DrawBackOf_sound : Sound Tryd.prog 46 F_spec_DrawBackOf := by
  refine fn_sound' (C := spec_DrawBackOf_ctx) (c := bodyOf Tryd.f46) (cok_of tys_ok (List.forall_mem_cons.2 ⟨spec_l20Open_sound, List.forall_mem_cons.2 ⟨spec_l20Flat_sound, by simp⟩⟩) (List.forall_mem_cons.2 ⟨Tryd.call54, List.forall_mem_cons.2 ⟨Tryd.call68, by simp⟩⟩) (by kernel_rfl)) Tryd.func46 (by kernel_rfl) LL spec_DrawBackOf_an ?_
  intro avs H r H' h
  unfold F_spec_DrawBackOf at h
  split at h
  · refine Awp.cast ?_ ?_ ?_ (spec_DrawBackOf_e _ h) <;> kernel_rfl
  · simp [Ans.no, Ans.run] at h

/-! loop.example/headtrees/impl.lastToFirst -/

def impl_lastToFirst_an : Ann := (.seq (.leaf [0]) (.seq (.leaf [0, 3]) (.seq (.seq (.leaf [0, 3, 8, 9]) (.block (.loop (.seq (.leaf [0, 3, 8, 9, 10]) (.seq (.cond (.leaf [0, 3, 8, 9]) (.leaf [3])) (.seq (.block (.seq (.leaf [0, 3, 4, 8, 9]) (.leaf [0, 3, 8, 9]))) (.leaf [0, 3, 8, 9]))))))) (.seq (.leaf [2]) (.leaf [2])))))

noncomputable def impl_lastToFirst_ctx : Ctx := ⟨tlook tys, olook [], ioF, 0⟩

theorem impl_lastToFirst_n1_l (x3557 : Int) : Link impl_lastToFirst_ctx LL (Code.seq (Code.fst (bodyOf Tryd.f78)) (Code.fst (Code.snd (bodyOf Tryd.f78)))) (Ann.seq (Ann.fst impl_lastToFirst_an) (Ann.fst (Ann.snd impl_lastToFirst_an))) (⟨mkE 20 0 [(0, .dat (.int .i64) x3557)], []⟩ : St) (impl_lastToFirst_n1 x3557) (fun (t : (List Int)) => (Exit.normal, (⟨mkE 20 0 [(0, .dat (.int .i64) x3557), (3, .slc 0)], [some (.seq (.int .i64) t)]⟩ : St))) := by
  refine Link.of fun K h => ?_
  simp only [impl_lastToFirst_n1, wpO_bind, wpO_cond, wpO_map, wpO_some] at h
  exact Awp.of (by kernel_rfl) h

theorem impl_lastToFirst_n2_l (x3557 : Int) (x3559 : List Int) : Link impl_lastToFirst_ctx LL (Code.fst (Code.fst (Code.snd (Code.snd (bodyOf Tryd.f78))))) (Ann.fst (Ann.fst (Ann.snd (Ann.snd impl_lastToFirst_an)))) (⟨mkE 20 0 [(0, .dat (.int .i64) x3557), (3, .slc 0)], [some (.seq (.int .i64) x3559)]⟩ : St) (impl_lastToFirst_n2 x3559) (fun (t : Int) => (Exit.normal, (⟨mkE 20 0 [(0, .dat (.int .i64) x3557), (3, .slc 0), (8, .dat (.int .i64) t), (9, .dat (.int .i64) 0)], [some (.seq (.int .i64) x3559)]⟩ : St))) := by
  refine Link.of fun K h => ?_
  simp only [impl_lastToFirst_n2, wpO_bind, wpO_cond, wpO_map, wpO_some] at h
  exact Awp.of (by kernel_rfl) h

theorem impl_lastToFirst_n3_l (x3557 : Int) (x3560 : Int) (x3572 : Int) (x3573 : List Int) : Link impl_lastToFirst_ctx LL (Code.fst (Code.fst (Code.snd (Code.fst (Code.snd (Code.snd (bodyOf Tryd.f78))))))) (Ann.fst (Ann.fst (Ann.snd (Ann.fst (Ann.snd (Ann.snd impl_lastToFirst_an)))))) (⟨mkE 20 0 [(0, .dat (.int .i64) x3557), (3, .slc 0), (8, .dat (.int .i64) x3560), (9, .dat (.int .i64) x3572)], [some (.seq (.int .i64) x3573)]⟩ : St) (impl_lastToFirst_n3 x3557 x3560 x3572 x3573) (Sum.elim (fun (t : Int × (List Int)) => (Exit.normal, (⟨mkE 20 0 [(0, .dat (.int .i64) x3557), (3, .slc 0), (8, .dat (.int .i64) x3560), (9, .dat (.int .i64) t.1)], [some (.seq (.int .i64) t.2)]⟩ : St))) (fun (t : (List Int)) => ((Exit.exit 0), (⟨mkE 20 0 [(3, .slc 0)], [some (.seq (.int .i64) t)]⟩ : St)))) := by
  refine Link.of fun K h => ?_
  simp only [impl_lastToFirst_n3, wpO_bind, wpO_cond, wpO_map, wpO_some] at h
  exact Awp.of (by kernel_rfl) h

theorem impl_lastToFirst_n4_l (x3557 : Int) (x3560 : Int) (x3559 : List Int) : Link impl_lastToFirst_ctx LL (Code.fst (Code.snd (Code.fst (Code.snd (Code.snd (bodyOf Tryd.f78)))))) (Ann.fst (Ann.snd (Ann.fst (Ann.snd (Ann.snd impl_lastToFirst_an))))) (⟨mkE 20 0 [(0, .dat (.int .i64) x3557), (3, .slc 0), (8, .dat (.int .i64) x3560), (9, .dat (.int .i64) 0)], [some (.seq (.int .i64) x3559)]⟩ : St) (impl_lastToFirst_n4 x3557 x3560 x3559) (fun (t : (List Int)) => ((Exit.exit 0), (⟨mkE 20 0 [(3, .slc 0)], [some (.seq (.int .i64) t)]⟩ : St))) := by
  unfold impl_lastToFirst_n4
  exact Link.cast (by kernel_rfl) (by kernel_rfl) (link_loop (mk := fun (s : Int × (List Int)) => (⟨mkE 20 0 [(0, .dat (.int .i64) x3557), (3, .slc 0), (8, .dat (.int .i64) x3560), (9, .dat (.int .i64) s.1)], [some (.seq (.int .i64) s.2)]⟩ : St)) (fin := (fun (t : (List Int)) => ((Exit.exit 0), (⟨mkE 20 0 [(3, .slc 0)], [some (.seq (.int .i64) t)]⟩ : St)))) (by
  rintro t f K h
  · exact h) (fun s => link_map (impl_lastToFirst_n3_l x3557 x3560 s.1 s.2) (Sum.elim (fun (t : Int × (List Int)) => Sum.inl (t.1, t.2)) (fun (t : (List Int)) => Sum.inr t)) (by
  rintro (t | t)
  · kernel_rfl
  · kernel_rfl)) (0, x3559))

theorem impl_lastToFirst_n5_l (x3557 : Int) (x3560 : Int) (x3559 : List Int) : Link impl_lastToFirst_ctx LL (Code.snd (Code.fst (Code.snd (Code.snd (bodyOf Tryd.f78))))) (Ann.snd (Ann.fst (Ann.snd (Ann.snd impl_lastToFirst_an)))) (⟨mkE 20 0 [(0, .dat (.int .i64) x3557), (3, .slc 0), (8, .dat (.int .i64) x3560), (9, .dat (.int .i64) 0)], [some (.seq (.int .i64) x3559)]⟩ : St) (impl_lastToFirst_n5 x3557 x3560 x3559) (fun (t : (List Int)) => (Exit.normal, (⟨mkE 20 0 [(3, .slc 0)], [some (.seq (.int .i64) t)]⟩ : St))) := by
  unfold impl_lastToFirst_n5
  exact Link.cast (by kernel_rfl) (by kernel_rfl) (link_block (id := 0) (impl_lastToFirst_n4_l x3557 x3560 x3559) (fun (t : (List Int)) => t) (by
  rintro t K h
  · exact Eq.mp (by kernel_rfl) h))

theorem impl_lastToFirst_n6_l (x3557 : Int) (x3559 : List Int) : Link impl_lastToFirst_ctx LL (Code.fst (Code.snd (Code.snd (bodyOf Tryd.f78)))) (Ann.fst (Ann.snd (Ann.snd impl_lastToFirst_an))) (⟨mkE 20 0 [(0, .dat (.int .i64) x3557), (3, .slc 0)], [some (.seq (.int .i64) x3559)]⟩ : St) (impl_lastToFirst_n6 x3557 x3559) (fun (t : (List Int)) => (Exit.normal, (⟨mkE 20 0 [(3, .slc 0)], [some (.seq (.int .i64) t)]⟩ : St))) := by
  unfold impl_lastToFirst_n6
  exact Link.cast (by kernel_rfl) (by kernel_rfl) (link_seq (b := (Code.snd (Code.fst (Code.snd (Code.snd (bodyOf Tryd.f78)))))) (y := (Ann.snd (Ann.fst (Ann.snd (Ann.snd impl_lastToFirst_an))))) (impl_lastToFirst_n2_l x3557 x3559) (fun (t : Int) => (impl_lastToFirst_n5_l x3557 t x3559)))

theorem impl_lastToFirst_n7_l (x3573 : List Int) : Link impl_lastToFirst_ctx LL (Code.snd (Code.snd (Code.snd (bodyOf Tryd.f78)))) (Ann.snd (Ann.snd (Ann.snd impl_lastToFirst_an))) (⟨mkE 20 0 [(3, .slc 0)], [some (.seq (.int .i64) x3573)]⟩ : St) (impl_lastToFirst_n7 x3573) (fun (t : (List Int)) => (Exit.ret, (⟨mkE 20 0 [(2, .slc 0)], [some (.seq (.int .i64) t)]⟩ : St))) := by
  refine Link.of fun K h => ?_
  simp only [impl_lastToFirst_n7, wpO_bind, wpO_cond, wpO_map, wpO_some] at h
  exact Awp.of (by kernel_rfl) h

theorem impl_lastToFirst_n8_l (x3557 : Int) (x3559 : List Int) : Link impl_lastToFirst_ctx LL (Code.snd (Code.snd (bodyOf Tryd.f78))) (Ann.snd (Ann.snd impl_lastToFirst_an)) (⟨mkE 20 0 [(0, .dat (.int .i64) x3557), (3, .slc 0)], [some (.seq (.int .i64) x3559)]⟩ : St) (impl_lastToFirst_n8 x3557 x3559) (fun (t : (List Int)) => (Exit.ret, (⟨mkE 20 0 [(2, .slc 0)], [some (.seq (.int .i64) t)]⟩ : St))) := by
  unfold impl_lastToFirst_n8
  exact Link.cast (by kernel_rfl) (by kernel_rfl) (link_seq (b := (Code.snd (Code.snd (Code.snd (bodyOf Tryd.f78))))) (y := (Ann.snd (Ann.snd (Ann.snd impl_lastToFirst_an)))) (impl_lastToFirst_n6_l x3557 x3559) (fun (t : (List Int)) => (impl_lastToFirst_n7_l t)))

theorem impl_lastToFirst_n9_l (x3557 : Int) : Link impl_lastToFirst_ctx LL (bodyOf Tryd.f78) impl_lastToFirst_an (⟨mkE 20 0 [(0, .dat (.int .i64) x3557)], []⟩ : St) (impl_lastToFirst_n9 x3557) (fun (t : (List Int)) => (Exit.ret, (⟨mkE 20 0 [(2, .slc 0)], [some (.seq (.int .i64) t)]⟩ : St))) := by
  unfold impl_lastToFirst_n9
  exact Link.cast (by kernel_rfl) (by kernel_rfl) (link_group (c := (Code.fst (Code.snd (bodyOf Tryd.f78)))) (a := (Ann.fst (Ann.snd impl_lastToFirst_an))) [(Code.fst (bodyOf Tryd.f78))] [(Ann.fst impl_lastToFirst_an)] rfl (link_seq (b := (Code.snd (Code.snd (bodyOf Tryd.f78)))) (y := (Ann.snd (Ann.snd impl_lastToFirst_an))) (impl_lastToFirst_n1_l x3557) (fun (t : (List Int)) => (impl_lastToFirst_n8_l x3557 t))))

theorem impl_lastToFirst_e (x3557 : Int) {r : AV} {H' : Heap} (h : (Ans.mk _ (impl_lastToFirst x3557) (fun (t : (List Int)) => (.slc 0, [some (.seq (.int .i64) t)]))).run = some (r, H')) : Awp impl_lastToFirst_ctx LL (bodyOf Tryd.f78) impl_lastToFirst_an (⟨mkE 20 0 [(0, .dat (.int .i64) x3557)], []⟩ : St) (Ret (tlook tys) Tryd.f78.results.toList r H') :=
  ret_of' (impl_lastToFirst_n9_l x3557) (by unfold impl_lastToFirst; kernel_rfl) (by
  intro t
  exact ret_mk [.slc 0] (by kernel_rfl) (by kernel_rfl) (by kernel_rfl) (by kernel_rfl)) h

def F_impl_lastToFirst : Fun := fun avs H =>
  match avs, H with
  | [.dat (.int .i64) x3557], [] => ⟨_, impl_lastToFirst x3557, fun (t : (List Int)) => (.slc 0, [some (.seq (.int .i64) t)])⟩
  | _, _ => Ans.no

theorem impl_lastToFirst_sound : Sound Tryd.prog 78 F_impl_lastToFirst := by
  refine fn_sound' (C := impl_lastToFirst_ctx) (c := bodyOf Tryd.f78) (cok_of tys_ok (by simp) (by simp) (by kernel_rfl)) Tryd.func78 (by kernel_rfl) LL impl_lastToFirst_an ?_
  intro avs H r H' h
  unfold F_impl_lastToFirst at h
  split at h
  · refine Awp.cast ?_ ?_ ?_ (impl_lastToFirst_e _ h) <;> kernel_rfl
  · simp [Ans.no, Ans.run] at h

/-! loop.example/headtrees/impl.OrderOk -/

def impl_OrderOk_an : Ann := (.seq (.leaf [0, 1]) (.seq (.seq (.leaf [0, 1, 19]) (.cond (.seq (.leaf [4]) (.leaf [4])) (.leaf [0, 1]))) (.seq (.leaf [0, 1, 5]) (.seq (.seq (.leaf [1, 5, 20, 21, 22]) (.block (.loop (.seq (.leaf [1, 5, 20, 21, 22, 23]) (.seq (.cond (.leaf [1, 5, 20, 21, 22]) (.leaf [])) (.seq (.block (.seq (.leaf [1, 5, 7, 20, 21, 22]) (.seq (.seq (.leaf [1, 5, 7, 20, 21, 22, 37]) (.cond (.seq (.leaf [4]) (.leaf [4])) (.leaf [1, 5, 7, 20, 21, 22]))) (.leaf [1, 5, 20, 21, 22])))) (.leaf [1, 5, 20, 21, 22]))))))) (.seq (.leaf [4]) (.leaf [4]))))))

noncomputable def impl_OrderOk_ctx : Ctx := ⟨tlook tys, olook [], ioF, 0⟩

theorem impl_OrderOk_n1_l (x3591 : List Int) (x3592 : Int) : Link impl_OrderOk_ctx LL (Code.seq (Code.fst (bodyOf Tryd.f88)) (Code.seq (Code.fst (Code.snd (bodyOf Tryd.f88))) (Code.fst (Code.snd (Code.snd (bodyOf Tryd.f88)))))) (Ann.seq (Ann.fst impl_OrderOk_an) (Ann.seq (Ann.fst (Ann.snd impl_OrderOk_an)) (Ann.fst (Ann.snd (Ann.snd impl_OrderOk_an))))) (⟨mkE 41 0 [(0, .dat (.list (.int .i64)) x3591), (1, .dat (.int .i64) x3592)], []⟩ : St) (impl_OrderOk_n1 x3591 x3592) (Sum.elim (fun (t : Unit) => (Exit.normal, (⟨mkE 41 0 [(0, .dat (.list (.int .i64)) x3591), (1, .dat (.int .i64) x3592), (5, .ptr 0 0)], [some (.seq .bool (List.replicate 9 false))]⟩ : St))) (fun (t : Bool) => (Exit.ret, (⟨mkE 41 0 [(4, .dat .bool t)], []⟩ : St)))) := by
  refine Link.of fun K h => ?_
  simp only [impl_OrderOk_n1, wpO_bind, wpO_cond, wpO_map, wpO_some] at h
  exact Awp.of (by kernel_rfl) h

theorem impl_OrderOk_n2_l (x3591 : List Int) (x3592 : Int) : Link impl_OrderOk_ctx LL (Code.fst (Code.fst (Code.snd (Code.snd (Code.snd (bodyOf Tryd.f88)))))) (Ann.fst (Ann.fst (Ann.snd (Ann.snd (Ann.snd impl_OrderOk_an))))) (⟨mkE 41 0 [(0, .dat (.list (.int .i64)) x3591), (1, .dat (.int .i64) x3592), (5, .ptr 0 0)], [some (.seq .bool (List.replicate 9 false))]⟩ : St) (impl_OrderOk_n2 x3591) (fun (t : Int) => (Exit.normal, (⟨mkE 41 0 [(1, .dat (.int .i64) x3592), (5, .ptr 0 0), (20, .dat (.list (.int .i64)) x3591), (21, .dat (.int .i64) t), (22, .dat (.int .i64) 0)], [some (.seq .bool (List.replicate 9 false))]⟩ : St))) := by
  refine Link.of fun K h => ?_
  simp only [impl_OrderOk_n2, wpO_bind, wpO_cond, wpO_map, wpO_some] at h
  exact Awp.of (by kernel_rfl) h

theorem impl_OrderOk_n3_l (x3592 : Int) (x3591 : List Int) (x3602 : Int) (x3626 : Int) (x3627 : List Bool) : Link impl_OrderOk_ctx LL (Code.fst (Code.fst (Code.snd (Code.fst (Code.snd (Code.snd (Code.snd (bodyOf Tryd.f88)))))))) (Ann.fst (Ann.fst (Ann.snd (Ann.fst (Ann.snd (Ann.snd (Ann.snd impl_OrderOk_an))))))) (⟨mkE 41 0 [(1, .dat (.int .i64) x3592), (5, .ptr 0 0), (20, .dat (.list (.int .i64)) x3591), (21, .dat (.int .i64) x3602), (22, .dat (.int .i64) x3626)], [some (.seq .bool x3627)]⟩ : St) (impl_OrderOk_n3 x3592 x3591 x3602 x3626 x3627) (Sum.elim (fun (t : Int × (List Bool)) => (Exit.normal, (⟨mkE 41 0 [(1, .dat (.int .i64) x3592), (5, .ptr 0 0), (20, .dat (.list (.int .i64)) x3591), (21, .dat (.int .i64) x3602), (22, .dat (.int .i64) t.1)], [some (.seq .bool t.2)]⟩ : St))) (Sum.elim (fun (t : Bool) => (Exit.ret, (⟨mkE 41 0 [(4, .dat .bool t)], []⟩ : St))) (fun (t : Unit) => ((Exit.exit 0), (⟨mkE 41 0 [], []⟩ : St))))) := by
  refine Link.of fun K h => ?_
  simp only [impl_OrderOk_n3, wpO_bind, wpO_cond, wpO_map, wpO_some] at h
  exact Awp.of (by kernel_rfl) h

theorem impl_OrderOk_n4_l (x3592 : Int) (x3591 : List Int) (x3602 : Int) : Link impl_OrderOk_ctx LL (Code.fst (Code.snd (Code.fst (Code.snd (Code.snd (Code.snd (bodyOf Tryd.f88))))))) (Ann.fst (Ann.snd (Ann.fst (Ann.snd (Ann.snd (Ann.snd impl_OrderOk_an)))))) (⟨mkE 41 0 [(1, .dat (.int .i64) x3592), (5, .ptr 0 0), (20, .dat (.list (.int .i64)) x3591), (21, .dat (.int .i64) x3602), (22, .dat (.int .i64) 0)], [some (.seq .bool (List.replicate 9 false))]⟩ : St) (impl_OrderOk_n4 x3592 x3591 x3602) (Sum.elim (fun (t : Bool) => (Exit.ret, (⟨mkE 41 0 [(4, .dat .bool t)], []⟩ : St))) (fun (t : Unit) => ((Exit.exit 0), (⟨mkE 41 0 [], []⟩ : St)))) := by
  unfold impl_OrderOk_n4
  exact Link.cast (by kernel_rfl) (by kernel_rfl) (link_loop (mk := fun (s : Int × (List Bool)) => (⟨mkE 41 0 [(1, .dat (.int .i64) x3592), (5, .ptr 0 0), (20, .dat (.list (.int .i64)) x3591), (21, .dat (.int .i64) x3602), (22, .dat (.int .i64) s.1)], [some (.seq .bool s.2)]⟩ : St)) (fin := (Sum.elim (fun (t : Bool) => (Exit.ret, (⟨mkE 41 0 [(4, .dat .bool t)], []⟩ : St))) (fun (t : Unit) => ((Exit.exit 0), (⟨mkE 41 0 [], []⟩ : St))))) (by
  rintro (t | t) f K h
  · exact h
  · exact h) (fun s => link_map (impl_OrderOk_n3_l x3592 x3591 x3602 s.1 s.2) (Sum.elim (fun (t : Int × (List Bool)) => Sum.inl (t.1, t.2)) (Sum.elim (fun (t : Bool) => Sum.inr (Sum.inl t)) (fun (t : Unit) => Sum.inr (Sum.inr t)))) (by
  rintro (t | t | t)
  · kernel_rfl
  · kernel_rfl
  · kernel_rfl)) (0, (List.replicate 9 false)))

theorem impl_OrderOk_n5_l (x3592 : Int) (x3591 : List Int) (x3602 : Int) : Link impl_OrderOk_ctx LL (Code.snd (Code.fst (Code.snd (Code.snd (Code.snd (bodyOf Tryd.f88)))))) (Ann.snd (Ann.fst (Ann.snd (Ann.snd (Ann.snd impl_OrderOk_an))))) (⟨mkE 41 0 [(1, .dat (.int .i64) x3592), (5, .ptr 0 0), (20, .dat (.list (.int .i64)) x3591), (21, .dat (.int .i64) x3602), (22, .dat (.int .i64) 0)], [some (.seq .bool (List.replicate 9 false))]⟩ : St) (impl_OrderOk_n5 x3592 x3591 x3602) (Sum.elim (fun (t : Unit) => (Exit.normal, (⟨mkE 41 0 [], []⟩ : St))) (fun (t : Bool) => (Exit.ret, (⟨mkE 41 0 [(4, .dat .bool t)], []⟩ : St)))) := by
  unfold impl_OrderOk_n5
  exact Link.cast (by kernel_rfl) (by kernel_rfl) (link_block (id := 0) (impl_OrderOk_n4_l x3592 x3591 x3602) (Sum.elim (fun (t : Bool) => (Sum.inr t)) (fun (t : Unit) => (Sum.inl ()))) (by
  rintro (t | t) K h
  · exact Eq.mp (by kernel_rfl) h
  · exact Eq.mp (by kernel_rfl) h))

theorem impl_OrderOk_n6_l (x3591 : List Int) (x3592 : Int) : Link impl_OrderOk_ctx LL (Code.fst (Code.snd (Code.snd (Code.snd (bodyOf Tryd.f88))))) (Ann.fst (Ann.snd (Ann.snd (Ann.snd impl_OrderOk_an)))) (⟨mkE 41 0 [(0, .dat (.list (.int .i64)) x3591), (1, .dat (.int .i64) x3592), (5, .ptr 0 0)], [some (.seq .bool (List.replicate 9 false))]⟩ : St) (impl_OrderOk_n6 x3591 x3592) (Sum.elim (fun (t : Unit) => (Exit.normal, (⟨mkE 41 0 [], []⟩ : St))) (fun (t : Bool) => (Exit.ret, (⟨mkE 41 0 [(4, .dat .bool t)], []⟩ : St)))) := by
  unfold impl_OrderOk_n6
  exact Link.cast (by kernel_rfl) (by kernel_rfl) (link_seq (b := (Code.snd (Code.fst (Code.snd (Code.snd (Code.snd (bodyOf Tryd.f88))))))) (y := (Ann.snd (Ann.fst (Ann.snd (Ann.snd (Ann.snd impl_OrderOk_an)))))) (impl_OrderOk_n2_l x3591 x3592) (fun (t : Int) => (impl_OrderOk_n5_l x3592 x3591 t)))

theorem impl_OrderOk_n7_l : Link impl_OrderOk_ctx LL (Code.snd (Code.snd (Code.snd (Code.snd (bodyOf Tryd.f88))))) (Ann.snd (Ann.snd (Ann.snd (Ann.snd impl_OrderOk_an)))) (⟨mkE 41 0 [], []⟩ : St) (impl_OrderOk_n7) (fun (t : Bool) => (Exit.ret, (⟨mkE 41 0 [(4, .dat .bool t)], []⟩ : St))) := by
  refine Link.of fun K h => ?_
  simp only [impl_OrderOk_n7, wpO_bind, wpO_cond, wpO_map, wpO_some] at h
  exact Awp.of (by kernel_rfl) h

theorem impl_OrderOk_n8_l (x3591 : List Int) (x3592 : Int) : Link impl_OrderOk_ctx LL (Code.snd (Code.snd (Code.snd (bodyOf Tryd.f88)))) (Ann.snd (Ann.snd (Ann.snd impl_OrderOk_an))) (⟨mkE 41 0 [(0, .dat (.list (.int .i64)) x3591), (1, .dat (.int .i64) x3592), (5, .ptr 0 0)], [some (.seq .bool (List.replicate 9 false))]⟩ : St) (impl_OrderOk_n8 x3591 x3592) (fun (t : Bool) => (Exit.ret, (⟨mkE 41 0 [(4, .dat .bool t)], []⟩ : St))) := by
  unfold impl_OrderOk_n8
  exact Link.cast (by kernel_rfl) (by kernel_rfl) (link_seq2 (b := (Code.snd (Code.snd (Code.snd (Code.snd (bodyOf Tryd.f88)))))) (y := (Ann.snd (Ann.snd (Ann.snd (Ann.snd impl_OrderOk_an))))) (impl_OrderOk_n6_l x3591 x3592) (fun (t : Unit) => (impl_OrderOk_n7_l)) (fun (t : Bool) => t) (by
  rintro t
  · kernel_rfl) (by
  rintro t f K h
  · exact h))

theorem impl_OrderOk_n9_l (x3591 : List Int) (x3592 : Int) : Link impl_OrderOk_ctx LL (bodyOf Tryd.f88) impl_OrderOk_an (⟨mkE 41 0 [(0, .dat (.list (.int .i64)) x3591), (1, .dat (.int .i64) x3592)], []⟩ : St) (impl_OrderOk_n9 x3591 x3592) (fun (t : Bool) => (Exit.ret, (⟨mkE 41 0 [(4, .dat .bool t)], []⟩ : St))) := by
  unfold impl_OrderOk_n9
  exact Link.cast (by kernel_rfl) (by kernel_rfl) (link_group (c := (Code.fst (Code.snd (Code.snd (bodyOf Tryd.f88))))) (a := (Ann.fst (Ann.snd (Ann.snd impl_OrderOk_an)))) [(Code.fst (bodyOf Tryd.f88)), (Code.fst (Code.snd (bodyOf Tryd.f88)))] [(Ann.fst impl_OrderOk_an), (Ann.fst (Ann.snd impl_OrderOk_an))] rfl (link_seq2 (b := (Code.snd (Code.snd (Code.snd (bodyOf Tryd.f88))))) (y := (Ann.snd (Ann.snd (Ann.snd impl_OrderOk_an)))) (impl_OrderOk_n1_l x3591 x3592) (fun (t : Unit) => (impl_OrderOk_n8_l x3591 x3592)) (fun (t : Bool) => t) (by
  rintro t
  · kernel_rfl) (by
  rintro t f K h
  · exact h)))

theorem impl_OrderOk_e (x3591 : List Int) (x3592 : Int) {r : AV} {H' : Heap} (h : (Ans.mk _ (impl_OrderOk x3591 x3592) (fun (t : Bool) => (.dat .bool t, []))).run = some (r, H')) : Awp impl_OrderOk_ctx LL (bodyOf Tryd.f88) impl_OrderOk_an (⟨mkE 41 0 [(0, .dat (.list (.int .i64)) x3591), (1, .dat (.int .i64) x3592)], []⟩ : St) (Ret (tlook tys) Tryd.f88.results.toList r H') :=
  ret_of' (impl_OrderOk_n9_l x3591 x3592) (by unfold impl_OrderOk; kernel_rfl) (by
  intro t
  exact ret_mk [.dat .bool t] (by kernel_rfl) (by kernel_rfl) (by kernel_rfl) (by kernel_rfl)) h

def F_impl_OrderOk : Fun := fun avs H =>
  match avs, H with
  | [.dat (.list (.int .i64)) x3591, .dat (.int .i64) x3592], [] => ⟨_, impl_OrderOk x3591 x3592, fun (t : Bool) => (.dat .bool t, [])⟩
  | _, _ => Ans.no

theorem impl_OrderOk_sound : Sound Tryd.prog 88 F_impl_OrderOk := by
  refine fn_sound' (C := impl_OrderOk_ctx) (c := bodyOf Tryd.f88) (cok_of tys_ok (by simp) (by simp) (by kernel_rfl)) Tryd.func88 (by kernel_rfl) LL impl_OrderOk_an ?_
  intro avs H r H' h
  unfold F_impl_OrderOk at h
  split at h
  · refine Awp.cast ?_ ?_ ?_ (impl_OrderOk_e _ _ h) <;> kernel_rfl
  · simp [Ans.no, Ans.run] at h

/-! loop.example/headtrees/impl.placesIn -/

def impl_placesIn_an : Ann := (.seq (.leaf [0]) (.seq (.leaf [0, 3]) (.seq (.seq (.leaf [3, 10, 11, 12]) (.block (.loop (.seq (.leaf [3, 10, 11, 12, 13]) (.seq (.cond (.leaf [3, 10, 11, 12]) (.leaf [3])) (.seq (.block (.seq (.leaf [3, 4, 5, 10, 11, 12]) (.leaf [3, 10, 11, 12]))) (.leaf [3, 10, 11, 12]))))))) (.seq (.leaf [2]) (.leaf [2])))))

noncomputable def impl_placesIn_ctx : Ctx := ⟨tlook tys, olook [], ioF, 0⟩

theorem impl_placesIn_n1_l (x3659 : List Int) : Link impl_placesIn_ctx LL (Code.seq (Code.fst (bodyOf Tryd.f89)) (Code.fst (Code.snd (bodyOf Tryd.f89)))) (Ann.seq (Ann.fst impl_placesIn_an) (Ann.fst (Ann.snd impl_placesIn_an))) (⟨mkE 24 0 [(0, .dat (.list (.int .i64)) x3659)], []⟩ : St) (impl_placesIn_n1 x3659) (fun (t : (List Int)) => (Exit.normal, (⟨mkE 24 0 [(0, .dat (.list (.int .i64)) x3659), (3, .slc 0)], [some (.seq (.int .i64) t)]⟩ : St))) := by
  refine Link.of fun K h => ?_
  simp only [impl_placesIn_n1, wpO_bind, wpO_cond, wpO_map, wpO_some] at h
  exact Awp.of (by kernel_rfl) h

theorem impl_placesIn_n2_l (x3659 : List Int) (x3663 : List Int) : Link impl_placesIn_ctx LL (Code.fst (Code.fst (Code.snd (Code.snd (bodyOf Tryd.f89))))) (Ann.fst (Ann.fst (Ann.snd (Ann.snd impl_placesIn_an)))) (⟨mkE 24 0 [(0, .dat (.list (.int .i64)) x3659), (3, .slc 0)], [some (.seq (.int .i64) x3663)]⟩ : St) (impl_placesIn_n2 x3659) (fun (t : Int) => (Exit.normal, (⟨mkE 24 0 [(3, .slc 0), (10, .dat (.list (.int .i64)) x3659), (11, .dat (.int .i64) t), (12, .dat (.int .i64) 0)], [some (.seq (.int .i64) x3663)]⟩ : St))) := by
  refine Link.of fun K h => ?_
  simp only [impl_placesIn_n2, wpO_bind, wpO_cond, wpO_map, wpO_some] at h
  exact Awp.of (by kernel_rfl) h

theorem impl_placesIn_n3_l (x3659 : List Int) (x3664 : Int) (x3678 : Int) (x3679 : List Int) : Link impl_placesIn_ctx LL (Code.fst (Code.fst (Code.snd (Code.fst (Code.snd (Code.snd (bodyOf Tryd.f89))))))) (Ann.fst (Ann.fst (Ann.snd (Ann.fst (Ann.snd (Ann.snd impl_placesIn_an)))))) (⟨mkE 24 0 [(3, .slc 0), (10, .dat (.list (.int .i64)) x3659), (11, .dat (.int .i64) x3664), (12, .dat (.int .i64) x3678)], [some (.seq (.int .i64) x3679)]⟩ : St) (impl_placesIn_n3 x3659 x3664 x3678 x3679) (Sum.elim (fun (t : Int × (List Int)) => (Exit.normal, (⟨mkE 24 0 [(3, .slc 0), (10, .dat (.list (.int .i64)) x3659), (11, .dat (.int .i64) x3664), (12, .dat (.int .i64) t.1)], [some (.seq (.int .i64) t.2)]⟩ : St))) (fun (t : (List Int)) => ((Exit.exit 0), (⟨mkE 24 0 [(3, .slc 0)], [some (.seq (.int .i64) t)]⟩ : St)))) := by
  refine Link.of fun K h => ?_
  simp only [impl_placesIn_n3, wpO_bind, wpO_cond, wpO_map, wpO_some] at h
  exact Awp.of (by kernel_rfl) h

theorem impl_placesIn_n4_l (x3659 : List Int) (x3664 : Int) (x3663 : List Int) : Link impl_placesIn_ctx LL (Code.fst (Code.snd (Code.fst (Code.snd (Code.snd (bodyOf Tryd.f89)))))) (Ann.fst (Ann.snd (Ann.fst (Ann.snd (Ann.snd impl_placesIn_an))))) (⟨mkE 24 0 [(3, .slc 0), (10, .dat (.list (.int .i64)) x3659), (11, .dat (.int .i64) x3664), (12, .dat (.int .i64) 0)], [some (.seq (.int .i64) x3663)]⟩ : St) (impl_placesIn_n4 x3659 x3664 x3663) (fun (t : (List Int)) => ((Exit.exit 0), (⟨mkE 24 0 [(3, .slc 0)], [some (.seq (.int .i64) t)]⟩ : St))) := by
  unfold impl_placesIn_n4
  exact Link.cast (by kernel_rfl) (by kernel_rfl) (link_loop (mk := fun (s : Int × (List Int)) => (⟨mkE 24 0 [(3, .slc 0), (10, .dat (.list (.int .i64)) x3659), (11, .dat (.int .i64) x3664), (12, .dat (.int .i64) s.1)], [some (.seq (.int .i64) s.2)]⟩ : St)) (fin := (fun (t : (List Int)) => ((Exit.exit 0), (⟨mkE 24 0 [(3, .slc 0)], [some (.seq (.int .i64) t)]⟩ : St)))) (by
  rintro t f K h
  · exact h) (fun s => link_map (impl_placesIn_n3_l x3659 x3664 s.1 s.2) (Sum.elim (fun (t : Int × (List Int)) => Sum.inl (t.1, t.2)) (fun (t : (List Int)) => Sum.inr t)) (by
  rintro (t | t)
  · kernel_rfl
  · kernel_rfl)) (0, x3663))

theorem impl_placesIn_n5_l (x3659 : List Int) (x3664 : Int) (x3663 : List Int) : Link impl_placesIn_ctx LL (Code.snd (Code.fst (Code.snd (Code.snd (bodyOf Tryd.f89))))) (Ann.snd (Ann.fst (Ann.snd (Ann.snd impl_placesIn_an)))) (⟨mkE 24 0 [(3, .slc 0), (10, .dat (.list (.int .i64)) x3659), (11, .dat (.int .i64) x3664), (12, .dat (.int .i64) 0)], [some (.seq (.int .i64) x3663)]⟩ : St) (impl_placesIn_n5 x3659 x3664 x3663) (fun (t : (List Int)) => (Exit.normal, (⟨mkE 24 0 [(3, .slc 0)], [some (.seq (.int .i64) t)]⟩ : St))) := by
  unfold impl_placesIn_n5
  exact Link.cast (by kernel_rfl) (by kernel_rfl) (link_block (id := 0) (impl_placesIn_n4_l x3659 x3664 x3663) (fun (t : (List Int)) => t) (by
  rintro t K h
  · exact Eq.mp (by kernel_rfl) h))

theorem impl_placesIn_n6_l (x3659 : List Int) (x3663 : List Int) : Link impl_placesIn_ctx LL (Code.fst (Code.snd (Code.snd (bodyOf Tryd.f89)))) (Ann.fst (Ann.snd (Ann.snd impl_placesIn_an))) (⟨mkE 24 0 [(0, .dat (.list (.int .i64)) x3659), (3, .slc 0)], [some (.seq (.int .i64) x3663)]⟩ : St) (impl_placesIn_n6 x3659 x3663) (fun (t : (List Int)) => (Exit.normal, (⟨mkE 24 0 [(3, .slc 0)], [some (.seq (.int .i64) t)]⟩ : St))) := by
  unfold impl_placesIn_n6
  exact Link.cast (by kernel_rfl) (by kernel_rfl) (link_seq (b := (Code.snd (Code.fst (Code.snd (Code.snd (bodyOf Tryd.f89)))))) (y := (Ann.snd (Ann.fst (Ann.snd (Ann.snd impl_placesIn_an))))) (impl_placesIn_n2_l x3659 x3663) (fun (t : Int) => (impl_placesIn_n5_l x3659 t x3663)))

theorem impl_placesIn_n7_l (x3679 : List Int) : Link impl_placesIn_ctx LL (Code.snd (Code.snd (Code.snd (bodyOf Tryd.f89)))) (Ann.snd (Ann.snd (Ann.snd impl_placesIn_an))) (⟨mkE 24 0 [(3, .slc 0)], [some (.seq (.int .i64) x3679)]⟩ : St) (impl_placesIn_n7 x3679) (fun (t : (List Int)) => (Exit.ret, (⟨mkE 24 0 [(2, .slc 0)], [some (.seq (.int .i64) t)]⟩ : St))) := by
  refine Link.of fun K h => ?_
  simp only [impl_placesIn_n7, wpO_bind, wpO_cond, wpO_map, wpO_some] at h
  exact Awp.of (by kernel_rfl) h

theorem impl_placesIn_n8_l (x3659 : List Int) (x3663 : List Int) : Link impl_placesIn_ctx LL (Code.snd (Code.snd (bodyOf Tryd.f89))) (Ann.snd (Ann.snd impl_placesIn_an)) (⟨mkE 24 0 [(0, .dat (.list (.int .i64)) x3659), (3, .slc 0)], [some (.seq (.int .i64) x3663)]⟩ : St) (impl_placesIn_n8 x3659 x3663) (fun (t : (List Int)) => (Exit.ret, (⟨mkE 24 0 [(2, .slc 0)], [some (.seq (.int .i64) t)]⟩ : St))) := by
  unfold impl_placesIn_n8
  exact Link.cast (by kernel_rfl) (by kernel_rfl) (link_seq (b := (Code.snd (Code.snd (Code.snd (bodyOf Tryd.f89))))) (y := (Ann.snd (Ann.snd (Ann.snd impl_placesIn_an)))) (impl_placesIn_n6_l x3659 x3663) (fun (t : (List Int)) => (impl_placesIn_n7_l t)))

theorem impl_placesIn_n9_l (x3659 : List Int) : Link impl_placesIn_ctx LL (bodyOf Tryd.f89) impl_placesIn_an (⟨mkE 24 0 [(0, .dat (.list (.int .i64)) x3659)], []⟩ : St) (impl_placesIn_n9 x3659) (fun (t : (List Int)) => (Exit.ret, (⟨mkE 24 0 [(2, .slc 0)], [some (.seq (.int .i64) t)]⟩ : St))) := by
  unfold impl_placesIn_n9
  exact Link.cast (by kernel_rfl) (by kernel_rfl) (link_group (c := (Code.fst (Code.snd (bodyOf Tryd.f89)))) (a := (Ann.fst (Ann.snd impl_placesIn_an))) [(Code.fst (bodyOf Tryd.f89))] [(Ann.fst impl_placesIn_an)] rfl (link_seq (b := (Code.snd (Code.snd (bodyOf Tryd.f89)))) (y := (Ann.snd (Ann.snd impl_placesIn_an))) (impl_placesIn_n1_l x3659) (fun (t : (List Int)) => (impl_placesIn_n8_l x3659 t))))

theorem impl_placesIn_e (x3659 : List Int) {r : AV} {H' : Heap} (h : (Ans.mk _ (impl_placesIn x3659) (fun (t : (List Int)) => (.slc 0, [some (.seq (.int .i64) t)]))).run = some (r, H')) : Awp impl_placesIn_ctx LL (bodyOf Tryd.f89) impl_placesIn_an (⟨mkE 24 0 [(0, .dat (.list (.int .i64)) x3659)], []⟩ : St) (Ret (tlook tys) Tryd.f89.results.toList r H') :=
  ret_of' (impl_placesIn_n9_l x3659) (by unfold impl_placesIn; kernel_rfl) (by
  intro t
  exact ret_mk [.slc 0] (by kernel_rfl) (by kernel_rfl) (by kernel_rfl) (by kernel_rfl)) h

def F_impl_placesIn : Fun := fun avs H =>
  match avs, H with
  | [.dat (.list (.int .i64)) x3659], [] => ⟨_, impl_placesIn x3659, fun (t : (List Int)) => (.slc 0, [some (.seq (.int .i64) t)])⟩
  | _, _ => Ans.no

theorem impl_placesIn_sound : Sound Tryd.prog 89 F_impl_placesIn := by
  refine fn_sound' (C := impl_placesIn_ctx) (c := bodyOf Tryd.f89) (cok_of tys_ok (by simp) (by simp) (by kernel_rfl)) Tryd.func89 (by kernel_rfl) LL impl_placesIn_an ?_
  intro avs H r H' h
  unfold F_impl_placesIn at h
  split at h
  · refine Awp.cast ?_ ?_ ?_ (impl_placesIn_e _ h) <;> kernel_rfl
  · simp [Ans.no, Ans.run] at h

/-! loop.example/headtrees/impl.PutInOrder$1 -/

def impl_PutInOrder_1_an : Ann := (.seq (.leaf [0, 1]) (.seq (.leaf [3]) (.leaf [3])))

noncomputable def impl_PutInOrder_1_ctx : Ctx := ⟨tlook tys, olook [], ioF, 2⟩

theorem impl_PutInOrder_1_n1_l (x3713 : Int) (x3714 : List Int) : Link impl_PutInOrder_1_ctx LL (bodyOf Tryd.f91) impl_PutInOrder_1_an (⟨mkE 8 0 [(0, .dat (.int .i64) x3713), (1, .ptr 0 0)], [some (.box [.slc 1]), some (.seq (.int .i64) x3714)]⟩ : St) (impl_PutInOrder_1_n1 x3713 x3714) (fun (t : Int) => (Exit.ret, (⟨mkE 8 0 [(3, .dat (.int .i64) t)], [some (.box [.slc 1]), some (.seq (.int .i64) x3714)]⟩ : St))) := by
  refine Link.of fun K h => ?_
  simp only [impl_PutInOrder_1_n1, wpO_bind, wpO_cond, wpO_map, wpO_some] at h
  exact Awp.of (by kernel_rfl) h

theorem impl_PutInOrder_1_e (x3713 : Int) (x3714 : List Int) {r : AV} {H' : Heap} (h : (Ans.mk _ (impl_PutInOrder_1 x3713 x3714) (fun (t : Int) => (.dat (.int .i64) t, [some (.box [.slc 1]), some (.seq (.int .i64) x3714)]))).run = some (r, H')) : Awp impl_PutInOrder_1_ctx LL (bodyOf Tryd.f91) impl_PutInOrder_1_an (⟨mkE 8 0 [(0, .dat (.int .i64) x3713), (1, .ptr 0 0)], [some (.box [.slc 1]), some (.seq (.int .i64) x3714)]⟩ : St) (Ret (tlook tys) Tryd.f91.results.toList r H') :=
  ret_of' (impl_PutInOrder_1_n1_l x3713 x3714) (by unfold impl_PutInOrder_1; kernel_rfl) (by
  intro t
  exact ret_mk [.dat (.int .i64) t] (by kernel_rfl) (by kernel_rfl) (by kernel_rfl) (by kernel_rfl)) h

def F_impl_PutInOrder_1 : Fun := fun avs H =>
  match avs, H with
  | [.dat (.int .i64) x3713, .ptr 0 0], [some (.box [.slc 1]), some (.seq (.int .i64) x3714)] => ⟨_, impl_PutInOrder_1 x3713 x3714, fun (t : Int) => (.dat (.int .i64) t, [some (.box [.slc 1]), some (.seq (.int .i64) x3714)])⟩
  | _, _ => Ans.no

theorem impl_PutInOrder_1_sound : Sound Tryd.prog 91 F_impl_PutInOrder_1 := by
  refine fn_sound' (C := impl_PutInOrder_1_ctx) (c := bodyOf Tryd.f91) (cok_of tys_ok (by simp) (by simp) (by kernel_rfl)) Tryd.func91 (by kernel_rfl) LL impl_PutInOrder_1_an ?_
  intro avs H r H' h
  unfold F_impl_PutInOrder_1 at h
  split at h
  · refine Awp.cast ?_ ?_ ?_ (impl_PutInOrder_1_e _ _ h) <;> kernel_rfl
  · simp [Ans.no, Ans.run] at h

/-! loop.example/headtrees/impl.renamed[int] -/

def impl_renamed_int_an : Ann := (.seq (.leaf [0, 1, 2]) (.seq (.leaf [0, 1, 2, 7]) (.seq (.seq (.leaf [0, 2, 7, 13, 14, 15]) (.block (.loop (.seq (.leaf [0, 2, 7, 13, 14, 15, 16]) (.seq (.cond (.leaf [0, 2, 7, 13, 14, 15]) (.leaf [7])) (.seq (.block (.seq (.leaf [0, 2, 7, 8, 9, 13, 14, 15]) (.leaf [0, 2, 7, 13, 14, 15]))) (.leaf [0, 2, 7, 13, 14, 15]))))))) (.seq (.leaf [6]) (.leaf [6])))))

noncomputable def impl_renamed_int_ctx : Ctx := ⟨tlook tys, olook [(91, F_impl_PutInOrder_1)], ioF, 2⟩

theorem impl_renamed_int_n1_l (x3700 : List Int) (x3701 : List Int) (x3702 : List Int) : Link impl_renamed_int_ctx LL (Code.seq (Code.fst (bodyOf Tryd.f90)) (Code.fst (Code.snd (bodyOf Tryd.f90)))) (Ann.seq (Ann.fst impl_renamed_int_an) (Ann.fst (Ann.snd impl_renamed_int_an))) (⟨mkE 32 0 [(0, .dat (.list (.int .i64)) x3700), (1, .dat (.list (.int .i64)) x3701), (2, .fn 91 [] [.ptr 0 0])], [some (.box [.slc 1]), some (.seq (.int .i64) x3702)]⟩ : St) (impl_renamed_int_n1 x3701) (fun (t : (List Int)) => (Exit.normal, (⟨mkE 32 0 [(0, .dat (.list (.int .i64)) x3700), (1, .dat (.list (.int .i64)) x3701), (2, .fn 91 [] [.ptr 0 0]), (7, .slc 2)], [some (.box [.slc 1]), some (.seq (.int .i64) x3702), some (.seq (.int .i64) t)]⟩ : St))) := by
  refine Link.of fun K h => ?_
  simp only [impl_renamed_int_n1, wpO_bind, wpO_cond, wpO_map, wpO_some] at h
  exact Awp.of (by kernel_rfl) h

theorem impl_renamed_int_n2_l (x3700 : List Int) (x3701 : List Int) (x3702 : List Int) (x3705 : List Int) : Link impl_renamed_int_ctx LL (Code.fst (Code.fst (Code.snd (Code.snd (bodyOf Tryd.f90))))) (Ann.fst (Ann.fst (Ann.snd (Ann.snd impl_renamed_int_an)))) (⟨mkE 32 0 [(0, .dat (.list (.int .i64)) x3700), (1, .dat (.list (.int .i64)) x3701), (2, .fn 91 [] [.ptr 0 0]), (7, .slc 2)], [some (.box [.slc 1]), some (.seq (.int .i64) x3702), some (.seq (.int .i64) x3705)]⟩ : St) (impl_renamed_int_n2 x3701) (fun (t : Int) => (Exit.normal, (⟨mkE 32 0 [(0, .dat (.list (.int .i64)) x3700), (2, .fn 91 [] [.ptr 0 0]), (7, .slc 2), (13, .dat (.list (.int .i64)) x3701), (14, .dat (.int .i64) t), (15, .dat (.int .i64) 0)], [some (.box [.slc 1]), some (.seq (.int .i64) x3702), some (.seq (.int .i64) x3705)]⟩ : St))) := by
  refine Link.of fun K h => ?_
  simp only [impl_renamed_int_n2, wpO_bind, wpO_cond, wpO_map, wpO_some] at h
  exact Awp.of (by kernel_rfl) h

theorem impl_renamed_int_n3_l (x3700 : List Int) (x3701 : List Int) (x3706 : Int) (x3730 : Int) (x3702 : List Int) (x3731 : List Int) : Link impl_renamed_int_ctx LL (Code.fst (Code.fst (Code.snd (Code.fst (Code.snd (Code.snd (bodyOf Tryd.f90))))))) (Ann.fst (Ann.fst (Ann.snd (Ann.fst (Ann.snd (Ann.snd impl_renamed_int_an)))))) (⟨mkE 32 0 [(0, .dat (.list (.int .i64)) x3700), (2, .fn 91 [] [.ptr 0 0]), (7, .slc 2), (13, .dat (.list (.int .i64)) x3701), (14, .dat (.int .i64) x3706), (15, .dat (.int .i64) x3730)], [some (.box [.slc 1]), some (.seq (.int .i64) x3702), some (.seq (.int .i64) x3731)]⟩ : St) (impl_renamed_int_n3 x3700 x3701 x3706 x3730 x3702 x3731) (Sum.elim (fun (t : Int × (List Int)) => (Exit.normal, (⟨mkE 32 0 [(0, .dat (.list (.int .i64)) x3700), (2, .fn 91 [] [.ptr 0 0]), (7, .slc 2), (13, .dat (.list (.int .i64)) x3701), (14, .dat (.int .i64) x3706), (15, .dat (.int .i64) t.1)], [some (.box [.slc 1]), some (.seq (.int .i64) x3702), some (.seq (.int .i64) t.2)]⟩ : St))) (fun (t : (List Int)) => ((Exit.exit 0), (⟨mkE 32 0 [(7, .slc 2)], [some (.box [.slc 1]), some (.seq (.int .i64) x3702), some (.seq (.int .i64) t)]⟩ : St)))) := by
  refine Link.of fun K h => ?_
  simp only [impl_renamed_int_n3, wpO_bind, wpO_cond, wpO_map, wpO_some] at h
  exact Awp.of (by kernel_rfl) h

theorem impl_renamed_int_n4_l (x3700 : List Int) (x3701 : List Int) (x3706 : Int) (x3702 : List Int) (x3705 : List Int) : Link impl_renamed_int_ctx LL (Code.fst (Code.snd (Code.fst (Code.snd (Code.snd (bodyOf Tryd.f90)))))) (Ann.fst (Ann.snd (Ann.fst (Ann.snd (Ann.snd impl_renamed_int_an))))) (⟨mkE 32 0 [(0, .dat (.list (.int .i64)) x3700), (2, .fn 91 [] [.ptr 0 0]), (7, .slc 2), (13, .dat (.list (.int .i64)) x3701), (14, .dat (.int .i64) x3706), (15, .dat (.int .i64) 0)], [some (.box [.slc 1]), some (.seq (.int .i64) x3702), some (.seq (.int .i64) x3705)]⟩ : St) (impl_renamed_int_n4 x3700 x3701 x3706 x3702 x3705) (fun (t : (List Int)) => ((Exit.exit 0), (⟨mkE 32 0 [(7, .slc 2)], [some (.box [.slc 1]), some (.seq (.int .i64) x3702), some (.seq (.int .i64) t)]⟩ : St))) := by
  unfold impl_renamed_int_n4
  exact Link.cast (by kernel_rfl) (by kernel_rfl) (link_loop (mk := fun (s : Int × (List Int)) => (⟨mkE 32 0 [(0, .dat (.list (.int .i64)) x3700), (2, .fn 91 [] [.ptr 0 0]), (7, .slc 2), (13, .dat (.list (.int .i64)) x3701), (14, .dat (.int .i64) x3706), (15, .dat (.int .i64) s.1)], [some (.box [.slc 1]), some (.seq (.int .i64) x3702), some (.seq (.int .i64) s.2)]⟩ : St)) (fin := (fun (t : (List Int)) => ((Exit.exit 0), (⟨mkE 32 0 [(7, .slc 2)], [some (.box [.slc 1]), some (.seq (.int .i64) x3702), some (.seq (.int .i64) t)]⟩ : St)))) (by
  rintro t f K h
  · exact h) (fun s => link_map (impl_renamed_int_n3_l x3700 x3701 x3706 s.1 x3702 s.2) (Sum.elim (fun (t : Int × (List Int)) => Sum.inl (t.1, t.2)) (fun (t : (List Int)) => Sum.inr t)) (by
  rintro (t | t)
  · kernel_rfl
  · kernel_rfl)) (0, x3705))

theorem impl_renamed_int_n5_l (x3700 : List Int) (x3701 : List Int) (x3706 : Int) (x3702 : List Int) (x3705 : List Int) : Link impl_renamed_int_ctx LL (Code.snd (Code.fst (Code.snd (Code.snd (bodyOf Tryd.f90))))) (Ann.snd (Ann.fst (Ann.snd (Ann.snd impl_renamed_int_an)))) (⟨mkE 32 0 [(0, .dat (.list (.int .i64)) x3700), (2, .fn 91 [] [.ptr 0 0]), (7, .slc 2), (13, .dat (.list (.int .i64)) x3701), (14, .dat (.int .i64) x3706), (15, .dat (.int .i64) 0)], [some (.box [.slc 1]), some (.seq (.int .i64) x3702), some (.seq (.int .i64) x3705)]⟩ : St) (impl_renamed_int_n5 x3700 x3701 x3706 x3702 x3705) (fun (t : (List Int)) => (Exit.normal, (⟨mkE 32 0 [(7, .slc 2)], [some (.box [.slc 1]), some (.seq (.int .i64) x3702), some (.seq (.int .i64) t)]⟩ : St))) := by
  unfold impl_renamed_int_n5
  exact Link.cast (by kernel_rfl) (by kernel_rfl) (link_block (id := 0) (impl_renamed_int_n4_l x3700 x3701 x3706 x3702 x3705) (fun (t : (List Int)) => t) (by
  rintro t K h
  · exact Eq.mp (by kernel_rfl) h))

theorem impl_renamed_int_n6_l (x3700 : List Int) (x3701 : List Int) (x3702 : List Int) (x3705 : List Int) : Link impl_renamed_int_ctx LL (Code.fst (Code.snd (Code.snd (bodyOf Tryd.f90)))) (Ann.fst (Ann.snd (Ann.snd impl_renamed_int_an))) (⟨mkE 32 0 [(0, .dat (.list (.int .i64)) x3700), (1, .dat (.list (.int .i64)) x3701), (2, .fn 91 [] [.ptr 0 0]), (7, .slc 2)], [some (.box [.slc 1]), some (.seq (.int .i64) x3702), some (.seq (.int .i64) x3705)]⟩ : St) (impl_renamed_int_n6 x3700 x3701 x3702 x3705) (fun (t : (List Int)) => (Exit.normal, (⟨mkE 32 0 [(7, .slc 2)], [some (.box [.slc 1]), some (.seq (.int .i64) x3702), some (.seq (.int .i64) t)]⟩ : St))) := by
  unfold impl_renamed_int_n6
  exact Link.cast (by kernel_rfl) (by kernel_rfl) (link_seq (b := (Code.snd (Code.fst (Code.snd (Code.snd (bodyOf Tryd.f90)))))) (y := (Ann.snd (Ann.fst (Ann.snd (Ann.snd impl_renamed_int_an))))) (impl_renamed_int_n2_l x3700 x3701 x3702 x3705) (fun (t : Int) => (impl_renamed_int_n5_l x3700 x3701 t x3702 x3705)))

theorem impl_renamed_int_n7_l (x3702 : List Int) (x3731 : List Int) : Link impl_renamed_int_ctx LL (Code.snd (Code.snd (Code.snd (bodyOf Tryd.f90)))) (Ann.snd (Ann.snd (Ann.snd impl_renamed_int_an))) (⟨mkE 32 0 [(7, .slc 2)], [some (.box [.slc 1]), some (.seq (.int .i64) x3702), some (.seq (.int .i64) x3731)]⟩ : St) (impl_renamed_int_n7 x3731) (fun (t : (List Int)) => (Exit.ret, (⟨mkE 32 0 [(6, .slc 2)], [some (.box [.slc 1]), some (.seq (.int .i64) x3702), some (.seq (.int .i64) t)]⟩ : St))) := by
  refine Link.of fun K h => ?_
  simp only [impl_renamed_int_n7, wpO_bind, wpO_cond, wpO_map, wpO_some] at h
  exact Awp.of (by kernel_rfl) h

theorem impl_renamed_int_n8_l (x3700 : List Int) (x3701 : List Int) (x3702 : List Int) (x3705 : List Int) : Link impl_renamed_int_ctx LL (Code.snd (Code.snd (bodyOf Tryd.f90))) (Ann.snd (Ann.snd impl_renamed_int_an)) (⟨mkE 32 0 [(0, .dat (.list (.int .i64)) x3700), (1, .dat (.list (.int .i64)) x3701), (2, .fn 91 [] [.ptr 0 0]), (7, .slc 2)], [some (.box [.slc 1]), some (.seq (.int .i64) x3702), some (.seq (.int .i64) x3705)]⟩ : St) (impl_renamed_int_n8 x3700 x3701 x3702 x3705) (fun (t : (List Int)) => (Exit.ret, (⟨mkE 32 0 [(6, .slc 2)], [some (.box [.slc 1]), some (.seq (.int .i64) x3702), some (.seq (.int .i64) t)]⟩ : St))) := by
  unfold impl_renamed_int_n8
  exact Link.cast (by kernel_rfl) (by kernel_rfl) (link_seq (b := (Code.snd (Code.snd (Code.snd (bodyOf Tryd.f90))))) (y := (Ann.snd (Ann.snd (Ann.snd impl_renamed_int_an)))) (impl_renamed_int_n6_l x3700 x3701 x3702 x3705) (fun (t : (List Int)) => (impl_renamed_int_n7_l x3702 t)))

theorem impl_renamed_int_n9_l (x3700 : List Int) (x3701 : List Int) (x3702 : List Int) : Link impl_renamed_int_ctx LL (bodyOf Tryd.f90) impl_renamed_int_an (⟨mkE 32 0 [(0, .dat (.list (.int .i64)) x3700), (1, .dat (.list (.int .i64)) x3701), (2, .fn 91 [] [.ptr 0 0])], [some (.box [.slc 1]), some (.seq (.int .i64) x3702)]⟩ : St) (impl_renamed_int_n9 x3700 x3701 x3702) (fun (t : (List Int)) => (Exit.ret, (⟨mkE 32 0 [(6, .slc 2)], [some (.box [.slc 1]), some (.seq (.int .i64) x3702), some (.seq (.int .i64) t)]⟩ : St))) := by
  unfold impl_renamed_int_n9
  exact Link.cast (by kernel_rfl) (by kernel_rfl) (link_group (c := (Code.fst (Code.snd (bodyOf Tryd.f90)))) (a := (Ann.fst (Ann.snd impl_renamed_int_an))) [(Code.fst (bodyOf Tryd.f90))] [(Ann.fst impl_renamed_int_an)] rfl (link_seq (b := (Code.snd (Code.snd (bodyOf Tryd.f90)))) (y := (Ann.snd (Ann.snd impl_renamed_int_an))) (impl_renamed_int_n1_l x3700 x3701 x3702) (fun (t : (List Int)) => (impl_renamed_int_n8_l x3700 x3701 x3702 t))))

theorem impl_renamed_int_e (x3700 : List Int) (x3701 : List Int) (x3702 : List Int) {r : AV} {H' : Heap} (h : (Ans.mk _ (impl_renamed_int x3700 x3701 x3702) (fun (t : (List Int)) => (.slc 2, [some (.box [.slc 1]), some (.seq (.int .i64) x3702), some (.seq (.int .i64) t)]))).run = some (r, H')) : Awp impl_renamed_int_ctx LL (bodyOf Tryd.f90) impl_renamed_int_an (⟨mkE 32 0 [(0, .dat (.list (.int .i64)) x3700), (1, .dat (.list (.int .i64)) x3701), (2, .fn 91 [] [.ptr 0 0])], [some (.box [.slc 1]), some (.seq (.int .i64) x3702)]⟩ : St) (Ret (tlook tys) Tryd.f90.results.toList r H') :=
  ret_of' (impl_renamed_int_n9_l x3700 x3701 x3702) (by unfold impl_renamed_int; kernel_rfl) (by
  intro t
  exact ret_mk [.slc 2] (by kernel_rfl) (by kernel_rfl) (by kernel_rfl) (by kernel_rfl)) h

def F_impl_renamed_int : Fun := fun avs H =>
  match avs, H with
  | [.dat (.list (.int .i64)) x3700, .dat (.list (.int .i64)) x3701, .fn 91 [] [.ptr 0 0]], [some (.box [.slc 1]), some (.seq (.int .i64) x3702)] => ⟨_, impl_renamed_int x3700 x3701 x3702, fun (t : (List Int)) => (.slc 2, [some (.box [.slc 1]), some (.seq (.int .i64) x3702), some (.seq (.int .i64) t)])⟩
  | _, _ => Ans.no

theorem impl_renamed_int_sound : Sound Tryd.prog 90 F_impl_renamed_int := by
  refine fn_sound' (C := impl_renamed_int_ctx) (c := bodyOf Tryd.f90) (cok_of tys_ok (List.forall_mem_cons.2 ⟨impl_PutInOrder_1_sound, by simp⟩) (List.forall_mem_cons.2 ⟨Tryd.call91, by simp⟩) (by kernel_rfl)) Tryd.func90 (by kernel_rfl) LL impl_renamed_int_an ?_
  intro avs H r H' h
  unfold F_impl_renamed_int at h
  split at h
  · refine Awp.cast ?_ ?_ ?_ (impl_renamed_int_e _ _ _ h) <;> kernel_rfl
  · simp [Ans.no, Ans.run] at h

/-! loop.example/headtrees/impl.PutInOrder -/

def impl_PutInOrder_an : Ann := (.seq (.leaf [0, 1]) (.seq (.seq (.leaf [0, 1, 16]) (.cond (.seq (.leaf [4, 5]) (.leaf [4, 5])) (.leaf [0, 1]))) (.seq (.leaf [0, 1, 6]) (.seq (.leaf [4, 5]) (.leaf [4, 5])))))

noncomputable def impl_PutInOrder_ctx : Ctx := ⟨tlook tys, olook [(40, F_impl_TreeOk), (88, F_impl_OrderOk), (89, F_impl_placesIn), (90, F_impl_renamed_int)], ioF, 0⟩

theorem impl_PutInOrder_n1_l (x3586 : List Int) (x3587 : List Int) : Link impl_PutInOrder_ctx LL (bodyOf Tryd.f77) impl_PutInOrder_an (⟨mkE 23 0 [(0, .dat (.list (.int .i64)) x3586), (1, .dat (.list (.int .i64)) x3587)], []⟩ : St) (impl_PutInOrder_n1 x3586 x3587) (fun (t : Bool × (List Int)) => (Exit.ret, (⟨mkE 23 0 [(4, .slc 0), (5, .dat .bool t.1)], [some (.seq (.int .i64) t.2)]⟩ : St))) := by
  refine Link.of fun K h => ?_
  simp only [impl_PutInOrder_n1, wpO_bind, wpO_cond, wpO_map, wpO_some] at h
  exact Awp.of (by kernel_rfl) h

theorem impl_PutInOrder_e (x3586 : List Int) (x3587 : List Int) {r : AV} {H' : Heap} (h : (Ans.mk _ (impl_PutInOrder x3586 x3587) (fun (t : Bool × (List Int)) => (.tup [.slc 0, .dat .bool t.1], [some (.seq (.int .i64) t.2)]))).run = some (r, H')) : Awp impl_PutInOrder_ctx LL (bodyOf Tryd.f77) impl_PutInOrder_an (⟨mkE 23 0 [(0, .dat (.list (.int .i64)) x3586), (1, .dat (.list (.int .i64)) x3587)], []⟩ : St) (Ret (tlook tys) Tryd.f77.results.toList r H') :=
  ret_of' (impl_PutInOrder_n1_l x3586 x3587) (by unfold impl_PutInOrder; kernel_rfl) (by
  intro t
  exact ret_mk [.slc 0, .dat .bool t.1] (by kernel_rfl) (by kernel_rfl) (by kernel_rfl) (by kernel_rfl)) h

def F_impl_PutInOrder : Fun := fun avs H =>
  match avs, H with
  | [.dat (.list (.int .i64)) x3586, .dat (.list (.int .i64)) x3587], [] => ⟨_, impl_PutInOrder x3586 x3587, fun (t : Bool × (List Int)) => (.tup [.slc 0, .dat .bool t.1], [some (.seq (.int .i64) t.2)])⟩
  | _, _ => Ans.no

theorem impl_PutInOrder_sound : Sound Tryd.prog 77 F_impl_PutInOrder := by
  refine fn_sound' (C := impl_PutInOrder_ctx) (c := bodyOf Tryd.f77) (cok_of tys_ok (List.forall_mem_cons.2 ⟨impl_TreeOk_sound, List.forall_mem_cons.2 ⟨impl_OrderOk_sound, List.forall_mem_cons.2 ⟨impl_placesIn_sound, List.forall_mem_cons.2 ⟨impl_renamed_int_sound, by simp⟩⟩⟩⟩) (List.forall_mem_cons.2 ⟨Tryd.call40, List.forall_mem_cons.2 ⟨Tryd.call88, List.forall_mem_cons.2 ⟨Tryd.call89, List.forall_mem_cons.2 ⟨Tryd.call90, by simp⟩⟩⟩⟩) (by kernel_rfl)) Tryd.func77 (by kernel_rfl) LL impl_PutInOrder_an ?_
  intro avs H r H' h
  unfold F_impl_PutInOrder at h
  split at h
  · refine Awp.cast ?_ ?_ ?_ (impl_PutInOrder_e _ _ h) <;> kernel_rfl
  · simp [Ans.no, Ans.run] at h

/-! loop.example/headtrees/impl.BackOf -/

def impl_BackOf_an : Ann := (.seq (.leaf [0]) (.seq (.seq (.leaf [0, 7]) (.cond (.seq (.leaf [2]) (.leaf [2])) (.leaf [0]))) (.seq (.leaf [3]) (.seq (.leaf [2]) (.leaf [2])))))

noncomputable def impl_BackOf_ctx : Ctx := ⟨tlook tys, olook [(40, F_impl_TreeOk), (78, F_impl_lastToFirst), (77, F_impl_PutInOrder)], ioF, 0⟩

theorem impl_BackOf_n1_l (x3551 : List Int) : Link impl_BackOf_ctx LL (bodyOf Tryd.f42) impl_BackOf_an (⟨mkE 17 0 [(0, .dat (.list (.int .i64)) x3551)], []⟩ : St) (impl_BackOf_n1 x3551) (fun (t : (List Int)) => (Exit.ret, (⟨mkE 17 0 [(2, .slc 0)], [some (.seq (.int .i64) t)]⟩ : St))) := by
  refine Link.of fun K h => ?_
  simp only [impl_BackOf_n1, wpO_bind, wpO_cond, wpO_map, wpO_some] at h
  exact Awp.of (by kernel_rfl) h

theorem impl_BackOf_e (x3551 : List Int) {r : AV} {H' : Heap} (h : (Ans.mk _ (impl_BackOf x3551) (fun (t : (List Int)) => (.slc 0, [some (.seq (.int .i64) t)]))).run = some (r, H')) : Awp impl_BackOf_ctx LL (bodyOf Tryd.f42) impl_BackOf_an (⟨mkE 17 0 [(0, .dat (.list (.int .i64)) x3551)], []⟩ : St) (Ret (tlook tys) Tryd.f42.results.toList r H') :=
  ret_of' (impl_BackOf_n1_l x3551) (by unfold impl_BackOf; kernel_rfl) (by
  intro t
  exact ret_mk [.slc 0] (by kernel_rfl) (by kernel_rfl) (by kernel_rfl) (by kernel_rfl)) h

def F_impl_BackOf : Fun := fun avs H =>
  match avs, H with
  | [.dat (.list (.int .i64)) x3551], [] => ⟨_, impl_BackOf x3551, fun (t : (List Int)) => (.slc 0, [some (.seq (.int .i64) t)])⟩
  | _, _ => Ans.no

theorem impl_BackOf_sound : Sound Tryd.prog 42 F_impl_BackOf := by
  refine fn_sound' (C := impl_BackOf_ctx) (c := bodyOf Tryd.f42) (cok_of tys_ok (List.forall_mem_cons.2 ⟨impl_TreeOk_sound, List.forall_mem_cons.2 ⟨impl_lastToFirst_sound, List.forall_mem_cons.2 ⟨impl_PutInOrder_sound, by simp⟩⟩⟩) (List.forall_mem_cons.2 ⟨Tryd.call40, List.forall_mem_cons.2 ⟨Tryd.call78, List.forall_mem_cons.2 ⟨Tryd.call77, by simp⟩⟩⟩) (by kernel_rfl)) Tryd.func42 (by kernel_rfl) LL impl_BackOf_an ?_
  intro avs H r H' h
  unfold F_impl_BackOf at h
  split at h
  · refine Awp.cast ?_ ?_ ?_ (impl_BackOf_e _ h) <;> kernel_rfl
  · simp [Ans.no, Ans.run] at h

/-! loop.example/headtrees/spec.BackOf -/

def spec_BackOf_an : Ann := (.seq (.leaf [0]) (.seq (.leaf [0, 3]) (.seq (.leaf [0, 3, 4]) (.seq (.seq (.leaf [0, 3, 4, 5]) (.block (.loop (.seq (.seq (.leaf [0, 3, 4, 5, 16]) (.cond (.leaf [0, 3, 4, 5]) (.leaf [3]))) (.seq (.block (.seq (.leaf [0, 3, 4, 5, 23]) (.cond (.leaf [0, 3, 4, 5]) (.leaf [0, 3, 4, 5])))) (.leaf [0, 3, 4, 5])))))) (.seq (.leaf [2]) (.leaf [2]))))))

noncomputable def spec_BackOf_ctx : Ctx := ⟨tlook tys, olook [(27, F_spec_TreeOk)], ioF, 0⟩

theorem spec_BackOf_n1_l (x3782 : List Int) : Link spec_BackOf_ctx LL (Code.seq (Code.fst (bodyOf Tryd.f47)) (Code.seq (Code.fst (Code.snd (bodyOf Tryd.f47))) (Code.fst (Code.snd (Code.snd (bodyOf Tryd.f47)))))) (Ann.seq (Ann.fst spec_BackOf_an) (Ann.seq (Ann.fst (Ann.snd spec_BackOf_an)) (Ann.fst (Ann.snd (Ann.snd spec_BackOf_an))))) (⟨mkE 38 0 [(0, .dat (.list (.int .i64)) x3782)], []⟩ : St) (spec_BackOf_n1 x3782) (fun (t : Int) => (Exit.normal, (⟨mkE 38 0 [(0, .dat (.list (.int .i64)) x3782), (3, .slc 0), (4, .dat (.int .i64) t)], [some (.seq (.int .i64) ([] : List Int))]⟩ : St))) := by
  refine Link.of fun K h => ?_
  simp only [spec_BackOf_n1, wpO_bind, wpO_cond, wpO_map, wpO_some] at h
  exact Awp.of (by kernel_rfl) h

theorem spec_BackOf_n2_l (x3782 : List Int) (x3783 : Int) : Link spec_BackOf_ctx LL (Code.fst (Code.fst (Code.snd (Code.snd (Code.snd (bodyOf Tryd.f47)))))) (Ann.fst (Ann.fst (Ann.snd (Ann.snd (Ann.snd spec_BackOf_an))))) (⟨mkE 38 0 [(0, .dat (.list (.int .i64)) x3782), (3, .slc 0), (4, .dat (.int .i64) x3783)], [some (.seq (.int .i64) ([] : List Int))]⟩ : St) (spec_BackOf_n2 x3783) (fun (t : Int) => (Exit.normal, (⟨mkE 38 0 [(0, .dat (.list (.int .i64)) x3782), (3, .slc 0), (4, .dat (.int .i64) x3783), (5, .dat (.int .i64) t)], [some (.seq (.int .i64) ([] : List Int))]⟩ : St))) := by
  refine Link.of fun K h => ?_
  simp only [spec_BackOf_n2, wpO_bind, wpO_cond, wpO_map, wpO_some] at h
  exact Awp.of (by kernel_rfl) h

theorem spec_BackOf_n3_l (x3782 : List Int) (x3783 : Int) (x3821 : Int) (x3822 : List Int) : Link spec_BackOf_ctx LL (Code.fst (Code.fst (Code.snd (Code.fst (Code.snd (Code.snd (Code.snd (bodyOf Tryd.f47)))))))) (Ann.fst (Ann.fst (Ann.snd (Ann.fst (Ann.snd (Ann.snd (Ann.snd spec_BackOf_an))))))) (⟨mkE 38 0 [(0, .dat (.list (.int .i64)) x3782), (3, .slc 0), (4, .dat (.int .i64) x3783), (5, .dat (.int .i64) x3821)], [some (.seq (.int .i64) x3822)]⟩ : St) (spec_BackOf_n3 x3782 x3783 x3821 x3822) (Sum.elim (fun (t : Int × (List Int)) => (Exit.normal, (⟨mkE 38 0 [(0, .dat (.list (.int .i64)) x3782), (3, .slc 0), (4, .dat (.int .i64) x3783), (5, .dat (.int .i64) t.1)], [some (.seq (.int .i64) t.2)]⟩ : St))) (fun (t : (List Int)) => ((Exit.exit 0), (⟨mkE 38 0 [(3, .slc 0)], [some (.seq (.int .i64) t)]⟩ : St)))) := by
  refine Link.of fun K h => ?_
  simp only [spec_BackOf_n3, wpO_bind, wpO_cond, wpO_map, wpO_some] at h
  exact Awp.of (by kernel_rfl) h

theorem spec_BackOf_n4_l (x3782 : List Int) (x3783 : Int) (x3784 : Int) : Link spec_BackOf_ctx LL (Code.fst (Code.snd (Code.fst (Code.snd (Code.snd (Code.snd (bodyOf Tryd.f47))))))) (Ann.fst (Ann.snd (Ann.fst (Ann.snd (Ann.snd (Ann.snd spec_BackOf_an)))))) (⟨mkE 38 0 [(0, .dat (.list (.int .i64)) x3782), (3, .slc 0), (4, .dat (.int .i64) x3783), (5, .dat (.int .i64) x3784)], [some (.seq (.int .i64) ([] : List Int))]⟩ : St) (spec_BackOf_n4 x3782 x3783 x3784) (fun (t : (List Int)) => ((Exit.exit 0), (⟨mkE 38 0 [(3, .slc 0)], [some (.seq (.int .i64) t)]⟩ : St))) := by
  unfold spec_BackOf_n4
  exact Link.cast (by kernel_rfl) (by kernel_rfl) (link_loop (mk := fun (s : Int × (List Int)) => (⟨mkE 38 0 [(0, .dat (.list (.int .i64)) x3782), (3, .slc 0), (4, .dat (.int .i64) x3783), (5, .dat (.int .i64) s.1)], [some (.seq (.int .i64) s.2)]⟩ : St)) (fin := (fun (t : (List Int)) => ((Exit.exit 0), (⟨mkE 38 0 [(3, .slc 0)], [some (.seq (.int .i64) t)]⟩ : St)))) (by
  rintro t f K h
  · exact h) (fun s => link_map (spec_BackOf_n3_l x3782 x3783 s.1 s.2) (Sum.elim (fun (t : Int × (List Int)) => Sum.inl (t.1, t.2)) (fun (t : (List Int)) => Sum.inr t)) (by
  rintro (t | t)
  · kernel_rfl
  · kernel_rfl)) (x3784, ([] : List Int)))

theorem spec_BackOf_n5_l (x3782 : List Int) (x3783 : Int) (x3784 : Int) : Link spec_BackOf_ctx LL (Code.snd (Code.fst (Code.snd (Code.snd (Code.snd (bodyOf Tryd.f47)))))) (Ann.snd (Ann.fst (Ann.snd (Ann.snd (Ann.snd spec_BackOf_an))))) (⟨mkE 38 0 [(0, .dat (.list (.int .i64)) x3782), (3, .slc 0), (4, .dat (.int .i64) x3783), (5, .dat (.int .i64) x3784)], [some (.seq (.int .i64) ([] : List Int))]⟩ : St) (spec_BackOf_n5 x3782 x3783 x3784) (fun (t : (List Int)) => (Exit.normal, (⟨mkE 38 0 [(3, .slc 0)], [some (.seq (.int .i64) t)]⟩ : St))) := by
  unfold spec_BackOf_n5
  exact Link.cast (by kernel_rfl) (by kernel_rfl) (link_block (id := 0) (spec_BackOf_n4_l x3782 x3783 x3784) (fun (t : (List Int)) => t) (by
  rintro t K h
  · exact Eq.mp (by kernel_rfl) h))

theorem spec_BackOf_n6_l (x3782 : List Int) (x3783 : Int) : Link spec_BackOf_ctx LL (Code.fst (Code.snd (Code.snd (Code.snd (bodyOf Tryd.f47))))) (Ann.fst (Ann.snd (Ann.snd (Ann.snd spec_BackOf_an)))) (⟨mkE 38 0 [(0, .dat (.list (.int .i64)) x3782), (3, .slc 0), (4, .dat (.int .i64) x3783)], [some (.seq (.int .i64) ([] : List Int))]⟩ : St) (spec_BackOf_n6 x3782 x3783) (fun (t : (List Int)) => (Exit.normal, (⟨mkE 38 0 [(3, .slc 0)], [some (.seq (.int .i64) t)]⟩ : St))) := by
  unfold spec_BackOf_n6
  exact Link.cast (by kernel_rfl) (by kernel_rfl) (link_seq (b := (Code.snd (Code.fst (Code.snd (Code.snd (Code.snd (bodyOf Tryd.f47))))))) (y := (Ann.snd (Ann.fst (Ann.snd (Ann.snd (Ann.snd spec_BackOf_an)))))) (spec_BackOf_n2_l x3782 x3783) (fun (t : Int) => (spec_BackOf_n5_l x3782 x3783 t)))

theorem spec_BackOf_n7_l (x3822 : List Int) : Link spec_BackOf_ctx LL (Code.snd (Code.snd (Code.snd (Code.snd (bodyOf Tryd.f47))))) (Ann.snd (Ann.snd (Ann.snd (Ann.snd spec_BackOf_an)))) (⟨mkE 38 0 [(3, .slc 0)], [some (.seq (.int .i64) x3822)]⟩ : St) (spec_BackOf_n7 x3822) (fun (t : (List Int)) => (Exit.ret, (⟨mkE 38 0 [(2, .slc 0)], [some (.seq (.int .i64) t)]⟩ : St))) := by
  refine Link.of fun K h => ?_
  simp only [spec_BackOf_n7, wpO_bind, wpO_cond, wpO_map, wpO_some] at h
  exact Awp.of (by kernel_rfl) h

theorem spec_BackOf_n8_l (x3782 : List Int) (x3783 : Int) : Link spec_BackOf_ctx LL (Code.snd (Code.snd (Code.snd (bodyOf Tryd.f47)))) (Ann.snd (Ann.snd (Ann.snd spec_BackOf_an))) (⟨mkE 38 0 [(0, .dat (.list (.int .i64)) x3782), (3, .slc 0), (4, .dat (.int .i64) x3783)], [some (.seq (.int .i64) ([] : List Int))]⟩ : St) (spec_BackOf_n8 x3782 x3783) (fun (t : (List Int)) => (Exit.ret, (⟨mkE 38 0 [(2, .slc 0)], [some (.seq (.int .i64) t)]⟩ : St))) := by
  unfold spec_BackOf_n8
  exact Link.cast (by kernel_rfl) (by kernel_rfl) (link_seq (b := (Code.snd (Code.snd (Code.snd (Code.snd (bodyOf Tryd.f47)))))) (y := (Ann.snd (Ann.snd (Ann.snd (Ann.snd spec_BackOf_an))))) (spec_BackOf_n6_l x3782 x3783) (fun (t : (List Int)) => (spec_BackOf_n7_l t)))

theorem spec_BackOf_n9_l (x3782 : List Int) : Link spec_BackOf_ctx LL (bodyOf Tryd.f47) spec_BackOf_an (⟨mkE 38 0 [(0, .dat (.list (.int .i64)) x3782)], []⟩ : St) (spec_BackOf_n9 x3782) (fun (t : (List Int)) => (Exit.ret, (⟨mkE 38 0 [(2, .slc 0)], [some (.seq (.int .i64) t)]⟩ : St))) := by
  unfold spec_BackOf_n9
  exact Link.cast (by kernel_rfl) (by kernel_rfl) (link_group (c := (Code.fst (Code.snd (Code.snd (bodyOf Tryd.f47))))) (a := (Ann.fst (Ann.snd (Ann.snd spec_BackOf_an)))) [(Code.fst (bodyOf Tryd.f47)), (Code.fst (Code.snd (bodyOf Tryd.f47)))] [(Ann.fst spec_BackOf_an), (Ann.fst (Ann.snd spec_BackOf_an))] rfl (link_seq (b := (Code.snd (Code.snd (Code.snd (bodyOf Tryd.f47))))) (y := (Ann.snd (Ann.snd (Ann.snd spec_BackOf_an)))) (spec_BackOf_n1_l x3782) (fun (t : Int) => (spec_BackOf_n8_l x3782 t))))

theorem spec_BackOf_e (x3782 : List Int) {r : AV} {H' : Heap} (h : (Ans.mk _ (spec_BackOf x3782) (fun (t : (List Int)) => (.slc 0, [some (.seq (.int .i64) t)]))).run = some (r, H')) : Awp spec_BackOf_ctx LL (bodyOf Tryd.f47) spec_BackOf_an (⟨mkE 38 0 [(0, .dat (.list (.int .i64)) x3782)], []⟩ : St) (Ret (tlook tys) Tryd.f47.results.toList r H') :=
  ret_of' (spec_BackOf_n9_l x3782) (by unfold spec_BackOf; kernel_rfl) (by
  intro t
  exact ret_mk [.slc 0] (by kernel_rfl) (by kernel_rfl) (by kernel_rfl) (by kernel_rfl)) h

def F_spec_BackOf : Fun := fun avs H =>
  match avs, H with
  | [.dat (.list (.int .i64)) x3782], [] => ⟨_, spec_BackOf x3782, fun (t : (List Int)) => (.slc 0, [some (.seq (.int .i64) t)])⟩
  | _, _ => Ans.no

theorem spec_BackOf_sound : Sound Tryd.prog 47 F_spec_BackOf := by
  refine fn_sound' (C := spec_BackOf_ctx) (c := bodyOf Tryd.f47) (cok_of tys_ok (List.forall_mem_cons.2 ⟨spec_TreeOk_sound, by simp⟩) (List.forall_mem_cons.2 ⟨Tryd.call27, by simp⟩) (by kernel_rfl)) Tryd.func47 (by kernel_rfl) LL spec_BackOf_an ?_
  intro avs H r H' h
  unfold F_spec_BackOf at h
  split at h
  · refine Awp.cast ?_ ?_ ?_ (spec_BackOf_e _ h) <;> kernel_rfl
  · simp [Ans.no, Ans.run] at h

/-! loop.example/headtrees/laws.FnBackOf -/

def laws_FnBackOf_an : Ann := (.seq (.leaf [0]) (.seq (.seq (.leaf [0, 10]) (.cond (.seq (.leaf [2]) (.leaf [2])) (.leaf [0]))) (.seq (.leaf [3]) (.seq (.leaf [3, 4]) (.seq (.seq (.leaf [3, 4, 19]) (.cond (.seq (.leaf [2]) (.leaf [2])) (.leaf [3, 4]))) (.seq (.seq (.leaf [3, 4, 22]) (.cond (.seq (.leaf [2]) (.leaf [2])) (.leaf [3, 4]))) (.seq (.leaf [3, 4, 5]) (.seq (.leaf [3, 4, 5, 6]) (.seq (.seq (.leaf [3, 4, 5, 6, 44]) (.cond (.seq (.leaf [2]) (.leaf [2])) (.leaf [3, 4, 5, 6]))) (.seq (.seq (.leaf [3, 4, 5, 6, 7]) (.block (.loop (.seq (.seq (.leaf [3, 4, 5, 6, 7, 48]) (.cond (.leaf [3, 4, 5, 6, 7]) (.leaf [3, 4]))) (.seq (.block (.seq (.draw [] [0, 1, 2, 3, 4, 5, 6, 7, 8, 9, 10, 11, 12] [] [3, 4, 5, 6, 7, 63]) (.cond (.seq (.leaf [2]) (.leaf [2])) (.leaf [3, 4, 5, 6, 7])))) (.leaf [3, 4, 5, 6, 7])))))) (.seq (.leaf [2]) (.leaf [2]))))))))))))

noncomputable def laws_FnBackOf_ctx : Ctx := ⟨tlook tys, olook [(46, F_spec_DrawBackOf), (42, F_impl_BackOf), (47, F_spec_BackOf), (18, F_laws_sameInts), (40, F_impl_TreeOk), (20, F_laws_alive), (48, F_impl_DepthOf), (41, F_impl_FlatOk)], ioF, 0⟩

end Go.Rv
