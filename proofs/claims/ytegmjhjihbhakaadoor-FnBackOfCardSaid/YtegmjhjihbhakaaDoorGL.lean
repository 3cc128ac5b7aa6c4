/-
  The checked code answers as the plain functions do; written by program. Conditions: none.
-/
import Derived.Test.YtegmjhjihbhakaaDoorGLc
set_option linter.unusedVariables false
set_option linter.unusedSimpArgs false
set_option maxRecDepth 100000
namespace Go.Rv
open Go.Proofs
theorem laws_FnBackOf_n1_l (x3533 : List Int) : Link laws_FnBackOf_ctx LL (Code.seq (Code.fst (bodyOf Tryd.f10)) (Code.seq (Code.fst (Code.snd (bodyOf Tryd.f10))) (Code.seq (Code.fst (Code.snd (Code.snd (bodyOf Tryd.f10)))) (Code.seq (Code.fst (Code.snd (Code.snd (Code.snd (bodyOf Tryd.f10))))) (Code.seq (Code.fst (Code.snd (Code.snd (Code.snd (Code.snd (bodyOf Tryd.f10)))))) (Code.seq (Code.fst (Code.snd (Code.snd (Code.snd (Code.snd (Code.snd (bodyOf Tryd.f10))))))) (Code.seq (Code.fst (Code.snd (Code.snd (Code.snd (Code.snd (Code.snd (Code.snd (bodyOf Tryd.f10)))))))) (Code.seq (Code.fst (Code.snd (Code.snd (Code.snd (Code.snd (Code.snd (Code.snd (Code.snd (bodyOf Tryd.f10))))))))) (Code.fst (Code.snd (Code.snd (Code.snd (Code.snd (Code.snd (Code.snd (Code.snd (Code.snd (bodyOf Tryd.f10)))))))))))))))))) (Ann.seq (Ann.fst laws_FnBackOf_an) (Ann.seq (Ann.fst (Ann.snd laws_FnBackOf_an)) (Ann.seq (Ann.fst (Ann.snd (Ann.snd laws_FnBackOf_an))) (Ann.seq (Ann.fst (Ann.snd (Ann.snd (Ann.snd laws_FnBackOf_an)))) (Ann.seq (Ann.fst (Ann.snd (Ann.snd (Ann.snd (Ann.snd laws_FnBackOf_an))))) (Ann.seq (Ann.fst (Ann.snd (Ann.snd (Ann.snd (Ann.snd (Ann.snd laws_FnBackOf_an)))))) (Ann.seq (Ann.fst (Ann.snd (Ann.snd (Ann.snd (Ann.snd (Ann.snd (Ann.snd laws_FnBackOf_an))))))) (Ann.seq (Ann.fst (Ann.snd (Ann.snd (Ann.snd (Ann.snd (Ann.snd (Ann.snd (Ann.snd laws_FnBackOf_an)))))))) (Ann.fst (Ann.snd (Ann.snd (Ann.snd (Ann.snd (Ann.snd (Ann.snd (Ann.snd (Ann.snd laws_FnBackOf_an))))))))))))))))) (⟨mkE 79 0 [(0, .dat (.list (.int .u8)) x3533)], []⟩ : St) (laws_FnBackOf_n1 x3533) (Sum.elim (fun (t : (List Int) × (List Int) × (List Int) × (List Int)) => (Exit.normal, (⟨mkE 79 0 [(3, .slc 0), (4, .slc 1), (5, .slc 2), (6, .slc 3)], [some (.seq (.int .i64) t.1), some (.seq (.int .i64) t.2.1), some (.seq (.int .i64) t.2.2.1), some (.seq (.int .i64) t.2.2.2)]⟩ : St))) (fun (t : Bool) => (Exit.ret, (⟨mkE 79 0 [(2, .dat .bool t)], []⟩ : St)))) := by
  refine Link.of fun K h => ?_
  simp only [laws_FnBackOf_n1, wpO_bind, wpO_cond, wpO_map, wpO_some] at h
  exact Awp.of (by kernel_rfl) h

theorem laws_FnBackOf_n2_l (x3903 : List Int) (x3904 : List Int) (x3913 : List Int) (x3914 : List Int) : Link laws_FnBackOf_ctx LL (Code.fst (Code.fst (Code.snd (Code.snd (Code.snd (Code.snd (Code.snd (Code.snd (Code.snd (Code.snd (Code.snd (bodyOf Tryd.f10)))))))))))) (Ann.fst (Ann.fst (Ann.snd (Ann.snd (Ann.snd (Ann.snd (Ann.snd (Ann.snd (Ann.snd (Ann.snd (Ann.snd laws_FnBackOf_an))))))))))) (⟨mkE 79 0 [(3, .slc 0), (4, .slc 1), (5, .slc 2), (6, .slc 3)], [some (.seq (.int .i64) x3903), some (.seq (.int .i64) x3904), some (.seq (.int .i64) x3913), some (.seq (.int .i64) x3914)]⟩ : St) (laws_FnBackOf_n2) (fun (t : Unit) => (Exit.normal, (⟨mkE 79 0 [(3, .slc 0), (4, .slc 1), (5, .slc 2), (6, .slc 3), (7, .dat (.int .i64) 0)], [some (.seq (.int .i64) x3903), some (.seq (.int .i64) x3904), some (.seq (.int .i64) x3913), some (.seq (.int .i64) x3914)]⟩ : St))) := by
  refine Link.of fun K h => ?_
  simp only [laws_FnBackOf_n2, wpO_bind, wpO_cond, wpO_map, wpO_some] at h
  exact Awp.of (by kernel_rfl) h

theorem laws_FnBackOf_n3_l (x3944 : Int) (x3903 : List Int) (x3904 : List Int) (x3913 : List Int) (x3914 : List Int) : Link laws_FnBackOf_ctx LL (Code.fst (Code.fst (Code.snd (Code.fst (Code.snd (Code.snd (Code.snd (Code.snd (Code.snd (Code.snd (Code.snd (Code.snd (Code.snd (bodyOf Tryd.f10)))))))))))))) (Ann.fst (Ann.fst (Ann.snd (Ann.fst (Ann.snd (Ann.snd (Ann.snd (Ann.snd (Ann.snd (Ann.snd (Ann.snd (Ann.snd (Ann.snd laws_FnBackOf_an))))))))))))) (⟨mkE 79 0 [(3, .slc 0), (4, .slc 1), (5, .slc 2), (6, .slc 3), (7, .dat (.int .i64) x3944)], [some (.seq (.int .i64) x3903), some (.seq (.int .i64) x3904), some (.seq (.int .i64) x3913), some (.seq (.int .i64) x3914)]⟩ : St) (laws_FnBackOf_n3 x3944 x3913 x3914) (Sum.elim (fun (t : Int) => (Exit.normal, (⟨mkE 79 0 [(3, .slc 0), (4, .slc 1), (5, .slc 2), (6, .slc 3), (7, .dat (.int .i64) t)], [some (.seq (.int .i64) x3903), some (.seq (.int .i64) x3904), some (.seq (.int .i64) x3913), some (.seq (.int .i64) x3914)]⟩ : St))) (Sum.elim (fun (t : Bool) => (Exit.ret, (⟨mkE 79 0 [(2, .dat .bool t)], []⟩ : St))) (fun (t : Unit) => ((Exit.exit 0), (⟨mkE 79 0 [(3, .slc 0), (4, .slc 1)], [some (.seq (.int .i64) x3903), some (.seq (.int .i64) x3904)]⟩ : St))))) := by
  refine Link.of fun K h => ?_
  simp only [laws_FnBackOf_n3, wpO_bind, wpO_cond, wpO_map, wpO_some] at h
  exact Awp.of (by kernel_rfl) h

theorem laws_FnBackOf_n4_l (x3903 : List Int) (x3904 : List Int) (x3913 : List Int) (x3914 : List Int) : Link laws_FnBackOf_ctx LL (Code.fst (Code.snd (Code.fst (Code.snd (Code.snd (Code.snd (Code.snd (Code.snd (Code.snd (Code.snd (Code.snd (Code.snd (bodyOf Tryd.f10))))))))))))) (Ann.fst (Ann.snd (Ann.fst (Ann.snd (Ann.snd (Ann.snd (Ann.snd (Ann.snd (Ann.snd (Ann.snd (Ann.snd (Ann.snd laws_FnBackOf_an)))))))))))) (⟨mkE 79 0 [(3, .slc 0), (4, .slc 1), (5, .slc 2), (6, .slc 3), (7, .dat (.int .i64) 0)], [some (.seq (.int .i64) x3903), some (.seq (.int .i64) x3904), some (.seq (.int .i64) x3913), some (.seq (.int .i64) x3914)]⟩ : St) (laws_FnBackOf_n4 x3913 x3914) (Sum.elim (fun (t : Bool) => (Exit.ret, (⟨mkE 79 0 [(2, .dat .bool t)], []⟩ : St))) (fun (t : Unit) => ((Exit.exit 0), (⟨mkE 79 0 [(3, .slc 0), (4, .slc 1)], [some (.seq (.int .i64) x3903), some (.seq (.int .i64) x3904)]⟩ : St)))) := by
  unfold laws_FnBackOf_n4
  exact Link.cast (by kernel_rfl) (by kernel_rfl) (link_loop (mk := fun (s : Int) => (⟨mkE 79 0 [(3, .slc 0), (4, .slc 1), (5, .slc 2), (6, .slc 3), (7, .dat (.int .i64) s)], [some (.seq (.int .i64) x3903), some (.seq (.int .i64) x3904), some (.seq (.int .i64) x3913), some (.seq (.int .i64) x3914)]⟩ : St)) (fin := (Sum.elim (fun (t : Bool) => (Exit.ret, (⟨mkE 79 0 [(2, .dat .bool t)], []⟩ : St))) (fun (t : Unit) => ((Exit.exit 0), (⟨mkE 79 0 [(3, .slc 0), (4, .slc 1)], [some (.seq (.int .i64) x3903), some (.seq (.int .i64) x3904)]⟩ : St))))) (by
  rintro (t | t) f K h
  · exact h
  · exact h) (fun s => link_map (laws_FnBackOf_n3_l s x3903 x3904 x3913 x3914) (Sum.elim (fun (t : Int) => Sum.inl t) (Sum.elim (fun (t : Bool) => Sum.inr (Sum.inl t)) (fun (t : Unit) => Sum.inr (Sum.inr t)))) (by
  rintro (t | t | t)
  · kernel_rfl
  · kernel_rfl
  · kernel_rfl)) 0)

theorem laws_FnBackOf_n5_l (x3903 : List Int) (x3904 : List Int) (x3913 : List Int) (x3914 : List Int) : Link laws_FnBackOf_ctx LL (Code.snd (Code.fst (Code.snd (Code.snd (Code.snd (Code.snd (Code.snd (Code.snd (Code.snd (Code.snd (Code.snd (bodyOf Tryd.f10)))))))))))) (Ann.snd (Ann.fst (Ann.snd (Ann.snd (Ann.snd (Ann.snd (Ann.snd (Ann.snd (Ann.snd (Ann.snd (Ann.snd laws_FnBackOf_an))))))))))) (⟨mkE 79 0 [(3, .slc 0), (4, .slc 1), (5, .slc 2), (6, .slc 3), (7, .dat (.int .i64) 0)], [some (.seq (.int .i64) x3903), some (.seq (.int .i64) x3904), some (.seq (.int .i64) x3913), some (.seq (.int .i64) x3914)]⟩ : St) (laws_FnBackOf_n5 x3913 x3914) (Sum.elim (fun (t : Unit) => (Exit.normal, (⟨mkE 79 0 [(3, .slc 0), (4, .slc 1)], [some (.seq (.int .i64) x3903), some (.seq (.int .i64) x3904)]⟩ : St))) (fun (t : Bool) => (Exit.ret, (⟨mkE 79 0 [(2, .dat .bool t)], []⟩ : St)))) := by
  unfold laws_FnBackOf_n5
  exact Link.cast (by kernel_rfl) (by kernel_rfl) (link_block (id := 0) (laws_FnBackOf_n4_l x3903 x3904 x3913 x3914) (Sum.elim (fun (t : Bool) => (Sum.inr t)) (fun (t : Unit) => (Sum.inl ()))) (by
  rintro (t | t) K h
  · exact Eq.mp (by kernel_rfl) h
  · exact Eq.mp (by kernel_rfl) h))

theorem laws_FnBackOf_n6_l (x3903 : List Int) (x3904 : List Int) (x3913 : List Int) (x3914 : List Int) : Link laws_FnBackOf_ctx LL (Code.fst (Code.snd (Code.snd (Code.snd (Code.snd (Code.snd (Code.snd (Code.snd (Code.snd (Code.snd (bodyOf Tryd.f10))))))))))) (Ann.fst (Ann.snd (Ann.snd (Ann.snd (Ann.snd (Ann.snd (Ann.snd (Ann.snd (Ann.snd (Ann.snd laws_FnBackOf_an)))))))))) (⟨mkE 79 0 [(3, .slc 0), (4, .slc 1), (5, .slc 2), (6, .slc 3)], [some (.seq (.int .i64) x3903), some (.seq (.int .i64) x3904), some (.seq (.int .i64) x3913), some (.seq (.int .i64) x3914)]⟩ : St) (laws_FnBackOf_n6 x3913 x3914) (Sum.elim (fun (t : Unit) => (Exit.normal, (⟨mkE 79 0 [(3, .slc 0), (4, .slc 1)], [some (.seq (.int .i64) x3903), some (.seq (.int .i64) x3904)]⟩ : St))) (fun (t : Bool) => (Exit.ret, (⟨mkE 79 0 [(2, .dat .bool t)], []⟩ : St)))) := by
  unfold laws_FnBackOf_n6
  exact Link.cast (by kernel_rfl) (by kernel_rfl) (link_seq (b := (Code.snd (Code.fst (Code.snd (Code.snd (Code.snd (Code.snd (Code.snd (Code.snd (Code.snd (Code.snd (Code.snd (bodyOf Tryd.f10))))))))))))) (y := (Ann.snd (Ann.fst (Ann.snd (Ann.snd (Ann.snd (Ann.snd (Ann.snd (Ann.snd (Ann.snd (Ann.snd (Ann.snd laws_FnBackOf_an)))))))))))) (laws_FnBackOf_n2_l x3903 x3904 x3913 x3914) (fun (t : Unit) => (laws_FnBackOf_n5_l x3903 x3904 x3913 x3914)))

theorem laws_FnBackOf_n7_l (x3903 : List Int) (x3904 : List Int) : Link laws_FnBackOf_ctx LL (Code.snd (Code.snd (Code.snd (Code.snd (Code.snd (Code.snd (Code.snd (Code.snd (Code.snd (Code.snd (bodyOf Tryd.f10))))))))))) (Ann.snd (Ann.snd (Ann.snd (Ann.snd (Ann.snd (Ann.snd (Ann.snd (Ann.snd (Ann.snd (Ann.snd laws_FnBackOf_an)))))))))) (⟨mkE 79 0 [(3, .slc 0), (4, .slc 1)], [some (.seq (.int .i64) x3903), some (.seq (.int .i64) x3904)]⟩ : St) (laws_FnBackOf_n7 x3903 x3904) (fun (t : Bool) => (Exit.ret, (⟨mkE 79 0 [(2, .dat .bool t)], []⟩ : St))) := by
  refine Link.of fun K h => ?_
  simp only [laws_FnBackOf_n7, wpO_bind, wpO_cond, wpO_map, wpO_some] at h
  exact Awp.of (by kernel_rfl) h

theorem laws_FnBackOf_n8_l (x3903 : List Int) (x3904 : List Int) (x3913 : List Int) (x3914 : List Int) : Link laws_FnBackOf_ctx LL (Code.snd (Code.snd (Code.snd (Code.snd (Code.snd (Code.snd (Code.snd (Code.snd (Code.snd (bodyOf Tryd.f10)))))))))) (Ann.snd (Ann.snd (Ann.snd (Ann.snd (Ann.snd (Ann.snd (Ann.snd (Ann.snd (Ann.snd laws_FnBackOf_an))))))))) (⟨mkE 79 0 [(3, .slc 0), (4, .slc 1), (5, .slc 2), (6, .slc 3)], [some (.seq (.int .i64) x3903), some (.seq (.int .i64) x3904), some (.seq (.int .i64) x3913), some (.seq (.int .i64) x3914)]⟩ : St) (laws_FnBackOf_n8 x3903 x3904 x3913 x3914) (fun (t : Bool) => (Exit.ret, (⟨mkE 79 0 [(2, .dat .bool t)], []⟩ : St))) := by
  unfold laws_FnBackOf_n8
  exact Link.cast (by kernel_rfl) (by kernel_rfl) (link_seq2 (b := (Code.snd (Code.snd (Code.snd (Code.snd (Code.snd (Code.snd (Code.snd (Code.snd (Code.snd (Code.snd (bodyOf Tryd.f10)))))))))))) (y := (Ann.snd (Ann.snd (Ann.snd (Ann.snd (Ann.snd (Ann.snd (Ann.snd (Ann.snd (Ann.snd (Ann.snd laws_FnBackOf_an))))))))))) (laws_FnBackOf_n6_l x3903 x3904 x3913 x3914) (fun (t : Unit) => (laws_FnBackOf_n7_l x3903 x3904)) (fun (t : Bool) => t) (by
  rintro t
  · kernel_rfl) (by
  rintro t f K h
  · exact h))

theorem laws_FnBackOf_n9_l (x3533 : List Int) : Link laws_FnBackOf_ctx LL (bodyOf Tryd.f10) laws_FnBackOf_an (⟨mkE 79 0 [(0, .dat (.list (.int .u8)) x3533)], []⟩ : St) (laws_FnBackOf_n9 x3533) (fun (t : Bool) => (Exit.ret, (⟨mkE 79 0 [(2, .dat .bool t)], []⟩ : St))) := by
  unfold laws_FnBackOf_n9
  exact Link.cast (by kernel_rfl) (by kernel_rfl) (link_group (c := (Code.fst (Code.snd (Code.snd (Code.snd (Code.snd (Code.snd (Code.snd (Code.snd (Code.snd (bodyOf Tryd.f10))))))))))) (a := (Ann.fst (Ann.snd (Ann.snd (Ann.snd (Ann.snd (Ann.snd (Ann.snd (Ann.snd (Ann.snd laws_FnBackOf_an)))))))))) [(Code.fst (bodyOf Tryd.f10)), (Code.fst (Code.snd (bodyOf Tryd.f10))), (Code.fst (Code.snd (Code.snd (bodyOf Tryd.f10)))), (Code.fst (Code.snd (Code.snd (Code.snd (bodyOf Tryd.f10))))), (Code.fst (Code.snd (Code.snd (Code.snd (Code.snd (bodyOf Tryd.f10)))))), (Code.fst (Code.snd (Code.snd (Code.snd (Code.snd (Code.snd (bodyOf Tryd.f10))))))), (Code.fst (Code.snd (Code.snd (Code.snd (Code.snd (Code.snd (Code.snd (bodyOf Tryd.f10)))))))), (Code.fst (Code.snd (Code.snd (Code.snd (Code.snd (Code.snd (Code.snd (Code.snd (bodyOf Tryd.f10)))))))))] [(Ann.fst laws_FnBackOf_an), (Ann.fst (Ann.snd laws_FnBackOf_an)), (Ann.fst (Ann.snd (Ann.snd laws_FnBackOf_an))), (Ann.fst (Ann.snd (Ann.snd (Ann.snd laws_FnBackOf_an)))), (Ann.fst (Ann.snd (Ann.snd (Ann.snd (Ann.snd laws_FnBackOf_an))))), (Ann.fst (Ann.snd (Ann.snd (Ann.snd (Ann.snd (Ann.snd laws_FnBackOf_an)))))), (Ann.fst (Ann.snd (Ann.snd (Ann.snd (Ann.snd (Ann.snd (Ann.snd laws_FnBackOf_an))))))), (Ann.fst (Ann.snd (Ann.snd (Ann.snd (Ann.snd (Ann.snd (Ann.snd (Ann.snd laws_FnBackOf_an))))))))] rfl (link_seq2 (b := (Code.snd (Code.snd (Code.snd (Code.snd (Code.snd (Code.snd (Code.snd (Code.snd (Code.snd (bodyOf Tryd.f10))))))))))) (y := (Ann.snd (Ann.snd (Ann.snd (Ann.snd (Ann.snd (Ann.snd (Ann.snd (Ann.snd (Ann.snd laws_FnBackOf_an)))))))))) (laws_FnBackOf_n1_l x3533) (fun (t : (List Int) × (List Int) × (List Int) × (List Int)) => (laws_FnBackOf_n8_l t.1 t.2.1 t.2.2.1 t.2.2.2)) (fun (t : Bool) => t) (by
  rintro t
  · kernel_rfl) (by
  rintro t f K h
  · exact h)))

theorem laws_FnBackOf_e (x3533 : List Int) {r : AV} {H' : Heap} (h : (Ans.mk _ (laws_FnBackOf x3533) (fun (t : Bool) => (.dat .bool t, []))).run = some (r, H')) : Awp laws_FnBackOf_ctx LL (bodyOf Tryd.f10) laws_FnBackOf_an (⟨mkE 79 0 [(0, .dat (.list (.int .u8)) x3533)], []⟩ : St) (Ret (tlook tys) Tryd.f10.results.toList r H') :=
  ret_of' (laws_FnBackOf_n9_l x3533) (by unfold laws_FnBackOf; kernel_rfl) (by
  intro t
  exact ret_mk [.dat .bool t] (by kernel_rfl) (by kernel_rfl) (by kernel_rfl) (by kernel_rfl)) h

def F_laws_FnBackOf : Fun := fun avs H =>
  match avs, H with
  | [.dat (.list (.int .u8)) x3533], [] => ⟨_, laws_FnBackOf x3533, fun (t : Bool) => (.dat .bool t, [])⟩
  | _, _ => Ans.no

theorem laws_FnBackOf_sound : Sound Tryd.prog 10 F_laws_FnBackOf := by
  refine fn_sound' (C := laws_FnBackOf_ctx) (c := bodyOf Tryd.f10) (cok_of tys_ok (List.forall_mem_cons.2 ⟨spec_DrawBackOf_sound, List.forall_mem_cons.2 ⟨impl_BackOf_sound, List.forall_mem_cons.2 ⟨spec_BackOf_sound, List.forall_mem_cons.2 ⟨laws_sameInts_sound, List.forall_mem_cons.2 ⟨impl_TreeOk_sound, List.forall_mem_cons.2 ⟨laws_alive_sound, List.forall_mem_cons.2 ⟨impl_DepthOf_sound, List.forall_mem_cons.2 ⟨impl_FlatOk_sound, by simp⟩⟩⟩⟩⟩⟩⟩⟩) (List.forall_mem_cons.2 ⟨Tryd.call46, List.forall_mem_cons.2 ⟨Tryd.call42, List.forall_mem_cons.2 ⟨Tryd.call47, List.forall_mem_cons.2 ⟨Tryd.call18, List.forall_mem_cons.2 ⟨Tryd.call40, List.forall_mem_cons.2 ⟨Tryd.call20, List.forall_mem_cons.2 ⟨Tryd.call48, List.forall_mem_cons.2 ⟨Tryd.call41, by simp⟩⟩⟩⟩⟩⟩⟩⟩) (by kernel_rfl)) Tryd.func10 (by kernel_rfl) LL laws_FnBackOf_an ?_
  intro avs H r H' h
  unfold F_laws_FnBackOf at h
  split at h
  · refine Awp.cast ?_ ?_ ?_ (laws_FnBackOf_e _ h) <;> kernel_rfl
  · simp [Ans.no, Ans.run] at h

/-! loop.example/headtrees/laws.toIntS -/

def laws_toIntS_an : Ann := (.seq (.leaf [0]) (.seq (.leaf [0, 3]) (.seq (.seq (.leaf [0, 3, 4]) (.block (.loop (.seq (.seq (.leaf [0, 3, 4, 11]) (.cond (.leaf [0, 3, 4]) (.leaf [3]))) (.seq (.block (.leaf [0, 3, 4])) (.leaf [0, 3, 4])))))) (.seq (.leaf [2]) (.leaf [2])))))

noncomputable def laws_toIntS_ctx : Ctx := ⟨tlook tys, olook [], ioF, 0⟩

theorem laws_toIntS_n1_l (x3989 : List Int) : Link laws_toIntS_ctx LL (Code.seq (Code.fst (bodyOf Tryd.f49)) (Code.fst (Code.snd (bodyOf Tryd.f49)))) (Ann.seq (Ann.fst laws_toIntS_an) (Ann.fst (Ann.snd laws_toIntS_an))) (⟨mkE 22 0 [(0, .dat (.list (.int .i64)) x3989)], []⟩ : St) (laws_toIntS_n1 x3989) (fun (t : (List Int)) => (Exit.normal, (⟨mkE 22 0 [(0, .dat (.list (.int .i64)) x3989), (3, .slc 0)], [some (.seq (.int .i64) t)]⟩ : St))) := by
  refine Link.of fun K h => ?_
  simp only [laws_toIntS_n1, wpO_bind, wpO_cond, wpO_map, wpO_some] at h
  exact Awp.of (by kernel_rfl) h

theorem laws_toIntS_n2_l (x3989 : List Int) (x3992 : List Int) : Link laws_toIntS_ctx LL (Code.fst (Code.fst (Code.snd (Code.snd (bodyOf Tryd.f49))))) (Ann.fst (Ann.fst (Ann.snd (Ann.snd laws_toIntS_an)))) (⟨mkE 22 0 [(0, .dat (.list (.int .i64)) x3989), (3, .slc 0)], [some (.seq (.int .i64) x3992)]⟩ : St) (laws_toIntS_n2) (fun (t : Unit) => (Exit.normal, (⟨mkE 22 0 [(0, .dat (.list (.int .i64)) x3989), (3, .slc 0), (4, .dat (.int .i64) 0)], [some (.seq (.int .i64) x3992)]⟩ : St))) := by
  refine Link.of fun K h => ?_
  simp only [laws_toIntS_n2, wpO_bind, wpO_cond, wpO_map, wpO_some] at h
  exact Awp.of (by kernel_rfl) h

theorem laws_toIntS_n3_l (x3989 : List Int) (x4006 : Int) (x4007 : List Int) : Link laws_toIntS_ctx LL (Code.fst (Code.fst (Code.snd (Code.fst (Code.snd (Code.snd (bodyOf Tryd.f49))))))) (Ann.fst (Ann.fst (Ann.snd (Ann.fst (Ann.snd (Ann.snd laws_toIntS_an)))))) (⟨mkE 22 0 [(0, .dat (.list (.int .i64)) x3989), (3, .slc 0), (4, .dat (.int .i64) x4006)], [some (.seq (.int .i64) x4007)]⟩ : St) (laws_toIntS_n3 x3989 x4006 x4007) (Sum.elim (fun (t : Int × (List Int)) => (Exit.normal, (⟨mkE 22 0 [(0, .dat (.list (.int .i64)) x3989), (3, .slc 0), (4, .dat (.int .i64) t.1)], [some (.seq (.int .i64) t.2)]⟩ : St))) (fun (t : (List Int)) => ((Exit.exit 0), (⟨mkE 22 0 [(3, .slc 0)], [some (.seq (.int .i64) t)]⟩ : St)))) := by
  refine Link.of fun K h => ?_
  simp only [laws_toIntS_n3, wpO_bind, wpO_cond, wpO_map, wpO_some] at h
  exact Awp.of (by kernel_rfl) h

theorem laws_toIntS_n4_l (x3989 : List Int) (x3992 : List Int) : Link laws_toIntS_ctx LL (Code.fst (Code.snd (Code.fst (Code.snd (Code.snd (bodyOf Tryd.f49)))))) (Ann.fst (Ann.snd (Ann.fst (Ann.snd (Ann.snd laws_toIntS_an))))) (⟨mkE 22 0 [(0, .dat (.list (.int .i64)) x3989), (3, .slc 0), (4, .dat (.int .i64) 0)], [some (.seq (.int .i64) x3992)]⟩ : St) (laws_toIntS_n4 x3989 x3992) (fun (t : (List Int)) => ((Exit.exit 0), (⟨mkE 22 0 [(3, .slc 0)], [some (.seq (.int .i64) t)]⟩ : St))) := by
  unfold laws_toIntS_n4
  exact Link.cast (by kernel_rfl) (by kernel_rfl) (link_loop (mk := fun (s : Int × (List Int)) => (⟨mkE 22 0 [(0, .dat (.list (.int .i64)) x3989), (3, .slc 0), (4, .dat (.int .i64) s.1)], [some (.seq (.int .i64) s.2)]⟩ : St)) (fin := (fun (t : (List Int)) => ((Exit.exit 0), (⟨mkE 22 0 [(3, .slc 0)], [some (.seq (.int .i64) t)]⟩ : St)))) (by
  rintro t f K h
  · exact h) (fun s => link_map (laws_toIntS_n3_l x3989 s.1 s.2) (Sum.elim (fun (t : Int × (List Int)) => Sum.inl (t.1, t.2)) (fun (t : (List Int)) => Sum.inr t)) (by
  rintro (t | t)
  · kernel_rfl
  · kernel_rfl)) (0, x3992))

theorem laws_toIntS_n5_l (x3989 : List Int) (x3992 : List Int) : Link laws_toIntS_ctx LL (Code.snd (Code.fst (Code.snd (Code.snd (bodyOf Tryd.f49))))) (Ann.snd (Ann.fst (Ann.snd (Ann.snd laws_toIntS_an)))) (⟨mkE 22 0 [(0, .dat (.list (.int .i64)) x3989), (3, .slc 0), (4, .dat (.int .i64) 0)], [some (.seq (.int .i64) x3992)]⟩ : St) (laws_toIntS_n5 x3989 x3992) (fun (t : (List Int)) => (Exit.normal, (⟨mkE 22 0 [(3, .slc 0)], [some (.seq (.int .i64) t)]⟩ : St))) := by
  unfold laws_toIntS_n5
  exact Link.cast (by kernel_rfl) (by kernel_rfl) (link_block (id := 0) (laws_toIntS_n4_l x3989 x3992) (fun (t : (List Int)) => t) (by
  rintro t K h
  · exact Eq.mp (by kernel_rfl) h))

theorem laws_toIntS_n6_l (x3989 : List Int) (x3992 : List Int) : Link laws_toIntS_ctx LL (Code.fst (Code.snd (Code.snd (bodyOf Tryd.f49)))) (Ann.fst (Ann.snd (Ann.snd laws_toIntS_an))) (⟨mkE 22 0 [(0, .dat (.list (.int .i64)) x3989), (3, .slc 0)], [some (.seq (.int .i64) x3992)]⟩ : St) (laws_toIntS_n6 x3989 x3992) (fun (t : (List Int)) => (Exit.normal, (⟨mkE 22 0 [(3, .slc 0)], [some (.seq (.int .i64) t)]⟩ : St))) := by
  unfold laws_toIntS_n6
  exact Link.cast (by kernel_rfl) (by kernel_rfl) (link_seq (b := (Code.snd (Code.fst (Code.snd (Code.snd (bodyOf Tryd.f49)))))) (y := (Ann.snd (Ann.fst (Ann.snd (Ann.snd laws_toIntS_an))))) (laws_toIntS_n2_l x3989 x3992) (fun (t : Unit) => (laws_toIntS_n5_l x3989 x3992)))

theorem laws_toIntS_n7_l (x4007 : List Int) : Link laws_toIntS_ctx LL (Code.snd (Code.snd (Code.snd (bodyOf Tryd.f49)))) (Ann.snd (Ann.snd (Ann.snd laws_toIntS_an))) (⟨mkE 22 0 [(3, .slc 0)], [some (.seq (.int .i64) x4007)]⟩ : St) (laws_toIntS_n7 x4007) (fun (t : (List Int)) => (Exit.ret, (⟨mkE 22 0 [(2, .slc 0)], [some (.seq (.int .i64) t)]⟩ : St))) := by
  refine Link.of fun K h => ?_
  simp only [laws_toIntS_n7, wpO_bind, wpO_cond, wpO_map, wpO_some] at h
  exact Awp.of (by kernel_rfl) h

theorem laws_toIntS_n8_l (x3989 : List Int) (x3992 : List Int) : Link laws_toIntS_ctx LL (Code.snd (Code.snd (bodyOf Tryd.f49))) (Ann.snd (Ann.snd laws_toIntS_an)) (⟨mkE 22 0 [(0, .dat (.list (.int .i64)) x3989), (3, .slc 0)], [some (.seq (.int .i64) x3992)]⟩ : St) (laws_toIntS_n8 x3989 x3992) (fun (t : (List Int)) => (Exit.ret, (⟨mkE 22 0 [(2, .slc 0)], [some (.seq (.int .i64) t)]⟩ : St))) := by
  unfold laws_toIntS_n8
  exact Link.cast (by kernel_rfl) (by kernel_rfl) (link_seq (b := (Code.snd (Code.snd (Code.snd (bodyOf Tryd.f49))))) (y := (Ann.snd (Ann.snd (Ann.snd laws_toIntS_an)))) (laws_toIntS_n6_l x3989 x3992) (fun (t : (List Int)) => (laws_toIntS_n7_l t)))

theorem laws_toIntS_n9_l (x3989 : List Int) : Link laws_toIntS_ctx LL (bodyOf Tryd.f49) laws_toIntS_an (⟨mkE 22 0 [(0, .dat (.list (.int .i64)) x3989)], []⟩ : St) (laws_toIntS_n9 x3989) (fun (t : (List Int)) => (Exit.ret, (⟨mkE 22 0 [(2, .slc 0)], [some (.seq (.int .i64) t)]⟩ : St))) := by
  unfold laws_toIntS_n9
  exact Link.cast (by kernel_rfl) (by kernel_rfl) (link_group (c := (Code.fst (Code.snd (bodyOf Tryd.f49)))) (a := (Ann.fst (Ann.snd laws_toIntS_an))) [(Code.fst (bodyOf Tryd.f49))] [(Ann.fst laws_toIntS_an)] rfl (link_seq (b := (Code.snd (Code.snd (bodyOf Tryd.f49)))) (y := (Ann.snd (Ann.snd laws_toIntS_an))) (laws_toIntS_n1_l x3989) (fun (t : (List Int)) => (laws_toIntS_n8_l x3989 t))))

theorem laws_toIntS_e (x3989 : List Int) {r : AV} {H' : Heap} (h : (Ans.mk _ (laws_toIntS x3989) (fun (t : (List Int)) => (.slc 0, [some (.seq (.int .i64) t)]))).run = some (r, H')) : Awp laws_toIntS_ctx LL (bodyOf Tryd.f49) laws_toIntS_an (⟨mkE 22 0 [(0, .dat (.list (.int .i64)) x3989)], []⟩ : St) (Ret (tlook tys) Tryd.f49.results.toList r H') :=
  ret_of' (laws_toIntS_n9_l x3989) (by unfold laws_toIntS; kernel_rfl) (by
  intro t
  exact ret_mk [.slc 0] (by kernel_rfl) (by kernel_rfl) (by kernel_rfl) (by kernel_rfl)) h

def F_laws_toIntS : Fun := fun avs H =>
  match avs, H with
  | [.dat (.list (.int .i64)) x3989], [] => ⟨_, laws_toIntS x3989, fun (t : (List Int)) => (.slc 0, [some (.seq (.int .i64) t)])⟩
  | _, _ => Ans.no

theorem laws_toIntS_sound : Sound Tryd.prog 49 F_laws_toIntS := by
  refine fn_sound' (C := laws_toIntS_ctx) (c := bodyOf Tryd.f49) (cok_of tys_ok (by simp) (by simp) (by kernel_rfl)) Tryd.func49 (by kernel_rfl) LL laws_toIntS_an ?_
  intro avs H r H' h
  unfold F_laws_toIntS at h
  split at h
  · refine Awp.cast ?_ ?_ ?_ (laws_toIntS_e _ h) <;> kernel_rfl
  · simp [Ans.no, Ans.run] at h

/-! loop.example/headtrees/laws.eqIntS -/

def laws_eqIntS_an : Ann := (.seq (.leaf [0, 1]) (.seq (.seq (.leaf [0, 1, 10]) (.cond (.seq (.leaf [4]) (.leaf [4])) (.leaf [0, 1]))) (.seq (.seq (.leaf [0, 1, 5]) (.block (.loop (.seq (.seq (.leaf [0, 1, 5, 14]) (.cond (.leaf [0, 1, 5]) (.leaf []))) (.seq (.block (.seq (.draw [] [0, 1, 2, 3, 4, 5, 6, 7, 8] [] [0, 1, 5, 25]) (.cond (.seq (.leaf [4]) (.leaf [4])) (.leaf [0, 1, 5])))) (.leaf [0, 1, 5])))))) (.seq (.leaf [4]) (.leaf [4])))))

noncomputable def laws_eqIntS_ctx : Ctx := ⟨tlook tys, olook [], ioF, 0⟩

theorem laws_eqIntS_n1_l (x4040 : List Int) (x4041 : List Int) : Link laws_eqIntS_ctx LL (Code.seq (Code.fst (bodyOf Tryd.f50)) (Code.fst (Code.snd (bodyOf Tryd.f50)))) (Ann.seq (Ann.fst laws_eqIntS_an) (Ann.fst (Ann.snd laws_eqIntS_an))) (⟨mkE 26 0 [(0, .dat (.list (.int .i64)) x4040), (1, .dat (.list (.int .i64)) x4041)], []⟩ : St) (laws_eqIntS_n1 x4040 x4041) (Sum.elim (fun (t : Unit) => (Exit.normal, (⟨mkE 26 0 [(0, .dat (.list (.int .i64)) x4040), (1, .dat (.list (.int .i64)) x4041)], []⟩ : St))) (fun (t : Bool) => (Exit.ret, (⟨mkE 26 0 [(4, .dat .bool t)], []⟩ : St)))) := by
  refine Link.of fun K h => ?_
  simp only [laws_eqIntS_n1, wpO_bind, wpO_cond, wpO_map, wpO_some] at h
  exact Awp.of (by kernel_rfl) h

theorem laws_eqIntS_n2_l (x4040 : List Int) (x4041 : List Int) : Link laws_eqIntS_ctx LL (Code.fst (Code.fst (Code.snd (Code.snd (bodyOf Tryd.f50))))) (Ann.fst (Ann.fst (Ann.snd (Ann.snd laws_eqIntS_an)))) (⟨mkE 26 0 [(0, .dat (.list (.int .i64)) x4040), (1, .dat (.list (.int .i64)) x4041)], []⟩ : St) (laws_eqIntS_n2) (fun (t : Unit) => (Exit.normal, (⟨mkE 26 0 [(0, .dat (.list (.int .i64)) x4040), (1, .dat (.list (.int .i64)) x4041), (5, .dat (.int .i64) 0)], []⟩ : St))) := by
  refine Link.of fun K h => ?_
  simp only [laws_eqIntS_n2, wpO_bind, wpO_cond, wpO_map, wpO_some] at h
  exact Awp.of (by kernel_rfl) h

theorem laws_eqIntS_n3_l (x4040 : List Int) (x4041 : List Int) (x4058 : Int) : Link laws_eqIntS_ctx LL (Code.fst (Code.fst (Code.snd (Code.fst (Code.snd (Code.snd (bodyOf Tryd.f50))))))) (Ann.fst (Ann.fst (Ann.snd (Ann.fst (Ann.snd (Ann.snd laws_eqIntS_an)))))) (⟨mkE 26 0 [(0, .dat (.list (.int .i64)) x4040), (1, .dat (.list (.int .i64)) x4041), (5, .dat (.int .i64) x4058)], []⟩ : St) (laws_eqIntS_n3 x4040 x4041 x4058) (Sum.elim (fun (t : Int) => (Exit.normal, (⟨mkE 26 0 [(0, .dat (.list (.int .i64)) x4040), (1, .dat (.list (.int .i64)) x4041), (5, .dat (.int .i64) t)], []⟩ : St))) (Sum.elim (fun (t : Bool) => (Exit.ret, (⟨mkE 26 0 [(4, .dat .bool t)], []⟩ : St))) (fun (t : Unit) => ((Exit.exit 0), (⟨mkE 26 0 [], []⟩ : St))))) := by
  refine Link.of fun K h => ?_
  simp only [laws_eqIntS_n3, wpO_bind, wpO_cond, wpO_map, wpO_some] at h
  exact Awp.of (by kernel_rfl) h

theorem laws_eqIntS_n4_l (x4040 : List Int) (x4041 : List Int) : Link laws_eqIntS_ctx LL (Code.fst (Code.snd (Code.fst (Code.snd (Code.snd (bodyOf Tryd.f50)))))) (Ann.fst (Ann.snd (Ann.fst (Ann.snd (Ann.snd laws_eqIntS_an))))) (⟨mkE 26 0 [(0, .dat (.list (.int .i64)) x4040), (1, .dat (.list (.int .i64)) x4041), (5, .dat (.int .i64) 0)], []⟩ : St) (laws_eqIntS_n4 x4040 x4041) (Sum.elim (fun (t : Bool) => (Exit.ret, (⟨mkE 26 0 [(4, .dat .bool t)], []⟩ : St))) (fun (t : Unit) => ((Exit.exit 0), (⟨mkE 26 0 [], []⟩ : St)))) := by
  unfold laws_eqIntS_n4
  exact Link.cast (by kernel_rfl) (by kernel_rfl) (link_loop (mk := fun (s : Int) => (⟨mkE 26 0 [(0, .dat (.list (.int .i64)) x4040), (1, .dat (.list (.int .i64)) x4041), (5, .dat (.int .i64) s)], []⟩ : St)) (fin := (Sum.elim (fun (t : Bool) => (Exit.ret, (⟨mkE 26 0 [(4, .dat .bool t)], []⟩ : St))) (fun (t : Unit) => ((Exit.exit 0), (⟨mkE 26 0 [], []⟩ : St))))) (by
  rintro (t | t) f K h
  · exact h
  · exact h) (fun s => link_map (laws_eqIntS_n3_l x4040 x4041 s) (Sum.elim (fun (t : Int) => Sum.inl t) (Sum.elim (fun (t : Bool) => Sum.inr (Sum.inl t)) (fun (t : Unit) => Sum.inr (Sum.inr t)))) (by
  rintro (t | t | t)
  · kernel_rfl
  · kernel_rfl
  · kernel_rfl)) 0)

theorem laws_eqIntS_n5_l (x4040 : List Int) (x4041 : List Int) : Link laws_eqIntS_ctx LL (Code.snd (Code.fst (Code.snd (Code.snd (bodyOf Tryd.f50))))) (Ann.snd (Ann.fst (Ann.snd (Ann.snd laws_eqIntS_an)))) (⟨mkE 26 0 [(0, .dat (.list (.int .i64)) x4040), (1, .dat (.list (.int .i64)) x4041), (5, .dat (.int .i64) 0)], []⟩ : St) (laws_eqIntS_n5 x4040 x4041) (Sum.elim (fun (t : Unit) => (Exit.normal, (⟨mkE 26 0 [], []⟩ : St))) (fun (t : Bool) => (Exit.ret, (⟨mkE 26 0 [(4, .dat .bool t)], []⟩ : St)))) := by
  unfold laws_eqIntS_n5
  exact Link.cast (by kernel_rfl) (by kernel_rfl) (link_block (id := 0) (laws_eqIntS_n4_l x4040 x4041) (Sum.elim (fun (t : Bool) => (Sum.inr t)) (fun (t : Unit) => (Sum.inl ()))) (by
  rintro (t | t) K h
  · exact Eq.mp (by kernel_rfl) h
  · exact Eq.mp (by kernel_rfl) h))

theorem laws_eqIntS_n6_l (x4040 : List Int) (x4041 : List Int) : Link laws_eqIntS_ctx LL (Code.fst (Code.snd (Code.snd (bodyOf Tryd.f50)))) (Ann.fst (Ann.snd (Ann.snd laws_eqIntS_an))) (⟨mkE 26 0 [(0, .dat (.list (.int .i64)) x4040), (1, .dat (.list (.int .i64)) x4041)], []⟩ : St) (laws_eqIntS_n6 x4040 x4041) (Sum.elim (fun (t : Unit) => (Exit.normal, (⟨mkE 26 0 [], []⟩ : St))) (fun (t : Bool) => (Exit.ret, (⟨mkE 26 0 [(4, .dat .bool t)], []⟩ : St)))) := by
  unfold laws_eqIntS_n6
  exact Link.cast (by kernel_rfl) (by kernel_rfl) (link_seq (b := (Code.snd (Code.fst (Code.snd (Code.snd (bodyOf Tryd.f50)))))) (y := (Ann.snd (Ann.fst (Ann.snd (Ann.snd laws_eqIntS_an))))) (laws_eqIntS_n2_l x4040 x4041) (fun (t : Unit) => (laws_eqIntS_n5_l x4040 x4041)))

theorem laws_eqIntS_n7_l : Link laws_eqIntS_ctx LL (Code.snd (Code.snd (Code.snd (bodyOf Tryd.f50)))) (Ann.snd (Ann.snd (Ann.snd laws_eqIntS_an))) (⟨mkE 26 0 [], []⟩ : St) (laws_eqIntS_n7) (fun (t : Bool) => (Exit.ret, (⟨mkE 26 0 [(4, .dat .bool t)], []⟩ : St))) := by
  refine Link.of fun K h => ?_
  simp only [laws_eqIntS_n7, wpO_bind, wpO_cond, wpO_map, wpO_some] at h
  exact Awp.of (by kernel_rfl) h

theorem laws_eqIntS_n8_l (x4040 : List Int) (x4041 : List Int) : Link laws_eqIntS_ctx LL (Code.snd (Code.snd (bodyOf Tryd.f50))) (Ann.snd (Ann.snd laws_eqIntS_an)) (⟨mkE 26 0 [(0, .dat (.list (.int .i64)) x4040), (1, .dat (.list (.int .i64)) x4041)], []⟩ : St) (laws_eqIntS_n8 x4040 x4041) (fun (t : Bool) => (Exit.ret, (⟨mkE 26 0 [(4, .dat .bool t)], []⟩ : St))) := by
  unfold laws_eqIntS_n8
  exact Link.cast (by kernel_rfl) (by kernel_rfl) (link_seq2 (b := (Code.snd (Code.snd (Code.snd (bodyOf Tryd.f50))))) (y := (Ann.snd (Ann.snd (Ann.snd laws_eqIntS_an)))) (laws_eqIntS_n6_l x4040 x4041) (fun (t : Unit) => (laws_eqIntS_n7_l)) (fun (t : Bool) => t) (by
  rintro t
  · kernel_rfl) (by
  rintro t f K h
  · exact h))

theorem laws_eqIntS_n9_l (x4040 : List Int) (x4041 : List Int) : Link laws_eqIntS_ctx LL (bodyOf Tryd.f50) laws_eqIntS_an (⟨mkE 26 0 [(0, .dat (.list (.int .i64)) x4040), (1, .dat (.list (.int .i64)) x4041)], []⟩ : St) (laws_eqIntS_n9 x4040 x4041) (fun (t : Bool) => (Exit.ret, (⟨mkE 26 0 [(4, .dat .bool t)], []⟩ : St))) := by
  unfold laws_eqIntS_n9
  exact Link.cast (by kernel_rfl) (by kernel_rfl) (link_group (c := (Code.fst (Code.snd (bodyOf Tryd.f50)))) (a := (Ann.fst (Ann.snd laws_eqIntS_an))) [(Code.fst (bodyOf Tryd.f50))] [(Ann.fst laws_eqIntS_an)] rfl (link_seq2 (b := (Code.snd (Code.snd (bodyOf Tryd.f50)))) (y := (Ann.snd (Ann.snd laws_eqIntS_an))) (laws_eqIntS_n1_l x4040 x4041) (fun (t : Unit) => (laws_eqIntS_n8_l x4040 x4041)) (fun (t : Bool) => t) (by
  rintro t
  · kernel_rfl) (by
  rintro t f K h
  · exact h)))

theorem laws_eqIntS_e (x4040 : List Int) (x4041 : List Int) {r : AV} {H' : Heap} (h : (Ans.mk _ (laws_eqIntS x4040 x4041) (fun (t : Bool) => (.dat .bool t, []))).run = some (r, H')) : Awp laws_eqIntS_ctx LL (bodyOf Tryd.f50) laws_eqIntS_an (⟨mkE 26 0 [(0, .dat (.list (.int .i64)) x4040), (1, .dat (.list (.int .i64)) x4041)], []⟩ : St) (Ret (tlook tys) Tryd.f50.results.toList r H') :=
  ret_of' (laws_eqIntS_n9_l x4040 x4041) (by unfold laws_eqIntS; kernel_rfl) (by
  intro t
  exact ret_mk [.dat .bool t] (by kernel_rfl) (by kernel_rfl) (by kernel_rfl) (by kernel_rfl)) h

def F_laws_eqIntS : Fun := fun avs H =>
  match avs, H with
  | [.dat (.list (.int .i64)) x4040, .dat (.list (.int .i64)) x4041], [] => ⟨_, laws_eqIntS x4040 x4041, fun (t : Bool) => (.dat .bool t, [])⟩
  | _, _ => Ans.no

theorem laws_eqIntS_sound : Sound Tryd.prog 50 F_laws_eqIntS := by
  refine fn_sound' (C := laws_eqIntS_ctx) (c := bodyOf Tryd.f50) (cok_of tys_ok (by simp) (by simp) (by kernel_rfl)) Tryd.func50 (by kernel_rfl) LL laws_eqIntS_an ?_
  intro avs H r H' h
  unfold F_laws_eqIntS at h
  split at h
  · refine Awp.cast ?_ ?_ ?_ (laws_eqIntS_e _ _ h) <;> kernel_rfl
  · simp [Ans.no, Ans.run] at h

/-! loop.example/headtrees/laws.markIntS -/

def laws_markIntS_an : Ann := (.seq (.leaf [0, 1]) (.seq (.seq (.leaf [0, 1, 5]) (.block (.loop (.seq (.seq (.leaf [0, 1, 5, 9]) (.cond (.leaf [0, 1, 5]) (.leaf [1]))) (.seq (.block (.seq (.leaf [0, 1, 5]) (.leaf [0, 1, 5]))) (.leaf [0, 1, 5])))))) (.seq (.leaf [4]) (.leaf [4]))))

noncomputable def laws_markIntS_ctx : Ctx := ⟨tlook tys, olook [], ioF, 1⟩

theorem laws_markIntS_n1_l (x4108 : Int) (x4109 : List Int) : Link laws_markIntS_ctx LL (Code.fst (bodyOf Tryd.f51)) (Ann.fst laws_markIntS_an) (⟨mkE 19 0 [(0, .slc 0), (1, .dat (.int .i64) x4108)], [some (.seq (.int .i64) x4109)]⟩ : St) (laws_markIntS_n1) (fun (t : Unit) => (Exit.normal, (⟨mkE 19 0 [(0, .slc 0), (1, .dat (.int .i64) x4108)], [some (.seq (.int .i64) x4109)]⟩ : St))) := by
  refine Link.of fun K h => ?_
  simp only [laws_markIntS_n1, wpO_bind, wpO_cond, wpO_map, wpO_some] at h
  exact Awp.of (by kernel_rfl) h

theorem laws_markIntS_n2_l (x4108 : Int) (x4109 : List Int) : Link laws_markIntS_ctx LL (Code.fst (Code.fst (Code.snd (bodyOf Tryd.f51)))) (Ann.fst (Ann.fst (Ann.snd laws_markIntS_an))) (⟨mkE 19 0 [(0, .slc 0), (1, .dat (.int .i64) x4108)], [some (.seq (.int .i64) x4109)]⟩ : St) (laws_markIntS_n2) (fun (t : Unit) => (Exit.normal, (⟨mkE 19 0 [(0, .slc 0), (1, .dat (.int .i64) x4108), (5, .dat (.int .i64) 0)], [some (.seq (.int .i64) x4109)]⟩ : St))) := by
  refine Link.of fun K h => ?_
  simp only [laws_markIntS_n2, wpO_bind, wpO_cond, wpO_map, wpO_some] at h
  exact Awp.of (by kernel_rfl) h

theorem laws_markIntS_n3_l (x4123 : Int) (x4124 : Int) (x4125 : List Int) : Link laws_markIntS_ctx LL (Code.fst (Code.fst (Code.snd (Code.fst (Code.snd (bodyOf Tryd.f51)))))) (Ann.fst (Ann.fst (Ann.snd (Ann.fst (Ann.snd laws_markIntS_an))))) (⟨mkE 19 0 [(0, .slc 0), (1, .dat (.int .i64) x4123), (5, .dat (.int .i64) x4124)], [some (.seq (.int .i64) x4125)]⟩ : St) (laws_markIntS_n3 x4123 x4124 x4125) (Sum.elim (fun (t : Int × Int × (List Int)) => (Exit.normal, (⟨mkE 19 0 [(0, .slc 0), (1, .dat (.int .i64) t.1), (5, .dat (.int .i64) t.2.1)], [some (.seq (.int .i64) t.2.2)]⟩ : St))) (fun (t : Int × (List Int)) => ((Exit.exit 0), (⟨mkE 19 0 [(1, .dat (.int .i64) t.1)], [some (.seq (.int .i64) t.2)]⟩ : St)))) := by
  refine Link.of fun K h => ?_
  simp only [laws_markIntS_n3, wpO_bind, wpO_cond, wpO_map, wpO_some] at h
  exact Awp.of (by kernel_rfl) h

theorem laws_markIntS_n4_l (x4108 : Int) (x4109 : List Int) : Link laws_markIntS_ctx LL (Code.fst (Code.snd (Code.fst (Code.snd (bodyOf Tryd.f51))))) (Ann.fst (Ann.snd (Ann.fst (Ann.snd laws_markIntS_an)))) (⟨mkE 19 0 [(0, .slc 0), (1, .dat (.int .i64) x4108), (5, .dat (.int .i64) 0)], [some (.seq (.int .i64) x4109)]⟩ : St) (laws_markIntS_n4 x4108 x4109) (fun (t : Int × (List Int)) => ((Exit.exit 0), (⟨mkE 19 0 [(1, .dat (.int .i64) t.1)], [some (.seq (.int .i64) t.2)]⟩ : St))) := by
  unfold laws_markIntS_n4
  exact Link.cast (by kernel_rfl) (by kernel_rfl) (link_loop (mk := fun (s : Int × Int × (List Int)) => (⟨mkE 19 0 [(0, .slc 0), (1, .dat (.int .i64) s.1), (5, .dat (.int .i64) s.2.1)], [some (.seq (.int .i64) s.2.2)]⟩ : St)) (fin := (fun (t : Int × (List Int)) => ((Exit.exit 0), (⟨mkE 19 0 [(1, .dat (.int .i64) t.1)], [some (.seq (.int .i64) t.2)]⟩ : St)))) (by
  rintro t f K h
  · exact h) (fun s => link_map (laws_markIntS_n3_l s.1 s.2.1 s.2.2) (Sum.elim (fun (t : Int × Int × (List Int)) => Sum.inl (t.1, t.2.1, t.2.2)) (fun (t : Int × (List Int)) => Sum.inr t)) (by
  rintro (t | t)
  · kernel_rfl
  · kernel_rfl)) (x4108, 0, x4109))

theorem laws_markIntS_n5_l (x4108 : Int) (x4109 : List Int) : Link laws_markIntS_ctx LL (Code.snd (Code.fst (Code.snd (bodyOf Tryd.f51)))) (Ann.snd (Ann.fst (Ann.snd laws_markIntS_an))) (⟨mkE 19 0 [(0, .slc 0), (1, .dat (.int .i64) x4108), (5, .dat (.int .i64) 0)], [some (.seq (.int .i64) x4109)]⟩ : St) (laws_markIntS_n5 x4108 x4109) (fun (t : Int × (List Int)) => (Exit.normal, (⟨mkE 19 0 [(1, .dat (.int .i64) t.1)], [some (.seq (.int .i64) t.2)]⟩ : St))) := by
  unfold laws_markIntS_n5
  exact Link.cast (by kernel_rfl) (by kernel_rfl) (link_block (id := 0) (laws_markIntS_n4_l x4108 x4109) (fun (t : Int × (List Int)) => (t.1, t.2)) (by
  rintro t K h
  · exact Eq.mp (by kernel_rfl) h))

theorem laws_markIntS_n6_l (x4108 : Int) (x4109 : List Int) : Link laws_markIntS_ctx LL (Code.fst (Code.snd (bodyOf Tryd.f51))) (Ann.fst (Ann.snd laws_markIntS_an)) (⟨mkE 19 0 [(0, .slc 0), (1, .dat (.int .i64) x4108)], [some (.seq (.int .i64) x4109)]⟩ : St) (laws_markIntS_n6 x4108 x4109) (fun (t : Int × (List Int)) => (Exit.normal, (⟨mkE 19 0 [(1, .dat (.int .i64) t.1)], [some (.seq (.int .i64) t.2)]⟩ : St))) := by
  unfold laws_markIntS_n6
  exact Link.cast (by kernel_rfl) (by kernel_rfl) (link_seq (b := (Code.snd (Code.fst (Code.snd (bodyOf Tryd.f51))))) (y := (Ann.snd (Ann.fst (Ann.snd laws_markIntS_an)))) (laws_markIntS_n2_l x4108 x4109) (fun (t : Unit) => (laws_markIntS_n5_l x4108 x4109)))

theorem laws_markIntS_n7_l (x4123 : Int) (x4125 : List Int) : Link laws_markIntS_ctx LL (Code.snd (Code.snd (bodyOf Tryd.f51))) (Ann.snd (Ann.snd laws_markIntS_an)) (⟨mkE 19 0 [(1, .dat (.int .i64) x4123)], [some (.seq (.int .i64) x4125)]⟩ : St) (laws_markIntS_n7 x4123 x4125) (fun (t : Int × (List Int)) => (Exit.ret, (⟨mkE 19 0 [(4, .dat (.int .i64) t.1)], [some (.seq (.int .i64) t.2)]⟩ : St))) := by
  refine Link.of fun K h => ?_
  simp only [laws_markIntS_n7, wpO_bind, wpO_cond, wpO_map, wpO_some] at h
  exact Awp.of (by kernel_rfl) h

theorem laws_markIntS_n8_l (x4108 : Int) (x4109 : List Int) : Link laws_markIntS_ctx LL (Code.snd (bodyOf Tryd.f51)) (Ann.snd laws_markIntS_an) (⟨mkE 19 0 [(0, .slc 0), (1, .dat (.int .i64) x4108)], [some (.seq (.int .i64) x4109)]⟩ : St) (laws_markIntS_n8 x4108 x4109) (fun (t : Int × (List Int)) => (Exit.ret, (⟨mkE 19 0 [(4, .dat (.int .i64) t.1)], [some (.seq (.int .i64) t.2)]⟩ : St))) := by
  unfold laws_markIntS_n8
  exact Link.cast (by kernel_rfl) (by kernel_rfl) (link_seq (b := (Code.snd (Code.snd (bodyOf Tryd.f51)))) (y := (Ann.snd (Ann.snd laws_markIntS_an))) (laws_markIntS_n6_l x4108 x4109) (fun (t : Int × (List Int)) => (laws_markIntS_n7_l t.1 t.2)))

theorem laws_markIntS_n9_l (x4108 : Int) (x4109 : List Int) : Link laws_markIntS_ctx LL (bodyOf Tryd.f51) laws_markIntS_an (⟨mkE 19 0 [(0, .slc 0), (1, .dat (.int .i64) x4108)], [some (.seq (.int .i64) x4109)]⟩ : St) (laws_markIntS_n9 x4108 x4109) (fun (t : Int × (List Int)) => (Exit.ret, (⟨mkE 19 0 [(4, .dat (.int .i64) t.1)], [some (.seq (.int .i64) t.2)]⟩ : St))) := by
  unfold laws_markIntS_n9
  exact Link.cast (by kernel_rfl) (by kernel_rfl) (link_seq (b := (Code.snd (bodyOf Tryd.f51))) (y := (Ann.snd laws_markIntS_an)) (laws_markIntS_n1_l x4108 x4109) (fun (t : Unit) => (laws_markIntS_n8_l x4108 x4109)))

theorem laws_markIntS_e (x4108 : Int) (x4109 : List Int) {r : AV} {H' : Heap} (h : (Ans.mk _ (laws_markIntS x4108 x4109) (fun (t : Int × (List Int)) => (.dat (.int .i64) t.1, [some (.seq (.int .i64) t.2)]))).run = some (r, H')) : Awp laws_markIntS_ctx LL (bodyOf Tryd.f51) laws_markIntS_an (⟨mkE 19 0 [(0, .slc 0), (1, .dat (.int .i64) x4108)], [some (.seq (.int .i64) x4109)]⟩ : St) (Ret (tlook tys) Tryd.f51.results.toList r H') :=
  ret_of' (laws_markIntS_n9_l x4108 x4109) (by unfold laws_markIntS; kernel_rfl) (by
  intro t
  exact ret_mk [.dat (.int .i64) t.1] (by kernel_rfl) (by kernel_rfl) (by kernel_rfl) (by kernel_rfl)) h

def F_laws_markIntS : Fun := fun avs H =>
  match avs, H with
  | [.slc 0, .dat (.int .i64) x4108], [some (.seq (.int .i64) x4109)] => ⟨_, laws_markIntS x4108 x4109, fun (t : Int × (List Int)) => (.dat (.int .i64) t.1, [some (.seq (.int .i64) t.2)])⟩
  | _, _ => Ans.no

theorem laws_markIntS_sound : Sound Tryd.prog 51 F_laws_markIntS := by
  refine fn_sound' (C := laws_markIntS_ctx) (c := bodyOf Tryd.f51) (cok_of tys_ok (by simp) (by simp) (by kernel_rfl)) Tryd.func51 (by kernel_rfl) LL laws_markIntS_an ?_
  intro avs H r H' h
  unfold F_laws_markIntS at h
  split at h
  · refine Awp.cast ?_ ?_ ?_ (laws_markIntS_e _ _ h) <;> kernel_rfl
  · simp [Ans.no, Ans.run] at h

/-! loop.example/headtrees/laws.heldIntS -/

def laws_heldIntS_an : Ann := (.seq (.leaf [0, 1]) (.seq (.seq (.leaf [0, 1, 5]) (.block (.loop (.seq (.seq (.leaf [0, 1, 5, 9]) (.cond (.leaf [0, 1, 5]) (.leaf [1]))) (.seq (.block (.seq (.seq (.leaf [0, 1, 5, 17]) (.cond (.seq (.leaf [4]) (.leaf [4])) (.leaf [0, 1, 5]))) (.leaf [0, 1, 5]))) (.leaf [0, 1, 5])))))) (.seq (.leaf [4]) (.leaf [4]))))

noncomputable def laws_heldIntS_ctx : Ctx := ⟨tlook tys, olook [], ioF, 0⟩

theorem laws_heldIntS_n1_l (x4236 : List Int) (x4237 : Int) : Link laws_heldIntS_ctx LL (Code.fst (bodyOf Tryd.f52)) (Ann.fst laws_heldIntS_an) (⟨mkE 21 0 [(0, .dat (.list (.int .i64)) x4236), (1, .dat (.int .i64) x4237)], []⟩ : St) (laws_heldIntS_n1) (fun (t : Unit) => (Exit.normal, (⟨mkE 21 0 [(0, .dat (.list (.int .i64)) x4236), (1, .dat (.int .i64) x4237)], []⟩ : St))) := by
  refine Link.of fun K h => ?_
  simp only [laws_heldIntS_n1, wpO_bind, wpO_cond, wpO_map, wpO_some] at h
  exact Awp.of (by kernel_rfl) h

theorem laws_heldIntS_n2_l (x4236 : List Int) (x4237 : Int) : Link laws_heldIntS_ctx LL (Code.fst (Code.fst (Code.snd (bodyOf Tryd.f52)))) (Ann.fst (Ann.fst (Ann.snd laws_heldIntS_an))) (⟨mkE 21 0 [(0, .dat (.list (.int .i64)) x4236), (1, .dat (.int .i64) x4237)], []⟩ : St) (laws_heldIntS_n2) (fun (t : Unit) => (Exit.normal, (⟨mkE 21 0 [(0, .dat (.list (.int .i64)) x4236), (1, .dat (.int .i64) x4237), (5, .dat (.int .i64) 0)], []⟩ : St))) := by
  refine Link.of fun K h => ?_
  simp only [laws_heldIntS_n2, wpO_bind, wpO_cond, wpO_map, wpO_some] at h
  exact Awp.of (by kernel_rfl) h

theorem laws_heldIntS_n3_l (x4236 : List Int) (x4251 : Int) (x4252 : Int) : Link laws_heldIntS_ctx LL (Code.fst (Code.fst (Code.snd (Code.fst (Code.snd (bodyOf Tryd.f52)))))) (Ann.fst (Ann.fst (Ann.snd (Ann.fst (Ann.snd laws_heldIntS_an))))) (⟨mkE 21 0 [(0, .dat (.list (.int .i64)) x4236), (1, .dat (.int .i64) x4251), (5, .dat (.int .i64) x4252)], []⟩ : St) (laws_heldIntS_n3 x4236 x4251 x4252) (Sum.elim (fun (t : Int × Int) => (Exit.normal, (⟨mkE 21 0 [(0, .dat (.list (.int .i64)) x4236), (1, .dat (.int .i64) t.1), (5, .dat (.int .i64) t.2)], []⟩ : St))) (Sum.elim (fun (t : Int) => (Exit.ret, (⟨mkE 21 0 [(4, .dat (.int .i64) t)], []⟩ : St))) (fun (t : Int) => ((Exit.exit 0), (⟨mkE 21 0 [(1, .dat (.int .i64) t)], []⟩ : St))))) := by
  refine Link.of fun K h => ?_
  simp only [laws_heldIntS_n3, wpO_bind, wpO_cond, wpO_map, wpO_some] at h
  exact Awp.of (by kernel_rfl) h

theorem laws_heldIntS_n4_l (x4236 : List Int) (x4237 : Int) : Link laws_heldIntS_ctx LL (Code.fst (Code.snd (Code.fst (Code.snd (bodyOf Tryd.f52))))) (Ann.fst (Ann.snd (Ann.fst (Ann.snd laws_heldIntS_an)))) (⟨mkE 21 0 [(0, .dat (.list (.int .i64)) x4236), (1, .dat (.int .i64) x4237), (5, .dat (.int .i64) 0)], []⟩ : St) (laws_heldIntS_n4 x4236 x4237) (Sum.elim (fun (t : Int) => (Exit.ret, (⟨mkE 21 0 [(4, .dat (.int .i64) t)], []⟩ : St))) (fun (t : Int) => ((Exit.exit 0), (⟨mkE 21 0 [(1, .dat (.int .i64) t)], []⟩ : St)))) := by
  unfold laws_heldIntS_n4
  exact Link.cast (by kernel_rfl) (by kernel_rfl) (link_loop (mk := fun (s : Int × Int) => (⟨mkE 21 0 [(0, .dat (.list (.int .i64)) x4236), (1, .dat (.int .i64) s.1), (5, .dat (.int .i64) s.2)], []⟩ : St)) (fin := (Sum.elim (fun (t : Int) => (Exit.ret, (⟨mkE 21 0 [(4, .dat (.int .i64) t)], []⟩ : St))) (fun (t : Int) => ((Exit.exit 0), (⟨mkE 21 0 [(1, .dat (.int .i64) t)], []⟩ : St))))) (by
  rintro (t | t) f K h
  · exact h
  · exact h) (fun s => link_map (laws_heldIntS_n3_l x4236 s.1 s.2) (Sum.elim (fun (t : Int × Int) => Sum.inl (t.1, t.2)) (Sum.elim (fun (t : Int) => Sum.inr (Sum.inl t)) (fun (t : Int) => Sum.inr (Sum.inr t)))) (by
  rintro (t | t | t)
  · kernel_rfl
  · kernel_rfl
  · kernel_rfl)) (x4237, 0))

theorem laws_heldIntS_n5_l (x4236 : List Int) (x4237 : Int) : Link laws_heldIntS_ctx LL (Code.snd (Code.fst (Code.snd (bodyOf Tryd.f52)))) (Ann.snd (Ann.fst (Ann.snd laws_heldIntS_an))) (⟨mkE 21 0 [(0, .dat (.list (.int .i64)) x4236), (1, .dat (.int .i64) x4237), (5, .dat (.int .i64) 0)], []⟩ : St) (laws_heldIntS_n5 x4236 x4237) (Sum.elim (fun (t : Int) => (Exit.normal, (⟨mkE 21 0 [(1, .dat (.int .i64) t)], []⟩ : St))) (fun (t : Int) => (Exit.ret, (⟨mkE 21 0 [(4, .dat (.int .i64) t)], []⟩ : St)))) := by
  unfold laws_heldIntS_n5
  exact Link.cast (by kernel_rfl) (by kernel_rfl) (link_block (id := 0) (laws_heldIntS_n4_l x4236 x4237) (Sum.elim (fun (t : Int) => (Sum.inr t)) (fun (t : Int) => (Sum.inl t))) (by
  rintro (t | t) K h
  · exact Eq.mp (by kernel_rfl) h
  · exact Eq.mp (by kernel_rfl) h))

theorem laws_heldIntS_n6_l (x4236 : List Int) (x4237 : Int) : Link laws_heldIntS_ctx LL (Code.fst (Code.snd (bodyOf Tryd.f52))) (Ann.fst (Ann.snd laws_heldIntS_an)) (⟨mkE 21 0 [(0, .dat (.list (.int .i64)) x4236), (1, .dat (.int .i64) x4237)], []⟩ : St) (laws_heldIntS_n6 x4236 x4237) (Sum.elim (fun (t : Int) => (Exit.normal, (⟨mkE 21 0 [(1, .dat (.int .i64) t)], []⟩ : St))) (fun (t : Int) => (Exit.ret, (⟨mkE 21 0 [(4, .dat (.int .i64) t)], []⟩ : St)))) := by
  unfold laws_heldIntS_n6
  exact Link.cast (by kernel_rfl) (by kernel_rfl) (link_seq (b := (Code.snd (Code.fst (Code.snd (bodyOf Tryd.f52))))) (y := (Ann.snd (Ann.fst (Ann.snd laws_heldIntS_an)))) (laws_heldIntS_n2_l x4236 x4237) (fun (t : Unit) => (laws_heldIntS_n5_l x4236 x4237)))

theorem laws_heldIntS_n7_l (x4251 : Int) : Link laws_heldIntS_ctx LL (Code.snd (Code.snd (bodyOf Tryd.f52))) (Ann.snd (Ann.snd laws_heldIntS_an)) (⟨mkE 21 0 [(1, .dat (.int .i64) x4251)], []⟩ : St) (laws_heldIntS_n7 x4251) (fun (t : Int) => (Exit.ret, (⟨mkE 21 0 [(4, .dat (.int .i64) t)], []⟩ : St))) := by
  refine Link.of fun K h => ?_
  simp only [laws_heldIntS_n7, wpO_bind, wpO_cond, wpO_map, wpO_some] at h
  exact Awp.of (by kernel_rfl) h

theorem laws_heldIntS_n8_l (x4236 : List Int) (x4237 : Int) : Link laws_heldIntS_ctx LL (Code.snd (bodyOf Tryd.f52)) (Ann.snd laws_heldIntS_an) (⟨mkE 21 0 [(0, .dat (.list (.int .i64)) x4236), (1, .dat (.int .i64) x4237)], []⟩ : St) (laws_heldIntS_n8 x4236 x4237) (fun (t : Int) => (Exit.ret, (⟨mkE 21 0 [(4, .dat (.int .i64) t)], []⟩ : St))) := by
  unfold laws_heldIntS_n8
  exact Link.cast (by kernel_rfl) (by kernel_rfl) (link_seq2 (b := (Code.snd (Code.snd (bodyOf Tryd.f52)))) (y := (Ann.snd (Ann.snd laws_heldIntS_an))) (laws_heldIntS_n6_l x4236 x4237) (fun (t : Int) => (laws_heldIntS_n7_l t)) (fun (t : Int) => t) (by
  rintro t
  · kernel_rfl) (by
  rintro t f K h
  · exact h))

theorem laws_heldIntS_n9_l (x4236 : List Int) (x4237 : Int) : Link laws_heldIntS_ctx LL (bodyOf Tryd.f52) laws_heldIntS_an (⟨mkE 21 0 [(0, .dat (.list (.int .i64)) x4236), (1, .dat (.int .i64) x4237)], []⟩ : St) (laws_heldIntS_n9 x4236 x4237) (fun (t : Int) => (Exit.ret, (⟨mkE 21 0 [(4, .dat (.int .i64) t)], []⟩ : St))) := by
  unfold laws_heldIntS_n9
  exact Link.cast (by kernel_rfl) (by kernel_rfl) (link_seq (b := (Code.snd (bodyOf Tryd.f52))) (y := (Ann.snd laws_heldIntS_an)) (laws_heldIntS_n1_l x4236 x4237) (fun (t : Unit) => (laws_heldIntS_n8_l x4236 x4237)))

theorem laws_heldIntS_e (x4236 : List Int) (x4237 : Int) {r : AV} {H' : Heap} (h : (Ans.mk _ (laws_heldIntS x4236 x4237) (fun (t : Int) => (.dat (.int .i64) t, []))).run = some (r, H')) : Awp laws_heldIntS_ctx LL (bodyOf Tryd.f52) laws_heldIntS_an (⟨mkE 21 0 [(0, .dat (.list (.int .i64)) x4236), (1, .dat (.int .i64) x4237)], []⟩ : St) (Ret (tlook tys) Tryd.f52.results.toList r H') :=
  ret_of' (laws_heldIntS_n9_l x4236 x4237) (by unfold laws_heldIntS; kernel_rfl) (by
  intro t
  exact ret_mk [.dat (.int .i64) t] (by kernel_rfl) (by kernel_rfl) (by kernel_rfl) (by kernel_rfl)) h

def F_laws_heldIntS : Fun := fun avs H =>
  match avs, H with
  | [.dat (.list (.int .i64)) x4236, .dat (.int .i64) x4237], [] => ⟨_, laws_heldIntS x4236 x4237, fun (t : Int) => (.dat (.int .i64) t, [])⟩
  | _, _ => Ans.no

theorem laws_heldIntS_sound : Sound Tryd.prog 52 F_laws_heldIntS := by
  refine fn_sound' (C := laws_heldIntS_ctx) (c := bodyOf Tryd.f52) (cok_of tys_ok (by simp) (by simp) (by kernel_rfl)) Tryd.func52 (by kernel_rfl) LL laws_heldIntS_an ?_
  intro avs H r H' h
  unfold F_laws_heldIntS at h
  split at h
  · refine Awp.cast ?_ ?_ ?_ (laws_heldIntS_e _ _ h) <;> kernel_rfl
  · simp [Ans.no, Ans.run] at h

/-! loop.example/headtrees/laws.FnExactYieldOf -/

def laws_FnExactYieldOf_an : Ann := (.seq (.leaf [0, 1]) (.seq (.seq (.leaf [0, 1, 14]) (.cond (.seq (.leaf [4]) (.leaf [4])) (.leaf [0, 1]))) (.seq (.leaf [0, 1, 5]) (.seq (.leaf [0, 1, 5, 6]) (.seq (.leaf [0, 1, 5, 6, 7]) (.seq (.seq (.leaf [0, 1, 5, 6, 7, 27]) (.cond (.seq (.leaf [4]) (.leaf [4])) (.leaf [0, 1, 5, 6, 7]))) (.seq (.seq (.leaf [0, 1, 5, 6, 7, 32]) (.cond (.seq (.leaf [4]) (.leaf [4])) (.leaf [0, 1, 5, 6, 7]))) (.seq (.leaf [0, 1, 5, 6, 7, 8]) (.seq (.leaf [0, 1, 5, 7, 8]) (.seq (.seq (.leaf [0, 1, 5, 7, 43]) (.cond (.seq (.leaf [4]) (.leaf [4])) (.leaf [0, 1, 5, 7]))) (.seq (.leaf [0, 1, 5, 7, 9]) (.seq (.leaf [0, 1, 5, 7, 9]) (.seq (.leaf [0, 1, 5, 7, 9, 10]) (.seq (.leaf [0, 1, 5, 7, 9, 10]) (.seq (.seq (.leaf [0, 1, 5, 7, 9, 10, 51]) (.cond (.seq (.leaf [4]) (.leaf [4])) (.leaf [0, 1, 5, 7, 9, 10]))) (.seq (.seq (.leaf [0, 1, 5, 7, 9, 54]) (.cond (.seq (.leaf [4]) (.leaf [4])) (.leaf [0, 1, 5, 7, 9]))) (.seq (.leaf [5, 7, 9, 11]) (.seq (.seq (.leaf [7, 9, 62]) (.cond (.seq (.leaf [4]) (.leaf [4])) (.leaf [7, 9]))) (.seq (.leaf [7, 9, 10]) (.seq (.leaf [9, 10]) (.seq (.seq (.leaf [9, 10, 67]) (.cond (.seq (.leaf [4]) (.leaf [4])) (.leaf [9, 10]))) (.seq (.seq (.leaf [70]) (.cond (.seq (.leaf [4]) (.leaf [4])) (.leaf []))) (.seq (.leaf [4]) (.leaf [4]))))))))))))))))))))))))

noncomputable def laws_FnExactYieldOf_ctx : Ctx := ⟨tlook tys, olook [(49, F_laws_toIntS), (19, F_spec_YieldOf), (17, F_impl_YieldOf), (50, F_laws_eqIntS), (51, F_laws_markIntS), (52, F_laws_heldIntS)], ioF, 0⟩

theorem laws_FnExactYieldOf_n1_l (x3983 : List Int) (x3984 : Int) : Link laws_FnExactYieldOf_ctx LL (bodyOf Tryd.f11) laws_FnExactYieldOf_an (⟨mkE 71 0 [(0, .dat (.list (.int .i64)) x3983), (1, .dat (.int .i64) x3984)], []⟩ : St) (laws_FnExactYieldOf_n1 x3983 x3984) (fun (t : Bool) => (Exit.ret, (⟨mkE 71 0 [(4, .dat .bool t)], []⟩ : St))) := by
  refine Link.of fun K h => ?_
  simp only [laws_FnExactYieldOf_n1, wpO_bind, wpO_cond, wpO_map, wpO_some] at h
  exact Awp.of (by kernel_rfl) h

theorem laws_FnExactYieldOf_e (x3983 : List Int) (x3984 : Int) {r : AV} {H' : Heap} (h : (Ans.mk _ (laws_FnExactYieldOf x3983 x3984) (fun (t : Bool) => (.dat .bool t, []))).run = some (r, H')) : Awp laws_FnExactYieldOf_ctx LL (bodyOf Tryd.f11) laws_FnExactYieldOf_an (⟨mkE 71 0 [(0, .dat (.list (.int .i64)) x3983), (1, .dat (.int .i64) x3984)], []⟩ : St) (Ret (tlook tys) Tryd.f11.results.toList r H') :=
  ret_of' (laws_FnExactYieldOf_n1_l x3983 x3984) (by unfold laws_FnExactYieldOf; kernel_rfl) (by
  intro t
  exact ret_mk [.dat .bool t] (by kernel_rfl) (by kernel_rfl) (by kernel_rfl) (by kernel_rfl)) h

def F_laws_FnExactYieldOf : Fun := fun avs H =>
  match avs, H with
  | [.dat (.list (.int .i64)) x3983, .dat (.int .i64) x3984], [] => ⟨_, laws_FnExactYieldOf x3983 x3984, fun (t : Bool) => (.dat .bool t, [])⟩
  | _, _ => Ans.no

theorem laws_FnExactYieldOf_sound : Sound Tryd.prog 11 F_laws_FnExactYieldOf := by
  refine fn_sound' (C := laws_FnExactYieldOf_ctx) (c := bodyOf Tryd.f11) (cok_of tys_ok (List.forall_mem_cons.2 ⟨laws_toIntS_sound, List.forall_mem_cons.2 ⟨spec_YieldOf_sound, List.forall_mem_cons.2 ⟨impl_YieldOf_sound, List.forall_mem_cons.2 ⟨laws_eqIntS_sound, List.forall_mem_cons.2 ⟨laws_markIntS_sound, List.forall_mem_cons.2 ⟨laws_heldIntS_sound, by simp⟩⟩⟩⟩⟩⟩) (List.forall_mem_cons.2 ⟨Tryd.call49, List.forall_mem_cons.2 ⟨Tryd.call19, List.forall_mem_cons.2 ⟨Tryd.call17, List.forall_mem_cons.2 ⟨Tryd.call50, List.forall_mem_cons.2 ⟨Tryd.call51, List.forall_mem_cons.2 ⟨Tryd.call52, by simp⟩⟩⟩⟩⟩⟩) (by kernel_rfl)) Tryd.func11 (by kernel_rfl) LL laws_FnExactYieldOf_an ?_
  intro avs H r H' h
  unfold F_laws_FnExactYieldOf at h
  split at h
  · refine Awp.cast ?_ ?_ ?_ (laws_FnExactYieldOf_e _ _ h) <;> kernel_rfl
  · simp [Ans.no, Ans.run] at h

/-! loop.example/headtrees/laws.FnExactDependsOf -/

def laws_FnExactDependsOf_an : Ann := (.seq (.leaf [0, 1]) (.seq (.seq (.leaf [0, 1, 14]) (.cond (.seq (.leaf [4]) (.leaf [4])) (.leaf [0, 1]))) (.seq (.leaf [0, 1, 5]) (.seq (.leaf [0, 1, 5, 6]) (.seq (.leaf [0, 1, 5, 6, 7]) (.seq (.seq (.leaf [0, 1, 5, 6, 7, 27]) (.cond (.seq (.leaf [4]) (.leaf [4])) (.leaf [0, 1, 5, 6, 7]))) (.seq (.seq (.leaf [0, 1, 5, 6, 7, 32]) (.cond (.seq (.leaf [4]) (.leaf [4])) (.leaf [0, 1, 5, 6, 7]))) (.seq (.leaf [0, 1, 5, 6, 7, 8]) (.seq (.leaf [0, 1, 5, 7, 8]) (.seq (.seq (.leaf [0, 1, 5, 7, 43]) (.cond (.seq (.leaf [4]) (.leaf [4])) (.leaf [0, 1, 5, 7]))) (.seq (.leaf [0, 1, 5, 7, 9]) (.seq (.leaf [0, 1, 5, 7, 9]) (.seq (.leaf [0, 1, 5, 7, 9, 10]) (.seq (.leaf [0, 1, 5, 7, 9, 10]) (.seq (.seq (.leaf [0, 1, 5, 7, 9, 10, 51]) (.cond (.seq (.leaf [4]) (.leaf [4])) (.leaf [0, 1, 5, 7, 9, 10]))) (.seq (.seq (.leaf [0, 1, 5, 7, 9, 54]) (.cond (.seq (.leaf [4]) (.leaf [4])) (.leaf [0, 1, 5, 7, 9]))) (.seq (.leaf [5, 7, 9, 11]) (.seq (.seq (.leaf [7, 9, 62]) (.cond (.seq (.leaf [4]) (.leaf [4])) (.leaf [7, 9]))) (.seq (.leaf [7, 9, 10]) (.seq (.leaf [9, 10]) (.seq (.seq (.leaf [9, 10, 67]) (.cond (.seq (.leaf [4]) (.leaf [4])) (.leaf [9, 10]))) (.seq (.seq (.leaf [70]) (.cond (.seq (.leaf [4]) (.leaf [4])) (.leaf []))) (.seq (.leaf [4]) (.leaf [4]))))))))))))))))))))))))

noncomputable def laws_FnExactDependsOf_ctx : Ctx := ⟨tlook tys, olook [(49, F_laws_toIntS), (26, F_spec_DependsOf), (25, F_impl_DependsOf), (50, F_laws_eqIntS), (51, F_laws_markIntS), (52, F_laws_heldIntS)], ioF, 0⟩

theorem laws_FnExactDependsOf_n1_l (x4542 : List Int) (x4543 : Int) : Link laws_FnExactDependsOf_ctx LL (bodyOf Tryd.f12) laws_FnExactDependsOf_an (⟨mkE 71 0 [(0, .dat (.list (.int .i64)) x4542), (1, .dat (.int .i64) x4543)], []⟩ : St) (laws_FnExactDependsOf_n1 x4542 x4543) (fun (t : Bool) => (Exit.ret, (⟨mkE 71 0 [(4, .dat .bool t)], []⟩ : St))) := by
  refine Link.of fun K h => ?_
  simp only [laws_FnExactDependsOf_n1, wpO_bind, wpO_cond, wpO_map, wpO_some] at h
  exact Awp.of (by kernel_rfl) h

theorem laws_FnExactDependsOf_e (x4542 : List Int) (x4543 : Int) {r : AV} {H' : Heap} (h : (Ans.mk _ (laws_FnExactDependsOf x4542 x4543) (fun (t : Bool) => (.dat .bool t, []))).run = some (r, H')) : Awp laws_FnExactDependsOf_ctx LL (bodyOf Tryd.f12) laws_FnExactDependsOf_an (⟨mkE 71 0 [(0, .dat (.list (.int .i64)) x4542), (1, .dat (.int .i64) x4543)], []⟩ : St) (Ret (tlook tys) Tryd.f12.results.toList r H') :=
  ret_of' (laws_FnExactDependsOf_n1_l x4542 x4543) (by unfold laws_FnExactDependsOf; kernel_rfl) (by
  intro t
  exact ret_mk [.dat .bool t] (by kernel_rfl) (by kernel_rfl) (by kernel_rfl) (by kernel_rfl)) h

def F_laws_FnExactDependsOf : Fun := fun avs H =>
  match avs, H with
  | [.dat (.list (.int .i64)) x4542, .dat (.int .i64) x4543], [] => ⟨_, laws_FnExactDependsOf x4542 x4543, fun (t : Bool) => (.dat .bool t, [])⟩
  | _, _ => Ans.no

theorem laws_FnExactDependsOf_sound : Sound Tryd.prog 12 F_laws_FnExactDependsOf := by
  refine fn_sound' (C := laws_FnExactDependsOf_ctx) (c := bodyOf Tryd.f12) (cok_of tys_ok (List.forall_mem_cons.2 ⟨laws_toIntS_sound, List.forall_mem_cons.2 ⟨spec_DependsOf_sound, List.forall_mem_cons.2 ⟨impl_DependsOf_sound, List.forall_mem_cons.2 ⟨laws_eqIntS_sound, List.forall_mem_cons.2 ⟨laws_markIntS_sound, List.forall_mem_cons.2 ⟨laws_heldIntS_sound, by simp⟩⟩⟩⟩⟩⟩) (List.forall_mem_cons.2 ⟨Tryd.call49, List.forall_mem_cons.2 ⟨Tryd.call26, List.forall_mem_cons.2 ⟨Tryd.call25, List.forall_mem_cons.2 ⟨Tryd.call50, List.forall_mem_cons.2 ⟨Tryd.call51, List.forall_mem_cons.2 ⟨Tryd.call52, by simp⟩⟩⟩⟩⟩⟩) (by kernel_rfl)) Tryd.func12 (by kernel_rfl) LL laws_FnExactDependsOf_an ?_
  intro avs H r H' h
  unfold F_laws_FnExactDependsOf at h
  split at h
  · refine Awp.cast ?_ ?_ ?_ (laws_FnExactDependsOf_e _ _ h) <;> kernel_rfl
  · simp [Ans.no, Ans.run] at h

/-! loop.example/headtrees/laws.FnExactUnderOk -/

def laws_FnExactUnderOk_an : Ann := (.seq (.leaf [0, 1, 2]) (.seq (.seq (.leaf [0, 1, 2, 12]) (.cond (.seq (.leaf [6]) (.leaf [6])) (.leaf [0, 1, 2]))) (.seq (.leaf [0, 1, 2, 7]) (.seq (.leaf [0, 1, 2, 7, 8]) (.seq (.leaf [0, 7, 8, 9]) (.seq (.seq (.leaf [0, 8, 26]) (.cond (.seq (.leaf [6]) (.leaf [6])) (.leaf [0, 8]))) (.seq (.seq (.leaf [31]) (.cond (.seq (.leaf [6]) (.leaf [6])) (.leaf []))) (.seq (.leaf [6]) (.leaf [6])))))))))

noncomputable def laws_FnExactUnderOk_ctx : Ctx := ⟨tlook tys, olook [(49, F_laws_toIntS), (30, F_spec_UnderOk), (29, F_impl_UnderOk), (50, F_laws_eqIntS)], ioF, 0⟩

theorem laws_FnExactUnderOk_n1_l (x4975 : List Int) (x4976 : Int) (x4977 : Int) : Link laws_FnExactUnderOk_ctx LL (bodyOf Tryd.f13) laws_FnExactUnderOk_an (⟨mkE 32 0 [(0, .dat (.list (.int .i64)) x4975), (1, .dat (.int .i64) x4976), (2, .dat (.int .i64) x4977)], []⟩ : St) (laws_FnExactUnderOk_n1 x4975 x4976 x4977) (fun (t : Bool) => (Exit.ret, (⟨mkE 32 0 [(6, .dat .bool t)], []⟩ : St))) := by
  refine Link.of fun K h => ?_
  simp only [laws_FnExactUnderOk_n1, wpO_bind, wpO_cond, wpO_map, wpO_some] at h
  exact Awp.of (by kernel_rfl) h

theorem laws_FnExactUnderOk_e (x4975 : List Int) (x4976 : Int) (x4977 : Int) {r : AV} {H' : Heap} (h : (Ans.mk _ (laws_FnExactUnderOk x4975 x4976 x4977) (fun (t : Bool) => (.dat .bool t, []))).run = some (r, H')) : Awp laws_FnExactUnderOk_ctx LL (bodyOf Tryd.f13) laws_FnExactUnderOk_an (⟨mkE 32 0 [(0, .dat (.list (.int .i64)) x4975), (1, .dat (.int .i64) x4976), (2, .dat (.int .i64) x4977)], []⟩ : St) (Ret (tlook tys) Tryd.f13.results.toList r H') :=
  ret_of' (laws_FnExactUnderOk_n1_l x4975 x4976 x4977) (by unfold laws_FnExactUnderOk; kernel_rfl) (by
  intro t
  exact ret_mk [.dat .bool t] (by kernel_rfl) (by kernel_rfl) (by kernel_rfl) (by kernel_rfl)) h

def F_laws_FnExactUnderOk : Fun := fun avs H =>
  match avs, H with
  | [.dat (.list (.int .i64)) x4975, .dat (.int .i64) x4976, .dat (.int .i64) x4977], [] => ⟨_, laws_FnExactUnderOk x4975 x4976 x4977, fun (t : Bool) => (.dat .bool t, [])⟩
  | _, _ => Ans.no

theorem laws_FnExactUnderOk_sound : Sound Tryd.prog 13 F_laws_FnExactUnderOk := by
  refine fn_sound' (C := laws_FnExactUnderOk_ctx) (c := bodyOf Tryd.f13) (cok_of tys_ok (List.forall_mem_cons.2 ⟨laws_toIntS_sound, List.forall_mem_cons.2 ⟨spec_UnderOk_sound, List.forall_mem_cons.2 ⟨impl_UnderOk_sound, List.forall_mem_cons.2 ⟨laws_eqIntS_sound, by simp⟩⟩⟩⟩) (List.forall_mem_cons.2 ⟨Tryd.call49, List.forall_mem_cons.2 ⟨Tryd.call30, List.forall_mem_cons.2 ⟨Tryd.call29, List.forall_mem_cons.2 ⟨Tryd.call50, by simp⟩⟩⟩⟩) (by kernel_rfl)) Tryd.func13 (by kernel_rfl) LL laws_FnExactUnderOk_an ?_
  intro avs H r H' h
  unfold F_laws_FnExactUnderOk at h
  split at h
  · refine Awp.cast ?_ ?_ ?_ (laws_FnExactUnderOk_e _ _ _ h) <;> kernel_rfl
  · simp [Ans.no, Ans.run] at h

/-! loop.example/headtrees/laws.FnExactMeetOf -/

def laws_FnExactMeetOf_an : Ann := (.seq (.leaf [0, 1, 2]) (.seq (.seq (.leaf [0, 1, 2, 12]) (.cond (.seq (.leaf [6]) (.leaf [6])) (.leaf [0, 1, 2]))) (.seq (.leaf [0, 1, 2, 7]) (.seq (.leaf [0, 1, 2, 7, 8]) (.seq (.leaf [0, 7, 8, 9]) (.seq (.seq (.leaf [0, 8, 26]) (.cond (.seq (.leaf [6]) (.leaf [6])) (.leaf [0, 8]))) (.seq (.seq (.leaf [31]) (.cond (.seq (.leaf [6]) (.leaf [6])) (.leaf []))) (.seq (.leaf [6]) (.leaf [6])))))))))

noncomputable def laws_FnExactMeetOf_ctx : Ctx := ⟨tlook tys, olook [(49, F_laws_toIntS), (33, F_spec_MeetOf), (32, F_impl_MeetOf), (50, F_laws_eqIntS)], ioF, 0⟩

theorem laws_FnExactMeetOf_n1_l (x5036 : List Int) (x5037 : Int) (x5038 : Int) : Link laws_FnExactMeetOf_ctx LL (bodyOf Tryd.f14) laws_FnExactMeetOf_an (⟨mkE 32 0 [(0, .dat (.list (.int .i64)) x5036), (1, .dat (.int .i64) x5037), (2, .dat (.int .i64) x5038)], []⟩ : St) (laws_FnExactMeetOf_n1 x5036 x5037 x5038) (fun (t : Bool) => (Exit.ret, (⟨mkE 32 0 [(6, .dat .bool t)], []⟩ : St))) := by
  refine Link.of fun K h => ?_
  simp only [laws_FnExactMeetOf_n1, wpO_bind, wpO_cond, wpO_map, wpO_some] at h
  exact Awp.of (by kernel_rfl) h

theorem laws_FnExactMeetOf_e (x5036 : List Int) (x5037 : Int) (x5038 : Int) {r : AV} {H' : Heap} (h : (Ans.mk _ (laws_FnExactMeetOf x5036 x5037 x5038) (fun (t : Bool) => (.dat .bool t, []))).run = some (r, H')) : Awp laws_FnExactMeetOf_ctx LL (bodyOf Tryd.f14) laws_FnExactMeetOf_an (⟨mkE 32 0 [(0, .dat (.list (.int .i64)) x5036), (1, .dat (.int .i64) x5037), (2, .dat (.int .i64) x5038)], []⟩ : St) (Ret (tlook tys) Tryd.f14.results.toList r H') :=
  ret_of' (laws_FnExactMeetOf_n1_l x5036 x5037 x5038) (by unfold laws_FnExactMeetOf; kernel_rfl) (by
  intro t
  exact ret_mk [.dat .bool t] (by kernel_rfl) (by kernel_rfl) (by kernel_rfl) (by kernel_rfl)) h

def F_laws_FnExactMeetOf : Fun := fun avs H =>
  match avs, H with
  | [.dat (.list (.int .i64)) x5036, .dat (.int .i64) x5037, .dat (.int .i64) x5038], [] => ⟨_, laws_FnExactMeetOf x5036 x5037 x5038, fun (t : Bool) => (.dat .bool t, [])⟩
  | _, _ => Ans.no

theorem laws_FnExactMeetOf_sound : Sound Tryd.prog 14 F_laws_FnExactMeetOf := by
  refine fn_sound' (C := laws_FnExactMeetOf_ctx) (c := bodyOf Tryd.f14) (cok_of tys_ok (List.forall_mem_cons.2 ⟨laws_toIntS_sound, List.forall_mem_cons.2 ⟨spec_MeetOf_sound, List.forall_mem_cons.2 ⟨impl_MeetOf_sound, List.forall_mem_cons.2 ⟨laws_eqIntS_sound, by simp⟩⟩⟩⟩) (List.forall_mem_cons.2 ⟨Tryd.call49, List.forall_mem_cons.2 ⟨Tryd.call33, List.forall_mem_cons.2 ⟨Tryd.call32, List.forall_mem_cons.2 ⟨Tryd.call50, by simp⟩⟩⟩⟩) (by kernel_rfl)) Tryd.func14 (by kernel_rfl) LL laws_FnExactMeetOf_an ?_
  intro avs H r H' h
  unfold F_laws_FnExactMeetOf at h
  split at h
  · refine Awp.cast ?_ ?_ ?_ (laws_FnExactMeetOf_e _ _ _ h) <;> kernel_rfl
  · simp [Ans.no, Ans.run] at h

/-! loop.example/headtrees/laws.FnExactFlatOk -/

def laws_FnExactFlatOk_an : Ann := (.seq (.leaf [0]) (.seq (.seq (.leaf [0, 8]) (.cond (.seq (.leaf [2]) (.leaf [2])) (.leaf [0]))) (.seq (.leaf [0, 3]) (.seq (.leaf [0, 3, 4]) (.seq (.leaf [0, 3, 4, 5]) (.seq (.seq (.leaf [0, 4, 18]) (.cond (.seq (.leaf [2]) (.leaf [2])) (.leaf [0, 4]))) (.seq (.seq (.leaf [23]) (.cond (.seq (.leaf [2]) (.leaf [2])) (.leaf []))) (.seq (.leaf [2]) (.leaf [2])))))))))

noncomputable def laws_FnExactFlatOk_ctx : Ctx := ⟨tlook tys, olook [(49, F_laws_toIntS), (44, F_spec_FlatOk), (41, F_impl_FlatOk), (50, F_laws_eqIntS)], ioF, 0⟩

theorem laws_FnExactFlatOk_n1_l (x5095 : List Int) : Link laws_FnExactFlatOk_ctx LL (bodyOf Tryd.f15) laws_FnExactFlatOk_an (⟨mkE 24 0 [(0, .dat (.list (.int .i64)) x5095)], []⟩ : St) (laws_FnExactFlatOk_n1 x5095) (fun (t : Bool) => (Exit.ret, (⟨mkE 24 0 [(2, .dat .bool t)], []⟩ : St))) := by
  refine Link.of fun K h => ?_
  simp only [laws_FnExactFlatOk_n1, wpO_bind, wpO_cond, wpO_map, wpO_some] at h
  exact Awp.of (by kernel_rfl) h

theorem laws_FnExactFlatOk_e (x5095 : List Int) {r : AV} {H' : Heap} (h : (Ans.mk _ (laws_FnExactFlatOk x5095) (fun (t : Bool) => (.dat .bool t, []))).run = some (r, H')) : Awp laws_FnExactFlatOk_ctx LL (bodyOf Tryd.f15) laws_FnExactFlatOk_an (⟨mkE 24 0 [(0, .dat (.list (.int .i64)) x5095)], []⟩ : St) (Ret (tlook tys) Tryd.f15.results.toList r H') :=
  ret_of' (laws_FnExactFlatOk_n1_l x5095) (by unfold laws_FnExactFlatOk; kernel_rfl) (by
  intro t
  exact ret_mk [.dat .bool t] (by kernel_rfl) (by kernel_rfl) (by kernel_rfl) (by kernel_rfl)) h

def F_laws_FnExactFlatOk : Fun := fun avs H =>
  match avs, H with
  | [.dat (.list (.int .i64)) x5095], [] => ⟨_, laws_FnExactFlatOk x5095, fun (t : Bool) => (.dat .bool t, [])⟩
  | _, _ => Ans.no

theorem laws_FnExactFlatOk_sound : Sound Tryd.prog 15 F_laws_FnExactFlatOk := by
  refine fn_sound' (C := laws_FnExactFlatOk_ctx) (c := bodyOf Tryd.f15) (cok_of tys_ok (List.forall_mem_cons.2 ⟨laws_toIntS_sound, List.forall_mem_cons.2 ⟨spec_FlatOk_sound, List.forall_mem_cons.2 ⟨impl_FlatOk_sound, List.forall_mem_cons.2 ⟨laws_eqIntS_sound, by simp⟩⟩⟩⟩) (List.forall_mem_cons.2 ⟨Tryd.call49, List.forall_mem_cons.2 ⟨Tryd.call44, List.forall_mem_cons.2 ⟨Tryd.call41, List.forall_mem_cons.2 ⟨Tryd.call50, by simp⟩⟩⟩⟩) (by kernel_rfl)) Tryd.func15 (by kernel_rfl) LL laws_FnExactFlatOk_an ?_
  intro avs H r H' h
  unfold F_laws_FnExactFlatOk at h
  split at h
  · refine Awp.cast ?_ ?_ ?_ (laws_FnExactFlatOk_e _ h) <;> kernel_rfl
  · simp [Ans.no, Ans.run] at h

end Go.Rv
