/-
  The checked code answers as the plain functions do; written by program. Conditions: none.
-/
import Derived.Test.YtegmjhjihbhakaaDoorKFnFlatOka
set_option linter.unusedVariables false
set_option linter.unusedSimpArgs false
set_option maxRecDepth 100000
namespace Go.Rv
open Go.Proofs
/-! loop.example/headtrees/impl.FlatOk -/

def impl_FlatOk_an : Ann := (.seq (.leaf [0]) (.seq (.seq (.leaf [0, 7]) (.cond (.seq (.leaf [2]) (.leaf [2])) (.leaf [0]))) (.seq (.seq (.leaf [9, 10, 11]) (.block (.loop (.seq (.leaf [9, 10, 11, 12]) (.seq (.cond (.leaf [9, 10, 11]) (.leaf [])) (.seq (.block (.seq (.leaf [4, 9, 10, 11]) (.seq (.leaf [9, 10, 11, 17]) (.cond (.seq (.leaf [2]) (.leaf [2])) (.leaf [9, 10, 11]))))) (.leaf [9, 10, 11]))))))) (.seq (.leaf [2]) (.leaf [2])))))

noncomputable def impl_FlatOk_ctx : Ctx := ⟨tlook tys, olook [(40, F_impl_TreeOk), (56, F_impl_yieldsOf), (76, F_impl_wordSet_isRow)], ioF, 0⟩

theorem impl_FlatOk_n1_l (x4154 : List Int) : Link impl_FlatOk_ctx LL (Code.seq (Code.fst (bodyOf Tryd.f41)) (Code.fst (Code.snd (bodyOf Tryd.f41)))) (Ann.seq (Ann.fst impl_FlatOk_an) (Ann.fst (Ann.snd impl_FlatOk_an))) (⟨mkE 19 0 [(0, .dat (.list (.int .i64)) x4154)], []⟩ : St) (impl_FlatOk_n1 x4154) (Sum.elim (fun (t : Unit) => (Exit.normal, (⟨mkE 19 0 [(0, .dat (.list (.int .i64)) x4154)], []⟩ : St))) (fun (t : Bool) => (Exit.ret, (⟨mkE 19 0 [(2, .dat .bool t)], []⟩ : St)))) := by
  refine Link.of fun K h => ?_
  simp only [impl_FlatOk_n1, wpO_bind, wpO_cond, wpO_map, wpO_some] at h
  exact Awp.of (by kernel_rfl) h

theorem impl_FlatOk_n2_l (x4154 : List Int) : Link impl_FlatOk_ctx LL (Code.fst (Code.fst (Code.snd (Code.snd (bodyOf Tryd.f41))))) (Ann.fst (Ann.fst (Ann.snd (Ann.snd impl_FlatOk_an)))) (⟨mkE 19 0 [(0, .dat (.list (.int .i64)) x4154)], []⟩ : St) (impl_FlatOk_n2 x4154) (fun (t : Int × (List Int)) => (Exit.normal, (⟨mkE 19 0 [(9, .slc 0), (10, .dat (.int .i64) t.1), (11, .dat (.int .i64) 0)], [some (.seq (.int .u64) t.2)]⟩ : St))) := by
  refine Link.of fun K h => ?_
  simp only [impl_FlatOk_n2, wpO_bind, wpO_cond, wpO_map, wpO_some] at h
  exact Awp.of (by kernel_rfl) h

theorem impl_FlatOk_n3_l (x4158 : Int) (x4185 : Int) (x4157 : List Int) : Link impl_FlatOk_ctx LL (Code.fst (Code.fst (Code.snd (Code.fst (Code.snd (Code.snd (bodyOf Tryd.f41))))))) (Ann.fst (Ann.fst (Ann.snd (Ann.fst (Ann.snd (Ann.snd impl_FlatOk_an)))))) (⟨mkE 19 0 [(9, .slc 0), (10, .dat (.int .i64) x4158), (11, .dat (.int .i64) x4185)], [some (.seq (.int .u64) x4157)]⟩ : St) (impl_FlatOk_n3 x4158 x4185 x4157) (Sum.elim (fun (t : Int) => (Exit.normal, (⟨mkE 19 0 [(9, .slc 0), (10, .dat (.int .i64) x4158), (11, .dat (.int .i64) t)], [some (.seq (.int .u64) x4157)]⟩ : St))) (Sum.elim (fun (t : Bool) => (Exit.ret, (⟨mkE 19 0 [(2, .dat .bool t)], []⟩ : St))) (fun (t : Unit) => ((Exit.exit 0), (⟨mkE 19 0 [], []⟩ : St))))) := by
  refine Link.of fun K h => ?_
  simp only [impl_FlatOk_n3, wpO_bind, wpO_cond, wpO_map, wpO_some] at h
  exact Awp.of (by kernel_rfl) h

theorem impl_FlatOk_n4_l (x4158 : Int) (x4157 : List Int) : Link impl_FlatOk_ctx LL (Code.fst (Code.snd (Code.fst (Code.snd (Code.snd (bodyOf Tryd.f41)))))) (Ann.fst (Ann.snd (Ann.fst (Ann.snd (Ann.snd impl_FlatOk_an))))) (⟨mkE 19 0 [(9, .slc 0), (10, .dat (.int .i64) x4158), (11, .dat (.int .i64) 0)], [some (.seq (.int .u64) x4157)]⟩ : St) (impl_FlatOk_n4 x4158 x4157) (Sum.elim (fun (t : Bool) => (Exit.ret, (⟨mkE 19 0 [(2, .dat .bool t)], []⟩ : St))) (fun (t : Unit) => ((Exit.exit 0), (⟨mkE 19 0 [], []⟩ : St)))) := by
  unfold impl_FlatOk_n4
  exact Link.cast (by kernel_rfl) (by kernel_rfl) (link_loop (mk := fun (s : Int) => (⟨mkE 19 0 [(9, .slc 0), (10, .dat (.int .i64) x4158), (11, .dat (.int .i64) s)], [some (.seq (.int .u64) x4157)]⟩ : St)) (fin := (Sum.elim (fun (t : Bool) => (Exit.ret, (⟨mkE 19 0 [(2, .dat .bool t)], []⟩ : St))) (fun (t : Unit) => ((Exit.exit 0), (⟨mkE 19 0 [], []⟩ : St))))) (by
  rintro (t | t) f K h
  · exact h
  · exact h) (fun s => link_map (impl_FlatOk_n3_l x4158 s x4157) (Sum.elim (fun (t : Int) => Sum.inl t) (Sum.elim (fun (t : Bool) => Sum.inr (Sum.inl t)) (fun (t : Unit) => Sum.inr (Sum.inr t)))) (by
  rintro (t | t | t)
  · kernel_rfl
  · kernel_rfl
  · kernel_rfl)) 0)

theorem impl_FlatOk_n5_l (x4158 : Int) (x4157 : List Int) : Link impl_FlatOk_ctx LL (Code.snd (Code.fst (Code.snd (Code.snd (bodyOf Tryd.f41))))) (Ann.snd (Ann.fst (Ann.snd (Ann.snd impl_FlatOk_an)))) (⟨mkE 19 0 [(9, .slc 0), (10, .dat (.int .i64) x4158), (11, .dat (.int .i64) 0)], [some (.seq (.int .u64) x4157)]⟩ : St) (impl_FlatOk_n5 x4158 x4157) (Sum.elim (fun (t : Unit) => (Exit.normal, (⟨mkE 19 0 [], []⟩ : St))) (fun (t : Bool) => (Exit.ret, (⟨mkE 19 0 [(2, .dat .bool t)], []⟩ : St)))) := by
  unfold impl_FlatOk_n5
  exact Link.cast (by kernel_rfl) (by kernel_rfl) (link_block (id := 0) (impl_FlatOk_n4_l x4158 x4157) (Sum.elim (fun (t : Bool) => (Sum.inr t)) (fun (t : Unit) => (Sum.inl ()))) (by
  rintro (t | t) K h
  · exact Eq.mp (by kernel_rfl) h
  · exact Eq.mp (by kernel_rfl) h))

theorem impl_FlatOk_n6_l (x4154 : List Int) : Link impl_FlatOk_ctx LL (Code.fst (Code.snd (Code.snd (bodyOf Tryd.f41)))) (Ann.fst (Ann.snd (Ann.snd impl_FlatOk_an))) (⟨mkE 19 0 [(0, .dat (.list (.int .i64)) x4154)], []⟩ : St) (impl_FlatOk_n6 x4154) (Sum.elim (fun (t : Unit) => (Exit.normal, (⟨mkE 19 0 [], []⟩ : St))) (fun (t : Bool) => (Exit.ret, (⟨mkE 19 0 [(2, .dat .bool t)], []⟩ : St)))) := by
  unfold impl_FlatOk_n6
  exact Link.cast (by kernel_rfl) (by kernel_rfl) (link_seq (b := (Code.snd (Code.fst (Code.snd (Code.snd (bodyOf Tryd.f41)))))) (y := (Ann.snd (Ann.fst (Ann.snd (Ann.snd impl_FlatOk_an))))) (impl_FlatOk_n2_l x4154) (fun (t : Int × (List Int)) => (impl_FlatOk_n5_l t.1 t.2)))

theorem impl_FlatOk_n7_l : Link impl_FlatOk_ctx LL (Code.snd (Code.snd (Code.snd (bodyOf Tryd.f41)))) (Ann.snd (Ann.snd (Ann.snd impl_FlatOk_an))) (⟨mkE 19 0 [], []⟩ : St) (impl_FlatOk_n7) (fun (t : Bool) => (Exit.ret, (⟨mkE 19 0 [(2, .dat .bool t)], []⟩ : St))) := by
  refine Link.of fun K h => ?_
  simp only [impl_FlatOk_n7, wpO_bind, wpO_cond, wpO_map, wpO_some] at h
  exact Awp.of (by kernel_rfl) h

theorem impl_FlatOk_n8_l (x4154 : List Int) : Link impl_FlatOk_ctx LL (Code.snd (Code.snd (bodyOf Tryd.f41))) (Ann.snd (Ann.snd impl_FlatOk_an)) (⟨mkE 19 0 [(0, .dat (.list (.int .i64)) x4154)], []⟩ : St) (impl_FlatOk_n8 x4154) (fun (t : Bool) => (Exit.ret, (⟨mkE 19 0 [(2, .dat .bool t)], []⟩ : St))) := by
  unfold impl_FlatOk_n8
  exact Link.cast (by kernel_rfl) (by kernel_rfl) (link_seq2 (b := (Code.snd (Code.snd (Code.snd (bodyOf Tryd.f41))))) (y := (Ann.snd (Ann.snd (Ann.snd impl_FlatOk_an)))) (impl_FlatOk_n6_l x4154) (fun (t : Unit) => (impl_FlatOk_n7_l)) (fun (t : Bool) => t) (by
  rintro t
  · kernel_rfl) (by
  rintro t f K h
  · exact h))

theorem impl_FlatOk_n9_l (x4154 : List Int) : Link impl_FlatOk_ctx LL (bodyOf Tryd.f41) impl_FlatOk_an (⟨mkE 19 0 [(0, .dat (.list (.int .i64)) x4154)], []⟩ : St) (impl_FlatOk_n9 x4154) (fun (t : Bool) => (Exit.ret, (⟨mkE 19 0 [(2, .dat .bool t)], []⟩ : St))) := by
  unfold impl_FlatOk_n9
  exact Link.cast (by kernel_rfl) (by kernel_rfl) (link_group (c := (Code.fst (Code.snd (bodyOf Tryd.f41)))) (a := (Ann.fst (Ann.snd impl_FlatOk_an))) [(Code.fst (bodyOf Tryd.f41))] [(Ann.fst impl_FlatOk_an)] rfl (link_seq2 (b := (Code.snd (Code.snd (bodyOf Tryd.f41)))) (y := (Ann.snd (Ann.snd impl_FlatOk_an))) (impl_FlatOk_n1_l x4154) (fun (t : Unit) => (impl_FlatOk_n8_l x4154)) (fun (t : Bool) => t) (by
  rintro t
  · kernel_rfl) (by
  rintro t f K h
  · exact h)))

theorem impl_FlatOk_e (x4154 : List Int) {r : AV} {H' : Heap} (h : (Ans.mk _ (impl_FlatOk x4154) (fun (t : Bool) => (.dat .bool t, []))).run = some (r, H')) : Awp impl_FlatOk_ctx LL (bodyOf Tryd.f41) impl_FlatOk_an (⟨mkE 19 0 [(0, .dat (.list (.int .i64)) x4154)], []⟩ : St) (Ret (tlook tys) Tryd.f41.results.toList r H') :=
  ret_of' (impl_FlatOk_n9_l x4154) (by unfold impl_FlatOk; kernel_rfl) (by
  intro t
  exact ret_mk [.dat .bool t] (by kernel_rfl) (by kernel_rfl) (by kernel_rfl) (by kernel_rfl)) h

def F_impl_FlatOk : Fun := fun avs H =>
  match avs, H with
  | [.dat (.list (.int .i64)) x4154], [] => ⟨_, impl_FlatOk x4154, fun (t : Bool) => (.dat .bool t, [])⟩
  | _, _ => Ans.no

theorem impl_FlatOk_sound : Sound Tryd.prog 41 F_impl_FlatOk := by
  refine fn_sound' (C := impl_FlatOk_ctx) (c := bodyOf Tryd.f41) (cok_of tys_ok (List.forall_mem_cons.2 ⟨impl_TreeOk_sound, List.forall_mem_cons.2 ⟨impl_yieldsOf_sound, List.forall_mem_cons.2 ⟨impl_wordSet_isRow_sound, by simp⟩⟩⟩) (List.forall_mem_cons.2 ⟨Tryd.call40, List.forall_mem_cons.2 ⟨Tryd.call56, List.forall_mem_cons.2 ⟨Tryd.call76, by simp⟩⟩⟩) (by kernel_rfl)) Tryd.func41 (by kernel_rfl) LL impl_FlatOk_an ?_
  intro avs H r H' h
  unfold F_impl_FlatOk at h
  split at h
  · refine Awp.cast ?_ ?_ ?_ (impl_FlatOk_e _ h) <;> kernel_rfl
  · simp [Ans.no, Ans.run] at h


/-! loop.example/headtrees/spec.DrawFlatOk -/

def spec_DrawFlatOk_an : Ann := (.seq (.leaf [0]) (.seq (.leaf [2]) (.leaf [2])))

noncomputable def spec_DrawFlatOk_ctx : Ctx := ⟨tlook tys, olook [(54, F_spec_l20Open), (68, F_spec_l20Flat)], ioF, 0⟩

theorem spec_DrawFlatOk_n1_l (x4239 : List Int) : Link spec_DrawFlatOk_ctx LL (bodyOf Tryd.f43) spec_DrawFlatOk_an (⟨mkE 6 0 [(0, .dat (.list (.int .u8)) x4239)], []⟩ : St) (spec_DrawFlatOk_n1 x4239) (fun (t : (List Int)) => (Exit.ret, (⟨mkE 6 0 [(2, .slc 0)], [some (.seq (.int .i64) t)]⟩ : St))) := by
  refine Link.of fun K h => ?_
  simp only [spec_DrawFlatOk_n1, wpO_bind, wpO_cond, wpO_map, wpO_some] at h
  exact Awp.of (by kernel_rfl) h

theorem spec_DrawFlatOk_e (x4239 : List Int) {r : AV} {H' : Heap} (h : (Ans.mk _ (spec_DrawFlatOk x4239) (fun (t : (List Int)) => (.slc 0, [some (.seq (.int .i64) t)]))).run = some (r, H')) : Awp spec_DrawFlatOk_ctx LL (bodyOf Tryd.f43) spec_DrawFlatOk_an (⟨mkE 6 0 [(0, .dat (.list (.int .u8)) x4239)], []⟩ : St) (Ret (tlook tys) Tryd.f43.results.toList r H') :=
  ret_of' (spec_DrawFlatOk_n1_l x4239) (by unfold spec_DrawFlatOk; kernel_rfl) (by
  intro t
  exact ret_mk [.slc 0] (by kernel_rfl) (by kernel_rfl) (by kernel_rfl) (by kernel_rfl)) h

def F_spec_DrawFlatOk : Fun := fun avs H =>
  match avs, H with
  | [.dat (.list (.int .u8)) x4239], [] => ⟨_, spec_DrawFlatOk x4239, fun (t : (List Int)) => (.slc 0, [some (.seq (.int .i64) t)])⟩
  | _, _ => Ans.no

theorem spec_DrawFlatOk_sound : Sound Tryd.prog 43 F_spec_DrawFlatOk := by
  refine fn_sound' (C := spec_DrawFlatOk_ctx) (c := bodyOf Tryd.f43) (cok_of tys_ok (List.forall_mem_cons.2 ⟨spec_l20Open_sound, List.forall_mem_cons.2 ⟨spec_l20Flat_sound, by simp⟩⟩) (List.forall_mem_cons.2 ⟨Tryd.call54, List.forall_mem_cons.2 ⟨Tryd.call68, by simp⟩⟩) (by kernel_rfl)) Tryd.func43 (by kernel_rfl) LL spec_DrawFlatOk_an ?_
  intro avs H r H' h
  unfold F_spec_DrawFlatOk at h
  split at h
  · refine Awp.cast ?_ ?_ ?_ (spec_DrawFlatOk_e _ h) <;> kernel_rfl
  · simp [Ans.no, Ans.run] at h


/-! loop.example/headtrees/spec.l3Row -/

def spec_l3Row_an : Ann := (.seq (.leaf [0]) (.seq (.block (.loop (.seq (.seq (.leaf [0, 5]) (.cond (.leaf [0]) (.leaf [0]))) (.block (.leaf [0]))))) (.seq (.leaf [2]) (.leaf [2]))))

noncomputable def spec_l3Row_ctx : Ctx := ⟨tlook tys, olook [], ioF, 0⟩

theorem spec_l3Row_n1_l (x4265 : Int) : Link spec_l3Row_ctx LL (Code.fst (bodyOf Tryd.f79)) (Ann.fst spec_l3Row_an) (⟨mkE 13 0 [(0, .dat (.int .i64) x4265)], []⟩ : St) (spec_l3Row_n1) (fun (t : Unit) => (Exit.normal, (⟨mkE 13 0 [(0, .dat (.int .i64) x4265)], []⟩ : St))) := by
  refine Link.of fun K h => ?_
  simp only [spec_l3Row_n1, wpO_bind, wpO_cond, wpO_map, wpO_some] at h
  exact Awp.of (by kernel_rfl) h

theorem spec_l3Row_n2_l (x4271 : Int) : Link spec_l3Row_ctx LL (Code.fst (Code.fst (Code.fst (Code.snd (bodyOf Tryd.f79))))) (Ann.fst (Ann.fst (Ann.fst (Ann.snd spec_l3Row_an)))) (⟨mkE 13 0 [(0, .dat (.int .i64) x4271)], []⟩ : St) (spec_l3Row_n2 x4271) (Sum.elim (fun (t : Int) => (Exit.normal, (⟨mkE 13 0 [(0, .dat (.int .i64) t)], []⟩ : St))) (fun (t : Int) => ((Exit.exit 0), (⟨mkE 13 0 [(0, .dat (.int .i64) t)], []⟩ : St)))) := by
  refine Link.of fun K h => ?_
  simp only [spec_l3Row_n2, wpO_bind, wpO_cond, wpO_map, wpO_some] at h
  exact Awp.of (by kernel_rfl) h

theorem spec_l3Row_n3_l (x4265 : Int) : Link spec_l3Row_ctx LL (Code.fst (Code.fst (Code.snd (bodyOf Tryd.f79)))) (Ann.fst (Ann.fst (Ann.snd spec_l3Row_an))) (⟨mkE 13 0 [(0, .dat (.int .i64) x4265)], []⟩ : St) (spec_l3Row_n3 x4265) (fun (t : Int) => ((Exit.exit 0), (⟨mkE 13 0 [(0, .dat (.int .i64) t)], []⟩ : St))) := by
  unfold spec_l3Row_n3
  exact Link.cast (by kernel_rfl) (by kernel_rfl) (link_loop (mk := fun (s : Int) => (⟨mkE 13 0 [(0, .dat (.int .i64) s)], []⟩ : St)) (fin := (fun (t : Int) => ((Exit.exit 0), (⟨mkE 13 0 [(0, .dat (.int .i64) t)], []⟩ : St)))) (by
  rintro t f K h
  · exact h) (fun s => link_map (spec_l3Row_n2_l s) (Sum.elim (fun (t : Int) => Sum.inl t) (fun (t : Int) => Sum.inr t)) (by
  rintro (t | t)
  · kernel_rfl
  · kernel_rfl)) x4265)

theorem spec_l3Row_n4_l (x4265 : Int) : Link spec_l3Row_ctx LL (Code.fst (Code.snd (bodyOf Tryd.f79))) (Ann.fst (Ann.snd spec_l3Row_an)) (⟨mkE 13 0 [(0, .dat (.int .i64) x4265)], []⟩ : St) (spec_l3Row_n4 x4265) (fun (t : Int) => (Exit.normal, (⟨mkE 13 0 [(0, .dat (.int .i64) t)], []⟩ : St))) := by
  unfold spec_l3Row_n4
  exact Link.cast (by kernel_rfl) (by kernel_rfl) (link_block (id := 0) (spec_l3Row_n3_l x4265) (fun (t : Int) => t) (by
  rintro t K h
  · exact Eq.mp (by kernel_rfl) h))

theorem spec_l3Row_n5_l (x4271 : Int) : Link spec_l3Row_ctx LL (Code.snd (Code.snd (bodyOf Tryd.f79))) (Ann.snd (Ann.snd spec_l3Row_an)) (⟨mkE 13 0 [(0, .dat (.int .i64) x4271)], []⟩ : St) (spec_l3Row_n5 x4271) (fun (t : Bool) => (Exit.ret, (⟨mkE 13 0 [(2, .dat .bool t)], []⟩ : St))) := by
  refine Link.of fun K h => ?_
  simp only [spec_l3Row_n5, wpO_bind, wpO_cond, wpO_map, wpO_some] at h
  exact Awp.of (by kernel_rfl) h

theorem spec_l3Row_n6_l (x4265 : Int) : Link spec_l3Row_ctx LL (Code.snd (bodyOf Tryd.f79)) (Ann.snd spec_l3Row_an) (⟨mkE 13 0 [(0, .dat (.int .i64) x4265)], []⟩ : St) (spec_l3Row_n6 x4265) (fun (t : Bool) => (Exit.ret, (⟨mkE 13 0 [(2, .dat .bool t)], []⟩ : St))) := by
  unfold spec_l3Row_n6
  exact Link.cast (by kernel_rfl) (by kernel_rfl) (link_seq (b := (Code.snd (Code.snd (bodyOf Tryd.f79)))) (y := (Ann.snd (Ann.snd spec_l3Row_an))) (spec_l3Row_n4_l x4265) (fun (t : Int) => (spec_l3Row_n5_l t)))

theorem spec_l3Row_n7_l (x4265 : Int) : Link spec_l3Row_ctx LL (bodyOf Tryd.f79) spec_l3Row_an (⟨mkE 13 0 [(0, .dat (.int .i64) x4265)], []⟩ : St) (spec_l3Row_n7 x4265) (fun (t : Bool) => (Exit.ret, (⟨mkE 13 0 [(2, .dat .bool t)], []⟩ : St))) := by
  unfold spec_l3Row_n7
  exact Link.cast (by kernel_rfl) (by kernel_rfl) (link_seq (b := (Code.snd (bodyOf Tryd.f79))) (y := (Ann.snd spec_l3Row_an)) (spec_l3Row_n1_l x4265) (fun (t : Unit) => (spec_l3Row_n6_l x4265)))

theorem spec_l3Row_e (x4265 : Int) {r : AV} {H' : Heap} (h : (Ans.mk _ (spec_l3Row x4265) (fun (t : Bool) => (.dat .bool t, []))).run = some (r, H')) : Awp spec_l3Row_ctx LL (bodyOf Tryd.f79) spec_l3Row_an (⟨mkE 13 0 [(0, .dat (.int .i64) x4265)], []⟩ : St) (Ret (tlook tys) Tryd.f79.results.toList r H') :=
  ret_of' (spec_l3Row_n7_l x4265) (by unfold spec_l3Row; kernel_rfl) (by
  intro t
  exact ret_mk [.dat .bool t] (by kernel_rfl) (by kernel_rfl) (by kernel_rfl) (by kernel_rfl)) h

def F_spec_l3Row : Fun := fun avs H =>
  match avs, H with
  | [.dat (.int .i64) x4265], [] => ⟨_, spec_l3Row x4265, fun (t : Bool) => (.dat .bool t, [])⟩
  | _, _ => Ans.no

theorem spec_l3Row_sound : Sound Tryd.prog 79 F_spec_l3Row := by
  refine fn_sound' (C := spec_l3Row_ctx) (c := bodyOf Tryd.f79) (cok_of tys_ok (by simp) (by simp) (by kernel_rfl)) Tryd.func79 (by kernel_rfl) LL spec_l3Row_an ?_
  intro avs H r H' h
  unfold F_spec_l3Row at h
  split at h
  · refine Awp.cast ?_ ?_ ?_ (spec_l3Row_e _ h) <;> kernel_rfl
  · simp [Ans.no, Ans.run] at h


/-! loop.example/headtrees/spec.FlatOk -/

def spec_FlatOk_an : Ann := (.seq (.leaf [0]) (.seq (.seq (.leaf [0, 3]) (.block (.loop (.seq (.seq (.leaf [0, 3, 11]) (.cond (.leaf [0, 3]) (.leaf [0]))) (.seq (.block (.seq (.leaf [0, 3, 18]) (.cond (.seq (.leaf [2]) (.leaf [2])) (.leaf [0, 3])))) (.leaf [0, 3])))))) (.seq (.leaf [2]) (.leaf [2]))))

noncomputable def spec_FlatOk_ctx : Ctx := ⟨tlook tys, olook [(27, F_spec_TreeOk), (60, F_spec_l2Yield), (79, F_spec_l3Row)], ioF, 0⟩

theorem spec_FlatOk_n1_l (x4257 : List Int) : Link spec_FlatOk_ctx LL (Code.fst (bodyOf Tryd.f44)) (Ann.fst spec_FlatOk_an) (⟨mkE 21 0 [(0, .dat (.list (.int .i64)) x4257)], []⟩ : St) (spec_FlatOk_n1) (fun (t : Unit) => (Exit.normal, (⟨mkE 21 0 [(0, .dat (.list (.int .i64)) x4257)], []⟩ : St))) := by
  refine Link.of fun K h => ?_
  simp only [spec_FlatOk_n1, wpO_bind, wpO_cond, wpO_map, wpO_some] at h
  exact Awp.of (by kernel_rfl) h

theorem spec_FlatOk_n2_l (x4257 : List Int) : Link spec_FlatOk_ctx LL (Code.fst (Code.fst (Code.snd (bodyOf Tryd.f44)))) (Ann.fst (Ann.fst (Ann.snd spec_FlatOk_an))) (⟨mkE 21 0 [(0, .dat (.list (.int .i64)) x4257)], []⟩ : St) (spec_FlatOk_n2) (fun (t : Unit) => (Exit.normal, (⟨mkE 21 0 [(0, .dat (.list (.int .i64)) x4257), (3, .dat (.int .i64) 1)], []⟩ : St))) := by
  refine Link.of fun K h => ?_
  simp only [spec_FlatOk_n2, wpO_bind, wpO_cond, wpO_map, wpO_some] at h
  exact Awp.of (by kernel_rfl) h

theorem spec_FlatOk_n3_l (x4257 : List Int) (x4292 : Int) : Link spec_FlatOk_ctx LL (Code.fst (Code.fst (Code.snd (Code.fst (Code.snd (bodyOf Tryd.f44)))))) (Ann.fst (Ann.fst (Ann.snd (Ann.fst (Ann.snd spec_FlatOk_an))))) (⟨mkE 21 0 [(0, .dat (.list (.int .i64)) x4257), (3, .dat (.int .i64) x4292)], []⟩ : St) (spec_FlatOk_n3 x4257 x4292) (Sum.elim (fun (t : Int) => (Exit.normal, (⟨mkE 21 0 [(0, .dat (.list (.int .i64)) x4257), (3, .dat (.int .i64) t)], []⟩ : St))) (Sum.elim (fun (t : Bool) => (Exit.ret, (⟨mkE 21 0 [(2, .dat .bool t)], []⟩ : St))) (fun (t : Unit) => ((Exit.exit 0), (⟨mkE 21 0 [(0, .dat (.list (.int .i64)) x4257)], []⟩ : St))))) := by
  refine Link.of fun K h => ?_
  simp only [spec_FlatOk_n3, wpO_bind, wpO_cond, wpO_map, wpO_some] at h
  exact Awp.of (by kernel_rfl) h

theorem spec_FlatOk_n4_l (x4257 : List Int) : Link spec_FlatOk_ctx LL (Code.fst (Code.snd (Code.fst (Code.snd (bodyOf Tryd.f44))))) (Ann.fst (Ann.snd (Ann.fst (Ann.snd spec_FlatOk_an)))) (⟨mkE 21 0 [(0, .dat (.list (.int .i64)) x4257), (3, .dat (.int .i64) 1)], []⟩ : St) (spec_FlatOk_n4 x4257) (Sum.elim (fun (t : Bool) => (Exit.ret, (⟨mkE 21 0 [(2, .dat .bool t)], []⟩ : St))) (fun (t : Unit) => ((Exit.exit 0), (⟨mkE 21 0 [(0, .dat (.list (.int .i64)) x4257)], []⟩ : St)))) := by
  unfold spec_FlatOk_n4
  exact Link.cast (by kernel_rfl) (by kernel_rfl) (link_loop (mk := fun (s : Int) => (⟨mkE 21 0 [(0, .dat (.list (.int .i64)) x4257), (3, .dat (.int .i64) s)], []⟩ : St)) (fin := (Sum.elim (fun (t : Bool) => (Exit.ret, (⟨mkE 21 0 [(2, .dat .bool t)], []⟩ : St))) (fun (t : Unit) => ((Exit.exit 0), (⟨mkE 21 0 [(0, .dat (.list (.int .i64)) x4257)], []⟩ : St))))) (by
  rintro (t | t) f K h
  · exact h
  · exact h) (fun s => link_map (spec_FlatOk_n3_l x4257 s) (Sum.elim (fun (t : Int) => Sum.inl t) (Sum.elim (fun (t : Bool) => Sum.inr (Sum.inl t)) (fun (t : Unit) => Sum.inr (Sum.inr t)))) (by
  rintro (t | t | t)
  · kernel_rfl
  · kernel_rfl
  · kernel_rfl)) 1)

theorem spec_FlatOk_n5_l (x4257 : List Int) : Link spec_FlatOk_ctx LL (Code.snd (Code.fst (Code.snd (bodyOf Tryd.f44)))) (Ann.snd (Ann.fst (Ann.snd spec_FlatOk_an))) (⟨mkE 21 0 [(0, .dat (.list (.int .i64)) x4257), (3, .dat (.int .i64) 1)], []⟩ : St) (spec_FlatOk_n5 x4257) (Sum.elim (fun (t : Unit) => (Exit.normal, (⟨mkE 21 0 [(0, .dat (.list (.int .i64)) x4257)], []⟩ : St))) (fun (t : Bool) => (Exit.ret, (⟨mkE 21 0 [(2, .dat .bool t)], []⟩ : St)))) := by
  unfold spec_FlatOk_n5
  exact Link.cast (by kernel_rfl) (by kernel_rfl) (link_block (id := 0) (spec_FlatOk_n4_l x4257) (Sum.elim (fun (t : Bool) => (Sum.inr t)) (fun (t : Unit) => (Sum.inl ()))) (by
  rintro (t | t) K h
  · exact Eq.mp (by kernel_rfl) h
  · exact Eq.mp (by kernel_rfl) h))

theorem spec_FlatOk_n6_l (x4257 : List Int) : Link spec_FlatOk_ctx LL (Code.fst (Code.snd (bodyOf Tryd.f44))) (Ann.fst (Ann.snd spec_FlatOk_an)) (⟨mkE 21 0 [(0, .dat (.list (.int .i64)) x4257)], []⟩ : St) (spec_FlatOk_n6 x4257) (Sum.elim (fun (t : Unit) => (Exit.normal, (⟨mkE 21 0 [(0, .dat (.list (.int .i64)) x4257)], []⟩ : St))) (fun (t : Bool) => (Exit.ret, (⟨mkE 21 0 [(2, .dat .bool t)], []⟩ : St)))) := by
  unfold spec_FlatOk_n6
  exact Link.cast (by kernel_rfl) (by kernel_rfl) (link_seq (b := (Code.snd (Code.fst (Code.snd (bodyOf Tryd.f44))))) (y := (Ann.snd (Ann.fst (Ann.snd spec_FlatOk_an)))) (spec_FlatOk_n2_l x4257) (fun (t : Unit) => (spec_FlatOk_n5_l x4257)))

theorem spec_FlatOk_n7_l (x4257 : List Int) : Link spec_FlatOk_ctx LL (Code.snd (Code.snd (bodyOf Tryd.f44))) (Ann.snd (Ann.snd spec_FlatOk_an)) (⟨mkE 21 0 [(0, .dat (.list (.int .i64)) x4257)], []⟩ : St) (spec_FlatOk_n7 x4257) (fun (t : Bool) => (Exit.ret, (⟨mkE 21 0 [(2, .dat .bool t)], []⟩ : St))) := by
  refine Link.of fun K h => ?_
  simp only [spec_FlatOk_n7, wpO_bind, wpO_cond, wpO_map, wpO_some] at h
  exact Awp.of (by kernel_rfl) h

theorem spec_FlatOk_n8_l (x4257 : List Int) : Link spec_FlatOk_ctx LL (Code.snd (bodyOf Tryd.f44)) (Ann.snd spec_FlatOk_an) (⟨mkE 21 0 [(0, .dat (.list (.int .i64)) x4257)], []⟩ : St) (spec_FlatOk_n8 x4257) (fun (t : Bool) => (Exit.ret, (⟨mkE 21 0 [(2, .dat .bool t)], []⟩ : St))) := by
  unfold spec_FlatOk_n8
  exact Link.cast (by kernel_rfl) (by kernel_rfl) (link_seq2 (b := (Code.snd (Code.snd (bodyOf Tryd.f44)))) (y := (Ann.snd (Ann.snd spec_FlatOk_an))) (spec_FlatOk_n6_l x4257) (fun (t : Unit) => (spec_FlatOk_n7_l x4257)) (fun (t : Bool) => t) (by
  rintro t
  · kernel_rfl) (by
  rintro t f K h
  · exact h))

theorem spec_FlatOk_n9_l (x4257 : List Int) : Link spec_FlatOk_ctx LL (bodyOf Tryd.f44) spec_FlatOk_an (⟨mkE 21 0 [(0, .dat (.list (.int .i64)) x4257)], []⟩ : St) (spec_FlatOk_n9 x4257) (fun (t : Bool) => (Exit.ret, (⟨mkE 21 0 [(2, .dat .bool t)], []⟩ : St))) := by
  unfold spec_FlatOk_n9
  exact Link.cast (by kernel_rfl) (by kernel_rfl) (link_seq (b := (Code.snd (bodyOf Tryd.f44))) (y := (Ann.snd spec_FlatOk_an)) (spec_FlatOk_n1_l x4257) (fun (t : Unit) => (spec_FlatOk_n8_l x4257)))

theorem spec_FlatOk_e (x4257 : List Int) {r : AV} {H' : Heap} (h : (Ans.mk _ (spec_FlatOk x4257) (fun (t : Bool) => (.dat .bool t, []))).run = some (r, H')) : Awp spec_FlatOk_ctx LL (bodyOf Tryd.f44) spec_FlatOk_an (⟨mkE 21 0 [(0, .dat (.list (.int .i64)) x4257)], []⟩ : St) (Ret (tlook tys) Tryd.f44.results.toList r H') :=
  ret_of' (spec_FlatOk_n9_l x4257) (by unfold spec_FlatOk; kernel_rfl) (by
  intro t
  exact ret_mk [.dat .bool t] (by kernel_rfl) (by kernel_rfl) (by kernel_rfl) (by kernel_rfl)) h

def F_spec_FlatOk : Fun := fun avs H =>
  match avs, H with
  | [.dat (.list (.int .i64)) x4257], [] => ⟨_, spec_FlatOk x4257, fun (t : Bool) => (.dat .bool t, [])⟩
  | _, _ => Ans.no

theorem spec_FlatOk_sound : Sound Tryd.prog 44 F_spec_FlatOk := by
  refine fn_sound' (C := spec_FlatOk_ctx) (c := bodyOf Tryd.f44) (cok_of tys_ok (List.forall_mem_cons.2 ⟨spec_TreeOk_sound, List.forall_mem_cons.2 ⟨spec_l2Yield_sound, List.forall_mem_cons.2 ⟨spec_l3Row_sound, by simp⟩⟩⟩) (List.forall_mem_cons.2 ⟨Tryd.call27, List.forall_mem_cons.2 ⟨Tryd.call60, List.forall_mem_cons.2 ⟨Tryd.call79, by simp⟩⟩⟩) (by kernel_rfl)) Tryd.func44 (by kernel_rfl) LL spec_FlatOk_an ?_
  intro avs H r H' h
  unfold F_spec_FlatOk at h
  split at h
  · refine Awp.cast ?_ ?_ ?_ (spec_FlatOk_e _ h) <;> kernel_rfl
  · simp [Ans.no, Ans.run] at h


/-! loop.example/headtrees/impl.CoveredOk -/

def impl_CoveredOk_an : Ann := (.seq (.leaf [0, 1]) (.seq (.seq (.leaf [0, 1, 10]) (.cond (.seq (.leaf [4]) (.leaf [4])) (.leaf [0, 1]))) (.seq (.seq (.leaf [1, 12, 13, 14]) (.block (.loop (.seq (.leaf [1, 12, 13, 14, 15]) (.seq (.cond (.leaf [1, 12, 13, 14]) (.leaf [])) (.seq (.block (.seq (.leaf [1, 6, 12, 13, 14]) (.seq (.leaf [1, 12, 13, 14, 20]) (.cond (.seq (.leaf [4]) (.leaf [4])) (.leaf [1, 12, 13, 14]))))) (.leaf [1, 12, 13, 14]))))))) (.seq (.leaf [4]) (.leaf [4])))))

noncomputable def impl_CoveredOk_ctx : Ctx := ⟨tlook tys, olook [(55, F_impl_wordOk), (70, F_impl_arcsOf), (80, F_impl_arc_covers)], ioF, 0⟩

theorem impl_CoveredOk_n1_l (x4422 : List Int) (x4423 : Int) : Link impl_CoveredOk_ctx LL (Code.seq (Code.fst (bodyOf Tryd.f45)) (Code.fst (Code.snd (bodyOf Tryd.f45)))) (Ann.seq (Ann.fst impl_CoveredOk_an) (Ann.fst (Ann.snd impl_CoveredOk_an))) (⟨mkE 22 0 [(0, .dat (.list (.int .i64)) x4422), (1, .dat (.int .i64) x4423)], []⟩ : St) (impl_CoveredOk_n1 x4422 x4423) (Sum.elim (fun (t : Unit) => (Exit.normal, (⟨mkE 22 0 [(0, .dat (.list (.int .i64)) x4422), (1, .dat (.int .i64) x4423)], []⟩ : St))) (fun (t : Bool) => (Exit.ret, (⟨mkE 22 0 [(4, .dat .bool t)], []⟩ : St)))) := by
  refine Link.of fun K h => ?_
  simp only [impl_CoveredOk_n1, wpO_bind, wpO_cond, wpO_map, wpO_some] at h
  exact Awp.of (by kernel_rfl) h

theorem impl_CoveredOk_n2_l (x4422 : List Int) (x4423 : Int) : Link impl_CoveredOk_ctx LL (Code.fst (Code.fst (Code.snd (Code.snd (bodyOf Tryd.f45))))) (Ann.fst (Ann.fst (Ann.snd (Ann.snd impl_CoveredOk_an)))) (⟨mkE 22 0 [(0, .dat (.list (.int .i64)) x4422), (1, .dat (.int .i64) x4423)], []⟩ : St) (impl_CoveredOk_n2 x4422) (fun (t : Int × (List (Int × Int × Unit))) => (Exit.normal, (⟨mkE 22 0 [(1, .dat (.int .i64) x4423), (12, .slc 0), (13, .dat (.int .i64) t.1), (14, .dat (.int .i64) 0)], [some (.seq (.pair (.int .i64) (.pair (.int .i64) .unit)) t.2)]⟩ : St))) := by
  refine Link.of fun K h => ?_
  simp only [impl_CoveredOk_n2, wpO_bind, wpO_cond, wpO_map, wpO_some] at h
  exact Awp.of (by kernel_rfl) h

theorem impl_CoveredOk_n3_l (x4423 : Int) (x4427 : Int) (x4447 : Int) (x4426 : List (Int × Int × Unit)) : Link impl_CoveredOk_ctx LL (Code.fst (Code.fst (Code.snd (Code.fst (Code.snd (Code.snd (bodyOf Tryd.f45))))))) (Ann.fst (Ann.fst (Ann.snd (Ann.fst (Ann.snd (Ann.snd impl_CoveredOk_an)))))) (⟨mkE 22 0 [(1, .dat (.int .i64) x4423), (12, .slc 0), (13, .dat (.int .i64) x4427), (14, .dat (.int .i64) x4447)], [some (.seq (.pair (.int .i64) (.pair (.int .i64) .unit)) x4426)]⟩ : St) (impl_CoveredOk_n3 x4423 x4427 x4447 x4426) (Sum.elim (fun (t : Int) => (Exit.normal, (⟨mkE 22 0 [(1, .dat (.int .i64) x4423), (12, .slc 0), (13, .dat (.int .i64) x4427), (14, .dat (.int .i64) t)], [some (.seq (.pair (.int .i64) (.pair (.int .i64) .unit)) x4426)]⟩ : St))) (Sum.elim (fun (t : Bool) => (Exit.ret, (⟨mkE 22 0 [(4, .dat .bool t)], []⟩ : St))) (fun (t : Unit) => ((Exit.exit 0), (⟨mkE 22 0 [], []⟩ : St))))) := by
  refine Link.of fun K h => ?_
  simp only [impl_CoveredOk_n3, wpO_bind, wpO_cond, wpO_map, wpO_some] at h
  exact Awp.of (by kernel_rfl) h

theorem impl_CoveredOk_n4_l (x4423 : Int) (x4427 : Int) (x4426 : List (Int × Int × Unit)) : Link impl_CoveredOk_ctx LL (Code.fst (Code.snd (Code.fst (Code.snd (Code.snd (bodyOf Tryd.f45)))))) (Ann.fst (Ann.snd (Ann.fst (Ann.snd (Ann.snd impl_CoveredOk_an))))) (⟨mkE 22 0 [(1, .dat (.int .i64) x4423), (12, .slc 0), (13, .dat (.int .i64) x4427), (14, .dat (.int .i64) 0)], [some (.seq (.pair (.int .i64) (.pair (.int .i64) .unit)) x4426)]⟩ : St) (impl_CoveredOk_n4 x4423 x4427 x4426) (Sum.elim (fun (t : Bool) => (Exit.ret, (⟨mkE 22 0 [(4, .dat .bool t)], []⟩ : St))) (fun (t : Unit) => ((Exit.exit 0), (⟨mkE 22 0 [], []⟩ : St)))) := by
  unfold impl_CoveredOk_n4
  exact Link.cast (by kernel_rfl) (by kernel_rfl) (link_loop (mk := fun (s : Int) => (⟨mkE 22 0 [(1, .dat (.int .i64) x4423), (12, .slc 0), (13, .dat (.int .i64) x4427), (14, .dat (.int .i64) s)], [some (.seq (.pair (.int .i64) (.pair (.int .i64) .unit)) x4426)]⟩ : St)) (fin := (Sum.elim (fun (t : Bool) => (Exit.ret, (⟨mkE 22 0 [(4, .dat .bool t)], []⟩ : St))) (fun (t : Unit) => ((Exit.exit 0), (⟨mkE 22 0 [], []⟩ : St))))) (by
  rintro (t | t) f K h
  · exact h
  · exact h) (fun s => link_map (impl_CoveredOk_n3_l x4423 x4427 s x4426) (Sum.elim (fun (t : Int) => Sum.inl t) (Sum.elim (fun (t : Bool) => Sum.inr (Sum.inl t)) (fun (t : Unit) => Sum.inr (Sum.inr t)))) (by
  rintro (t | t | t)
  · kernel_rfl
  · kernel_rfl
  · kernel_rfl)) 0)

theorem impl_CoveredOk_n5_l (x4423 : Int) (x4427 : Int) (x4426 : List (Int × Int × Unit)) : Link impl_CoveredOk_ctx LL (Code.snd (Code.fst (Code.snd (Code.snd (bodyOf Tryd.f45))))) (Ann.snd (Ann.fst (Ann.snd (Ann.snd impl_CoveredOk_an)))) (⟨mkE 22 0 [(1, .dat (.int .i64) x4423), (12, .slc 0), (13, .dat (.int .i64) x4427), (14, .dat (.int .i64) 0)], [some (.seq (.pair (.int .i64) (.pair (.int .i64) .unit)) x4426)]⟩ : St) (impl_CoveredOk_n5 x4423 x4427 x4426) (Sum.elim (fun (t : Unit) => (Exit.normal, (⟨mkE 22 0 [], []⟩ : St))) (fun (t : Bool) => (Exit.ret, (⟨mkE 22 0 [(4, .dat .bool t)], []⟩ : St)))) := by
  unfold impl_CoveredOk_n5
  exact Link.cast (by kernel_rfl) (by kernel_rfl) (link_block (id := 0) (impl_CoveredOk_n4_l x4423 x4427 x4426) (Sum.elim (fun (t : Bool) => (Sum.inr t)) (fun (t : Unit) => (Sum.inl ()))) (by
  rintro (t | t) K h
  · exact Eq.mp (by kernel_rfl) h
  · exact Eq.mp (by kernel_rfl) h))

theorem impl_CoveredOk_n6_l (x4422 : List Int) (x4423 : Int) : Link impl_CoveredOk_ctx LL (Code.fst (Code.snd (Code.snd (bodyOf Tryd.f45)))) (Ann.fst (Ann.snd (Ann.snd impl_CoveredOk_an))) (⟨mkE 22 0 [(0, .dat (.list (.int .i64)) x4422), (1, .dat (.int .i64) x4423)], []⟩ : St) (impl_CoveredOk_n6 x4422 x4423) (Sum.elim (fun (t : Unit) => (Exit.normal, (⟨mkE 22 0 [], []⟩ : St))) (fun (t : Bool) => (Exit.ret, (⟨mkE 22 0 [(4, .dat .bool t)], []⟩ : St)))) := by
  unfold impl_CoveredOk_n6
  exact Link.cast (by kernel_rfl) (by kernel_rfl) (link_seq (b := (Code.snd (Code.fst (Code.snd (Code.snd (bodyOf Tryd.f45)))))) (y := (Ann.snd (Ann.fst (Ann.snd (Ann.snd impl_CoveredOk_an))))) (impl_CoveredOk_n2_l x4422 x4423) (fun (t : Int × (List (Int × Int × Unit))) => (impl_CoveredOk_n5_l x4423 t.1 t.2)))

theorem impl_CoveredOk_n7_l : Link impl_CoveredOk_ctx LL (Code.snd (Code.snd (Code.snd (bodyOf Tryd.f45)))) (Ann.snd (Ann.snd (Ann.snd impl_CoveredOk_an))) (⟨mkE 22 0 [], []⟩ : St) (impl_CoveredOk_n7) (fun (t : Bool) => (Exit.ret, (⟨mkE 22 0 [(4, .dat .bool t)], []⟩ : St))) := by
  refine Link.of fun K h => ?_
  simp only [impl_CoveredOk_n7, wpO_bind, wpO_cond, wpO_map, wpO_some] at h
  exact Awp.of (by kernel_rfl) h

theorem impl_CoveredOk_n8_l (x4422 : List Int) (x4423 : Int) : Link impl_CoveredOk_ctx LL (Code.snd (Code.snd (bodyOf Tryd.f45))) (Ann.snd (Ann.snd impl_CoveredOk_an)) (⟨mkE 22 0 [(0, .dat (.list (.int .i64)) x4422), (1, .dat (.int .i64) x4423)], []⟩ : St) (impl_CoveredOk_n8 x4422 x4423) (fun (t : Bool) => (Exit.ret, (⟨mkE 22 0 [(4, .dat .bool t)], []⟩ : St))) := by
  unfold impl_CoveredOk_n8
  exact Link.cast (by kernel_rfl) (by kernel_rfl) (link_seq2 (b := (Code.snd (Code.snd (Code.snd (bodyOf Tryd.f45))))) (y := (Ann.snd (Ann.snd (Ann.snd impl_CoveredOk_an)))) (impl_CoveredOk_n6_l x4422 x4423) (fun (t : Unit) => (impl_CoveredOk_n7_l)) (fun (t : Bool) => t) (by
  rintro t
  · kernel_rfl) (by
  rintro t f K h
  · exact h))

theorem impl_CoveredOk_n9_l (x4422 : List Int) (x4423 : Int) : Link impl_CoveredOk_ctx LL (bodyOf Tryd.f45) impl_CoveredOk_an (⟨mkE 22 0 [(0, .dat (.list (.int .i64)) x4422), (1, .dat (.int .i64) x4423)], []⟩ : St) (impl_CoveredOk_n9 x4422 x4423) (fun (t : Bool) => (Exit.ret, (⟨mkE 22 0 [(4, .dat .bool t)], []⟩ : St))) := by
  unfold impl_CoveredOk_n9
  exact Link.cast (by kernel_rfl) (by kernel_rfl) (link_group (c := (Code.fst (Code.snd (bodyOf Tryd.f45)))) (a := (Ann.fst (Ann.snd impl_CoveredOk_an))) [(Code.fst (bodyOf Tryd.f45))] [(Ann.fst impl_CoveredOk_an)] rfl (link_seq2 (b := (Code.snd (Code.snd (bodyOf Tryd.f45)))) (y := (Ann.snd (Ann.snd impl_CoveredOk_an))) (impl_CoveredOk_n1_l x4422 x4423) (fun (t : Unit) => (impl_CoveredOk_n8_l x4422 x4423)) (fun (t : Bool) => t) (by
  rintro t
  · kernel_rfl) (by
  rintro t f K h
  · exact h)))

theorem impl_CoveredOk_e (x4422 : List Int) (x4423 : Int) {r : AV} {H' : Heap} (h : (Ans.mk _ (impl_CoveredOk x4422 x4423) (fun (t : Bool) => (.dat .bool t, []))).run = some (r, H')) : Awp impl_CoveredOk_ctx LL (bodyOf Tryd.f45) impl_CoveredOk_an (⟨mkE 22 0 [(0, .dat (.list (.int .i64)) x4422), (1, .dat (.int .i64) x4423)], []⟩ : St) (Ret (tlook tys) Tryd.f45.results.toList r H') :=
  ret_of' (impl_CoveredOk_n9_l x4422 x4423) (by unfold impl_CoveredOk; kernel_rfl) (by
  intro t
  exact ret_mk [.dat .bool t] (by kernel_rfl) (by kernel_rfl) (by kernel_rfl) (by kernel_rfl)) h

def F_impl_CoveredOk : Fun := fun avs H =>
  match avs, H with
  | [.dat (.list (.int .i64)) x4422, .dat (.int .i64) x4423], [] => ⟨_, impl_CoveredOk x4422 x4423, fun (t : Bool) => (.dat .bool t, [])⟩
  | _, _ => Ans.no

theorem impl_CoveredOk_sound : Sound Tryd.prog 45 F_impl_CoveredOk := by
  refine fn_sound' (C := impl_CoveredOk_ctx) (c := bodyOf Tryd.f45) (cok_of tys_ok (List.forall_mem_cons.2 ⟨impl_wordOk_sound, List.forall_mem_cons.2 ⟨impl_arcsOf_sound, List.forall_mem_cons.2 ⟨impl_arc_covers_sound, by simp⟩⟩⟩) (List.forall_mem_cons.2 ⟨Tryd.call55, List.forall_mem_cons.2 ⟨Tryd.call70, List.forall_mem_cons.2 ⟨Tryd.call80, by simp⟩⟩⟩) (by kernel_rfl)) Tryd.func45 (by kernel_rfl) LL impl_CoveredOk_an ?_
  intro avs H r H' h
  unfold F_impl_CoveredOk at h
  split at h
  · refine Awp.cast ?_ ?_ ?_ (impl_CoveredOk_e _ _ h) <;> kernel_rfl
  · simp [Ans.no, Ans.run] at h


/-! loop.example/headtrees/laws.FnFlatOk -/

def laws_FnFlatOk_an : Ann := (.seq (.leaf [0]) (.seq (.seq (.leaf [0, 11]) (.cond (.seq (.leaf [2]) (.leaf [2])) (.leaf [0]))) (.seq (.leaf [3]) (.seq (.leaf [3, 4]) (.seq (.seq (.leaf [3, 4, 19]) (.cond (.seq (.leaf [2]) (.leaf [2])) (.leaf [3, 4]))) (.seq (.seq (.leaf [3, 4, 22]) (.cond (.seq (.leaf [2]) (.leaf [2])) (.leaf [3, 4]))) (.seq (.leaf [3, 4, 5]) (.seq (.seq (.leaf [3, 4, 5, 6]) (.block (.loop (.seq (.seq (.leaf [3, 4, 5, 6, 31]) (.cond (.leaf [3, 4, 5, 6]) (.leaf [3, 4, 5]))) (.seq (.block (.seq (.leaf [3, 4, 5, 6, 7]) (.seq (.leaf [3, 4, 5, 6, 7, 8]) (.block (.loop (.seq (.seq (.leaf [3, 4, 5, 6, 7, 8, 51]) (.cond (.leaf [3, 4, 5, 6, 7, 8]) (.leaf [3, 4, 5, 6]))) (.seq (.block (.leaf [3, 4, 5, 6, 7, 8])) (.leaf [3, 4, 5, 6, 7, 8])))))))) (.leaf [3, 4, 5, 6])))))) (.seq (.leaf [2]) (.leaf [2]))))))))))

noncomputable def laws_FnFlatOk_ctx : Ctx := ⟨tlook tys, olook [(43, F_spec_DrawFlatOk), (41, F_impl_FlatOk), (44, F_spec_FlatOk), (27, F_spec_TreeOk), (20, F_laws_alive), (29, F_impl_UnderOk), (38, F_impl_CrossingsOf), (23, F_impl_RootOf), (45, F_impl_CoveredOk)], ioF, 0⟩

theorem laws_FnFlatOk_n1_l (x4234 : List Int) : Link laws_FnFlatOk_ctx LL (Code.seq (Code.fst (bodyOf Tryd.f9)) (Code.seq (Code.fst (Code.snd (bodyOf Tryd.f9))) (Code.seq (Code.fst (Code.snd (Code.snd (bodyOf Tryd.f9)))) (Code.seq (Code.fst (Code.snd (Code.snd (Code.snd (bodyOf Tryd.f9))))) (Code.seq (Code.fst (Code.snd (Code.snd (Code.snd (Code.snd (bodyOf Tryd.f9)))))) (Code.seq (Code.fst (Code.snd (Code.snd (Code.snd (Code.snd (Code.snd (bodyOf Tryd.f9))))))) (Code.fst (Code.snd (Code.snd (Code.snd (Code.snd (Code.snd (Code.snd (bodyOf Tryd.f9)))))))))))))) (Ann.seq (Ann.fst laws_FnFlatOk_an) (Ann.seq (Ann.fst (Ann.snd laws_FnFlatOk_an)) (Ann.seq (Ann.fst (Ann.snd (Ann.snd laws_FnFlatOk_an))) (Ann.seq (Ann.fst (Ann.snd (Ann.snd (Ann.snd laws_FnFlatOk_an)))) (Ann.seq (Ann.fst (Ann.snd (Ann.snd (Ann.snd (Ann.snd laws_FnFlatOk_an))))) (Ann.seq (Ann.fst (Ann.snd (Ann.snd (Ann.snd (Ann.snd (Ann.snd laws_FnFlatOk_an)))))) (Ann.fst (Ann.snd (Ann.snd (Ann.snd (Ann.snd (Ann.snd (Ann.snd laws_FnFlatOk_an))))))))))))) (⟨mkE 78 0 [(0, .dat (.list (.int .u8)) x4234)], []⟩ : St) (laws_FnFlatOk_n1 x4234) (Sum.elim (fun (t : Bool × (List Int)) => (Exit.normal, (⟨mkE 78 0 [(3, .slc 0), (4, .dat .bool t.1), (5, .dat .bool true)], [some (.seq (.int .i64) t.2)]⟩ : St))) (fun (t : Bool) => (Exit.ret, (⟨mkE 78 0 [(2, .dat .bool t)], []⟩ : St)))) := by
  refine Link.of fun K h => ?_
  simp only [laws_FnFlatOk_n1, wpO_bind, wpO_cond, wpO_map, wpO_some] at h
  exact Awp.of (by kernel_rfl) h

theorem laws_FnFlatOk_n2_l (x4327 : Bool) (x4326 : List Int) : Link laws_FnFlatOk_ctx LL (Code.fst (Code.fst (Code.snd (Code.snd (Code.snd (Code.snd (Code.snd (Code.snd (Code.snd (bodyOf Tryd.f9)))))))))) (Ann.fst (Ann.fst (Ann.snd (Ann.snd (Ann.snd (Ann.snd (Ann.snd (Ann.snd (Ann.snd laws_FnFlatOk_an))))))))) (⟨mkE 78 0 [(3, .slc 0), (4, .dat .bool x4327), (5, .dat .bool true)], [some (.seq (.int .i64) x4326)]⟩ : St) (laws_FnFlatOk_n2) (fun (t : Unit) => (Exit.normal, (⟨mkE 78 0 [(3, .slc 0), (4, .dat .bool x4327), (5, .dat .bool true), (6, .dat (.int .i64) 1)], [some (.seq (.int .i64) x4326)]⟩ : St))) := by
  refine Link.of fun K h => ?_
  simp only [laws_FnFlatOk_n2, wpO_bind, wpO_cond, wpO_map, wpO_some] at h
  exact Awp.of (by kernel_rfl) h

theorem laws_FnFlatOk_n3_l (x4327 : Bool) (x4374 : Bool) (x4375 : Int) (x4326 : List Int) : Link laws_FnFlatOk_ctx LL (Code.fst (Code.fst (Code.fst (Code.snd (Code.fst (Code.snd (Code.snd (Code.snd (Code.snd (Code.snd (Code.snd (Code.snd (bodyOf Tryd.f9))))))))))))) (Ann.fst (Ann.fst (Ann.fst (Ann.snd (Ann.fst (Ann.snd (Ann.snd (Ann.snd (Ann.snd (Ann.snd (Ann.snd (Ann.snd laws_FnFlatOk_an)))))))))))) (⟨mkE 78 0 [(3, .slc 0), (4, .dat .bool x4327), (5, .dat .bool x4374), (6, .dat (.int .i64) x4375)], [some (.seq (.int .i64) x4326)]⟩ : St) (laws_FnFlatOk_n3 x4374 x4375 x4326) (Sum.elim (fun (t : Unit) => (Exit.normal, (⟨mkE 78 0 [(3, .slc 0), (4, .dat .bool x4327), (5, .dat .bool x4374), (6, .dat (.int .i64) x4375)], [some (.seq (.int .i64) x4326)]⟩ : St))) (fun (t : Bool) => ((Exit.exit 0), (⟨mkE 78 0 [(3, .slc 0), (4, .dat .bool x4327), (5, .dat .bool t)], [some (.seq (.int .i64) x4326)]⟩ : St)))) := by
  refine Link.of fun K h => ?_
  simp only [laws_FnFlatOk_n3, wpO_bind, wpO_cond, wpO_map, wpO_some] at h
  exact Awp.of (by kernel_rfl) h

theorem laws_FnFlatOk_n4_l (x4327 : Bool) (x4374 : Bool) (x4375 : Int) (x4326 : List Int) : Link laws_FnFlatOk_ctx LL (Code.seq (Code.fst (Code.fst (Code.fst (Code.snd (Code.fst (Code.fst (Code.snd (Code.fst (Code.snd (Code.snd (Code.snd (Code.snd (Code.snd (Code.snd (Code.snd (bodyOf Tryd.f9)))))))))))))))) (Code.fst (Code.snd (Code.fst (Code.fst (Code.snd (Code.fst (Code.fst (Code.snd (Code.fst (Code.snd (Code.snd (Code.snd (Code.snd (Code.snd (Code.snd (Code.snd (bodyOf Tryd.f9)))))))))))))))))) (Ann.seq (Ann.fst (Ann.fst (Ann.fst (Ann.snd (Ann.fst (Ann.fst (Ann.snd (Ann.fst (Ann.snd (Ann.snd (Ann.snd (Ann.snd (Ann.snd (Ann.snd (Ann.snd laws_FnFlatOk_an))))))))))))))) (Ann.fst (Ann.snd (Ann.fst (Ann.fst (Ann.snd (Ann.fst (Ann.fst (Ann.snd (Ann.fst (Ann.snd (Ann.snd (Ann.snd (Ann.snd (Ann.snd (Ann.snd (Ann.snd laws_FnFlatOk_an))))))))))))))))) (⟨mkE 78 0 [(3, .slc 0), (4, .dat .bool x4327), (5, .dat .bool x4374), (6, .dat (.int .i64) x4375)], [some (.seq (.int .i64) x4326)]⟩ : St) (laws_FnFlatOk_n4 x4375 x4326) (fun (t : Int × Int) => (Exit.normal, (⟨mkE 78 0 [(3, .slc 0), (4, .dat .bool x4327), (5, .dat .bool x4374), (6, .dat (.int .i64) x4375), (7, .dat (.int .i64) t.1), (8, .dat (.int .i64) t.2)], [some (.seq (.int .i64) x4326)]⟩ : St))) := by
  refine Link.of fun K h => ?_
  simp only [laws_FnFlatOk_n4, wpO_bind, wpO_cond, wpO_map, wpO_some] at h
  exact Awp.of (by kernel_rfl) h

theorem laws_FnFlatOk_n5_l (x4327 : Bool) (x4401 : Bool) (x4375 : Int) (x4383 : Int) (x4402 : Int) (x4326 : List Int) : Link laws_FnFlatOk_ctx LL (Code.fst (Code.fst (Code.snd (Code.snd (Code.fst (Code.fst (Code.snd (Code.fst (Code.fst (Code.snd (Code.fst (Code.snd (Code.snd (Code.snd (Code.snd (Code.snd (Code.snd (Code.snd (bodyOf Tryd.f9))))))))))))))))))) (Ann.fst (Ann.fst (Ann.snd (Ann.snd (Ann.fst (Ann.fst (Ann.snd (Ann.fst (Ann.fst (Ann.snd (Ann.fst (Ann.snd (Ann.snd (Ann.snd (Ann.snd (Ann.snd (Ann.snd (Ann.snd laws_FnFlatOk_an)))))))))))))))))) (⟨mkE 78 0 [(3, .slc 0), (4, .dat .bool x4327), (5, .dat .bool x4401), (6, .dat (.int .i64) x4375), (7, .dat (.int .i64) x4383), (8, .dat (.int .i64) x4402)], [some (.seq (.int .i64) x4326)]⟩ : St) (laws_FnFlatOk_n5 x4401 x4375 x4383 x4402 x4326) (Sum.elim (fun (t : Bool × Int) => (Exit.normal, (⟨mkE 78 0 [(3, .slc 0), (4, .dat .bool x4327), (5, .dat .bool t.1), (6, .dat (.int .i64) x4375), (7, .dat (.int .i64) x4383), (8, .dat (.int .i64) t.2)], [some (.seq (.int .i64) x4326)]⟩ : St))) (fun (t : Bool) => ((Exit.exit 2), (⟨mkE 78 0 [(3, .slc 0), (4, .dat .bool x4327), (5, .dat .bool t), (6, .dat (.int .i64) x4375)], [some (.seq (.int .i64) x4326)]⟩ : St)))) := by
  refine Link.of fun K h => ?_
  simp only [laws_FnFlatOk_n5, wpO_bind, wpO_cond, wpO_map, wpO_some] at h
  exact Awp.of (by kernel_rfl) h

theorem laws_FnFlatOk_n6_l (x4327 : Bool) (x4374 : Bool) (x4375 : Int) (x4383 : Int) (x4385 : Int) (x4326 : List Int) : Link laws_FnFlatOk_ctx LL (Code.fst (Code.snd (Code.snd (Code.fst (Code.fst (Code.snd (Code.fst (Code.fst (Code.snd (Code.fst (Code.snd (Code.snd (Code.snd (Code.snd (Code.snd (Code.snd (Code.snd (bodyOf Tryd.f9)))))))))))))))))) (Ann.fst (Ann.snd (Ann.snd (Ann.fst (Ann.fst (Ann.snd (Ann.fst (Ann.fst (Ann.snd (Ann.fst (Ann.snd (Ann.snd (Ann.snd (Ann.snd (Ann.snd (Ann.snd (Ann.snd laws_FnFlatOk_an))))))))))))))))) (⟨mkE 78 0 [(3, .slc 0), (4, .dat .bool x4327), (5, .dat .bool x4374), (6, .dat (.int .i64) x4375), (7, .dat (.int .i64) x4383), (8, .dat (.int .i64) x4385)], [some (.seq (.int .i64) x4326)]⟩ : St) (laws_FnFlatOk_n6 x4374 x4375 x4383 x4385 x4326) (fun (t : Bool) => ((Exit.exit 2), (⟨mkE 78 0 [(3, .slc 0), (4, .dat .bool x4327), (5, .dat .bool t), (6, .dat (.int .i64) x4375)], [some (.seq (.int .i64) x4326)]⟩ : St))) := by
  unfold laws_FnFlatOk_n6
  exact Link.cast (by kernel_rfl) (by kernel_rfl) (link_loop (mk := fun (s : Bool × Int) => (⟨mkE 78 0 [(3, .slc 0), (4, .dat .bool x4327), (5, .dat .bool s.1), (6, .dat (.int .i64) x4375), (7, .dat (.int .i64) x4383), (8, .dat (.int .i64) s.2)], [some (.seq (.int .i64) x4326)]⟩ : St)) (fin := (fun (t : Bool) => ((Exit.exit 2), (⟨mkE 78 0 [(3, .slc 0), (4, .dat .bool x4327), (5, .dat .bool t), (6, .dat (.int .i64) x4375)], [some (.seq (.int .i64) x4326)]⟩ : St)))) (by
  rintro t f K h
  · exact h) (fun s => link_map (laws_FnFlatOk_n5_l x4327 s.1 x4375 x4383 s.2 x4326) (Sum.elim (fun (t : Bool × Int) => Sum.inl (t.1, t.2)) (fun (t : Bool) => Sum.inr t)) (by
  rintro (t | t)
  · kernel_rfl
  · kernel_rfl)) (x4374, x4385))

theorem laws_FnFlatOk_n7_l (x4327 : Bool) (x4374 : Bool) (x4375 : Int) (x4383 : Int) (x4385 : Int) (x4326 : List Int) : Link laws_FnFlatOk_ctx LL (Code.snd (Code.snd (Code.fst (Code.fst (Code.snd (Code.fst (Code.fst (Code.snd (Code.fst (Code.snd (Code.snd (Code.snd (Code.snd (Code.snd (Code.snd (Code.snd (bodyOf Tryd.f9))))))))))))))))) (Ann.snd (Ann.snd (Ann.fst (Ann.fst (Ann.snd (Ann.fst (Ann.fst (Ann.snd (Ann.fst (Ann.snd (Ann.snd (Ann.snd (Ann.snd (Ann.snd (Ann.snd (Ann.snd laws_FnFlatOk_an)))))))))))))))) (⟨mkE 78 0 [(3, .slc 0), (4, .dat .bool x4327), (5, .dat .bool x4374), (6, .dat (.int .i64) x4375), (7, .dat (.int .i64) x4383), (8, .dat (.int .i64) x4385)], [some (.seq (.int .i64) x4326)]⟩ : St) (laws_FnFlatOk_n7 x4374 x4375 x4383 x4385 x4326) (fun (t : Bool) => (Exit.normal, (⟨mkE 78 0 [(3, .slc 0), (4, .dat .bool x4327), (5, .dat .bool t), (6, .dat (.int .i64) x4375)], [some (.seq (.int .i64) x4326)]⟩ : St))) := by
  unfold laws_FnFlatOk_n7
  exact Link.cast (by kernel_rfl) (by kernel_rfl) (link_block (id := 2) (laws_FnFlatOk_n6_l x4327 x4374 x4375 x4383 x4385 x4326) (fun (t : Bool) => t) (by
  rintro t K h
  · exact Eq.mp (by kernel_rfl) h))

theorem laws_FnFlatOk_n8_l (x4327 : Bool) (x4374 : Bool) (x4375 : Int) (x4326 : List Int) : Link laws_FnFlatOk_ctx LL (Code.fst (Code.fst (Code.snd (Code.fst (Code.fst (Code.snd (Code.fst (Code.snd (Code.snd (Code.snd (Code.snd (Code.snd (Code.snd (Code.snd (bodyOf Tryd.f9))))))))))))))) (Ann.fst (Ann.fst (Ann.snd (Ann.fst (Ann.fst (Ann.snd (Ann.fst (Ann.snd (Ann.snd (Ann.snd (Ann.snd (Ann.snd (Ann.snd (Ann.snd laws_FnFlatOk_an)))))))))))))) (⟨mkE 78 0 [(3, .slc 0), (4, .dat .bool x4327), (5, .dat .bool x4374), (6, .dat (.int .i64) x4375)], [some (.seq (.int .i64) x4326)]⟩ : St) (laws_FnFlatOk_n8 x4374 x4375 x4326) (fun (t : Bool) => (Exit.normal, (⟨mkE 78 0 [(3, .slc 0), (4, .dat .bool x4327), (5, .dat .bool t), (6, .dat (.int .i64) x4375)], [some (.seq (.int .i64) x4326)]⟩ : St))) := by
  unfold laws_FnFlatOk_n8
  exact Link.cast (by kernel_rfl) (by kernel_rfl) (link_group (c := (Code.fst (Code.snd (Code.fst (Code.fst (Code.snd (Code.fst (Code.fst (Code.snd (Code.fst (Code.snd (Code.snd (Code.snd (Code.snd (Code.snd (Code.snd (Code.snd (bodyOf Tryd.f9)))))))))))))))))) (a := (Ann.fst (Ann.snd (Ann.fst (Ann.fst (Ann.snd (Ann.fst (Ann.fst (Ann.snd (Ann.fst (Ann.snd (Ann.snd (Ann.snd (Ann.snd (Ann.snd (Ann.snd (Ann.snd laws_FnFlatOk_an))))))))))))))))) [(Code.fst (Code.fst (Code.fst (Code.snd (Code.fst (Code.fst (Code.snd (Code.fst (Code.snd (Code.snd (Code.snd (Code.snd (Code.snd (Code.snd (Code.snd (bodyOf Tryd.f9))))))))))))))))] [(Ann.fst (Ann.fst (Ann.fst (Ann.snd (Ann.fst (Ann.fst (Ann.snd (Ann.fst (Ann.snd (Ann.snd (Ann.snd (Ann.snd (Ann.snd (Ann.snd (Ann.snd laws_FnFlatOk_an)))))))))))))))] rfl (link_seq (b := (Code.snd (Code.snd (Code.fst (Code.fst (Code.snd (Code.fst (Code.fst (Code.snd (Code.fst (Code.snd (Code.snd (Code.snd (Code.snd (Code.snd (Code.snd (Code.snd (bodyOf Tryd.f9)))))))))))))))))) (y := (Ann.snd (Ann.snd (Ann.fst (Ann.fst (Ann.snd (Ann.fst (Ann.fst (Ann.snd (Ann.fst (Ann.snd (Ann.snd (Ann.snd (Ann.snd (Ann.snd (Ann.snd (Ann.snd laws_FnFlatOk_an))))))))))))))))) (laws_FnFlatOk_n4_l x4327 x4374 x4375 x4326) (fun (t : Int × Int) => (laws_FnFlatOk_n7_l x4327 x4374 x4375 t.1 t.2 x4326))))

theorem laws_FnFlatOk_n9_l (x4327 : Bool) (x4374 : Bool) (x4375 : Int) (x4326 : List Int) : Link laws_FnFlatOk_ctx LL (Code.fst (Code.snd (Code.fst (Code.fst (Code.snd (Code.fst (Code.snd (Code.snd (Code.snd (Code.snd (Code.snd (Code.snd (Code.snd (bodyOf Tryd.f9)))))))))))))) (Ann.fst (Ann.snd (Ann.fst (Ann.fst (Ann.snd (Ann.fst (Ann.snd (Ann.snd (Ann.snd (Ann.snd (Ann.snd (Ann.snd (Ann.snd laws_FnFlatOk_an))))))))))))) (⟨mkE 78 0 [(3, .slc 0), (4, .dat .bool x4327), (5, .dat .bool x4374), (6, .dat (.int .i64) x4375)], [some (.seq (.int .i64) x4326)]⟩ : St) (laws_FnFlatOk_n9 x4374 x4375 x4326) (fun (t : Bool) => (Exit.normal, (⟨mkE 78 0 [(3, .slc 0), (4, .dat .bool x4327), (5, .dat .bool t), (6, .dat (.int .i64) x4375)], [some (.seq (.int .i64) x4326)]⟩ : St))) := by
  unfold laws_FnFlatOk_n9
  exact Link.cast (by kernel_rfl) (by kernel_rfl) (link_block (id := 1) (laws_FnFlatOk_n8_l x4327 x4374 x4375 x4326) (fun (t : Bool) => t) (by
  rintro t K h
  · exact Eq.mp (by kernel_rfl) h))

theorem laws_FnFlatOk_n10_l (x4327 : Bool) (x4401 : Bool) (x4375 : Int) (x4326 : List Int) : Link laws_FnFlatOk_ctx LL (Code.snd (Code.snd (Code.fst (Code.fst (Code.snd (Code.fst (Code.snd (Code.snd (Code.snd (Code.snd (Code.snd (Code.snd (Code.snd (bodyOf Tryd.f9)))))))))))))) (Ann.snd (Ann.snd (Ann.fst (Ann.fst (Ann.snd (Ann.fst (Ann.snd (Ann.snd (Ann.snd (Ann.snd (Ann.snd (Ann.snd (Ann.snd laws_FnFlatOk_an))))))))))))) (⟨mkE 78 0 [(3, .slc 0), (4, .dat .bool x4327), (5, .dat .bool x4401), (6, .dat (.int .i64) x4375)], [some (.seq (.int .i64) x4326)]⟩ : St) (laws_FnFlatOk_n10 x4375) (fun (t : Int) => (Exit.normal, (⟨mkE 78 0 [(3, .slc 0), (4, .dat .bool x4327), (5, .dat .bool x4401), (6, .dat (.int .i64) t)], [some (.seq (.int .i64) x4326)]⟩ : St))) := by
  refine Link.of fun K h => ?_
  simp only [laws_FnFlatOk_n10, wpO_bind, wpO_cond, wpO_map, wpO_some] at h
  exact Awp.of (by kernel_rfl) h

theorem laws_FnFlatOk_n11_l (x4327 : Bool) (x4374 : Bool) (x4375 : Int) (x4326 : List Int) : Link laws_FnFlatOk_ctx LL (Code.snd (Code.fst (Code.fst (Code.snd (Code.fst (Code.snd (Code.snd (Code.snd (Code.snd (Code.snd (Code.snd (Code.snd (bodyOf Tryd.f9))))))))))))) (Ann.snd (Ann.fst (Ann.fst (Ann.snd (Ann.fst (Ann.snd (Ann.snd (Ann.snd (Ann.snd (Ann.snd (Ann.snd (Ann.snd laws_FnFlatOk_an)))))))))))) (⟨mkE 78 0 [(3, .slc 0), (4, .dat .bool x4327), (5, .dat .bool x4374), (6, .dat (.int .i64) x4375)], [some (.seq (.int .i64) x4326)]⟩ : St) (laws_FnFlatOk_n11 x4374 x4375 x4326) (fun (t : Bool × Int) => (Exit.normal, (⟨mkE 78 0 [(3, .slc 0), (4, .dat .bool x4327), (5, .dat .bool t.1), (6, .dat (.int .i64) t.2)], [some (.seq (.int .i64) x4326)]⟩ : St))) := by
  unfold laws_FnFlatOk_n11
  exact Link.cast (by kernel_rfl) (by kernel_rfl) (link_seq (b := (Code.snd (Code.snd (Code.fst (Code.fst (Code.snd (Code.fst (Code.snd (Code.snd (Code.snd (Code.snd (Code.snd (Code.snd (Code.snd (bodyOf Tryd.f9))))))))))))))) (y := (Ann.snd (Ann.snd (Ann.fst (Ann.fst (Ann.snd (Ann.fst (Ann.snd (Ann.snd (Ann.snd (Ann.snd (Ann.snd (Ann.snd (Ann.snd laws_FnFlatOk_an)))))))))))))) (laws_FnFlatOk_n9_l x4327 x4374 x4375 x4326) (fun (t : Bool) => (link_map (laws_FnFlatOk_n10_l x4327 t x4375 x4326) (fun (u : Int) => (t, u)) (by
  rintro t
  · kernel_rfl))))

theorem laws_FnFlatOk_n12_l (x4327 : Bool) (x4374 : Bool) (x4375 : Int) (x4326 : List Int) : Link laws_FnFlatOk_ctx LL (Code.fst (Code.fst (Code.snd (Code.fst (Code.snd (Code.snd (Code.snd (Code.snd (Code.snd (Code.snd (Code.snd (bodyOf Tryd.f9)))))))))))) (Ann.fst (Ann.fst (Ann.snd (Ann.fst (Ann.snd (Ann.snd (Ann.snd (Ann.snd (Ann.snd (Ann.snd (Ann.snd laws_FnFlatOk_an))))))))))) (⟨mkE 78 0 [(3, .slc 0), (4, .dat .bool x4327), (5, .dat .bool x4374), (6, .dat (.int .i64) x4375)], [some (.seq (.int .i64) x4326)]⟩ : St) (laws_FnFlatOk_n12 x4374 x4375 x4326) (Sum.elim (fun (t : Bool × Int) => (Exit.normal, (⟨mkE 78 0 [(3, .slc 0), (4, .dat .bool x4327), (5, .dat .bool t.1), (6, .dat (.int .i64) t.2)], [some (.seq (.int .i64) x4326)]⟩ : St))) (fun (t : Bool) => ((Exit.exit 0), (⟨mkE 78 0 [(3, .slc 0), (4, .dat .bool x4327), (5, .dat .bool t)], [some (.seq (.int .i64) x4326)]⟩ : St)))) := by
  unfold laws_FnFlatOk_n12
  exact Link.cast (by kernel_rfl) (by kernel_rfl) (link_seq2 (b := (Code.snd (Code.fst (Code.fst (Code.snd (Code.fst (Code.snd (Code.snd (Code.snd (Code.snd (Code.snd (Code.snd (Code.snd (bodyOf Tryd.f9)))))))))))))) (y := (Ann.snd (Ann.fst (Ann.fst (Ann.snd (Ann.fst (Ann.snd (Ann.snd (Ann.snd (Ann.snd (Ann.snd (Ann.snd (Ann.snd laws_FnFlatOk_an))))))))))))) (laws_FnFlatOk_n3_l x4327 x4374 x4375 x4326) (fun (t : Unit) => (link_map (laws_FnFlatOk_n11_l x4327 x4374 x4375 x4326) (fun (t : Bool × Int) => (Sum.inl (t.1, t.2))) (by
  rintro t
  · kernel_rfl))) (fun (t : Bool) => (Sum.inr t)) (by
  rintro t
  · kernel_rfl) (by
  rintro t f K h
  · exact h))

theorem laws_FnFlatOk_n13_l (x4327 : Bool) (x4326 : List Int) : Link laws_FnFlatOk_ctx LL (Code.fst (Code.snd (Code.fst (Code.snd (Code.snd (Code.snd (Code.snd (Code.snd (Code.snd (Code.snd (bodyOf Tryd.f9))))))))))) (Ann.fst (Ann.snd (Ann.fst (Ann.snd (Ann.snd (Ann.snd (Ann.snd (Ann.snd (Ann.snd (Ann.snd laws_FnFlatOk_an)))))))))) (⟨mkE 78 0 [(3, .slc 0), (4, .dat .bool x4327), (5, .dat .bool true), (6, .dat (.int .i64) 1)], [some (.seq (.int .i64) x4326)]⟩ : St) (laws_FnFlatOk_n13 x4326) (fun (t : Bool) => ((Exit.exit 0), (⟨mkE 78 0 [(3, .slc 0), (4, .dat .bool x4327), (5, .dat .bool t)], [some (.seq (.int .i64) x4326)]⟩ : St))) := by
  unfold laws_FnFlatOk_n13
  exact Link.cast (by kernel_rfl) (by kernel_rfl) (link_loop (mk := fun (s : Bool × Int) => (⟨mkE 78 0 [(3, .slc 0), (4, .dat .bool x4327), (5, .dat .bool s.1), (6, .dat (.int .i64) s.2)], [some (.seq (.int .i64) x4326)]⟩ : St)) (fin := (fun (t : Bool) => ((Exit.exit 0), (⟨mkE 78 0 [(3, .slc 0), (4, .dat .bool x4327), (5, .dat .bool t)], [some (.seq (.int .i64) x4326)]⟩ : St)))) (by
  rintro t f K h
  · exact h) (fun s => link_map (laws_FnFlatOk_n12_l x4327 s.1 s.2 x4326) (Sum.elim (fun (t : Bool × Int) => Sum.inl (t.1, t.2)) (fun (t : Bool) => Sum.inr t)) (by
  rintro (t | t)
  · kernel_rfl
  · kernel_rfl)) (true, 1))

theorem laws_FnFlatOk_n14_l (x4327 : Bool) (x4326 : List Int) : Link laws_FnFlatOk_ctx LL (Code.snd (Code.fst (Code.snd (Code.snd (Code.snd (Code.snd (Code.snd (Code.snd (Code.snd (bodyOf Tryd.f9)))))))))) (Ann.snd (Ann.fst (Ann.snd (Ann.snd (Ann.snd (Ann.snd (Ann.snd (Ann.snd (Ann.snd laws_FnFlatOk_an))))))))) (⟨mkE 78 0 [(3, .slc 0), (4, .dat .bool x4327), (5, .dat .bool true), (6, .dat (.int .i64) 1)], [some (.seq (.int .i64) x4326)]⟩ : St) (laws_FnFlatOk_n14 x4326) (fun (t : Bool) => (Exit.normal, (⟨mkE 78 0 [(3, .slc 0), (4, .dat .bool x4327), (5, .dat .bool t)], [some (.seq (.int .i64) x4326)]⟩ : St))) := by
  unfold laws_FnFlatOk_n14
  exact Link.cast (by kernel_rfl) (by kernel_rfl) (link_block (id := 0) (laws_FnFlatOk_n13_l x4327 x4326) (fun (t : Bool) => t) (by
  rintro t K h
  · exact Eq.mp (by kernel_rfl) h))

theorem laws_FnFlatOk_n15_l (x4327 : Bool) (x4326 : List Int) : Link laws_FnFlatOk_ctx LL (Code.fst (Code.snd (Code.snd (Code.snd (Code.snd (Code.snd (Code.snd (Code.snd (bodyOf Tryd.f9))))))))) (Ann.fst (Ann.snd (Ann.snd (Ann.snd (Ann.snd (Ann.snd (Ann.snd (Ann.snd laws_FnFlatOk_an)))))))) (⟨mkE 78 0 [(3, .slc 0), (4, .dat .bool x4327), (5, .dat .bool true)], [some (.seq (.int .i64) x4326)]⟩ : St) (laws_FnFlatOk_n15 x4326) (fun (t : Bool) => (Exit.normal, (⟨mkE 78 0 [(3, .slc 0), (4, .dat .bool x4327), (5, .dat .bool t)], [some (.seq (.int .i64) x4326)]⟩ : St))) := by
  unfold laws_FnFlatOk_n15
  exact Link.cast (by kernel_rfl) (by kernel_rfl) (link_seq (b := (Code.snd (Code.fst (Code.snd (Code.snd (Code.snd (Code.snd (Code.snd (Code.snd (Code.snd (bodyOf Tryd.f9))))))))))) (y := (Ann.snd (Ann.fst (Ann.snd (Ann.snd (Ann.snd (Ann.snd (Ann.snd (Ann.snd (Ann.snd laws_FnFlatOk_an)))))))))) (laws_FnFlatOk_n2_l x4327 x4326) (fun (t : Unit) => (laws_FnFlatOk_n14_l x4327 x4326)))

theorem laws_FnFlatOk_n16_l (x4327 : Bool) (x4374 : Bool) (x4326 : List Int) : Link laws_FnFlatOk_ctx LL (Code.snd (Code.snd (Code.snd (Code.snd (Code.snd (Code.snd (Code.snd (Code.snd (bodyOf Tryd.f9))))))))) (Ann.snd (Ann.snd (Ann.snd (Ann.snd (Ann.snd (Ann.snd (Ann.snd (Ann.snd laws_FnFlatOk_an)))))))) (⟨mkE 78 0 [(3, .slc 0), (4, .dat .bool x4327), (5, .dat .bool x4374)], [some (.seq (.int .i64) x4326)]⟩ : St) (laws_FnFlatOk_n16 x4327 x4374 x4326) (fun (t : Bool) => (Exit.ret, (⟨mkE 78 0 [(2, .dat .bool t)], []⟩ : St))) := by
  refine Link.of fun K h => ?_
  simp only [laws_FnFlatOk_n16, wpO_bind, wpO_cond, wpO_map, wpO_some] at h
  exact Awp.of (by kernel_rfl) h

theorem laws_FnFlatOk_n17_l (x4327 : Bool) (x4326 : List Int) : Link laws_FnFlatOk_ctx LL (Code.snd (Code.snd (Code.snd (Code.snd (Code.snd (Code.snd (Code.snd (bodyOf Tryd.f9)))))))) (Ann.snd (Ann.snd (Ann.snd (Ann.snd (Ann.snd (Ann.snd (Ann.snd laws_FnFlatOk_an))))))) (⟨mkE 78 0 [(3, .slc 0), (4, .dat .bool x4327), (5, .dat .bool true)], [some (.seq (.int .i64) x4326)]⟩ : St) (laws_FnFlatOk_n17 x4327 x4326) (fun (t : Bool) => (Exit.ret, (⟨mkE 78 0 [(2, .dat .bool t)], []⟩ : St))) := by
  unfold laws_FnFlatOk_n17
  exact Link.cast (by kernel_rfl) (by kernel_rfl) (link_seq (b := (Code.snd (Code.snd (Code.snd (Code.snd (Code.snd (Code.snd (Code.snd (Code.snd (bodyOf Tryd.f9)))))))))) (y := (Ann.snd (Ann.snd (Ann.snd (Ann.snd (Ann.snd (Ann.snd (Ann.snd (Ann.snd laws_FnFlatOk_an))))))))) (laws_FnFlatOk_n15_l x4327 x4326) (fun (t : Bool) => (laws_FnFlatOk_n16_l x4327 t x4326)))

theorem laws_FnFlatOk_n18_l (x4234 : List Int) : Link laws_FnFlatOk_ctx LL (bodyOf Tryd.f9) laws_FnFlatOk_an (⟨mkE 78 0 [(0, .dat (.list (.int .u8)) x4234)], []⟩ : St) (laws_FnFlatOk_n18 x4234) (fun (t : Bool) => (Exit.ret, (⟨mkE 78 0 [(2, .dat .bool t)], []⟩ : St))) := by
  unfold laws_FnFlatOk_n18
  exact Link.cast (by kernel_rfl) (by kernel_rfl) (link_group (c := (Code.fst (Code.snd (Code.snd (Code.snd (Code.snd (Code.snd (Code.snd (bodyOf Tryd.f9))))))))) (a := (Ann.fst (Ann.snd (Ann.snd (Ann.snd (Ann.snd (Ann.snd (Ann.snd laws_FnFlatOk_an)))))))) [(Code.fst (bodyOf Tryd.f9)), (Code.fst (Code.snd (bodyOf Tryd.f9))), (Code.fst (Code.snd (Code.snd (bodyOf Tryd.f9)))), (Code.fst (Code.snd (Code.snd (Code.snd (bodyOf Tryd.f9))))), (Code.fst (Code.snd (Code.snd (Code.snd (Code.snd (bodyOf Tryd.f9)))))), (Code.fst (Code.snd (Code.snd (Code.snd (Code.snd (Code.snd (bodyOf Tryd.f9)))))))] [(Ann.fst laws_FnFlatOk_an), (Ann.fst (Ann.snd laws_FnFlatOk_an)), (Ann.fst (Ann.snd (Ann.snd laws_FnFlatOk_an))), (Ann.fst (Ann.snd (Ann.snd (Ann.snd laws_FnFlatOk_an)))), (Ann.fst (Ann.snd (Ann.snd (Ann.snd (Ann.snd laws_FnFlatOk_an))))), (Ann.fst (Ann.snd (Ann.snd (Ann.snd (Ann.snd (Ann.snd laws_FnFlatOk_an))))))] rfl (link_seq2 (b := (Code.snd (Code.snd (Code.snd (Code.snd (Code.snd (Code.snd (Code.snd (bodyOf Tryd.f9))))))))) (y := (Ann.snd (Ann.snd (Ann.snd (Ann.snd (Ann.snd (Ann.snd (Ann.snd laws_FnFlatOk_an)))))))) (laws_FnFlatOk_n1_l x4234) (fun (t : Bool × (List Int)) => (laws_FnFlatOk_n17_l t.1 t.2)) (fun (t : Bool) => t) (by
  rintro t
  · kernel_rfl) (by
  rintro t f K h
  · exact h)))

theorem laws_FnFlatOk_e (x4234 : List Int) {r : AV} {H' : Heap} (h : (Ans.mk _ (laws_FnFlatOk x4234) (fun (t : Bool) => (.dat .bool t, []))).run = some (r, H')) : Awp laws_FnFlatOk_ctx LL (bodyOf Tryd.f9) laws_FnFlatOk_an (⟨mkE 78 0 [(0, .dat (.list (.int .u8)) x4234)], []⟩ : St) (Ret (tlook tys) Tryd.f9.results.toList r H') :=
  ret_of' (laws_FnFlatOk_n18_l x4234) (by unfold laws_FnFlatOk; kernel_rfl) (by
  intro t
  exact ret_mk [.dat .bool t] (by kernel_rfl) (by kernel_rfl) (by kernel_rfl) (by kernel_rfl)) h

def F_laws_FnFlatOk : Fun := fun avs H =>
  match avs, H with
  | [.dat (.list (.int .u8)) x4234], [] => ⟨_, laws_FnFlatOk x4234, fun (t : Bool) => (.dat .bool t, [])⟩
  | _, _ => Ans.no

theorem laws_FnFlatOk_sound : Sound Tryd.prog 9 F_laws_FnFlatOk := by
  refine fn_sound' (C := laws_FnFlatOk_ctx) (c := bodyOf Tryd.f9) (cok_of tys_ok (List.forall_mem_cons.2 ⟨spec_DrawFlatOk_sound, List.forall_mem_cons.2 ⟨impl_FlatOk_sound, List.forall_mem_cons.2 ⟨spec_FlatOk_sound, List.forall_mem_cons.2 ⟨spec_TreeOk_sound, List.forall_mem_cons.2 ⟨laws_alive_sound, List.forall_mem_cons.2 ⟨impl_UnderOk_sound, List.forall_mem_cons.2 ⟨impl_CrossingsOf_sound, List.forall_mem_cons.2 ⟨impl_RootOf_sound, List.forall_mem_cons.2 ⟨impl_CoveredOk_sound, by simp⟩⟩⟩⟩⟩⟩⟩⟩⟩) (List.forall_mem_cons.2 ⟨Tryd.call43, List.forall_mem_cons.2 ⟨Tryd.call41, List.forall_mem_cons.2 ⟨Tryd.call44, List.forall_mem_cons.2 ⟨Tryd.call27, List.forall_mem_cons.2 ⟨Tryd.call20, List.forall_mem_cons.2 ⟨Tryd.call29, List.forall_mem_cons.2 ⟨Tryd.call38, List.forall_mem_cons.2 ⟨Tryd.call23, List.forall_mem_cons.2 ⟨Tryd.call45, by simp⟩⟩⟩⟩⟩⟩⟩⟩⟩) (by kernel_rfl)) Tryd.func9 (by kernel_rfl) LL laws_FnFlatOk_an ?_
  intro avs H r H' h
  unfold F_laws_FnFlatOk at h
  split at h
  · refine Awp.cast ?_ ?_ ?_ (laws_FnFlatOk_e _ h) <;> kernel_rfl
  · simp [Ans.no, Ans.run] at h


end Go.Rv
