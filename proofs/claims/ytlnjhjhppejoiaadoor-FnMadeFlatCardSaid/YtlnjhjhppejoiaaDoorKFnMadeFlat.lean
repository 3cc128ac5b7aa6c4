/-
  The checked code answers as the plain functions do; written by program. Conditions: none.
-/
import Derived.Test.YtlnjhjhppejoiaaDoorKFnMadeFlata
set_option linter.unusedVariables false
set_option linter.unusedSimpArgs false
set_option linter.defProp false
set_option maxRecDepth 100000
namespace Go.Rv
open Go.Proofs
/-! loop.example/headtrees/impl.MovesFor -/

def impl_MovesFor_an : Ann := (.seq (.leaf [0]) (.seq (.seq (.leaf [0, 11]) (.cond (.seq (.leaf [2, 3]) (.leaf [2, 3])) (.leaf [0]))) (.seq (.leaf [0, 4, 5]) (.seq (.leaf [0, 4, 5, 6]) (.seq (.leaf [0, 4, 5, 6, 7]) (.seq (.seq (.leafF [⟨5, 4, false, some 1, some (.int .i64)⟩] [4, 5, 6, 7, 22, 23]) (.block (.loop (.seq (.leaf [4, 5, 6, 7, 22, 23, 24]) (.seq (.cond (.leaf [4, 5, 6, 7, 22, 23]) (.leaf [7])) (.seq (.block (.seq (.leaf [4, 5, 6, 7, 8, 22, 23]) (.seq (.leaf [4, 5, 6, 7, 8, 22, 23]) (.leaf [4, 5, 6, 7, 22, 23])))) (.leaf [4, 5, 6, 7, 22, 23]))))))) (.seq (.leafF [⟨1, 37, false, none, none⟩] [2, 3]) (.leaf [2, 3]))))))))

noncomputable def impl_MovesFor_ctx : Ctx := ⟨tlook tys, olook [(13, F_impl_FlatOk), (25, F_impl_newStackMachine), (26, F_impl_stackMoves), (27, F_impl_stackMachine_ruleFor), (53, F_impl_stackMachine_ruleFor_2), (48, F_impl_stackMachine_putNext), (49, F_impl_stackMachine_takeBelow), (50, F_impl_stackMachine_takeUpper)], ioF, 0, false, []⟩

theorem impl_MovesFor_n1_l (x2415 : List Int) : Link impl_MovesFor_ctx LL (Code.seq (cq [0] (bodyOf Tryd.f11)) (Code.seq (cq [0,1] (bodyOf Tryd.f11)) (Code.seq (cq [0,1,1] (bodyOf Tryd.f11)) (Code.seq (cq [0,1,1,1] (bodyOf Tryd.f11)) (cq [0,1,1,1,1] (bodyOf Tryd.f11)))))) (Ann.seq (aq [0] impl_MovesFor_an) (Ann.seq (aq [0,1] impl_MovesFor_an) (Ann.seq (aq [0,1,1] impl_MovesFor_an) (Ann.seq (aq [0,1,1,1] impl_MovesFor_an) (aq [0,1,1,1,1] impl_MovesFor_an))))) ⟨mkE 39 0 [(0, dL x2415)], []⟩ (impl_MovesFor_n1 x2415) (Sum.elim (fun (t : (List Int)) => (Exit.normal, ⟨mkE 39 0 [(0, dL x2415), (4, .ptr 0 0), (5, .fmap [(.int .u8 83, .func 48), (.int .u8 76, .func 49), (.int .u8 82, .func 50)]), (6, .fn 53 [] [.ptr 1 0, .ptr 2 0]), (7, .slc 3)], [some (.box [.slc 4, .nils, dI 0, dI 0]), some (.box [.ptr 0 0]), some (.box [.fn 51 [] [.ptr 5 0, .ptr 1 0]]), some (sU ([] : List Int)), some (sI t), some (.box [dL x2415])]⟩)) (fun (t : ByteArray × Bool) => (Exit.ret, ⟨mkE 39 0 [(2, dS t.1), (3, dB t.2)], []⟩))) := by
  refine Link.of fun K h => ?_
  simp only [impl_MovesFor_n1, wpO_bind, wpO_cond, wpO_map, wpO_some] at h
  exact Awp.of (by kernel_rfl) h

theorem impl_MovesFor_n2_l (x2415 : List Int) (x3094 : List Int) : Link impl_MovesFor_ctx LL (cq [0,0,1,1,1,1,1] (bodyOf Tryd.f11)) (aq [0,0,1,1,1,1,1] impl_MovesFor_an) ⟨mkE 39 0 [(0, dL x2415), (4, .ptr 0 0), (5, .fmap [(.int .u8 83, .func 48), (.int .u8 76, .func 49), (.int .u8 82, .func 50)]), (6, .fn 53 [] [.ptr 1 0, .ptr 2 0]), (7, .slc 3)], [some (.box [.slc 4, .nils, dI 0, dI 0]), some (.box [.ptr 0 0]), some (.box [.fn 51 [] [.ptr 5 0, .ptr 1 0]]), some (sU ([] : List Int)), some (sI x3094), some (.box [dL x2415])]⟩ (impl_MovesFor_n2 x2415) (fun (t : Int) => (Exit.normal, ⟨mkE 39 0 [(4, .ptr 0 0), (5, .fmap [(.int .u8 83, .func 48), (.int .u8 76, .func 49), (.int .u8 82, .func 50)]), (6, .fn 53 [] [.ptr 1 0, .ptr 2 0]), (7, .slc 3), (22, dI t), (23, dI 0)], [some (.box [.slc 4, .slc 5, dI 0, dI 0]), some (.box [.ptr 0 0]), some (.box [.fn 51 [] [.ptr 6 0, .ptr 1 0]]), some (sU ([] : List Int)), some (sI x3094), some (sI ([] : List Int)), some (.box [dL x2415])]⟩)) := by
  refine Link.of fun K h => ?_
  simp only [impl_MovesFor_n2, wpO_bind, wpO_cond, wpO_map, wpO_some] at h
  exact Awp.of (by kernel_rfl) h

theorem impl_MovesFor_n3_l (x3099 : Int) (x3171 : Int) (x3172 : Int) (x3173 : Int) (x3174 : List Int) (x3175 : List Int) (x3176 : List Int) (x2415 : List Int) : Link impl_MovesFor_ctx LL (cq [0,0,1,0,1,1,1,1,1] (bodyOf Tryd.f11)) (aq [0,0,1,0,1,1,1,1,1] impl_MovesFor_an) ⟨mkE 39 0 [(4, .ptr 0 0), (5, .fmap [(.int .u8 83, .func 48), (.int .u8 76, .func 49), (.int .u8 82, .func 50)]), (6, .fn 53 [] [.ptr 1 0, .ptr 2 0]), (7, .slc 3), (22, dI x3099), (23, dI x3171)], [some (.box [.slc 4, .slc 5, dI x3172, dI x3173]), some (.box [.ptr 0 0]), some (.box [.fn 51 [] [.ptr 6 0, .ptr 1 0]]), some (sU x3174), some (sI x3175), some (sI x3176), some (.box [dL x2415])]⟩ (impl_MovesFor_n3 x3099 x3171 x3172 x3173 x3174 x3175 x3176 x2415) (Sum.elim (fun (t : Int × Int × Int × (List Int) × (List Int) × (List Int)) => (Exit.normal, ⟨mkE 39 0 [(4, .ptr 0 0), (5, .fmap [(.int .u8 83, .func 48), (.int .u8 76, .func 49), (.int .u8 82, .func 50)]), (6, .fn 53 [] [.ptr 1 0, .ptr 2 0]), (7, .slc 3), (22, dI x3099), (23, dI t.1)], [some (.box [.slc 4, .slc 5, dI t.2.1, dI t.2.2.1]), some (.box [.ptr 0 0]), some (.box [.fn 51 [] [.ptr 6 0, .ptr 1 0]]), some (sU t.2.2.2.1), some (sI t.2.2.2.2.1), some (sI t.2.2.2.2.2), some (.box [dL x2415])]⟩)) (fun (t : (List Int)) => ((Exit.exit 0), ⟨mkE 39 0 [(7, .slc 0)], [some (sU t)]⟩))) := by
  refine Link.of fun K h => ?_
  simp only [impl_MovesFor_n3, wpO_bind, wpO_cond, wpO_map, wpO_some, wpO_none] at h
  exact Awp.of (by kernel_rfl) h

def impl_MovesFor_n4_l (x3099 : Int) (x3094 : List Int) (x2415 : List Int) := (link_loop (mk := fun (s : Int × Int × Int × (List Int) × (List Int) × (List Int)) => ⟨mkE 39 0 [(4, .ptr 0 0), (5, .fmap [(.int .u8 83, .func 48), (.int .u8 76, .func 49), (.int .u8 82, .func 50)]), (6, .fn 53 [] [.ptr 1 0, .ptr 2 0]), (7, .slc 3), (22, dI x3099), (23, dI s.1)], [some (.box [.slc 4, .slc 5, dI s.2.1, dI s.2.2.1]), some (.box [.ptr 0 0]), some (.box [.fn 51 [] [.ptr 6 0, .ptr 1 0]]), some (sU s.2.2.2.1), some (sI s.2.2.2.2.1), some (sI s.2.2.2.2.2), some (.box [dL x2415])]⟩) (fin := (fun (t : (List Int)) => ((Exit.exit 0), ⟨mkE 39 0 [(7, .slc 0)], [some (sU t)]⟩))) (by
  rintro t f K h
  · exact h) (fun s => link_map (impl_MovesFor_n3_l x3099 s.1 s.2.1 s.2.2.1 s.2.2.2.1 s.2.2.2.2.1 s.2.2.2.2.2 x2415) (Sum.elim (fun (t : Int × Int × Int × (List Int) × (List Int) × (List Int)) => Sum.inl (t.1, t.2.1, t.2.2.1, t.2.2.2.1, t.2.2.2.2.1, t.2.2.2.2.2)) (fun (t : (List Int)) => Sum.inr t)) (by
  rintro (t | t)
  · kernel_rfl
  · kernel_rfl)) (0, 0, 0, ([] : List Int), x3094, ([] : List Int)))

def impl_MovesFor_n5_l (x3099 : Int) (x3094 : List Int) (x2415 : List Int) := (link_block (fin2 := (fun (t : (List Int)) => (Exit.normal, ⟨mkE 39 0 [(7, .slc 0)], [some (sU t)]⟩))) (id := 0) (impl_MovesFor_n4_l x3099 x3094 x2415) (fun (t : (List Int)) => t) (by
  rintro t K h
  · exact Eq.mp (by kernel_rfl) h))

def impl_MovesFor_n6_l (x2415 : List Int) (x3094 : List Int) := (link_seq (impl_MovesFor_n2_l x2415 x3094) (fun (t : Int) => (impl_MovesFor_n5_l t x3094 x2415)))

theorem impl_MovesFor_n7_l (x3174 : List Int) : Link impl_MovesFor_ctx LL (cq [1,1,1,1,1,1] (bodyOf Tryd.f11)) (aq [1,1,1,1,1,1] impl_MovesFor_an) ⟨mkE 39 0 [(7, .slc 0)], [some (sU x3174)]⟩ (impl_MovesFor_n7 x3174) (fun (t : ByteArray × Bool) => (Exit.ret, ⟨mkE 39 0 [(2, dS t.1), (3, dB t.2)], []⟩)) := by
  refine Link.of fun K h => ?_
  simp only [impl_MovesFor_n7, wpO_bind, wpO_cond, wpO_map, wpO_some] at h
  exact Awp.of (by kernel_rfl) h

def impl_MovesFor_n8_l (x2415 : List Int) (x3094 : List Int) := (link_seq (impl_MovesFor_n6_l x2415 x3094) (fun (t : (List Int)) => (impl_MovesFor_n7_l t)))

def impl_MovesFor_n9_l (x2415 : List Int) := (link_group (c := (cq [0,1,1,1,1] (bodyOf Tryd.f11))) (a := (aq [0,1,1,1,1] impl_MovesFor_an)) [(cq [0] (bodyOf Tryd.f11)), (cq [0,1] (bodyOf Tryd.f11)), (cq [0,1,1] (bodyOf Tryd.f11)), (cq [0,1,1,1] (bodyOf Tryd.f11))] [(aq [0] impl_MovesFor_an), (aq [0,1] impl_MovesFor_an), (aq [0,1,1] impl_MovesFor_an), (aq [0,1,1,1] impl_MovesFor_an)] rfl (link_seq2 (impl_MovesFor_n1_l x2415) (fun (t : (List Int)) => (impl_MovesFor_n8_l x2415 t)) (fun (t : ByteArray × Bool) => t) (by
  rintro t
  · kernel_rfl) (by
  rintro t f K h
  · exact h)))

theorem impl_MovesFor_e (x2415 : List Int) {r : AV} {H' : Heap} (h : (Ans.mk _ (impl_MovesFor x2415) (fun (t : ByteArray × Bool) => (.tup [dS t.1, dB t.2], [])) [] none).run = some (r, H')) : Awp impl_MovesFor_ctx LL (bodyOf Tryd.f11) impl_MovesFor_an ⟨mkE 39 0 [(0, dL x2415)], []⟩ (Ret (tlook tys) Tryd.f11.results.toList r H') :=
  ret_of' (Link.cast (by kernel_rfl) (by kernel_rfl) (impl_MovesFor_n9_l x2415)) (by unfold impl_MovesFor; kernel_rfl) (by
  intro t
  exact ret_mk [dS t.1, dB t.2] (by kernel_rfl) (by kernel_rfl) (by kernel_rfl) (by kernel_rfl)) h

def F_impl_MovesFor : Fun := fun avs H =>
  match avs, H with
  | [.dat (.list (.int .i64)) x2415], [] => ⟨_, impl_MovesFor x2415, fun (t : ByteArray × Bool) => (.tup [dS t.1, dB t.2], []), [], none⟩
  | _, _ => Ans.no

theorem impl_MovesFor_sound : Sound Tryd.prog 11 F_impl_MovesFor := by
  refine fn_sound' (C := impl_MovesFor_ctx) (c := bodyOf Tryd.f11) (cok_of tys_ok (allc impl_FlatOk_sound (allc impl_newStackMachine_sound (allc impl_stackMoves_sound (allc impl_stackMachine_ruleFor_sound (allc impl_stackMachine_ruleFor_2_sound (allc impl_stackMachine_putNext_sound (allc impl_stackMachine_takeBelow_sound (allc impl_stackMachine_takeUpper_sound alln)))))))) (allc Tryd.call13 (allc Tryd.call25 (allc Tryd.call26 (allc Tryd.call27 (allc Tryd.call53 (allc Tryd.call48 (allc Tryd.call49 (allc Tryd.call50 alln)))))))) (by kernel_rfl)) Tryd.func11 (by kernel_rfl) LL impl_MovesFor_an ?_
  intro avs H r H' h
  unfold F_impl_MovesFor at h
  split at h
  · refine Awp.cast ?_ ?_ ?_ (impl_MovesFor_e _ h) <;> kernel_rfl
  · simp [Ans.no, Ans.run] at h


/-! loop.example/headtrees/impl.allDone[*loop.example/headtrees/impl.stackMachine] -/

def impl_allDone_impl_stackMachine_an : Ann := (.seq (.leaf [0, 1, 2]) (.seq (.seq (.leafF [⟨3, 0, false, some 1, some (.int .i64)⟩] [0, 1, 2, 11, 12]) (.block (.loop (.seq (.leaf [0, 1, 2, 11, 12, 13]) (.seq (.cond (.leaf [0, 1, 2, 11, 12]) (.leaf [])) (.seq (.block (.seq (.leaf [0, 1, 2, 7, 11, 12]) (.seq (.leaf [0, 1, 2, 8, 9, 11, 12]) (.seq (.leaf [0, 1, 2, 11, 12, 30]) (.cond (.seq (.leaf [6]) (.leaf [6])) (.leaf [0, 1, 2, 11, 12])))))) (.leaf [0, 1, 2, 11, 12]))))))) (.seq (.leaf [6]) (.leaf [6]))))

noncomputable def impl_allDone_impl_stackMachine_ctx : Ctx := ⟨tlook tys, olook [(48, F_impl_stackMachine_putNext), (49, F_impl_stackMachine_takeBelow), (50, F_impl_stackMachine_takeUpper)], ioF, 2, false, []⟩

theorem impl_allDone_impl_stackMachine_n1_l (x3284 : ByteArray) (x3285 : Int) (x3286 : Int) (x3287 : List Int) : Link impl_allDone_impl_stackMachine_ctx LL (cq [0] (bodyOf Tryd.f55)) (aq [0] impl_allDone_impl_stackMachine_an) ⟨mkE 32 0 [(0, .ptr 0 0), (1, .fmap [(.int .u8 83, .func 48), (.int .u8 76, .func 49), (.int .u8 82, .func 50)]), (2, dS x3284)], [some (.box [.slc 1, .nils, dI x3285, dI x3286]), some (sI x3287)]⟩ (impl_allDone_impl_stackMachine_n1) (fun (t : Unit) => (Exit.normal, ⟨mkE 32 0 [(0, .ptr 0 0), (1, .fmap [(.int .u8 83, .func 48), (.int .u8 76, .func 49), (.int .u8 82, .func 50)]), (2, dS x3284)], [some (.box [.slc 1, .nils, dI x3285, dI x3286]), some (sI x3287)]⟩)) := by
  refine Link.of fun K h => ?_
  simp only [impl_allDone_impl_stackMachine_n1, wpO_bind, wpO_cond, wpO_map, wpO_some] at h
  exact Awp.of (by kernel_rfl) h

theorem impl_allDone_impl_stackMachine_n2_l (x3284 : ByteArray) (x3285 : Int) (x3286 : Int) (x3287 : List Int) : Link impl_allDone_impl_stackMachine_ctx LL (cq [0,0,1] (bodyOf Tryd.f55)) (aq [0,0,1] impl_allDone_impl_stackMachine_an) ⟨mkE 32 0 [(0, .ptr 0 0), (1, .fmap [(.int .u8 83, .func 48), (.int .u8 76, .func 49), (.int .u8 82, .func 50)]), (2, dS x3284)], [some (.box [.slc 1, .nils, dI x3285, dI x3286]), some (sI x3287)]⟩ (impl_allDone_impl_stackMachine_n2 x3284) (fun (t : Int) => (Exit.normal, ⟨mkE 32 0 [(0, .ptr 0 0), (1, .fmap [(.int .u8 83, .func 48), (.int .u8 76, .func 49), (.int .u8 82, .func 50)]), (2, dS x3284), (11, dI t), (12, dI 0)], [some (.box [.slc 1, .slc 2, dI x3285, dI x3286]), some (sI x3287), some (sI ([] : List Int))]⟩)) := by
  refine Link.of fun K h => ?_
  simp only [impl_allDone_impl_stackMachine_n2, wpO_bind, wpO_cond, wpO_map, wpO_some] at h
  exact Awp.of (by kernel_rfl) h

theorem impl_allDone_impl_stackMachine_n3_l (x3284 : ByteArray) (x3513 : Int) (x3566 : Int) (x3567 : Int) (x3568 : Int) (x3569 : List Int) (x3570 : List Int) : Link impl_allDone_impl_stackMachine_ctx LL (cq [0,0,1,0,1] (bodyOf Tryd.f55)) (aq [0,0,1,0,1] impl_allDone_impl_stackMachine_an) ⟨mkE 32 0 [(0, .ptr 0 0), (1, .fmap [(.int .u8 83, .func 48), (.int .u8 76, .func 49), (.int .u8 82, .func 50)]), (2, dS x3284), (11, dI x3513), (12, dI x3566)], [some (.box [.slc 1, .slc 2, dI x3567, dI x3568]), some (sI x3569), some (sI x3570)]⟩ (impl_allDone_impl_stackMachine_n3 x3284 x3513 x3566 x3567 x3568 x3569 x3570) (Sum.elim (fun (t : Int × Int × Int × (List Int) × (List Int)) => (Exit.normal, ⟨mkE 32 0 [(0, .ptr 0 0), (1, .fmap [(.int .u8 83, .func 48), (.int .u8 76, .func 49), (.int .u8 82, .func 50)]), (2, dS x3284), (11, dI x3513), (12, dI t.1)], [some (.box [.slc 1, .slc 2, dI t.2.1, dI t.2.2.1]), some (sI t.2.2.2.1), some (sI t.2.2.2.2)]⟩)) (Sum.elim (fun (t : Bool × Int × Int × (List Int) × (List Int)) => (Exit.ret, ⟨mkE 32 0 [(6, dB t.1)], [some (.box [.slc 1, .slc 2, dI t.2.1, dI t.2.2.1]), some (sI t.2.2.2.1), some (sI t.2.2.2.2)]⟩)) (fun (t : Int × Int × (List Int) × (List Int)) => ((Exit.exit 0), ⟨mkE 32 0 [], [some (.box [.slc 1, .slc 2, dI t.1, dI t.2.1]), some (sI t.2.2.1), some (sI t.2.2.2)]⟩)))) := by
  refine Link.of fun K h => ?_
  simp only [impl_allDone_impl_stackMachine_n3, wpO_bind, wpO_cond, wpO_map, wpO_some] at h
  exact Awp.of (by kernel_rfl) h

def impl_allDone_impl_stackMachine_n4_l (x3284 : ByteArray) (x3513 : Int) (x3285 : Int) (x3286 : Int) (x3287 : List Int) := (link_loop (mk := fun (s : Int × Int × Int × (List Int) × (List Int)) => ⟨mkE 32 0 [(0, .ptr 0 0), (1, .fmap [(.int .u8 83, .func 48), (.int .u8 76, .func 49), (.int .u8 82, .func 50)]), (2, dS x3284), (11, dI x3513), (12, dI s.1)], [some (.box [.slc 1, .slc 2, dI s.2.1, dI s.2.2.1]), some (sI s.2.2.2.1), some (sI s.2.2.2.2)]⟩) (fin := (Sum.elim (fun (t : Bool × Int × Int × (List Int) × (List Int)) => (Exit.ret, ⟨mkE 32 0 [(6, dB t.1)], [some (.box [.slc 1, .slc 2, dI t.2.1, dI t.2.2.1]), some (sI t.2.2.2.1), some (sI t.2.2.2.2)]⟩)) (fun (t : Int × Int × (List Int) × (List Int)) => ((Exit.exit 0), ⟨mkE 32 0 [], [some (.box [.slc 1, .slc 2, dI t.1, dI t.2.1]), some (sI t.2.2.1), some (sI t.2.2.2)]⟩)))) (by
  rintro (t | t) f K h
  · exact h
  · exact h) (fun s => link_map (impl_allDone_impl_stackMachine_n3_l x3284 x3513 s.1 s.2.1 s.2.2.1 s.2.2.2.1 s.2.2.2.2) (Sum.elim (fun (t : Int × Int × Int × (List Int) × (List Int)) => Sum.inl (t.1, t.2.1, t.2.2.1, t.2.2.2.1, t.2.2.2.2)) (Sum.elim (fun (t : Bool × Int × Int × (List Int) × (List Int)) => Sum.inr (Sum.inl t)) (fun (t : Int × Int × (List Int) × (List Int)) => Sum.inr (Sum.inr t)))) (by
  rintro (t | t | t)
  · kernel_rfl
  · kernel_rfl
  · kernel_rfl)) (0, x3285, x3286, x3287, ([] : List Int)))

def impl_allDone_impl_stackMachine_n5_l (x3284 : ByteArray) (x3513 : Int) (x3285 : Int) (x3286 : Int) (x3287 : List Int) := (link_block (fin2 := (Sum.elim (fun (t : Int × Int × (List Int) × (List Int)) => (Exit.normal, ⟨mkE 32 0 [], [some (.box [.slc 1, .slc 2, dI t.1, dI t.2.1]), some (sI t.2.2.1), some (sI t.2.2.2)]⟩)) (fun (t : Bool × Int × Int × (List Int) × (List Int)) => (Exit.ret, ⟨mkE 32 0 [(6, dB t.1)], [some (.box [.slc 1, .slc 2, dI t.2.1, dI t.2.2.1]), some (sI t.2.2.2.1), some (sI t.2.2.2.2)]⟩)))) (id := 0) (impl_allDone_impl_stackMachine_n4_l x3284 x3513 x3285 x3286 x3287) (Sum.elim (fun (t : Bool × Int × Int × (List Int) × (List Int)) => (Sum.inr t)) (fun (t : Int × Int × (List Int) × (List Int)) => (Sum.inl (t.1, t.2.1, t.2.2.1, t.2.2.2)))) (by
  rintro (t | t) K h
  · exact Eq.mp (by kernel_rfl) h
  · exact Eq.mp (by kernel_rfl) h))

def impl_allDone_impl_stackMachine_n6_l (x3284 : ByteArray) (x3285 : Int) (x3286 : Int) (x3287 : List Int) := (link_seq (impl_allDone_impl_stackMachine_n2_l x3284 x3285 x3286 x3287) (fun (t : Int) => (impl_allDone_impl_stackMachine_n5_l x3284 t x3285 x3286 x3287)))

theorem impl_allDone_impl_stackMachine_n7_l (x3567 : Int) (x3568 : Int) (x3569 : List Int) (x3570 : List Int) : Link impl_allDone_impl_stackMachine_ctx LL (cq [1,1] (bodyOf Tryd.f55)) (aq [1,1] impl_allDone_impl_stackMachine_an) ⟨mkE 32 0 [], [some (.box [.slc 1, .slc 2, dI x3567, dI x3568]), some (sI x3569), some (sI x3570)]⟩ (impl_allDone_impl_stackMachine_n7 x3567 x3568 x3569 x3570) (fun (t : Bool × Int × Int × (List Int) × (List Int)) => (Exit.ret, ⟨mkE 32 0 [(6, dB t.1)], [some (.box [.slc 1, .slc 2, dI t.2.1, dI t.2.2.1]), some (sI t.2.2.2.1), some (sI t.2.2.2.2)]⟩)) := by
  refine Link.of fun K h => ?_
  simp only [impl_allDone_impl_stackMachine_n7, wpO_bind, wpO_cond, wpO_map, wpO_some] at h
  exact Awp.of (by kernel_rfl) h

def impl_allDone_impl_stackMachine_n8_l (x3284 : ByteArray) (x3285 : Int) (x3286 : Int) (x3287 : List Int) := (link_seq2 (impl_allDone_impl_stackMachine_n6_l x3284 x3285 x3286 x3287) (fun (t : Int × Int × (List Int) × (List Int)) => (impl_allDone_impl_stackMachine_n7_l t.1 t.2.1 t.2.2.1 t.2.2.2)) (fun (t : Bool × Int × Int × (List Int) × (List Int)) => t) (by
  rintro t
  · kernel_rfl) (by
  rintro t f K h
  · exact h))

def impl_allDone_impl_stackMachine_n9_l (x3284 : ByteArray) (x3285 : Int) (x3286 : Int) (x3287 : List Int) := (link_seq (impl_allDone_impl_stackMachine_n1_l x3284 x3285 x3286 x3287) (fun (t : Unit) => (impl_allDone_impl_stackMachine_n8_l x3284 x3285 x3286 x3287)))

theorem impl_allDone_impl_stackMachine_e (x3284 : ByteArray) (x3285 : Int) (x3286 : Int) (x3287 : List Int) {r : AV} {H' : Heap} (h : (Ans.mk _ (impl_allDone_impl_stackMachine x3284 x3285 x3286 x3287) (fun (t : Bool × Int × Int × (List Int) × (List Int)) => (dB t.1, [some (.box [.slc 1, .slc 2, dI t.2.1, dI t.2.2.1]), some (sI t.2.2.2.1), some (sI t.2.2.2.2)])) [] none).run = some (r, H')) : Awp impl_allDone_impl_stackMachine_ctx LL (bodyOf Tryd.f55) impl_allDone_impl_stackMachine_an ⟨mkE 32 0 [(0, .ptr 0 0), (1, .fmap [(.int .u8 83, .func 48), (.int .u8 76, .func 49), (.int .u8 82, .func 50)]), (2, dS x3284)], [some (.box [.slc 1, .nils, dI x3285, dI x3286]), some (sI x3287)]⟩ (Ret (tlook tys) Tryd.f55.results.toList r H') :=
  ret_of' (Link.cast (by kernel_rfl) (by kernel_rfl) (impl_allDone_impl_stackMachine_n9_l x3284 x3285 x3286 x3287)) (by unfold impl_allDone_impl_stackMachine; kernel_rfl) (by
  intro t
  exact ret_mk [dB t.1] (by kernel_rfl) (by kernel_rfl) (by kernel_rfl) (by kernel_rfl)) h

def F_impl_allDone_impl_stackMachine : Fun := fun avs H =>
  match avs, H with
  | [.ptr 0 0, .fmap [(.int .u8 83, .func 48), (.int .u8 76, .func 49), (.int .u8 82, .func 50)], .dat .str x3284], [some (.box [.slc 1, .nils, .dat (.int .i64) x3285, .dat (.int .i64) x3286]), some (.seq (.int .i64) x3287)] => ⟨_, impl_allDone_impl_stackMachine x3284 x3285 x3286 x3287, fun (t : Bool × Int × Int × (List Int) × (List Int)) => (dB t.1, [some (.box [.slc 1, .slc 2, dI t.2.1, dI t.2.2.1]), some (sI t.2.2.2.1), some (sI t.2.2.2.2)]), [], none⟩
  | _, _ => Ans.no

theorem impl_allDone_impl_stackMachine_sound : Sound Tryd.prog 55 F_impl_allDone_impl_stackMachine := by
  refine fn_sound' (C := impl_allDone_impl_stackMachine_ctx) (c := bodyOf Tryd.f55) (cok_of tys_ok (allc impl_stackMachine_putNext_sound (allc impl_stackMachine_takeBelow_sound (allc impl_stackMachine_takeUpper_sound alln))) (allc Tryd.call48 (allc Tryd.call49 (allc Tryd.call50 alln))) (by kernel_rfl)) Tryd.func55 (by kernel_rfl) LL impl_allDone_impl_stackMachine_an ?_
  intro avs H r H' h
  unfold F_impl_allDone_impl_stackMachine at h
  split at h
  · refine Awp.cast ?_ ?_ ?_ (impl_allDone_impl_stackMachine_e _ _ _ _ h) <;> kernel_rfl
  · simp [Ans.no, Ans.run] at h


/-! (*loop.example/headtrees/impl.stackMachine).ended -/

def impl_stackMachine_ended_an : Ann := (.seq (.leaf [0]) (.seq (.draw [] [0, 1, 2, 3, 4, 5, 6, 7, 8, 9, 10, 11, 12, 13, 14, 15, 16, 17, 18] [] [2]) (.leaf [2])))

noncomputable def impl_stackMachine_ended_ctx : Ctx := ⟨tlook tys, olook [], ioF, 3, false, []⟩

theorem impl_stackMachine_ended_n1_l (x3635 : Int) (x3636 : Int) (x3637 : List Int) (x3638 : List Int) : Link impl_stackMachine_ended_ctx LL (bodyOf Tryd.f56) impl_stackMachine_ended_an ⟨mkE 21 0 [(0, .ptr 0 0)], [some (.box [.slc 1, .slc 2, dI x3635, dI x3636]), some (sI x3637), some (sI x3638)]⟩ (impl_stackMachine_ended_n1 x3635 x3637 x3638) (fun (t : Bool) => (Exit.ret, ⟨mkE 21 0 [(2, dB t)], [some (.box [.slc 1, .slc 2, dI x3635, dI x3636]), some (sI x3637), some (sI x3638)]⟩)) := by
  refine Link.of fun K h => ?_
  simp only [impl_stackMachine_ended_n1, wpO_bind, wpO_cond, wpO_map, wpO_some] at h
  exact Awp.of (by kernel_rfl) h

theorem impl_stackMachine_ended_e (x3635 : Int) (x3636 : Int) (x3637 : List Int) (x3638 : List Int) {r : AV} {H' : Heap} (h : (Ans.mk _ (impl_stackMachine_ended x3635 x3636 x3637 x3638) (fun (t : Bool) => (dB t, [some (.box [.slc 1, .slc 2, dI x3635, dI x3636]), some (sI x3637), some (sI x3638)])) [] none).run = some (r, H')) : Awp impl_stackMachine_ended_ctx LL (bodyOf Tryd.f56) impl_stackMachine_ended_an ⟨mkE 21 0 [(0, .ptr 0 0)], [some (.box [.slc 1, .slc 2, dI x3635, dI x3636]), some (sI x3637), some (sI x3638)]⟩ (Ret (tlook tys) Tryd.f56.results.toList r H') :=
  ret_of' (impl_stackMachine_ended_n1_l x3635 x3636 x3637 x3638) (by unfold impl_stackMachine_ended; kernel_rfl) (by
  intro t
  exact ret_mk [dB t] (by kernel_rfl) (by kernel_rfl) (by kernel_rfl) (by kernel_rfl)) h

def F_impl_stackMachine_ended : Fun := fun avs H =>
  match avs, H with
  | [.ptr 0 0], [some (.box [.slc 1, .slc 2, .dat (.int .i64) x3635, .dat (.int .i64) x3636]), some (.seq (.int .i64) x3637), some (.seq (.int .i64) x3638)] => ⟨_, impl_stackMachine_ended x3635 x3636 x3637 x3638, fun (t : Bool) => (dB t, [some (.box [.slc 1, .slc 2, dI x3635, dI x3636]), some (sI x3637), some (sI x3638)]), [], none⟩
  | _, _ => Ans.no

theorem impl_stackMachine_ended_sound : Sound Tryd.prog 56 F_impl_stackMachine_ended := by
  refine fn_sound' (C := impl_stackMachine_ended_ctx) (c := bodyOf Tryd.f56) (cok_of tys_ok (alln) (alln) (by kernel_rfl)) Tryd.func56 (by kernel_rfl) LL impl_stackMachine_ended_an ?_
  intro avs H r H' h
  unfold F_impl_stackMachine_ended at h
  split at h
  · refine Awp.cast ?_ ?_ ?_ (impl_stackMachine_ended_e _ _ _ _ h) <;> kernel_rfl
  · simp [Ans.no, Ans.run] at h


/-! loop.example/headtrees/impl.afterMoves -/

def impl_afterMoves_an : Ann := (.seq (.leaf [0, 1]) (.seq (.seq (.leaf [0, 1, 12]) (.cond (.seq (.leaf [4, 5]) (.leaf [4, 5])) (.leaf [0, 1]))) (.seq (.leaf [1, 6]) (.seq (.seq (.leaf [6, 24]) (.cond (.seq (.leaf [4, 5]) (.leaf [4, 5])) (.leaf [6]))) (.seq (.leaf [4, 5]) (.leaf [4, 5]))))))

noncomputable def impl_afterMoves_ctx : Ctx := ⟨tlook tys, olook [(25, F_impl_newStackMachine), (26, F_impl_stackMoves), (55, F_impl_allDone_impl_stackMachine), (56, F_impl_stackMachine_ended)], ioF, 0, false, []⟩

theorem impl_afterMoves_n1_l (x3273 : Int) (x3274 : ByteArray) : Link impl_afterMoves_ctx LL (bodyOf Tryd.f28) impl_afterMoves_an ⟨mkE 26 0 [(0, dI x3273), (1, dS x3274)], []⟩ (impl_afterMoves_n1 x3273 x3274) (Sum.elim (fun (t : Int × Int × (List Int) × (List Int)) => (Exit.ret, ⟨mkE 26 0 [(4, .ptr 0 0), (5, dB true)], [some (.box [.slc 1, .slc 2, dI t.1, dI t.2.1]), some (sI t.2.2.1), some (sI t.2.2.2)]⟩)) (fun (t : Unit) => (Exit.ret, ⟨mkE 26 0 [(4, .raw (.pointer none)), (5, dB false)], []⟩))) := by
  refine Link.of fun K h => ?_
  simp only [impl_afterMoves_n1, wpO_bind, wpO_cond, wpO_map, wpO_some] at h
  exact Awp.of (by kernel_rfl) h

theorem impl_afterMoves_e (x3273 : Int) (x3274 : ByteArray) {r : AV} {H' : Heap} (h : (Ans.mk _ (impl_afterMoves x3273 x3274) (fun (t : Bool × Int × Int × (List Int) × (List Int)) => (.tup [.ptr 0 0, dB true], [some (.box [.slc 1, .slc 2, dI t.2.1, dI t.2.2.1]), some (sI t.2.2.2.1), some (sI t.2.2.2.2)])) [] (some (fun (t : Bool × Int × Int × (List Int) × (List Int)) => t.1, fun (t : Bool × Int × Int × (List Int) × (List Int)) => (.tup [.raw (.pointer none), dB false], [])))).run = some (r, H')) : Awp impl_afterMoves_ctx LL (bodyOf Tryd.f28) impl_afterMoves_an ⟨mkE 26 0 [(0, dI x3273), (1, dS x3274)], []⟩ (Ret (tlook tys) Tryd.f28.results.toList r H') :=
  ret_of2 (impl_afterMoves_n1_l x3273 x3274) (Sum.elim (fun (t : Int × Int × (List Int) × (List Int)) => (true, t.1, t.2.1, t.2.2.1, t.2.2.2)) (fun (t : Unit) => (false, 0, 0, [], []))) (by unfold impl_afterMoves; kernel_rfl) (by
  rintro (t | t)
  · exact ret_mk [.ptr 0 0, dB true] (by kernel_rfl) (by kernel_rfl) (by kernel_rfl) (by kernel_rfl)
  · exact ret_mk [.raw (.pointer none), dB false] (by kernel_rfl) (by kernel_rfl) (by kernel_rfl) (by kernel_rfl)) h

def F_impl_afterMoves : Fun := fun avs H =>
  match avs, H with
  | [.dat (.int .i64) x3273, .dat .str x3274], [] => ⟨_, impl_afterMoves x3273 x3274, fun (t : Bool × Int × Int × (List Int) × (List Int)) => (.tup [.ptr 0 0, dB true], [some (.box [.slc 1, .slc 2, dI t.2.1, dI t.2.2.1]), some (sI t.2.2.2.1), some (sI t.2.2.2.2)]), [], (some (fun (t : Bool × Int × Int × (List Int) × (List Int)) => t.1, fun (t : Bool × Int × Int × (List Int) × (List Int)) => (.tup [.raw (.pointer none), dB false], [])))⟩
  | _, _ => Ans.no

theorem impl_afterMoves_sound : Sound Tryd.prog 28 F_impl_afterMoves := by
  refine fn_sound' (C := impl_afterMoves_ctx) (c := bodyOf Tryd.f28) (cok_of tys_ok (allc impl_newStackMachine_sound (allc impl_stackMoves_sound (allc impl_allDone_impl_stackMachine_sound (allc impl_stackMachine_ended_sound alln)))) (allc Tryd.call25 (allc Tryd.call26 (allc Tryd.call55 (allc Tryd.call56 alln)))) (by kernel_rfl)) Tryd.func28 (by kernel_rfl) LL impl_afterMoves_an ?_
  intro avs H r H' h
  unfold F_impl_afterMoves at h
  split at h
  · refine Awp.cast ?_ ?_ ?_ (impl_afterMoves_e _ _ h) <;> kernel_rfl
  · simp [Ans.no, Ans.run] at h


/-! loop.example/headtrees/impl.RunStack -/

def impl_RunStack_an : Ann := (.seq (.leaf [0, 1]) (.seq (.leaf [6, 7]) (.seq (.seq (.leaf [6, 15]) (.cond (.seq (.leaf [4, 5]) (.leaf [4, 5])) (.leaf [6]))) (.seq (.leaf [4, 5]) (.leaf [4, 5])))))

noncomputable def impl_RunStack_ctx : Ctx := ⟨tlook tys, olook [(28, F_impl_afterMoves)], ioF, 0, false, []⟩

theorem impl_RunStack_n1_l (x3271 : Int) (x3272 : ByteArray) : Link impl_RunStack_ctx LL (bodyOf Tryd.f12) impl_RunStack_an ⟨mkE 20 0 [(0, dI x3271), (1, dS x3272)], []⟩ (impl_RunStack_n1 x3271 x3272) (fun (t : Bool × (List Int)) => (Exit.ret, ⟨mkE 20 0 [(4, .slc 0), (5, dB t.1)], [some (sI t.2)]⟩)) := by
  refine Link.of fun K h => ?_
  simp only [impl_RunStack_n1, wpO_bind, wpO_cond, wpO_map, wpO_some] at h
  exact Awp.of (by kernel_rfl) h

theorem impl_RunStack_e (x3271 : Int) (x3272 : ByteArray) {r : AV} {H' : Heap} (h : (Ans.mk _ (impl_RunStack x3271 x3272) (fun (t : Bool × (List Int)) => (.tup [.slc 0, dB t.1], [some (sI t.2)])) [] none).run = some (r, H')) : Awp impl_RunStack_ctx LL (bodyOf Tryd.f12) impl_RunStack_an ⟨mkE 20 0 [(0, dI x3271), (1, dS x3272)], []⟩ (Ret (tlook tys) Tryd.f12.results.toList r H') :=
  ret_of' (impl_RunStack_n1_l x3271 x3272) (by unfold impl_RunStack; kernel_rfl) (by
  intro t
  exact ret_mk [.slc 0, dB t.1] (by kernel_rfl) (by kernel_rfl) (by kernel_rfl) (by kernel_rfl)) h

def F_impl_RunStack : Fun := fun avs H =>
  match avs, H with
  | [.dat (.int .i64) x3271, .dat .str x3272], [] => ⟨_, impl_RunStack x3271 x3272, fun (t : Bool × (List Int)) => (.tup [.slc 0, dB t.1], [some (sI t.2)]), [], none⟩
  | _, _ => Ans.no

theorem impl_RunStack_sound : Sound Tryd.prog 12 F_impl_RunStack := by
  refine fn_sound' (C := impl_RunStack_ctx) (c := bodyOf Tryd.f12) (cok_of tys_ok (allc impl_afterMoves_sound alln) (allc Tryd.call28 alln) (by kernel_rfl)) Tryd.func12 (by kernel_rfl) LL impl_RunStack_an ?_
  intro avs H r H' h
  unfold F_impl_RunStack at h
  split at h
  · refine Awp.cast ?_ ?_ ?_ (impl_RunStack_e _ _ h) <;> kernel_rfl
  · simp [Ans.no, Ans.run] at h


/-! loop.example/headtrees/laws.FnMadeFlat -/

def laws_FnMadeFlat_an : Ann := (.seq (.leaf [0]) (.seq (.seq (.leaf [0, 11]) (.cond (.seq (.leaf [2]) (.leaf [2])) (.leaf [0]))) (.seq (.leaf [3]) (.seq (.leaf [3, 4]) (.seq (.seq (.leaf [3, 4, 20]) (.cond (.seq (.leaf [2]) (.leaf [2])) (.leaf [3, 4]))) (.seq (.seq (.leaf [3, 4, 23]) (.cond (.seq (.leaf [2]) (.leaf [2])) (.leaf [3, 4]))) (.seq (.leaf [3, 4, 5, 6]) (.seq (.leaf [3, 4, 6, 7, 8]) (.seq (.leaf [2]) (.leaf [2]))))))))))

noncomputable def laws_FnMadeFlat_ctx : Ctx := ⟨tlook tys, olook [(5, F_spec_DrawMadeFlat), (6, F_impl_MadeFlat), (8, F_spec_MadeFlat), (7, F_laws_sameInts), (9, F_impl_TreeOk), (10, F_laws_alive), (11, F_impl_MovesFor), (12, F_impl_RunStack), (13, F_impl_FlatOk)], ioF, 0, false, []⟩

theorem laws_FnMadeFlat_n1_l (x2 : List Int) : Link laws_FnMadeFlat_ctx LL (bodyOf Tryd.f3) laws_FnMadeFlat_an ⟨mkE 71 0 [(0, dV x2)], []⟩ (laws_FnMadeFlat_n1 x2) (fun (t : Bool) => (Exit.ret, ⟨mkE 71 0 [(2, dB t)], []⟩)) := by
  refine Link.of fun K h => ?_
  simp only [laws_FnMadeFlat_n1, wpO_bind, wpO_cond, wpO_map, wpO_some] at h
  exact Awp.of (by kernel_rfl) h

theorem laws_FnMadeFlat_e (x2 : List Int) {r : AV} {H' : Heap} (h : (Ans.mk _ (laws_FnMadeFlat x2) (fun (t : Bool) => (dB t, [])) [] none).run = some (r, H')) : Awp laws_FnMadeFlat_ctx LL (bodyOf Tryd.f3) laws_FnMadeFlat_an ⟨mkE 71 0 [(0, dV x2)], []⟩ (Ret (tlook tys) Tryd.f3.results.toList r H') :=
  ret_of' (laws_FnMadeFlat_n1_l x2) (by unfold laws_FnMadeFlat; kernel_rfl) (by
  intro t
  exact ret_mk [dB t] (by kernel_rfl) (by kernel_rfl) (by kernel_rfl) (by kernel_rfl)) h

def F_laws_FnMadeFlat : Fun := fun avs H =>
  match avs, H with
  | [.dat (.list (.int .u8)) x2], [] => ⟨_, laws_FnMadeFlat x2, fun (t : Bool) => (dB t, []), [], none⟩
  | _, _ => Ans.no

theorem laws_FnMadeFlat_sound : Sound Tryd.prog 3 F_laws_FnMadeFlat := by
  refine fn_sound' (C := laws_FnMadeFlat_ctx) (c := bodyOf Tryd.f3) (cok_of tys_ok (allc spec_DrawMadeFlat_sound (allc impl_MadeFlat_sound (allc spec_MadeFlat_sound (allc laws_sameInts_sound (allc impl_TreeOk_sound (allc laws_alive_sound (allc impl_MovesFor_sound (allc impl_RunStack_sound (allc impl_FlatOk_sound alln))))))))) (allc Tryd.call5 (allc Tryd.call6 (allc Tryd.call8 (allc Tryd.call7 (allc Tryd.call9 (allc Tryd.call10 (allc Tryd.call11 (allc Tryd.call12 (allc Tryd.call13 alln))))))))) (by kernel_rfl)) Tryd.func3 (by kernel_rfl) LL laws_FnMadeFlat_an ?_
  intro avs H r H' h
  unfold F_laws_FnMadeFlat at h
  split at h
  · refine Awp.cast ?_ ?_ ?_ (laws_FnMadeFlat_e _ h) <;> kernel_rfl
  · simp [Ans.no, Ans.run] at h


end Go.Rv
