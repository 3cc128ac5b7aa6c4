/-
  The checked code answers as the plain functions do; written by program. Conditions: none.
-/
import Derived.Test.YtmmfabigcffdfaaDoorGLa
set_option linter.unusedVariables false
set_option linter.unusedSimpArgs false
set_option maxRecDepth 100000
namespace Go.Rv
open Go.Proofs
theorem math_bits_OnesCount64_n13_l (x3371 : Int) : Link math_bits_OnesCount64_ctx LL (Code.snd (Code.snd (Code.snd (bodyOf Tryd.f61)))) (Ann.snd (Ann.snd (Ann.snd math_bits_OnesCount64_an))) (⟨mkE 35 0 [(0, .dat (.int .u64) x3371)], []⟩ : St) (math_bits_OnesCount64_n13 x3371) (fun (t : Int) => (Exit.ret, (⟨mkE 35 0 [(2, .dat (.int .i64) t)], []⟩ : St))) := by
  unfold math_bits_OnesCount64_n13
  exact Link.cast (by kernel_rfl) (by kernel_rfl) (link_seq (b := (Code.snd (Code.snd (Code.snd (Code.snd (bodyOf Tryd.f61)))))) (y := (Ann.snd (Ann.snd (Ann.snd (Ann.snd math_bits_OnesCount64_an))))) (math_bits_OnesCount64_n3_l x3371) (fun (t : Int) => (math_bits_OnesCount64_n12_l t)))

theorem math_bits_OnesCount64_n14_l (x3354 : Int) : Link math_bits_OnesCount64_ctx LL (Code.snd (Code.snd (bodyOf Tryd.f61))) (Ann.snd (Ann.snd math_bits_OnesCount64_an)) (⟨mkE 35 0 [(0, .dat (.int .u64) x3354)], []⟩ : St) (math_bits_OnesCount64_n14 x3354) (fun (t : Int) => (Exit.ret, (⟨mkE 35 0 [(2, .dat (.int .i64) t)], []⟩ : St))) := by
  unfold math_bits_OnesCount64_n14
  exact Link.cast (by kernel_rfl) (by kernel_rfl) (link_seq (b := (Code.snd (Code.snd (Code.snd (bodyOf Tryd.f61))))) (y := (Ann.snd (Ann.snd (Ann.snd math_bits_OnesCount64_an)))) (math_bits_OnesCount64_n2_l x3354) (fun (t : Int) => (math_bits_OnesCount64_n13_l t)))

theorem math_bits_OnesCount64_n15_l (x3349 : Int) : Link math_bits_OnesCount64_ctx LL (bodyOf Tryd.f61) math_bits_OnesCount64_an (⟨mkE 35 0 [(0, .dat (.int .u64) x3349)], []⟩ : St) (math_bits_OnesCount64_n15 x3349) (fun (t : Int) => (Exit.ret, (⟨mkE 35 0 [(2, .dat (.int .i64) t)], []⟩ : St))) := by
  unfold math_bits_OnesCount64_n15
  exact Link.cast (by kernel_rfl) (by kernel_rfl) (link_group (c := (Code.fst (Code.snd (bodyOf Tryd.f61)))) (a := (Ann.fst (Ann.snd math_bits_OnesCount64_an))) [(Code.fst (bodyOf Tryd.f61))] [(Ann.fst math_bits_OnesCount64_an)] rfl (link_seq (b := (Code.snd (Code.snd (bodyOf Tryd.f61)))) (y := (Ann.snd (Ann.snd math_bits_OnesCount64_an))) (math_bits_OnesCount64_n1_l x3349) (fun (t : Int) => (math_bits_OnesCount64_n14_l t))))

theorem math_bits_OnesCount64_e (x3349 : Int) {r : AV} {H' : Heap} (h : (Ans.mk _ (math_bits_OnesCount64 x3349) (fun (t : Int) => (.dat (.int .i64) t, [])) [] none).run = some (r, H')) : Awp math_bits_OnesCount64_ctx LL (bodyOf Tryd.f61) math_bits_OnesCount64_an (⟨mkE 35 0 [(0, .dat (.int .u64) x3349)], []⟩ : St) (Ret (tlook tys) Tryd.f61.results.toList r H') :=
  ret_of' (math_bits_OnesCount64_n15_l x3349) (by unfold math_bits_OnesCount64; kernel_rfl) (by
  intro t
  exact ret_mk [.dat (.int .i64) t] (by kernel_rfl) (by kernel_rfl) (by kernel_rfl) (by kernel_rfl)) h

def F_math_bits_OnesCount64 : Fun := fun avs H =>
  match avs, H with
  | [.dat (.int .u64) x3349], [] => ⟨_, math_bits_OnesCount64 x3349, fun (t : Int) => (.dat (.int .i64) t, []), [], none⟩
  | _, _ => Ans.no

theorem math_bits_OnesCount64_sound : Sound Tryd.prog 61 F_math_bits_OnesCount64 := by
  refine fn_sound' (C := math_bits_OnesCount64_ctx) (c := bodyOf Tryd.f61) (cok_of tys_ok (by simp) (by simp) (by kernel_rfl)) Tryd.func61 (by kernel_rfl) LL math_bits_OnesCount64_an ?_
  intro avs H r H' h
  unfold F_math_bits_OnesCount64 at h
  split at h
  · refine Awp.cast ?_ ?_ ?_ (math_bits_OnesCount64_e _ h) <;> kernel_rfl
  · simp [Ans.no, Ans.run] at h

/-! math/bits.OnesCount -/

def math_bits_OnesCount_an : Ann := (.seq (.leaf [0]) (.seq (.cond (.seq (.leaf [2]) (.leaf [2])) (.leaf [0])) (.seq (.leaf [2]) (.leaf [2]))))

noncomputable def math_bits_OnesCount_ctx : Ctx := ⟨tlook tys, olook [(61, F_math_bits_OnesCount64)], ioF, 0, false, []⟩

theorem math_bits_OnesCount_n1_l (x3348 : Int) : Link math_bits_OnesCount_ctx LL (bodyOf Tryd.f57) math_bits_OnesCount_an (⟨mkE 8 0 [(0, .dat (.int .u64) x3348)], []⟩ : St) (math_bits_OnesCount_n1 x3348) (fun (t : Int) => (Exit.ret, (⟨mkE 8 0 [(2, .dat (.int .i64) t)], []⟩ : St))) := by
  refine Link.of fun K h => ?_
  simp only [math_bits_OnesCount_n1, wpO_bind, wpO_cond, wpO_map, wpO_some] at h
  exact Awp.of (by kernel_rfl) h

theorem math_bits_OnesCount_e (x3348 : Int) {r : AV} {H' : Heap} (h : (Ans.mk _ (math_bits_OnesCount x3348) (fun (t : Int) => (.dat (.int .i64) t, [])) [] none).run = some (r, H')) : Awp math_bits_OnesCount_ctx LL (bodyOf Tryd.f57) math_bits_OnesCount_an (⟨mkE 8 0 [(0, .dat (.int .u64) x3348)], []⟩ : St) (Ret (tlook tys) Tryd.f57.results.toList r H') :=
  ret_of' (math_bits_OnesCount_n1_l x3348) (by unfold math_bits_OnesCount; kernel_rfl) (by
  intro t
  exact ret_mk [.dat (.int .i64) t] (by kernel_rfl) (by kernel_rfl) (by kernel_rfl) (by kernel_rfl)) h

def F_math_bits_OnesCount : Fun := fun avs H =>
  match avs, H with
  | [.dat (.int .u64) x3348], [] => ⟨_, math_bits_OnesCount x3348, fun (t : Int) => (.dat (.int .i64) t, []), [], none⟩
  | _, _ => Ans.no

theorem math_bits_OnesCount_sound : Sound Tryd.prog 57 F_math_bits_OnesCount := by
  refine fn_sound' (C := math_bits_OnesCount_ctx) (c := bodyOf Tryd.f57) (cok_of tys_ok (List.forall_mem_cons.2 ⟨math_bits_OnesCount64_sound, by simp⟩) (List.forall_mem_cons.2 ⟨Tryd.call61, by simp⟩) (by kernel_rfl)) Tryd.func57 (by kernel_rfl) LL math_bits_OnesCount_an ?_
  intro avs H r H' h
  unfold F_math_bits_OnesCount at h
  split at h
  · refine Awp.cast ?_ ?_ ?_ (math_bits_OnesCount_e _ h) <;> kernel_rfl
  · simp [Ans.no, Ans.run] at h

/-! (loop.example/headtrees/impl.wordSet).count -/

def impl_wordSet_count_an : Ann := (.seq (.leaf [0]) (.seq (.leaf [2]) (.leaf [2])))

noncomputable def impl_wordSet_count_ctx : Ctx := ⟨tlook tys, olook [(57, F_math_bits_OnesCount)], ioF, 0, false, []⟩

theorem impl_wordSet_count_n1_l (x3347 : Int) : Link impl_wordSet_count_ctx LL (bodyOf Tryd.f55) impl_wordSet_count_an (⟨mkE 5 0 [(0, .dat (.int .u64) x3347)], []⟩ : St) (impl_wordSet_count_n1 x3347) (fun (t : Int) => (Exit.ret, (⟨mkE 5 0 [(2, .dat (.int .i64) t)], []⟩ : St))) := by
  refine Link.of fun K h => ?_
  simp only [impl_wordSet_count_n1, wpO_bind, wpO_cond, wpO_map, wpO_some] at h
  exact Awp.of (by kernel_rfl) h

theorem impl_wordSet_count_e (x3347 : Int) {r : AV} {H' : Heap} (h : (Ans.mk _ (impl_wordSet_count x3347) (fun (t : Int) => (.dat (.int .i64) t, [])) [] none).run = some (r, H')) : Awp impl_wordSet_count_ctx LL (bodyOf Tryd.f55) impl_wordSet_count_an (⟨mkE 5 0 [(0, .dat (.int .u64) x3347)], []⟩ : St) (Ret (tlook tys) Tryd.f55.results.toList r H') :=
  ret_of' (impl_wordSet_count_n1_l x3347) (by unfold impl_wordSet_count; kernel_rfl) (by
  intro t
  exact ret_mk [.dat (.int .i64) t] (by kernel_rfl) (by kernel_rfl) (by kernel_rfl) (by kernel_rfl)) h

def F_impl_wordSet_count : Fun := fun avs H =>
  match avs, H with
  | [.dat (.int .u64) x3347], [] => ⟨_, impl_wordSet_count x3347, fun (t : Int) => (.dat (.int .i64) t, []), [], none⟩
  | _, _ => Ans.no

theorem impl_wordSet_count_sound : Sound Tryd.prog 55 F_impl_wordSet_count := by
  refine fn_sound' (C := impl_wordSet_count_ctx) (c := bodyOf Tryd.f55) (cok_of tys_ok (List.forall_mem_cons.2 ⟨math_bits_OnesCount_sound, by simp⟩) (List.forall_mem_cons.2 ⟨Tryd.call57, by simp⟩) (by kernel_rfl)) Tryd.func55 (by kernel_rfl) LL impl_wordSet_count_an ?_
  intro avs H r H' h
  unfold F_impl_wordSet_count at h
  split at h
  · refine Awp.cast ?_ ?_ ?_ (impl_wordSet_count_e _ h) <;> kernel_rfl
  · simp [Ans.no, Ans.run] at h

/-! math/bits.TrailingZeros64 -/

def math_bits_TrailingZeros64_an : Ann := (.seq (.leaf [0]) (.seq (.seq (.leaf [0, 4]) (.cond (.seq (.leaf [2]) (.leaf [2])) (.leaf [0]))) (.seq (.leaf [2]) (.leaf [2]))))

noncomputable def math_bits_TrailingZeros64_ctx : Ctx := ⟨tlook tys, olook [], ioF, 0, false, []⟩

theorem math_bits_TrailingZeros64_n1_l (x3408 : Int) : Link math_bits_TrailingZeros64_ctx LL (bodyOf Tryd.f59) math_bits_TrailingZeros64_an (⟨mkE 14 0 [(0, .dat (.int .u64) x3408)], []⟩ : St) (math_bits_TrailingZeros64_n1 x3408) (fun (t : Int) => (Exit.ret, (⟨mkE 14 0 [(2, .dat (.int .i64) t)], []⟩ : St))) := by
  refine Link.of fun K h => ?_
  simp only [math_bits_TrailingZeros64_n1, wpO_bind, wpO_cond, wpO_map, wpO_some] at h
  exact Awp.of (by kernel_rfl) h

theorem math_bits_TrailingZeros64_e (x3408 : Int) {r : AV} {H' : Heap} (h : (Ans.mk _ (math_bits_TrailingZeros64 x3408) (fun (t : Int) => (.dat (.int .i64) t, [])) [] none).run = some (r, H')) : Awp math_bits_TrailingZeros64_ctx LL (bodyOf Tryd.f59) math_bits_TrailingZeros64_an (⟨mkE 14 0 [(0, .dat (.int .u64) x3408)], []⟩ : St) (Ret (tlook tys) Tryd.f59.results.toList r H') :=
  ret_of' (math_bits_TrailingZeros64_n1_l x3408) (by unfold math_bits_TrailingZeros64; kernel_rfl) (by
  intro t
  exact ret_mk [.dat (.int .i64) t] (by kernel_rfl) (by kernel_rfl) (by kernel_rfl) (by kernel_rfl)) h

def F_math_bits_TrailingZeros64 : Fun := fun avs H =>
  match avs, H with
  | [.dat (.int .u64) x3408], [] => ⟨_, math_bits_TrailingZeros64 x3408, fun (t : Int) => (.dat (.int .i64) t, []), [], none⟩
  | _, _ => Ans.no

theorem math_bits_TrailingZeros64_sound : Sound Tryd.prog 59 F_math_bits_TrailingZeros64 := by
  refine fn_sound' (C := math_bits_TrailingZeros64_ctx) (c := bodyOf Tryd.f59) (cok_of tys_ok (by simp) (by simp) (by kernel_rfl)) Tryd.func59 (by kernel_rfl) LL math_bits_TrailingZeros64_an ?_
  intro avs H r H' h
  unfold F_math_bits_TrailingZeros64 at h
  split at h
  · refine Awp.cast ?_ ?_ ?_ (math_bits_TrailingZeros64_e _ h) <;> kernel_rfl
  · simp [Ans.no, Ans.run] at h

/-! math/bits.TrailingZeros -/

def math_bits_TrailingZeros_an : Ann := (.seq (.leaf [0]) (.seq (.cond (.seq (.leaf [2]) (.leaf [2])) (.leaf [0])) (.seq (.leaf [2]) (.leaf [2]))))

noncomputable def math_bits_TrailingZeros_ctx : Ctx := ⟨tlook tys, olook [(59, F_math_bits_TrailingZeros64)], ioF, 0, false, []⟩

theorem math_bits_TrailingZeros_n1_l (x3407 : Int) : Link math_bits_TrailingZeros_ctx LL (bodyOf Tryd.f56) math_bits_TrailingZeros_an (⟨mkE 8 0 [(0, .dat (.int .u64) x3407)], []⟩ : St) (math_bits_TrailingZeros_n1 x3407) (fun (t : Int) => (Exit.ret, (⟨mkE 8 0 [(2, .dat (.int .i64) t)], []⟩ : St))) := by
  refine Link.of fun K h => ?_
  simp only [math_bits_TrailingZeros_n1, wpO_bind, wpO_cond, wpO_map, wpO_some] at h
  exact Awp.of (by kernel_rfl) h

theorem math_bits_TrailingZeros_e (x3407 : Int) {r : AV} {H' : Heap} (h : (Ans.mk _ (math_bits_TrailingZeros x3407) (fun (t : Int) => (.dat (.int .i64) t, [])) [] none).run = some (r, H')) : Awp math_bits_TrailingZeros_ctx LL (bodyOf Tryd.f56) math_bits_TrailingZeros_an (⟨mkE 8 0 [(0, .dat (.int .u64) x3407)], []⟩ : St) (Ret (tlook tys) Tryd.f56.results.toList r H') :=
  ret_of' (math_bits_TrailingZeros_n1_l x3407) (by unfold math_bits_TrailingZeros; kernel_rfl) (by
  intro t
  exact ret_mk [.dat (.int .i64) t] (by kernel_rfl) (by kernel_rfl) (by kernel_rfl) (by kernel_rfl)) h

def F_math_bits_TrailingZeros : Fun := fun avs H =>
  match avs, H with
  | [.dat (.int .u64) x3407], [] => ⟨_, math_bits_TrailingZeros x3407, fun (t : Int) => (.dat (.int .i64) t, []), [], none⟩
  | _, _ => Ans.no

theorem math_bits_TrailingZeros_sound : Sound Tryd.prog 56 F_math_bits_TrailingZeros := by
  refine fn_sound' (C := math_bits_TrailingZeros_ctx) (c := bodyOf Tryd.f56) (cok_of tys_ok (List.forall_mem_cons.2 ⟨math_bits_TrailingZeros64_sound, by simp⟩) (List.forall_mem_cons.2 ⟨Tryd.call59, by simp⟩) (by kernel_rfl)) Tryd.func56 (by kernel_rfl) LL math_bits_TrailingZeros_an ?_
  intro avs H r H' h
  unfold F_math_bits_TrailingZeros at h
  split at h
  · refine Awp.cast ?_ ?_ ?_ (math_bits_TrailingZeros_e _ h) <;> kernel_rfl
  · simp [Ans.no, Ans.run] at h

/-! (loop.example/headtrees/impl.wordSet).list -/

def impl_wordSet_list_an : Ann := (.seq (.leaf [0]) (.seq (.leaf [0, 3]) (.seq (.seq (.leaf [3, 4]) (.block (.loop (.seq (.seq (.leaf [3, 4, 10]) (.cond (.leaf [3, 4]) (.leaf [3]))) (.seq (.block (.leaf [3, 4])) (.leaf [3, 4])))))) (.seq (.leaf [2]) (.leaf [2])))))

noncomputable def impl_wordSet_list_ctx : Ctx := ⟨tlook tys, olook [(55, F_impl_wordSet_count), (56, F_math_bits_TrailingZeros)], ioF, 0, false, []⟩

theorem impl_wordSet_list_n1_l (x3346 : Int) : Link impl_wordSet_list_ctx LL (Code.seq (Code.fst (bodyOf Tryd.f53)) (Code.fst (Code.snd (bodyOf Tryd.f53)))) (Ann.seq (Ann.fst impl_wordSet_list_an) (Ann.fst (Ann.snd impl_wordSet_list_an))) (⟨mkE 22 0 [(0, .dat (.int .u64) x3346)], []⟩ : St) (impl_wordSet_list_n1 x3346) (fun (t : (List Int)) => (Exit.normal, (⟨mkE 22 0 [(0, .dat (.int .u64) x3346), (3, .slc 0)], [some (.seq (.int .i64) t)]⟩ : St))) := by
  refine Link.of fun K h => ?_
  simp only [impl_wordSet_list_n1, wpO_bind, wpO_cond, wpO_map, wpO_some] at h
  exact Awp.of (by kernel_rfl) h

theorem impl_wordSet_list_n2_l (x3346 : Int) (x3404 : List Int) : Link impl_wordSet_list_ctx LL (Code.fst (Code.fst (Code.snd (Code.snd (bodyOf Tryd.f53))))) (Ann.fst (Ann.fst (Ann.snd (Ann.snd impl_wordSet_list_an)))) (⟨mkE 22 0 [(0, .dat (.int .u64) x3346), (3, .slc 0)], [some (.seq (.int .i64) x3404)]⟩ : St) (impl_wordSet_list_n2) (fun (t : Unit) => (Exit.normal, (⟨mkE 22 0 [(3, .slc 0), (4, .dat (.int .u64) x3346)], [some (.seq (.int .i64) x3404)]⟩ : St))) := by
  refine Link.of fun K h => ?_
  simp only [impl_wordSet_list_n2, wpO_bind, wpO_cond, wpO_map, wpO_some] at h
  exact Awp.of (by kernel_rfl) h

theorem impl_wordSet_list_n3_l (x3447 : Int) (x3448 : List Int) : Link impl_wordSet_list_ctx LL (Code.fst (Code.fst (Code.snd (Code.fst (Code.snd (Code.snd (bodyOf Tryd.f53))))))) (Ann.fst (Ann.fst (Ann.snd (Ann.fst (Ann.snd (Ann.snd impl_wordSet_list_an)))))) (⟨mkE 22 0 [(3, .slc 0), (4, .dat (.int .u64) x3447)], [some (.seq (.int .i64) x3448)]⟩ : St) (impl_wordSet_list_n3 x3447 x3448) (Sum.elim (fun (t : Int × (List Int)) => (Exit.normal, (⟨mkE 22 0 [(3, .slc 0), (4, .dat (.int .u64) t.1)], [some (.seq (.int .i64) t.2)]⟩ : St))) (fun (t : (List Int)) => ((Exit.exit 0), (⟨mkE 22 0 [(3, .slc 0)], [some (.seq (.int .i64) t)]⟩ : St)))) := by
  refine Link.of fun K h => ?_
  simp only [impl_wordSet_list_n3, wpO_bind, wpO_cond, wpO_map, wpO_some] at h
  exact Awp.of (by kernel_rfl) h

theorem impl_wordSet_list_n4_l (x3346 : Int) (x3404 : List Int) : Link impl_wordSet_list_ctx LL (Code.fst (Code.snd (Code.fst (Code.snd (Code.snd (bodyOf Tryd.f53)))))) (Ann.fst (Ann.snd (Ann.fst (Ann.snd (Ann.snd impl_wordSet_list_an))))) (⟨mkE 22 0 [(3, .slc 0), (4, .dat (.int .u64) x3346)], [some (.seq (.int .i64) x3404)]⟩ : St) (impl_wordSet_list_n4 x3346 x3404) (fun (t : (List Int)) => ((Exit.exit 0), (⟨mkE 22 0 [(3, .slc 0)], [some (.seq (.int .i64) t)]⟩ : St))) := by
  unfold impl_wordSet_list_n4
  exact Link.cast (by kernel_rfl) (by kernel_rfl) (link_loop (mk := fun (s : Int × (List Int)) => (⟨mkE 22 0 [(3, .slc 0), (4, .dat (.int .u64) s.1)], [some (.seq (.int .i64) s.2)]⟩ : St)) (fin := (fun (t : (List Int)) => ((Exit.exit 0), (⟨mkE 22 0 [(3, .slc 0)], [some (.seq (.int .i64) t)]⟩ : St)))) (by
  rintro t f K h
  · exact h) (fun s => link_map (impl_wordSet_list_n3_l s.1 s.2) (Sum.elim (fun (t : Int × (List Int)) => Sum.inl (t.1, t.2)) (fun (t : (List Int)) => Sum.inr t)) (by
  rintro (t | t)
  · kernel_rfl
  · kernel_rfl)) (x3346, x3404))

theorem impl_wordSet_list_n5_l (x3346 : Int) (x3404 : List Int) : Link impl_wordSet_list_ctx LL (Code.snd (Code.fst (Code.snd (Code.snd (bodyOf Tryd.f53))))) (Ann.snd (Ann.fst (Ann.snd (Ann.snd impl_wordSet_list_an)))) (⟨mkE 22 0 [(3, .slc 0), (4, .dat (.int .u64) x3346)], [some (.seq (.int .i64) x3404)]⟩ : St) (impl_wordSet_list_n5 x3346 x3404) (fun (t : (List Int)) => (Exit.normal, (⟨mkE 22 0 [(3, .slc 0)], [some (.seq (.int .i64) t)]⟩ : St))) := by
  unfold impl_wordSet_list_n5
  exact Link.cast (by kernel_rfl) (by kernel_rfl) (link_block (id := 0) (impl_wordSet_list_n4_l x3346 x3404) (fun (t : (List Int)) => t) (by
  rintro t K h
  · exact Eq.mp (by kernel_rfl) h))

theorem impl_wordSet_list_n6_l (x3346 : Int) (x3404 : List Int) : Link impl_wordSet_list_ctx LL (Code.fst (Code.snd (Code.snd (bodyOf Tryd.f53)))) (Ann.fst (Ann.snd (Ann.snd impl_wordSet_list_an))) (⟨mkE 22 0 [(0, .dat (.int .u64) x3346), (3, .slc 0)], [some (.seq (.int .i64) x3404)]⟩ : St) (impl_wordSet_list_n6 x3346 x3404) (fun (t : (List Int)) => (Exit.normal, (⟨mkE 22 0 [(3, .slc 0)], [some (.seq (.int .i64) t)]⟩ : St))) := by
  unfold impl_wordSet_list_n6
  exact Link.cast (by kernel_rfl) (by kernel_rfl) (link_seq (b := (Code.snd (Code.fst (Code.snd (Code.snd (bodyOf Tryd.f53)))))) (y := (Ann.snd (Ann.fst (Ann.snd (Ann.snd impl_wordSet_list_an))))) (impl_wordSet_list_n2_l x3346 x3404) (fun (t : Unit) => (impl_wordSet_list_n5_l x3346 x3404)))

theorem impl_wordSet_list_n7_l (x3448 : List Int) : Link impl_wordSet_list_ctx LL (Code.snd (Code.snd (Code.snd (bodyOf Tryd.f53)))) (Ann.snd (Ann.snd (Ann.snd impl_wordSet_list_an))) (⟨mkE 22 0 [(3, .slc 0)], [some (.seq (.int .i64) x3448)]⟩ : St) (impl_wordSet_list_n7 x3448) (fun (t : (List Int)) => (Exit.ret, (⟨mkE 22 0 [(2, .slc 0)], [some (.seq (.int .i64) t)]⟩ : St))) := by
  refine Link.of fun K h => ?_
  simp only [impl_wordSet_list_n7, wpO_bind, wpO_cond, wpO_map, wpO_some] at h
  exact Awp.of (by kernel_rfl) h

theorem impl_wordSet_list_n8_l (x3346 : Int) (x3404 : List Int) : Link impl_wordSet_list_ctx LL (Code.snd (Code.snd (bodyOf Tryd.f53))) (Ann.snd (Ann.snd impl_wordSet_list_an)) (⟨mkE 22 0 [(0, .dat (.int .u64) x3346), (3, .slc 0)], [some (.seq (.int .i64) x3404)]⟩ : St) (impl_wordSet_list_n8 x3346 x3404) (fun (t : (List Int)) => (Exit.ret, (⟨mkE 22 0 [(2, .slc 0)], [some (.seq (.int .i64) t)]⟩ : St))) := by
  unfold impl_wordSet_list_n8
  exact Link.cast (by kernel_rfl) (by kernel_rfl) (link_seq (b := (Code.snd (Code.snd (Code.snd (bodyOf Tryd.f53))))) (y := (Ann.snd (Ann.snd (Ann.snd impl_wordSet_list_an)))) (impl_wordSet_list_n6_l x3346 x3404) (fun (t : (List Int)) => (impl_wordSet_list_n7_l t)))

theorem impl_wordSet_list_n9_l (x3346 : Int) : Link impl_wordSet_list_ctx LL (bodyOf Tryd.f53) impl_wordSet_list_an (⟨mkE 22 0 [(0, .dat (.int .u64) x3346)], []⟩ : St) (impl_wordSet_list_n9 x3346) (fun (t : (List Int)) => (Exit.ret, (⟨mkE 22 0 [(2, .slc 0)], [some (.seq (.int .i64) t)]⟩ : St))) := by
  unfold impl_wordSet_list_n9
  exact Link.cast (by kernel_rfl) (by kernel_rfl) (link_group (c := (Code.fst (Code.snd (bodyOf Tryd.f53)))) (a := (Ann.fst (Ann.snd impl_wordSet_list_an))) [(Code.fst (bodyOf Tryd.f53))] [(Ann.fst impl_wordSet_list_an)] rfl (link_seq (b := (Code.snd (Code.snd (bodyOf Tryd.f53)))) (y := (Ann.snd (Ann.snd impl_wordSet_list_an))) (impl_wordSet_list_n1_l x3346) (fun (t : (List Int)) => (impl_wordSet_list_n8_l x3346 t))))

theorem impl_wordSet_list_e (x3346 : Int) {r : AV} {H' : Heap} (h : (Ans.mk _ (impl_wordSet_list x3346) (fun (t : (List Int)) => (.slc 0, [some (.seq (.int .i64) t)])) [] none).run = some (r, H')) : Awp impl_wordSet_list_ctx LL (bodyOf Tryd.f53) impl_wordSet_list_an (⟨mkE 22 0 [(0, .dat (.int .u64) x3346)], []⟩ : St) (Ret (tlook tys) Tryd.f53.results.toList r H') :=
  ret_of' (impl_wordSet_list_n9_l x3346) (by unfold impl_wordSet_list; kernel_rfl) (by
  intro t
  exact ret_mk [.slc 0] (by kernel_rfl) (by kernel_rfl) (by kernel_rfl) (by kernel_rfl)) h

def F_impl_wordSet_list : Fun := fun avs H =>
  match avs, H with
  | [.dat (.int .u64) x3346], [] => ⟨_, impl_wordSet_list x3346, fun (t : (List Int)) => (.slc 0, [some (.seq (.int .i64) t)]), [], none⟩
  | _, _ => Ans.no

theorem impl_wordSet_list_sound : Sound Tryd.prog 53 F_impl_wordSet_list := by
  refine fn_sound' (C := impl_wordSet_list_ctx) (c := bodyOf Tryd.f53) (cok_of tys_ok (List.forall_mem_cons.2 ⟨impl_wordSet_count_sound, List.forall_mem_cons.2 ⟨math_bits_TrailingZeros_sound, by simp⟩⟩) (List.forall_mem_cons.2 ⟨Tryd.call55, List.forall_mem_cons.2 ⟨Tryd.call56, by simp⟩⟩) (by kernel_rfl)) Tryd.func53 (by kernel_rfl) LL impl_wordSet_list_an ?_
  intro avs H r H' h
  unfold F_impl_wordSet_list at h
  split at h
  · refine Awp.cast ?_ ?_ ?_ (impl_wordSet_list_e _ h) <;> kernel_rfl
  · simp [Ans.no, Ans.run] at h

/-! loop.example/headtrees/impl.fillYields -/

def impl_fillYields_an : Ann := (.seq (.leaf [0, 1, 2]) (.seq (.leaf [0, 1, 2, 7]) (.seq (.seq (.leaf [0, 1, 2, 7, 15, 16, 17]) (.block (.loop (.seq (.leaf [0, 1, 2, 7, 15, 16, 17, 18]) (.seq (.cond (.leaf [0, 1, 2, 7, 15, 16, 17]) (.leaf [0, 2, 7])) (.seq (.block (.seq (.leaf [0, 1, 2, 7, 9, 15, 16, 17]) (.leaf [0, 1, 2, 7, 15, 16, 17]))) (.leaf [0, 1, 2, 7, 15, 16, 17]))))))) (.seq (.leaf [7]) (.seq (.leaf [6]) (.leaf [6]))))))

def F_impl_fillYields_fuel (n : Nat) : Fun := fun avs H =>
  match avs, H with
  | [.slc 0, .dat (.list (.int .i64)) x3295, .dat (.int .i64) x3296], [some (.seq (.int .u64) x3297)] => ⟨_, impl_fillYields_fuel n x3295 x3296 x3297, fun (t : Int × (List Int)) => (.dat (.int .u64) t.1, [some (.seq (.int .u64) t.2)]), [], none⟩
  | _, _ => Ans.no

noncomputable def impl_fillYields_ctx (n : Nat) : Ctx := ⟨tlook tys, olook [(52, F_impl_only), (40, F_impl_dependents), (53, F_impl_wordSet_list), (43, F_impl_fillYields_fuel n)], ioF, 1, false, []⟩

theorem impl_fillYields_n1_l (n : Nat) (x3295 : List Int) (x3296 : Int) (x3297 : List Int) : Link (impl_fillYields_ctx n) LL (Code.seq (Code.fst (bodyOf Tryd.f43)) (Code.fst (Code.snd (bodyOf Tryd.f43)))) (Ann.seq (Ann.fst impl_fillYields_an) (Ann.fst (Ann.snd impl_fillYields_an))) (⟨mkE 34 0 [(0, .slc 0), (1, .dat (.list (.int .i64)) x3295), (2, .dat (.int .i64) x3296)], [some (.seq (.int .u64) x3297)]⟩ : St) (impl_fillYields_n1 (impl_fillYields_fuel n) x3296) (fun (t : Int) => (Exit.normal, (⟨mkE 34 0 [(0, .slc 0), (1, .dat (.list (.int .i64)) x3295), (2, .dat (.int .i64) x3296), (7, .dat (.int .u64) t)], [some (.seq (.int .u64) x3297)]⟩ : St))) := by
  refine Link.of fun K h => ?_
  simp only [impl_fillYields_n1, wpO_bind, wpO_cond, wpO_map, wpO_some] at h
  exact Awp.of (by kernel_rfl) h

theorem impl_fillYields_n2_l (n : Nat) (x3295 : List Int) (x3296 : Int) (x3482 : Int) (x3297 : List Int) : Link (impl_fillYields_ctx n) LL (Code.fst (Code.fst (Code.snd (Code.snd (bodyOf Tryd.f43))))) (Ann.fst (Ann.fst (Ann.snd (Ann.snd impl_fillYields_an)))) (⟨mkE 34 0 [(0, .slc 0), (1, .dat (.list (.int .i64)) x3295), (2, .dat (.int .i64) x3296), (7, .dat (.int .u64) x3482)], [some (.seq (.int .u64) x3297)]⟩ : St) (impl_fillYields_n2 (impl_fillYields_fuel n) x3295 x3296) (fun (t : Int × (List Int)) => (Exit.normal, (⟨mkE 34 0 [(0, .slc 0), (1, .dat (.list (.int .i64)) x3295), (2, .dat (.int .i64) x3296), (7, .dat (.int .u64) x3482), (15, .slc 1), (16, .dat (.int .i64) t.1), (17, .dat (.int .i64) 0)], [some (.seq (.int .u64) x3297), some (.seq (.int .i64) t.2)]⟩ : St))) := by
  refine Link.of fun K h => ?_
  simp only [impl_fillYields_n2, wpO_bind, wpO_cond, wpO_map, wpO_some] at h
  exact Awp.of (by kernel_rfl) h

theorem impl_fillYields_n3_l (n : Nat) (x3295 : List Int) (x3296 : Int) (x3503 : Int) (x3485 : Int) (x3504 : Int) (x3505 : List Int) (x3484 : List Int) : Link (impl_fillYields_ctx n) LL (Code.fst (Code.fst (Code.snd (Code.fst (Code.snd (Code.snd (bodyOf Tryd.f43))))))) (Ann.fst (Ann.fst (Ann.snd (Ann.fst (Ann.snd (Ann.snd impl_fillYields_an)))))) (⟨mkE 34 0 [(0, .slc 0), (1, .dat (.list (.int .i64)) x3295), (2, .dat (.int .i64) x3296), (7, .dat (.int .u64) x3503), (15, .slc 1), (16, .dat (.int .i64) x3485), (17, .dat (.int .i64) x3504)], [some (.seq (.int .u64) x3505), some (.seq (.int .i64) x3484)]⟩ : St) (impl_fillYields_n3 (impl_fillYields_fuel n) x3295 x3503 x3485 x3504 x3505 x3484) (Sum.elim (fun (t : Int × Int × (List Int)) => (Exit.normal, (⟨mkE 34 0 [(0, .slc 0), (1, .dat (.list (.int .i64)) x3295), (2, .dat (.int .i64) x3296), (7, .dat (.int .u64) t.1), (15, .slc 1), (16, .dat (.int .i64) x3485), (17, .dat (.int .i64) t.2.1)], [some (.seq (.int .u64) t.2.2), some (.seq (.int .i64) x3484)]⟩ : St))) (fun (t : Int × (List Int)) => ((Exit.exit 0), (⟨mkE 34 0 [(0, .slc 0), (2, .dat (.int .i64) x3296), (7, .dat (.int .u64) t.1)], [some (.seq (.int .u64) t.2)]⟩ : St)))) := by
  refine Link.of fun K h => ?_
  simp only [impl_fillYields_n3, wpO_bind, wpO_cond, wpO_map, wpO_some] at h
  exact Awp.of (by kernel_rfl) h

theorem impl_fillYields_n4_l (n : Nat) (x3295 : List Int) (x3296 : Int) (x3482 : Int) (x3485 : Int) (x3297 : List Int) (x3484 : List Int) : Link (impl_fillYields_ctx n) LL (Code.fst (Code.snd (Code.fst (Code.snd (Code.snd (bodyOf Tryd.f43)))))) (Ann.fst (Ann.snd (Ann.fst (Ann.snd (Ann.snd impl_fillYields_an))))) (⟨mkE 34 0 [(0, .slc 0), (1, .dat (.list (.int .i64)) x3295), (2, .dat (.int .i64) x3296), (7, .dat (.int .u64) x3482), (15, .slc 1), (16, .dat (.int .i64) x3485), (17, .dat (.int .i64) 0)], [some (.seq (.int .u64) x3297), some (.seq (.int .i64) x3484)]⟩ : St) (impl_fillYields_n4 (impl_fillYields_fuel n) x3295 x3482 x3485 x3297 x3484) (fun (t : Int × (List Int)) => ((Exit.exit 0), (⟨mkE 34 0 [(0, .slc 0), (2, .dat (.int .i64) x3296), (7, .dat (.int .u64) t.1)], [some (.seq (.int .u64) t.2)]⟩ : St))) := by
  unfold impl_fillYields_n4
  exact Link.cast (by kernel_rfl) (by kernel_rfl) (link_loop (mk := fun (s : Int × Int × (List Int)) => (⟨mkE 34 0 [(0, .slc 0), (1, .dat (.list (.int .i64)) x3295), (2, .dat (.int .i64) x3296), (7, .dat (.int .u64) s.1), (15, .slc 1), (16, .dat (.int .i64) x3485), (17, .dat (.int .i64) s.2.1)], [some (.seq (.int .u64) s.2.2), some (.seq (.int .i64) x3484)]⟩ : St)) (fin := (fun (t : Int × (List Int)) => ((Exit.exit 0), (⟨mkE 34 0 [(0, .slc 0), (2, .dat (.int .i64) x3296), (7, .dat (.int .u64) t.1)], [some (.seq (.int .u64) t.2)]⟩ : St)))) (by
  rintro t f K h
  · exact h) (fun s => link_map (impl_fillYields_n3_l n x3295 x3296 s.1 x3485 s.2.1 s.2.2 x3484) (Sum.elim (fun (t : Int × Int × (List Int)) => Sum.inl (t.1, t.2.1, t.2.2)) (fun (t : Int × (List Int)) => Sum.inr t)) (by
  rintro (t | t)
  · kernel_rfl
  · kernel_rfl)) (x3482, 0, x3297))

theorem impl_fillYields_n5_l (n : Nat) (x3295 : List Int) (x3296 : Int) (x3482 : Int) (x3485 : Int) (x3297 : List Int) (x3484 : List Int) : Link (impl_fillYields_ctx n) LL (Code.snd (Code.fst (Code.snd (Code.snd (bodyOf Tryd.f43))))) (Ann.snd (Ann.fst (Ann.snd (Ann.snd impl_fillYields_an)))) (⟨mkE 34 0 [(0, .slc 0), (1, .dat (.list (.int .i64)) x3295), (2, .dat (.int .i64) x3296), (7, .dat (.int .u64) x3482), (15, .slc 1), (16, .dat (.int .i64) x3485), (17, .dat (.int .i64) 0)], [some (.seq (.int .u64) x3297), some (.seq (.int .i64) x3484)]⟩ : St) (impl_fillYields_n5 (impl_fillYields_fuel n) x3295 x3482 x3485 x3297 x3484) (fun (t : Int × (List Int)) => (Exit.normal, (⟨mkE 34 0 [(0, .slc 0), (2, .dat (.int .i64) x3296), (7, .dat (.int .u64) t.1)], [some (.seq (.int .u64) t.2)]⟩ : St))) := by
  unfold impl_fillYields_n5
  exact Link.cast (by kernel_rfl) (by kernel_rfl) (link_block (id := 0) (impl_fillYields_n4_l n x3295 x3296 x3482 x3485 x3297 x3484) (fun (t : Int × (List Int)) => (t.1, t.2)) (by
  rintro t K h
  · exact Eq.mp (by kernel_rfl) h))

theorem impl_fillYields_n6_l (n : Nat) (x3295 : List Int) (x3296 : Int) (x3482 : Int) (x3297 : List Int) : Link (impl_fillYields_ctx n) LL (Code.fst (Code.snd (Code.snd (bodyOf Tryd.f43)))) (Ann.fst (Ann.snd (Ann.snd impl_fillYields_an))) (⟨mkE 34 0 [(0, .slc 0), (1, .dat (.list (.int .i64)) x3295), (2, .dat (.int .i64) x3296), (7, .dat (.int .u64) x3482)], [some (.seq (.int .u64) x3297)]⟩ : St) (impl_fillYields_n6 (impl_fillYields_fuel n) x3295 x3296 x3482 x3297) (fun (t : Int × (List Int)) => (Exit.normal, (⟨mkE 34 0 [(0, .slc 0), (2, .dat (.int .i64) x3296), (7, .dat (.int .u64) t.1)], [some (.seq (.int .u64) t.2)]⟩ : St))) := by
  unfold impl_fillYields_n6
  exact Link.cast (by kernel_rfl) (by kernel_rfl) (link_seq (b := (Code.snd (Code.fst (Code.snd (Code.snd (bodyOf Tryd.f43)))))) (y := (Ann.snd (Ann.fst (Ann.snd (Ann.snd impl_fillYields_an))))) (impl_fillYields_n2_l n x3295 x3296 x3482 x3297) (fun (t : Int × (List Int)) => (impl_fillYields_n5_l n x3295 x3296 x3482 t.1 x3297 t.2)))

theorem impl_fillYields_n7_l (n : Nat) (x3296 : Int) (x3503 : Int) (x3505 : List Int) : Link (impl_fillYields_ctx n) LL (Code.snd (Code.snd (Code.snd (bodyOf Tryd.f43)))) (Ann.snd (Ann.snd (Ann.snd impl_fillYields_an))) (⟨mkE 34 0 [(0, .slc 0), (2, .dat (.int .i64) x3296), (7, .dat (.int .u64) x3503)], [some (.seq (.int .u64) x3505)]⟩ : St) (impl_fillYields_n7 (impl_fillYields_fuel n) x3296 x3503 x3505) (fun (t : Int × (List Int)) => (Exit.ret, (⟨mkE 34 0 [(6, .dat (.int .u64) t.1)], [some (.seq (.int .u64) t.2)]⟩ : St))) := by
  refine Link.of fun K h => ?_
  simp only [impl_fillYields_n7, wpO_bind, wpO_cond, wpO_map, wpO_some] at h
  exact Awp.of (by kernel_rfl) h

theorem impl_fillYields_n8_l (n : Nat) (x3295 : List Int) (x3296 : Int) (x3482 : Int) (x3297 : List Int) : Link (impl_fillYields_ctx n) LL (Code.snd (Code.snd (bodyOf Tryd.f43))) (Ann.snd (Ann.snd impl_fillYields_an)) (⟨mkE 34 0 [(0, .slc 0), (1, .dat (.list (.int .i64)) x3295), (2, .dat (.int .i64) x3296), (7, .dat (.int .u64) x3482)], [some (.seq (.int .u64) x3297)]⟩ : St) (impl_fillYields_n8 (impl_fillYields_fuel n) x3295 x3296 x3482 x3297) (fun (t : Int × (List Int)) => (Exit.ret, (⟨mkE 34 0 [(6, .dat (.int .u64) t.1)], [some (.seq (.int .u64) t.2)]⟩ : St))) := by
  unfold impl_fillYields_n8
  exact Link.cast (by kernel_rfl) (by kernel_rfl) (link_seq (b := (Code.snd (Code.snd (Code.snd (bodyOf Tryd.f43))))) (y := (Ann.snd (Ann.snd (Ann.snd impl_fillYields_an)))) (impl_fillYields_n6_l n x3295 x3296 x3482 x3297) (fun (t : Int × (List Int)) => (impl_fillYields_n7_l n x3296 t.1 t.2)))

theorem impl_fillYields_n9_l (n : Nat) (x3295 : List Int) (x3296 : Int) (x3297 : List Int) : Link (impl_fillYields_ctx n) LL (bodyOf Tryd.f43) impl_fillYields_an (⟨mkE 34 0 [(0, .slc 0), (1, .dat (.list (.int .i64)) x3295), (2, .dat (.int .i64) x3296)], [some (.seq (.int .u64) x3297)]⟩ : St) (impl_fillYields_n9 (impl_fillYields_fuel n) x3295 x3296 x3297) (fun (t : Int × (List Int)) => (Exit.ret, (⟨mkE 34 0 [(6, .dat (.int .u64) t.1)], [some (.seq (.int .u64) t.2)]⟩ : St))) := by
  unfold impl_fillYields_n9
  exact Link.cast (by kernel_rfl) (by kernel_rfl) (link_group (c := (Code.fst (Code.snd (bodyOf Tryd.f43)))) (a := (Ann.fst (Ann.snd impl_fillYields_an))) [(Code.fst (bodyOf Tryd.f43))] [(Ann.fst impl_fillYields_an)] rfl (link_seq (b := (Code.snd (Code.snd (bodyOf Tryd.f43)))) (y := (Ann.snd (Ann.snd impl_fillYields_an))) (impl_fillYields_n1_l n x3295 x3296 x3297) (fun (t : Int) => (impl_fillYields_n8_l n x3295 x3296 t x3297))))

theorem impl_fillYields_e (n : Nat) (x3295 : List Int) (x3296 : Int) (x3297 : List Int) {r : AV} {H' : Heap} (h : (Ans.mk _ (impl_fillYields_fuel (n + 1) x3295 x3296 x3297) (fun (t : Int × (List Int)) => (.dat (.int .u64) t.1, [some (.seq (.int .u64) t.2)])) [] none).run = some (r, H')) : Awp (impl_fillYields_ctx n) LL (bodyOf Tryd.f43) impl_fillYields_an (⟨mkE 34 0 [(0, .slc 0), (1, .dat (.list (.int .i64)) x3295), (2, .dat (.int .i64) x3296)], [some (.seq (.int .u64) x3297)]⟩ : St) (Ret (tlook tys) Tryd.f43.results.toList r H') :=
  ret_of' (impl_fillYields_n9_l n x3295 x3296 x3297) (by (show _ = _); kernel_rfl) (by
  intro t
  exact ret_mk [.dat (.int .u64) t.1] (by kernel_rfl) (by kernel_rfl) (by kernel_rfl) (by kernel_rfl)) h

theorem impl_fillYields_step (n : Nat) (h43 : Sound Tryd.prog 43 (F_impl_fillYields_fuel n)) : Sound Tryd.prog 43 (F_impl_fillYields_fuel (n + 1)) := by
  refine fn_sound' (C := impl_fillYields_ctx n) (c := bodyOf Tryd.f43) (cok_of tys_ok (List.forall_mem_cons.2 ⟨impl_only_sound, List.forall_mem_cons.2 ⟨impl_dependents_sound, List.forall_mem_cons.2 ⟨impl_wordSet_list_sound, List.forall_mem_cons.2 ⟨h43, by simp⟩⟩⟩⟩) (List.forall_mem_cons.2 ⟨Tryd.call52, List.forall_mem_cons.2 ⟨Tryd.call40, List.forall_mem_cons.2 ⟨Tryd.call53, List.forall_mem_cons.2 ⟨Tryd.call43, by simp⟩⟩⟩⟩) (by kernel_rfl)) Tryd.func43 (by kernel_rfl) LL impl_fillYields_an ?_
  intro avs H r H' h
  unfold F_impl_fillYields_fuel at h
  split at h
  · refine Awp.cast ?_ ?_ ?_ (impl_fillYields_e n _ _ _ h) <;> kernel_rfl
  · simp [Ans.no, Ans.run] at h

theorem impl_fillYields_null : Sound Tryd.prog 43 (F_impl_fillYields_fuel 0) := by
  intro avs H r H' h
  unfold F_impl_fillYields_fuel at h
  split at h
  · simp [impl_fillYields_fuel, impl_fillYields_knot, Ans.run] at h
  · simp [Ans.no, Ans.run] at h

theorem impl_fillYields_knot_all : ∀ n, Sound Tryd.prog 43 (F_impl_fillYields_fuel n)
  | 0 => impl_fillYields_null
  | n + 1 => by
    have h43 := impl_fillYields_knot_all n
    exact impl_fillYields_step n h43

def F_impl_fillYields : Fun := fun avs H =>
  match avs, H with
  | [.slc 0, .dat (.list (.int .i64)) x3295, .dat (.int .i64) x3296], [some (.seq (.int .u64) x3297)] => ⟨_, impl_fillYields x3295 x3296 x3297, fun (t : Int × (List Int)) => (.dat (.int .u64) t.1, [some (.seq (.int .u64) t.2)]), [], none⟩
  | _, _ => Ans.no

theorem impl_fillYields_sound : Sound Tryd.prog 43 F_impl_fillYields := by
  have e : F_impl_fillYields = F_impl_fillYields_fuel RR := by
    funext avs H
    unfold F_impl_fillYields F_impl_fillYields_fuel
    split <;> first | rfl | (simp only [impl_fillYields])
  rw [e]
  exact (impl_fillYields_knot_all RR)

/-! loop.example/headtrees/impl.yieldsOf -/

def impl_yieldsOf_an : Ann := (.seq (.leaf [0]) (.seq (.leaf [0, 3]) (.seq (.leaf [3]) (.seq (.leaf [2]) (.leaf [2])))))

noncomputable def impl_yieldsOf_ctx : Ctx := ⟨tlook tys, olook [(44, F_impl_RootOf), (43, F_impl_fillYields)], ioF, 0, false, []⟩

theorem impl_yieldsOf_n1_l (x3262 : List Int) : Link impl_yieldsOf_ctx LL (bodyOf Tryd.f27) impl_yieldsOf_an (⟨mkE 13 0 [(0, .dat (.list (.int .i64)) x3262)], []⟩ : St) (impl_yieldsOf_n1 x3262) (fun (t : (List Int)) => (Exit.ret, (⟨mkE 13 0 [(2, .slc 0)], [some (.seq (.int .u64) t)]⟩ : St))) := by
  refine Link.of fun K h => ?_
  simp only [impl_yieldsOf_n1, wpO_bind, wpO_cond, wpO_map, wpO_some] at h
  exact Awp.of (by kernel_rfl) h

theorem impl_yieldsOf_e (x3262 : List Int) {r : AV} {H' : Heap} (h : (Ans.mk _ (impl_yieldsOf x3262) (fun (t : (List Int)) => (.slc 0, [some (.seq (.int .u64) t)])) [] none).run = some (r, H')) : Awp impl_yieldsOf_ctx LL (bodyOf Tryd.f27) impl_yieldsOf_an (⟨mkE 13 0 [(0, .dat (.list (.int .i64)) x3262)], []⟩ : St) (Ret (tlook tys) Tryd.f27.results.toList r H') :=
  ret_of' (impl_yieldsOf_n1_l x3262) (by unfold impl_yieldsOf; kernel_rfl) (by
  intro t
  exact ret_mk [.slc 0] (by kernel_rfl) (by kernel_rfl) (by kernel_rfl) (by kernel_rfl)) h

def F_impl_yieldsOf : Fun := fun avs H =>
  match avs, H with
  | [.dat (.list (.int .i64)) x3262], [] => ⟨_, impl_yieldsOf x3262, fun (t : (List Int)) => (.slc 0, [some (.seq (.int .u64) t)]), [], none⟩
  | _, _ => Ans.no

theorem impl_yieldsOf_sound : Sound Tryd.prog 27 F_impl_yieldsOf := by
  refine fn_sound' (C := impl_yieldsOf_ctx) (c := bodyOf Tryd.f27) (cok_of tys_ok (List.forall_mem_cons.2 ⟨impl_RootOf_sound, List.forall_mem_cons.2 ⟨impl_fillYields_sound, by simp⟩⟩) (List.forall_mem_cons.2 ⟨Tryd.call44, List.forall_mem_cons.2 ⟨Tryd.call43, by simp⟩⟩) (by kernel_rfl)) Tryd.func27 (by kernel_rfl) LL impl_yieldsOf_an ?_
  intro avs H r H' h
  unfold F_impl_yieldsOf at h
  split at h
  · refine Awp.cast ?_ ?_ ?_ (impl_yieldsOf_e _ h) <;> kernel_rfl
  · simp [Ans.no, Ans.run] at h

/-! (loop.example/headtrees/impl.wordSet).isRow -/

def impl_wordSet_isRow_an : Ann := (.seq (.leaf [0]) (.seq (.leaf [0, 3]) (.seq (.leaf [2]) (.leaf [2]))))

noncomputable def impl_wordSet_isRow_ctx : Ctx := ⟨tlook tys, olook [], ioF, 0, false, []⟩

theorem impl_wordSet_isRow_n1_l (x3556 : Int) : Link impl_wordSet_isRow_ctx LL (bodyOf Tryd.f28) impl_wordSet_isRow_an (⟨mkE 14 0 [(0, .dat (.int .u64) x3556)], []⟩ : St) (impl_wordSet_isRow_n1 x3556) (fun (t : Bool) => (Exit.ret, (⟨mkE 14 0 [(2, .dat .bool t)], []⟩ : St))) := by
  refine Link.of fun K h => ?_
  simp only [impl_wordSet_isRow_n1, wpO_bind, wpO_cond, wpO_map, wpO_some] at h
  exact Awp.of (by kernel_rfl) h

theorem impl_wordSet_isRow_e (x3556 : Int) {r : AV} {H' : Heap} (h : (Ans.mk _ (impl_wordSet_isRow x3556) (fun (t : Bool) => (.dat .bool t, [])) [] none).run = some (r, H')) : Awp impl_wordSet_isRow_ctx LL (bodyOf Tryd.f28) impl_wordSet_isRow_an (⟨mkE 14 0 [(0, .dat (.int .u64) x3556)], []⟩ : St) (Ret (tlook tys) Tryd.f28.results.toList r H') :=
  ret_of' (impl_wordSet_isRow_n1_l x3556) (by unfold impl_wordSet_isRow; kernel_rfl) (by
  intro t
  exact ret_mk [.dat .bool t] (by kernel_rfl) (by kernel_rfl) (by kernel_rfl) (by kernel_rfl)) h

def F_impl_wordSet_isRow : Fun := fun avs H =>
  match avs, H with
  | [.dat (.int .u64) x3556], [] => ⟨_, impl_wordSet_isRow x3556, fun (t : Bool) => (.dat .bool t, []), [], none⟩
  | _, _ => Ans.no

theorem impl_wordSet_isRow_sound : Sound Tryd.prog 28 F_impl_wordSet_isRow := by
  refine fn_sound' (C := impl_wordSet_isRow_ctx) (c := bodyOf Tryd.f28) (cok_of tys_ok (by simp) (by simp) (by kernel_rfl)) Tryd.func28 (by kernel_rfl) LL impl_wordSet_isRow_an ?_
  intro avs H r H' h
  unfold F_impl_wordSet_isRow at h
  split at h
  · refine Awp.cast ?_ ?_ ?_ (impl_wordSet_isRow_e _ h) <;> kernel_rfl
  · simp [Ans.no, Ans.run] at h

/-! loop.example/headtrees/impl.FlatOk -/

def impl_FlatOk_an : Ann := (.seq (.leaf [0]) (.seq (.seq (.leaf [0, 7]) (.cond (.seq (.leaf [2]) (.leaf [2])) (.leaf [0]))) (.seq (.seq (.leaf [9, 10, 11]) (.block (.loop (.seq (.leaf [9, 10, 11, 12]) (.seq (.cond (.leaf [9, 10, 11]) (.leaf [])) (.seq (.block (.seq (.leaf [4, 9, 10, 11]) (.seq (.leaf [9, 10, 11, 17]) (.cond (.seq (.leaf [2]) (.leaf [2])) (.leaf [9, 10, 11]))))) (.leaf [9, 10, 11]))))))) (.seq (.leaf [2]) (.leaf [2])))))

noncomputable def impl_FlatOk_ctx : Ctx := ⟨tlook tys, olook [(23, F_impl_TreeOk), (27, F_impl_yieldsOf), (28, F_impl_wordSet_isRow)], ioF, 0, false, []⟩

theorem impl_FlatOk_n1_l (x3259 : List Int) : Link impl_FlatOk_ctx LL (Code.seq (Code.fst (bodyOf Tryd.f12)) (Code.fst (Code.snd (bodyOf Tryd.f12)))) (Ann.seq (Ann.fst impl_FlatOk_an) (Ann.fst (Ann.snd impl_FlatOk_an))) (⟨mkE 19 0 [(0, .dat (.list (.int .i64)) x3259)], []⟩ : St) (impl_FlatOk_n1 x3259) (Sum.elim (fun (t : Unit) => (Exit.normal, (⟨mkE 19 0 [(0, .dat (.list (.int .i64)) x3259)], []⟩ : St))) (fun (t : Bool) => (Exit.ret, (⟨mkE 19 0 [(2, .dat .bool t)], []⟩ : St)))) := by
  refine Link.of fun K h => ?_
  simp only [impl_FlatOk_n1, wpO_bind, wpO_cond, wpO_map, wpO_some] at h
  exact Awp.of (by kernel_rfl) h

theorem impl_FlatOk_n2_l (x3259 : List Int) : Link impl_FlatOk_ctx LL (Code.fst (Code.fst (Code.snd (Code.snd (bodyOf Tryd.f12))))) (Ann.fst (Ann.fst (Ann.snd (Ann.snd impl_FlatOk_an)))) (⟨mkE 19 0 [(0, .dat (.list (.int .i64)) x3259)], []⟩ : St) (impl_FlatOk_n2 x3259) (fun (t : Int × (List Int)) => (Exit.normal, (⟨mkE 19 0 [(9, .slc 0), (10, .dat (.int .i64) t.1), (11, .dat (.int .i64) 0)], [some (.seq (.int .u64) t.2)]⟩ : St))) := by
  refine Link.of fun K h => ?_
  simp only [impl_FlatOk_n2, wpO_bind, wpO_cond, wpO_map, wpO_some] at h
  exact Awp.of (by kernel_rfl) h

theorem impl_FlatOk_n3_l (x3550 : Int) (x3577 : Int) (x3549 : List Int) : Link impl_FlatOk_ctx LL (Code.fst (Code.fst (Code.snd (Code.fst (Code.snd (Code.snd (bodyOf Tryd.f12))))))) (Ann.fst (Ann.fst (Ann.snd (Ann.fst (Ann.snd (Ann.snd impl_FlatOk_an)))))) (⟨mkE 19 0 [(9, .slc 0), (10, .dat (.int .i64) x3550), (11, .dat (.int .i64) x3577)], [some (.seq (.int .u64) x3549)]⟩ : St) (impl_FlatOk_n3 x3550 x3577 x3549) (Sum.elim (fun (t : Int) => (Exit.normal, (⟨mkE 19 0 [(9, .slc 0), (10, .dat (.int .i64) x3550), (11, .dat (.int .i64) t)], [some (.seq (.int .u64) x3549)]⟩ : St))) (Sum.elim (fun (t : Bool) => (Exit.ret, (⟨mkE 19 0 [(2, .dat .bool t)], []⟩ : St))) (fun (t : Unit) => ((Exit.exit 0), (⟨mkE 19 0 [], []⟩ : St))))) := by
  refine Link.of fun K h => ?_
  simp only [impl_FlatOk_n3, wpO_bind, wpO_cond, wpO_map, wpO_some] at h
  exact Awp.of (by kernel_rfl) h

theorem impl_FlatOk_n4_l (x3550 : Int) (x3549 : List Int) : Link impl_FlatOk_ctx LL (Code.fst (Code.snd (Code.fst (Code.snd (Code.snd (bodyOf Tryd.f12)))))) (Ann.fst (Ann.snd (Ann.fst (Ann.snd (Ann.snd impl_FlatOk_an))))) (⟨mkE 19 0 [(9, .slc 0), (10, .dat (.int .i64) x3550), (11, .dat (.int .i64) 0)], [some (.seq (.int .u64) x3549)]⟩ : St) (impl_FlatOk_n4 x3550 x3549) (Sum.elim (fun (t : Bool) => (Exit.ret, (⟨mkE 19 0 [(2, .dat .bool t)], []⟩ : St))) (fun (t : Unit) => ((Exit.exit 0), (⟨mkE 19 0 [], []⟩ : St)))) := by
  unfold impl_FlatOk_n4
  exact Link.cast (by kernel_rfl) (by kernel_rfl) (link_loop (mk := fun (s : Int) => (⟨mkE 19 0 [(9, .slc 0), (10, .dat (.int .i64) x3550), (11, .dat (.int .i64) s)], [some (.seq (.int .u64) x3549)]⟩ : St)) (fin := (Sum.elim (fun (t : Bool) => (Exit.ret, (⟨mkE 19 0 [(2, .dat .bool t)], []⟩ : St))) (fun (t : Unit) => ((Exit.exit 0), (⟨mkE 19 0 [], []⟩ : St))))) (by
  rintro (t | t) f K h
  · exact h
  · exact h) (fun s => link_map (impl_FlatOk_n3_l x3550 s x3549) (Sum.elim (fun (t : Int) => Sum.inl t) (Sum.elim (fun (t : Bool) => Sum.inr (Sum.inl t)) (fun (t : Unit) => Sum.inr (Sum.inr t)))) (by
  rintro (t | t | t)
  · kernel_rfl
  · kernel_rfl
  · kernel_rfl)) 0)

theorem impl_FlatOk_n5_l (x3550 : Int) (x3549 : List Int) : Link impl_FlatOk_ctx LL (Code.snd (Code.fst (Code.snd (Code.snd (bodyOf Tryd.f12))))) (Ann.snd (Ann.fst (Ann.snd (Ann.snd impl_FlatOk_an)))) (⟨mkE 19 0 [(9, .slc 0), (10, .dat (.int .i64) x3550), (11, .dat (.int .i64) 0)], [some (.seq (.int .u64) x3549)]⟩ : St) (impl_FlatOk_n5 x3550 x3549) (Sum.elim (fun (t : Unit) => (Exit.normal, (⟨mkE 19 0 [], []⟩ : St))) (fun (t : Bool) => (Exit.ret, (⟨mkE 19 0 [(2, .dat .bool t)], []⟩ : St)))) := by
  unfold impl_FlatOk_n5
  exact Link.cast (by kernel_rfl) (by kernel_rfl) (link_block (id := 0) (impl_FlatOk_n4_l x3550 x3549) (Sum.elim (fun (t : Bool) => (Sum.inr t)) (fun (t : Unit) => (Sum.inl ()))) (by
  rintro (t | t) K h
  · exact Eq.mp (by kernel_rfl) h
  · exact Eq.mp (by kernel_rfl) h))

theorem impl_FlatOk_n6_l (x3259 : List Int) : Link impl_FlatOk_ctx LL (Code.fst (Code.snd (Code.snd (bodyOf Tryd.f12)))) (Ann.fst (Ann.snd (Ann.snd impl_FlatOk_an))) (⟨mkE 19 0 [(0, .dat (.list (.int .i64)) x3259)], []⟩ : St) (impl_FlatOk_n6 x3259) (Sum.elim (fun (t : Unit) => (Exit.normal, (⟨mkE 19 0 [], []⟩ : St))) (fun (t : Bool) => (Exit.ret, (⟨mkE 19 0 [(2, .dat .bool t)], []⟩ : St)))) := by
  unfold impl_FlatOk_n6
  exact Link.cast (by kernel_rfl) (by kernel_rfl) (link_seq (b := (Code.snd (Code.fst (Code.snd (Code.snd (bodyOf Tryd.f12)))))) (y := (Ann.snd (Ann.fst (Ann.snd (Ann.snd impl_FlatOk_an))))) (impl_FlatOk_n2_l x3259) (fun (t : Int × (List Int)) => (impl_FlatOk_n5_l t.1 t.2)))

theorem impl_FlatOk_n7_l : Link impl_FlatOk_ctx LL (Code.snd (Code.snd (Code.snd (bodyOf Tryd.f12)))) (Ann.snd (Ann.snd (Ann.snd impl_FlatOk_an))) (⟨mkE 19 0 [], []⟩ : St) (impl_FlatOk_n7) (fun (t : Bool) => (Exit.ret, (⟨mkE 19 0 [(2, .dat .bool t)], []⟩ : St))) := by
  refine Link.of fun K h => ?_
  simp only [impl_FlatOk_n7, wpO_bind, wpO_cond, wpO_map, wpO_some] at h
  exact Awp.of (by kernel_rfl) h

theorem impl_FlatOk_n8_l (x3259 : List Int) : Link impl_FlatOk_ctx LL (Code.snd (Code.snd (bodyOf Tryd.f12))) (Ann.snd (Ann.snd impl_FlatOk_an)) (⟨mkE 19 0 [(0, .dat (.list (.int .i64)) x3259)], []⟩ : St) (impl_FlatOk_n8 x3259) (fun (t : Bool) => (Exit.ret, (⟨mkE 19 0 [(2, .dat .bool t)], []⟩ : St))) := by
  unfold impl_FlatOk_n8
  exact Link.cast (by kernel_rfl) (by kernel_rfl) (link_seq2 (b := (Code.snd (Code.snd (Code.snd (bodyOf Tryd.f12))))) (y := (Ann.snd (Ann.snd (Ann.snd impl_FlatOk_an)))) (impl_FlatOk_n6_l x3259) (fun (t : Unit) => (impl_FlatOk_n7_l)) (fun (t : Bool) => t) (by
  rintro t
  · kernel_rfl) (by
  rintro t f K h
  · exact h))

theorem impl_FlatOk_n9_l (x3259 : List Int) : Link impl_FlatOk_ctx LL (bodyOf Tryd.f12) impl_FlatOk_an (⟨mkE 19 0 [(0, .dat (.list (.int .i64)) x3259)], []⟩ : St) (impl_FlatOk_n9 x3259) (fun (t : Bool) => (Exit.ret, (⟨mkE 19 0 [(2, .dat .bool t)], []⟩ : St))) := by
  unfold impl_FlatOk_n9
  exact Link.cast (by kernel_rfl) (by kernel_rfl) (link_group (c := (Code.fst (Code.snd (bodyOf Tryd.f12)))) (a := (Ann.fst (Ann.snd impl_FlatOk_an))) [(Code.fst (bodyOf Tryd.f12))] [(Ann.fst impl_FlatOk_an)] rfl (link_seq2 (b := (Code.snd (Code.snd (bodyOf Tryd.f12)))) (y := (Ann.snd (Ann.snd impl_FlatOk_an))) (impl_FlatOk_n1_l x3259) (fun (t : Unit) => (impl_FlatOk_n8_l x3259)) (fun (t : Bool) => t) (by
  rintro t
  · kernel_rfl) (by
  rintro t f K h
  · exact h)))

theorem impl_FlatOk_e (x3259 : List Int) {r : AV} {H' : Heap} (h : (Ans.mk _ (impl_FlatOk x3259) (fun (t : Bool) => (.dat .bool t, [])) [] none).run = some (r, H')) : Awp impl_FlatOk_ctx LL (bodyOf Tryd.f12) impl_FlatOk_an (⟨mkE 19 0 [(0, .dat (.list (.int .i64)) x3259)], []⟩ : St) (Ret (tlook tys) Tryd.f12.results.toList r H') :=
  ret_of' (impl_FlatOk_n9_l x3259) (by unfold impl_FlatOk; kernel_rfl) (by
  intro t
  exact ret_mk [.dat .bool t] (by kernel_rfl) (by kernel_rfl) (by kernel_rfl) (by kernel_rfl)) h

def F_impl_FlatOk : Fun := fun avs H =>
  match avs, H with
  | [.dat (.list (.int .i64)) x3259], [] => ⟨_, impl_FlatOk x3259, fun (t : Bool) => (.dat .bool t, []), [], none⟩
  | _, _ => Ans.no

theorem impl_FlatOk_sound : Sound Tryd.prog 12 F_impl_FlatOk := by
  refine fn_sound' (C := impl_FlatOk_ctx) (c := bodyOf Tryd.f12) (cok_of tys_ok (List.forall_mem_cons.2 ⟨impl_TreeOk_sound, List.forall_mem_cons.2 ⟨impl_yieldsOf_sound, List.forall_mem_cons.2 ⟨impl_wordSet_isRow_sound, by simp⟩⟩⟩) (List.forall_mem_cons.2 ⟨Tryd.call23, List.forall_mem_cons.2 ⟨Tryd.call27, List.forall_mem_cons.2 ⟨Tryd.call28, by simp⟩⟩⟩) (by kernel_rfl)) Tryd.func12 (by kernel_rfl) LL impl_FlatOk_an ?_
  intro avs H r H' h
  unfold F_impl_FlatOk at h
  split at h
  · refine Awp.cast ?_ ?_ ?_ (impl_FlatOk_e _ h) <;> kernel_rfl
  · simp [Ans.no, Ans.run] at h

/-! (*loop.example/headtrees/impl.stackMachine).ruleFor -/

def impl_stackMachine_ruleFor_an : Ann := (.seq (.leaf [2, 3]) (.seq (.leaf [2, 5]) (.seq (.leaf [4]) (.leaf [4]))))

noncomputable def impl_stackMachine_ruleFor_ctx : Ctx := ⟨tlook tys, olook [], ioF, 2, false, []⟩

theorem impl_stackMachine_ruleFor_n1_l (x3604 : List Int) (x3605 : Int) (x3606 : Int) (x3607 : List Int) : Link impl_stackMachine_ruleFor_ctx LL (bodyOf Tryd.f26) impl_stackMachine_ruleFor_an (⟨mkE 8 0 [(0, .ptr 0 0), (1, .dat (.list (.int .i64)) x3604)], [some (.box [.slc 1, .nils, .dat (.int .i64) x3605, .dat (.int .i64) x3606]), some (.seq (.int .i64) x3607)]⟩ : St) (impl_stackMachine_ruleFor_n1) (fun (t : Unit) => (Exit.ret, (⟨mkE 8 0 [(4, .fn 41 [] [.ptr 2 0, .ptr 3 0])], [some (.box [.slc 1, .nils, .dat (.int .i64) x3605, .dat (.int .i64) x3606]), some (.seq (.int .i64) x3607), some (.box [.ptr 0 0]), some (.box [.fn 39 [] [.ptr 4 0, .ptr 2 0]]), some (.box [.dat (.list (.int .i64)) x3604])]⟩ : St))) := by
  refine Link.of fun K h => ?_
  simp only [impl_stackMachine_ruleFor_n1, wpO_bind, wpO_cond, wpO_map, wpO_some] at h
  exact Awp.of (by kernel_rfl) h

theorem impl_stackMachine_ruleFor_e (x3604 : List Int) (x3605 : Int) (x3606 : Int) (x3607 : List Int) {r : AV} {H' : Heap} (h : (Ans.mk _ (impl_stackMachine_ruleFor x3604 x3605 x3606 x3607) (fun (t : Unit) => (.fn 41 [] [.ptr 2 0, .ptr 3 0], [some (.box [.slc 1, .nils, .dat (.int .i64) x3605, .dat (.int .i64) x3606]), some (.seq (.int .i64) x3607), some (.box [.ptr 0 0]), some (.box [.fn 39 [] [.ptr 4 0, .ptr 2 0]]), some (.box [.dat (.list (.int .i64)) x3604])])) [] none).run = some (r, H')) : Awp impl_stackMachine_ruleFor_ctx LL (bodyOf Tryd.f26) impl_stackMachine_ruleFor_an (⟨mkE 8 0 [(0, .ptr 0 0), (1, .dat (.list (.int .i64)) x3604)], [some (.box [.slc 1, .nils, .dat (.int .i64) x3605, .dat (.int .i64) x3606]), some (.seq (.int .i64) x3607)]⟩ : St) (Ret (tlook tys) Tryd.f26.results.toList r H') :=
  ret_of' (impl_stackMachine_ruleFor_n1_l x3604 x3605 x3606 x3607) (by unfold impl_stackMachine_ruleFor; kernel_rfl) (by
  intro t
  exact ret_mk [.fn 41 [] [.ptr 2 0, .ptr 3 0]] (by kernel_rfl) (by kernel_rfl) (by kernel_rfl) (by kernel_rfl)) h

def F_impl_stackMachine_ruleFor : Fun := fun avs H =>
  match avs, H with
  | [.ptr 0 0, .dat (.list (.int .i64)) x3604], [some (.box [.slc 1, .nils, .dat (.int .i64) x3605, .dat (.int .i64) x3606]), some (.seq (.int .i64) x3607)] => ⟨_, impl_stackMachine_ruleFor x3604 x3605 x3606 x3607, fun (t : Unit) => (.fn 41 [] [.ptr 2 0, .ptr 3 0], [some (.box [.slc 1, .nils, .dat (.int .i64) x3605, .dat (.int .i64) x3606]), some (.seq (.int .i64) x3607), some (.box [.ptr 0 0]), some (.box [.fn 39 [] [.ptr 4 0, .ptr 2 0]]), some (.box [.dat (.list (.int .i64)) x3604])]), [], none⟩
  | _, _ => Ans.no

theorem impl_stackMachine_ruleFor_sound : Sound Tryd.prog 26 F_impl_stackMachine_ruleFor := by
  refine fn_sound' (C := impl_stackMachine_ruleFor_ctx) (c := bodyOf Tryd.f26) (cok_of tys_ok (by simp) (by simp) (by kernel_rfl)) Tryd.func26 (by kernel_rfl) LL impl_stackMachine_ruleFor_an ?_
  intro avs H r H' h
  unfold F_impl_stackMachine_ruleFor at h
  split at h
  · refine Awp.cast ?_ ?_ ?_ (impl_stackMachine_ruleFor_e _ _ _ _ h) <;> kernel_rfl
  · simp [Ans.no, Ans.run] at h

/-! (*loop.example/headtrees/impl.stackMachine).ruleFor$1 -/

def impl_stackMachine_ruleFor_1_an : Ann := (.seq (.leaf [0, 1, 2, 3]) (.seq (.draw [10, 16] [0, 1, 2, 3, 4, 5, 6, 7, 8, 9, 11, 12, 13, 14, 15, 10, 16, 17, 18, 19] [] [6]) (.leaf [6])))

noncomputable def impl_stackMachine_ruleFor_1_ctx : Ctx := ⟨tlook tys, olook [(40, F_impl_dependents)], ioF, 5, false, []⟩

theorem impl_stackMachine_ruleFor_1_n1_l (x3640 : Int) (x3641 : Int) (x3642 : List Int) (x3643 : Int) (x3644 : Int) (x3645 : List Int) (x3646 : List Int) : Link impl_stackMachine_ruleFor_1_ctx LL (bodyOf Tryd.f39) impl_stackMachine_ruleFor_1_an (⟨mkE 26 0 [(0, .dat (.int .i64) x3640), (1, .dat (.int .i64) x3641), (2, .ptr 0 0), (3, .ptr 1 0)], [some (.box [.dat (.list (.int .i64)) x3642]), some (.box [.ptr 2 0]), some (.box [.slc 3, .slc 4, .dat (.int .i64) x3643, .dat (.int .i64) x3644]), some (.seq (.int .i64) x3645), some (.seq (.int .i64) x3646)]⟩ : St) (impl_stackMachine_ruleFor_1_n1 x3640 x3641 x3642 x3645) (fun (t : Bool) => (Exit.ret, (⟨mkE 26 0 [(6, .dat .bool t)], [some (.box [.dat (.list (.int .i64)) x3642]), some (.box [.ptr 2 0]), some (.box [.slc 3, .slc 4, .dat (.int .i64) x3643, .dat (.int .i64) x3644]), some (.seq (.int .i64) x3645), some (.seq (.int .i64) x3646)]⟩ : St))) := by
  refine Link.of fun K h => ?_
  simp only [impl_stackMachine_ruleFor_1_n1, wpO_bind, wpO_cond, wpO_map, wpO_some] at h
  exact Awp.of (by kernel_rfl) h

theorem impl_stackMachine_ruleFor_1_e (x3640 : Int) (x3641 : Int) (x3642 : List Int) (x3643 : Int) (x3644 : Int) (x3645 : List Int) (x3646 : List Int) {r : AV} {H' : Heap} (h : (Ans.mk _ (impl_stackMachine_ruleFor_1 x3640 x3641 x3642 x3643 x3644 x3645 x3646) (fun (t : Bool) => (.dat .bool t, [some (.box [.dat (.list (.int .i64)) x3642]), some (.box [.ptr 2 0]), some (.box [.slc 3, .slc 4, .dat (.int .i64) x3643, .dat (.int .i64) x3644]), some (.seq (.int .i64) x3645), some (.seq (.int .i64) x3646)])) [] none).run = some (r, H')) : Awp impl_stackMachine_ruleFor_1_ctx LL (bodyOf Tryd.f39) impl_stackMachine_ruleFor_1_an (⟨mkE 26 0 [(0, .dat (.int .i64) x3640), (1, .dat (.int .i64) x3641), (2, .ptr 0 0), (3, .ptr 1 0)], [some (.box [.dat (.list (.int .i64)) x3642]), some (.box [.ptr 2 0]), some (.box [.slc 3, .slc 4, .dat (.int .i64) x3643, .dat (.int .i64) x3644]), some (.seq (.int .i64) x3645), some (.seq (.int .i64) x3646)]⟩ : St) (Ret (tlook tys) Tryd.f39.results.toList r H') :=
  ret_of' (impl_stackMachine_ruleFor_1_n1_l x3640 x3641 x3642 x3643 x3644 x3645 x3646) (by unfold impl_stackMachine_ruleFor_1; kernel_rfl) (by
  intro t
  exact ret_mk [.dat .bool t] (by kernel_rfl) (by kernel_rfl) (by kernel_rfl) (by kernel_rfl)) h

def F_impl_stackMachine_ruleFor_1 : Fun := fun avs H =>
  match avs, H with
  | [.dat (.int .i64) x3640, .dat (.int .i64) x3641, .ptr 0 0, .ptr 1 0], [some (.box [.dat (.list (.int .i64)) x3642]), some (.box [.ptr 2 0]), some (.box [.slc 3, .slc 4, .dat (.int .i64) x3643, .dat (.int .i64) x3644]), some (.seq (.int .i64) x3645), some (.seq (.int .i64) x3646)] => ⟨_, impl_stackMachine_ruleFor_1 x3640 x3641 x3642 x3643 x3644 x3645 x3646, fun (t : Bool) => (.dat .bool t, [some (.box [.dat (.list (.int .i64)) x3642]), some (.box [.ptr 2 0]), some (.box [.slc 3, .slc 4, .dat (.int .i64) x3643, .dat (.int .i64) x3644]), some (.seq (.int .i64) x3645), some (.seq (.int .i64) x3646)]), [], none⟩
  | _, _ => Ans.no

theorem impl_stackMachine_ruleFor_1_sound : Sound Tryd.prog 39 F_impl_stackMachine_ruleFor_1 := by
  refine fn_sound' (C := impl_stackMachine_ruleFor_1_ctx) (c := bodyOf Tryd.f39) (cok_of tys_ok (List.forall_mem_cons.2 ⟨impl_dependents_sound, by simp⟩) (List.forall_mem_cons.2 ⟨Tryd.call40, by simp⟩) (by kernel_rfl)) Tryd.func39 (by kernel_rfl) LL impl_stackMachine_ruleFor_1_an ?_
  intro avs H r H' h
  unfold F_impl_stackMachine_ruleFor_1 at h
  split at h
  · refine Awp.cast ?_ ?_ ?_ (impl_stackMachine_ruleFor_1_e _ _ _ _ _ _ _ h) <;> kernel_rfl
  · simp [Ans.no, Ans.run] at h

/-! (*loop.example/headtrees/impl.stackMachine).ruleFor$2 -/

def impl_stackMachine_ruleFor_2_v2_an : Ann := (.seq (.leaf [0, 1]) (.seq (.leaf [1, 3, 4, 5]) (.seq (.block (.seq (.leaf [1, 3, 4, 5, 12]) (.cond (.seq (.leaf [2]) (.leaf [2])) (.seq (.leaf [20]) (.cond (.seq (.leaf [2]) (.leaf [2])) (.leaf [])))))) (.seq (.leaf [2]) (.leaf [2])))))

noncomputable def impl_stackMachine_ruleFor_2_v2_ctx : Ctx := ⟨tlook tys, olook [(42, F_impl_stackMachine_upperTwo), (39, F_impl_stackMachine_ruleFor_1)], ioF, 6, false, []⟩

theorem impl_stackMachine_ruleFor_2_v2_n1_l (x3771 : Int) (x3772 : Int) (x3773 : List Int) (x3774 : List Int) (x3775 : List Int) : Link impl_stackMachine_ruleFor_2_v2_ctx LL (bodyOf Tryd.f41) impl_stackMachine_ruleFor_2_v2_an (⟨mkE 28 0 [(0, .ptr 0 0), (1, .ptr 1 0)], [some (.box [.ptr 2 0]), some (.box [.fn 39 [] [.ptr 3 0, .ptr 0 0]]), some (.box [.slc 4, .slc 5, .dat (.int .i64) x3771, .dat (.int .i64) x3772]), some (.box [.dat (.list (.int .i64)) x3773]), some (.seq (.int .i64) x3774), some (.seq (.int .i64) x3775)]⟩ : St) (impl_stackMachine_ruleFor_2_v2_n1 x3771 x3772 x3773 x3774 x3775) (fun (t : Int) => (Exit.ret, (⟨mkE 28 0 [(2, .dat (.int .u8) t)], [some (.box [.ptr 2 0]), some (.box [.fn 39 [] [.ptr 3 0, .ptr 0 0]]), some (.box [.slc 4, .slc 5, .dat (.int .i64) x3771, .dat (.int .i64) x3772]), some (.box [.dat (.list (.int .i64)) x3773]), some (.seq (.int .i64) x3774), some (.seq (.int .i64) x3775)]⟩ : St))) := by
  refine Link.of fun K h => ?_
  simp only [impl_stackMachine_ruleFor_2_v2_n1, wpO_bind, wpO_cond, wpO_map, wpO_some] at h
  exact Awp.of (by kernel_rfl) h

theorem impl_stackMachine_ruleFor_2_v2_e (x3771 : Int) (x3772 : Int) (x3773 : List Int) (x3774 : List Int) (x3775 : List Int) {r : AV} {H' : Heap} (h : (Ans.mk _ (impl_stackMachine_ruleFor_2_v2 x3771 x3772 x3773 x3774 x3775) (fun (t : Int) => (.dat (.int .u8) t, [some (.box [.ptr 2 0]), some (.box [.fn 39 [] [.ptr 3 0, .ptr 0 0]]), some (.box [.slc 4, .slc 5, .dat (.int .i64) x3771, .dat (.int .i64) x3772]), some (.box [.dat (.list (.int .i64)) x3773]), some (.seq (.int .i64) x3774), some (.seq (.int .i64) x3775)])) [] none).run = some (r, H')) : Awp impl_stackMachine_ruleFor_2_v2_ctx LL (bodyOf Tryd.f41) impl_stackMachine_ruleFor_2_v2_an (⟨mkE 28 0 [(0, .ptr 0 0), (1, .ptr 1 0)], [some (.box [.ptr 2 0]), some (.box [.fn 39 [] [.ptr 3 0, .ptr 0 0]]), some (.box [.slc 4, .slc 5, .dat (.int .i64) x3771, .dat (.int .i64) x3772]), some (.box [.dat (.list (.int .i64)) x3773]), some (.seq (.int .i64) x3774), some (.seq (.int .i64) x3775)]⟩ : St) (Ret (tlook tys) Tryd.f41.results.toList r H') :=
  ret_of' (impl_stackMachine_ruleFor_2_v2_n1_l x3771 x3772 x3773 x3774 x3775) (by unfold impl_stackMachine_ruleFor_2_v2; kernel_rfl) (by
  intro t
  exact ret_mk [.dat (.int .u8) t] (by kernel_rfl) (by kernel_rfl) (by kernel_rfl) (by kernel_rfl)) h

def F_impl_stackMachine_ruleFor_2 : Fun := fun avs H =>
  match avs, H with
  | [.ptr 0 0, .ptr 1 0], [some (.box [.ptr 2 0]), some (.box [.fn 39 [] [.ptr 3 0, .ptr 0 0]]), some (.box [.slc 4, .slc 5, .dat (.int .i64) x3771, .dat (.int .i64) x3772]), some (.box [.dat (.list (.int .i64)) x3773]), some (.seq (.int .i64) x3774), some (.seq (.int .i64) x3775)] => ⟨_, impl_stackMachine_ruleFor_2_v2 x3771 x3772 x3773 x3774 x3775, fun (t : Int) => (.dat (.int .u8) t, [some (.box [.ptr 2 0]), some (.box [.fn 39 [] [.ptr 3 0, .ptr 0 0]]), some (.box [.slc 4, .slc 5, .dat (.int .i64) x3771, .dat (.int .i64) x3772]), some (.box [.dat (.list (.int .i64)) x3773]), some (.seq (.int .i64) x3774), some (.seq (.int .i64) x3775)]), [], none⟩
  | _, _ => Ans.no

theorem impl_stackMachine_ruleFor_2_sound : Sound Tryd.prog 41 F_impl_stackMachine_ruleFor_2 := by
  refine fn_sound' (C := impl_stackMachine_ruleFor_2_v2_ctx) (c := bodyOf Tryd.f41) (cok_of tys_ok (List.forall_mem_cons.2 ⟨impl_stackMachine_upperTwo_sound, List.forall_mem_cons.2 ⟨impl_stackMachine_ruleFor_1_sound, by simp⟩⟩) (List.forall_mem_cons.2 ⟨Tryd.call42, List.forall_mem_cons.2 ⟨Tryd.call39, by simp⟩⟩) (by kernel_rfl)) Tryd.func41 (by kernel_rfl) LL impl_stackMachine_ruleFor_2_v2_an ?_
  intro avs H r H' h
  unfold F_impl_stackMachine_ruleFor_2 at h
  split at h
  · refine Awp.cast ?_ ?_ ?_ (impl_stackMachine_ruleFor_2_v2_e _ _ _ _ _ h) <;> kernel_rfl
  · simp [Ans.no, Ans.run] at h

/-! loop.example/headtrees/impl.MovesFor -/

def impl_MovesFor_an : Ann := (.seq (.leaf [0]) (.seq (.seq (.leaf [0, 11]) (.cond (.seq (.leaf [2, 3]) (.leaf [2, 3])) (.leaf [0]))) (.seq (.leaf [0, 4, 5]) (.seq (.leaf [0, 4, 5, 6]) (.seq (.leaf [0, 4, 5, 6, 7]) (.seq (.seq (.leafF [⟨5, 4, false, some 1, some (.int .i64)⟩] [4, 5, 6, 7, 22, 23]) (.block (.loop (.seq (.leaf [4, 5, 6, 7, 22, 23, 24]) (.seq (.cond (.leaf [4, 5, 6, 7, 22, 23]) (.leaf [7])) (.seq (.block (.seq (.leaf [4, 5, 6, 7, 8, 22, 23]) (.seq (.leaf [4, 5, 6, 7, 8, 22, 23]) (.leaf [4, 5, 6, 7, 22, 23])))) (.leaf [4, 5, 6, 7, 22, 23]))))))) (.seq (.leafF [⟨1, 37, false, none, none⟩] [2, 3]) (.leaf [2, 3]))))))))

noncomputable def impl_MovesFor_ctx : Ctx := ⟨tlook tys, olook [(12, F_impl_FlatOk), (24, F_impl_newStackMachine), (25, F_impl_stackMoves), (26, F_impl_stackMachine_ruleFor), (41, F_impl_stackMachine_ruleFor_2), (36, F_impl_stackMachine_putNext), (37, F_impl_stackMachine_takeBelow), (38, F_impl_stackMachine_takeUpper)], ioF, 0, false, []⟩

theorem impl_MovesFor_n1_l (x3258 : List Int) : Link impl_MovesFor_ctx LL (Code.seq (Code.fst (bodyOf Tryd.f11)) (Code.seq (Code.fst (Code.snd (bodyOf Tryd.f11))) (Code.seq (Code.fst (Code.snd (Code.snd (bodyOf Tryd.f11)))) (Code.seq (Code.fst (Code.snd (Code.snd (Code.snd (bodyOf Tryd.f11))))) (Code.fst (Code.snd (Code.snd (Code.snd (Code.snd (bodyOf Tryd.f11)))))))))) (Ann.seq (Ann.fst impl_MovesFor_an) (Ann.seq (Ann.fst (Ann.snd impl_MovesFor_an)) (Ann.seq (Ann.fst (Ann.snd (Ann.snd impl_MovesFor_an))) (Ann.seq (Ann.fst (Ann.snd (Ann.snd (Ann.snd impl_MovesFor_an)))) (Ann.fst (Ann.snd (Ann.snd (Ann.snd (Ann.snd impl_MovesFor_an))))))))) (⟨mkE 39 0 [(0, .dat (.list (.int .i64)) x3258)], []⟩ : St) (impl_MovesFor_n1 x3258) (Sum.elim (fun (t : (List Int)) => (Exit.normal, (⟨mkE 39 0 [(0, .dat (.list (.int .i64)) x3258), (4, .ptr 0 0), (5, .fmap [(.int .u8 83, 36), (.int .u8 76, 37), (.int .u8 82, 38)]), (6, .fn 41 [] [.ptr 1 0, .ptr 2 0]), (7, .slc 3)], [some (.box [.slc 4, .nils, .dat (.int .i64) 0, .dat (.int .i64) 0]), some (.box [.ptr 0 0]), some (.box [.fn 39 [] [.ptr 5 0, .ptr 1 0]]), some (.seq (.int .u8) ([] : List Int)), some (.seq (.int .i64) t), some (.box [.dat (.list (.int .i64)) x3258])]⟩ : St))) (fun (t : ByteArray × Bool) => (Exit.ret, (⟨mkE 39 0 [(2, .dat .str t.1), (3, .dat .bool t.2)], []⟩ : St)))) := by
  refine Link.of fun K h => ?_
  simp only [impl_MovesFor_n1, wpO_bind, wpO_cond, wpO_map, wpO_some] at h
  exact Awp.of (by kernel_rfl) h

theorem impl_MovesFor_n2_l (x3258 : List Int) (x3963 : List Int) : Link impl_MovesFor_ctx LL (Code.fst (Code.fst (Code.snd (Code.snd (Code.snd (Code.snd (Code.snd (bodyOf Tryd.f11)))))))) (Ann.fst (Ann.fst (Ann.snd (Ann.snd (Ann.snd (Ann.snd (Ann.snd impl_MovesFor_an))))))) (⟨mkE 39 0 [(0, .dat (.list (.int .i64)) x3258), (4, .ptr 0 0), (5, .fmap [(.int .u8 83, 36), (.int .u8 76, 37), (.int .u8 82, 38)]), (6, .fn 41 [] [.ptr 1 0, .ptr 2 0]), (7, .slc 3)], [some (.box [.slc 4, .nils, .dat (.int .i64) 0, .dat (.int .i64) 0]), some (.box [.ptr 0 0]), some (.box [.fn 39 [] [.ptr 5 0, .ptr 1 0]]), some (.seq (.int .u8) ([] : List Int)), some (.seq (.int .i64) x3963), some (.box [.dat (.list (.int .i64)) x3258])]⟩ : St) (impl_MovesFor_n2 x3258) (fun (t : Int) => (Exit.normal, (⟨mkE 39 0 [(4, .ptr 0 0), (5, .fmap [(.int .u8 83, 36), (.int .u8 76, 37), (.int .u8 82, 38)]), (6, .fn 41 [] [.ptr 1 0, .ptr 2 0]), (7, .slc 3), (22, .dat (.int .i64) t), (23, .dat (.int .i64) 0)], [some (.box [.slc 4, .slc 5, .dat (.int .i64) 0, .dat (.int .i64) 0]), some (.box [.ptr 0 0]), some (.box [.fn 39 [] [.ptr 6 0, .ptr 1 0]]), some (.seq (.int .u8) ([] : List Int)), some (.seq (.int .i64) x3963), some (.seq (.int .i64) ([] : List Int)), some (.box [.dat (.list (.int .i64)) x3258])]⟩ : St))) := by
  refine Link.of fun K h => ?_
  simp only [impl_MovesFor_n2, wpO_bind, wpO_cond, wpO_map, wpO_some] at h
  exact Awp.of (by kernel_rfl) h

theorem impl_MovesFor_n3_l (x3968 : Int) (x4040 : Int) (x4041 : Int) (x4042 : Int) (x4043 : List Int) (x4044 : List Int) (x4045 : List Int) (x3258 : List Int) : Link impl_MovesFor_ctx LL (Code.fst (Code.fst (Code.snd (Code.fst (Code.snd (Code.snd (Code.snd (Code.snd (Code.snd (bodyOf Tryd.f11)))))))))) (Ann.fst (Ann.fst (Ann.snd (Ann.fst (Ann.snd (Ann.snd (Ann.snd (Ann.snd (Ann.snd impl_MovesFor_an))))))))) (⟨mkE 39 0 [(4, .ptr 0 0), (5, .fmap [(.int .u8 83, 36), (.int .u8 76, 37), (.int .u8 82, 38)]), (6, .fn 41 [] [.ptr 1 0, .ptr 2 0]), (7, .slc 3), (22, .dat (.int .i64) x3968), (23, .dat (.int .i64) x4040)], [some (.box [.slc 4, .slc 5, .dat (.int .i64) x4041, .dat (.int .i64) x4042]), some (.box [.ptr 0 0]), some (.box [.fn 39 [] [.ptr 6 0, .ptr 1 0]]), some (.seq (.int .u8) x4043), some (.seq (.int .i64) x4044), some (.seq (.int .i64) x4045), some (.box [.dat (.list (.int .i64)) x3258])]⟩ : St) (impl_MovesFor_n3 x3968 x4040 x4041 x4042 x4043 x4044 x4045 x3258) (Sum.elim (fun (t : Int × Int × Int × (List Int) × (List Int) × (List Int)) => (Exit.normal, (⟨mkE 39 0 [(4, .ptr 0 0), (5, .fmap [(.int .u8 83, 36), (.int .u8 76, 37), (.int .u8 82, 38)]), (6, .fn 41 [] [.ptr 1 0, .ptr 2 0]), (7, .slc 3), (22, .dat (.int .i64) x3968), (23, .dat (.int .i64) t.1)], [some (.box [.slc 4, .slc 5, .dat (.int .i64) t.2.1, .dat (.int .i64) t.2.2.1]), some (.box [.ptr 0 0]), some (.box [.fn 39 [] [.ptr 6 0, .ptr 1 0]]), some (.seq (.int .u8) t.2.2.2.1), some (.seq (.int .i64) t.2.2.2.2.1), some (.seq (.int .i64) t.2.2.2.2.2), some (.box [.dat (.list (.int .i64)) x3258])]⟩ : St))) (fun (t : (List Int)) => ((Exit.exit 0), (⟨mkE 39 0 [(7, .slc 0)], [some (.seq (.int .u8) t)]⟩ : St)))) := by
  refine Link.of fun K h => ?_
  simp only [impl_MovesFor_n3, wpO_bind, wpO_cond, wpO_map, wpO_some, wpO_none] at h
  exact Awp.of (by kernel_rfl) h

theorem impl_MovesFor_n4_l (x3968 : Int) (x3963 : List Int) (x3258 : List Int) : Link impl_MovesFor_ctx LL (Code.fst (Code.snd (Code.fst (Code.snd (Code.snd (Code.snd (Code.snd (Code.snd (bodyOf Tryd.f11))))))))) (Ann.fst (Ann.snd (Ann.fst (Ann.snd (Ann.snd (Ann.snd (Ann.snd (Ann.snd impl_MovesFor_an)))))))) (⟨mkE 39 0 [(4, .ptr 0 0), (5, .fmap [(.int .u8 83, 36), (.int .u8 76, 37), (.int .u8 82, 38)]), (6, .fn 41 [] [.ptr 1 0, .ptr 2 0]), (7, .slc 3), (22, .dat (.int .i64) x3968), (23, .dat (.int .i64) 0)], [some (.box [.slc 4, .slc 5, .dat (.int .i64) 0, .dat (.int .i64) 0]), some (.box [.ptr 0 0]), some (.box [.fn 39 [] [.ptr 6 0, .ptr 1 0]]), some (.seq (.int .u8) ([] : List Int)), some (.seq (.int .i64) x3963), some (.seq (.int .i64) ([] : List Int)), some (.box [.dat (.list (.int .i64)) x3258])]⟩ : St) (impl_MovesFor_n4 x3968 x3963 x3258) (fun (t : (List Int)) => ((Exit.exit 0), (⟨mkE 39 0 [(7, .slc 0)], [some (.seq (.int .u8) t)]⟩ : St))) := by
  unfold impl_MovesFor_n4
  exact Link.cast (by kernel_rfl) (by kernel_rfl) (link_loop (mk := fun (s : Int × Int × Int × (List Int) × (List Int) × (List Int)) => (⟨mkE 39 0 [(4, .ptr 0 0), (5, .fmap [(.int .u8 83, 36), (.int .u8 76, 37), (.int .u8 82, 38)]), (6, .fn 41 [] [.ptr 1 0, .ptr 2 0]), (7, .slc 3), (22, .dat (.int .i64) x3968), (23, .dat (.int .i64) s.1)], [some (.box [.slc 4, .slc 5, .dat (.int .i64) s.2.1, .dat (.int .i64) s.2.2.1]), some (.box [.ptr 0 0]), some (.box [.fn 39 [] [.ptr 6 0, .ptr 1 0]]), some (.seq (.int .u8) s.2.2.2.1), some (.seq (.int .i64) s.2.2.2.2.1), some (.seq (.int .i64) s.2.2.2.2.2), some (.box [.dat (.list (.int .i64)) x3258])]⟩ : St)) (fin := (fun (t : (List Int)) => ((Exit.exit 0), (⟨mkE 39 0 [(7, .slc 0)], [some (.seq (.int .u8) t)]⟩ : St)))) (by
  rintro t f K h
  · exact h) (fun s => link_map (impl_MovesFor_n3_l x3968 s.1 s.2.1 s.2.2.1 s.2.2.2.1 s.2.2.2.2.1 s.2.2.2.2.2 x3258) (Sum.elim (fun (t : Int × Int × Int × (List Int) × (List Int) × (List Int)) => Sum.inl (t.1, t.2.1, t.2.2.1, t.2.2.2.1, t.2.2.2.2.1, t.2.2.2.2.2)) (fun (t : (List Int)) => Sum.inr t)) (by
  rintro (t | t)
  · kernel_rfl
  · kernel_rfl)) (0, 0, 0, ([] : List Int), x3963, ([] : List Int)))

theorem impl_MovesFor_n5_l (x3968 : Int) (x3963 : List Int) (x3258 : List Int) : Link impl_MovesFor_ctx LL (Code.snd (Code.fst (Code.snd (Code.snd (Code.snd (Code.snd (Code.snd (bodyOf Tryd.f11)))))))) (Ann.snd (Ann.fst (Ann.snd (Ann.snd (Ann.snd (Ann.snd (Ann.snd impl_MovesFor_an))))))) (⟨mkE 39 0 [(4, .ptr 0 0), (5, .fmap [(.int .u8 83, 36), (.int .u8 76, 37), (.int .u8 82, 38)]), (6, .fn 41 [] [.ptr 1 0, .ptr 2 0]), (7, .slc 3), (22, .dat (.int .i64) x3968), (23, .dat (.int .i64) 0)], [some (.box [.slc 4, .slc 5, .dat (.int .i64) 0, .dat (.int .i64) 0]), some (.box [.ptr 0 0]), some (.box [.fn 39 [] [.ptr 6 0, .ptr 1 0]]), some (.seq (.int .u8) ([] : List Int)), some (.seq (.int .i64) x3963), some (.seq (.int .i64) ([] : List Int)), some (.box [.dat (.list (.int .i64)) x3258])]⟩ : St) (impl_MovesFor_n5 x3968 x3963 x3258) (fun (t : (List Int)) => (Exit.normal, (⟨mkE 39 0 [(7, .slc 0)], [some (.seq (.int .u8) t)]⟩ : St))) := by
  unfold impl_MovesFor_n5
  exact Link.cast (by kernel_rfl) (by kernel_rfl) (link_block (id := 0) (impl_MovesFor_n4_l x3968 x3963 x3258) (fun (t : (List Int)) => t) (by
  rintro t K h
  · exact Eq.mp (by kernel_rfl) h))

theorem impl_MovesFor_n6_l (x3258 : List Int) (x3963 : List Int) : Link impl_MovesFor_ctx LL (Code.fst (Code.snd (Code.snd (Code.snd (Code.snd (Code.snd (bodyOf Tryd.f11))))))) (Ann.fst (Ann.snd (Ann.snd (Ann.snd (Ann.snd (Ann.snd impl_MovesFor_an)))))) (⟨mkE 39 0 [(0, .dat (.list (.int .i64)) x3258), (4, .ptr 0 0), (5, .fmap [(.int .u8 83, 36), (.int .u8 76, 37), (.int .u8 82, 38)]), (6, .fn 41 [] [.ptr 1 0, .ptr 2 0]), (7, .slc 3)], [some (.box [.slc 4, .nils, .dat (.int .i64) 0, .dat (.int .i64) 0]), some (.box [.ptr 0 0]), some (.box [.fn 39 [] [.ptr 5 0, .ptr 1 0]]), some (.seq (.int .u8) ([] : List Int)), some (.seq (.int .i64) x3963), some (.box [.dat (.list (.int .i64)) x3258])]⟩ : St) (impl_MovesFor_n6 x3258 x3963) (fun (t : (List Int)) => (Exit.normal, (⟨mkE 39 0 [(7, .slc 0)], [some (.seq (.int .u8) t)]⟩ : St))) := by
  unfold impl_MovesFor_n6
  exact Link.cast (by kernel_rfl) (by kernel_rfl) (link_seq (b := (Code.snd (Code.fst (Code.snd (Code.snd (Code.snd (Code.snd (Code.snd (bodyOf Tryd.f11))))))))) (y := (Ann.snd (Ann.fst (Ann.snd (Ann.snd (Ann.snd (Ann.snd (Ann.snd impl_MovesFor_an)))))))) (impl_MovesFor_n2_l x3258 x3963) (fun (t : Int) => (impl_MovesFor_n5_l t x3963 x3258)))

theorem impl_MovesFor_n7_l (x4043 : List Int) : Link impl_MovesFor_ctx LL (Code.snd (Code.snd (Code.snd (Code.snd (Code.snd (Code.snd (bodyOf Tryd.f11))))))) (Ann.snd (Ann.snd (Ann.snd (Ann.snd (Ann.snd (Ann.snd impl_MovesFor_an)))))) (⟨mkE 39 0 [(7, .slc 0)], [some (.seq (.int .u8) x4043)]⟩ : St) (impl_MovesFor_n7 x4043) (fun (t : ByteArray × Bool) => (Exit.ret, (⟨mkE 39 0 [(2, .dat .str t.1), (3, .dat .bool t.2)], []⟩ : St))) := by
  refine Link.of fun K h => ?_
  simp only [impl_MovesFor_n7, wpO_bind, wpO_cond, wpO_map, wpO_some] at h
  exact Awp.of (by kernel_rfl) h

theorem impl_MovesFor_n8_l (x3258 : List Int) (x3963 : List Int) : Link impl_MovesFor_ctx LL (Code.snd (Code.snd (Code.snd (Code.snd (Code.snd (bodyOf Tryd.f11)))))) (Ann.snd (Ann.snd (Ann.snd (Ann.snd (Ann.snd impl_MovesFor_an))))) (⟨mkE 39 0 [(0, .dat (.list (.int .i64)) x3258), (4, .ptr 0 0), (5, .fmap [(.int .u8 83, 36), (.int .u8 76, 37), (.int .u8 82, 38)]), (6, .fn 41 [] [.ptr 1 0, .ptr 2 0]), (7, .slc 3)], [some (.box [.slc 4, .nils, .dat (.int .i64) 0, .dat (.int .i64) 0]), some (.box [.ptr 0 0]), some (.box [.fn 39 [] [.ptr 5 0, .ptr 1 0]]), some (.seq (.int .u8) ([] : List Int)), some (.seq (.int .i64) x3963), some (.box [.dat (.list (.int .i64)) x3258])]⟩ : St) (impl_MovesFor_n8 x3258 x3963) (fun (t : ByteArray × Bool) => (Exit.ret, (⟨mkE 39 0 [(2, .dat .str t.1), (3, .dat .bool t.2)], []⟩ : St))) := by
  unfold impl_MovesFor_n8
  exact Link.cast (by kernel_rfl) (by kernel_rfl) (link_seq (b := (Code.snd (Code.snd (Code.snd (Code.snd (Code.snd (Code.snd (bodyOf Tryd.f11)))))))) (y := (Ann.snd (Ann.snd (Ann.snd (Ann.snd (Ann.snd (Ann.snd impl_MovesFor_an))))))) (impl_MovesFor_n6_l x3258 x3963) (fun (t : (List Int)) => (impl_MovesFor_n7_l t)))

theorem impl_MovesFor_n9_l (x3258 : List Int) : Link impl_MovesFor_ctx LL (bodyOf Tryd.f11) impl_MovesFor_an (⟨mkE 39 0 [(0, .dat (.list (.int .i64)) x3258)], []⟩ : St) (impl_MovesFor_n9 x3258) (fun (t : ByteArray × Bool) => (Exit.ret, (⟨mkE 39 0 [(2, .dat .str t.1), (3, .dat .bool t.2)], []⟩ : St))) := by
  unfold impl_MovesFor_n9
  exact Link.cast (by kernel_rfl) (by kernel_rfl) (link_group (c := (Code.fst (Code.snd (Code.snd (Code.snd (Code.snd (bodyOf Tryd.f11))))))) (a := (Ann.fst (Ann.snd (Ann.snd (Ann.snd (Ann.snd impl_MovesFor_an)))))) [(Code.fst (bodyOf Tryd.f11)), (Code.fst (Code.snd (bodyOf Tryd.f11))), (Code.fst (Code.snd (Code.snd (bodyOf Tryd.f11)))), (Code.fst (Code.snd (Code.snd (Code.snd (bodyOf Tryd.f11)))))] [(Ann.fst impl_MovesFor_an), (Ann.fst (Ann.snd impl_MovesFor_an)), (Ann.fst (Ann.snd (Ann.snd impl_MovesFor_an))), (Ann.fst (Ann.snd (Ann.snd (Ann.snd impl_MovesFor_an))))] rfl (link_seq2 (b := (Code.snd (Code.snd (Code.snd (Code.snd (Code.snd (bodyOf Tryd.f11))))))) (y := (Ann.snd (Ann.snd (Ann.snd (Ann.snd (Ann.snd impl_MovesFor_an)))))) (impl_MovesFor_n1_l x3258) (fun (t : (List Int)) => (impl_MovesFor_n8_l x3258 t)) (fun (t : ByteArray × Bool) => t) (by
  rintro t
  · kernel_rfl) (by
  rintro t f K h
  · exact h)))

theorem impl_MovesFor_e (x3258 : List Int) {r : AV} {H' : Heap} (h : (Ans.mk _ (impl_MovesFor x3258) (fun (t : ByteArray × Bool) => (.tup [.dat .str t.1, .dat .bool t.2], [])) [] none).run = some (r, H')) : Awp impl_MovesFor_ctx LL (bodyOf Tryd.f11) impl_MovesFor_an (⟨mkE 39 0 [(0, .dat (.list (.int .i64)) x3258)], []⟩ : St) (Ret (tlook tys) Tryd.f11.results.toList r H') :=
  ret_of' (impl_MovesFor_n9_l x3258) (by unfold impl_MovesFor; kernel_rfl) (by
  intro t
  exact ret_mk [.dat .str t.1, .dat .bool t.2] (by kernel_rfl) (by kernel_rfl) (by kernel_rfl) (by kernel_rfl)) h

def F_impl_MovesFor : Fun := fun avs H =>
  match avs, H with
  | [.dat (.list (.int .i64)) x3258], [] => ⟨_, impl_MovesFor x3258, fun (t : ByteArray × Bool) => (.tup [.dat .str t.1, .dat .bool t.2], []), [], none⟩
  | _, _ => Ans.no

theorem impl_MovesFor_sound : Sound Tryd.prog 11 F_impl_MovesFor := by
  refine fn_sound' (C := impl_MovesFor_ctx) (c := bodyOf Tryd.f11) (cok_of tys_ok (List.forall_mem_cons.2 ⟨impl_FlatOk_sound, List.forall_mem_cons.2 ⟨impl_newStackMachine_sound, List.forall_mem_cons.2 ⟨impl_stackMoves_sound, List.forall_mem_cons.2 ⟨impl_stackMachine_ruleFor_sound, List.forall_mem_cons.2 ⟨impl_stackMachine_ruleFor_2_sound, List.forall_mem_cons.2 ⟨impl_stackMachine_putNext_sound, List.forall_mem_cons.2 ⟨impl_stackMachine_takeBelow_sound, List.forall_mem_cons.2 ⟨impl_stackMachine_takeUpper_sound, by simp⟩⟩⟩⟩⟩⟩⟩⟩) (List.forall_mem_cons.2 ⟨Tryd.call12, List.forall_mem_cons.2 ⟨Tryd.call24, List.forall_mem_cons.2 ⟨Tryd.call25, List.forall_mem_cons.2 ⟨Tryd.call26, List.forall_mem_cons.2 ⟨Tryd.call41, List.forall_mem_cons.2 ⟨Tryd.call36, List.forall_mem_cons.2 ⟨Tryd.call37, List.forall_mem_cons.2 ⟨Tryd.call38, by simp⟩⟩⟩⟩⟩⟩⟩⟩) (by kernel_rfl)) Tryd.func11 (by kernel_rfl) LL impl_MovesFor_an ?_
  intro avs H r H' h
  unfold F_impl_MovesFor at h
  split at h
  · refine Awp.cast ?_ ?_ ?_ (impl_MovesFor_e _ h) <;> kernel_rfl
  · simp [Ans.no, Ans.run] at h

/-! loop.example/headtrees/laws.FnRunStack -/

def laws_FnRunStack_an : Ann := (.seq (.leaf [0]) (.seq (.seq (.leaf [0, 15]) (.cond (.seq (.leaf [2]) (.leaf [2])) (.leaf [0]))) (.seq (.leaf [3, 4]) (.seq (.leaf [3, 4, 5, 6]) (.seq (.leaf [3, 4, 5, 6, 7, 8]) (.seq (.seq (.leaf [3, 4, 5, 6, 41]) (.cond (.seq (.leaf [2]) (.leaf [2])) (.leaf [3, 4, 5, 6]))) (.seq (.seq (.leaf [3, 4, 5, 43]) (.cond (.seq (.leaf [2]) (.leaf [2])) (.leaf [3, 4, 5]))) (.seq (.leaf [3, 4, 5, 9, 10]) (.seq (.leaf [3, 4, 5, 10, 11, 12]) (.seq (.leaf [2]) (.leaf [2])))))))))))

noncomputable def laws_FnRunStack_ctx : Ctx := ⟨tlook tys, olook [(6, F_spec_DrawRunStack), (7, F_impl_RunStack), (8, F_spec_RunStack), (9, F_laws_sameInts), (10, F_laws_alive), (11, F_impl_MovesFor), (12, F_impl_FlatOk)], ioF, 0, false, []⟩

theorem laws_FnRunStack_n1_l (x2 : List Int) : Link laws_FnRunStack_ctx LL (bodyOf Tryd.f3) laws_FnRunStack_an (⟨mkE 82 0 [(0, .dat (.list (.int .u8)) x2)], []⟩ : St) (laws_FnRunStack_n1 x2) (fun (t : Bool) => (Exit.ret, (⟨mkE 82 0 [(2, .dat .bool t)], []⟩ : St))) := by
  refine Link.of fun K h => ?_
  simp only [laws_FnRunStack_n1, wpO_bind, wpO_cond, wpO_map, wpO_some] at h
  exact Awp.of (by kernel_rfl) h

theorem laws_FnRunStack_e (x2 : List Int) {r : AV} {H' : Heap} (h : (Ans.mk _ (laws_FnRunStack x2) (fun (t : Bool) => (.dat .bool t, [])) [] none).run = some (r, H')) : Awp laws_FnRunStack_ctx LL (bodyOf Tryd.f3) laws_FnRunStack_an (⟨mkE 82 0 [(0, .dat (.list (.int .u8)) x2)], []⟩ : St) (Ret (tlook tys) Tryd.f3.results.toList r H') :=
  ret_of' (laws_FnRunStack_n1_l x2) (by unfold laws_FnRunStack; kernel_rfl) (by
  intro t
  exact ret_mk [.dat .bool t] (by kernel_rfl) (by kernel_rfl) (by kernel_rfl) (by kernel_rfl)) h

def F_laws_FnRunStack : Fun := fun avs H =>
  match avs, H with
  | [.dat (.list (.int .u8)) x2], [] => ⟨_, laws_FnRunStack x2, fun (t : Bool) => (.dat .bool t, []), [], none⟩
  | _, _ => Ans.no

theorem laws_FnRunStack_sound : Sound Tryd.prog 3 F_laws_FnRunStack := by
  refine fn_sound' (C := laws_FnRunStack_ctx) (c := bodyOf Tryd.f3) (cok_of tys_ok (List.forall_mem_cons.2 ⟨spec_DrawRunStack_sound, List.forall_mem_cons.2 ⟨impl_RunStack_sound, List.forall_mem_cons.2 ⟨spec_RunStack_sound, List.forall_mem_cons.2 ⟨laws_sameInts_sound, List.forall_mem_cons.2 ⟨laws_alive_sound, List.forall_mem_cons.2 ⟨impl_MovesFor_sound, List.forall_mem_cons.2 ⟨impl_FlatOk_sound, by simp⟩⟩⟩⟩⟩⟩⟩) (List.forall_mem_cons.2 ⟨Tryd.call6, List.forall_mem_cons.2 ⟨Tryd.call7, List.forall_mem_cons.2 ⟨Tryd.call8, List.forall_mem_cons.2 ⟨Tryd.call9, List.forall_mem_cons.2 ⟨Tryd.call10, List.forall_mem_cons.2 ⟨Tryd.call11, List.forall_mem_cons.2 ⟨Tryd.call12, by simp⟩⟩⟩⟩⟩⟩⟩) (by kernel_rfl)) Tryd.func3 (by kernel_rfl) LL laws_FnRunStack_an ?_
  intro avs H r H' h
  unfold F_laws_FnRunStack at h
  split at h
  · refine Awp.cast ?_ ?_ ?_ (laws_FnRunStack_e _ h) <;> kernel_rfl
  · simp [Ans.no, Ans.run] at h

/-! loop.example/headtrees/spec.l20Order -/

def spec_l20Order_an : Ann := (.seq (.leaf [0, 1]) (.seq (.leaf [0, 1, 5]) (.seq (.leaf [0, 1, 5, 6]) (.seq (.seq (.leaf [0, 1, 5, 6, 7]) (.block (.loop (.seq (.seq (.leaf [0, 1, 5, 6, 7, 15]) (.cond (.leaf [0, 1, 5, 6, 7]) (.leaf [5]))) (.seq (.block (.seq (.leaf [0, 1, 5, 6, 7, 8]) (.seq (.seq (.leaf [0, 1, 5, 6, 7, 8, 26]) (.cond (.leaf [0, 1, 5, 6, 7, 8]) (.leaf [0, 1, 5, 6, 7, 8]))) (.seq (.leaf [0, 1, 5, 6, 7, 8, 9]) (.seq (.leaf [0, 1, 5, 6, 7, 8, 9]) (.leaf [0, 1, 5, 6, 7])))))) (.leaf [0, 1, 5, 6, 7])))))) (.seq (.leaf [4]) (.leaf [4]))))))

noncomputable def spec_l20Order_ctx : Ctx := ⟨tlook tys, olook [(18, F_spec_l20Rd_pick)], ioF, 1, false, []⟩

theorem spec_l20Order_n1_l (x4236 : Int) (x4237 : List Int) (x4238 : Int) : Link spec_l20Order_ctx LL (Code.seq (Code.fst (bodyOf Tryd.f54)) (Code.seq (Code.fst (Code.snd (bodyOf Tryd.f54))) (Code.fst (Code.snd (Code.snd (bodyOf Tryd.f54)))))) (Ann.seq (Ann.fst spec_l20Order_an) (Ann.seq (Ann.fst (Ann.snd spec_l20Order_an)) (Ann.fst (Ann.snd (Ann.snd spec_l20Order_an))))) (⟨mkE 45 0 [(0, .ptr 0 0), (1, .dat (.int .i64) x4236)], [some (.box [.dat (.list (.int .u8)) x4237, .dat (.int .i64) x4238])]⟩ : St) (spec_l20Order_n1 x4237 x4238) (fun (t : Int × Int) => (Exit.normal, (⟨mkE 45 0 [(0, .ptr 0 0), (1, .dat (.int .i64) x4236), (5, .slc 1), (6, .dat (.int .i64) t.1)], [some (.box [.dat (.list (.int .u8)) x4237, .dat (.int .i64) t.2]), some (.seq (.int .i64) ([] : List Int))]⟩ : St))) := by
  refine Link.of fun K h => ?_
  simp only [spec_l20Order_n1, wpO_bind, wpO_cond, wpO_map, wpO_some] at h
  exact Awp.of (by kernel_rfl) h

theorem spec_l20Order_n2_l (x4236 : Int) (x4240 : Int) (x4237 : List Int) (x4241 : Int) : Link spec_l20Order_ctx LL (Code.fst (Code.fst (Code.snd (Code.snd (Code.snd (bodyOf Tryd.f54)))))) (Ann.fst (Ann.fst (Ann.snd (Ann.snd (Ann.snd spec_l20Order_an))))) (⟨mkE 45 0 [(0, .ptr 0 0), (1, .dat (.int .i64) x4236), (5, .slc 1), (6, .dat (.int .i64) x4240)], [some (.box [.dat (.list (.int .u8)) x4237, .dat (.int .i64) x4241]), some (.seq (.int .i64) ([] : List Int))]⟩ : St) (spec_l20Order_n2) (fun (t : Unit) => (Exit.normal, (⟨mkE 45 0 [(0, .ptr 0 0), (1, .dat (.int .i64) x4236), (5, .slc 1), (6, .dat (.int .i64) x4240), (7, .dat (.int .i64) 1)], [some (.box [.dat (.list (.int .u8)) x4237, .dat (.int .i64) x4241]), some (.seq (.int .i64) ([] : List Int))]⟩ : St))) := by
  refine Link.of fun K h => ?_
  simp only [spec_l20Order_n2, wpO_bind, wpO_cond, wpO_map, wpO_some] at h
  exact Awp.of (by kernel_rfl) h

theorem spec_l20Order_n3_l (x4236 : Int) (x4240 : Int) (x4383 : Int) (x4237 : List Int) (x4384 : Int) (x4385 : List Int) : Link spec_l20Order_ctx LL (Code.fst (Code.fst (Code.snd (Code.fst (Code.snd (Code.snd (Code.snd (bodyOf Tryd.f54)))))))) (Ann.fst (Ann.fst (Ann.snd (Ann.fst (Ann.snd (Ann.snd (Ann.snd spec_l20Order_an))))))) (⟨mkE 45 0 [(0, .ptr 0 0), (1, .dat (.int .i64) x4236), (5, .slc 1), (6, .dat (.int .i64) x4240), (7, .dat (.int .i64) x4383)], [some (.box [.dat (.list (.int .u8)) x4237, .dat (.int .i64) x4384]), some (.seq (.int .i64) x4385)]⟩ : St) (spec_l20Order_n3 x4236 x4240 x4383 x4237 x4384 x4385) (Sum.elim (fun (t : Int × Int × (List Int)) => (Exit.normal, (⟨mkE 45 0 [(0, .ptr 0 0), (1, .dat (.int .i64) x4236), (5, .slc 1), (6, .dat (.int .i64) x4240), (7, .dat (.int .i64) t.1)], [some (.box [.dat (.list (.int .u8)) x4237, .dat (.int .i64) t.2.1]), some (.seq (.int .i64) t.2.2)]⟩ : St))) (fun (t : Int × (List Int)) => ((Exit.exit 0), (⟨mkE 45 0 [(5, .slc 1)], [some (.box [.dat (.list (.int .u8)) x4237, .dat (.int .i64) t.1]), some (.seq (.int .i64) t.2)]⟩ : St)))) := by
  refine Link.of fun K h => ?_
  simp only [spec_l20Order_n3, wpO_bind, wpO_cond, wpO_map, wpO_some] at h
  exact Awp.of (by kernel_rfl) h

theorem spec_l20Order_n4_l (x4236 : Int) (x4240 : Int) (x4237 : List Int) (x4241 : Int) : Link spec_l20Order_ctx LL (Code.fst (Code.snd (Code.fst (Code.snd (Code.snd (Code.snd (bodyOf Tryd.f54))))))) (Ann.fst (Ann.snd (Ann.fst (Ann.snd (Ann.snd (Ann.snd spec_l20Order_an)))))) (⟨mkE 45 0 [(0, .ptr 0 0), (1, .dat (.int .i64) x4236), (5, .slc 1), (6, .dat (.int .i64) x4240), (7, .dat (.int .i64) 1)], [some (.box [.dat (.list (.int .u8)) x4237, .dat (.int .i64) x4241]), some (.seq (.int .i64) ([] : List Int))]⟩ : St) (spec_l20Order_n4 x4236 x4240 x4237 x4241) (fun (t : Int × (List Int)) => ((Exit.exit 0), (⟨mkE 45 0 [(5, .slc 1)], [some (.box [.dat (.list (.int .u8)) x4237, .dat (.int .i64) t.1]), some (.seq (.int .i64) t.2)]⟩ : St))) := by
  unfold spec_l20Order_n4
  exact Link.cast (by kernel_rfl) (by kernel_rfl) (link_loop (mk := fun (s : Int × Int × (List Int)) => (⟨mkE 45 0 [(0, .ptr 0 0), (1, .dat (.int .i64) x4236), (5, .slc 1), (6, .dat (.int .i64) x4240), (7, .dat (.int .i64) s.1)], [some (.box [.dat (.list (.int .u8)) x4237, .dat (.int .i64) s.2.1]), some (.seq (.int .i64) s.2.2)]⟩ : St)) (fin := (fun (t : Int × (List Int)) => ((Exit.exit 0), (⟨mkE 45 0 [(5, .slc 1)], [some (.box [.dat (.list (.int .u8)) x4237, .dat (.int .i64) t.1]), some (.seq (.int .i64) t.2)]⟩ : St)))) (by
  rintro t f K h
  · exact h) (fun s => link_map (spec_l20Order_n3_l x4236 x4240 s.1 x4237 s.2.1 s.2.2) (Sum.elim (fun (t : Int × Int × (List Int)) => Sum.inl (t.1, t.2.1, t.2.2)) (fun (t : Int × (List Int)) => Sum.inr t)) (by
  rintro (t | t)
  · kernel_rfl
  · kernel_rfl)) (1, x4241, ([] : List Int)))

theorem spec_l20Order_n5_l (x4236 : Int) (x4240 : Int) (x4237 : List Int) (x4241 : Int) : Link spec_l20Order_ctx LL (Code.snd (Code.fst (Code.snd (Code.snd (Code.snd (bodyOf Tryd.f54)))))) (Ann.snd (Ann.fst (Ann.snd (Ann.snd (Ann.snd spec_l20Order_an))))) (⟨mkE 45 0 [(0, .ptr 0 0), (1, .dat (.int .i64) x4236), (5, .slc 1), (6, .dat (.int .i64) x4240), (7, .dat (.int .i64) 1)], [some (.box [.dat (.list (.int .u8)) x4237, .dat (.int .i64) x4241]), some (.seq (.int .i64) ([] : List Int))]⟩ : St) (spec_l20Order_n5 x4236 x4240 x4237 x4241) (fun (t : Int × (List Int)) => (Exit.normal, (⟨mkE 45 0 [(5, .slc 1)], [some (.box [.dat (.list (.int .u8)) x4237, .dat (.int .i64) t.1]), some (.seq (.int .i64) t.2)]⟩ : St))) := by
  unfold spec_l20Order_n5
  exact Link.cast (by kernel_rfl) (by kernel_rfl) (link_block (id := 0) (spec_l20Order_n4_l x4236 x4240 x4237 x4241) (fun (t : Int × (List Int)) => (t.1, t.2)) (by
  rintro t K h
  · exact Eq.mp (by kernel_rfl) h))

theorem spec_l20Order_n6_l (x4236 : Int) (x4240 : Int) (x4237 : List Int) (x4241 : Int) : Link spec_l20Order_ctx LL (Code.fst (Code.snd (Code.snd (Code.snd (bodyOf Tryd.f54))))) (Ann.fst (Ann.snd (Ann.snd (Ann.snd spec_l20Order_an)))) (⟨mkE 45 0 [(0, .ptr 0 0), (1, .dat (.int .i64) x4236), (5, .slc 1), (6, .dat (.int .i64) x4240)], [some (.box [.dat (.list (.int .u8)) x4237, .dat (.int .i64) x4241]), some (.seq (.int .i64) ([] : List Int))]⟩ : St) (spec_l20Order_n6 x4236 x4240 x4237 x4241) (fun (t : Int × (List Int)) => (Exit.normal, (⟨mkE 45 0 [(5, .slc 1)], [some (.box [.dat (.list (.int .u8)) x4237, .dat (.int .i64) t.1]), some (.seq (.int .i64) t.2)]⟩ : St))) := by
  unfold spec_l20Order_n6
  exact Link.cast (by kernel_rfl) (by kernel_rfl) (link_seq (b := (Code.snd (Code.fst (Code.snd (Code.snd (Code.snd (bodyOf Tryd.f54))))))) (y := (Ann.snd (Ann.fst (Ann.snd (Ann.snd (Ann.snd spec_l20Order_an)))))) (spec_l20Order_n2_l x4236 x4240 x4237 x4241) (fun (t : Unit) => (spec_l20Order_n5_l x4236 x4240 x4237 x4241)))

theorem spec_l20Order_n7_l (x4237 : List Int) (x4384 : Int) (x4385 : List Int) : Link spec_l20Order_ctx LL (Code.snd (Code.snd (Code.snd (Code.snd (bodyOf Tryd.f54))))) (Ann.snd (Ann.snd (Ann.snd (Ann.snd spec_l20Order_an)))) (⟨mkE 45 0 [(5, .slc 1)], [some (.box [.dat (.list (.int .u8)) x4237, .dat (.int .i64) x4384]), some (.seq (.int .i64) x4385)]⟩ : St) (spec_l20Order_n7 x4384 x4385) (fun (t : Int × (List Int)) => (Exit.ret, (⟨mkE 45 0 [(4, .slc 1)], [some (.box [.dat (.list (.int .u8)) x4237, .dat (.int .i64) t.1]), some (.seq (.int .i64) t.2)]⟩ : St))) := by
  refine Link.of fun K h => ?_
  simp only [spec_l20Order_n7, wpO_bind, wpO_cond, wpO_map, wpO_some] at h
  exact Awp.of (by kernel_rfl) h

theorem spec_l20Order_n8_l (x4236 : Int) (x4240 : Int) (x4237 : List Int) (x4241 : Int) : Link spec_l20Order_ctx LL (Code.snd (Code.snd (Code.snd (bodyOf Tryd.f54)))) (Ann.snd (Ann.snd (Ann.snd spec_l20Order_an))) (⟨mkE 45 0 [(0, .ptr 0 0), (1, .dat (.int .i64) x4236), (5, .slc 1), (6, .dat (.int .i64) x4240)], [some (.box [.dat (.list (.int .u8)) x4237, .dat (.int .i64) x4241]), some (.seq (.int .i64) ([] : List Int))]⟩ : St) (spec_l20Order_n8 x4236 x4240 x4237 x4241) (fun (t : Int × (List Int)) => (Exit.ret, (⟨mkE 45 0 [(4, .slc 1)], [some (.box [.dat (.list (.int .u8)) x4237, .dat (.int .i64) t.1]), some (.seq (.int .i64) t.2)]⟩ : St))) := by
  unfold spec_l20Order_n8
  exact Link.cast (by kernel_rfl) (by kernel_rfl) (link_seq (b := (Code.snd (Code.snd (Code.snd (Code.snd (bodyOf Tryd.f54)))))) (y := (Ann.snd (Ann.snd (Ann.snd (Ann.snd spec_l20Order_an))))) (spec_l20Order_n6_l x4236 x4240 x4237 x4241) (fun (t : Int × (List Int)) => (spec_l20Order_n7_l x4237 t.1 t.2)))

theorem spec_l20Order_n9_l (x4236 : Int) (x4237 : List Int) (x4238 : Int) : Link spec_l20Order_ctx LL (bodyOf Tryd.f54) spec_l20Order_an (⟨mkE 45 0 [(0, .ptr 0 0), (1, .dat (.int .i64) x4236)], [some (.box [.dat (.list (.int .u8)) x4237, .dat (.int .i64) x4238])]⟩ : St) (spec_l20Order_n9 x4236 x4237 x4238) (fun (t : Int × (List Int)) => (Exit.ret, (⟨mkE 45 0 [(4, .slc 1)], [some (.box [.dat (.list (.int .u8)) x4237, .dat (.int .i64) t.1]), some (.seq (.int .i64) t.2)]⟩ : St))) := by
  unfold spec_l20Order_n9
  exact Link.cast (by kernel_rfl) (by kernel_rfl) (link_group (c := (Code.fst (Code.snd (Code.snd (bodyOf Tryd.f54))))) (a := (Ann.fst (Ann.snd (Ann.snd spec_l20Order_an)))) [(Code.fst (bodyOf Tryd.f54)), (Code.fst (Code.snd (bodyOf Tryd.f54)))] [(Ann.fst spec_l20Order_an), (Ann.fst (Ann.snd spec_l20Order_an))] rfl (link_seq (b := (Code.snd (Code.snd (Code.snd (bodyOf Tryd.f54))))) (y := (Ann.snd (Ann.snd (Ann.snd spec_l20Order_an)))) (spec_l20Order_n1_l x4236 x4237 x4238) (fun (t : Int × Int) => (spec_l20Order_n8_l x4236 t.1 x4237 t.2))))

theorem spec_l20Order_e (x4236 : Int) (x4237 : List Int) (x4238 : Int) {r : AV} {H' : Heap} (h : (Ans.mk _ (spec_l20Order x4236 x4237 x4238) (fun (t : Int × (List Int)) => (.slc 1, [some (.box [.dat (.list (.int .u8)) x4237, .dat (.int .i64) t.1]), some (.seq (.int .i64) t.2)])) [] none).run = some (r, H')) : Awp spec_l20Order_ctx LL (bodyOf Tryd.f54) spec_l20Order_an (⟨mkE 45 0 [(0, .ptr 0 0), (1, .dat (.int .i64) x4236)], [some (.box [.dat (.list (.int .u8)) x4237, .dat (.int .i64) x4238])]⟩ : St) (Ret (tlook tys) Tryd.f54.results.toList r H') :=
  ret_of' (spec_l20Order_n9_l x4236 x4237 x4238) (by unfold spec_l20Order; kernel_rfl) (by
  intro t
  exact ret_mk [.slc 1] (by kernel_rfl) (by kernel_rfl) (by kernel_rfl) (by kernel_rfl)) h

def F_spec_l20Order : Fun := fun avs H =>
  match avs, H with
  | [.ptr 0 0, .dat (.int .i64) x4236], [some (.box [.dat (.list (.int .u8)) x4237, .dat (.int .i64) x4238])] => ⟨_, spec_l20Order x4236 x4237 x4238, fun (t : Int × (List Int)) => (.slc 1, [some (.box [.dat (.list (.int .u8)) x4237, .dat (.int .i64) t.1]), some (.seq (.int .i64) t.2)]), [], none⟩
  | _, _ => Ans.no

theorem spec_l20Order_sound : Sound Tryd.prog 54 F_spec_l20Order := by
  refine fn_sound' (C := spec_l20Order_ctx) (c := bodyOf Tryd.f54) (cok_of tys_ok (List.forall_mem_cons.2 ⟨spec_l20Rd_pick_sound, by simp⟩) (List.forall_mem_cons.2 ⟨Tryd.call18, by simp⟩) (by kernel_rfl)) Tryd.func54 (by kernel_rfl) LL spec_l20Order_an ?_
  intro avs H r H' h
  unfold F_spec_l20Order at h
  split at h
  · refine Awp.cast ?_ ?_ ?_ (spec_l20Order_e _ _ _ h) <;> kernel_rfl
  · simp [Ans.no, Ans.run] at h

/-! loop.example/headtrees/spec.l20Tree -/

def spec_l20Tree_an : Ann := (.seq (.leaf [0, 1]) (.seq (.leaf [0, 1, 5]) (.seq (.leaf [0, 1, 5, 6]) (.seq (.leaf [0, 1, 5, 6, 7]) (.seq (.leaf [0, 1, 5, 6, 7, 8]) (.seq (.seq (.leaf [0, 1, 5, 6, 7, 8, 9]) (.block (.loop (.seq (.seq (.leaf [0, 1, 5, 6, 7, 8, 9, 23]) (.cond (.leaf [0, 1, 5, 6, 7, 8, 9]) (.leaf [0, 1, 5, 7]))) (.seq (.block (.seq (.leaf [0, 1, 5, 6, 7, 8, 9, 10]) (.seq (.seq (.leaf [0, 1, 5, 6, 7, 8, 9, 10, 35]) (.cond (.leaf [0, 1, 5, 6, 7, 8, 9, 10]) (.leaf [0, 1, 5, 6, 7, 8, 9, 10]))) (.draw [] [0, 1, 2, 3, 4, 5, 6, 7, 8, 9, 10, 11] [] [0, 1, 5, 6, 7, 8, 9])))) (.leaf [0, 1, 5, 6, 7, 8, 9])))))) (.seq (.seq (.leaf [0, 5, 7, 51]) (.cond (.seq (.leaf [0, 5, 7, 53]) (.block (.seq (.leaf [0, 5, 7, 53, 63]) (.cond (.seq (.leaf [4]) (.leaf [4])) (.seq (.leaf [0, 5, 7, 53, 66]) (.cond (.seq (.leaf [4]) (.leaf [4])) (.seq (.leaf [0, 5, 7, 69]) (.cond (.seq (.leaf [7]) (.seq (.leaf [4]) (.leaf [4]))) (.leaf [7]))))))))) (.leaf [7]))) (.seq (.leaf [4]) (.leaf [4])))))))))

noncomputable def spec_l20Tree_ctx : Ctx := ⟨tlook tys, olook [(18, F_spec_l20Rd_pick), (54, F_spec_l20Order), (32, F_spec_l20Rd_odd)], ioF, 1, false, []⟩

theorem spec_l20Tree_n1_l (x4225 : Int) (x4226 : List Int) (x4227 : Int) : Link spec_l20Tree_ctx LL (Code.seq (Code.fst (bodyOf Tryd.f45)) (Code.seq (Code.fst (Code.snd (bodyOf Tryd.f45))) (Code.seq (Code.fst (Code.snd (Code.snd (bodyOf Tryd.f45)))) (Code.seq (Code.fst (Code.snd (Code.snd (Code.snd (bodyOf Tryd.f45))))) (Code.fst (Code.snd (Code.snd (Code.snd (Code.snd (bodyOf Tryd.f45)))))))))) (Ann.seq (Ann.fst spec_l20Tree_an) (Ann.seq (Ann.fst (Ann.snd spec_l20Tree_an)) (Ann.seq (Ann.fst (Ann.snd (Ann.snd spec_l20Tree_an))) (Ann.seq (Ann.fst (Ann.snd (Ann.snd (Ann.snd spec_l20Tree_an)))) (Ann.fst (Ann.snd (Ann.snd (Ann.snd (Ann.snd spec_l20Tree_an))))))))) (⟨mkE 80 0 [(0, .ptr 0 0), (1, .dat (.int .i64) x4225)], [some (.box [.dat (.list (.int .u8)) x4226, .dat (.int .i64) x4227])]⟩ : St) (spec_l20Tree_n1 x4226 x4227) (fun (t : Int × Int × Int × (List Int) × (List Int)) => (Exit.normal, (⟨mkE 80 0 [(0, .ptr 0 0), (1, .dat (.int .i64) x4225), (5, .dat (.int .i64) t.1), (6, .slc 1), (7, .slc 2), (8, .dat (.int .i64) t.2.1)], [some (.box [.dat (.list (.int .u8)) x4226, .dat (.int .i64) t.2.2.1]), some (.seq (.int .i64) t.2.2.2.1), some (.seq (.int .i64) t.2.2.2.2)]⟩ : St))) := by
  refine Link.of fun K h => ?_
  simp only [spec_l20Tree_n1, wpO_bind, wpO_cond, wpO_map, wpO_some] at h
  exact Awp.of (by kernel_rfl) h

theorem spec_l20Tree_n2_l (x4225 : Int) (x4542 : Int) (x4549 : Int) (x4226 : List Int) (x4550 : Int) (x4545 : List Int) (x4547 : List Int) : Link spec_l20Tree_ctx LL (Code.fst (Code.fst (Code.snd (Code.snd (Code.snd (Code.snd (Code.snd (bodyOf Tryd.f45)))))))) (Ann.fst (Ann.fst (Ann.snd (Ann.snd (Ann.snd (Ann.snd (Ann.snd spec_l20Tree_an))))))) (⟨mkE 80 0 [(0, .ptr 0 0), (1, .dat (.int .i64) x4225), (5, .dat (.int .i64) x4542), (6, .slc 1), (7, .slc 2), (8, .dat (.int .i64) x4549)], [some (.box [.dat (.list (.int .u8)) x4226, .dat (.int .i64) x4550]), some (.seq (.int .i64) x4545), some (.seq (.int .i64) x4547)]⟩ : St) (spec_l20Tree_n2) (fun (t : Unit) => (Exit.normal, (⟨mkE 80 0 [(0, .ptr 0 0), (1, .dat (.int .i64) x4225), (5, .dat (.int .i64) x4542), (6, .slc 1), (7, .slc 2), (8, .dat (.int .i64) x4549), (9, .dat (.int .i64) 1)], [some (.box [.dat (.list (.int .u8)) x4226, .dat (.int .i64) x4550]), some (.seq (.int .i64) x4545), some (.seq (.int .i64) x4547)]⟩ : St))) := by
  refine Link.of fun K h => ?_
  simp only [spec_l20Tree_n2, wpO_bind, wpO_cond, wpO_map, wpO_some] at h
  exact Awp.of (by kernel_rfl) h

theorem spec_l20Tree_n3_l (x4225 : Int) (x4542 : Int) (x4549 : Int) (x4620 : Int) (x4226 : List Int) (x4621 : Int) (x4545 : List Int) (x4622 : List Int) : Link spec_l20Tree_ctx LL (Code.fst (Code.fst (Code.snd (Code.fst (Code.snd (Code.snd (Code.snd (Code.snd (Code.snd (bodyOf Tryd.f45)))))))))) (Ann.fst (Ann.fst (Ann.snd (Ann.fst (Ann.snd (Ann.snd (Ann.snd (Ann.snd (Ann.snd spec_l20Tree_an))))))))) (⟨mkE 80 0 [(0, .ptr 0 0), (1, .dat (.int .i64) x4225), (5, .dat (.int .i64) x4542), (6, .slc 1), (7, .slc 2), (8, .dat (.int .i64) x4549), (9, .dat (.int .i64) x4620)], [some (.box [.dat (.list (.int .u8)) x4226, .dat (.int .i64) x4621]), some (.seq (.int .i64) x4545), some (.seq (.int .i64) x4622)]⟩ : St) (spec_l20Tree_n3 x4542 x4549 x4620 x4226 x4621 x4545 x4622) (Sum.elim (fun (t : Int × Int × (List Int)) => (Exit.normal, (⟨mkE 80 0 [(0, .ptr 0 0), (1, .dat (.int .i64) x4225), (5, .dat (.int .i64) x4542), (6, .slc 1), (7, .slc 2), (8, .dat (.int .i64) x4549), (9, .dat (.int .i64) t.1)], [some (.box [.dat (.list (.int .u8)) x4226, .dat (.int .i64) t.2.1]), some (.seq (.int .i64) x4545), some (.seq (.int .i64) t.2.2)]⟩ : St))) (fun (t : Int × (List Int)) => ((Exit.exit 0), (⟨mkE 80 0 [(0, .ptr 0 0), (1, .dat (.int .i64) x4225), (5, .dat (.int .i64) x4542), (7, .slc 1)], [some (.box [.dat (.list (.int .u8)) x4226, .dat (.int .i64) t.1]), some (.seq (.int .i64) t.2)]⟩ : St)))) := by
  refine Link.of fun K h => ?_
  simp only [spec_l20Tree_n3, wpO_bind, wpO_cond, wpO_map, wpO_some] at h
  exact Awp.of (by kernel_rfl) h

theorem spec_l20Tree_n4_l (x4225 : Int) (x4542 : Int) (x4549 : Int) (x4226 : List Int) (x4550 : Int) (x4545 : List Int) (x4547 : List Int) : Link spec_l20Tree_ctx LL (Code.fst (Code.snd (Code.fst (Code.snd (Code.snd (Code.snd (Code.snd (Code.snd (bodyOf Tryd.f45))))))))) (Ann.fst (Ann.snd (Ann.fst (Ann.snd (Ann.snd (Ann.snd (Ann.snd (Ann.snd spec_l20Tree_an)))))))) (⟨mkE 80 0 [(0, .ptr 0 0), (1, .dat (.int .i64) x4225), (5, .dat (.int .i64) x4542), (6, .slc 1), (7, .slc 2), (8, .dat (.int .i64) x4549), (9, .dat (.int .i64) 1)], [some (.box [.dat (.list (.int .u8)) x4226, .dat (.int .i64) x4550]), some (.seq (.int .i64) x4545), some (.seq (.int .i64) x4547)]⟩ : St) (spec_l20Tree_n4 x4542 x4549 x4226 x4550 x4545 x4547) (fun (t : Int × (List Int)) => ((Exit.exit 0), (⟨mkE 80 0 [(0, .ptr 0 0), (1, .dat (.int .i64) x4225), (5, .dat (.int .i64) x4542), (7, .slc 1)], [some (.box [.dat (.list (.int .u8)) x4226, .dat (.int .i64) t.1]), some (.seq (.int .i64) t.2)]⟩ : St))) := by
  unfold spec_l20Tree_n4
  exact Link.cast (by kernel_rfl) (by kernel_rfl) (link_loop (mk := fun (s : Int × Int × (List Int)) => (⟨mkE 80 0 [(0, .ptr 0 0), (1, .dat (.int .i64) x4225), (5, .dat (.int .i64) x4542), (6, .slc 1), (7, .slc 2), (8, .dat (.int .i64) x4549), (9, .dat (.int .i64) s.1)], [some (.box [.dat (.list (.int .u8)) x4226, .dat (.int .i64) s.2.1]), some (.seq (.int .i64) x4545), some (.seq (.int .i64) s.2.2)]⟩ : St)) (fin := (fun (t : Int × (List Int)) => ((Exit.exit 0), (⟨mkE 80 0 [(0, .ptr 0 0), (1, .dat (.int .i64) x4225), (5, .dat (.int .i64) x4542), (7, .slc 1)], [some (.box [.dat (.list (.int .u8)) x4226, .dat (.int .i64) t.1]), some (.seq (.int .i64) t.2)]⟩ : St)))) (by
  rintro t f K h
  · exact h) (fun s => link_map (spec_l20Tree_n3_l x4225 x4542 x4549 s.1 x4226 s.2.1 x4545 s.2.2) (Sum.elim (fun (t : Int × Int × (List Int)) => Sum.inl (t.1, t.2.1, t.2.2)) (fun (t : Int × (List Int)) => Sum.inr t)) (by
  rintro (t | t)
  · kernel_rfl
  · kernel_rfl)) (1, x4550, x4547))

theorem spec_l20Tree_n5_l (x4225 : Int) (x4542 : Int) (x4549 : Int) (x4226 : List Int) (x4550 : Int) (x4545 : List Int) (x4547 : List Int) : Link spec_l20Tree_ctx LL (Code.snd (Code.fst (Code.snd (Code.snd (Code.snd (Code.snd (Code.snd (bodyOf Tryd.f45)))))))) (Ann.snd (Ann.fst (Ann.snd (Ann.snd (Ann.snd (Ann.snd (Ann.snd spec_l20Tree_an))))))) (⟨mkE 80 0 [(0, .ptr 0 0), (1, .dat (.int .i64) x4225), (5, .dat (.int .i64) x4542), (6, .slc 1), (7, .slc 2), (8, .dat (.int .i64) x4549), (9, .dat (.int .i64) 1)], [some (.box [.dat (.list (.int .u8)) x4226, .dat (.int .i64) x4550]), some (.seq (.int .i64) x4545), some (.seq (.int .i64) x4547)]⟩ : St) (spec_l20Tree_n5 x4542 x4549 x4226 x4550 x4545 x4547) (fun (t : Int × (List Int)) => (Exit.normal, (⟨mkE 80 0 [(0, .ptr 0 0), (1, .dat (.int .i64) x4225), (5, .dat (.int .i64) x4542), (7, .slc 1)], [some (.box [.dat (.list (.int .u8)) x4226, .dat (.int .i64) t.1]), some (.seq (.int .i64) t.2)]⟩ : St))) := by
  unfold spec_l20Tree_n5
  exact Link.cast (by kernel_rfl) (by kernel_rfl) (link_block (id := 0) (spec_l20Tree_n4_l x4225 x4542 x4549 x4226 x4550 x4545 x4547) (fun (t : Int × (List Int)) => (t.1, t.2)) (by
  rintro t K h
  · exact Eq.mp (by kernel_rfl) h))

theorem spec_l20Tree_n6_l (x4225 : Int) (x4542 : Int) (x4549 : Int) (x4226 : List Int) (x4550 : Int) (x4545 : List Int) (x4547 : List Int) : Link spec_l20Tree_ctx LL (Code.fst (Code.snd (Code.snd (Code.snd (Code.snd (Code.snd (bodyOf Tryd.f45))))))) (Ann.fst (Ann.snd (Ann.snd (Ann.snd (Ann.snd (Ann.snd spec_l20Tree_an)))))) (⟨mkE 80 0 [(0, .ptr 0 0), (1, .dat (.int .i64) x4225), (5, .dat (.int .i64) x4542), (6, .slc 1), (7, .slc 2), (8, .dat (.int .i64) x4549)], [some (.box [.dat (.list (.int .u8)) x4226, .dat (.int .i64) x4550]), some (.seq (.int .i64) x4545), some (.seq (.int .i64) x4547)]⟩ : St) (spec_l20Tree_n6 x4542 x4549 x4226 x4550 x4545 x4547) (fun (t : Int × (List Int)) => (Exit.normal, (⟨mkE 80 0 [(0, .ptr 0 0), (1, .dat (.int .i64) x4225), (5, .dat (.int .i64) x4542), (7, .slc 1)], [some (.box [.dat (.list (.int .u8)) x4226, .dat (.int .i64) t.1]), some (.seq (.int .i64) t.2)]⟩ : St))) := by
  unfold spec_l20Tree_n6
  exact Link.cast (by kernel_rfl) (by kernel_rfl) (link_seq (b := (Code.snd (Code.fst (Code.snd (Code.snd (Code.snd (Code.snd (Code.snd (bodyOf Tryd.f45))))))))) (y := (Ann.snd (Ann.fst (Ann.snd (Ann.snd (Ann.snd (Ann.snd (Ann.snd spec_l20Tree_an)))))))) (spec_l20Tree_n2_l x4225 x4542 x4549 x4226 x4550 x4545 x4547) (fun (t : Unit) => (spec_l20Tree_n5_l x4225 x4542 x4549 x4226 x4550 x4545 x4547)))

theorem spec_l20Tree_n7_l (x4225 : Int) (x4542 : Int) (x4226 : List Int) (x4621 : Int) (x4622 : List Int) : Link spec_l20Tree_ctx LL (Code.snd (Code.snd (Code.snd (Code.snd (Code.snd (Code.snd (bodyOf Tryd.f45))))))) (Ann.snd (Ann.snd (Ann.snd (Ann.snd (Ann.snd (Ann.snd spec_l20Tree_an)))))) (⟨mkE 80 0 [(0, .ptr 0 0), (1, .dat (.int .i64) x4225), (5, .dat (.int .i64) x4542), (7, .slc 1)], [some (.box [.dat (.list (.int .u8)) x4226, .dat (.int .i64) x4621]), some (.seq (.int .i64) x4622)]⟩ : St) (spec_l20Tree_n7 x4225 x4542 x4226 x4621 x4622) (fun (t : Int × (List Int)) => (Exit.ret, (⟨mkE 80 0 [(4, .slc 1)], [some (.box [.dat (.list (.int .u8)) x4226, .dat (.int .i64) t.1]), some (.seq (.int .i64) t.2)]⟩ : St))) := by
  refine Link.of fun K h => ?_
  simp only [spec_l20Tree_n7, wpO_bind, wpO_cond, wpO_map, wpO_some] at h
  exact Awp.of (by kernel_rfl) h

theorem spec_l20Tree_n8_l (x4225 : Int) (x4542 : Int) (x4549 : Int) (x4226 : List Int) (x4550 : Int) (x4545 : List Int) (x4547 : List Int) : Link spec_l20Tree_ctx LL (Code.snd (Code.snd (Code.snd (Code.snd (Code.snd (bodyOf Tryd.f45)))))) (Ann.snd (Ann.snd (Ann.snd (Ann.snd (Ann.snd spec_l20Tree_an))))) (⟨mkE 80 0 [(0, .ptr 0 0), (1, .dat (.int .i64) x4225), (5, .dat (.int .i64) x4542), (6, .slc 1), (7, .slc 2), (8, .dat (.int .i64) x4549)], [some (.box [.dat (.list (.int .u8)) x4226, .dat (.int .i64) x4550]), some (.seq (.int .i64) x4545), some (.seq (.int .i64) x4547)]⟩ : St) (spec_l20Tree_n8 x4225 x4542 x4549 x4226 x4550 x4545 x4547) (fun (t : Int × (List Int)) => (Exit.ret, (⟨mkE 80 0 [(4, .slc 1)], [some (.box [.dat (.list (.int .u8)) x4226, .dat (.int .i64) t.1]), some (.seq (.int .i64) t.2)]⟩ : St))) := by
  unfold spec_l20Tree_n8
  exact Link.cast (by kernel_rfl) (by kernel_rfl) (link_seq (b := (Code.snd (Code.snd (Code.snd (Code.snd (Code.snd (Code.snd (bodyOf Tryd.f45)))))))) (y := (Ann.snd (Ann.snd (Ann.snd (Ann.snd (Ann.snd (Ann.snd spec_l20Tree_an))))))) (spec_l20Tree_n6_l x4225 x4542 x4549 x4226 x4550 x4545 x4547) (fun (t : Int × (List Int)) => (spec_l20Tree_n7_l x4225 x4542 x4226 t.1 t.2)))

theorem spec_l20Tree_n9_l (x4225 : Int) (x4226 : List Int) (x4227 : Int) : Link spec_l20Tree_ctx LL (bodyOf Tryd.f45) spec_l20Tree_an (⟨mkE 80 0 [(0, .ptr 0 0), (1, .dat (.int .i64) x4225)], [some (.box [.dat (.list (.int .u8)) x4226, .dat (.int .i64) x4227])]⟩ : St) (spec_l20Tree_n9 x4225 x4226 x4227) (fun (t : Int × (List Int)) => (Exit.ret, (⟨mkE 80 0 [(4, .slc 1)], [some (.box [.dat (.list (.int .u8)) x4226, .dat (.int .i64) t.1]), some (.seq (.int .i64) t.2)]⟩ : St))) := by
  unfold spec_l20Tree_n9
  exact Link.cast (by kernel_rfl) (by kernel_rfl) (link_group (c := (Code.fst (Code.snd (Code.snd (Code.snd (Code.snd (bodyOf Tryd.f45))))))) (a := (Ann.fst (Ann.snd (Ann.snd (Ann.snd (Ann.snd spec_l20Tree_an)))))) [(Code.fst (bodyOf Tryd.f45)), (Code.fst (Code.snd (bodyOf Tryd.f45))), (Code.fst (Code.snd (Code.snd (bodyOf Tryd.f45)))), (Code.fst (Code.snd (Code.snd (Code.snd (bodyOf Tryd.f45)))))] [(Ann.fst spec_l20Tree_an), (Ann.fst (Ann.snd spec_l20Tree_an)), (Ann.fst (Ann.snd (Ann.snd spec_l20Tree_an))), (Ann.fst (Ann.snd (Ann.snd (Ann.snd spec_l20Tree_an))))] rfl (link_seq (b := (Code.snd (Code.snd (Code.snd (Code.snd (Code.snd (bodyOf Tryd.f45))))))) (y := (Ann.snd (Ann.snd (Ann.snd (Ann.snd (Ann.snd spec_l20Tree_an)))))) (spec_l20Tree_n1_l x4225 x4226 x4227) (fun (t : Int × Int × Int × (List Int) × (List Int)) => (spec_l20Tree_n8_l x4225 t.1 t.2.1 x4226 t.2.2.1 t.2.2.2.1 t.2.2.2.2))))

theorem spec_l20Tree_e (x4225 : Int) (x4226 : List Int) (x4227 : Int) {r : AV} {H' : Heap} (h : (Ans.mk _ (spec_l20Tree x4225 x4226 x4227) (fun (t : Int × (List Int)) => (.slc 1, [some (.box [.dat (.list (.int .u8)) x4226, .dat (.int .i64) t.1]), some (.seq (.int .i64) t.2)])) [] none).run = some (r, H')) : Awp spec_l20Tree_ctx LL (bodyOf Tryd.f45) spec_l20Tree_an (⟨mkE 80 0 [(0, .ptr 0 0), (1, .dat (.int .i64) x4225)], [some (.box [.dat (.list (.int .u8)) x4226, .dat (.int .i64) x4227])]⟩ : St) (Ret (tlook tys) Tryd.f45.results.toList r H') :=
  ret_of' (spec_l20Tree_n9_l x4225 x4226 x4227) (by unfold spec_l20Tree; kernel_rfl) (by
  intro t
  exact ret_mk [.slc 1] (by kernel_rfl) (by kernel_rfl) (by kernel_rfl) (by kernel_rfl)) h

def F_spec_l20Tree : Fun := fun avs H =>
  match avs, H with
  | [.ptr 0 0, .dat (.int .i64) x4225], [some (.box [.dat (.list (.int .u8)) x4226, .dat (.int .i64) x4227])] => ⟨_, spec_l20Tree x4225 x4226 x4227, fun (t : Int × (List Int)) => (.slc 1, [some (.box [.dat (.list (.int .u8)) x4226, .dat (.int .i64) t.1]), some (.seq (.int .i64) t.2)]), [], none⟩
  | _, _ => Ans.no

theorem spec_l20Tree_sound : Sound Tryd.prog 45 F_spec_l20Tree := by
  refine fn_sound' (C := spec_l20Tree_ctx) (c := bodyOf Tryd.f45) (cok_of tys_ok (List.forall_mem_cons.2 ⟨spec_l20Rd_pick_sound, List.forall_mem_cons.2 ⟨spec_l20Order_sound, List.forall_mem_cons.2 ⟨spec_l20Rd_odd_sound, by simp⟩⟩⟩) (List.forall_mem_cons.2 ⟨Tryd.call18, List.forall_mem_cons.2 ⟨Tryd.call54, List.forall_mem_cons.2 ⟨Tryd.call32, by simp⟩⟩⟩) (by kernel_rfl)) Tryd.func45 (by kernel_rfl) LL spec_l20Tree_an ?_
  intro avs H r H' h
  unfold F_spec_l20Tree at h
  split at h
  · refine Awp.cast ?_ ?_ ?_ (spec_l20Tree_e _ _ _ h) <;> kernel_rfl
  · simp [Ans.no, Ans.run] at h

/-! loop.example/headtrees/spec.l20Fill -/

def spec_l20Fill_an : Ann := (.seq (.seq (.leaf [0, 1, 2, 3, 4, 16]) (.cond (.leaf []) (.leaf [0, 1, 2, 3, 4]))) (.seq (.leaf [0, 1, 2, 3, 4, 10]) (.seq (.leaf [0, 1, 2, 3, 10]) (.seq (.leaf [0, 1, 3, 10, 11]) (.seq (.block (.loop (.seq (.seq (.leaf [0, 1, 3, 10, 11, 33]) (.cond (.leaf [0, 1, 3, 10, 11]) (.leaf [0, 1, 3, 10]))) (.block (.seq (.leaf [0, 1, 3, 10, 11, 12]) (.seq (.leaf [0, 1, 3, 10, 12]) (.leaf [0, 1, 3, 10, 11]))))))) (.seq (.leaf [0, 1, 3, 10, 11]) (.block (.loop (.seq (.seq (.leaf [0, 1, 3, 10, 11, 53]) (.cond (.leaf [0, 1, 3, 10, 11]) (.leaf []))) (.block (.seq (.leaf [0, 1, 3, 10, 11, 13]) (.seq (.leaf [0, 1, 3, 10, 13]) (.leaf [0, 1, 3, 10, 11])))))))))))))

def F_spec_l20Fill_fuel (n : Nat) : Fun := fun avs H =>
  match avs, H with
  | [.ptr 0 0, .slc 1, .dat (.int .i64) x4818, .dat (.int .i64) x4819, .dat (.int .i64) x4820], [some (.box [.dat (.list (.int .u8)) x4821, .dat (.int .i64) x4822]), some (.seq (.int .i64) x4823)] => ⟨_, spec_l20Fill_fuel n x4818 x4819 x4820 x4821 x4822 x4823, fun (t : Int × (List Int)) => (.tup [], [some (.box [.dat (.list (.int .u8)) x4821, .dat (.int .i64) t.1]), some (.seq (.int .i64) t.2)]), [], none⟩
  | _, _ => Ans.no

noncomputable def spec_l20Fill_ctx (n : Nat) : Ctx := ⟨tlook tys, olook [(18, F_spec_l20Rd_pick), (46, F_spec_l20Fill_fuel n)], ioF, 2, false, []⟩

theorem spec_l20Fill_n1_l (n : Nat) (x4818 : Int) (x4819 : Int) (x4820 : Int) (x4821 : List Int) (x4822 : Int) (x4823 : List Int) : Link (spec_l20Fill_ctx n) LL (Code.seq (Code.fst (bodyOf Tryd.f46)) (Code.seq (Code.fst (Code.snd (bodyOf Tryd.f46))) (Code.seq (Code.fst (Code.snd (Code.snd (bodyOf Tryd.f46)))) (Code.fst (Code.snd (Code.snd (Code.snd (bodyOf Tryd.f46)))))))) (Ann.seq (Ann.fst spec_l20Fill_an) (Ann.seq (Ann.fst (Ann.snd spec_l20Fill_an)) (Ann.seq (Ann.fst (Ann.snd (Ann.snd spec_l20Fill_an))) (Ann.fst (Ann.snd (Ann.snd (Ann.snd spec_l20Fill_an))))))) (⟨mkE 70 0 [(0, .ptr 0 0), (1, .slc 1), (2, .dat (.int .i64) x4818), (3, .dat (.int .i64) x4819), (4, .dat (.int .i64) x4820)], [some (.box [.dat (.list (.int .u8)) x4821, .dat (.int .i64) x4822]), some (.seq (.int .i64) x4823)]⟩ : St) (spec_l20Fill_n1 (spec_l20Fill_fuel n) x4818 x4819 x4820 x4821 x4822 x4823) (Sum.elim (fun (t : Int × Int × (List Int)) => (Exit.normal, (⟨mkE 70 0 [(0, .ptr 0 0), (1, .slc 1), (3, .dat (.int .i64) x4819), (10, .dat (.int .i64) t.1), (11, .dat (.int .i64) x4818)], [some (.box [.dat (.list (.int .u8)) x4821, .dat (.int .i64) t.2.1]), some (.seq (.int .i64) t.2.2)]⟩ : St))) (fun (t : Int × (List Int)) => (Exit.ret, (⟨mkE 70 0 [], [some (.box [.dat (.list (.int .u8)) x4821, .dat (.int .i64) t.1]), some (.seq (.int .i64) t.2)]⟩ : St)))) := by
  refine Link.of fun K h => ?_
  simp only [spec_l20Fill_n1, wpO_bind, wpO_cond, wpO_map, wpO_some] at h
  exact Awp.of (by kernel_rfl) h

theorem spec_l20Fill_n2_l (n : Nat) (x4819 : Int) (x4894 : Int) (x4909 : Int) (x4821 : List Int) (x4910 : Int) (x4911 : List Int) : Link (spec_l20Fill_ctx n) LL (Code.fst (Code.fst (Code.fst (Code.snd (Code.snd (Code.snd (Code.snd (bodyOf Tryd.f46)))))))) (Ann.fst (Ann.fst (Ann.fst (Ann.snd (Ann.snd (Ann.snd (Ann.snd spec_l20Fill_an))))))) (⟨mkE 70 0 [(0, .ptr 0 0), (1, .slc 1), (3, .dat (.int .i64) x4819), (10, .dat (.int .i64) x4894), (11, .dat (.int .i64) x4909)], [some (.box [.dat (.list (.int .u8)) x4821, .dat (.int .i64) x4910]), some (.seq (.int .i64) x4911)]⟩ : St) (spec_l20Fill_n2 (spec_l20Fill_fuel n) x4894 x4909 x4821 x4910 x4911) (Sum.elim (fun (t : Int × Int × (List Int)) => (Exit.normal, (⟨mkE 70 0 [(0, .ptr 0 0), (1, .slc 1), (3, .dat (.int .i64) x4819), (10, .dat (.int .i64) x4894), (11, .dat (.int .i64) t.1)], [some (.box [.dat (.list (.int .u8)) x4821, .dat (.int .i64) t.2.1]), some (.seq (.int .i64) t.2.2)]⟩ : St))) (fun (t : Int × (List Int)) => ((Exit.exit 0), (⟨mkE 70 0 [(0, .ptr 0 0), (1, .slc 1), (3, .dat (.int .i64) x4819), (10, .dat (.int .i64) x4894)], [some (.box [.dat (.list (.int .u8)) x4821, .dat (.int .i64) t.1]), some (.seq (.int .i64) t.2)]⟩ : St)))) := by
  refine Link.of fun K h => ?_
  simp only [spec_l20Fill_n2, wpO_bind, wpO_cond, wpO_map, wpO_some] at h
  exact Awp.of (by kernel_rfl) h

theorem spec_l20Fill_n3_l (n : Nat) (x4819 : Int) (x4894 : Int) (x4818 : Int) (x4821 : List Int) (x4893 : Int) (x4897 : List Int) : Link (spec_l20Fill_ctx n) LL (Code.fst (Code.fst (Code.snd (Code.snd (Code.snd (Code.snd (bodyOf Tryd.f46))))))) (Ann.fst (Ann.fst (Ann.snd (Ann.snd (Ann.snd (Ann.snd spec_l20Fill_an)))))) (⟨mkE 70 0 [(0, .ptr 0 0), (1, .slc 1), (3, .dat (.int .i64) x4819), (10, .dat (.int .i64) x4894), (11, .dat (.int .i64) x4818)], [some (.box [.dat (.list (.int .u8)) x4821, .dat (.int .i64) x4893]), some (.seq (.int .i64) x4897)]⟩ : St) (spec_l20Fill_n3 (spec_l20Fill_fuel n) x4894 x4818 x4821 x4893 x4897) (fun (t : Int × (List Int)) => ((Exit.exit 0), (⟨mkE 70 0 [(0, .ptr 0 0), (1, .slc 1), (3, .dat (.int .i64) x4819), (10, .dat (.int .i64) x4894)], [some (.box [.dat (.list (.int .u8)) x4821, .dat (.int .i64) t.1]), some (.seq (.int .i64) t.2)]⟩ : St))) := by
  unfold spec_l20Fill_n3
  exact Link.cast (by kernel_rfl) (by kernel_rfl) (link_loop (mk := fun (s : Int × Int × (List Int)) => (⟨mkE 70 0 [(0, .ptr 0 0), (1, .slc 1), (3, .dat (.int .i64) x4819), (10, .dat (.int .i64) x4894), (11, .dat (.int .i64) s.1)], [some (.box [.dat (.list (.int .u8)) x4821, .dat (.int .i64) s.2.1]), some (.seq (.int .i64) s.2.2)]⟩ : St)) (fin := (fun (t : Int × (List Int)) => ((Exit.exit 0), (⟨mkE 70 0 [(0, .ptr 0 0), (1, .slc 1), (3, .dat (.int .i64) x4819), (10, .dat (.int .i64) x4894)], [some (.box [.dat (.list (.int .u8)) x4821, .dat (.int .i64) t.1]), some (.seq (.int .i64) t.2)]⟩ : St)))) (by
  rintro t f K h
  · exact h) (fun s => link_map (spec_l20Fill_n2_l n x4819 x4894 s.1 x4821 s.2.1 s.2.2) (Sum.elim (fun (t : Int × Int × (List Int)) => Sum.inl (t.1, t.2.1, t.2.2)) (fun (t : Int × (List Int)) => Sum.inr t)) (by
  rintro (t | t)
  · kernel_rfl
  · kernel_rfl)) (x4818, x4893, x4897))

theorem spec_l20Fill_n4_l (n : Nat) (x4819 : Int) (x4894 : Int) (x4818 : Int) (x4821 : List Int) (x4893 : Int) (x4897 : List Int) : Link (spec_l20Fill_ctx n) LL (Code.fst (Code.snd (Code.snd (Code.snd (Code.snd (bodyOf Tryd.f46)))))) (Ann.fst (Ann.snd (Ann.snd (Ann.snd (Ann.snd spec_l20Fill_an))))) (⟨mkE 70 0 [(0, .ptr 0 0), (1, .slc 1), (3, .dat (.int .i64) x4819), (10, .dat (.int .i64) x4894), (11, .dat (.int .i64) x4818)], [some (.box [.dat (.list (.int .u8)) x4821, .dat (.int .i64) x4893]), some (.seq (.int .i64) x4897)]⟩ : St) (spec_l20Fill_n4 (spec_l20Fill_fuel n) x4894 x4818 x4821 x4893 x4897) (fun (t : Int × (List Int)) => (Exit.normal, (⟨mkE 70 0 [(0, .ptr 0 0), (1, .slc 1), (3, .dat (.int .i64) x4819), (10, .dat (.int .i64) x4894)], [some (.box [.dat (.list (.int .u8)) x4821, .dat (.int .i64) t.1]), some (.seq (.int .i64) t.2)]⟩ : St))) := by
  unfold spec_l20Fill_n4
  exact Link.cast (by kernel_rfl) (by kernel_rfl) (link_block (id := 0) (spec_l20Fill_n3_l n x4819 x4894 x4818 x4821 x4893 x4897) (fun (t : Int × (List Int)) => (t.1, t.2)) (by
  rintro t K h
  · exact Eq.mp (by kernel_rfl) h))

theorem spec_l20Fill_n5_l (n : Nat) (x4819 : Int) (x4894 : Int) (x4821 : List Int) (x4910 : Int) (x4911 : List Int) : Link (spec_l20Fill_ctx n) LL (Code.fst (Code.snd (Code.snd (Code.snd (Code.snd (Code.snd (bodyOf Tryd.f46))))))) (Ann.fst (Ann.snd (Ann.snd (Ann.snd (Ann.snd (Ann.snd spec_l20Fill_an)))))) (⟨mkE 70 0 [(0, .ptr 0 0), (1, .slc 1), (3, .dat (.int .i64) x4819), (10, .dat (.int .i64) x4894)], [some (.box [.dat (.list (.int .u8)) x4821, .dat (.int .i64) x4910]), some (.seq (.int .i64) x4911)]⟩ : St) (spec_l20Fill_n5 (spec_l20Fill_fuel n) x4894) (fun (t : Int) => (Exit.normal, (⟨mkE 70 0 [(0, .ptr 0 0), (1, .slc 1), (3, .dat (.int .i64) x4819), (10, .dat (.int .i64) x4894), (11, .dat (.int .i64) t)], [some (.box [.dat (.list (.int .u8)) x4821, .dat (.int .i64) x4910]), some (.seq (.int .i64) x4911)]⟩ : St))) := by
  refine Link.of fun K h => ?_
  simp only [spec_l20Fill_n5, wpO_bind, wpO_cond, wpO_map, wpO_some] at h
  exact Awp.of (by kernel_rfl) h

theorem spec_l20Fill_n6_l (n : Nat) (x4819 : Int) (x4894 : Int) (x4936 : Int) (x4821 : List Int) (x4937 : Int) (x4938 : List Int) : Link (spec_l20Fill_ctx n) LL (Code.fst (Code.fst (Code.snd (Code.snd (Code.snd (Code.snd (Code.snd (Code.snd (bodyOf Tryd.f46))))))))) (Ann.fst (Ann.fst (Ann.snd (Ann.snd (Ann.snd (Ann.snd (Ann.snd (Ann.snd spec_l20Fill_an)))))))) (⟨mkE 70 0 [(0, .ptr 0 0), (1, .slc 1), (3, .dat (.int .i64) x4819), (10, .dat (.int .i64) x4894), (11, .dat (.int .i64) x4936)], [some (.box [.dat (.list (.int .u8)) x4821, .dat (.int .i64) x4937]), some (.seq (.int .i64) x4938)]⟩ : St) (spec_l20Fill_n6 (spec_l20Fill_fuel n) x4819 x4894 x4936 x4821 x4937 x4938) (Sum.elim (fun (t : Int × Int × (List Int)) => (Exit.normal, (⟨mkE 70 0 [(0, .ptr 0 0), (1, .slc 1), (3, .dat (.int .i64) x4819), (10, .dat (.int .i64) x4894), (11, .dat (.int .i64) t.1)], [some (.box [.dat (.list (.int .u8)) x4821, .dat (.int .i64) t.2.1]), some (.seq (.int .i64) t.2.2)]⟩ : St))) (fun (t : Int × (List Int)) => ((Exit.exit 2), (⟨mkE 70 0 [], [some (.box [.dat (.list (.int .u8)) x4821, .dat (.int .i64) t.1]), some (.seq (.int .i64) t.2)]⟩ : St)))) := by
  refine Link.of fun K h => ?_
  simp only [spec_l20Fill_n6, wpO_bind, wpO_cond, wpO_map, wpO_some] at h
  exact Awp.of (by kernel_rfl) h

theorem spec_l20Fill_n7_l (n : Nat) (x4819 : Int) (x4894 : Int) (x4923 : Int) (x4821 : List Int) (x4910 : Int) (x4911 : List Int) : Link (spec_l20Fill_ctx n) LL (Code.fst (Code.snd (Code.snd (Code.snd (Code.snd (Code.snd (Code.snd (bodyOf Tryd.f46)))))))) (Ann.fst (Ann.snd (Ann.snd (Ann.snd (Ann.snd (Ann.snd (Ann.snd spec_l20Fill_an))))))) (⟨mkE 70 0 [(0, .ptr 0 0), (1, .slc 1), (3, .dat (.int .i64) x4819), (10, .dat (.int .i64) x4894), (11, .dat (.int .i64) x4923)], [some (.box [.dat (.list (.int .u8)) x4821, .dat (.int .i64) x4910]), some (.seq (.int .i64) x4911)]⟩ : St) (spec_l20Fill_n7 (spec_l20Fill_fuel n) x4819 x4894 x4923 x4821 x4910 x4911) (fun (t : Int × (List Int)) => ((Exit.exit 2), (⟨mkE 70 0 [], [some (.box [.dat (.list (.int .u8)) x4821, .dat (.int .i64) t.1]), some (.seq (.int .i64) t.2)]⟩ : St))) := by
  unfold spec_l20Fill_n7
  exact Link.cast (by kernel_rfl) (by kernel_rfl) (link_loop (mk := fun (s : Int × Int × (List Int)) => (⟨mkE 70 0 [(0, .ptr 0 0), (1, .slc 1), (3, .dat (.int .i64) x4819), (10, .dat (.int .i64) x4894), (11, .dat (.int .i64) s.1)], [some (.box [.dat (.list (.int .u8)) x4821, .dat (.int .i64) s.2.1]), some (.seq (.int .i64) s.2.2)]⟩ : St)) (fin := (fun (t : Int × (List Int)) => ((Exit.exit 2), (⟨mkE 70 0 [], [some (.box [.dat (.list (.int .u8)) x4821, .dat (.int .i64) t.1]), some (.seq (.int .i64) t.2)]⟩ : St)))) (by
  rintro t f K h
  · exact h) (fun s => link_map (spec_l20Fill_n6_l n x4819 x4894 s.1 x4821 s.2.1 s.2.2) (Sum.elim (fun (t : Int × Int × (List Int)) => Sum.inl (t.1, t.2.1, t.2.2)) (fun (t : Int × (List Int)) => Sum.inr t)) (by
  rintro (t | t)
  · kernel_rfl
  · kernel_rfl)) (x4923, x4910, x4911))

theorem spec_l20Fill_n8_l (n : Nat) (x4819 : Int) (x4894 : Int) (x4923 : Int) (x4821 : List Int) (x4910 : Int) (x4911 : List Int) : Link (spec_l20Fill_ctx n) LL (Code.snd (Code.snd (Code.snd (Code.snd (Code.snd (Code.snd (bodyOf Tryd.f46))))))) (Ann.snd (Ann.snd (Ann.snd (Ann.snd (Ann.snd (Ann.snd spec_l20Fill_an)))))) (⟨mkE 70 0 [(0, .ptr 0 0), (1, .slc 1), (3, .dat (.int .i64) x4819), (10, .dat (.int .i64) x4894), (11, .dat (.int .i64) x4923)], [some (.box [.dat (.list (.int .u8)) x4821, .dat (.int .i64) x4910]), some (.seq (.int .i64) x4911)]⟩ : St) (spec_l20Fill_n8 (spec_l20Fill_fuel n) x4819 x4894 x4923 x4821 x4910 x4911) (fun (t : Int × (List Int)) => (Exit.normal, (⟨mkE 70 0 [], [some (.box [.dat (.list (.int .u8)) x4821, .dat (.int .i64) t.1]), some (.seq (.int .i64) t.2)]⟩ : St))) := by
  unfold spec_l20Fill_n8
  exact Link.cast (by kernel_rfl) (by kernel_rfl) (link_block (id := 2) (spec_l20Fill_n7_l n x4819 x4894 x4923 x4821 x4910 x4911) (fun (t : Int × (List Int)) => (t.1, t.2)) (by
  rintro t K h
  · exact Eq.mp (by kernel_rfl) h))

theorem spec_l20Fill_n9_l (n : Nat) (x4819 : Int) (x4894 : Int) (x4821 : List Int) (x4910 : Int) (x4911 : List Int) : Link (spec_l20Fill_ctx n) LL (Code.snd (Code.snd (Code.snd (Code.snd (Code.snd (bodyOf Tryd.f46)))))) (Ann.snd (Ann.snd (Ann.snd (Ann.snd (Ann.snd spec_l20Fill_an))))) (⟨mkE 70 0 [(0, .ptr 0 0), (1, .slc 1), (3, .dat (.int .i64) x4819), (10, .dat (.int .i64) x4894)], [some (.box [.dat (.list (.int .u8)) x4821, .dat (.int .i64) x4910]), some (.seq (.int .i64) x4911)]⟩ : St) (spec_l20Fill_n9 (spec_l20Fill_fuel n) x4819 x4894 x4821 x4910 x4911) (fun (t : Int × (List Int)) => (Exit.normal, (⟨mkE 70 0 [], [some (.box [.dat (.list (.int .u8)) x4821, .dat (.int .i64) t.1]), some (.seq (.int .i64) t.2)]⟩ : St))) := by
  unfold spec_l20Fill_n9
  exact Link.cast (by kernel_rfl) (by kernel_rfl) (link_seq (b := (Code.snd (Code.snd (Code.snd (Code.snd (Code.snd (Code.snd (bodyOf Tryd.f46)))))))) (y := (Ann.snd (Ann.snd (Ann.snd (Ann.snd (Ann.snd (Ann.snd spec_l20Fill_an))))))) (spec_l20Fill_n5_l n x4819 x4894 x4821 x4910 x4911) (fun (t : Int) => (spec_l20Fill_n8_l n x4819 x4894 t x4821 x4910 x4911)))

theorem spec_l20Fill_n10_l (n : Nat) (x4819 : Int) (x4894 : Int) (x4818 : Int) (x4821 : List Int) (x4893 : Int) (x4897 : List Int) : Link (spec_l20Fill_ctx n) LL (Code.snd (Code.snd (Code.snd (Code.snd (bodyOf Tryd.f46))))) (Ann.snd (Ann.snd (Ann.snd (Ann.snd spec_l20Fill_an)))) (⟨mkE 70 0 [(0, .ptr 0 0), (1, .slc 1), (3, .dat (.int .i64) x4819), (10, .dat (.int .i64) x4894), (11, .dat (.int .i64) x4818)], [some (.box [.dat (.list (.int .u8)) x4821, .dat (.int .i64) x4893]), some (.seq (.int .i64) x4897)]⟩ : St) (spec_l20Fill_n10 (spec_l20Fill_fuel n) x4819 x4894 x4818 x4821 x4893 x4897) (fun (t : Int × (List Int)) => (Exit.normal, (⟨mkE 70 0 [], [some (.box [.dat (.list (.int .u8)) x4821, .dat (.int .i64) t.1]), some (.seq (.int .i64) t.2)]⟩ : St))) := by
  unfold spec_l20Fill_n10
  exact Link.cast (by kernel_rfl) (by kernel_rfl) (link_seq (b := (Code.snd (Code.snd (Code.snd (Code.snd (Code.snd (bodyOf Tryd.f46))))))) (y := (Ann.snd (Ann.snd (Ann.snd (Ann.snd (Ann.snd spec_l20Fill_an)))))) (spec_l20Fill_n4_l n x4819 x4894 x4818 x4821 x4893 x4897) (fun (t : Int × (List Int)) => (spec_l20Fill_n9_l n x4819 x4894 x4821 t.1 t.2)))

theorem spec_l20Fill_n11_l (n : Nat) (x4818 : Int) (x4819 : Int) (x4820 : Int) (x4821 : List Int) (x4822 : Int) (x4823 : List Int) : Link (spec_l20Fill_ctx n) LL (bodyOf Tryd.f46) spec_l20Fill_an (⟨mkE 70 0 [(0, .ptr 0 0), (1, .slc 1), (2, .dat (.int .i64) x4818), (3, .dat (.int .i64) x4819), (4, .dat (.int .i64) x4820)], [some (.box [.dat (.list (.int .u8)) x4821, .dat (.int .i64) x4822]), some (.seq (.int .i64) x4823)]⟩ : St) (spec_l20Fill_n11 (spec_l20Fill_fuel n) x4818 x4819 x4820 x4821 x4822 x4823) (Sum.elim (fun (t : Int × (List Int)) => (Exit.normal, (⟨mkE 70 0 [], [some (.box [.dat (.list (.int .u8)) x4821, .dat (.int .i64) t.1]), some (.seq (.int .i64) t.2)]⟩ : St))) (fun (t : Int × (List Int)) => (Exit.ret, (⟨mkE 70 0 [], [some (.box [.dat (.list (.int .u8)) x4821, .dat (.int .i64) t.1]), some (.seq (.int .i64) t.2)]⟩ : St)))) := by
  unfold spec_l20Fill_n11
  exact Link.cast (by kernel_rfl) (by kernel_rfl) (link_group (c := (Code.fst (Code.snd (Code.snd (Code.snd (bodyOf Tryd.f46)))))) (a := (Ann.fst (Ann.snd (Ann.snd (Ann.snd spec_l20Fill_an))))) [(Code.fst (bodyOf Tryd.f46)), (Code.fst (Code.snd (bodyOf Tryd.f46))), (Code.fst (Code.snd (Code.snd (bodyOf Tryd.f46))))] [(Ann.fst spec_l20Fill_an), (Ann.fst (Ann.snd spec_l20Fill_an)), (Ann.fst (Ann.snd (Ann.snd spec_l20Fill_an)))] rfl (link_seq2 (b := (Code.snd (Code.snd (Code.snd (Code.snd (bodyOf Tryd.f46)))))) (y := (Ann.snd (Ann.snd (Ann.snd (Ann.snd spec_l20Fill_an))))) (spec_l20Fill_n1_l n x4818 x4819 x4820 x4821 x4822 x4823) (fun (t : Int × Int × (List Int)) => (link_map (spec_l20Fill_n10_l n x4819 t.1 x4818 x4821 t.2.1 t.2.2) (fun (u : Int × (List Int)) => (Sum.inl (u.1, u.2))) (by
  rintro t
  · kernel_rfl))) (fun (t : Int × (List Int)) => (Sum.inr t)) (by
  rintro t
  · kernel_rfl) (by
  rintro t f K h
  · exact h)))

theorem spec_l20Fill_e (n : Nat) (x4818 : Int) (x4819 : Int) (x4820 : Int) (x4821 : List Int) (x4822 : Int) (x4823 : List Int) {r : AV} {H' : Heap} (h : (Ans.mk _ (spec_l20Fill_fuel (n + 1) x4818 x4819 x4820 x4821 x4822 x4823) (fun (t : Int × (List Int)) => (.tup [], [some (.box [.dat (.list (.int .u8)) x4821, .dat (.int .i64) t.1]), some (.seq (.int .i64) t.2)])) [] none).run = some (r, H')) : Awp (spec_l20Fill_ctx n) LL (bodyOf Tryd.f46) spec_l20Fill_an (⟨mkE 70 0 [(0, .ptr 0 0), (1, .slc 1), (2, .dat (.int .i64) x4818), (3, .dat (.int .i64) x4819), (4, .dat (.int .i64) x4820)], [some (.box [.dat (.list (.int .u8)) x4821, .dat (.int .i64) x4822]), some (.seq (.int .i64) x4823)]⟩ : St) (Ret (tlook tys) Tryd.f46.results.toList r H') :=
  ret_of (spec_l20Fill_n11_l n x4818 x4819 x4820 x4821 x4822 x4823) (Sum.elim (fun (t : Int × (List Int)) => (t.1, t.2)) (fun (t : Int × (List Int)) => t)) (by (show _ = _); kernel_rfl) (by
  rintro (t | t)
  · exact ret_mk [] (by kernel_rfl) (by kernel_rfl) (by kernel_rfl) (by kernel_rfl)
  · exact ret_mk [] (by kernel_rfl) (by kernel_rfl) (by kernel_rfl) (by kernel_rfl)) h

theorem spec_l20Fill_step (n : Nat) (h46 : Sound Tryd.prog 46 (F_spec_l20Fill_fuel n)) : Sound Tryd.prog 46 (F_spec_l20Fill_fuel (n + 1)) := by
  refine fn_sound' (C := spec_l20Fill_ctx n) (c := bodyOf Tryd.f46) (cok_of tys_ok (List.forall_mem_cons.2 ⟨spec_l20Rd_pick_sound, List.forall_mem_cons.2 ⟨h46, by simp⟩⟩) (List.forall_mem_cons.2 ⟨Tryd.call18, List.forall_mem_cons.2 ⟨Tryd.call46, by simp⟩⟩) (by kernel_rfl)) Tryd.func46 (by kernel_rfl) LL spec_l20Fill_an ?_
  intro avs H r H' h
  unfold F_spec_l20Fill_fuel at h
  split at h
  · refine Awp.cast ?_ ?_ ?_ (spec_l20Fill_e n _ _ _ _ _ _ h) <;> kernel_rfl
  · simp [Ans.no, Ans.run] at h

theorem spec_l20Fill_null : Sound Tryd.prog 46 (F_spec_l20Fill_fuel 0) := by
  intro avs H r H' h
  unfold F_spec_l20Fill_fuel at h
  split at h
  · simp [spec_l20Fill_fuel, spec_l20Fill_knot, Ans.run] at h
  · simp [Ans.no, Ans.run] at h

theorem spec_l20Fill_knot_all : ∀ n, Sound Tryd.prog 46 (F_spec_l20Fill_fuel n)
  | 0 => spec_l20Fill_null
  | n + 1 => by
    have h46 := spec_l20Fill_knot_all n
    exact spec_l20Fill_step n h46

def F_spec_l20Fill : Fun := fun avs H =>
  match avs, H with
  | [.ptr 0 0, .slc 1, .dat (.int .i64) x4818, .dat (.int .i64) x4819, .dat (.int .i64) x4820], [some (.box [.dat (.list (.int .u8)) x4821, .dat (.int .i64) x4822]), some (.seq (.int .i64) x4823)] => ⟨_, spec_l20Fill x4818 x4819 x4820 x4821 x4822 x4823, fun (t : Int × (List Int)) => (.tup [], [some (.box [.dat (.list (.int .u8)) x4821, .dat (.int .i64) t.1]), some (.seq (.int .i64) t.2)]), [], none⟩
  | _, _ => Ans.no

theorem spec_l20Fill_sound : Sound Tryd.prog 46 F_spec_l20Fill := by
  have e : F_spec_l20Fill = F_spec_l20Fill_fuel RR := by
    funext avs H
    unfold F_spec_l20Fill F_spec_l20Fill_fuel
    split <;> first | rfl | (simp only [spec_l20Fill])
  rw [e]
  exact (spec_l20Fill_knot_all RR)

/-! loop.example/headtrees/spec.l20Flat -/

def spec_l20Flat_an : Ann := (.seq (.leaf [0, 1]) (.seq (.seq (.leaf [0, 1, 9]) (.cond (.seq (.leaf [4]) (.leaf [4])) (.leaf [0]))) (.seq (.leaf [0, 5]) (.seq (.leaf [0, 5, 6]) (.seq (.leaf [6]) (.seq (.leaf [4]) (.leaf [4])))))))

noncomputable def spec_l20Flat_ctx : Ctx := ⟨tlook tys, olook [(18, F_spec_l20Rd_pick), (45, F_spec_l20Tree), (46, F_spec_l20Fill)], ioF, 1, false, []⟩

theorem spec_l20Flat_n1_l (x4218 : Int) (x4219 : List Int) (x4220 : Int) : Link spec_l20Flat_ctx LL (bodyOf Tryd.f29) spec_l20Flat_an (⟨mkE 23 0 [(0, .ptr 0 0), (1, .dat (.int .i64) x4218)], [some (.box [.dat (.list (.int .u8)) x4219, .dat (.int .i64) x4220])]⟩ : St) (spec_l20Flat_n1 x4218 x4219 x4220) (fun (t : Int × (List Int)) => (Exit.ret, (⟨mkE 23 0 [(4, .slc 1)], [some (.box [.dat (.list (.int .u8)) x4219, .dat (.int .i64) t.1]), some (.seq (.int .i64) t.2)]⟩ : St))) := by
  refine Link.of fun K h => ?_
  simp only [spec_l20Flat_n1, wpO_bind, wpO_cond, wpO_map, wpO_some] at h
  exact Awp.of (by kernel_rfl) h

theorem spec_l20Flat_e (x4218 : Int) (x4219 : List Int) (x4220 : Int) {r : AV} {H' : Heap} (h : (Ans.mk _ (spec_l20Flat x4218 x4219 x4220) (fun (t : Int × (List Int)) => (.slc 1, [some (.box [.dat (.list (.int .u8)) x4219, .dat (.int .i64) t.1]), some (.seq (.int .i64) t.2)])) [] none).run = some (r, H')) : Awp spec_l20Flat_ctx LL (bodyOf Tryd.f29) spec_l20Flat_an (⟨mkE 23 0 [(0, .ptr 0 0), (1, .dat (.int .i64) x4218)], [some (.box [.dat (.list (.int .u8)) x4219, .dat (.int .i64) x4220])]⟩ : St) (Ret (tlook tys) Tryd.f29.results.toList r H') :=
  ret_of' (spec_l20Flat_n1_l x4218 x4219 x4220) (by unfold spec_l20Flat; kernel_rfl) (by
  intro t
  exact ret_mk [.slc 1] (by kernel_rfl) (by kernel_rfl) (by kernel_rfl) (by kernel_rfl)) h

def F_spec_l20Flat : Fun := fun avs H =>
  match avs, H with
  | [.ptr 0 0, .dat (.int .i64) x4218], [some (.box [.dat (.list (.int .u8)) x4219, .dat (.int .i64) x4220])] => ⟨_, spec_l20Flat x4218 x4219 x4220, fun (t : Int × (List Int)) => (.slc 1, [some (.box [.dat (.list (.int .u8)) x4219, .dat (.int .i64) t.1]), some (.seq (.int .i64) t.2)]), [], none⟩
  | _, _ => Ans.no

theorem spec_l20Flat_sound : Sound Tryd.prog 29 F_spec_l20Flat := by
  refine fn_sound' (C := spec_l20Flat_ctx) (c := bodyOf Tryd.f29) (cok_of tys_ok (List.forall_mem_cons.2 ⟨spec_l20Rd_pick_sound, List.forall_mem_cons.2 ⟨spec_l20Tree_sound, List.forall_mem_cons.2 ⟨spec_l20Fill_sound, by simp⟩⟩⟩) (List.forall_mem_cons.2 ⟨Tryd.call18, List.forall_mem_cons.2 ⟨Tryd.call45, List.forall_mem_cons.2 ⟨Tryd.call46, by simp⟩⟩⟩) (by kernel_rfl)) Tryd.func29 (by kernel_rfl) LL spec_l20Flat_an ?_
  intro avs H r H' h
  unfold F_spec_l20Flat at h
  split at h
  · refine Awp.cast ?_ ?_ ?_ (spec_l20Flat_e _ _ _ h) <;> kernel_rfl
  · simp [Ans.no, Ans.run] at h

/-! loop.example/headtrees/spec.DrawMovesFor -/

def spec_DrawMovesFor_an : Ann := (.seq (.leaf [0]) (.seq (.leaf [2]) (.leaf [2])))

noncomputable def spec_DrawMovesFor_ctx : Ctx := ⟨tlook tys, olook [(17, F_spec_l20Open), (29, F_spec_l20Flat)], ioF, 0, false, []⟩

theorem spec_DrawMovesFor_n1_l (x4215 : List Int) : Link spec_DrawMovesFor_ctx LL (bodyOf Tryd.f13) spec_DrawMovesFor_an (⟨mkE 6 0 [(0, .dat (.list (.int .u8)) x4215)], []⟩ : St) (spec_DrawMovesFor_n1 x4215) (fun (t : (List Int)) => (Exit.ret, (⟨mkE 6 0 [(2, .slc 0)], [some (.seq (.int .i64) t)]⟩ : St))) := by
  refine Link.of fun K h => ?_
  simp only [spec_DrawMovesFor_n1, wpO_bind, wpO_cond, wpO_map, wpO_some] at h
  exact Awp.of (by kernel_rfl) h

theorem spec_DrawMovesFor_e (x4215 : List Int) {r : AV} {H' : Heap} (h : (Ans.mk _ (spec_DrawMovesFor x4215) (fun (t : (List Int)) => (.slc 0, [some (.seq (.int .i64) t)])) [] none).run = some (r, H')) : Awp spec_DrawMovesFor_ctx LL (bodyOf Tryd.f13) spec_DrawMovesFor_an (⟨mkE 6 0 [(0, .dat (.list (.int .u8)) x4215)], []⟩ : St) (Ret (tlook tys) Tryd.f13.results.toList r H') :=
  ret_of' (spec_DrawMovesFor_n1_l x4215) (by unfold spec_DrawMovesFor; kernel_rfl) (by
  intro t
  exact ret_mk [.slc 0] (by kernel_rfl) (by kernel_rfl) (by kernel_rfl) (by kernel_rfl)) h

def F_spec_DrawMovesFor : Fun := fun avs H =>
  match avs, H with
  | [.dat (.list (.int .u8)) x4215], [] => ⟨_, spec_DrawMovesFor x4215, fun (t : (List Int)) => (.slc 0, [some (.seq (.int .i64) t)]), [], none⟩
  | _, _ => Ans.no

theorem spec_DrawMovesFor_sound : Sound Tryd.prog 13 F_spec_DrawMovesFor := by
  refine fn_sound' (C := spec_DrawMovesFor_ctx) (c := bodyOf Tryd.f13) (cok_of tys_ok (List.forall_mem_cons.2 ⟨spec_l20Open_sound, List.forall_mem_cons.2 ⟨spec_l20Flat_sound, by simp⟩⟩) (List.forall_mem_cons.2 ⟨Tryd.call17, List.forall_mem_cons.2 ⟨Tryd.call29, by simp⟩⟩) (by kernel_rfl)) Tryd.func13 (by kernel_rfl) LL spec_DrawMovesFor_an ?_
  intro avs H r H' h
  unfold F_spec_DrawMovesFor at h
  split at h
  · refine Awp.cast ?_ ?_ ?_ (spec_DrawMovesFor_e _ h) <;> kernel_rfl
  · simp [Ans.no, Ans.run] at h

/-! loop.example/headtrees/spec.TreeOk -/

def spec_TreeOk_an : Ann := (.seq (.leaf [0]) (.seq (.leaf [0, 3]) (.seq (.seq (.leaf [0, 3, 12]) (.cond (.seq (.leaf [2]) (.leaf [2])) (.leaf [0, 3]))) (.seq (.leaf [0, 3, 4]) (.seq (.seq (.leaf [0, 3, 4, 5]) (.block (.loop (.seq (.seq (.leaf [0, 3, 4, 5, 15]) (.cond (.leaf [0, 3, 4, 5]) (.leaf [4]))) (.seq (.block (.seq (.seq (.leaf [0, 3, 4, 5, 33]) (.cond (.seq (.leaf [2]) (.leaf [2])) (.leaf [0, 3, 4, 5]))) (.seq (.seq (.leaf [0, 3, 4, 5, 38]) (.cond (.leaf [0, 3, 4, 5]) (.leaf [0, 3, 4, 5]))) (.seq (.leaf [0, 3, 4, 5, 6]) (.seq (.seq (.leaf [0, 3, 4, 5, 6, 7]) (.block (.loop (.seq (.seq (.leaf [0, 3, 4, 5, 6, 7, 49]) (.cond (.leaf [0, 3, 4, 5, 6, 7]) (.leaf [0, 3, 4, 5, 6]))) (.seq (.block (.seq (.leaf [0, 3, 4, 5, 6, 7]) (.seq (.leaf [0, 3, 4, 5, 6, 7, 60]) (.cond (.seq (.leaf [2]) (.leaf [2])) (.leaf [0, 3, 4, 5, 6, 7]))))) (.leaf [0, 3, 4, 5, 6, 7])))))) (.seq (.leaf [0, 3, 4, 5, 62]) (.cond (.seq (.leaf [2]) (.leaf [2])) (.leaf [0, 3, 4, 5])))))))) (.leaf [0, 3, 4, 5])))))) (.seq (.leaf [2]) (.leaf [2])))))))

noncomputable def spec_TreeOk_ctx : Ctx := ⟨tlook tys, olook [(21, F_spec_l1In)], ioF, 0, false, []⟩

theorem spec_TreeOk_n1_l (x5014 : List Int) : Link spec_TreeOk_ctx LL (Code.seq (Code.fst (bodyOf Tryd.f47)) (Code.seq (Code.fst (Code.snd (bodyOf Tryd.f47))) (Code.seq (Code.fst (Code.snd (Code.snd (bodyOf Tryd.f47)))) (Code.fst (Code.snd (Code.snd (Code.snd (bodyOf Tryd.f47)))))))) (Ann.seq (Ann.fst spec_TreeOk_an) (Ann.seq (Ann.fst (Ann.snd spec_TreeOk_an)) (Ann.seq (Ann.fst (Ann.snd (Ann.snd spec_TreeOk_an))) (Ann.fst (Ann.snd (Ann.snd (Ann.snd spec_TreeOk_an))))))) (⟨mkE 65 0 [(0, .dat (.list (.int .i64)) x5014)], []⟩ : St) (spec_TreeOk_n1 x5014) (Sum.elim (fun (t : Int) => (Exit.normal, (⟨mkE 65 0 [(0, .dat (.list (.int .i64)) x5014), (3, .dat (.int .i64) t), (4, .dat (.int .i64) 0)], []⟩ : St))) (fun (t : Bool) => (Exit.ret, (⟨mkE 65 0 [(2, .dat .bool t)], []⟩ : St)))) := by
  refine Link.of fun K h => ?_
  simp only [spec_TreeOk_n1, wpO_bind, wpO_cond, wpO_map, wpO_some] at h
  exact Awp.of (by kernel_rfl) h

theorem spec_TreeOk_n2_l (x5014 : List Int) (x5019 : Int) : Link spec_TreeOk_ctx LL (Code.fst (Code.fst (Code.snd (Code.snd (Code.snd (Code.snd (bodyOf Tryd.f47))))))) (Ann.fst (Ann.fst (Ann.snd (Ann.snd (Ann.snd (Ann.snd spec_TreeOk_an)))))) (⟨mkE 65 0 [(0, .dat (.list (.int .i64)) x5014), (3, .dat (.int .i64) x5019), (4, .dat (.int .i64) 0)], []⟩ : St) (spec_TreeOk_n2) (fun (t : Unit) => (Exit.normal, (⟨mkE 65 0 [(0, .dat (.list (.int .i64)) x5014), (3, .dat (.int .i64) x5019), (4, .dat (.int .i64) 0), (5, .dat (.int .i64) 0)], []⟩ : St))) := by
  refine Link.of fun K h => ?_
  simp only [spec_TreeOk_n2, wpO_bind, wpO_cond, wpO_map, wpO_some] at h
  exact Awp.of (by kernel_rfl) h

theorem spec_TreeOk_n3_l (x5014 : List Int) (x5019 : Int) (x5086 : Int) (x5087 : Int) : Link spec_TreeOk_ctx LL (Code.fst (Code.fst (Code.fst (Code.snd (Code.fst (Code.snd (Code.snd (Code.snd (Code.snd (bodyOf Tryd.f47)))))))))) (Ann.fst (Ann.fst (Ann.fst (Ann.snd (Ann.fst (Ann.snd (Ann.snd (Ann.snd (Ann.snd spec_TreeOk_an))))))))) (⟨mkE 65 0 [(0, .dat (.list (.int .i64)) x5014), (3, .dat (.int .i64) x5019), (4, .dat (.int .i64) x5086), (5, .dat (.int .i64) x5087)], []⟩ : St) (spec_TreeOk_n3 x5019 x5086 x5087) (Sum.elim (fun (t : Unit) => (Exit.normal, (⟨mkE 65 0 [(0, .dat (.list (.int .i64)) x5014), (3, .dat (.int .i64) x5019), (4, .dat (.int .i64) x5086), (5, .dat (.int .i64) x5087)], []⟩ : St))) (fun (t : Int) => ((Exit.exit 0), (⟨mkE 65 0 [(4, .dat (.int .i64) t)], []⟩ : St)))) := by
  refine Link.of fun K h => ?_
  simp only [spec_TreeOk_n3, wpO_bind, wpO_cond, wpO_map, wpO_some] at h
  exact Awp.of (by kernel_rfl) h

theorem spec_TreeOk_n4_l (x5014 : List Int) (x5019 : Int) (x5086 : Int) (x5087 : Int) : Link spec_TreeOk_ctx LL (Code.seq (Code.fst (Code.fst (Code.fst (Code.snd (Code.fst (Code.fst (Code.snd (Code.fst (Code.snd (Code.snd (Code.snd (Code.snd (bodyOf Tryd.f47))))))))))))) (Code.seq (Code.fst (Code.snd (Code.fst (Code.fst (Code.snd (Code.fst (Code.fst (Code.snd (Code.fst (Code.snd (Code.snd (Code.snd (Code.snd (bodyOf Tryd.f47)))))))))))))) (Code.fst (Code.snd (Code.snd (Code.fst (Code.fst (Code.snd (Code.fst (Code.fst (Code.snd (Code.fst (Code.snd (Code.snd (Code.snd (Code.snd (bodyOf Tryd.f47))))))))))))))))) (Ann.seq (Ann.fst (Ann.fst (Ann.fst (Ann.snd (Ann.fst (Ann.fst (Ann.snd (Ann.fst (Ann.snd (Ann.snd (Ann.snd (Ann.snd spec_TreeOk_an)))))))))))) (Ann.seq (Ann.fst (Ann.snd (Ann.fst (Ann.fst (Ann.snd (Ann.fst (Ann.fst (Ann.snd (Ann.fst (Ann.snd (Ann.snd (Ann.snd (Ann.snd spec_TreeOk_an))))))))))))) (Ann.fst (Ann.snd (Ann.snd (Ann.fst (Ann.fst (Ann.snd (Ann.fst (Ann.fst (Ann.snd (Ann.fst (Ann.snd (Ann.snd (Ann.snd (Ann.snd spec_TreeOk_an)))))))))))))))) (⟨mkE 65 0 [(0, .dat (.list (.int .i64)) x5014), (3, .dat (.int .i64) x5019), (4, .dat (.int .i64) x5086), (5, .dat (.int .i64) x5087)], []⟩ : St) (spec_TreeOk_n4 x5014 x5019 x5086 x5087) (Sum.elim (fun (t : Int × Int) => (Exit.normal, (⟨mkE 65 0 [(0, .dat (.list (.int .i64)) x5014), (3, .dat (.int .i64) x5019), (4, .dat (.int .i64) t.1), (5, .dat (.int .i64) x5087), (6, .dat (.int .i64) t.2)], []⟩ : St))) (fun (t : Bool) => (Exit.ret, (⟨mkE 65 0 [(2, .dat .bool t)], []⟩ : St)))) := by
  refine Link.of fun K h => ?_
  simp only [spec_TreeOk_n4, wpO_bind, wpO_cond, wpO_map, wpO_some] at h
  exact Awp.of (by kernel_rfl) h

theorem spec_TreeOk_n5_l (x5014 : List Int) (x5019 : Int) (x5115 : Int) (x5087 : Int) (x5116 : Int) : Link spec_TreeOk_ctx LL (Code.fst (Code.fst (Code.snd (Code.snd (Code.snd (Code.fst (Code.fst (Code.snd (Code.fst (Code.fst (Code.snd (Code.fst (Code.snd (Code.snd (Code.snd (Code.snd (bodyOf Tryd.f47))))))))))))))))) (Ann.fst (Ann.fst (Ann.snd (Ann.snd (Ann.snd (Ann.fst (Ann.fst (Ann.snd (Ann.fst (Ann.fst (Ann.snd (Ann.fst (Ann.snd (Ann.snd (Ann.snd (Ann.snd spec_TreeOk_an)))))))))))))))) (⟨mkE 65 0 [(0, .dat (.list (.int .i64)) x5014), (3, .dat (.int .i64) x5019), (4, .dat (.int .i64) x5115), (5, .dat (.int .i64) x5087), (6, .dat (.int .i64) x5116)], []⟩ : St) (spec_TreeOk_n5) (fun (t : Unit) => (Exit.normal, (⟨mkE 65 0 [(0, .dat (.list (.int .i64)) x5014), (3, .dat (.int .i64) x5019), (4, .dat (.int .i64) x5115), (5, .dat (.int .i64) x5087), (6, .dat (.int .i64) x5116), (7, .dat (.int .i64) 0)], []⟩ : St))) := by
  refine Link.of fun K h => ?_
  simp only [spec_TreeOk_n5, wpO_bind, wpO_cond, wpO_map, wpO_some] at h
  exact Awp.of (by kernel_rfl) h

theorem spec_TreeOk_n6_l (x5014 : List Int) (x5019 : Int) (x5115 : Int) (x5087 : Int) (x5132 : Int) (x5133 : Int) : Link spec_TreeOk_ctx LL (Code.fst (Code.fst (Code.snd (Code.fst (Code.snd (Code.snd (Code.snd (Code.fst (Code.fst (Code.snd (Code.fst (Code.fst (Code.snd (Code.fst (Code.snd (Code.snd (Code.snd (Code.snd (bodyOf Tryd.f47))))))))))))))))))) (Ann.fst (Ann.fst (Ann.snd (Ann.fst (Ann.snd (Ann.snd (Ann.snd (Ann.fst (Ann.fst (Ann.snd (Ann.fst (Ann.fst (Ann.snd (Ann.fst (Ann.snd (Ann.snd (Ann.snd (Ann.snd spec_TreeOk_an)))))))))))))))))) (⟨mkE 65 0 [(0, .dat (.list (.int .i64)) x5014), (3, .dat (.int .i64) x5019), (4, .dat (.int .i64) x5115), (5, .dat (.int .i64) x5087), (6, .dat (.int .i64) x5132), (7, .dat (.int .i64) x5133)], []⟩ : St) (spec_TreeOk_n6 x5014 x5019 x5132 x5133) (Sum.elim (fun (t : Int × Int) => (Exit.normal, (⟨mkE 65 0 [(0, .dat (.list (.int .i64)) x5014), (3, .dat (.int .i64) x5019), (4, .dat (.int .i64) x5115), (5, .dat (.int .i64) x5087), (6, .dat (.int .i64) t.1), (7, .dat (.int .i64) t.2)], []⟩ : St))) (Sum.elim (fun (t : Bool) => (Exit.ret, (⟨mkE 65 0 [(2, .dat .bool t)], []⟩ : St))) (fun (t : Int) => ((Exit.exit 2), (⟨mkE 65 0 [(0, .dat (.list (.int .i64)) x5014), (3, .dat (.int .i64) x5019), (4, .dat (.int .i64) x5115), (5, .dat (.int .i64) x5087), (6, .dat (.int .i64) t)], []⟩ : St))))) := by
  refine Link.of fun K h => ?_
  simp only [spec_TreeOk_n6, wpO_bind, wpO_cond, wpO_map, wpO_some] at h
  exact Awp.of (by kernel_rfl) h

theorem spec_TreeOk_n7_l (x5014 : List Int) (x5019 : Int) (x5115 : Int) (x5087 : Int) (x5116 : Int) : Link spec_TreeOk_ctx LL (Code.fst (Code.snd (Code.fst (Code.snd (Code.snd (Code.snd (Code.fst (Code.fst (Code.snd (Code.fst (Code.fst (Code.snd (Code.fst (Code.snd (Code.snd (Code.snd (Code.snd (bodyOf Tryd.f47)))))))))))))))))) (Ann.fst (Ann.snd (Ann.fst (Ann.snd (Ann.snd (Ann.snd (Ann.fst (Ann.fst (Ann.snd (Ann.fst (Ann.fst (Ann.snd (Ann.fst (Ann.snd (Ann.snd (Ann.snd (Ann.snd spec_TreeOk_an))))))))))))))))) (⟨mkE 65 0 [(0, .dat (.list (.int .i64)) x5014), (3, .dat (.int .i64) x5019), (4, .dat (.int .i64) x5115), (5, .dat (.int .i64) x5087), (6, .dat (.int .i64) x5116), (7, .dat (.int .i64) 0)], []⟩ : St) (spec_TreeOk_n7 x5014 x5019 x5116) (Sum.elim (fun (t : Bool) => (Exit.ret, (⟨mkE 65 0 [(2, .dat .bool t)], []⟩ : St))) (fun (t : Int) => ((Exit.exit 2), (⟨mkE 65 0 [(0, .dat (.list (.int .i64)) x5014), (3, .dat (.int .i64) x5019), (4, .dat (.int .i64) x5115), (5, .dat (.int .i64) x5087), (6, .dat (.int .i64) t)], []⟩ : St)))) := by
  unfold spec_TreeOk_n7
  exact Link.cast (by kernel_rfl) (by kernel_rfl) (link_loop (mk := fun (s : Int × Int) => (⟨mkE 65 0 [(0, .dat (.list (.int .i64)) x5014), (3, .dat (.int .i64) x5019), (4, .dat (.int .i64) x5115), (5, .dat (.int .i64) x5087), (6, .dat (.int .i64) s.1), (7, .dat (.int .i64) s.2)], []⟩ : St)) (fin := (Sum.elim (fun (t : Bool) => (Exit.ret, (⟨mkE 65 0 [(2, .dat .bool t)], []⟩ : St))) (fun (t : Int) => ((Exit.exit 2), (⟨mkE 65 0 [(0, .dat (.list (.int .i64)) x5014), (3, .dat (.int .i64) x5019), (4, .dat (.int .i64) x5115), (5, .dat (.int .i64) x5087), (6, .dat (.int .i64) t)], []⟩ : St))))) (by
  rintro (t | t) f K h
  · exact h
  · exact h) (fun s => link_map (spec_TreeOk_n6_l x5014 x5019 x5115 x5087 s.1 s.2) (Sum.elim (fun (t : Int × Int) => Sum.inl (t.1, t.2)) (Sum.elim (fun (t : Bool) => Sum.inr (Sum.inl t)) (fun (t : Int) => Sum.inr (Sum.inr t)))) (by
  rintro (t | t | t)
  · kernel_rfl
  · kernel_rfl
  · kernel_rfl)) (x5116, 0))

theorem spec_TreeOk_n8_l (x5014 : List Int) (x5019 : Int) (x5115 : Int) (x5087 : Int) (x5116 : Int) : Link spec_TreeOk_ctx LL (Code.snd (Code.fst (Code.snd (Code.snd (Code.snd (Code.fst (Code.fst (Code.snd (Code.fst (Code.fst (Code.snd (Code.fst (Code.snd (Code.snd (Code.snd (Code.snd (bodyOf Tryd.f47))))))))))))))))) (Ann.snd (Ann.fst (Ann.snd (Ann.snd (Ann.snd (Ann.fst (Ann.fst (Ann.snd (Ann.fst (Ann.fst (Ann.snd (Ann.fst (Ann.snd (Ann.snd (Ann.snd (Ann.snd spec_TreeOk_an)))))))))))))))) (⟨mkE 65 0 [(0, .dat (.list (.int .i64)) x5014), (3, .dat (.int .i64) x5019), (4, .dat (.int .i64) x5115), (5, .dat (.int .i64) x5087), (6, .dat (.int .i64) x5116), (7, .dat (.int .i64) 0)], []⟩ : St) (spec_TreeOk_n8 x5014 x5019 x5116) (Sum.elim (fun (t : Int) => (Exit.normal, (⟨mkE 65 0 [(0, .dat (.list (.int .i64)) x5014), (3, .dat (.int .i64) x5019), (4, .dat (.int .i64) x5115), (5, .dat (.int .i64) x5087), (6, .dat (.int .i64) t)], []⟩ : St))) (fun (t : Bool) => (Exit.ret, (⟨mkE 65 0 [(2, .dat .bool t)], []⟩ : St)))) := by
  unfold spec_TreeOk_n8
  exact Link.cast (by kernel_rfl) (by kernel_rfl) (link_block (id := 2) (spec_TreeOk_n7_l x5014 x5019 x5115 x5087 x5116) (Sum.elim (fun (t : Bool) => (Sum.inr t)) (fun (t : Int) => (Sum.inl t))) (by
  rintro (t | t) K h
  · exact Eq.mp (by kernel_rfl) h
  · exact Eq.mp (by kernel_rfl) h))

theorem spec_TreeOk_n9_l (x5014 : List Int) (x5019 : Int) (x5115 : Int) (x5087 : Int) (x5116 : Int) : Link spec_TreeOk_ctx LL (Code.fst (Code.snd (Code.snd (Code.snd (Code.fst (Code.fst (Code.snd (Code.fst (Code.fst (Code.snd (Code.fst (Code.snd (Code.snd (Code.snd (Code.snd (bodyOf Tryd.f47)))))))))))))))) (Ann.fst (Ann.snd (Ann.snd (Ann.snd (Ann.fst (Ann.fst (Ann.snd (Ann.fst (Ann.fst (Ann.snd (Ann.fst (Ann.snd (Ann.snd (Ann.snd (Ann.snd spec_TreeOk_an))))))))))))))) (⟨mkE 65 0 [(0, .dat (.list (.int .i64)) x5014), (3, .dat (.int .i64) x5019), (4, .dat (.int .i64) x5115), (5, .dat (.int .i64) x5087), (6, .dat (.int .i64) x5116)], []⟩ : St) (spec_TreeOk_n9 x5014 x5019 x5116) (Sum.elim (fun (t : Int) => (Exit.normal, (⟨mkE 65 0 [(0, .dat (.list (.int .i64)) x5014), (3, .dat (.int .i64) x5019), (4, .dat (.int .i64) x5115), (5, .dat (.int .i64) x5087), (6, .dat (.int .i64) t)], []⟩ : St))) (fun (t : Bool) => (Exit.ret, (⟨mkE 65 0 [(2, .dat .bool t)], []⟩ : St)))) := by
  unfold spec_TreeOk_n9
  exact Link.cast (by kernel_rfl) (by kernel_rfl) (link_seq (b := (Code.snd (Code.fst (Code.snd (Code.snd (Code.snd (Code.fst (Code.fst (Code.snd (Code.fst (Code.fst (Code.snd (Code.fst (Code.snd (Code.snd (Code.snd (Code.snd (bodyOf Tryd.f47)))))))))))))))))) (y := (Ann.snd (Ann.fst (Ann.snd (Ann.snd (Ann.snd (Ann.fst (Ann.fst (Ann.snd (Ann.fst (Ann.fst (Ann.snd (Ann.fst (Ann.snd (Ann.snd (Ann.snd (Ann.snd spec_TreeOk_an))))))))))))))))) (spec_TreeOk_n5_l x5014 x5019 x5115 x5087 x5116) (fun (t : Unit) => (spec_TreeOk_n8_l x5014 x5019 x5115 x5087 x5116)))

theorem spec_TreeOk_n10_l (x5014 : List Int) (x5019 : Int) (x5115 : Int) (x5087 : Int) (x5132 : Int) : Link spec_TreeOk_ctx LL (Code.snd (Code.snd (Code.snd (Code.snd (Code.fst (Code.fst (Code.snd (Code.fst (Code.fst (Code.snd (Code.fst (Code.snd (Code.snd (Code.snd (Code.snd (bodyOf Tryd.f47)))))))))))))))) (Ann.snd (Ann.snd (Ann.snd (Ann.snd (Ann.fst (Ann.fst (Ann.snd (Ann.fst (Ann.fst (Ann.snd (Ann.fst (Ann.snd (Ann.snd (Ann.snd (Ann.snd spec_TreeOk_an))))))))))))))) (⟨mkE 65 0 [(0, .dat (.list (.int .i64)) x5014), (3, .dat (.int .i64) x5019), (4, .dat (.int .i64) x5115), (5, .dat (.int .i64) x5087), (6, .dat (.int .i64) x5132)], []⟩ : St) (spec_TreeOk_n10 x5132) (Sum.elim (fun (t : Unit) => (Exit.normal, (⟨mkE 65 0 [(0, .dat (.list (.int .i64)) x5014), (3, .dat (.int .i64) x5019), (4, .dat (.int .i64) x5115), (5, .dat (.int .i64) x5087)], []⟩ : St))) (fun (t : Bool) => (Exit.ret, (⟨mkE 65 0 [(2, .dat .bool t)], []⟩ : St)))) := by
  refine Link.of fun K h => ?_
  simp only [spec_TreeOk_n10, wpO_bind, wpO_cond, wpO_map, wpO_some] at h
  exact Awp.of (by kernel_rfl) h

theorem spec_TreeOk_n11_l (x5014 : List Int) (x5019 : Int) (x5115 : Int) (x5087 : Int) (x5116 : Int) : Link spec_TreeOk_ctx LL (Code.snd (Code.snd (Code.snd (Code.fst (Code.fst (Code.snd (Code.fst (Code.fst (Code.snd (Code.fst (Code.snd (Code.snd (Code.snd (Code.snd (bodyOf Tryd.f47))))))))))))))) (Ann.snd (Ann.snd (Ann.snd (Ann.fst (Ann.fst (Ann.snd (Ann.fst (Ann.fst (Ann.snd (Ann.fst (Ann.snd (Ann.snd (Ann.snd (Ann.snd spec_TreeOk_an)))))))))))))) (⟨mkE 65 0 [(0, .dat (.list (.int .i64)) x5014), (3, .dat (.int .i64) x5019), (4, .dat (.int .i64) x5115), (5, .dat (.int .i64) x5087), (6, .dat (.int .i64) x5116)], []⟩ : St) (spec_TreeOk_n11 x5014 x5019 x5116) (Sum.elim (fun (t : Unit) => (Exit.normal, (⟨mkE 65 0 [(0, .dat (.list (.int .i64)) x5014), (3, .dat (.int .i64) x5019), (4, .dat (.int .i64) x5115), (5, .dat (.int .i64) x5087)], []⟩ : St))) (fun (t : Bool) => (Exit.ret, (⟨mkE 65 0 [(2, .dat .bool t)], []⟩ : St)))) := by
  unfold spec_TreeOk_n11
  exact Link.cast (by kernel_rfl) (by kernel_rfl) (link_seq2 (b := (Code.snd (Code.snd (Code.snd (Code.snd (Code.fst (Code.fst (Code.snd (Code.fst (Code.fst (Code.snd (Code.fst (Code.snd (Code.snd (Code.snd (Code.snd (bodyOf Tryd.f47))))))))))))))))) (y := (Ann.snd (Ann.snd (Ann.snd (Ann.snd (Ann.fst (Ann.fst (Ann.snd (Ann.fst (Ann.fst (Ann.snd (Ann.fst (Ann.snd (Ann.snd (Ann.snd (Ann.snd spec_TreeOk_an)))))))))))))))) (spec_TreeOk_n9_l x5014 x5019 x5115 x5087 x5116) (fun (t : Int) => (spec_TreeOk_n10_l x5014 x5019 x5115 x5087 t)) (fun (t : Bool) => (Sum.inr t)) (by
  rintro t
  · kernel_rfl) (by
  rintro t f K h
  · exact h))

theorem spec_TreeOk_n12_l (x5014 : List Int) (x5019 : Int) (x5086 : Int) (x5087 : Int) : Link spec_TreeOk_ctx LL (Code.fst (Code.fst (Code.snd (Code.fst (Code.fst (Code.snd (Code.fst (Code.snd (Code.snd (Code.snd (Code.snd (bodyOf Tryd.f47)))))))))))) (Ann.fst (Ann.fst (Ann.snd (Ann.fst (Ann.fst (Ann.snd (Ann.fst (Ann.snd (Ann.snd (Ann.snd (Ann.snd spec_TreeOk_an))))))))))) (⟨mkE 65 0 [(0, .dat (.list (.int .i64)) x5014), (3, .dat (.int .i64) x5019), (4, .dat (.int .i64) x5086), (5, .dat (.int .i64) x5087)], []⟩ : St) (spec_TreeOk_n12 x5014 x5019 x5086 x5087) (Sum.elim (fun (t : Int) => (Exit.normal, (⟨mkE 65 0 [(0, .dat (.list (.int .i64)) x5014), (3, .dat (.int .i64) x5019), (4, .dat (.int .i64) t), (5, .dat (.int .i64) x5087)], []⟩ : St))) (fun (t : Bool) => (Exit.ret, (⟨mkE 65 0 [(2, .dat .bool t)], []⟩ : St)))) := by
  unfold spec_TreeOk_n12
  exact Link.cast (by kernel_rfl) (by kernel_rfl) (link_group (c := (Code.fst (Code.snd (Code.snd (Code.fst (Code.fst (Code.snd (Code.fst (Code.fst (Code.snd (Code.fst (Code.snd (Code.snd (Code.snd (Code.snd (bodyOf Tryd.f47)))))))))))))))) (a := (Ann.fst (Ann.snd (Ann.snd (Ann.fst (Ann.fst (Ann.snd (Ann.fst (Ann.fst (Ann.snd (Ann.fst (Ann.snd (Ann.snd (Ann.snd (Ann.snd spec_TreeOk_an))))))))))))))) [(Code.fst (Code.fst (Code.fst (Code.snd (Code.fst (Code.fst (Code.snd (Code.fst (Code.snd (Code.snd (Code.snd (Code.snd (bodyOf Tryd.f47))))))))))))), (Code.fst (Code.snd (Code.fst (Code.fst (Code.snd (Code.fst (Code.fst (Code.snd (Code.fst (Code.snd (Code.snd (Code.snd (Code.snd (bodyOf Tryd.f47))))))))))))))] [(Ann.fst (Ann.fst (Ann.fst (Ann.snd (Ann.fst (Ann.fst (Ann.snd (Ann.fst (Ann.snd (Ann.snd (Ann.snd (Ann.snd spec_TreeOk_an)))))))))))), (Ann.fst (Ann.snd (Ann.fst (Ann.fst (Ann.snd (Ann.fst (Ann.fst (Ann.snd (Ann.fst (Ann.snd (Ann.snd (Ann.snd (Ann.snd spec_TreeOk_an)))))))))))))] rfl (link_seq2 (b := (Code.snd (Code.snd (Code.snd (Code.fst (Code.fst (Code.snd (Code.fst (Code.fst (Code.snd (Code.fst (Code.snd (Code.snd (Code.snd (Code.snd (bodyOf Tryd.f47)))))))))))))))) (y := (Ann.snd (Ann.snd (Ann.snd (Ann.fst (Ann.fst (Ann.snd (Ann.fst (Ann.fst (Ann.snd (Ann.fst (Ann.snd (Ann.snd (Ann.snd (Ann.snd spec_TreeOk_an))))))))))))))) (spec_TreeOk_n4_l x5014 x5019 x5086 x5087) (fun (t : Int × Int) => (link_map (spec_TreeOk_n11_l x5014 x5019 t.1 x5087 t.2) (Sum.elim (fun (u : Unit) => (Sum.inl t.1)) (fun (u : Bool) => (Sum.inr u))) (by
  rintro (t | t)
  · kernel_rfl
  · kernel_rfl))) (fun (t : Bool) => (Sum.inr t)) (by
  rintro t
  · kernel_rfl) (by
  rintro t f K h
  · exact h)))

theorem spec_TreeOk_n13_l (x5014 : List Int) (x5019 : Int) (x5086 : Int) (x5087 : Int) : Link spec_TreeOk_ctx LL (Code.fst (Code.snd (Code.fst (Code.fst (Code.snd (Code.fst (Code.snd (Code.snd (Code.snd (Code.snd (bodyOf Tryd.f47))))))))))) (Ann.fst (Ann.snd (Ann.fst (Ann.fst (Ann.snd (Ann.fst (Ann.snd (Ann.snd (Ann.snd (Ann.snd spec_TreeOk_an)))))))))) (⟨mkE 65 0 [(0, .dat (.list (.int .i64)) x5014), (3, .dat (.int .i64) x5019), (4, .dat (.int .i64) x5086), (5, .dat (.int .i64) x5087)], []⟩ : St) (spec_TreeOk_n13 x5014 x5019 x5086 x5087) (Sum.elim (fun (t : Int) => (Exit.normal, (⟨mkE 65 0 [(0, .dat (.list (.int .i64)) x5014), (3, .dat (.int .i64) x5019), (4, .dat (.int .i64) t), (5, .dat (.int .i64) x5087)], []⟩ : St))) (fun (t : Bool) => (Exit.ret, (⟨mkE 65 0 [(2, .dat .bool t)], []⟩ : St)))) := by
  unfold spec_TreeOk_n13
  exact Link.cast (by kernel_rfl) (by kernel_rfl) (link_block (id := 1) (spec_TreeOk_n12_l x5014 x5019 x5086 x5087) (Sum.elim (fun (t : Int) => (Sum.inl t)) (fun (t : Bool) => (Sum.inr t))) (by
  rintro (t | t) K h
  · exact Eq.mp (by kernel_rfl) h
  · exact Eq.mp (by kernel_rfl) h))

theorem spec_TreeOk_n14_l (x5014 : List Int) (x5019 : Int) (x5115 : Int) (x5087 : Int) : Link spec_TreeOk_ctx LL (Code.snd (Code.snd (Code.fst (Code.fst (Code.snd (Code.fst (Code.snd (Code.snd (Code.snd (Code.snd (bodyOf Tryd.f47))))))))))) (Ann.snd (Ann.snd (Ann.fst (Ann.fst (Ann.snd (Ann.fst (Ann.snd (Ann.snd (Ann.snd (Ann.snd spec_TreeOk_an)))))))))) (⟨mkE 65 0 [(0, .dat (.list (.int .i64)) x5014), (3, .dat (.int .i64) x5019), (4, .dat (.int .i64) x5115), (5, .dat (.int .i64) x5087)], []⟩ : St) (spec_TreeOk_n14 x5087) (fun (t : Int) => (Exit.normal, (⟨mkE 65 0 [(0, .dat (.list (.int .i64)) x5014), (3, .dat (.int .i64) x5019), (4, .dat (.int .i64) x5115), (5, .dat (.int .i64) t)], []⟩ : St))) := by
  refine Link.of fun K h => ?_
  simp only [spec_TreeOk_n14, wpO_bind, wpO_cond, wpO_map, wpO_some] at h
  exact Awp.of (by kernel_rfl) h

theorem spec_TreeOk_n15_l (x5014 : List Int) (x5019 : Int) (x5086 : Int) (x5087 : Int) : Link spec_TreeOk_ctx LL (Code.snd (Code.fst (Code.fst (Code.snd (Code.fst (Code.snd (Code.snd (Code.snd (Code.snd (bodyOf Tryd.f47)))))))))) (Ann.snd (Ann.fst (Ann.fst (Ann.snd (Ann.fst (Ann.snd (Ann.snd (Ann.snd (Ann.snd spec_TreeOk_an))))))))) (⟨mkE 65 0 [(0, .dat (.list (.int .i64)) x5014), (3, .dat (.int .i64) x5019), (4, .dat (.int .i64) x5086), (5, .dat (.int .i64) x5087)], []⟩ : St) (spec_TreeOk_n15 x5014 x5019 x5086 x5087) (Sum.elim (fun (t : Int × Int) => (Exit.normal, (⟨mkE 65 0 [(0, .dat (.list (.int .i64)) x5014), (3, .dat (.int .i64) x5019), (4, .dat (.int .i64) t.1), (5, .dat (.int .i64) t.2)], []⟩ : St))) (fun (t : Bool) => (Exit.ret, (⟨mkE 65 0 [(2, .dat .bool t)], []⟩ : St)))) := by
  unfold spec_TreeOk_n15
  exact Link.cast (by kernel_rfl) (by kernel_rfl) (link_seq2 (b := (Code.snd (Code.snd (Code.fst (Code.fst (Code.snd (Code.fst (Code.snd (Code.snd (Code.snd (Code.snd (bodyOf Tryd.f47)))))))))))) (y := (Ann.snd (Ann.snd (Ann.fst (Ann.fst (Ann.snd (Ann.fst (Ann.snd (Ann.snd (Ann.snd (Ann.snd spec_TreeOk_an))))))))))) (spec_TreeOk_n13_l x5014 x5019 x5086 x5087) (fun (t : Int) => (link_map (spec_TreeOk_n14_l x5014 x5019 t x5087) (fun (u : Int) => (Sum.inl (t, u))) (by
  rintro t
  · kernel_rfl))) (fun (t : Bool) => (Sum.inr t)) (by
  rintro t
  · kernel_rfl) (by
  rintro t f K h
  · exact h))

theorem spec_TreeOk_n16_l (x5014 : List Int) (x5019 : Int) (x5086 : Int) (x5087 : Int) : Link spec_TreeOk_ctx LL (Code.fst (Code.fst (Code.snd (Code.fst (Code.snd (Code.snd (Code.snd (Code.snd (bodyOf Tryd.f47))))))))) (Ann.fst (Ann.fst (Ann.snd (Ann.fst (Ann.snd (Ann.snd (Ann.snd (Ann.snd spec_TreeOk_an)))))))) (⟨mkE 65 0 [(0, .dat (.list (.int .i64)) x5014), (3, .dat (.int .i64) x5019), (4, .dat (.int .i64) x5086), (5, .dat (.int .i64) x5087)], []⟩ : St) (spec_TreeOk_n16 x5014 x5019 x5086 x5087) (Sum.elim (fun (t : Int × Int) => (Exit.normal, (⟨mkE 65 0 [(0, .dat (.list (.int .i64)) x5014), (3, .dat (.int .i64) x5019), (4, .dat (.int .i64) t.1), (5, .dat (.int .i64) t.2)], []⟩ : St))) (Sum.elim (fun (t : Bool) => (Exit.ret, (⟨mkE 65 0 [(2, .dat .bool t)], []⟩ : St))) (fun (t : Int) => ((Exit.exit 0), (⟨mkE 65 0 [(4, .dat (.int .i64) t)], []⟩ : St))))) := by
  unfold spec_TreeOk_n16
  exact Link.cast (by kernel_rfl) (by kernel_rfl) (link_seq2 (b := (Code.snd (Code.fst (Code.fst (Code.snd (Code.fst (Code.snd (Code.snd (Code.snd (Code.snd (bodyOf Tryd.f47))))))))))) (y := (Ann.snd (Ann.fst (Ann.fst (Ann.snd (Ann.fst (Ann.snd (Ann.snd (Ann.snd (Ann.snd spec_TreeOk_an)))))))))) (spec_TreeOk_n3_l x5014 x5019 x5086 x5087) (fun (t : Unit) => (link_map (spec_TreeOk_n15_l x5014 x5019 x5086 x5087) (Sum.elim (fun (t : Int × Int) => (Sum.inl (t.1, t.2))) (fun (t : Bool) => (Sum.inr (Sum.inl t)))) (by
  rintro (t | t)
  · kernel_rfl
  · kernel_rfl))) (fun (t : Int) => (Sum.inr (Sum.inr t))) (by
  rintro t
  · kernel_rfl) (by
  rintro t f K h
  · exact h))

theorem spec_TreeOk_n17_l (x5014 : List Int) (x5019 : Int) : Link spec_TreeOk_ctx LL (Code.fst (Code.snd (Code.fst (Code.snd (Code.snd (Code.snd (Code.snd (bodyOf Tryd.f47)))))))) (Ann.fst (Ann.snd (Ann.fst (Ann.snd (Ann.snd (Ann.snd (Ann.snd spec_TreeOk_an))))))) (⟨mkE 65 0 [(0, .dat (.list (.int .i64)) x5014), (3, .dat (.int .i64) x5019), (4, .dat (.int .i64) 0), (5, .dat (.int .i64) 0)], []⟩ : St) (spec_TreeOk_n17 x5014 x5019) (Sum.elim (fun (t : Bool) => (Exit.ret, (⟨mkE 65 0 [(2, .dat .bool t)], []⟩ : St))) (fun (t : Int) => ((Exit.exit 0), (⟨mkE 65 0 [(4, .dat (.int .i64) t)], []⟩ : St)))) := by
  unfold spec_TreeOk_n17
  exact Link.cast (by kernel_rfl) (by kernel_rfl) (link_loop (mk := fun (s : Int × Int) => (⟨mkE 65 0 [(0, .dat (.list (.int .i64)) x5014), (3, .dat (.int .i64) x5019), (4, .dat (.int .i64) s.1), (5, .dat (.int .i64) s.2)], []⟩ : St)) (fin := (Sum.elim (fun (t : Bool) => (Exit.ret, (⟨mkE 65 0 [(2, .dat .bool t)], []⟩ : St))) (fun (t : Int) => ((Exit.exit 0), (⟨mkE 65 0 [(4, .dat (.int .i64) t)], []⟩ : St))))) (by
  rintro (t | t) f K h
  · exact h
  · exact h) (fun s => link_map (spec_TreeOk_n16_l x5014 x5019 s.1 s.2) (Sum.elim (fun (t : Int × Int) => Sum.inl (t.1, t.2)) (Sum.elim (fun (t : Bool) => Sum.inr (Sum.inl t)) (fun (t : Int) => Sum.inr (Sum.inr t)))) (by
  rintro (t | t | t)
  · kernel_rfl
  · kernel_rfl
  · kernel_rfl)) (0, 0))

theorem spec_TreeOk_n18_l (x5014 : List Int) (x5019 : Int) : Link spec_TreeOk_ctx LL (Code.snd (Code.fst (Code.snd (Code.snd (Code.snd (Code.snd (bodyOf Tryd.f47))))))) (Ann.snd (Ann.fst (Ann.snd (Ann.snd (Ann.snd (Ann.snd spec_TreeOk_an)))))) (⟨mkE 65 0 [(0, .dat (.list (.int .i64)) x5014), (3, .dat (.int .i64) x5019), (4, .dat (.int .i64) 0), (5, .dat (.int .i64) 0)], []⟩ : St) (spec_TreeOk_n18 x5014 x5019) (Sum.elim (fun (t : Int) => (Exit.normal, (⟨mkE 65 0 [(4, .dat (.int .i64) t)], []⟩ : St))) (fun (t : Bool) => (Exit.ret, (⟨mkE 65 0 [(2, .dat .bool t)], []⟩ : St)))) := by
  unfold spec_TreeOk_n18
  exact Link.cast (by kernel_rfl) (by kernel_rfl) (link_block (id := 0) (spec_TreeOk_n17_l x5014 x5019) (Sum.elim (fun (t : Bool) => (Sum.inr t)) (fun (t : Int) => (Sum.inl t))) (by
  rintro (t | t) K h
  · exact Eq.mp (by kernel_rfl) h
  · exact Eq.mp (by kernel_rfl) h))

theorem spec_TreeOk_n19_l (x5014 : List Int) (x5019 : Int) : Link spec_TreeOk_ctx LL (Code.fst (Code.snd (Code.snd (Code.snd (Code.snd (bodyOf Tryd.f47)))))) (Ann.fst (Ann.snd (Ann.snd (Ann.snd (Ann.snd spec_TreeOk_an))))) (⟨mkE 65 0 [(0, .dat (.list (.int .i64)) x5014), (3, .dat (.int .i64) x5019), (4, .dat (.int .i64) 0)], []⟩ : St) (spec_TreeOk_n19 x5014 x5019) (Sum.elim (fun (t : Int) => (Exit.normal, (⟨mkE 65 0 [(4, .dat (.int .i64) t)], []⟩ : St))) (fun (t : Bool) => (Exit.ret, (⟨mkE 65 0 [(2, .dat .bool t)], []⟩ : St)))) := by
  unfold spec_TreeOk_n19
  exact Link.cast (by kernel_rfl) (by kernel_rfl) (link_seq (b := (Code.snd (Code.fst (Code.snd (Code.snd (Code.snd (Code.snd (bodyOf Tryd.f47)))))))) (y := (Ann.snd (Ann.fst (Ann.snd (Ann.snd (Ann.snd (Ann.snd spec_TreeOk_an))))))) (spec_TreeOk_n2_l x5014 x5019) (fun (t : Unit) => (spec_TreeOk_n18_l x5014 x5019)))

theorem spec_TreeOk_n20_l (x5086 : Int) : Link spec_TreeOk_ctx LL (Code.snd (Code.snd (Code.snd (Code.snd (Code.snd (bodyOf Tryd.f47)))))) (Ann.snd (Ann.snd (Ann.snd (Ann.snd (Ann.snd spec_TreeOk_an))))) (⟨mkE 65 0 [(4, .dat (.int .i64) x5086)], []⟩ : St) (spec_TreeOk_n20 x5086) (fun (t : Bool) => (Exit.ret, (⟨mkE 65 0 [(2, .dat .bool t)], []⟩ : St))) := by
  refine Link.of fun K h => ?_
  simp only [spec_TreeOk_n20, wpO_bind, wpO_cond, wpO_map, wpO_some] at h
  exact Awp.of (by kernel_rfl) h

theorem spec_TreeOk_n21_l (x5014 : List Int) (x5019 : Int) : Link spec_TreeOk_ctx LL (Code.snd (Code.snd (Code.snd (Code.snd (bodyOf Tryd.f47))))) (Ann.snd (Ann.snd (Ann.snd (Ann.snd spec_TreeOk_an)))) (⟨mkE 65 0 [(0, .dat (.list (.int .i64)) x5014), (3, .dat (.int .i64) x5019), (4, .dat (.int .i64) 0)], []⟩ : St) (spec_TreeOk_n21 x5014 x5019) (fun (t : Bool) => (Exit.ret, (⟨mkE 65 0 [(2, .dat .bool t)], []⟩ : St))) := by
  unfold spec_TreeOk_n21
  exact Link.cast (by kernel_rfl) (by kernel_rfl) (link_seq2 (b := (Code.snd (Code.snd (Code.snd (Code.snd (Code.snd (bodyOf Tryd.f47))))))) (y := (Ann.snd (Ann.snd (Ann.snd (Ann.snd (Ann.snd spec_TreeOk_an)))))) (spec_TreeOk_n19_l x5014 x5019) (fun (t : Int) => (spec_TreeOk_n20_l t)) (fun (t : Bool) => t) (by
  rintro t
  · kernel_rfl) (by
  rintro t f K h
  · exact h))

theorem spec_TreeOk_n22_l (x5014 : List Int) : Link spec_TreeOk_ctx LL (bodyOf Tryd.f47) spec_TreeOk_an (⟨mkE 65 0 [(0, .dat (.list (.int .i64)) x5014)], []⟩ : St) (spec_TreeOk_n22 x5014) (fun (t : Bool) => (Exit.ret, (⟨mkE 65 0 [(2, .dat .bool t)], []⟩ : St))) := by
  unfold spec_TreeOk_n22
  exact Link.cast (by kernel_rfl) (by kernel_rfl) (link_group (c := (Code.fst (Code.snd (Code.snd (Code.snd (bodyOf Tryd.f47)))))) (a := (Ann.fst (Ann.snd (Ann.snd (Ann.snd spec_TreeOk_an))))) [(Code.fst (bodyOf Tryd.f47)), (Code.fst (Code.snd (bodyOf Tryd.f47))), (Code.fst (Code.snd (Code.snd (bodyOf Tryd.f47))))] [(Ann.fst spec_TreeOk_an), (Ann.fst (Ann.snd spec_TreeOk_an)), (Ann.fst (Ann.snd (Ann.snd spec_TreeOk_an)))] rfl (link_seq2 (b := (Code.snd (Code.snd (Code.snd (Code.snd (bodyOf Tryd.f47)))))) (y := (Ann.snd (Ann.snd (Ann.snd (Ann.snd spec_TreeOk_an))))) (spec_TreeOk_n1_l x5014) (fun (t : Int) => (spec_TreeOk_n21_l x5014 t)) (fun (t : Bool) => t) (by
  rintro t
  · kernel_rfl) (by
  rintro t f K h
  · exact h)))

theorem spec_TreeOk_e (x5014 : List Int) {r : AV} {H' : Heap} (h : (Ans.mk _ (spec_TreeOk x5014) (fun (t : Bool) => (.dat .bool t, [])) [] none).run = some (r, H')) : Awp spec_TreeOk_ctx LL (bodyOf Tryd.f47) spec_TreeOk_an (⟨mkE 65 0 [(0, .dat (.list (.int .i64)) x5014)], []⟩ : St) (Ret (tlook tys) Tryd.f47.results.toList r H') :=
  ret_of' (spec_TreeOk_n22_l x5014) (by unfold spec_TreeOk; kernel_rfl) (by
  intro t
  exact ret_mk [.dat .bool t] (by kernel_rfl) (by kernel_rfl) (by kernel_rfl) (by kernel_rfl)) h

def F_spec_TreeOk : Fun := fun avs H =>
  match avs, H with
  | [.dat (.list (.int .i64)) x5014], [] => ⟨_, spec_TreeOk x5014, fun (t : Bool) => (.dat .bool t, []), [], none⟩
  | _, _ => Ans.no

theorem spec_TreeOk_sound : Sound Tryd.prog 47 F_spec_TreeOk := by
  refine fn_sound' (C := spec_TreeOk_ctx) (c := bodyOf Tryd.f47) (cok_of tys_ok (List.forall_mem_cons.2 ⟨spec_l1In_sound, by simp⟩) (List.forall_mem_cons.2 ⟨Tryd.call21, by simp⟩) (by kernel_rfl)) Tryd.func47 (by kernel_rfl) LL spec_TreeOk_an ?_
  intro avs H r H' h
  unfold F_spec_TreeOk at h
  split at h
  · refine Awp.cast ?_ ?_ ?_ (spec_TreeOk_e _ h) <;> kernel_rfl
  · simp [Ans.no, Ans.run] at h

/-! loop.example/headtrees/spec.l2Yield -/

def spec_l2Yield_an : Ann := (.seq (.leaf [0, 1]) (.seq (.leaf [0, 1, 5]) (.seq (.seq (.leaf [0, 1, 5, 6]) (.block (.loop (.seq (.seq (.leaf [0, 1, 5, 6, 13]) (.cond (.leaf [0, 1, 5, 6]) (.leaf [5]))) (.seq (.block (.seq (.leaf [0, 1, 5, 6, 21]) (.cond (.leaf [0, 1, 5, 6]) (.leaf [0, 1, 5, 6])))) (.leaf [0, 1, 5, 6])))))) (.seq (.leaf [4]) (.leaf [4])))))

def F_spec_l2Yield_fuel (n : Nat) : Fun := fun avs H =>
  match avs, H with
  | [.dat (.list (.int .i64)) x5159, .dat (.int .i64) x5160], [] => ⟨_, spec_l2Yield_fuel n x5159 x5160, fun (t : Int) => (.dat (.int .i64) t, []), [], none⟩
  | _, _ => Ans.no

noncomputable def spec_l2Yield_ctx (n : Nat) : Ctx := ⟨tlook tys, olook [(49, F_spec_l2Yield_fuel n)], ioF, 0, false, []⟩

theorem spec_l2Yield_n1_l (n : Nat) (x5159 : List Int) (x5160 : Int) : Link (spec_l2Yield_ctx n) LL (Code.seq (Code.fst (bodyOf Tryd.f49)) (Code.fst (Code.snd (bodyOf Tryd.f49)))) (Ann.seq (Ann.fst spec_l2Yield_an) (Ann.fst (Ann.snd spec_l2Yield_an))) (⟨mkE 29 0 [(0, .dat (.list (.int .i64)) x5159), (1, .dat (.int .i64) x5160)], []⟩ : St) (spec_l2Yield_n1 (spec_l2Yield_fuel n) x5160) (fun (t : Int) => (Exit.normal, (⟨mkE 29 0 [(0, .dat (.list (.int .i64)) x5159), (1, .dat (.int .i64) x5160), (5, .dat (.int .i64) t)], []⟩ : St))) := by
  refine Link.of fun K h => ?_
  simp only [spec_l2Yield_n1, wpO_bind, wpO_cond, wpO_map, wpO_some] at h
  exact Awp.of (by kernel_rfl) h

theorem spec_l2Yield_n2_l (n : Nat) (x5159 : List Int) (x5160 : Int) (x5191 : Int) : Link (spec_l2Yield_ctx n) LL (Code.fst (Code.fst (Code.snd (Code.snd (bodyOf Tryd.f49))))) (Ann.fst (Ann.fst (Ann.snd (Ann.snd spec_l2Yield_an)))) (⟨mkE 29 0 [(0, .dat (.list (.int .i64)) x5159), (1, .dat (.int .i64) x5160), (5, .dat (.int .i64) x5191)], []⟩ : St) (spec_l2Yield_n2 (spec_l2Yield_fuel n)) (fun (t : Unit) => (Exit.normal, (⟨mkE 29 0 [(0, .dat (.list (.int .i64)) x5159), (1, .dat (.int .i64) x5160), (5, .dat (.int .i64) x5191), (6, .dat (.int .i64) 0)], []⟩ : St))) := by
  refine Link.of fun K h => ?_
  simp only [spec_l2Yield_n2, wpO_bind, wpO_cond, wpO_map, wpO_some] at h
  exact Awp.of (by kernel_rfl) h

theorem spec_l2Yield_n3_l (n : Nat) (x5159 : List Int) (x5160 : Int) (x5212 : Int) (x5213 : Int) : Link (spec_l2Yield_ctx n) LL (Code.fst (Code.fst (Code.snd (Code.fst (Code.snd (Code.snd (bodyOf Tryd.f49))))))) (Ann.fst (Ann.fst (Ann.snd (Ann.fst (Ann.snd (Ann.snd spec_l2Yield_an)))))) (⟨mkE 29 0 [(0, .dat (.list (.int .i64)) x5159), (1, .dat (.int .i64) x5160), (5, .dat (.int .i64) x5212), (6, .dat (.int .i64) x5213)], []⟩ : St) (spec_l2Yield_n3 (spec_l2Yield_fuel n) x5159 x5160 x5212 x5213) (Sum.elim (fun (t : Int × Int) => (Exit.normal, (⟨mkE 29 0 [(0, .dat (.list (.int .i64)) x5159), (1, .dat (.int .i64) x5160), (5, .dat (.int .i64) t.1), (6, .dat (.int .i64) t.2)], []⟩ : St))) (fun (t : Int) => ((Exit.exit 0), (⟨mkE 29 0 [(5, .dat (.int .i64) t)], []⟩ : St)))) := by
  refine Link.of fun K h => ?_
  simp only [spec_l2Yield_n3, wpO_bind, wpO_cond, wpO_map, wpO_some] at h
  exact Awp.of (by kernel_rfl) h

theorem spec_l2Yield_n4_l (n : Nat) (x5159 : List Int) (x5160 : Int) (x5191 : Int) : Link (spec_l2Yield_ctx n) LL (Code.fst (Code.snd (Code.fst (Code.snd (Code.snd (bodyOf Tryd.f49)))))) (Ann.fst (Ann.snd (Ann.fst (Ann.snd (Ann.snd spec_l2Yield_an))))) (⟨mkE 29 0 [(0, .dat (.list (.int .i64)) x5159), (1, .dat (.int .i64) x5160), (5, .dat (.int .i64) x5191), (6, .dat (.int .i64) 0)], []⟩ : St) (spec_l2Yield_n4 (spec_l2Yield_fuel n) x5159 x5160 x5191) (fun (t : Int) => ((Exit.exit 0), (⟨mkE 29 0 [(5, .dat (.int .i64) t)], []⟩ : St))) := by
  unfold spec_l2Yield_n4
  exact Link.cast (by kernel_rfl) (by kernel_rfl) (link_loop (mk := fun (s : Int × Int) => (⟨mkE 29 0 [(0, .dat (.list (.int .i64)) x5159), (1, .dat (.int .i64) x5160), (5, .dat (.int .i64) s.1), (6, .dat (.int .i64) s.2)], []⟩ : St)) (fin := (fun (t : Int) => ((Exit.exit 0), (⟨mkE 29 0 [(5, .dat (.int .i64) t)], []⟩ : St)))) (by
  rintro t f K h
  · exact h) (fun s => link_map (spec_l2Yield_n3_l n x5159 x5160 s.1 s.2) (Sum.elim (fun (t : Int × Int) => Sum.inl (t.1, t.2)) (fun (t : Int) => Sum.inr t)) (by
  rintro (t | t)
  · kernel_rfl
  · kernel_rfl)) (x5191, 0))

theorem spec_l2Yield_n5_l (n : Nat) (x5159 : List Int) (x5160 : Int) (x5191 : Int) : Link (spec_l2Yield_ctx n) LL (Code.snd (Code.fst (Code.snd (Code.snd (bodyOf Tryd.f49))))) (Ann.snd (Ann.fst (Ann.snd (Ann.snd spec_l2Yield_an)))) (⟨mkE 29 0 [(0, .dat (.list (.int .i64)) x5159), (1, .dat (.int .i64) x5160), (5, .dat (.int .i64) x5191), (6, .dat (.int .i64) 0)], []⟩ : St) (spec_l2Yield_n5 (spec_l2Yield_fuel n) x5159 x5160 x5191) (fun (t : Int) => (Exit.normal, (⟨mkE 29 0 [(5, .dat (.int .i64) t)], []⟩ : St))) := by
  unfold spec_l2Yield_n5
  exact Link.cast (by kernel_rfl) (by kernel_rfl) (link_block (id := 0) (spec_l2Yield_n4_l n x5159 x5160 x5191) (fun (t : Int) => t) (by
  rintro t K h
  · exact Eq.mp (by kernel_rfl) h))

theorem spec_l2Yield_n6_l (n : Nat) (x5159 : List Int) (x5160 : Int) (x5191 : Int) : Link (spec_l2Yield_ctx n) LL (Code.fst (Code.snd (Code.snd (bodyOf Tryd.f49)))) (Ann.fst (Ann.snd (Ann.snd spec_l2Yield_an))) (⟨mkE 29 0 [(0, .dat (.list (.int .i64)) x5159), (1, .dat (.int .i64) x5160), (5, .dat (.int .i64) x5191)], []⟩ : St) (spec_l2Yield_n6 (spec_l2Yield_fuel n) x5159 x5160 x5191) (fun (t : Int) => (Exit.normal, (⟨mkE 29 0 [(5, .dat (.int .i64) t)], []⟩ : St))) := by
  unfold spec_l2Yield_n6
  exact Link.cast (by kernel_rfl) (by kernel_rfl) (link_seq (b := (Code.snd (Code.fst (Code.snd (Code.snd (bodyOf Tryd.f49)))))) (y := (Ann.snd (Ann.fst (Ann.snd (Ann.snd spec_l2Yield_an))))) (spec_l2Yield_n2_l n x5159 x5160 x5191) (fun (t : Unit) => (spec_l2Yield_n5_l n x5159 x5160 x5191)))

theorem spec_l2Yield_n7_l (n : Nat) (x5212 : Int) : Link (spec_l2Yield_ctx n) LL (Code.snd (Code.snd (Code.snd (bodyOf Tryd.f49)))) (Ann.snd (Ann.snd (Ann.snd spec_l2Yield_an))) (⟨mkE 29 0 [(5, .dat (.int .i64) x5212)], []⟩ : St) (spec_l2Yield_n7 (spec_l2Yield_fuel n) x5212) (fun (t : Int) => (Exit.ret, (⟨mkE 29 0 [(4, .dat (.int .i64) t)], []⟩ : St))) := by
  refine Link.of fun K h => ?_
  simp only [spec_l2Yield_n7, wpO_bind, wpO_cond, wpO_map, wpO_some] at h
  exact Awp.of (by kernel_rfl) h

theorem spec_l2Yield_n8_l (n : Nat) (x5159 : List Int) (x5160 : Int) (x5191 : Int) : Link (spec_l2Yield_ctx n) LL (Code.snd (Code.snd (bodyOf Tryd.f49))) (Ann.snd (Ann.snd spec_l2Yield_an)) (⟨mkE 29 0 [(0, .dat (.list (.int .i64)) x5159), (1, .dat (.int .i64) x5160), (5, .dat (.int .i64) x5191)], []⟩ : St) (spec_l2Yield_n8 (spec_l2Yield_fuel n) x5159 x5160 x5191) (fun (t : Int) => (Exit.ret, (⟨mkE 29 0 [(4, .dat (.int .i64) t)], []⟩ : St))) := by
  unfold spec_l2Yield_n8
  exact Link.cast (by kernel_rfl) (by kernel_rfl) (link_seq (b := (Code.snd (Code.snd (Code.snd (bodyOf Tryd.f49))))) (y := (Ann.snd (Ann.snd (Ann.snd spec_l2Yield_an)))) (spec_l2Yield_n6_l n x5159 x5160 x5191) (fun (t : Int) => (spec_l2Yield_n7_l n t)))

theorem spec_l2Yield_n9_l (n : Nat) (x5159 : List Int) (x5160 : Int) : Link (spec_l2Yield_ctx n) LL (bodyOf Tryd.f49) spec_l2Yield_an (⟨mkE 29 0 [(0, .dat (.list (.int .i64)) x5159), (1, .dat (.int .i64) x5160)], []⟩ : St) (spec_l2Yield_n9 (spec_l2Yield_fuel n) x5159 x5160) (fun (t : Int) => (Exit.ret, (⟨mkE 29 0 [(4, .dat (.int .i64) t)], []⟩ : St))) := by
  unfold spec_l2Yield_n9
  exact Link.cast (by kernel_rfl) (by kernel_rfl) (link_group (c := (Code.fst (Code.snd (bodyOf Tryd.f49)))) (a := (Ann.fst (Ann.snd spec_l2Yield_an))) [(Code.fst (bodyOf Tryd.f49))] [(Ann.fst spec_l2Yield_an)] rfl (link_seq (b := (Code.snd (Code.snd (bodyOf Tryd.f49)))) (y := (Ann.snd (Ann.snd spec_l2Yield_an))) (spec_l2Yield_n1_l n x5159 x5160) (fun (t : Int) => (spec_l2Yield_n8_l n x5159 x5160 t))))

theorem spec_l2Yield_e (n : Nat) (x5159 : List Int) (x5160 : Int) {r : AV} {H' : Heap} (h : (Ans.mk _ (spec_l2Yield_fuel (n + 1) x5159 x5160) (fun (t : Int) => (.dat (.int .i64) t, [])) [] none).run = some (r, H')) : Awp (spec_l2Yield_ctx n) LL (bodyOf Tryd.f49) spec_l2Yield_an (⟨mkE 29 0 [(0, .dat (.list (.int .i64)) x5159), (1, .dat (.int .i64) x5160)], []⟩ : St) (Ret (tlook tys) Tryd.f49.results.toList r H') :=
  ret_of' (spec_l2Yield_n9_l n x5159 x5160) (by (show _ = _); kernel_rfl) (by
  intro t
  exact ret_mk [.dat (.int .i64) t] (by kernel_rfl) (by kernel_rfl) (by kernel_rfl) (by kernel_rfl)) h

theorem spec_l2Yield_step (n : Nat) (h49 : Sound Tryd.prog 49 (F_spec_l2Yield_fuel n)) : Sound Tryd.prog 49 (F_spec_l2Yield_fuel (n + 1)) := by
  refine fn_sound' (C := spec_l2Yield_ctx n) (c := bodyOf Tryd.f49) (cok_of tys_ok (List.forall_mem_cons.2 ⟨h49, by simp⟩) (List.forall_mem_cons.2 ⟨Tryd.call49, by simp⟩) (by kernel_rfl)) Tryd.func49 (by kernel_rfl) LL spec_l2Yield_an ?_
  intro avs H r H' h
  unfold F_spec_l2Yield_fuel at h
  split at h
  · refine Awp.cast ?_ ?_ ?_ (spec_l2Yield_e n _ _ h) <;> kernel_rfl
  · simp [Ans.no, Ans.run] at h

theorem spec_l2Yield_null : Sound Tryd.prog 49 (F_spec_l2Yield_fuel 0) := by
  intro avs H r H' h
  unfold F_spec_l2Yield_fuel at h
  split at h
  · simp [spec_l2Yield_fuel, spec_l2Yield_knot, Ans.run] at h
  · simp [Ans.no, Ans.run] at h

theorem spec_l2Yield_knot_all : ∀ n, Sound Tryd.prog 49 (F_spec_l2Yield_fuel n)
  | 0 => spec_l2Yield_null
  | n + 1 => by
    have h49 := spec_l2Yield_knot_all n
    exact spec_l2Yield_step n h49

def F_spec_l2Yield : Fun := fun avs H =>
  match avs, H with
  | [.dat (.list (.int .i64)) x5159, .dat (.int .i64) x5160], [] => ⟨_, spec_l2Yield x5159 x5160, fun (t : Int) => (.dat (.int .i64) t, []), [], none⟩
  | _, _ => Ans.no

theorem spec_l2Yield_sound : Sound Tryd.prog 49 F_spec_l2Yield := by
  have e : F_spec_l2Yield = F_spec_l2Yield_fuel RR := by
    funext avs H
    unfold F_spec_l2Yield F_spec_l2Yield_fuel
    split <;> first | rfl | (simp only [spec_l2Yield])
  rw [e]
  exact (spec_l2Yield_knot_all RR)

/-! loop.example/headtrees/spec.l3Row -/

def spec_l3Row_an : Ann := (.seq (.leaf [0]) (.seq (.block (.loop (.seq (.seq (.leaf [0, 5]) (.cond (.leaf [0]) (.leaf [0]))) (.block (.leaf [0]))))) (.seq (.leaf [2]) (.leaf [2]))))

noncomputable def spec_l3Row_ctx : Ctx := ⟨tlook tys, olook [], ioF, 0, false, []⟩

theorem spec_l3Row_n1_l (x5235 : Int) : Link spec_l3Row_ctx LL (Code.fst (bodyOf Tryd.f48)) (Ann.fst spec_l3Row_an) (⟨mkE 13 0 [(0, .dat (.int .i64) x5235)], []⟩ : St) (spec_l3Row_n1) (fun (t : Unit) => (Exit.normal, (⟨mkE 13 0 [(0, .dat (.int .i64) x5235)], []⟩ : St))) := by
  refine Link.of fun K h => ?_
  simp only [spec_l3Row_n1, wpO_bind, wpO_cond, wpO_map, wpO_some] at h
  exact Awp.of (by kernel_rfl) h

theorem spec_l3Row_n2_l (x5241 : Int) : Link spec_l3Row_ctx LL (Code.fst (Code.fst (Code.fst (Code.snd (bodyOf Tryd.f48))))) (Ann.fst (Ann.fst (Ann.fst (Ann.snd spec_l3Row_an)))) (⟨mkE 13 0 [(0, .dat (.int .i64) x5241)], []⟩ : St) (spec_l3Row_n2 x5241) (Sum.elim (fun (t : Int) => (Exit.normal, (⟨mkE 13 0 [(0, .dat (.int .i64) t)], []⟩ : St))) (fun (t : Int) => ((Exit.exit 0), (⟨mkE 13 0 [(0, .dat (.int .i64) t)], []⟩ : St)))) := by
  refine Link.of fun K h => ?_
  simp only [spec_l3Row_n2, wpO_bind, wpO_cond, wpO_map, wpO_some] at h
  exact Awp.of (by kernel_rfl) h

end Go.Rv
