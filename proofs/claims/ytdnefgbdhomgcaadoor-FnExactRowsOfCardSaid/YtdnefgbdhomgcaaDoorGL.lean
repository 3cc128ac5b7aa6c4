/-
  The checked code answers as the plain functions do; written by program. Conditions: none.
-/
import Derived.Test.YtdnefgbdhomgcaaDoorGLa
set_option linter.unusedVariables false
set_option linter.unusedSimpArgs false
set_option maxRecDepth 100000
namespace Go.Rv
open Go.Proofs
def F_impl_wordSet_ends : Fun := fun avs H =>
  match avs, H with
  | [.dat (.int .u64) x2357], [] => ⟨_, impl_wordSet_ends x2357, fun (t : Int) => (.dat (.int .u64) t, [])⟩
  | _, _ => Ans.no

theorem impl_wordSet_ends_sound : Sound Tryd.prog 15 F_impl_wordSet_ends := by
  refine fn_sound' (C := impl_wordSet_ends_ctx) (c := bodyOf Tryd.f15) (cok_of tys_ok (by simp) (by simp) (by kernel_rfl)) Tryd.func15 (by kernel_rfl) LL impl_wordSet_ends_an ?_
  intro avs H r H' h
  unfold F_impl_wordSet_ends at h
  split at h
  · refine Awp.cast ?_ ?_ ?_ (impl_wordSet_ends_e _ h) <;> kernel_rfl
  · simp [Ans.no, Ans.run] at h

/-! (loop.example/headtrees/impl.wordSet).begins -/

def impl_wordSet_begins_an : Ann := (.seq (.leaf [0]) (.seq (.leaf [2]) (.leaf [2])))

noncomputable def impl_wordSet_begins_ctx : Ctx := ⟨tlook tys, olook [], ioF, 0, false⟩

theorem impl_wordSet_begins_n1_l (x2375 : Int) : Link impl_wordSet_begins_ctx LL (bodyOf Tryd.f17) impl_wordSet_begins_an (⟨mkE 7 0 [(0, .dat (.int .u64) x2375)], []⟩ : St) (impl_wordSet_begins_n1 x2375) (fun (t : Int) => (Exit.ret, (⟨mkE 7 0 [(2, .dat (.int .u64) t)], []⟩ : St))) := by
  refine Link.of fun K h => ?_
  simp only [impl_wordSet_begins_n1, wpO_bind, wpO_cond, wpO_map, wpO_some] at h
  exact Awp.of (by kernel_rfl) h

theorem impl_wordSet_begins_e (x2375 : Int) {r : AV} {H' : Heap} (h : (Ans.mk _ (impl_wordSet_begins x2375) (fun (t : Int) => (.dat (.int .u64) t, []))).run = some (r, H')) : Awp impl_wordSet_begins_ctx LL (bodyOf Tryd.f17) impl_wordSet_begins_an (⟨mkE 7 0 [(0, .dat (.int .u64) x2375)], []⟩ : St) (Ret (tlook tys) Tryd.f17.results.toList r H') :=
  ret_of' (impl_wordSet_begins_n1_l x2375) (by unfold impl_wordSet_begins; kernel_rfl) (by
  intro t
  exact ret_mk [.dat (.int .u64) t] (by kernel_rfl) (by kernel_rfl) (by kernel_rfl) (by kernel_rfl)) h

def F_impl_wordSet_begins : Fun := fun avs H =>
  match avs, H with
  | [.dat (.int .u64) x2375], [] => ⟨_, impl_wordSet_begins x2375, fun (t : Int) => (.dat (.int .u64) t, [])⟩
  | _, _ => Ans.no

theorem impl_wordSet_begins_sound : Sound Tryd.prog 17 F_impl_wordSet_begins := by
  refine fn_sound' (C := impl_wordSet_begins_ctx) (c := bodyOf Tryd.f17) (cok_of tys_ok (by simp) (by simp) (by kernel_rfl)) Tryd.func17 (by kernel_rfl) LL impl_wordSet_begins_an ?_
  intro avs H r H' h
  unfold F_impl_wordSet_begins at h
  split at h
  · refine Awp.cast ?_ ?_ ?_ (impl_wordSet_begins_e _ h) <;> kernel_rfl
  · simp [Ans.no, Ans.run] at h

/-! loop.example/headtrees/impl.RowsOf -/

def impl_RowsOf_an : Ann := (.seq (.leaf [0, 1]) (.seq (.seq (.leaf [0, 1, 13]) (.cond (.seq (.leaf [4]) (.leaf [4])) (.leaf [0, 1]))) (.seq (.leaf [5]) (.seq (.leaf [5, 6]) (.seq (.leaf [5, 6, 7]) (.seq (.seq (.leaf [6, 7, 28, 29, 30]) (.block (.loop (.seq (.leaf [6, 7, 28, 29, 30, 31]) (.seq (.cond (.leaf [6, 7, 28, 29, 30]) (.leaf [7])) (.seq (.block (.seq (.leaf [6, 7, 8, 9, 28, 29, 30]) (.leaf [6, 7, 28, 29, 30]))) (.leaf [6, 7, 28, 29, 30]))))))) (.seq (.leaf [4]) (.leaf [4]))))))))

noncomputable def impl_RowsOf_ctx : Ctx := ⟨tlook tys, olook [(13, F_impl_wordOk), (14, F_impl_yieldsOf), (15, F_impl_wordSet_ends), (16, F_impl_wordSet_list), (17, F_impl_wordSet_begins)], ioF, 0, true⟩

theorem impl_RowsOf_n1_l (x1914 : List Int) (x1915 : Int) : Link impl_RowsOf_ctx LL (Code.seq (Code.fst (bodyOf Tryd.f6)) (Code.seq (Code.fst (Code.snd (bodyOf Tryd.f6))) (Code.seq (Code.fst (Code.snd (Code.snd (bodyOf Tryd.f6)))) (Code.seq (Code.fst (Code.snd (Code.snd (Code.snd (bodyOf Tryd.f6))))) (Code.fst (Code.snd (Code.snd (Code.snd (Code.snd (bodyOf Tryd.f6)))))))))) (Ann.seq (Ann.fst impl_RowsOf_an) (Ann.seq (Ann.fst (Ann.snd impl_RowsOf_an)) (Ann.seq (Ann.fst (Ann.snd (Ann.snd impl_RowsOf_an))) (Ann.seq (Ann.fst (Ann.snd (Ann.snd (Ann.snd impl_RowsOf_an)))) (Ann.fst (Ann.snd (Ann.snd (Ann.snd (Ann.snd impl_RowsOf_an))))))))) (⟨mkE 46 0 [(0, .dat (.list (.int .i64)) x1914), (1, .dat (.int .i64) x1915)], []⟩ : St) (impl_RowsOf_n1 x1914 x1915) (Sum.elim (fun (t : Int × (List Int) × (List (List Int))) => (Exit.normal, (⟨mkE 46 0 [(5, .dat (.int .u64) t.1), (6, .slc 0), (7, .slc 1)], [some (.seq (.int .i64) t.2.1), some (.nest (.int .i64) t.2.2 0 [])]⟩ : St))) (fun (t : (List (List Int))) => (Exit.ret, (⟨mkE 46 0 [(4, .slc 0)], [some (.nest (.int .i64) t 0 [])]⟩ : St)))) := by
  refine Link.of fun K h => ?_
  simp only [impl_RowsOf_n1, wpO_bind, wpO_cond, wpO_map, wpO_some] at h
  exact Awp.of (by kernel_rfl) h

theorem impl_RowsOf_n2_l (x2369 : Int) (x2371 : List Int) (x2374 : List (List Int)) : Link impl_RowsOf_ctx LL (Code.fst (Code.fst (Code.snd (Code.snd (Code.snd (Code.snd (Code.snd (bodyOf Tryd.f6)))))))) (Ann.fst (Ann.fst (Ann.snd (Ann.snd (Ann.snd (Ann.snd (Ann.snd impl_RowsOf_an))))))) (⟨mkE 46 0 [(5, .dat (.int .u64) x2369), (6, .slc 0), (7, .slc 1)], [some (.seq (.int .i64) x2371), some (.nest (.int .i64) x2374 0 [])]⟩ : St) (impl_RowsOf_n2 x2369) (fun (t : Int × (List Int)) => (Exit.normal, (⟨mkE 46 0 [(6, .slc 0), (7, .slc 1), (28, .slc 2), (29, .dat (.int .i64) t.1), (30, .dat (.int .i64) 0)], [some (.seq (.int .i64) x2371), some (.nest (.int .i64) x2374 0 []), some (.seq (.int .i64) t.2)]⟩ : St))) := by
  refine Link.of fun K h => ?_
  simp only [impl_RowsOf_n2, wpO_bind, wpO_cond, wpO_map, wpO_some] at h
  exact Awp.of (by kernel_rfl) h

theorem impl_RowsOf_n3_l (x2382 : Int) (x2404 : Int) (x2371 : List Int) (x2405 : List (List Int)) (x2381 : List Int) : Link impl_RowsOf_ctx LL (Code.fst (Code.fst (Code.snd (Code.fst (Code.snd (Code.snd (Code.snd (Code.snd (Code.snd (bodyOf Tryd.f6)))))))))) (Ann.fst (Ann.fst (Ann.snd (Ann.fst (Ann.snd (Ann.snd (Ann.snd (Ann.snd (Ann.snd impl_RowsOf_an))))))))) (⟨mkE 46 0 [(6, .slc 0), (7, .slc 1), (28, .slc 2), (29, .dat (.int .i64) x2382), (30, .dat (.int .i64) x2404)], [some (.seq (.int .i64) x2371), some (.nest (.int .i64) x2405 0 []), some (.seq (.int .i64) x2381)]⟩ : St) (impl_RowsOf_n3 x2382 x2404 x2371 x2405 x2381) (Sum.elim (fun (t : Int × (List (List Int))) => (Exit.normal, (⟨mkE 46 0 [(6, .slc 0), (7, .slc 1), (28, .slc 2), (29, .dat (.int .i64) x2382), (30, .dat (.int .i64) t.1)], [some (.seq (.int .i64) x2371), some (.nest (.int .i64) t.2 0 []), some (.seq (.int .i64) x2381)]⟩ : St))) (fun (t : (List (List Int))) => ((Exit.exit 0), (⟨mkE 46 0 [(7, .slc 0)], [some (.nest (.int .i64) t 0 [])]⟩ : St)))) := by
  refine Link.of fun K h => ?_
  simp only [impl_RowsOf_n3, wpO_bind, wpO_cond, wpO_map, wpO_some] at h
  exact Awp.of (by kernel_rfl) h

theorem impl_RowsOf_n4_l (x2382 : Int) (x2371 : List Int) (x2374 : List (List Int)) (x2381 : List Int) : Link impl_RowsOf_ctx LL (Code.fst (Code.snd (Code.fst (Code.snd (Code.snd (Code.snd (Code.snd (Code.snd (bodyOf Tryd.f6))))))))) (Ann.fst (Ann.snd (Ann.fst (Ann.snd (Ann.snd (Ann.snd (Ann.snd (Ann.snd impl_RowsOf_an)))))))) (⟨mkE 46 0 [(6, .slc 0), (7, .slc 1), (28, .slc 2), (29, .dat (.int .i64) x2382), (30, .dat (.int .i64) 0)], [some (.seq (.int .i64) x2371), some (.nest (.int .i64) x2374 0 []), some (.seq (.int .i64) x2381)]⟩ : St) (impl_RowsOf_n4 x2382 x2371 x2374 x2381) (fun (t : (List (List Int))) => ((Exit.exit 0), (⟨mkE 46 0 [(7, .slc 0)], [some (.nest (.int .i64) t 0 [])]⟩ : St))) := by
  unfold impl_RowsOf_n4
  exact Link.cast (by kernel_rfl) (by kernel_rfl) (link_loop (mk := fun (s : Int × (List (List Int))) => (⟨mkE 46 0 [(6, .slc 0), (7, .slc 1), (28, .slc 2), (29, .dat (.int .i64) x2382), (30, .dat (.int .i64) s.1)], [some (.seq (.int .i64) x2371), some (.nest (.int .i64) s.2 0 []), some (.seq (.int .i64) x2381)]⟩ : St)) (fin := (fun (t : (List (List Int))) => ((Exit.exit 0), (⟨mkE 46 0 [(7, .slc 0)], [some (.nest (.int .i64) t 0 [])]⟩ : St)))) (by
  rintro t f K h
  · exact h) (fun s => link_map (impl_RowsOf_n3_l x2382 s.1 x2371 s.2 x2381) (Sum.elim (fun (t : Int × (List (List Int))) => Sum.inl (t.1, t.2)) (fun (t : (List (List Int))) => Sum.inr t)) (by
  rintro (t | t)
  · kernel_rfl
  · kernel_rfl)) (0, x2374))

theorem impl_RowsOf_n5_l (x2382 : Int) (x2371 : List Int) (x2374 : List (List Int)) (x2381 : List Int) : Link impl_RowsOf_ctx LL (Code.snd (Code.fst (Code.snd (Code.snd (Code.snd (Code.snd (Code.snd (bodyOf Tryd.f6)))))))) (Ann.snd (Ann.fst (Ann.snd (Ann.snd (Ann.snd (Ann.snd (Ann.snd impl_RowsOf_an))))))) (⟨mkE 46 0 [(6, .slc 0), (7, .slc 1), (28, .slc 2), (29, .dat (.int .i64) x2382), (30, .dat (.int .i64) 0)], [some (.seq (.int .i64) x2371), some (.nest (.int .i64) x2374 0 []), some (.seq (.int .i64) x2381)]⟩ : St) (impl_RowsOf_n5 x2382 x2371 x2374 x2381) (fun (t : (List (List Int))) => (Exit.normal, (⟨mkE 46 0 [(7, .slc 0)], [some (.nest (.int .i64) t 0 [])]⟩ : St))) := by
  unfold impl_RowsOf_n5
  exact Link.cast (by kernel_rfl) (by kernel_rfl) (link_block (id := 0) (impl_RowsOf_n4_l x2382 x2371 x2374 x2381) (fun (t : (List (List Int))) => t) (by
  rintro t K h
  · exact Eq.mp (by kernel_rfl) h))

theorem impl_RowsOf_n6_l (x2369 : Int) (x2371 : List Int) (x2374 : List (List Int)) : Link impl_RowsOf_ctx LL (Code.fst (Code.snd (Code.snd (Code.snd (Code.snd (Code.snd (bodyOf Tryd.f6))))))) (Ann.fst (Ann.snd (Ann.snd (Ann.snd (Ann.snd (Ann.snd impl_RowsOf_an)))))) (⟨mkE 46 0 [(5, .dat (.int .u64) x2369), (6, .slc 0), (7, .slc 1)], [some (.seq (.int .i64) x2371), some (.nest (.int .i64) x2374 0 [])]⟩ : St) (impl_RowsOf_n6 x2369 x2371 x2374) (fun (t : (List (List Int))) => (Exit.normal, (⟨mkE 46 0 [(7, .slc 0)], [some (.nest (.int .i64) t 0 [])]⟩ : St))) := by
  unfold impl_RowsOf_n6
  exact Link.cast (by kernel_rfl) (by kernel_rfl) (link_seq (b := (Code.snd (Code.fst (Code.snd (Code.snd (Code.snd (Code.snd (Code.snd (bodyOf Tryd.f6))))))))) (y := (Ann.snd (Ann.fst (Ann.snd (Ann.snd (Ann.snd (Ann.snd (Ann.snd impl_RowsOf_an)))))))) (impl_RowsOf_n2_l x2369 x2371 x2374) (fun (t : Int × (List Int)) => (impl_RowsOf_n5_l t.1 x2371 x2374 t.2)))

theorem impl_RowsOf_n7_l (x2405 : List (List Int)) : Link impl_RowsOf_ctx LL (Code.snd (Code.snd (Code.snd (Code.snd (Code.snd (Code.snd (bodyOf Tryd.f6))))))) (Ann.snd (Ann.snd (Ann.snd (Ann.snd (Ann.snd (Ann.snd impl_RowsOf_an)))))) (⟨mkE 46 0 [(7, .slc 0)], [some (.nest (.int .i64) x2405 0 [])]⟩ : St) (impl_RowsOf_n7 x2405) (fun (t : (List (List Int))) => (Exit.ret, (⟨mkE 46 0 [(4, .slc 0)], [some (.nest (.int .i64) t 0 [])]⟩ : St))) := by
  refine Link.of fun K h => ?_
  simp only [impl_RowsOf_n7, wpO_bind, wpO_cond, wpO_map, wpO_some] at h
  exact Awp.of (by kernel_rfl) h

theorem impl_RowsOf_n8_l (x2369 : Int) (x2371 : List Int) (x2374 : List (List Int)) : Link impl_RowsOf_ctx LL (Code.snd (Code.snd (Code.snd (Code.snd (Code.snd (bodyOf Tryd.f6)))))) (Ann.snd (Ann.snd (Ann.snd (Ann.snd (Ann.snd impl_RowsOf_an))))) (⟨mkE 46 0 [(5, .dat (.int .u64) x2369), (6, .slc 0), (7, .slc 1)], [some (.seq (.int .i64) x2371), some (.nest (.int .i64) x2374 0 [])]⟩ : St) (impl_RowsOf_n8 x2369 x2371 x2374) (fun (t : (List (List Int))) => (Exit.ret, (⟨mkE 46 0 [(4, .slc 0)], [some (.nest (.int .i64) t 0 [])]⟩ : St))) := by
  unfold impl_RowsOf_n8
  exact Link.cast (by kernel_rfl) (by kernel_rfl) (link_seq (b := (Code.snd (Code.snd (Code.snd (Code.snd (Code.snd (Code.snd (bodyOf Tryd.f6)))))))) (y := (Ann.snd (Ann.snd (Ann.snd (Ann.snd (Ann.snd (Ann.snd impl_RowsOf_an))))))) (impl_RowsOf_n6_l x2369 x2371 x2374) (fun (t : (List (List Int))) => (impl_RowsOf_n7_l t)))

theorem impl_RowsOf_n9_l (x1914 : List Int) (x1915 : Int) : Link impl_RowsOf_ctx LL (bodyOf Tryd.f6) impl_RowsOf_an (⟨mkE 46 0 [(0, .dat (.list (.int .i64)) x1914), (1, .dat (.int .i64) x1915)], []⟩ : St) (impl_RowsOf_n9 x1914 x1915) (fun (t : (List (List Int))) => (Exit.ret, (⟨mkE 46 0 [(4, .slc 0)], [some (.nest (.int .i64) t 0 [])]⟩ : St))) := by
  unfold impl_RowsOf_n9
  exact Link.cast (by kernel_rfl) (by kernel_rfl) (link_group (c := (Code.fst (Code.snd (Code.snd (Code.snd (Code.snd (bodyOf Tryd.f6))))))) (a := (Ann.fst (Ann.snd (Ann.snd (Ann.snd (Ann.snd impl_RowsOf_an)))))) [(Code.fst (bodyOf Tryd.f6)), (Code.fst (Code.snd (bodyOf Tryd.f6))), (Code.fst (Code.snd (Code.snd (bodyOf Tryd.f6)))), (Code.fst (Code.snd (Code.snd (Code.snd (bodyOf Tryd.f6)))))] [(Ann.fst impl_RowsOf_an), (Ann.fst (Ann.snd impl_RowsOf_an)), (Ann.fst (Ann.snd (Ann.snd impl_RowsOf_an))), (Ann.fst (Ann.snd (Ann.snd (Ann.snd impl_RowsOf_an))))] rfl (link_seq2 (b := (Code.snd (Code.snd (Code.snd (Code.snd (Code.snd (bodyOf Tryd.f6))))))) (y := (Ann.snd (Ann.snd (Ann.snd (Ann.snd (Ann.snd impl_RowsOf_an)))))) (impl_RowsOf_n1_l x1914 x1915) (fun (t : Int × (List Int) × (List (List Int))) => (impl_RowsOf_n8_l t.1 t.2.1 t.2.2)) (fun (t : (List (List Int))) => t) (by
  rintro t
  · kernel_rfl) (by
  rintro t f K h
  · exact h)))

theorem impl_RowsOf_e (x1914 : List Int) (x1915 : Int) {r : AV} {H' : Heap} (h : (Ans.mk _ (impl_RowsOf x1914 x1915) (fun (t : (List (List Int))) => (.slc 0, [some (.nest (.int .i64) t 0 [])]))).run = some (r, H')) : Awp impl_RowsOf_ctx LL (bodyOf Tryd.f6) impl_RowsOf_an (⟨mkE 46 0 [(0, .dat (.list (.int .i64)) x1914), (1, .dat (.int .i64) x1915)], []⟩ : St) (Ret (tlook tys) Tryd.f6.results.toList r H') :=
  ret_of' (impl_RowsOf_n9_l x1914 x1915) (by unfold impl_RowsOf; kernel_rfl) (by
  intro t
  exact ret_mk [.slc 0] (by kernel_rfl) (by kernel_rfl) (by kernel_rfl) (by kernel_rfl)) h

def F_impl_RowsOf : Fun := fun avs H =>
  match avs, H with
  | [.dat (.list (.int .i64)) x1914, .dat (.int .i64) x1915], [] => ⟨_, impl_RowsOf x1914 x1915, fun (t : (List (List Int))) => (.slc 0, [some (.nest (.int .i64) t 0 [])])⟩
  | _, _ => Ans.no

theorem impl_RowsOf_sound : Sound Tryd.prog 6 F_impl_RowsOf := by
  refine fn_sound' (C := impl_RowsOf_ctx) (c := bodyOf Tryd.f6) (cok_of tys_ok (List.forall_mem_cons.2 ⟨impl_wordOk_sound, List.forall_mem_cons.2 ⟨impl_yieldsOf_sound, List.forall_mem_cons.2 ⟨impl_wordSet_ends_sound, List.forall_mem_cons.2 ⟨impl_wordSet_list_sound, List.forall_mem_cons.2 ⟨impl_wordSet_begins_sound, by simp⟩⟩⟩⟩⟩) (List.forall_mem_cons.2 ⟨Tryd.call13, List.forall_mem_cons.2 ⟨Tryd.call14, List.forall_mem_cons.2 ⟨Tryd.call15, List.forall_mem_cons.2 ⟨Tryd.call16, List.forall_mem_cons.2 ⟨Tryd.call17, by simp⟩⟩⟩⟩⟩) (by kernel_rfl)) Tryd.func6 (by kernel_rfl) LL impl_RowsOf_an ?_
  intro avs H r H' h
  unfold F_impl_RowsOf at h
  split at h
  · refine Awp.cast ?_ ?_ ?_ (impl_RowsOf_e _ _ h) <;> kernel_rfl
  · simp [Ans.no, Ans.run] at h

/-! loop.example/headtrees/laws.eqIntS -/

def laws_eqIntS_an : Ann := (.seq (.leaf [0, 1]) (.seq (.seq (.leaf [0, 1, 10]) (.cond (.seq (.leaf [4]) (.leaf [4])) (.leaf [0, 1]))) (.seq (.seq (.leaf [0, 1, 5]) (.block (.loop (.seq (.seq (.leaf [0, 1, 5, 14]) (.cond (.leaf [0, 1, 5]) (.leaf []))) (.seq (.block (.seq (.draw [] [0, 1, 2, 3, 4, 5, 6, 7, 8] [] [0, 1, 5, 25]) (.cond (.seq (.leaf [4]) (.leaf [4])) (.leaf [0, 1, 5])))) (.leaf [0, 1, 5])))))) (.seq (.leaf [4]) (.leaf [4])))))

noncomputable def laws_eqIntS_ctx : Ctx := ⟨tlook tys, olook [], ioF, 0, false⟩

theorem laws_eqIntS_n1_l (x2446 : List Int) (x2447 : List Int) : Link laws_eqIntS_ctx LL (Code.seq (Code.fst (bodyOf Tryd.f8)) (Code.fst (Code.snd (bodyOf Tryd.f8)))) (Ann.seq (Ann.fst laws_eqIntS_an) (Ann.fst (Ann.snd laws_eqIntS_an))) (⟨mkE 26 0 [(0, .dat (.list (.int .i64)) x2446), (1, .dat (.list (.int .i64)) x2447)], []⟩ : St) (laws_eqIntS_n1 x2446 x2447) (Sum.elim (fun (t : Unit) => (Exit.normal, (⟨mkE 26 0 [(0, .dat (.list (.int .i64)) x2446), (1, .dat (.list (.int .i64)) x2447)], []⟩ : St))) (fun (t : Bool) => (Exit.ret, (⟨mkE 26 0 [(4, .dat .bool t)], []⟩ : St)))) := by
  refine Link.of fun K h => ?_
  simp only [laws_eqIntS_n1, wpO_bind, wpO_cond, wpO_map, wpO_some] at h
  exact Awp.of (by kernel_rfl) h

theorem laws_eqIntS_n2_l (x2446 : List Int) (x2447 : List Int) : Link laws_eqIntS_ctx LL (Code.fst (Code.fst (Code.snd (Code.snd (bodyOf Tryd.f8))))) (Ann.fst (Ann.fst (Ann.snd (Ann.snd laws_eqIntS_an)))) (⟨mkE 26 0 [(0, .dat (.list (.int .i64)) x2446), (1, .dat (.list (.int .i64)) x2447)], []⟩ : St) (laws_eqIntS_n2) (fun (t : Unit) => (Exit.normal, (⟨mkE 26 0 [(0, .dat (.list (.int .i64)) x2446), (1, .dat (.list (.int .i64)) x2447), (5, .dat (.int .i64) 0)], []⟩ : St))) := by
  refine Link.of fun K h => ?_
  simp only [laws_eqIntS_n2, wpO_bind, wpO_cond, wpO_map, wpO_some] at h
  exact Awp.of (by kernel_rfl) h

theorem laws_eqIntS_n3_l (x2446 : List Int) (x2447 : List Int) (x2464 : Int) : Link laws_eqIntS_ctx LL (Code.fst (Code.fst (Code.snd (Code.fst (Code.snd (Code.snd (bodyOf Tryd.f8))))))) (Ann.fst (Ann.fst (Ann.snd (Ann.fst (Ann.snd (Ann.snd laws_eqIntS_an)))))) (⟨mkE 26 0 [(0, .dat (.list (.int .i64)) x2446), (1, .dat (.list (.int .i64)) x2447), (5, .dat (.int .i64) x2464)], []⟩ : St) (laws_eqIntS_n3 x2446 x2447 x2464) (Sum.elim (fun (t : Int) => (Exit.normal, (⟨mkE 26 0 [(0, .dat (.list (.int .i64)) x2446), (1, .dat (.list (.int .i64)) x2447), (5, .dat (.int .i64) t)], []⟩ : St))) (Sum.elim (fun (t : Bool) => (Exit.ret, (⟨mkE 26 0 [(4, .dat .bool t)], []⟩ : St))) (fun (t : Unit) => ((Exit.exit 0), (⟨mkE 26 0 [], []⟩ : St))))) := by
  refine Link.of fun K h => ?_
  simp only [laws_eqIntS_n3, wpO_bind, wpO_cond, wpO_map, wpO_some] at h
  exact Awp.of (by kernel_rfl) h

theorem laws_eqIntS_n4_l (x2446 : List Int) (x2447 : List Int) : Link laws_eqIntS_ctx LL (Code.fst (Code.snd (Code.fst (Code.snd (Code.snd (bodyOf Tryd.f8)))))) (Ann.fst (Ann.snd (Ann.fst (Ann.snd (Ann.snd laws_eqIntS_an))))) (⟨mkE 26 0 [(0, .dat (.list (.int .i64)) x2446), (1, .dat (.list (.int .i64)) x2447), (5, .dat (.int .i64) 0)], []⟩ : St) (laws_eqIntS_n4 x2446 x2447) (Sum.elim (fun (t : Bool) => (Exit.ret, (⟨mkE 26 0 [(4, .dat .bool t)], []⟩ : St))) (fun (t : Unit) => ((Exit.exit 0), (⟨mkE 26 0 [], []⟩ : St)))) := by
  unfold laws_eqIntS_n4
  exact Link.cast (by kernel_rfl) (by kernel_rfl) (link_loop (mk := fun (s : Int) => (⟨mkE 26 0 [(0, .dat (.list (.int .i64)) x2446), (1, .dat (.list (.int .i64)) x2447), (5, .dat (.int .i64) s)], []⟩ : St)) (fin := (Sum.elim (fun (t : Bool) => (Exit.ret, (⟨mkE 26 0 [(4, .dat .bool t)], []⟩ : St))) (fun (t : Unit) => ((Exit.exit 0), (⟨mkE 26 0 [], []⟩ : St))))) (by
  rintro (t | t) f K h
  · exact h
  · exact h) (fun s => link_map (laws_eqIntS_n3_l x2446 x2447 s) (Sum.elim (fun (t : Int) => Sum.inl t) (Sum.elim (fun (t : Bool) => Sum.inr (Sum.inl t)) (fun (t : Unit) => Sum.inr (Sum.inr t)))) (by
  rintro (t | t | t)
  · kernel_rfl
  · kernel_rfl
  · kernel_rfl)) 0)

theorem laws_eqIntS_n5_l (x2446 : List Int) (x2447 : List Int) : Link laws_eqIntS_ctx LL (Code.snd (Code.fst (Code.snd (Code.snd (bodyOf Tryd.f8))))) (Ann.snd (Ann.fst (Ann.snd (Ann.snd laws_eqIntS_an)))) (⟨mkE 26 0 [(0, .dat (.list (.int .i64)) x2446), (1, .dat (.list (.int .i64)) x2447), (5, .dat (.int .i64) 0)], []⟩ : St) (laws_eqIntS_n5 x2446 x2447) (Sum.elim (fun (t : Unit) => (Exit.normal, (⟨mkE 26 0 [], []⟩ : St))) (fun (t : Bool) => (Exit.ret, (⟨mkE 26 0 [(4, .dat .bool t)], []⟩ : St)))) := by
  unfold laws_eqIntS_n5
  exact Link.cast (by kernel_rfl) (by kernel_rfl) (link_block (id := 0) (laws_eqIntS_n4_l x2446 x2447) (Sum.elim (fun (t : Bool) => (Sum.inr t)) (fun (t : Unit) => (Sum.inl ()))) (by
  rintro (t | t) K h
  · exact Eq.mp (by kernel_rfl) h
  · exact Eq.mp (by kernel_rfl) h))

theorem laws_eqIntS_n6_l (x2446 : List Int) (x2447 : List Int) : Link laws_eqIntS_ctx LL (Code.fst (Code.snd (Code.snd (bodyOf Tryd.f8)))) (Ann.fst (Ann.snd (Ann.snd laws_eqIntS_an))) (⟨mkE 26 0 [(0, .dat (.list (.int .i64)) x2446), (1, .dat (.list (.int .i64)) x2447)], []⟩ : St) (laws_eqIntS_n6 x2446 x2447) (Sum.elim (fun (t : Unit) => (Exit.normal, (⟨mkE 26 0 [], []⟩ : St))) (fun (t : Bool) => (Exit.ret, (⟨mkE 26 0 [(4, .dat .bool t)], []⟩ : St)))) := by
  unfold laws_eqIntS_n6
  exact Link.cast (by kernel_rfl) (by kernel_rfl) (link_seq (b := (Code.snd (Code.fst (Code.snd (Code.snd (bodyOf Tryd.f8)))))) (y := (Ann.snd (Ann.fst (Ann.snd (Ann.snd laws_eqIntS_an))))) (laws_eqIntS_n2_l x2446 x2447) (fun (t : Unit) => (laws_eqIntS_n5_l x2446 x2447)))

theorem laws_eqIntS_n7_l : Link laws_eqIntS_ctx LL (Code.snd (Code.snd (Code.snd (bodyOf Tryd.f8)))) (Ann.snd (Ann.snd (Ann.snd laws_eqIntS_an))) (⟨mkE 26 0 [], []⟩ : St) (laws_eqIntS_n7) (fun (t : Bool) => (Exit.ret, (⟨mkE 26 0 [(4, .dat .bool t)], []⟩ : St))) := by
  refine Link.of fun K h => ?_
  simp only [laws_eqIntS_n7, wpO_bind, wpO_cond, wpO_map, wpO_some] at h
  exact Awp.of (by kernel_rfl) h

theorem laws_eqIntS_n8_l (x2446 : List Int) (x2447 : List Int) : Link laws_eqIntS_ctx LL (Code.snd (Code.snd (bodyOf Tryd.f8))) (Ann.snd (Ann.snd laws_eqIntS_an)) (⟨mkE 26 0 [(0, .dat (.list (.int .i64)) x2446), (1, .dat (.list (.int .i64)) x2447)], []⟩ : St) (laws_eqIntS_n8 x2446 x2447) (fun (t : Bool) => (Exit.ret, (⟨mkE 26 0 [(4, .dat .bool t)], []⟩ : St))) := by
  unfold laws_eqIntS_n8
  exact Link.cast (by kernel_rfl) (by kernel_rfl) (link_seq2 (b := (Code.snd (Code.snd (Code.snd (bodyOf Tryd.f8))))) (y := (Ann.snd (Ann.snd (Ann.snd laws_eqIntS_an)))) (laws_eqIntS_n6_l x2446 x2447) (fun (t : Unit) => (laws_eqIntS_n7_l)) (fun (t : Bool) => t) (by
  rintro t
  · kernel_rfl) (by
  rintro t f K h
  · exact h))

theorem laws_eqIntS_n9_l (x2446 : List Int) (x2447 : List Int) : Link laws_eqIntS_ctx LL (bodyOf Tryd.f8) laws_eqIntS_an (⟨mkE 26 0 [(0, .dat (.list (.int .i64)) x2446), (1, .dat (.list (.int .i64)) x2447)], []⟩ : St) (laws_eqIntS_n9 x2446 x2447) (fun (t : Bool) => (Exit.ret, (⟨mkE 26 0 [(4, .dat .bool t)], []⟩ : St))) := by
  unfold laws_eqIntS_n9
  exact Link.cast (by kernel_rfl) (by kernel_rfl) (link_group (c := (Code.fst (Code.snd (bodyOf Tryd.f8)))) (a := (Ann.fst (Ann.snd laws_eqIntS_an))) [(Code.fst (bodyOf Tryd.f8))] [(Ann.fst laws_eqIntS_an)] rfl (link_seq2 (b := (Code.snd (Code.snd (bodyOf Tryd.f8)))) (y := (Ann.snd (Ann.snd laws_eqIntS_an))) (laws_eqIntS_n1_l x2446 x2447) (fun (t : Unit) => (laws_eqIntS_n8_l x2446 x2447)) (fun (t : Bool) => t) (by
  rintro t
  · kernel_rfl) (by
  rintro t f K h
  · exact h)))

theorem laws_eqIntS_e (x2446 : List Int) (x2447 : List Int) {r : AV} {H' : Heap} (h : (Ans.mk _ (laws_eqIntS x2446 x2447) (fun (t : Bool) => (.dat .bool t, []))).run = some (r, H')) : Awp laws_eqIntS_ctx LL (bodyOf Tryd.f8) laws_eqIntS_an (⟨mkE 26 0 [(0, .dat (.list (.int .i64)) x2446), (1, .dat (.list (.int .i64)) x2447)], []⟩ : St) (Ret (tlook tys) Tryd.f8.results.toList r H') :=
  ret_of' (laws_eqIntS_n9_l x2446 x2447) (by unfold laws_eqIntS; kernel_rfl) (by
  intro t
  exact ret_mk [.dat .bool t] (by kernel_rfl) (by kernel_rfl) (by kernel_rfl) (by kernel_rfl)) h

def F_laws_eqIntS : Fun := fun avs H =>
  match avs, H with
  | [.dat (.list (.int .i64)) x2446, .dat (.list (.int .i64)) x2447], [] => ⟨_, laws_eqIntS x2446 x2447, fun (t : Bool) => (.dat .bool t, [])⟩
  | _, _ => Ans.no

theorem laws_eqIntS_sound : Sound Tryd.prog 8 F_laws_eqIntS := by
  refine fn_sound' (C := laws_eqIntS_ctx) (c := bodyOf Tryd.f8) (cok_of tys_ok (by simp) (by simp) (by kernel_rfl)) Tryd.func8 (by kernel_rfl) LL laws_eqIntS_an ?_
  intro avs H r H' h
  unfold F_laws_eqIntS at h
  split at h
  · refine Awp.cast ?_ ?_ ?_ (laws_eqIntS_e _ _ h) <;> kernel_rfl
  · simp [Ans.no, Ans.run] at h

/-! loop.example/headtrees/laws.eqIntSS -/

def laws_eqIntSS_an : Ann := (.seq (.leaf [0, 1]) (.seq (.seq (.leaf [0, 1, 10]) (.cond (.seq (.leaf [4]) (.leaf [4])) (.leaf [0, 1]))) (.seq (.seq (.leaf [0, 1, 5]) (.block (.loop (.seq (.seq (.leaf [0, 1, 5, 14]) (.cond (.leaf [0, 1, 5]) (.leaf []))) (.seq (.block (.seq (.draw [8] [0, 1, 2, 3, 4, 5, 6, 7, 8, 9] [] [0, 1, 5, 26]) (.cond (.seq (.leaf [4]) (.leaf [4])) (.leaf [0, 1, 5])))) (.leaf [0, 1, 5])))))) (.seq (.leaf [4]) (.leaf [4])))))

noncomputable def laws_eqIntSS_ctx : Ctx := ⟨tlook tys, olook [(8, F_laws_eqIntS)], ioF, 0, false⟩

theorem laws_eqIntSS_n1_l (x2435 : List (List Int)) (x2436 : List (List Int)) : Link laws_eqIntSS_ctx LL (Code.seq (Code.fst (bodyOf Tryd.f7)) (Code.fst (Code.snd (bodyOf Tryd.f7)))) (Ann.seq (Ann.fst laws_eqIntSS_an) (Ann.fst (Ann.snd laws_eqIntSS_an))) (⟨mkE 27 0 [(0, .dat (.list (.list (.int .i64))) x2435), (1, .dat (.list (.list (.int .i64))) x2436)], []⟩ : St) (laws_eqIntSS_n1 x2435 x2436) (Sum.elim (fun (t : Unit) => (Exit.normal, (⟨mkE 27 0 [(0, .dat (.list (.list (.int .i64))) x2435), (1, .dat (.list (.list (.int .i64))) x2436)], []⟩ : St))) (fun (t : Bool) => (Exit.ret, (⟨mkE 27 0 [(4, .dat .bool t)], []⟩ : St)))) := by
  refine Link.of fun K h => ?_
  simp only [laws_eqIntSS_n1, wpO_bind, wpO_cond, wpO_map, wpO_some] at h
  exact Awp.of (by kernel_rfl) h

theorem laws_eqIntSS_n2_l (x2435 : List (List Int)) (x2436 : List (List Int)) : Link laws_eqIntSS_ctx LL (Code.fst (Code.fst (Code.snd (Code.snd (bodyOf Tryd.f7))))) (Ann.fst (Ann.fst (Ann.snd (Ann.snd laws_eqIntSS_an)))) (⟨mkE 27 0 [(0, .dat (.list (.list (.int .i64))) x2435), (1, .dat (.list (.list (.int .i64))) x2436)], []⟩ : St) (laws_eqIntSS_n2) (fun (t : Unit) => (Exit.normal, (⟨mkE 27 0 [(0, .dat (.list (.list (.int .i64))) x2435), (1, .dat (.list (.list (.int .i64))) x2436), (5, .dat (.int .i64) 0)], []⟩ : St))) := by
  refine Link.of fun K h => ?_
  simp only [laws_eqIntSS_n2, wpO_bind, wpO_cond, wpO_map, wpO_some] at h
  exact Awp.of (by kernel_rfl) h

theorem laws_eqIntSS_n3_l (x2435 : List (List Int)) (x2436 : List (List Int)) (x2488 : Int) : Link laws_eqIntSS_ctx LL (Code.fst (Code.fst (Code.snd (Code.fst (Code.snd (Code.snd (bodyOf Tryd.f7))))))) (Ann.fst (Ann.fst (Ann.snd (Ann.fst (Ann.snd (Ann.snd laws_eqIntSS_an)))))) (⟨mkE 27 0 [(0, .dat (.list (.list (.int .i64))) x2435), (1, .dat (.list (.list (.int .i64))) x2436), (5, .dat (.int .i64) x2488)], []⟩ : St) (laws_eqIntSS_n3 x2435 x2436 x2488) (Sum.elim (fun (t : Int) => (Exit.normal, (⟨mkE 27 0 [(0, .dat (.list (.list (.int .i64))) x2435), (1, .dat (.list (.list (.int .i64))) x2436), (5, .dat (.int .i64) t)], []⟩ : St))) (Sum.elim (fun (t : Bool) => (Exit.ret, (⟨mkE 27 0 [(4, .dat .bool t)], []⟩ : St))) (fun (t : Unit) => ((Exit.exit 0), (⟨mkE 27 0 [], []⟩ : St))))) := by
  refine Link.of fun K h => ?_
  simp only [laws_eqIntSS_n3, wpO_bind, wpO_cond, wpO_map, wpO_some] at h
  exact Awp.of (by kernel_rfl) h

theorem laws_eqIntSS_n4_l (x2435 : List (List Int)) (x2436 : List (List Int)) : Link laws_eqIntSS_ctx LL (Code.fst (Code.snd (Code.fst (Code.snd (Code.snd (bodyOf Tryd.f7)))))) (Ann.fst (Ann.snd (Ann.fst (Ann.snd (Ann.snd laws_eqIntSS_an))))) (⟨mkE 27 0 [(0, .dat (.list (.list (.int .i64))) x2435), (1, .dat (.list (.list (.int .i64))) x2436), (5, .dat (.int .i64) 0)], []⟩ : St) (laws_eqIntSS_n4 x2435 x2436) (Sum.elim (fun (t : Bool) => (Exit.ret, (⟨mkE 27 0 [(4, .dat .bool t)], []⟩ : St))) (fun (t : Unit) => ((Exit.exit 0), (⟨mkE 27 0 [], []⟩ : St)))) := by
  unfold laws_eqIntSS_n4
  exact Link.cast (by kernel_rfl) (by kernel_rfl) (link_loop (mk := fun (s : Int) => (⟨mkE 27 0 [(0, .dat (.list (.list (.int .i64))) x2435), (1, .dat (.list (.list (.int .i64))) x2436), (5, .dat (.int .i64) s)], []⟩ : St)) (fin := (Sum.elim (fun (t : Bool) => (Exit.ret, (⟨mkE 27 0 [(4, .dat .bool t)], []⟩ : St))) (fun (t : Unit) => ((Exit.exit 0), (⟨mkE 27 0 [], []⟩ : St))))) (by
  rintro (t | t) f K h
  · exact h
  · exact h) (fun s => link_map (laws_eqIntSS_n3_l x2435 x2436 s) (Sum.elim (fun (t : Int) => Sum.inl t) (Sum.elim (fun (t : Bool) => Sum.inr (Sum.inl t)) (fun (t : Unit) => Sum.inr (Sum.inr t)))) (by
  rintro (t | t | t)
  · kernel_rfl
  · kernel_rfl
  · kernel_rfl)) 0)

theorem laws_eqIntSS_n5_l (x2435 : List (List Int)) (x2436 : List (List Int)) : Link laws_eqIntSS_ctx LL (Code.snd (Code.fst (Code.snd (Code.snd (bodyOf Tryd.f7))))) (Ann.snd (Ann.fst (Ann.snd (Ann.snd laws_eqIntSS_an)))) (⟨mkE 27 0 [(0, .dat (.list (.list (.int .i64))) x2435), (1, .dat (.list (.list (.int .i64))) x2436), (5, .dat (.int .i64) 0)], []⟩ : St) (laws_eqIntSS_n5 x2435 x2436) (Sum.elim (fun (t : Unit) => (Exit.normal, (⟨mkE 27 0 [], []⟩ : St))) (fun (t : Bool) => (Exit.ret, (⟨mkE 27 0 [(4, .dat .bool t)], []⟩ : St)))) := by
  unfold laws_eqIntSS_n5
  exact Link.cast (by kernel_rfl) (by kernel_rfl) (link_block (id := 0) (laws_eqIntSS_n4_l x2435 x2436) (Sum.elim (fun (t : Bool) => (Sum.inr t)) (fun (t : Unit) => (Sum.inl ()))) (by
  rintro (t | t) K h
  · exact Eq.mp (by kernel_rfl) h
  · exact Eq.mp (by kernel_rfl) h))

theorem laws_eqIntSS_n6_l (x2435 : List (List Int)) (x2436 : List (List Int)) : Link laws_eqIntSS_ctx LL (Code.fst (Code.snd (Code.snd (bodyOf Tryd.f7)))) (Ann.fst (Ann.snd (Ann.snd laws_eqIntSS_an))) (⟨mkE 27 0 [(0, .dat (.list (.list (.int .i64))) x2435), (1, .dat (.list (.list (.int .i64))) x2436)], []⟩ : St) (laws_eqIntSS_n6 x2435 x2436) (Sum.elim (fun (t : Unit) => (Exit.normal, (⟨mkE 27 0 [], []⟩ : St))) (fun (t : Bool) => (Exit.ret, (⟨mkE 27 0 [(4, .dat .bool t)], []⟩ : St)))) := by
  unfold laws_eqIntSS_n6
  exact Link.cast (by kernel_rfl) (by kernel_rfl) (link_seq (b := (Code.snd (Code.fst (Code.snd (Code.snd (bodyOf Tryd.f7)))))) (y := (Ann.snd (Ann.fst (Ann.snd (Ann.snd laws_eqIntSS_an))))) (laws_eqIntSS_n2_l x2435 x2436) (fun (t : Unit) => (laws_eqIntSS_n5_l x2435 x2436)))

theorem laws_eqIntSS_n7_l : Link laws_eqIntSS_ctx LL (Code.snd (Code.snd (Code.snd (bodyOf Tryd.f7)))) (Ann.snd (Ann.snd (Ann.snd laws_eqIntSS_an))) (⟨mkE 27 0 [], []⟩ : St) (laws_eqIntSS_n7) (fun (t : Bool) => (Exit.ret, (⟨mkE 27 0 [(4, .dat .bool t)], []⟩ : St))) := by
  refine Link.of fun K h => ?_
  simp only [laws_eqIntSS_n7, wpO_bind, wpO_cond, wpO_map, wpO_some] at h
  exact Awp.of (by kernel_rfl) h

theorem laws_eqIntSS_n8_l (x2435 : List (List Int)) (x2436 : List (List Int)) : Link laws_eqIntSS_ctx LL (Code.snd (Code.snd (bodyOf Tryd.f7))) (Ann.snd (Ann.snd laws_eqIntSS_an)) (⟨mkE 27 0 [(0, .dat (.list (.list (.int .i64))) x2435), (1, .dat (.list (.list (.int .i64))) x2436)], []⟩ : St) (laws_eqIntSS_n8 x2435 x2436) (fun (t : Bool) => (Exit.ret, (⟨mkE 27 0 [(4, .dat .bool t)], []⟩ : St))) := by
  unfold laws_eqIntSS_n8
  exact Link.cast (by kernel_rfl) (by kernel_rfl) (link_seq2 (b := (Code.snd (Code.snd (Code.snd (bodyOf Tryd.f7))))) (y := (Ann.snd (Ann.snd (Ann.snd laws_eqIntSS_an)))) (laws_eqIntSS_n6_l x2435 x2436) (fun (t : Unit) => (laws_eqIntSS_n7_l)) (fun (t : Bool) => t) (by
  rintro t
  · kernel_rfl) (by
  rintro t f K h
  · exact h))

theorem laws_eqIntSS_n9_l (x2435 : List (List Int)) (x2436 : List (List Int)) : Link laws_eqIntSS_ctx LL (bodyOf Tryd.f7) laws_eqIntSS_an (⟨mkE 27 0 [(0, .dat (.list (.list (.int .i64))) x2435), (1, .dat (.list (.list (.int .i64))) x2436)], []⟩ : St) (laws_eqIntSS_n9 x2435 x2436) (fun (t : Bool) => (Exit.ret, (⟨mkE 27 0 [(4, .dat .bool t)], []⟩ : St))) := by
  unfold laws_eqIntSS_n9
  exact Link.cast (by kernel_rfl) (by kernel_rfl) (link_group (c := (Code.fst (Code.snd (bodyOf Tryd.f7)))) (a := (Ann.fst (Ann.snd laws_eqIntSS_an))) [(Code.fst (bodyOf Tryd.f7))] [(Ann.fst laws_eqIntSS_an)] rfl (link_seq2 (b := (Code.snd (Code.snd (bodyOf Tryd.f7)))) (y := (Ann.snd (Ann.snd laws_eqIntSS_an))) (laws_eqIntSS_n1_l x2435 x2436) (fun (t : Unit) => (laws_eqIntSS_n8_l x2435 x2436)) (fun (t : Bool) => t) (by
  rintro t
  · kernel_rfl) (by
  rintro t f K h
  · exact h)))

theorem laws_eqIntSS_e (x2435 : List (List Int)) (x2436 : List (List Int)) {r : AV} {H' : Heap} (h : (Ans.mk _ (laws_eqIntSS x2435 x2436) (fun (t : Bool) => (.dat .bool t, []))).run = some (r, H')) : Awp laws_eqIntSS_ctx LL (bodyOf Tryd.f7) laws_eqIntSS_an (⟨mkE 27 0 [(0, .dat (.list (.list (.int .i64))) x2435), (1, .dat (.list (.list (.int .i64))) x2436)], []⟩ : St) (Ret (tlook tys) Tryd.f7.results.toList r H') :=
  ret_of' (laws_eqIntSS_n9_l x2435 x2436) (by unfold laws_eqIntSS; kernel_rfl) (by
  intro t
  exact ret_mk [.dat .bool t] (by kernel_rfl) (by kernel_rfl) (by kernel_rfl) (by kernel_rfl)) h

def F_laws_eqIntSS : Fun := fun avs H =>
  match avs, H with
  | [.dat (.list (.list (.int .i64))) x2435, .dat (.list (.list (.int .i64))) x2436], [] => ⟨_, laws_eqIntSS x2435 x2436, fun (t : Bool) => (.dat .bool t, [])⟩
  | _, _ => Ans.no

theorem laws_eqIntSS_sound : Sound Tryd.prog 7 F_laws_eqIntSS := by
  refine fn_sound' (C := laws_eqIntSS_ctx) (c := bodyOf Tryd.f7) (cok_of tys_ok (List.forall_mem_cons.2 ⟨laws_eqIntS_sound, by simp⟩) (List.forall_mem_cons.2 ⟨Tryd.call8, by simp⟩) (by kernel_rfl)) Tryd.func7 (by kernel_rfl) LL laws_eqIntSS_an ?_
  intro avs H r H' h
  unfold F_laws_eqIntSS at h
  split at h
  · refine Awp.cast ?_ ?_ ?_ (laws_eqIntSS_e _ _ h) <;> kernel_rfl
  · simp [Ans.no, Ans.run] at h

/-! loop.example/headtrees/laws.markIntS -/

def laws_markIntS_an : Ann := (.seq (.leaf [0, 1]) (.seq (.seq (.leaf [0, 1, 5]) (.block (.loop (.seq (.seq (.leaf [0, 1, 5, 9]) (.cond (.leaf [0, 1, 5]) (.leaf [1]))) (.seq (.block (.seq (.leaf [0, 1, 5]) (.leaf [0, 1, 5]))) (.leaf [0, 1, 5])))))) (.seq (.leaf [4]) (.leaf [4]))))

noncomputable def laws_markIntS_ctx : Ctx := ⟨tlook tys, olook [], ioF, 1, false⟩

theorem laws_markIntS_n1_l (x2540 : Int) (x2541 : List Int) : Link laws_markIntS_ctx LL (Code.fst (bodyOf Tryd.f9)) (Ann.fst laws_markIntS_an) (⟨mkE 19 0 [(0, .slc 0), (1, .dat (.int .i64) x2540)], [some (.seq (.int .i64) x2541)]⟩ : St) (laws_markIntS_n1) (fun (t : Unit) => (Exit.normal, (⟨mkE 19 0 [(0, .slc 0), (1, .dat (.int .i64) x2540)], [some (.seq (.int .i64) x2541)]⟩ : St))) := by
  refine Link.of fun K h => ?_
  simp only [laws_markIntS_n1, wpO_bind, wpO_cond, wpO_map, wpO_some] at h
  exact Awp.of (by kernel_rfl) h

theorem laws_markIntS_n2_l (x2540 : Int) (x2541 : List Int) : Link laws_markIntS_ctx LL (Code.fst (Code.fst (Code.snd (bodyOf Tryd.f9)))) (Ann.fst (Ann.fst (Ann.snd laws_markIntS_an))) (⟨mkE 19 0 [(0, .slc 0), (1, .dat (.int .i64) x2540)], [some (.seq (.int .i64) x2541)]⟩ : St) (laws_markIntS_n2) (fun (t : Unit) => (Exit.normal, (⟨mkE 19 0 [(0, .slc 0), (1, .dat (.int .i64) x2540), (5, .dat (.int .i64) 0)], [some (.seq (.int .i64) x2541)]⟩ : St))) := by
  refine Link.of fun K h => ?_
  simp only [laws_markIntS_n2, wpO_bind, wpO_cond, wpO_map, wpO_some] at h
  exact Awp.of (by kernel_rfl) h

theorem laws_markIntS_n3_l (x2555 : Int) (x2556 : Int) (x2557 : List Int) : Link laws_markIntS_ctx LL (Code.fst (Code.fst (Code.snd (Code.fst (Code.snd (bodyOf Tryd.f9)))))) (Ann.fst (Ann.fst (Ann.snd (Ann.fst (Ann.snd laws_markIntS_an))))) (⟨mkE 19 0 [(0, .slc 0), (1, .dat (.int .i64) x2555), (5, .dat (.int .i64) x2556)], [some (.seq (.int .i64) x2557)]⟩ : St) (laws_markIntS_n3 x2555 x2556 x2557) (Sum.elim (fun (t : Int × Int × (List Int)) => (Exit.normal, (⟨mkE 19 0 [(0, .slc 0), (1, .dat (.int .i64) t.1), (5, .dat (.int .i64) t.2.1)], [some (.seq (.int .i64) t.2.2)]⟩ : St))) (fun (t : Int × (List Int)) => ((Exit.exit 0), (⟨mkE 19 0 [(1, .dat (.int .i64) t.1)], [some (.seq (.int .i64) t.2)]⟩ : St)))) := by
  refine Link.of fun K h => ?_
  simp only [laws_markIntS_n3, wpO_bind, wpO_cond, wpO_map, wpO_some] at h
  exact Awp.of (by kernel_rfl) h

theorem laws_markIntS_n4_l (x2540 : Int) (x2541 : List Int) : Link laws_markIntS_ctx LL (Code.fst (Code.snd (Code.fst (Code.snd (bodyOf Tryd.f9))))) (Ann.fst (Ann.snd (Ann.fst (Ann.snd laws_markIntS_an)))) (⟨mkE 19 0 [(0, .slc 0), (1, .dat (.int .i64) x2540), (5, .dat (.int .i64) 0)], [some (.seq (.int .i64) x2541)]⟩ : St) (laws_markIntS_n4 x2540 x2541) (fun (t : Int × (List Int)) => ((Exit.exit 0), (⟨mkE 19 0 [(1, .dat (.int .i64) t.1)], [some (.seq (.int .i64) t.2)]⟩ : St))) := by
  unfold laws_markIntS_n4
  exact Link.cast (by kernel_rfl) (by kernel_rfl) (link_loop (mk := fun (s : Int × Int × (List Int)) => (⟨mkE 19 0 [(0, .slc 0), (1, .dat (.int .i64) s.1), (5, .dat (.int .i64) s.2.1)], [some (.seq (.int .i64) s.2.2)]⟩ : St)) (fin := (fun (t : Int × (List Int)) => ((Exit.exit 0), (⟨mkE 19 0 [(1, .dat (.int .i64) t.1)], [some (.seq (.int .i64) t.2)]⟩ : St)))) (by
  rintro t f K h
  · exact h) (fun s => link_map (laws_markIntS_n3_l s.1 s.2.1 s.2.2) (Sum.elim (fun (t : Int × Int × (List Int)) => Sum.inl (t.1, t.2.1, t.2.2)) (fun (t : Int × (List Int)) => Sum.inr t)) (by
  rintro (t | t)
  · kernel_rfl
  · kernel_rfl)) (x2540, 0, x2541))

theorem laws_markIntS_n5_l (x2540 : Int) (x2541 : List Int) : Link laws_markIntS_ctx LL (Code.snd (Code.fst (Code.snd (bodyOf Tryd.f9)))) (Ann.snd (Ann.fst (Ann.snd laws_markIntS_an))) (⟨mkE 19 0 [(0, .slc 0), (1, .dat (.int .i64) x2540), (5, .dat (.int .i64) 0)], [some (.seq (.int .i64) x2541)]⟩ : St) (laws_markIntS_n5 x2540 x2541) (fun (t : Int × (List Int)) => (Exit.normal, (⟨mkE 19 0 [(1, .dat (.int .i64) t.1)], [some (.seq (.int .i64) t.2)]⟩ : St))) := by
  unfold laws_markIntS_n5
  exact Link.cast (by kernel_rfl) (by kernel_rfl) (link_block (id := 0) (laws_markIntS_n4_l x2540 x2541) (fun (t : Int × (List Int)) => (t.1, t.2)) (by
  rintro t K h
  · exact Eq.mp (by kernel_rfl) h))

theorem laws_markIntS_n6_l (x2540 : Int) (x2541 : List Int) : Link laws_markIntS_ctx LL (Code.fst (Code.snd (bodyOf Tryd.f9))) (Ann.fst (Ann.snd laws_markIntS_an)) (⟨mkE 19 0 [(0, .slc 0), (1, .dat (.int .i64) x2540)], [some (.seq (.int .i64) x2541)]⟩ : St) (laws_markIntS_n6 x2540 x2541) (fun (t : Int × (List Int)) => (Exit.normal, (⟨mkE 19 0 [(1, .dat (.int .i64) t.1)], [some (.seq (.int .i64) t.2)]⟩ : St))) := by
  unfold laws_markIntS_n6
  exact Link.cast (by kernel_rfl) (by kernel_rfl) (link_seq (b := (Code.snd (Code.fst (Code.snd (bodyOf Tryd.f9))))) (y := (Ann.snd (Ann.fst (Ann.snd laws_markIntS_an)))) (laws_markIntS_n2_l x2540 x2541) (fun (t : Unit) => (laws_markIntS_n5_l x2540 x2541)))

theorem laws_markIntS_n7_l (x2555 : Int) (x2557 : List Int) : Link laws_markIntS_ctx LL (Code.snd (Code.snd (bodyOf Tryd.f9))) (Ann.snd (Ann.snd laws_markIntS_an)) (⟨mkE 19 0 [(1, .dat (.int .i64) x2555)], [some (.seq (.int .i64) x2557)]⟩ : St) (laws_markIntS_n7 x2555 x2557) (fun (t : Int × (List Int)) => (Exit.ret, (⟨mkE 19 0 [(4, .dat (.int .i64) t.1)], [some (.seq (.int .i64) t.2)]⟩ : St))) := by
  refine Link.of fun K h => ?_
  simp only [laws_markIntS_n7, wpO_bind, wpO_cond, wpO_map, wpO_some] at h
  exact Awp.of (by kernel_rfl) h

theorem laws_markIntS_n8_l (x2540 : Int) (x2541 : List Int) : Link laws_markIntS_ctx LL (Code.snd (bodyOf Tryd.f9)) (Ann.snd laws_markIntS_an) (⟨mkE 19 0 [(0, .slc 0), (1, .dat (.int .i64) x2540)], [some (.seq (.int .i64) x2541)]⟩ : St) (laws_markIntS_n8 x2540 x2541) (fun (t : Int × (List Int)) => (Exit.ret, (⟨mkE 19 0 [(4, .dat (.int .i64) t.1)], [some (.seq (.int .i64) t.2)]⟩ : St))) := by
  unfold laws_markIntS_n8
  exact Link.cast (by kernel_rfl) (by kernel_rfl) (link_seq (b := (Code.snd (Code.snd (bodyOf Tryd.f9)))) (y := (Ann.snd (Ann.snd laws_markIntS_an))) (laws_markIntS_n6_l x2540 x2541) (fun (t : Int × (List Int)) => (laws_markIntS_n7_l t.1 t.2)))

theorem laws_markIntS_n9_l (x2540 : Int) (x2541 : List Int) : Link laws_markIntS_ctx LL (bodyOf Tryd.f9) laws_markIntS_an (⟨mkE 19 0 [(0, .slc 0), (1, .dat (.int .i64) x2540)], [some (.seq (.int .i64) x2541)]⟩ : St) (laws_markIntS_n9 x2540 x2541) (fun (t : Int × (List Int)) => (Exit.ret, (⟨mkE 19 0 [(4, .dat (.int .i64) t.1)], [some (.seq (.int .i64) t.2)]⟩ : St))) := by
  unfold laws_markIntS_n9
  exact Link.cast (by kernel_rfl) (by kernel_rfl) (link_seq (b := (Code.snd (bodyOf Tryd.f9))) (y := (Ann.snd laws_markIntS_an)) (laws_markIntS_n1_l x2540 x2541) (fun (t : Unit) => (laws_markIntS_n8_l x2540 x2541)))

theorem laws_markIntS_e (x2540 : Int) (x2541 : List Int) {r : AV} {H' : Heap} (h : (Ans.mk _ (laws_markIntS x2540 x2541) (fun (t : Int × (List Int)) => (.dat (.int .i64) t.1, [some (.seq (.int .i64) t.2)]))).run = some (r, H')) : Awp laws_markIntS_ctx LL (bodyOf Tryd.f9) laws_markIntS_an (⟨mkE 19 0 [(0, .slc 0), (1, .dat (.int .i64) x2540)], [some (.seq (.int .i64) x2541)]⟩ : St) (Ret (tlook tys) Tryd.f9.results.toList r H') :=
  ret_of' (laws_markIntS_n9_l x2540 x2541) (by unfold laws_markIntS; kernel_rfl) (by
  intro t
  exact ret_mk [.dat (.int .i64) t.1] (by kernel_rfl) (by kernel_rfl) (by kernel_rfl) (by kernel_rfl)) h

def F_laws_markIntS : Fun := fun avs H =>
  match avs, H with
  | [.slc 0, .dat (.int .i64) x2540], [some (.seq (.int .i64) x2541)] => ⟨_, laws_markIntS x2540 x2541, fun (t : Int × (List Int)) => (.dat (.int .i64) t.1, [some (.seq (.int .i64) t.2)])⟩
  | _, _ => Ans.no

theorem laws_markIntS_sound : Sound Tryd.prog 9 F_laws_markIntS := by
  refine fn_sound' (C := laws_markIntS_ctx) (c := bodyOf Tryd.f9) (cok_of tys_ok (by simp) (by simp) (by kernel_rfl)) Tryd.func9 (by kernel_rfl) LL laws_markIntS_an ?_
  intro avs H r H' h
  unfold F_laws_markIntS at h
  split at h
  · refine Awp.cast ?_ ?_ ?_ (laws_markIntS_e _ _ h) <;> kernel_rfl
  · simp [Ans.no, Ans.run] at h

/-! loop.example/headtrees/laws.markIntSS -/

def laws_markIntSS_an : Ann := (.seq (.leaf [0, 1]) (.seq (.seq (.leaf [0, 1, 5]) (.block (.loop (.seq (.seq (.leaf [0, 1, 5, 9]) (.cond (.leaf [0, 1, 5]) (.leaf [1]))) (.seq (.block (.leafF [⟨7, 0, true, some 0⟩] [0, 1, 5])) (.leaf [0, 1, 5])))))) (.seq (.leaf [4]) (.leaf [4]))))

noncomputable def laws_markIntSS_ctx : Ctx := ⟨tlook tys, olook [(9, F_laws_markIntS)], ioF, 1, true⟩

theorem laws_markIntSS_n1_l (x2625 : Int) (x2626 : List (List Int)) : Link laws_markIntSS_ctx LL (Code.fst (bodyOf Tryd.f10)) (Ann.fst laws_markIntSS_an) (⟨mkE 19 0 [(0, .slc 0), (1, .dat (.int .i64) x2625)], [some (.nest (.int .i64) x2626 0 [])]⟩ : St) (laws_markIntSS_n1) (fun (t : Unit) => (Exit.normal, (⟨mkE 19 0 [(0, .slc 0), (1, .dat (.int .i64) x2625)], [some (.nest (.int .i64) x2626 0 [])]⟩ : St))) := by
  refine Link.of fun K h => ?_
  simp only [laws_markIntSS_n1, wpO_bind, wpO_cond, wpO_map, wpO_some] at h
  exact Awp.of (by kernel_rfl) h

theorem laws_markIntSS_n2_l (x2625 : Int) (x2626 : List (List Int)) : Link laws_markIntSS_ctx LL (Code.fst (Code.fst (Code.snd (bodyOf Tryd.f10)))) (Ann.fst (Ann.fst (Ann.snd laws_markIntSS_an))) (⟨mkE 19 0 [(0, .slc 0), (1, .dat (.int .i64) x2625)], [some (.nest (.int .i64) x2626 0 [])]⟩ : St) (laws_markIntSS_n2) (fun (t : Unit) => (Exit.normal, (⟨mkE 19 0 [(0, .slc 0), (1, .dat (.int .i64) x2625), (5, .dat (.int .i64) 0)], [some (.nest (.int .i64) x2626 0 [])]⟩ : St))) := by
  refine Link.of fun K h => ?_
  simp only [laws_markIntSS_n2, wpO_bind, wpO_cond, wpO_map, wpO_some] at h
  exact Awp.of (by kernel_rfl) h

theorem laws_markIntSS_n3_l (x2658 : Int) (x2659 : Int) (x2660 : List (List Int)) : Link laws_markIntSS_ctx LL (Code.fst (Code.fst (Code.snd (Code.fst (Code.snd (bodyOf Tryd.f10)))))) (Ann.fst (Ann.fst (Ann.snd (Ann.fst (Ann.snd laws_markIntSS_an))))) (⟨mkE 19 0 [(0, .slc 0), (1, .dat (.int .i64) x2658), (5, .dat (.int .i64) x2659)], [some (.nest (.int .i64) x2660 0 [])]⟩ : St) (laws_markIntSS_n3 x2658 x2659 x2660) (Sum.elim (fun (t : Int × Int × (List (List Int))) => (Exit.normal, (⟨mkE 19 0 [(0, .slc 0), (1, .dat (.int .i64) t.1), (5, .dat (.int .i64) t.2.1)], [some (.nest (.int .i64) t.2.2 0 [])]⟩ : St))) (fun (t : Int × (List (List Int))) => ((Exit.exit 0), (⟨mkE 19 0 [(1, .dat (.int .i64) t.1)], [some (.nest (.int .i64) t.2 0 [])]⟩ : St)))) := by
  refine Link.of fun K h => ?_
  simp only [laws_markIntSS_n3, wpO_bind, wpO_cond, wpO_map, wpO_some] at h
  exact Awp.of (by kernel_rfl) h

theorem laws_markIntSS_n4_l (x2625 : Int) (x2626 : List (List Int)) : Link laws_markIntSS_ctx LL (Code.fst (Code.snd (Code.fst (Code.snd (bodyOf Tryd.f10))))) (Ann.fst (Ann.snd (Ann.fst (Ann.snd laws_markIntSS_an)))) (⟨mkE 19 0 [(0, .slc 0), (1, .dat (.int .i64) x2625), (5, .dat (.int .i64) 0)], [some (.nest (.int .i64) x2626 0 [])]⟩ : St) (laws_markIntSS_n4 x2625 x2626) (fun (t : Int × (List (List Int))) => ((Exit.exit 0), (⟨mkE 19 0 [(1, .dat (.int .i64) t.1)], [some (.nest (.int .i64) t.2 0 [])]⟩ : St))) := by
  unfold laws_markIntSS_n4
  exact Link.cast (by kernel_rfl) (by kernel_rfl) (link_loop (mk := fun (s : Int × Int × (List (List Int))) => (⟨mkE 19 0 [(0, .slc 0), (1, .dat (.int .i64) s.1), (5, .dat (.int .i64) s.2.1)], [some (.nest (.int .i64) s.2.2 0 [])]⟩ : St)) (fin := (fun (t : Int × (List (List Int))) => ((Exit.exit 0), (⟨mkE 19 0 [(1, .dat (.int .i64) t.1)], [some (.nest (.int .i64) t.2 0 [])]⟩ : St)))) (by
  rintro t f K h
  · exact h) (fun s => link_map (laws_markIntSS_n3_l s.1 s.2.1 s.2.2) (Sum.elim (fun (t : Int × Int × (List (List Int))) => Sum.inl (t.1, t.2.1, t.2.2)) (fun (t : Int × (List (List Int))) => Sum.inr t)) (by
  rintro (t | t)
  · kernel_rfl
  · kernel_rfl)) (x2625, 0, x2626))

theorem laws_markIntSS_n5_l (x2625 : Int) (x2626 : List (List Int)) : Link laws_markIntSS_ctx LL (Code.snd (Code.fst (Code.snd (bodyOf Tryd.f10)))) (Ann.snd (Ann.fst (Ann.snd laws_markIntSS_an))) (⟨mkE 19 0 [(0, .slc 0), (1, .dat (.int .i64) x2625), (5, .dat (.int .i64) 0)], [some (.nest (.int .i64) x2626 0 [])]⟩ : St) (laws_markIntSS_n5 x2625 x2626) (fun (t : Int × (List (List Int))) => (Exit.normal, (⟨mkE 19 0 [(1, .dat (.int .i64) t.1)], [some (.nest (.int .i64) t.2 0 [])]⟩ : St))) := by
  unfold laws_markIntSS_n5
  exact Link.cast (by kernel_rfl) (by kernel_rfl) (link_block (id := 0) (laws_markIntSS_n4_l x2625 x2626) (fun (t : Int × (List (List Int))) => (t.1, t.2)) (by
  rintro t K h
  · exact Eq.mp (by kernel_rfl) h))

theorem laws_markIntSS_n6_l (x2625 : Int) (x2626 : List (List Int)) : Link laws_markIntSS_ctx LL (Code.fst (Code.snd (bodyOf Tryd.f10))) (Ann.fst (Ann.snd laws_markIntSS_an)) (⟨mkE 19 0 [(0, .slc 0), (1, .dat (.int .i64) x2625)], [some (.nest (.int .i64) x2626 0 [])]⟩ : St) (laws_markIntSS_n6 x2625 x2626) (fun (t : Int × (List (List Int))) => (Exit.normal, (⟨mkE 19 0 [(1, .dat (.int .i64) t.1)], [some (.nest (.int .i64) t.2 0 [])]⟩ : St))) := by
  unfold laws_markIntSS_n6
  exact Link.cast (by kernel_rfl) (by kernel_rfl) (link_seq (b := (Code.snd (Code.fst (Code.snd (bodyOf Tryd.f10))))) (y := (Ann.snd (Ann.fst (Ann.snd laws_markIntSS_an)))) (laws_markIntSS_n2_l x2625 x2626) (fun (t : Unit) => (laws_markIntSS_n5_l x2625 x2626)))

theorem laws_markIntSS_n7_l (x2658 : Int) (x2660 : List (List Int)) : Link laws_markIntSS_ctx LL (Code.snd (Code.snd (bodyOf Tryd.f10))) (Ann.snd (Ann.snd laws_markIntSS_an)) (⟨mkE 19 0 [(1, .dat (.int .i64) x2658)], [some (.nest (.int .i64) x2660 0 [])]⟩ : St) (laws_markIntSS_n7 x2658 x2660) (fun (t : Int × (List (List Int))) => (Exit.ret, (⟨mkE 19 0 [(4, .dat (.int .i64) t.1)], [some (.nest (.int .i64) t.2 0 [])]⟩ : St))) := by
  refine Link.of fun K h => ?_
  simp only [laws_markIntSS_n7, wpO_bind, wpO_cond, wpO_map, wpO_some] at h
  exact Awp.of (by kernel_rfl) h

theorem laws_markIntSS_n8_l (x2625 : Int) (x2626 : List (List Int)) : Link laws_markIntSS_ctx LL (Code.snd (bodyOf Tryd.f10)) (Ann.snd laws_markIntSS_an) (⟨mkE 19 0 [(0, .slc 0), (1, .dat (.int .i64) x2625)], [some (.nest (.int .i64) x2626 0 [])]⟩ : St) (laws_markIntSS_n8 x2625 x2626) (fun (t : Int × (List (List Int))) => (Exit.ret, (⟨mkE 19 0 [(4, .dat (.int .i64) t.1)], [some (.nest (.int .i64) t.2 0 [])]⟩ : St))) := by
  unfold laws_markIntSS_n8
  exact Link.cast (by kernel_rfl) (by kernel_rfl) (link_seq (b := (Code.snd (Code.snd (bodyOf Tryd.f10)))) (y := (Ann.snd (Ann.snd laws_markIntSS_an))) (laws_markIntSS_n6_l x2625 x2626) (fun (t : Int × (List (List Int))) => (laws_markIntSS_n7_l t.1 t.2)))

theorem laws_markIntSS_n9_l (x2625 : Int) (x2626 : List (List Int)) : Link laws_markIntSS_ctx LL (bodyOf Tryd.f10) laws_markIntSS_an (⟨mkE 19 0 [(0, .slc 0), (1, .dat (.int .i64) x2625)], [some (.nest (.int .i64) x2626 0 [])]⟩ : St) (laws_markIntSS_n9 x2625 x2626) (fun (t : Int × (List (List Int))) => (Exit.ret, (⟨mkE 19 0 [(4, .dat (.int .i64) t.1)], [some (.nest (.int .i64) t.2 0 [])]⟩ : St))) := by
  unfold laws_markIntSS_n9
  exact Link.cast (by kernel_rfl) (by kernel_rfl) (link_seq (b := (Code.snd (bodyOf Tryd.f10))) (y := (Ann.snd laws_markIntSS_an)) (laws_markIntSS_n1_l x2625 x2626) (fun (t : Unit) => (laws_markIntSS_n8_l x2625 x2626)))

theorem laws_markIntSS_e (x2625 : Int) (x2626 : List (List Int)) {r : AV} {H' : Heap} (h : (Ans.mk _ (laws_markIntSS x2625 x2626) (fun (t : Int × (List (List Int))) => (.dat (.int .i64) t.1, [some (.nest (.int .i64) t.2 0 [])]))).run = some (r, H')) : Awp laws_markIntSS_ctx LL (bodyOf Tryd.f10) laws_markIntSS_an (⟨mkE 19 0 [(0, .slc 0), (1, .dat (.int .i64) x2625)], [some (.nest (.int .i64) x2626 0 [])]⟩ : St) (Ret (tlook tys) Tryd.f10.results.toList r H') :=
  ret_of' (laws_markIntSS_n9_l x2625 x2626) (by unfold laws_markIntSS; kernel_rfl) (by
  intro t
  exact ret_mk [.dat (.int .i64) t.1] (by kernel_rfl) (by kernel_rfl) (by kernel_rfl) (by kernel_rfl)) h

def F_laws_markIntSS : Fun := fun avs H =>
  match avs, H with
  | [.slc 0, .dat (.int .i64) x2625], [some (.nest (.int .i64) x2626 0 [])] => ⟨_, laws_markIntSS x2625 x2626, fun (t : Int × (List (List Int))) => (.dat (.int .i64) t.1, [some (.nest (.int .i64) t.2 0 [])])⟩
  | _, _ => Ans.no

theorem laws_markIntSS_sound : Sound Tryd.prog 10 F_laws_markIntSS := by
  refine fn_sound' (C := laws_markIntSS_ctx) (c := bodyOf Tryd.f10) (cok_of tys_ok (List.forall_mem_cons.2 ⟨laws_markIntS_sound, by simp⟩) (List.forall_mem_cons.2 ⟨Tryd.call9, by simp⟩) (by kernel_rfl)) Tryd.func10 (by kernel_rfl) LL laws_markIntSS_an ?_
  intro avs H r H' h
  unfold F_laws_markIntSS at h
  split at h
  · refine Awp.cast ?_ ?_ ?_ (laws_markIntSS_e _ _ h) <;> kernel_rfl
  · simp [Ans.no, Ans.run] at h

/-! loop.example/headtrees/laws.heldIntS -/

def laws_heldIntS_an : Ann := (.seq (.leaf [0, 1]) (.seq (.seq (.leaf [0, 1, 5]) (.block (.loop (.seq (.seq (.leaf [0, 1, 5, 9]) (.cond (.leaf [0, 1, 5]) (.leaf [1]))) (.seq (.block (.seq (.seq (.leaf [0, 1, 5, 17]) (.cond (.seq (.leaf [4]) (.leaf [4])) (.leaf [0, 1, 5]))) (.leaf [0, 1, 5]))) (.leaf [0, 1, 5])))))) (.seq (.leaf [4]) (.leaf [4]))))

noncomputable def laws_heldIntS_ctx : Ctx := ⟨tlook tys, olook [], ioF, 0, false⟩

theorem laws_heldIntS_n1_l (x2732 : List Int) (x2733 : Int) : Link laws_heldIntS_ctx LL (Code.fst (bodyOf Tryd.f18)) (Ann.fst laws_heldIntS_an) (⟨mkE 21 0 [(0, .dat (.list (.int .i64)) x2732), (1, .dat (.int .i64) x2733)], []⟩ : St) (laws_heldIntS_n1) (fun (t : Unit) => (Exit.normal, (⟨mkE 21 0 [(0, .dat (.list (.int .i64)) x2732), (1, .dat (.int .i64) x2733)], []⟩ : St))) := by
  refine Link.of fun K h => ?_
  simp only [laws_heldIntS_n1, wpO_bind, wpO_cond, wpO_map, wpO_some] at h
  exact Awp.of (by kernel_rfl) h

theorem laws_heldIntS_n2_l (x2732 : List Int) (x2733 : Int) : Link laws_heldIntS_ctx LL (Code.fst (Code.fst (Code.snd (bodyOf Tryd.f18)))) (Ann.fst (Ann.fst (Ann.snd laws_heldIntS_an))) (⟨mkE 21 0 [(0, .dat (.list (.int .i64)) x2732), (1, .dat (.int .i64) x2733)], []⟩ : St) (laws_heldIntS_n2) (fun (t : Unit) => (Exit.normal, (⟨mkE 21 0 [(0, .dat (.list (.int .i64)) x2732), (1, .dat (.int .i64) x2733), (5, .dat (.int .i64) 0)], []⟩ : St))) := by
  refine Link.of fun K h => ?_
  simp only [laws_heldIntS_n2, wpO_bind, wpO_cond, wpO_map, wpO_some] at h
  exact Awp.of (by kernel_rfl) h

theorem laws_heldIntS_n3_l (x2732 : List Int) (x2747 : Int) (x2748 : Int) : Link laws_heldIntS_ctx LL (Code.fst (Code.fst (Code.snd (Code.fst (Code.snd (bodyOf Tryd.f18)))))) (Ann.fst (Ann.fst (Ann.snd (Ann.fst (Ann.snd laws_heldIntS_an))))) (⟨mkE 21 0 [(0, .dat (.list (.int .i64)) x2732), (1, .dat (.int .i64) x2747), (5, .dat (.int .i64) x2748)], []⟩ : St) (laws_heldIntS_n3 x2732 x2747 x2748) (Sum.elim (fun (t : Int × Int) => (Exit.normal, (⟨mkE 21 0 [(0, .dat (.list (.int .i64)) x2732), (1, .dat (.int .i64) t.1), (5, .dat (.int .i64) t.2)], []⟩ : St))) (Sum.elim (fun (t : Int) => (Exit.ret, (⟨mkE 21 0 [(4, .dat (.int .i64) t)], []⟩ : St))) (fun (t : Int) => ((Exit.exit 0), (⟨mkE 21 0 [(1, .dat (.int .i64) t)], []⟩ : St))))) := by
  refine Link.of fun K h => ?_
  simp only [laws_heldIntS_n3, wpO_bind, wpO_cond, wpO_map, wpO_some] at h
  exact Awp.of (by kernel_rfl) h

theorem laws_heldIntS_n4_l (x2732 : List Int) (x2733 : Int) : Link laws_heldIntS_ctx LL (Code.fst (Code.snd (Code.fst (Code.snd (bodyOf Tryd.f18))))) (Ann.fst (Ann.snd (Ann.fst (Ann.snd laws_heldIntS_an)))) (⟨mkE 21 0 [(0, .dat (.list (.int .i64)) x2732), (1, .dat (.int .i64) x2733), (5, .dat (.int .i64) 0)], []⟩ : St) (laws_heldIntS_n4 x2732 x2733) (Sum.elim (fun (t : Int) => (Exit.ret, (⟨mkE 21 0 [(4, .dat (.int .i64) t)], []⟩ : St))) (fun (t : Int) => ((Exit.exit 0), (⟨mkE 21 0 [(1, .dat (.int .i64) t)], []⟩ : St)))) := by
  unfold laws_heldIntS_n4
  exact Link.cast (by kernel_rfl) (by kernel_rfl) (link_loop (mk := fun (s : Int × Int) => (⟨mkE 21 0 [(0, .dat (.list (.int .i64)) x2732), (1, .dat (.int .i64) s.1), (5, .dat (.int .i64) s.2)], []⟩ : St)) (fin := (Sum.elim (fun (t : Int) => (Exit.ret, (⟨mkE 21 0 [(4, .dat (.int .i64) t)], []⟩ : St))) (fun (t : Int) => ((Exit.exit 0), (⟨mkE 21 0 [(1, .dat (.int .i64) t)], []⟩ : St))))) (by
  rintro (t | t) f K h
  · exact h
  · exact h) (fun s => link_map (laws_heldIntS_n3_l x2732 s.1 s.2) (Sum.elim (fun (t : Int × Int) => Sum.inl (t.1, t.2)) (Sum.elim (fun (t : Int) => Sum.inr (Sum.inl t)) (fun (t : Int) => Sum.inr (Sum.inr t)))) (by
  rintro (t | t | t)
  · kernel_rfl
  · kernel_rfl
  · kernel_rfl)) (x2733, 0))

theorem laws_heldIntS_n5_l (x2732 : List Int) (x2733 : Int) : Link laws_heldIntS_ctx LL (Code.snd (Code.fst (Code.snd (bodyOf Tryd.f18)))) (Ann.snd (Ann.fst (Ann.snd laws_heldIntS_an))) (⟨mkE 21 0 [(0, .dat (.list (.int .i64)) x2732), (1, .dat (.int .i64) x2733), (5, .dat (.int .i64) 0)], []⟩ : St) (laws_heldIntS_n5 x2732 x2733) (Sum.elim (fun (t : Int) => (Exit.normal, (⟨mkE 21 0 [(1, .dat (.int .i64) t)], []⟩ : St))) (fun (t : Int) => (Exit.ret, (⟨mkE 21 0 [(4, .dat (.int .i64) t)], []⟩ : St)))) := by
  unfold laws_heldIntS_n5
  exact Link.cast (by kernel_rfl) (by kernel_rfl) (link_block (id := 0) (laws_heldIntS_n4_l x2732 x2733) (Sum.elim (fun (t : Int) => (Sum.inr t)) (fun (t : Int) => (Sum.inl t))) (by
  rintro (t | t) K h
  · exact Eq.mp (by kernel_rfl) h
  · exact Eq.mp (by kernel_rfl) h))

theorem laws_heldIntS_n6_l (x2732 : List Int) (x2733 : Int) : Link laws_heldIntS_ctx LL (Code.fst (Code.snd (bodyOf Tryd.f18))) (Ann.fst (Ann.snd laws_heldIntS_an)) (⟨mkE 21 0 [(0, .dat (.list (.int .i64)) x2732), (1, .dat (.int .i64) x2733)], []⟩ : St) (laws_heldIntS_n6 x2732 x2733) (Sum.elim (fun (t : Int) => (Exit.normal, (⟨mkE 21 0 [(1, .dat (.int .i64) t)], []⟩ : St))) (fun (t : Int) => (Exit.ret, (⟨mkE 21 0 [(4, .dat (.int .i64) t)], []⟩ : St)))) := by
  unfold laws_heldIntS_n6
  exact Link.cast (by kernel_rfl) (by kernel_rfl) (link_seq (b := (Code.snd (Code.fst (Code.snd (bodyOf Tryd.f18))))) (y := (Ann.snd (Ann.fst (Ann.snd laws_heldIntS_an)))) (laws_heldIntS_n2_l x2732 x2733) (fun (t : Unit) => (laws_heldIntS_n5_l x2732 x2733)))

theorem laws_heldIntS_n7_l (x2747 : Int) : Link laws_heldIntS_ctx LL (Code.snd (Code.snd (bodyOf Tryd.f18))) (Ann.snd (Ann.snd laws_heldIntS_an)) (⟨mkE 21 0 [(1, .dat (.int .i64) x2747)], []⟩ : St) (laws_heldIntS_n7 x2747) (fun (t : Int) => (Exit.ret, (⟨mkE 21 0 [(4, .dat (.int .i64) t)], []⟩ : St))) := by
  refine Link.of fun K h => ?_
  simp only [laws_heldIntS_n7, wpO_bind, wpO_cond, wpO_map, wpO_some] at h
  exact Awp.of (by kernel_rfl) h

theorem laws_heldIntS_n8_l (x2732 : List Int) (x2733 : Int) : Link laws_heldIntS_ctx LL (Code.snd (bodyOf Tryd.f18)) (Ann.snd laws_heldIntS_an) (⟨mkE 21 0 [(0, .dat (.list (.int .i64)) x2732), (1, .dat (.int .i64) x2733)], []⟩ : St) (laws_heldIntS_n8 x2732 x2733) (fun (t : Int) => (Exit.ret, (⟨mkE 21 0 [(4, .dat (.int .i64) t)], []⟩ : St))) := by
  unfold laws_heldIntS_n8
  exact Link.cast (by kernel_rfl) (by kernel_rfl) (link_seq2 (b := (Code.snd (Code.snd (bodyOf Tryd.f18)))) (y := (Ann.snd (Ann.snd laws_heldIntS_an))) (laws_heldIntS_n6_l x2732 x2733) (fun (t : Int) => (laws_heldIntS_n7_l t)) (fun (t : Int) => t) (by
  rintro t
  · kernel_rfl) (by
  rintro t f K h
  · exact h))

theorem laws_heldIntS_n9_l (x2732 : List Int) (x2733 : Int) : Link laws_heldIntS_ctx LL (bodyOf Tryd.f18) laws_heldIntS_an (⟨mkE 21 0 [(0, .dat (.list (.int .i64)) x2732), (1, .dat (.int .i64) x2733)], []⟩ : St) (laws_heldIntS_n9 x2732 x2733) (fun (t : Int) => (Exit.ret, (⟨mkE 21 0 [(4, .dat (.int .i64) t)], []⟩ : St))) := by
  unfold laws_heldIntS_n9
  exact Link.cast (by kernel_rfl) (by kernel_rfl) (link_seq (b := (Code.snd (bodyOf Tryd.f18))) (y := (Ann.snd laws_heldIntS_an)) (laws_heldIntS_n1_l x2732 x2733) (fun (t : Unit) => (laws_heldIntS_n8_l x2732 x2733)))

theorem laws_heldIntS_e (x2732 : List Int) (x2733 : Int) {r : AV} {H' : Heap} (h : (Ans.mk _ (laws_heldIntS x2732 x2733) (fun (t : Int) => (.dat (.int .i64) t, []))).run = some (r, H')) : Awp laws_heldIntS_ctx LL (bodyOf Tryd.f18) laws_heldIntS_an (⟨mkE 21 0 [(0, .dat (.list (.int .i64)) x2732), (1, .dat (.int .i64) x2733)], []⟩ : St) (Ret (tlook tys) Tryd.f18.results.toList r H') :=
  ret_of' (laws_heldIntS_n9_l x2732 x2733) (by unfold laws_heldIntS; kernel_rfl) (by
  intro t
  exact ret_mk [.dat (.int .i64) t] (by kernel_rfl) (by kernel_rfl) (by kernel_rfl) (by kernel_rfl)) h

def F_laws_heldIntS : Fun := fun avs H =>
  match avs, H with
  | [.dat (.list (.int .i64)) x2732, .dat (.int .i64) x2733], [] => ⟨_, laws_heldIntS x2732 x2733, fun (t : Int) => (.dat (.int .i64) t, [])⟩
  | _, _ => Ans.no

theorem laws_heldIntS_sound : Sound Tryd.prog 18 F_laws_heldIntS := by
  refine fn_sound' (C := laws_heldIntS_ctx) (c := bodyOf Tryd.f18) (cok_of tys_ok (by simp) (by simp) (by kernel_rfl)) Tryd.func18 (by kernel_rfl) LL laws_heldIntS_an ?_
  intro avs H r H' h
  unfold F_laws_heldIntS at h
  split at h
  · refine Awp.cast ?_ ?_ ?_ (laws_heldIntS_e _ _ h) <;> kernel_rfl
  · simp [Ans.no, Ans.run] at h

/-! loop.example/headtrees/laws.heldIntSS -/

def laws_heldIntSS_an : Ann := (.seq (.leaf [0, 1]) (.seq (.seq (.leaf [0, 1, 5]) (.block (.loop (.seq (.seq (.leaf [0, 1, 5, 9]) (.cond (.leaf [0, 1, 5]) (.leaf [1]))) (.seq (.block (.seq (.leaf [0, 1, 5]) (.seq (.leaf [0, 1, 5, 19]) (.cond (.seq (.leaf [4]) (.leaf [4])) (.leaf [0, 1, 5]))))) (.leaf [0, 1, 5])))))) (.seq (.leaf [4]) (.leaf [4]))))

noncomputable def laws_heldIntSS_ctx : Ctx := ⟨tlook tys, olook [(18, F_laws_heldIntS)], ioF, 0, false⟩

theorem laws_heldIntSS_n1_l (x2725 : List (List Int)) (x2726 : Int) : Link laws_heldIntSS_ctx LL (Code.fst (bodyOf Tryd.f11)) (Ann.fst laws_heldIntSS_an) (⟨mkE 21 0 [(0, .dat (.list (.list (.int .i64))) x2725), (1, .dat (.int .i64) x2726)], []⟩ : St) (laws_heldIntSS_n1) (fun (t : Unit) => (Exit.normal, (⟨mkE 21 0 [(0, .dat (.list (.list (.int .i64))) x2725), (1, .dat (.int .i64) x2726)], []⟩ : St))) := by
  refine Link.of fun K h => ?_
  simp only [laws_heldIntSS_n1, wpO_bind, wpO_cond, wpO_map, wpO_some] at h
  exact Awp.of (by kernel_rfl) h

theorem laws_heldIntSS_n2_l (x2725 : List (List Int)) (x2726 : Int) : Link laws_heldIntSS_ctx LL (Code.fst (Code.fst (Code.snd (bodyOf Tryd.f11)))) (Ann.fst (Ann.fst (Ann.snd laws_heldIntSS_an))) (⟨mkE 21 0 [(0, .dat (.list (.list (.int .i64))) x2725), (1, .dat (.int .i64) x2726)], []⟩ : St) (laws_heldIntSS_n2) (fun (t : Unit) => (Exit.normal, (⟨mkE 21 0 [(0, .dat (.list (.list (.int .i64))) x2725), (1, .dat (.int .i64) x2726), (5, .dat (.int .i64) 0)], []⟩ : St))) := by
  refine Link.of fun K h => ?_
  simp only [laws_heldIntSS_n2, wpO_bind, wpO_cond, wpO_map, wpO_some] at h
  exact Awp.of (by kernel_rfl) h

theorem laws_heldIntSS_n3_l (x2725 : List (List Int)) (x2771 : Int) (x2772 : Int) : Link laws_heldIntSS_ctx LL (Code.fst (Code.fst (Code.snd (Code.fst (Code.snd (bodyOf Tryd.f11)))))) (Ann.fst (Ann.fst (Ann.snd (Ann.fst (Ann.snd laws_heldIntSS_an))))) (⟨mkE 21 0 [(0, .dat (.list (.list (.int .i64))) x2725), (1, .dat (.int .i64) x2771), (5, .dat (.int .i64) x2772)], []⟩ : St) (laws_heldIntSS_n3 x2725 x2771 x2772) (Sum.elim (fun (t : Int × Int) => (Exit.normal, (⟨mkE 21 0 [(0, .dat (.list (.list (.int .i64))) x2725), (1, .dat (.int .i64) t.1), (5, .dat (.int .i64) t.2)], []⟩ : St))) (Sum.elim (fun (t : Int) => (Exit.ret, (⟨mkE 21 0 [(4, .dat (.int .i64) t)], []⟩ : St))) (fun (t : Int) => ((Exit.exit 0), (⟨mkE 21 0 [(1, .dat (.int .i64) t)], []⟩ : St))))) := by
  refine Link.of fun K h => ?_
  simp only [laws_heldIntSS_n3, wpO_bind, wpO_cond, wpO_map, wpO_some] at h
  exact Awp.of (by kernel_rfl) h

theorem laws_heldIntSS_n4_l (x2725 : List (List Int)) (x2726 : Int) : Link laws_heldIntSS_ctx LL (Code.fst (Code.snd (Code.fst (Code.snd (bodyOf Tryd.f11))))) (Ann.fst (Ann.snd (Ann.fst (Ann.snd laws_heldIntSS_an)))) (⟨mkE 21 0 [(0, .dat (.list (.list (.int .i64))) x2725), (1, .dat (.int .i64) x2726), (5, .dat (.int .i64) 0)], []⟩ : St) (laws_heldIntSS_n4 x2725 x2726) (Sum.elim (fun (t : Int) => (Exit.ret, (⟨mkE 21 0 [(4, .dat (.int .i64) t)], []⟩ : St))) (fun (t : Int) => ((Exit.exit 0), (⟨mkE 21 0 [(1, .dat (.int .i64) t)], []⟩ : St)))) := by
  unfold laws_heldIntSS_n4
  exact Link.cast (by kernel_rfl) (by kernel_rfl) (link_loop (mk := fun (s : Int × Int) => (⟨mkE 21 0 [(0, .dat (.list (.list (.int .i64))) x2725), (1, .dat (.int .i64) s.1), (5, .dat (.int .i64) s.2)], []⟩ : St)) (fin := (Sum.elim (fun (t : Int) => (Exit.ret, (⟨mkE 21 0 [(4, .dat (.int .i64) t)], []⟩ : St))) (fun (t : Int) => ((Exit.exit 0), (⟨mkE 21 0 [(1, .dat (.int .i64) t)], []⟩ : St))))) (by
  rintro (t | t) f K h
  · exact h
  · exact h) (fun s => link_map (laws_heldIntSS_n3_l x2725 s.1 s.2) (Sum.elim (fun (t : Int × Int) => Sum.inl (t.1, t.2)) (Sum.elim (fun (t : Int) => Sum.inr (Sum.inl t)) (fun (t : Int) => Sum.inr (Sum.inr t)))) (by
  rintro (t | t | t)
  · kernel_rfl
  · kernel_rfl
  · kernel_rfl)) (x2726, 0))

theorem laws_heldIntSS_n5_l (x2725 : List (List Int)) (x2726 : Int) : Link laws_heldIntSS_ctx LL (Code.snd (Code.fst (Code.snd (bodyOf Tryd.f11)))) (Ann.snd (Ann.fst (Ann.snd laws_heldIntSS_an))) (⟨mkE 21 0 [(0, .dat (.list (.list (.int .i64))) x2725), (1, .dat (.int .i64) x2726), (5, .dat (.int .i64) 0)], []⟩ : St) (laws_heldIntSS_n5 x2725 x2726) (Sum.elim (fun (t : Int) => (Exit.normal, (⟨mkE 21 0 [(1, .dat (.int .i64) t)], []⟩ : St))) (fun (t : Int) => (Exit.ret, (⟨mkE 21 0 [(4, .dat (.int .i64) t)], []⟩ : St)))) := by
  unfold laws_heldIntSS_n5
  exact Link.cast (by kernel_rfl) (by kernel_rfl) (link_block (id := 0) (laws_heldIntSS_n4_l x2725 x2726) (Sum.elim (fun (t : Int) => (Sum.inr t)) (fun (t : Int) => (Sum.inl t))) (by
  rintro (t | t) K h
  · exact Eq.mp (by kernel_rfl) h
  · exact Eq.mp (by kernel_rfl) h))

theorem laws_heldIntSS_n6_l (x2725 : List (List Int)) (x2726 : Int) : Link laws_heldIntSS_ctx LL (Code.fst (Code.snd (bodyOf Tryd.f11))) (Ann.fst (Ann.snd laws_heldIntSS_an)) (⟨mkE 21 0 [(0, .dat (.list (.list (.int .i64))) x2725), (1, .dat (.int .i64) x2726)], []⟩ : St) (laws_heldIntSS_n6 x2725 x2726) (Sum.elim (fun (t : Int) => (Exit.normal, (⟨mkE 21 0 [(1, .dat (.int .i64) t)], []⟩ : St))) (fun (t : Int) => (Exit.ret, (⟨mkE 21 0 [(4, .dat (.int .i64) t)], []⟩ : St)))) := by
  unfold laws_heldIntSS_n6
  exact Link.cast (by kernel_rfl) (by kernel_rfl) (link_seq (b := (Code.snd (Code.fst (Code.snd (bodyOf Tryd.f11))))) (y := (Ann.snd (Ann.fst (Ann.snd laws_heldIntSS_an)))) (laws_heldIntSS_n2_l x2725 x2726) (fun (t : Unit) => (laws_heldIntSS_n5_l x2725 x2726)))

theorem laws_heldIntSS_n7_l (x2771 : Int) : Link laws_heldIntSS_ctx LL (Code.snd (Code.snd (bodyOf Tryd.f11))) (Ann.snd (Ann.snd laws_heldIntSS_an)) (⟨mkE 21 0 [(1, .dat (.int .i64) x2771)], []⟩ : St) (laws_heldIntSS_n7 x2771) (fun (t : Int) => (Exit.ret, (⟨mkE 21 0 [(4, .dat (.int .i64) t)], []⟩ : St))) := by
  refine Link.of fun K h => ?_
  simp only [laws_heldIntSS_n7, wpO_bind, wpO_cond, wpO_map, wpO_some] at h
  exact Awp.of (by kernel_rfl) h

theorem laws_heldIntSS_n8_l (x2725 : List (List Int)) (x2726 : Int) : Link laws_heldIntSS_ctx LL (Code.snd (bodyOf Tryd.f11)) (Ann.snd laws_heldIntSS_an) (⟨mkE 21 0 [(0, .dat (.list (.list (.int .i64))) x2725), (1, .dat (.int .i64) x2726)], []⟩ : St) (laws_heldIntSS_n8 x2725 x2726) (fun (t : Int) => (Exit.ret, (⟨mkE 21 0 [(4, .dat (.int .i64) t)], []⟩ : St))) := by
  unfold laws_heldIntSS_n8
  exact Link.cast (by kernel_rfl) (by kernel_rfl) (link_seq2 (b := (Code.snd (Code.snd (bodyOf Tryd.f11)))) (y := (Ann.snd (Ann.snd laws_heldIntSS_an))) (laws_heldIntSS_n6_l x2725 x2726) (fun (t : Int) => (laws_heldIntSS_n7_l t)) (fun (t : Int) => t) (by
  rintro t
  · kernel_rfl) (by
  rintro t f K h
  · exact h))

theorem laws_heldIntSS_n9_l (x2725 : List (List Int)) (x2726 : Int) : Link laws_heldIntSS_ctx LL (bodyOf Tryd.f11) laws_heldIntSS_an (⟨mkE 21 0 [(0, .dat (.list (.list (.int .i64))) x2725), (1, .dat (.int .i64) x2726)], []⟩ : St) (laws_heldIntSS_n9 x2725 x2726) (fun (t : Int) => (Exit.ret, (⟨mkE 21 0 [(4, .dat (.int .i64) t)], []⟩ : St))) := by
  unfold laws_heldIntSS_n9
  exact Link.cast (by kernel_rfl) (by kernel_rfl) (link_seq (b := (Code.snd (bodyOf Tryd.f11))) (y := (Ann.snd laws_heldIntSS_an)) (laws_heldIntSS_n1_l x2725 x2726) (fun (t : Unit) => (laws_heldIntSS_n8_l x2725 x2726)))

theorem laws_heldIntSS_e (x2725 : List (List Int)) (x2726 : Int) {r : AV} {H' : Heap} (h : (Ans.mk _ (laws_heldIntSS x2725 x2726) (fun (t : Int) => (.dat (.int .i64) t, []))).run = some (r, H')) : Awp laws_heldIntSS_ctx LL (bodyOf Tryd.f11) laws_heldIntSS_an (⟨mkE 21 0 [(0, .dat (.list (.list (.int .i64))) x2725), (1, .dat (.int .i64) x2726)], []⟩ : St) (Ret (tlook tys) Tryd.f11.results.toList r H') :=
  ret_of' (laws_heldIntSS_n9_l x2725 x2726) (by unfold laws_heldIntSS; kernel_rfl) (by
  intro t
  exact ret_mk [.dat (.int .i64) t] (by kernel_rfl) (by kernel_rfl) (by kernel_rfl) (by kernel_rfl)) h

def F_laws_heldIntSS : Fun := fun avs H =>
  match avs, H with
  | [.dat (.list (.list (.int .i64))) x2725, .dat (.int .i64) x2726], [] => ⟨_, laws_heldIntSS x2725 x2726, fun (t : Int) => (.dat (.int .i64) t, [])⟩
  | _, _ => Ans.no

theorem laws_heldIntSS_sound : Sound Tryd.prog 11 F_laws_heldIntSS := by
  refine fn_sound' (C := laws_heldIntSS_ctx) (c := bodyOf Tryd.f11) (cok_of tys_ok (List.forall_mem_cons.2 ⟨laws_heldIntS_sound, by simp⟩) (List.forall_mem_cons.2 ⟨Tryd.call18, by simp⟩) (by kernel_rfl)) Tryd.func11 (by kernel_rfl) LL laws_heldIntSS_an ?_
  intro avs H r H' h
  unfold F_laws_heldIntSS at h
  split at h
  · refine Awp.cast ?_ ?_ ?_ (laws_heldIntSS_e _ _ h) <;> kernel_rfl
  · simp [Ans.no, Ans.run] at h

/-! loop.example/headtrees/laws.FnExactRowsOf -/

def laws_FnExactRowsOf_an : Ann := (.seq (.leaf [0, 1]) (.seq (.seq (.leaf [0, 1, 14]) (.cond (.seq (.leaf [4]) (.leaf [4])) (.leaf [0, 1]))) (.seq (.leafF [⟨3, 16, false, none⟩] [0, 1, 5]) (.seq (.leaf [0, 1, 5, 6]) (.seq (.leaf [0, 1, 5, 6, 7]) (.seq (.seq (.leaf [0, 1, 5, 6, 7, 27]) (.cond (.seq (.leaf [4]) (.leaf [4])) (.leaf [0, 1, 5, 6, 7]))) (.seq (.seq (.leaf [0, 1, 5, 6, 7, 32]) (.cond (.seq (.leaf [4]) (.leaf [4])) (.leaf [0, 1, 5, 6, 7]))) (.seq (.leaf [0, 1, 5, 6, 7, 8]) (.seq (.leaf [0, 1, 5, 7, 8]) (.seq (.seq (.leaf [0, 1, 5, 7, 43]) (.cond (.seq (.leaf [4]) (.leaf [4])) (.leaf [0, 1, 5, 7]))) (.seq (.leaf [0, 1, 5, 7, 9]) (.seq (.leaf [0, 1, 5, 7, 9]) (.seq (.leaf [0, 1, 5, 7, 9, 10]) (.seq (.leaf [0, 1, 5, 7, 9, 10]) (.seq (.seq (.leaf [0, 1, 5, 7, 9, 10, 51]) (.cond (.seq (.leaf [4]) (.leaf [4])) (.leaf [0, 1, 5, 7, 9, 10]))) (.seq (.seq (.leaf [0, 1, 5, 7, 9, 54]) (.cond (.seq (.leaf [4]) (.leaf [4])) (.leaf [0, 1, 5, 7, 9]))) (.seq (.leaf [5, 7, 9, 11]) (.seq (.seq (.leaf [7, 9, 62]) (.cond (.seq (.leaf [4]) (.leaf [4])) (.leaf [7, 9]))) (.seq (.leaf [7, 9, 10]) (.seq (.leaf [9, 10]) (.seq (.seq (.leaf [9, 10, 67]) (.cond (.seq (.leaf [4]) (.leaf [4])) (.leaf [9, 10]))) (.seq (.seq (.leaf [70]) (.cond (.seq (.leaf [4]) (.leaf [4])) (.leaf []))) (.seq (.leaf [4]) (.leaf [4]))))))))))))))))))))))))

noncomputable def laws_FnExactRowsOf_ctx : Ctx := ⟨tlook tys, olook [(5, F_laws_toIntS), (4, F_spec_RowsOf), (6, F_impl_RowsOf), (7, F_laws_eqIntSS), (8, F_laws_eqIntS), (9, F_laws_markIntS), (10, F_laws_markIntSS), (11, F_laws_heldIntSS)], ioF, 0, true⟩

theorem laws_FnExactRowsOf_n1_l (x1299 : List Int) (x1300 : Int) : Link laws_FnExactRowsOf_ctx LL (bodyOf Tryd.f3) laws_FnExactRowsOf_an (⟨mkE 71 0 [(0, .dat (.list (.int .i64)) x1299), (1, .dat (.int .i64) x1300)], []⟩ : St) (laws_FnExactRowsOf_n1 x1299 x1300) (fun (t : Bool) => (Exit.ret, (⟨mkE 71 0 [(4, .dat .bool t)], []⟩ : St))) := by
  refine Link.of fun K h => ?_
  simp only [laws_FnExactRowsOf_n1, wpO_bind, wpO_cond, wpO_map, wpO_some] at h
  exact Awp.of (by kernel_rfl) h

theorem laws_FnExactRowsOf_e (x1299 : List Int) (x1300 : Int) {r : AV} {H' : Heap} (h : (Ans.mk _ (laws_FnExactRowsOf x1299 x1300) (fun (t : Bool) => (.dat .bool t, []))).run = some (r, H')) : Awp laws_FnExactRowsOf_ctx LL (bodyOf Tryd.f3) laws_FnExactRowsOf_an (⟨mkE 71 0 [(0, .dat (.list (.int .i64)) x1299), (1, .dat (.int .i64) x1300)], []⟩ : St) (Ret (tlook tys) Tryd.f3.results.toList r H') :=
  ret_of' (laws_FnExactRowsOf_n1_l x1299 x1300) (by unfold laws_FnExactRowsOf; kernel_rfl) (by
  intro t
  exact ret_mk [.dat .bool t] (by kernel_rfl) (by kernel_rfl) (by kernel_rfl) (by kernel_rfl)) h

def F_laws_FnExactRowsOf : Fun := fun avs H =>
  match avs, H with
  | [.dat (.list (.int .i64)) x1299, .dat (.int .i64) x1300], [] => ⟨_, laws_FnExactRowsOf x1299 x1300, fun (t : Bool) => (.dat .bool t, [])⟩
  | _, _ => Ans.no

theorem laws_FnExactRowsOf_sound : Sound Tryd.prog 3 F_laws_FnExactRowsOf := by
  refine fn_sound' (C := laws_FnExactRowsOf_ctx) (c := bodyOf Tryd.f3) (cok_of tys_ok (List.forall_mem_cons.2 ⟨laws_toIntS_sound, List.forall_mem_cons.2 ⟨spec_RowsOf_sound, List.forall_mem_cons.2 ⟨impl_RowsOf_sound, List.forall_mem_cons.2 ⟨laws_eqIntSS_sound, List.forall_mem_cons.2 ⟨laws_eqIntS_sound, List.forall_mem_cons.2 ⟨laws_markIntS_sound, List.forall_mem_cons.2 ⟨laws_markIntSS_sound, List.forall_mem_cons.2 ⟨laws_heldIntSS_sound, by simp⟩⟩⟩⟩⟩⟩⟩⟩) (List.forall_mem_cons.2 ⟨Tryd.call5, List.forall_mem_cons.2 ⟨Tryd.call4, List.forall_mem_cons.2 ⟨Tryd.call6, List.forall_mem_cons.2 ⟨Tryd.call7, List.forall_mem_cons.2 ⟨Tryd.call8, List.forall_mem_cons.2 ⟨Tryd.call9, List.forall_mem_cons.2 ⟨Tryd.call10, List.forall_mem_cons.2 ⟨Tryd.call11, by simp⟩⟩⟩⟩⟩⟩⟩⟩) (by kernel_rfl)) Tryd.func3 (by kernel_rfl) LL laws_FnExactRowsOf_an ?_
  intro avs H r H' h
  unfold F_laws_FnExactRowsOf at h
  split at h
  · refine Awp.cast ?_ ?_ ?_ (laws_FnExactRowsOf_e _ _ h) <;> kernel_rfl
  · simp [Ans.no, Ans.run] at h

end Go.Rv
