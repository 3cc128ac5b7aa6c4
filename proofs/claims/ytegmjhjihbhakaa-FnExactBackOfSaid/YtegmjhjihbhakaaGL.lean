/-
  The checked code answers as the plain functions do; written by program. Conditions: none.
-/
import Derived.Test.YtegmjhjihbhakaaGLa
set_option linter.unusedVariables false
set_option linter.unusedSimpArgs false
set_option maxRecDepth 100000
namespace Go.Rv
open Go.Proofs
theorem impl_dependents_n3_l (x1816 : List Int) (x1817 : Int) (x1842 : Int) (x1818 : Int) (x1843 : Int) : Link impl_dependents_ctx LL (Code.fst (Code.fst (Code.snd (Code.fst (Code.snd (Code.snd (bodyOf Try.f39))))))) (Ann.fst (Ann.fst (Ann.snd (Ann.fst (Ann.snd (Ann.snd impl_dependents_an)))))) (⟨mkE 25 0 [(0, .dat (.list (.int .i64)) x1816), (1, .dat (.int .i64) x1817), (5, .dat (.int .u64) x1842), (8, .dat (.int .i64) x1818), (9, .dat (.int .i64) x1843)], []⟩ : St) (impl_dependents_n3 x1816 x1817 x1842 x1818 x1843) (Sum.elim (fun (t : Int × Int) => (Exit.normal, (⟨mkE 25 0 [(0, .dat (.list (.int .i64)) x1816), (1, .dat (.int .i64) x1817), (5, .dat (.int .u64) t.1), (8, .dat (.int .i64) x1818), (9, .dat (.int .i64) t.2)], []⟩ : St))) (fun (t : Int) => ((Exit.exit 0), (⟨mkE 25 0 [(5, .dat (.int .u64) t)], []⟩ : St)))) := by
  refine Link.of fun K h => ?_
  simp only [impl_dependents_n3, wpO_bind, wpO_cond, wpO_map, wpO_some] at h
  exact Awp.of (by kernel_rfl) h

theorem impl_dependents_n4_l (x1816 : List Int) (x1817 : Int) (x1818 : Int) : Link impl_dependents_ctx LL (Code.fst (Code.snd (Code.fst (Code.snd (Code.snd (bodyOf Try.f39)))))) (Ann.fst (Ann.snd (Ann.fst (Ann.snd (Ann.snd impl_dependents_an))))) (⟨mkE 25 0 [(0, .dat (.list (.int .i64)) x1816), (1, .dat (.int .i64) x1817), (5, .dat (.int .u64) 0), (8, .dat (.int .i64) x1818), (9, .dat (.int .i64) 0)], []⟩ : St) (impl_dependents_n4 x1816 x1817 x1818) (fun (t : Int) => ((Exit.exit 0), (⟨mkE 25 0 [(5, .dat (.int .u64) t)], []⟩ : St))) := by
  unfold impl_dependents_n4
  exact Link.cast (by kernel_rfl) (by kernel_rfl) (link_loop (mk := fun (s : Int × Int) => (⟨mkE 25 0 [(0, .dat (.list (.int .i64)) x1816), (1, .dat (.int .i64) x1817), (5, .dat (.int .u64) s.1), (8, .dat (.int .i64) x1818), (9, .dat (.int .i64) s.2)], []⟩ : St)) (fin := (fun (t : Int) => ((Exit.exit 0), (⟨mkE 25 0 [(5, .dat (.int .u64) t)], []⟩ : St)))) (by
  rintro t f K h
  · exact h) (fun s => link_map (impl_dependents_n3_l x1816 x1817 s.1 x1818 s.2) (Sum.elim (fun (t : Int × Int) => Sum.inl (t.1, t.2)) (fun (t : Int) => Sum.inr t)) (by
  rintro (t | t)
  · kernel_rfl
  · kernel_rfl)) (0, 0))

theorem impl_dependents_n5_l (x1816 : List Int) (x1817 : Int) (x1818 : Int) : Link impl_dependents_ctx LL (Code.snd (Code.fst (Code.snd (Code.snd (bodyOf Try.f39))))) (Ann.snd (Ann.fst (Ann.snd (Ann.snd impl_dependents_an)))) (⟨mkE 25 0 [(0, .dat (.list (.int .i64)) x1816), (1, .dat (.int .i64) x1817), (5, .dat (.int .u64) 0), (8, .dat (.int .i64) x1818), (9, .dat (.int .i64) 0)], []⟩ : St) (impl_dependents_n5 x1816 x1817 x1818) (fun (t : Int) => (Exit.normal, (⟨mkE 25 0 [(5, .dat (.int .u64) t)], []⟩ : St))) := by
  unfold impl_dependents_n5
  exact Link.cast (by kernel_rfl) (by kernel_rfl) (link_block (id := 0) (impl_dependents_n4_l x1816 x1817 x1818) (fun (t : Int) => t) (by
  rintro t K h
  · exact Eq.mp (by kernel_rfl) h))

theorem impl_dependents_n6_l (x1816 : List Int) (x1817 : Int) : Link impl_dependents_ctx LL (Code.fst (Code.snd (Code.snd (bodyOf Try.f39)))) (Ann.fst (Ann.snd (Ann.snd impl_dependents_an))) (⟨mkE 25 0 [(0, .dat (.list (.int .i64)) x1816), (1, .dat (.int .i64) x1817), (5, .dat (.int .u64) 0)], []⟩ : St) (impl_dependents_n6 x1816 x1817) (fun (t : Int) => (Exit.normal, (⟨mkE 25 0 [(5, .dat (.int .u64) t)], []⟩ : St))) := by
  unfold impl_dependents_n6
  exact Link.cast (by kernel_rfl) (by kernel_rfl) (link_seq (b := (Code.snd (Code.fst (Code.snd (Code.snd (bodyOf Try.f39)))))) (y := (Ann.snd (Ann.fst (Ann.snd (Ann.snd impl_dependents_an))))) (impl_dependents_n2_l x1816 x1817) (fun (t : Int) => (impl_dependents_n5_l x1816 x1817 t)))

theorem impl_dependents_n7_l (x1842 : Int) : Link impl_dependents_ctx LL (Code.snd (Code.snd (Code.snd (bodyOf Try.f39)))) (Ann.snd (Ann.snd (Ann.snd impl_dependents_an))) (⟨mkE 25 0 [(5, .dat (.int .u64) x1842)], []⟩ : St) (impl_dependents_n7 x1842) (fun (t : Int) => (Exit.ret, (⟨mkE 25 0 [(4, .dat (.int .u64) t)], []⟩ : St))) := by
  refine Link.of fun K h => ?_
  simp only [impl_dependents_n7, wpO_bind, wpO_cond, wpO_map, wpO_some] at h
  exact Awp.of (by kernel_rfl) h

theorem impl_dependents_n8_l (x1816 : List Int) (x1817 : Int) : Link impl_dependents_ctx LL (Code.snd (Code.snd (bodyOf Try.f39))) (Ann.snd (Ann.snd impl_dependents_an)) (⟨mkE 25 0 [(0, .dat (.list (.int .i64)) x1816), (1, .dat (.int .i64) x1817), (5, .dat (.int .u64) 0)], []⟩ : St) (impl_dependents_n8 x1816 x1817) (fun (t : Int) => (Exit.ret, (⟨mkE 25 0 [(4, .dat (.int .u64) t)], []⟩ : St))) := by
  unfold impl_dependents_n8
  exact Link.cast (by kernel_rfl) (by kernel_rfl) (link_seq (b := (Code.snd (Code.snd (Code.snd (bodyOf Try.f39))))) (y := (Ann.snd (Ann.snd (Ann.snd impl_dependents_an)))) (impl_dependents_n6_l x1816 x1817) (fun (t : Int) => (impl_dependents_n7_l t)))

theorem impl_dependents_n9_l (x1816 : List Int) (x1817 : Int) : Link impl_dependents_ctx LL (bodyOf Try.f39) impl_dependents_an (⟨mkE 25 0 [(0, .dat (.list (.int .i64)) x1816), (1, .dat (.int .i64) x1817)], []⟩ : St) (impl_dependents_n9 x1816 x1817) (fun (t : Int) => (Exit.ret, (⟨mkE 25 0 [(4, .dat (.int .u64) t)], []⟩ : St))) := by
  unfold impl_dependents_n9
  exact Link.cast (by kernel_rfl) (by kernel_rfl) (link_group (c := (Code.fst (Code.snd (bodyOf Try.f39)))) (a := (Ann.fst (Ann.snd impl_dependents_an))) [(Code.fst (bodyOf Try.f39))] [(Ann.fst impl_dependents_an)] rfl (link_seq (b := (Code.snd (Code.snd (bodyOf Try.f39)))) (y := (Ann.snd (Ann.snd impl_dependents_an))) (impl_dependents_n1_l x1816 x1817) (fun (t : Unit) => (impl_dependents_n8_l x1816 x1817))))

theorem impl_dependents_e (x1816 : List Int) (x1817 : Int) {r : AV} {H' : Heap} (h : (Ans.mk _ (impl_dependents x1816 x1817) (fun (t : Int) => (.dat (.int .u64) t, []))).run = some (r, H')) : Awp impl_dependents_ctx LL (bodyOf Try.f39) impl_dependents_an (⟨mkE 25 0 [(0, .dat (.list (.int .i64)) x1816), (1, .dat (.int .i64) x1817)], []⟩ : St) (Ret (tlook tys) Try.f39.results.toList r H') :=
  ret_of' (impl_dependents_n9_l x1816 x1817) (by unfold impl_dependents; kernel_rfl) (by
  intro t
  exact ret_mk [.dat (.int .u64) t] (by kernel_rfl) (by kernel_rfl) (by kernel_rfl) (by kernel_rfl)) h

def F_impl_dependents : Fun := fun avs H =>
  match avs, H with
  | [.dat (.list (.int .i64)) x1816, .dat (.int .i64) x1817], [] => ⟨_, impl_dependents x1816 x1817, fun (t : Int) => (.dat (.int .u64) t, [])⟩
  | _, _ => Ans.no

theorem impl_dependents_sound : Sound Try.prog 39 F_impl_dependents := by
  refine fn_sound' (C := impl_dependents_ctx) (c := bodyOf Try.f39) (cok_of tys_ok (List.forall_mem_cons.2 ⟨impl_only_sound, by simp⟩) (List.forall_mem_cons.2 ⟨Try.call50, by simp⟩) (by kernel_rfl)) Try.func39 (by kernel_rfl) LL impl_dependents_an ?_
  intro avs H r H' h
  unfold F_impl_dependents at h
  split at h
  · refine Awp.cast ?_ ?_ ?_ (impl_dependents_e _ _ h) <;> kernel_rfl
  · simp [Ans.no, Ans.run] at h

/-! loop.example/headtrees/impl.before -/

def impl_before_an : Ann := (.seq (.leaf [0]) (.seq (.leaf [2]) (.leaf [2])))

noncomputable def impl_before_ctx : Ctx := ⟨tlook tys, olook [(50, F_impl_only)], ioF, 0⟩

theorem impl_before_n1_l (x1866 : Int) : Link impl_before_ctx LL (bodyOf Try.f40) impl_before_an (⟨mkE 6 0 [(0, .dat (.int .i64) x1866)], []⟩ : St) (impl_before_n1 x1866) (fun (t : Int) => (Exit.ret, (⟨mkE 6 0 [(2, .dat (.int .u64) t)], []⟩ : St))) := by
  refine Link.of fun K h => ?_
  simp only [impl_before_n1, wpO_bind, wpO_cond, wpO_map, wpO_some] at h
  exact Awp.of (by kernel_rfl) h

theorem impl_before_e (x1866 : Int) {r : AV} {H' : Heap} (h : (Ans.mk _ (impl_before x1866) (fun (t : Int) => (.dat (.int .u64) t, []))).run = some (r, H')) : Awp impl_before_ctx LL (bodyOf Try.f40) impl_before_an (⟨mkE 6 0 [(0, .dat (.int .i64) x1866)], []⟩ : St) (Ret (tlook tys) Try.f40.results.toList r H') :=
  ret_of' (impl_before_n1_l x1866) (by unfold impl_before; kernel_rfl) (by
  intro t
  exact ret_mk [.dat (.int .u64) t] (by kernel_rfl) (by kernel_rfl) (by kernel_rfl) (by kernel_rfl)) h

def F_impl_before : Fun := fun avs H =>
  match avs, H with
  | [.dat (.int .i64) x1866], [] => ⟨_, impl_before x1866, fun (t : Int) => (.dat (.int .u64) t, [])⟩
  | _, _ => Ans.no

theorem impl_before_sound : Sound Try.prog 40 F_impl_before := by
  refine fn_sound' (C := impl_before_ctx) (c := bodyOf Try.f40) (cok_of tys_ok (List.forall_mem_cons.2 ⟨impl_only_sound, by simp⟩) (List.forall_mem_cons.2 ⟨Try.call50, by simp⟩) (by kernel_rfl)) Try.func40 (by kernel_rfl) LL impl_before_an ?_
  intro avs H r H' h
  unfold F_impl_before at h
  split at h
  · refine Awp.cast ?_ ?_ ?_ (impl_before_e _ h) <;> kernel_rfl
  · simp [Ans.no, Ans.run] at h

/-! math/bits.OnesCount64 -/

def math_bits_OnesCount64_an : Ann := (.seq (.leaf [0]) (.seq (.leaf [0]) (.seq (.leaf [0]) (.seq (.leaf [0]) (.seq (.leaf [0]) (.seq (.leaf [0]) (.seq (.leaf [0]) (.seq (.leaf [2]) (.leaf [2])))))))))

noncomputable def math_bits_OnesCount64_ctx : Ctx := ⟨tlook tys, olook [], ioF, 0⟩

theorem math_bits_OnesCount64_n1_l (x1875 : Int) : Link math_bits_OnesCount64_ctx LL (Code.seq (Code.fst (bodyOf Try.f60)) (Code.fst (Code.snd (bodyOf Try.f60)))) (Ann.seq (Ann.fst math_bits_OnesCount64_an) (Ann.fst (Ann.snd math_bits_OnesCount64_an))) (⟨mkE 35 0 [(0, .dat (.int .u64) x1875)], []⟩ : St) (math_bits_OnesCount64_n1 x1875) (fun (t : Int) => (Exit.normal, (⟨mkE 35 0 [(0, .dat (.int .u64) t)], []⟩ : St))) := by
  refine Link.of fun K h => ?_
  simp only [math_bits_OnesCount64_n1, wpO_bind, wpO_cond, wpO_map, wpO_some] at h
  exact Awp.of (by kernel_rfl) h

theorem math_bits_OnesCount64_n2_l (x1880 : Int) : Link math_bits_OnesCount64_ctx LL (Code.fst (Code.snd (Code.snd (bodyOf Try.f60)))) (Ann.fst (Ann.snd (Ann.snd math_bits_OnesCount64_an))) (⟨mkE 35 0 [(0, .dat (.int .u64) x1880)], []⟩ : St) (math_bits_OnesCount64_n2 x1880) (fun (t : Int) => (Exit.normal, (⟨mkE 35 0 [(0, .dat (.int .u64) t)], []⟩ : St))) := by
  refine Link.of fun K h => ?_
  simp only [math_bits_OnesCount64_n2, wpO_bind, wpO_cond, wpO_map, wpO_some] at h
  exact Awp.of (by kernel_rfl) h

theorem math_bits_OnesCount64_n3_l (x1897 : Int) : Link math_bits_OnesCount64_ctx LL (Code.fst (Code.snd (Code.snd (Code.snd (bodyOf Try.f60))))) (Ann.fst (Ann.snd (Ann.snd (Ann.snd math_bits_OnesCount64_an)))) (⟨mkE 35 0 [(0, .dat (.int .u64) x1897)], []⟩ : St) (math_bits_OnesCount64_n3 x1897) (fun (t : Int) => (Exit.normal, (⟨mkE 35 0 [(0, .dat (.int .u64) t)], []⟩ : St))) := by
  refine Link.of fun K h => ?_
  simp only [math_bits_OnesCount64_n3, wpO_bind, wpO_cond, wpO_map, wpO_some] at h
  exact Awp.of (by kernel_rfl) h

theorem math_bits_OnesCount64_n4_l (x1904 : Int) : Link math_bits_OnesCount64_ctx LL (Code.fst (Code.snd (Code.snd (Code.snd (Code.snd (bodyOf Try.f60)))))) (Ann.fst (Ann.snd (Ann.snd (Ann.snd (Ann.snd math_bits_OnesCount64_an))))) (⟨mkE 35 0 [(0, .dat (.int .u64) x1904)], []⟩ : St) (math_bits_OnesCount64_n4 x1904) (fun (t : Int) => (Exit.normal, (⟨mkE 35 0 [(0, .dat (.int .u64) t)], []⟩ : St))) := by
  refine Link.of fun K h => ?_
  simp only [math_bits_OnesCount64_n4, wpO_bind, wpO_cond, wpO_map, wpO_some] at h
  exact Awp.of (by kernel_rfl) h

theorem math_bits_OnesCount64_n5_l (x1908 : Int) : Link math_bits_OnesCount64_ctx LL (Code.fst (Code.snd (Code.snd (Code.snd (Code.snd (Code.snd (bodyOf Try.f60))))))) (Ann.fst (Ann.snd (Ann.snd (Ann.snd (Ann.snd (Ann.snd math_bits_OnesCount64_an)))))) (⟨mkE 35 0 [(0, .dat (.int .u64) x1908)], []⟩ : St) (math_bits_OnesCount64_n5 x1908) (fun (t : Int) => (Exit.normal, (⟨mkE 35 0 [(0, .dat (.int .u64) t)], []⟩ : St))) := by
  refine Link.of fun K h => ?_
  simp only [math_bits_OnesCount64_n5, wpO_bind, wpO_cond, wpO_map, wpO_some] at h
  exact Awp.of (by kernel_rfl) h

theorem math_bits_OnesCount64_n6_l (x1913 : Int) : Link math_bits_OnesCount64_ctx LL (Code.fst (Code.snd (Code.snd (Code.snd (Code.snd (Code.snd (Code.snd (bodyOf Try.f60)))))))) (Ann.fst (Ann.snd (Ann.snd (Ann.snd (Ann.snd (Ann.snd (Ann.snd math_bits_OnesCount64_an))))))) (⟨mkE 35 0 [(0, .dat (.int .u64) x1913)], []⟩ : St) (math_bits_OnesCount64_n6 x1913) (fun (t : Int) => (Exit.normal, (⟨mkE 35 0 [(0, .dat (.int .u64) t)], []⟩ : St))) := by
  refine Link.of fun K h => ?_
  simp only [math_bits_OnesCount64_n6, wpO_bind, wpO_cond, wpO_map, wpO_some] at h
  exact Awp.of (by kernel_rfl) h

theorem math_bits_OnesCount64_n7_l (x1918 : Int) : Link math_bits_OnesCount64_ctx LL (Code.fst (Code.snd (Code.snd (Code.snd (Code.snd (Code.snd (Code.snd (Code.snd (bodyOf Try.f60))))))))) (Ann.fst (Ann.snd (Ann.snd (Ann.snd (Ann.snd (Ann.snd (Ann.snd (Ann.snd math_bits_OnesCount64_an)))))))) (⟨mkE 35 0 [(0, .dat (.int .u64) x1918)], []⟩ : St) (math_bits_OnesCount64_n7 x1918) (fun (t : Int) => (Exit.normal, (⟨mkE 35 0 [(2, .dat (.int .i64) t)], []⟩ : St))) := by
  refine Link.of fun K h => ?_
  simp only [math_bits_OnesCount64_n7, wpO_bind, wpO_cond, wpO_map, wpO_some] at h
  exact Awp.of (by kernel_rfl) h

theorem math_bits_OnesCount64_n8_l (x1923 : Int) : Link math_bits_OnesCount64_ctx LL (Code.snd (Code.snd (Code.snd (Code.snd (Code.snd (Code.snd (Code.snd (Code.snd (bodyOf Try.f60))))))))) (Ann.snd (Ann.snd (Ann.snd (Ann.snd (Ann.snd (Ann.snd (Ann.snd (Ann.snd math_bits_OnesCount64_an)))))))) (⟨mkE 35 0 [(2, .dat (.int .i64) x1923)], []⟩ : St) (math_bits_OnesCount64_n8 x1923) (fun (t : Int) => (Exit.ret, (⟨mkE 35 0 [(2, .dat (.int .i64) t)], []⟩ : St))) := by
  refine Link.of fun K h => ?_
  simp only [math_bits_OnesCount64_n8, wpO_bind, wpO_cond, wpO_map, wpO_some] at h
  exact Awp.of (by kernel_rfl) h

theorem math_bits_OnesCount64_n9_l (x1918 : Int) : Link math_bits_OnesCount64_ctx LL (Code.snd (Code.snd (Code.snd (Code.snd (Code.snd (Code.snd (Code.snd (bodyOf Try.f60)))))))) (Ann.snd (Ann.snd (Ann.snd (Ann.snd (Ann.snd (Ann.snd (Ann.snd math_bits_OnesCount64_an))))))) (⟨mkE 35 0 [(0, .dat (.int .u64) x1918)], []⟩ : St) (math_bits_OnesCount64_n9 x1918) (fun (t : Int) => (Exit.ret, (⟨mkE 35 0 [(2, .dat (.int .i64) t)], []⟩ : St))) := by
  unfold math_bits_OnesCount64_n9
  exact Link.cast (by kernel_rfl) (by kernel_rfl) (link_seq (b := (Code.snd (Code.snd (Code.snd (Code.snd (Code.snd (Code.snd (Code.snd (Code.snd (bodyOf Try.f60)))))))))) (y := (Ann.snd (Ann.snd (Ann.snd (Ann.snd (Ann.snd (Ann.snd (Ann.snd (Ann.snd math_bits_OnesCount64_an))))))))) (math_bits_OnesCount64_n7_l x1918) (fun (t : Int) => (math_bits_OnesCount64_n8_l t)))

theorem math_bits_OnesCount64_n10_l (x1913 : Int) : Link math_bits_OnesCount64_ctx LL (Code.snd (Code.snd (Code.snd (Code.snd (Code.snd (Code.snd (bodyOf Try.f60))))))) (Ann.snd (Ann.snd (Ann.snd (Ann.snd (Ann.snd (Ann.snd math_bits_OnesCount64_an)))))) (⟨mkE 35 0 [(0, .dat (.int .u64) x1913)], []⟩ : St) (math_bits_OnesCount64_n10 x1913) (fun (t : Int) => (Exit.ret, (⟨mkE 35 0 [(2, .dat (.int .i64) t)], []⟩ : St))) := by
  unfold math_bits_OnesCount64_n10
  exact Link.cast (by kernel_rfl) (by kernel_rfl) (link_seq (b := (Code.snd (Code.snd (Code.snd (Code.snd (Code.snd (Code.snd (Code.snd (bodyOf Try.f60))))))))) (y := (Ann.snd (Ann.snd (Ann.snd (Ann.snd (Ann.snd (Ann.snd (Ann.snd math_bits_OnesCount64_an)))))))) (math_bits_OnesCount64_n6_l x1913) (fun (t : Int) => (math_bits_OnesCount64_n9_l t)))

theorem math_bits_OnesCount64_n11_l (x1908 : Int) : Link math_bits_OnesCount64_ctx LL (Code.snd (Code.snd (Code.snd (Code.snd (Code.snd (bodyOf Try.f60)))))) (Ann.snd (Ann.snd (Ann.snd (Ann.snd (Ann.snd math_bits_OnesCount64_an))))) (⟨mkE 35 0 [(0, .dat (.int .u64) x1908)], []⟩ : St) (math_bits_OnesCount64_n11 x1908) (fun (t : Int) => (Exit.ret, (⟨mkE 35 0 [(2, .dat (.int .i64) t)], []⟩ : St))) := by
  unfold math_bits_OnesCount64_n11
  exact Link.cast (by kernel_rfl) (by kernel_rfl) (link_seq (b := (Code.snd (Code.snd (Code.snd (Code.snd (Code.snd (Code.snd (bodyOf Try.f60)))))))) (y := (Ann.snd (Ann.snd (Ann.snd (Ann.snd (Ann.snd (Ann.snd math_bits_OnesCount64_an))))))) (math_bits_OnesCount64_n5_l x1908) (fun (t : Int) => (math_bits_OnesCount64_n10_l t)))

theorem math_bits_OnesCount64_n12_l (x1904 : Int) : Link math_bits_OnesCount64_ctx LL (Code.snd (Code.snd (Code.snd (Code.snd (bodyOf Try.f60))))) (Ann.snd (Ann.snd (Ann.snd (Ann.snd math_bits_OnesCount64_an)))) (⟨mkE 35 0 [(0, .dat (.int .u64) x1904)], []⟩ : St) (math_bits_OnesCount64_n12 x1904) (fun (t : Int) => (Exit.ret, (⟨mkE 35 0 [(2, .dat (.int .i64) t)], []⟩ : St))) := by
  unfold math_bits_OnesCount64_n12
  exact Link.cast (by kernel_rfl) (by kernel_rfl) (link_seq (b := (Code.snd (Code.snd (Code.snd (Code.snd (Code.snd (bodyOf Try.f60))))))) (y := (Ann.snd (Ann.snd (Ann.snd (Ann.snd (Ann.snd math_bits_OnesCount64_an)))))) (math_bits_OnesCount64_n4_l x1904) (fun (t : Int) => (math_bits_OnesCount64_n11_l t)))

theorem math_bits_OnesCount64_n13_l (x1897 : Int) : Link math_bits_OnesCount64_ctx LL (Code.snd (Code.snd (Code.snd (bodyOf Try.f60)))) (Ann.snd (Ann.snd (Ann.snd math_bits_OnesCount64_an))) (⟨mkE 35 0 [(0, .dat (.int .u64) x1897)], []⟩ : St) (math_bits_OnesCount64_n13 x1897) (fun (t : Int) => (Exit.ret, (⟨mkE 35 0 [(2, .dat (.int .i64) t)], []⟩ : St))) := by
  unfold math_bits_OnesCount64_n13
  exact Link.cast (by kernel_rfl) (by kernel_rfl) (link_seq (b := (Code.snd (Code.snd (Code.snd (Code.snd (bodyOf Try.f60)))))) (y := (Ann.snd (Ann.snd (Ann.snd (Ann.snd math_bits_OnesCount64_an))))) (math_bits_OnesCount64_n3_l x1897) (fun (t : Int) => (math_bits_OnesCount64_n12_l t)))

theorem math_bits_OnesCount64_n14_l (x1880 : Int) : Link math_bits_OnesCount64_ctx LL (Code.snd (Code.snd (bodyOf Try.f60))) (Ann.snd (Ann.snd math_bits_OnesCount64_an)) (⟨mkE 35 0 [(0, .dat (.int .u64) x1880)], []⟩ : St) (math_bits_OnesCount64_n14 x1880) (fun (t : Int) => (Exit.ret, (⟨mkE 35 0 [(2, .dat (.int .i64) t)], []⟩ : St))) := by
  unfold math_bits_OnesCount64_n14
  exact Link.cast (by kernel_rfl) (by kernel_rfl) (link_seq (b := (Code.snd (Code.snd (Code.snd (bodyOf Try.f60))))) (y := (Ann.snd (Ann.snd (Ann.snd math_bits_OnesCount64_an)))) (math_bits_OnesCount64_n2_l x1880) (fun (t : Int) => (math_bits_OnesCount64_n13_l t)))

theorem math_bits_OnesCount64_n15_l (x1875 : Int) : Link math_bits_OnesCount64_ctx LL (bodyOf Try.f60) math_bits_OnesCount64_an (⟨mkE 35 0 [(0, .dat (.int .u64) x1875)], []⟩ : St) (math_bits_OnesCount64_n15 x1875) (fun (t : Int) => (Exit.ret, (⟨mkE 35 0 [(2, .dat (.int .i64) t)], []⟩ : St))) := by
  unfold math_bits_OnesCount64_n15
  exact Link.cast (by kernel_rfl) (by kernel_rfl) (link_group (c := (Code.fst (Code.snd (bodyOf Try.f60)))) (a := (Ann.fst (Ann.snd math_bits_OnesCount64_an))) [(Code.fst (bodyOf Try.f60))] [(Ann.fst math_bits_OnesCount64_an)] rfl (link_seq (b := (Code.snd (Code.snd (bodyOf Try.f60)))) (y := (Ann.snd (Ann.snd math_bits_OnesCount64_an))) (math_bits_OnesCount64_n1_l x1875) (fun (t : Int) => (math_bits_OnesCount64_n14_l t))))

theorem math_bits_OnesCount64_e (x1875 : Int) {r : AV} {H' : Heap} (h : (Ans.mk _ (math_bits_OnesCount64 x1875) (fun (t : Int) => (.dat (.int .i64) t, []))).run = some (r, H')) : Awp math_bits_OnesCount64_ctx LL (bodyOf Try.f60) math_bits_OnesCount64_an (⟨mkE 35 0 [(0, .dat (.int .u64) x1875)], []⟩ : St) (Ret (tlook tys) Try.f60.results.toList r H') :=
  ret_of' (math_bits_OnesCount64_n15_l x1875) (by unfold math_bits_OnesCount64; kernel_rfl) (by
  intro t
  exact ret_mk [.dat (.int .i64) t] (by kernel_rfl) (by kernel_rfl) (by kernel_rfl) (by kernel_rfl)) h

def F_math_bits_OnesCount64 : Fun := fun avs H =>
  match avs, H with
  | [.dat (.int .u64) x1875], [] => ⟨_, math_bits_OnesCount64 x1875, fun (t : Int) => (.dat (.int .i64) t, [])⟩
  | _, _ => Ans.no

theorem math_bits_OnesCount64_sound : Sound Try.prog 60 F_math_bits_OnesCount64 := by
  refine fn_sound' (C := math_bits_OnesCount64_ctx) (c := bodyOf Try.f60) (cok_of tys_ok (by simp) (by simp) (by kernel_rfl)) Try.func60 (by kernel_rfl) LL math_bits_OnesCount64_an ?_
  intro avs H r H' h
  unfold F_math_bits_OnesCount64 at h
  split at h
  · refine Awp.cast ?_ ?_ ?_ (math_bits_OnesCount64_e _ h) <;> kernel_rfl
  · simp [Ans.no, Ans.run] at h

/-! math/bits.OnesCount -/

def math_bits_OnesCount_an : Ann := (.seq (.leaf [0]) (.seq (.cond (.seq (.leaf [2]) (.leaf [2])) (.leaf [0])) (.seq (.leaf [2]) (.leaf [2]))))

noncomputable def math_bits_OnesCount_ctx : Ctx := ⟨tlook tys, olook [(60, F_math_bits_OnesCount64)], ioF, 0⟩

theorem math_bits_OnesCount_n1_l (x1874 : Int) : Link math_bits_OnesCount_ctx LL (bodyOf Try.f51) math_bits_OnesCount_an (⟨mkE 8 0 [(0, .dat (.int .u64) x1874)], []⟩ : St) (math_bits_OnesCount_n1 x1874) (fun (t : Int) => (Exit.ret, (⟨mkE 8 0 [(2, .dat (.int .i64) t)], []⟩ : St))) := by
  refine Link.of fun K h => ?_
  simp only [math_bits_OnesCount_n1, wpO_bind, wpO_cond, wpO_map, wpO_some] at h
  exact Awp.of (by kernel_rfl) h

theorem math_bits_OnesCount_e (x1874 : Int) {r : AV} {H' : Heap} (h : (Ans.mk _ (math_bits_OnesCount x1874) (fun (t : Int) => (.dat (.int .i64) t, []))).run = some (r, H')) : Awp math_bits_OnesCount_ctx LL (bodyOf Try.f51) math_bits_OnesCount_an (⟨mkE 8 0 [(0, .dat (.int .u64) x1874)], []⟩ : St) (Ret (tlook tys) Try.f51.results.toList r H') :=
  ret_of' (math_bits_OnesCount_n1_l x1874) (by unfold math_bits_OnesCount; kernel_rfl) (by
  intro t
  exact ret_mk [.dat (.int .i64) t] (by kernel_rfl) (by kernel_rfl) (by kernel_rfl) (by kernel_rfl)) h

def F_math_bits_OnesCount : Fun := fun avs H =>
  match avs, H with
  | [.dat (.int .u64) x1874], [] => ⟨_, math_bits_OnesCount x1874, fun (t : Int) => (.dat (.int .i64) t, [])⟩
  | _, _ => Ans.no

theorem math_bits_OnesCount_sound : Sound Try.prog 51 F_math_bits_OnesCount := by
  refine fn_sound' (C := math_bits_OnesCount_ctx) (c := bodyOf Try.f51) (cok_of tys_ok (List.forall_mem_cons.2 ⟨math_bits_OnesCount64_sound, by simp⟩) (List.forall_mem_cons.2 ⟨Try.call60, by simp⟩) (by kernel_rfl)) Try.func51 (by kernel_rfl) LL math_bits_OnesCount_an ?_
  intro avs H r H' h
  unfold F_math_bits_OnesCount at h
  split at h
  · refine Awp.cast ?_ ?_ ?_ (math_bits_OnesCount_e _ h) <;> kernel_rfl
  · simp [Ans.no, Ans.run] at h

/-! (loop.example/headtrees/impl.wordSet).count -/

def impl_wordSet_count_an : Ann := (.seq (.leaf [0]) (.seq (.leaf [2]) (.leaf [2])))

noncomputable def impl_wordSet_count_ctx : Ctx := ⟨tlook tys, olook [(51, F_math_bits_OnesCount)], ioF, 0⟩

theorem impl_wordSet_count_n1_l (x1873 : Int) : Link impl_wordSet_count_ctx LL (bodyOf Try.f41) impl_wordSet_count_an (⟨mkE 5 0 [(0, .dat (.int .u64) x1873)], []⟩ : St) (impl_wordSet_count_n1 x1873) (fun (t : Int) => (Exit.ret, (⟨mkE 5 0 [(2, .dat (.int .i64) t)], []⟩ : St))) := by
  refine Link.of fun K h => ?_
  simp only [impl_wordSet_count_n1, wpO_bind, wpO_cond, wpO_map, wpO_some] at h
  exact Awp.of (by kernel_rfl) h

theorem impl_wordSet_count_e (x1873 : Int) {r : AV} {H' : Heap} (h : (Ans.mk _ (impl_wordSet_count x1873) (fun (t : Int) => (.dat (.int .i64) t, []))).run = some (r, H')) : Awp impl_wordSet_count_ctx LL (bodyOf Try.f41) impl_wordSet_count_an (⟨mkE 5 0 [(0, .dat (.int .u64) x1873)], []⟩ : St) (Ret (tlook tys) Try.f41.results.toList r H') :=
  ret_of' (impl_wordSet_count_n1_l x1873) (by unfold impl_wordSet_count; kernel_rfl) (by
  intro t
  exact ret_mk [.dat (.int .i64) t] (by kernel_rfl) (by kernel_rfl) (by kernel_rfl) (by kernel_rfl)) h

def F_impl_wordSet_count : Fun := fun avs H =>
  match avs, H with
  | [.dat (.int .u64) x1873], [] => ⟨_, impl_wordSet_count x1873, fun (t : Int) => (.dat (.int .i64) t, [])⟩
  | _, _ => Ans.no

theorem impl_wordSet_count_sound : Sound Try.prog 41 F_impl_wordSet_count := by
  refine fn_sound' (C := impl_wordSet_count_ctx) (c := bodyOf Try.f41) (cok_of tys_ok (List.forall_mem_cons.2 ⟨math_bits_OnesCount_sound, by simp⟩) (List.forall_mem_cons.2 ⟨Try.call51, by simp⟩) (by kernel_rfl)) Try.func41 (by kernel_rfl) LL impl_wordSet_count_an ?_
  intro avs H r H' h
  unfold F_impl_wordSet_count at h
  split at h
  · refine Awp.cast ?_ ?_ ?_ (impl_wordSet_count_e _ h) <;> kernel_rfl
  · simp [Ans.no, Ans.run] at h

/-! loop.example/headtrees/impl.SidesOf -/

def impl_SidesOf_an : Ann := (.seq (.leaf [0, 1]) (.seq (.seq (.leaf [0, 1, 11]) (.cond (.seq (.leaf [4, 5, 6]) (.leaf [4, 5, 6])) (.leaf [0, 1]))) (.seq (.leaf [1, 7]) (.seq (.leaf [4, 5, 6]) (.leaf [4, 5, 6])))))

noncomputable def impl_SidesOf_ctx : Ctx := ⟨tlook tys, olook [(33, F_impl_wordOk), (39, F_impl_dependents), (40, F_impl_before), (41, F_impl_wordSet_count)], ioF, 0⟩

theorem impl_SidesOf_n1_l (x1810 : List Int) (x1811 : Int) : Link impl_SidesOf_ctx LL (bodyOf Try.f20) impl_SidesOf_an (⟨mkE 25 0 [(0, .dat (.list (.int .i64)) x1810), (1, .dat (.int .i64) x1811)], []⟩ : St) (impl_SidesOf_n1 x1810 x1811) (fun (t : Int × Int × Bool) => (Exit.ret, (⟨mkE 25 0 [(4, .dat (.int .i64) t.1), (5, .dat (.int .i64) t.2.1), (6, .dat .bool t.2.2)], []⟩ : St))) := by
  refine Link.of fun K h => ?_
  simp only [impl_SidesOf_n1, wpO_bind, wpO_cond, wpO_map, wpO_some] at h
  exact Awp.of (by kernel_rfl) h

theorem impl_SidesOf_e (x1810 : List Int) (x1811 : Int) {r : AV} {H' : Heap} (h : (Ans.mk _ (impl_SidesOf x1810 x1811) (fun (t : Int × Int × Bool) => (.tup [.dat (.int .i64) t.1, .dat (.int .i64) t.2.1, .dat .bool t.2.2], []))).run = some (r, H')) : Awp impl_SidesOf_ctx LL (bodyOf Try.f20) impl_SidesOf_an (⟨mkE 25 0 [(0, .dat (.list (.int .i64)) x1810), (1, .dat (.int .i64) x1811)], []⟩ : St) (Ret (tlook tys) Try.f20.results.toList r H') :=
  ret_of' (impl_SidesOf_n1_l x1810 x1811) (by unfold impl_SidesOf; kernel_rfl) (by
  intro t
  exact ret_mk [.dat (.int .i64) t.1, .dat (.int .i64) t.2.1, .dat .bool t.2.2] (by kernel_rfl) (by kernel_rfl) (by kernel_rfl) (by kernel_rfl)) h

def F_impl_SidesOf : Fun := fun avs H =>
  match avs, H with
  | [.dat (.list (.int .i64)) x1810, .dat (.int .i64) x1811], [] => ⟨_, impl_SidesOf x1810 x1811, fun (t : Int × Int × Bool) => (.tup [.dat (.int .i64) t.1, .dat (.int .i64) t.2.1, .dat .bool t.2.2], [])⟩
  | _, _ => Ans.no

theorem impl_SidesOf_sound : Sound Try.prog 20 F_impl_SidesOf := by
  refine fn_sound' (C := impl_SidesOf_ctx) (c := bodyOf Try.f20) (cok_of tys_ok (List.forall_mem_cons.2 ⟨impl_wordOk_sound, List.forall_mem_cons.2 ⟨impl_dependents_sound, List.forall_mem_cons.2 ⟨impl_before_sound, List.forall_mem_cons.2 ⟨impl_wordSet_count_sound, by simp⟩⟩⟩⟩) (List.forall_mem_cons.2 ⟨Try.call33, List.forall_mem_cons.2 ⟨Try.call39, List.forall_mem_cons.2 ⟨Try.call40, List.forall_mem_cons.2 ⟨Try.call41, by simp⟩⟩⟩⟩) (by kernel_rfl)) Try.func20 (by kernel_rfl) LL impl_SidesOf_an ?_
  intro avs H r H' h
  unfold F_impl_SidesOf at h
  split at h
  · refine Awp.cast ?_ ?_ ?_ (impl_SidesOf_e _ _ h) <;> kernel_rfl
  · simp [Ans.no, Ans.run] at h

/-! loop.example/headtrees/laws.eqIntS -/

def laws_eqIntS_an : Ann := (.seq (.leaf [0, 1]) (.seq (.seq (.leaf [0, 1, 10]) (.cond (.seq (.leaf [4]) (.leaf [4])) (.leaf [0, 1]))) (.seq (.seq (.leaf [0, 1, 5]) (.block (.loop (.seq (.seq (.leaf [0, 1, 5, 14]) (.cond (.leaf [0, 1, 5]) (.leaf []))) (.seq (.block (.seq (.draw [] [0, 1, 2, 3, 4, 5, 6, 7, 8] [] [0, 1, 5, 25]) (.cond (.seq (.leaf [4]) (.leaf [4])) (.leaf [0, 1, 5])))) (.leaf [0, 1, 5])))))) (.seq (.leaf [4]) (.leaf [4])))))

noncomputable def laws_eqIntS_ctx : Ctx := ⟨tlook tys, olook [], ioF, 0⟩

theorem laws_eqIntS_n1_l (x1979 : List Int) (x1980 : List Int) : Link laws_eqIntS_ctx LL (Code.seq (Code.fst (bodyOf Try.f21)) (Code.fst (Code.snd (bodyOf Try.f21)))) (Ann.seq (Ann.fst laws_eqIntS_an) (Ann.fst (Ann.snd laws_eqIntS_an))) (⟨mkE 26 0 [(0, .dat (.list (.int .i64)) x1979), (1, .dat (.list (.int .i64)) x1980)], []⟩ : St) (laws_eqIntS_n1 x1979 x1980) (Sum.elim (fun (t : Unit) => (Exit.normal, (⟨mkE 26 0 [(0, .dat (.list (.int .i64)) x1979), (1, .dat (.list (.int .i64)) x1980)], []⟩ : St))) (fun (t : Bool) => (Exit.ret, (⟨mkE 26 0 [(4, .dat .bool t)], []⟩ : St)))) := by
  refine Link.of fun K h => ?_
  simp only [laws_eqIntS_n1, wpO_bind, wpO_cond, wpO_map, wpO_some] at h
  exact Awp.of (by kernel_rfl) h

theorem laws_eqIntS_n2_l (x1979 : List Int) (x1980 : List Int) : Link laws_eqIntS_ctx LL (Code.fst (Code.fst (Code.snd (Code.snd (bodyOf Try.f21))))) (Ann.fst (Ann.fst (Ann.snd (Ann.snd laws_eqIntS_an)))) (⟨mkE 26 0 [(0, .dat (.list (.int .i64)) x1979), (1, .dat (.list (.int .i64)) x1980)], []⟩ : St) (laws_eqIntS_n2) (fun (t : Unit) => (Exit.normal, (⟨mkE 26 0 [(0, .dat (.list (.int .i64)) x1979), (1, .dat (.list (.int .i64)) x1980), (5, .dat (.int .i64) 0)], []⟩ : St))) := by
  refine Link.of fun K h => ?_
  simp only [laws_eqIntS_n2, wpO_bind, wpO_cond, wpO_map, wpO_some] at h
  exact Awp.of (by kernel_rfl) h

theorem laws_eqIntS_n3_l (x1979 : List Int) (x1980 : List Int) (x1997 : Int) : Link laws_eqIntS_ctx LL (Code.fst (Code.fst (Code.snd (Code.fst (Code.snd (Code.snd (bodyOf Try.f21))))))) (Ann.fst (Ann.fst (Ann.snd (Ann.fst (Ann.snd (Ann.snd laws_eqIntS_an)))))) (⟨mkE 26 0 [(0, .dat (.list (.int .i64)) x1979), (1, .dat (.list (.int .i64)) x1980), (5, .dat (.int .i64) x1997)], []⟩ : St) (laws_eqIntS_n3 x1979 x1980 x1997) (Sum.elim (fun (t : Int) => (Exit.normal, (⟨mkE 26 0 [(0, .dat (.list (.int .i64)) x1979), (1, .dat (.list (.int .i64)) x1980), (5, .dat (.int .i64) t)], []⟩ : St))) (Sum.elim (fun (t : Bool) => (Exit.ret, (⟨mkE 26 0 [(4, .dat .bool t)], []⟩ : St))) (fun (t : Unit) => ((Exit.exit 0), (⟨mkE 26 0 [], []⟩ : St))))) := by
  refine Link.of fun K h => ?_
  simp only [laws_eqIntS_n3, wpO_bind, wpO_cond, wpO_map, wpO_some] at h
  exact Awp.of (by kernel_rfl) h

theorem laws_eqIntS_n4_l (x1979 : List Int) (x1980 : List Int) : Link laws_eqIntS_ctx LL (Code.fst (Code.snd (Code.fst (Code.snd (Code.snd (bodyOf Try.f21)))))) (Ann.fst (Ann.snd (Ann.fst (Ann.snd (Ann.snd laws_eqIntS_an))))) (⟨mkE 26 0 [(0, .dat (.list (.int .i64)) x1979), (1, .dat (.list (.int .i64)) x1980), (5, .dat (.int .i64) 0)], []⟩ : St) (laws_eqIntS_n4 x1979 x1980) (Sum.elim (fun (t : Bool) => (Exit.ret, (⟨mkE 26 0 [(4, .dat .bool t)], []⟩ : St))) (fun (t : Unit) => ((Exit.exit 0), (⟨mkE 26 0 [], []⟩ : St)))) := by
  unfold laws_eqIntS_n4
  exact Link.cast (by kernel_rfl) (by kernel_rfl) (link_loop (mk := fun (s : Int) => (⟨mkE 26 0 [(0, .dat (.list (.int .i64)) x1979), (1, .dat (.list (.int .i64)) x1980), (5, .dat (.int .i64) s)], []⟩ : St)) (fin := (Sum.elim (fun (t : Bool) => (Exit.ret, (⟨mkE 26 0 [(4, .dat .bool t)], []⟩ : St))) (fun (t : Unit) => ((Exit.exit 0), (⟨mkE 26 0 [], []⟩ : St))))) (by
  rintro (t | t) f K h
  · exact h
  · exact h) (fun s => link_map (laws_eqIntS_n3_l x1979 x1980 s) (Sum.elim (fun (t : Int) => Sum.inl t) (Sum.elim (fun (t : Bool) => Sum.inr (Sum.inl t)) (fun (t : Unit) => Sum.inr (Sum.inr t)))) (by
  rintro (t | t | t)
  · kernel_rfl
  · kernel_rfl
  · kernel_rfl)) 0)

theorem laws_eqIntS_n5_l (x1979 : List Int) (x1980 : List Int) : Link laws_eqIntS_ctx LL (Code.snd (Code.fst (Code.snd (Code.snd (bodyOf Try.f21))))) (Ann.snd (Ann.fst (Ann.snd (Ann.snd laws_eqIntS_an)))) (⟨mkE 26 0 [(0, .dat (.list (.int .i64)) x1979), (1, .dat (.list (.int .i64)) x1980), (5, .dat (.int .i64) 0)], []⟩ : St) (laws_eqIntS_n5 x1979 x1980) (Sum.elim (fun (t : Unit) => (Exit.normal, (⟨mkE 26 0 [], []⟩ : St))) (fun (t : Bool) => (Exit.ret, (⟨mkE 26 0 [(4, .dat .bool t)], []⟩ : St)))) := by
  unfold laws_eqIntS_n5
  exact Link.cast (by kernel_rfl) (by kernel_rfl) (link_block (id := 0) (laws_eqIntS_n4_l x1979 x1980) (Sum.elim (fun (t : Bool) => (Sum.inr t)) (fun (t : Unit) => (Sum.inl ()))) (by
  rintro (t | t) K h
  · exact Eq.mp (by kernel_rfl) h
  · exact Eq.mp (by kernel_rfl) h))

theorem laws_eqIntS_n6_l (x1979 : List Int) (x1980 : List Int) : Link laws_eqIntS_ctx LL (Code.fst (Code.snd (Code.snd (bodyOf Try.f21)))) (Ann.fst (Ann.snd (Ann.snd laws_eqIntS_an))) (⟨mkE 26 0 [(0, .dat (.list (.int .i64)) x1979), (1, .dat (.list (.int .i64)) x1980)], []⟩ : St) (laws_eqIntS_n6 x1979 x1980) (Sum.elim (fun (t : Unit) => (Exit.normal, (⟨mkE 26 0 [], []⟩ : St))) (fun (t : Bool) => (Exit.ret, (⟨mkE 26 0 [(4, .dat .bool t)], []⟩ : St)))) := by
  unfold laws_eqIntS_n6
  exact Link.cast (by kernel_rfl) (by kernel_rfl) (link_seq (b := (Code.snd (Code.fst (Code.snd (Code.snd (bodyOf Try.f21)))))) (y := (Ann.snd (Ann.fst (Ann.snd (Ann.snd laws_eqIntS_an))))) (laws_eqIntS_n2_l x1979 x1980) (fun (t : Unit) => (laws_eqIntS_n5_l x1979 x1980)))

theorem laws_eqIntS_n7_l : Link laws_eqIntS_ctx LL (Code.snd (Code.snd (Code.snd (bodyOf Try.f21)))) (Ann.snd (Ann.snd (Ann.snd laws_eqIntS_an))) (⟨mkE 26 0 [], []⟩ : St) (laws_eqIntS_n7) (fun (t : Bool) => (Exit.ret, (⟨mkE 26 0 [(4, .dat .bool t)], []⟩ : St))) := by
  refine Link.of fun K h => ?_
  simp only [laws_eqIntS_n7, wpO_bind, wpO_cond, wpO_map, wpO_some] at h
  exact Awp.of (by kernel_rfl) h

theorem laws_eqIntS_n8_l (x1979 : List Int) (x1980 : List Int) : Link laws_eqIntS_ctx LL (Code.snd (Code.snd (bodyOf Try.f21))) (Ann.snd (Ann.snd laws_eqIntS_an)) (⟨mkE 26 0 [(0, .dat (.list (.int .i64)) x1979), (1, .dat (.list (.int .i64)) x1980)], []⟩ : St) (laws_eqIntS_n8 x1979 x1980) (fun (t : Bool) => (Exit.ret, (⟨mkE 26 0 [(4, .dat .bool t)], []⟩ : St))) := by
  unfold laws_eqIntS_n8
  exact Link.cast (by kernel_rfl) (by kernel_rfl) (link_seq2 (b := (Code.snd (Code.snd (Code.snd (bodyOf Try.f21))))) (y := (Ann.snd (Ann.snd (Ann.snd laws_eqIntS_an)))) (laws_eqIntS_n6_l x1979 x1980) (fun (t : Unit) => (laws_eqIntS_n7_l)) (fun (t : Bool) => t) (by
  rintro t
  · kernel_rfl) (by
  rintro t f K h
  · exact h))

theorem laws_eqIntS_n9_l (x1979 : List Int) (x1980 : List Int) : Link laws_eqIntS_ctx LL (bodyOf Try.f21) laws_eqIntS_an (⟨mkE 26 0 [(0, .dat (.list (.int .i64)) x1979), (1, .dat (.list (.int .i64)) x1980)], []⟩ : St) (laws_eqIntS_n9 x1979 x1980) (fun (t : Bool) => (Exit.ret, (⟨mkE 26 0 [(4, .dat .bool t)], []⟩ : St))) := by
  unfold laws_eqIntS_n9
  exact Link.cast (by kernel_rfl) (by kernel_rfl) (link_group (c := (Code.fst (Code.snd (bodyOf Try.f21)))) (a := (Ann.fst (Ann.snd laws_eqIntS_an))) [(Code.fst (bodyOf Try.f21))] [(Ann.fst laws_eqIntS_an)] rfl (link_seq2 (b := (Code.snd (Code.snd (bodyOf Try.f21)))) (y := (Ann.snd (Ann.snd laws_eqIntS_an))) (laws_eqIntS_n1_l x1979 x1980) (fun (t : Unit) => (laws_eqIntS_n8_l x1979 x1980)) (fun (t : Bool) => t) (by
  rintro t
  · kernel_rfl) (by
  rintro t f K h
  · exact h)))

theorem laws_eqIntS_e (x1979 : List Int) (x1980 : List Int) {r : AV} {H' : Heap} (h : (Ans.mk _ (laws_eqIntS x1979 x1980) (fun (t : Bool) => (.dat .bool t, []))).run = some (r, H')) : Awp laws_eqIntS_ctx LL (bodyOf Try.f21) laws_eqIntS_an (⟨mkE 26 0 [(0, .dat (.list (.int .i64)) x1979), (1, .dat (.list (.int .i64)) x1980)], []⟩ : St) (Ret (tlook tys) Try.f21.results.toList r H') :=
  ret_of' (laws_eqIntS_n9_l x1979 x1980) (by unfold laws_eqIntS; kernel_rfl) (by
  intro t
  exact ret_mk [.dat .bool t] (by kernel_rfl) (by kernel_rfl) (by kernel_rfl) (by kernel_rfl)) h

def F_laws_eqIntS : Fun := fun avs H =>
  match avs, H with
  | [.dat (.list (.int .i64)) x1979, .dat (.list (.int .i64)) x1980], [] => ⟨_, laws_eqIntS x1979 x1980, fun (t : Bool) => (.dat .bool t, [])⟩
  | _, _ => Ans.no

theorem laws_eqIntS_sound : Sound Try.prog 21 F_laws_eqIntS := by
  refine fn_sound' (C := laws_eqIntS_ctx) (c := bodyOf Try.f21) (cok_of tys_ok (by simp) (by simp) (by kernel_rfl)) Try.func21 (by kernel_rfl) LL laws_eqIntS_an ?_
  intro avs H r H' h
  unfold F_laws_eqIntS at h
  split at h
  · refine Awp.cast ?_ ?_ ?_ (laws_eqIntS_e _ _ h) <;> kernel_rfl
  · simp [Ans.no, Ans.run] at h

/-! loop.example/headtrees/laws.FnExactSidesOf -/

def laws_FnExactSidesOf_an : Ann := (.seq (.leaf [0, 1]) (.seq (.seq (.leaf [0, 1, 14]) (.cond (.seq (.leaf [4]) (.leaf [4])) (.leaf [0, 1]))) (.seq (.leaf [0, 1, 5, 6, 7]) (.seq (.leaf [0, 1, 5, 6, 7, 8]) (.seq (.leaf [0, 5, 6, 7, 8, 9, 10, 11]) (.seq (.seq (.leaf [0, 8, 44]) (.cond (.seq (.leaf [4]) (.leaf [4])) (.leaf [0, 8]))) (.seq (.seq (.leaf [49]) (.cond (.seq (.leaf [4]) (.leaf [4])) (.leaf []))) (.seq (.leaf [4]) (.leaf [4])))))))))

noncomputable def laws_FnExactSidesOf_ctx : Ctx := ⟨tlook tys, olook [(19, F_laws_toIntS), (18, F_spec_SidesOf), (20, F_impl_SidesOf), (21, F_laws_eqIntS)], ioF, 0⟩

theorem laws_FnExactSidesOf_n1_l (x1463 : List Int) (x1464 : Int) : Link laws_FnExactSidesOf_ctx LL (bodyOf Try.f5) laws_FnExactSidesOf_an (⟨mkE 50 0 [(0, .dat (.list (.int .i64)) x1463), (1, .dat (.int .i64) x1464)], []⟩ : St) (laws_FnExactSidesOf_n1 x1463 x1464) (fun (t : Bool) => (Exit.ret, (⟨mkE 50 0 [(4, .dat .bool t)], []⟩ : St))) := by
  refine Link.of fun K h => ?_
  simp only [laws_FnExactSidesOf_n1, wpO_bind, wpO_cond, wpO_map, wpO_some] at h
  exact Awp.of (by kernel_rfl) h

theorem laws_FnExactSidesOf_e (x1463 : List Int) (x1464 : Int) {r : AV} {H' : Heap} (h : (Ans.mk _ (laws_FnExactSidesOf x1463 x1464) (fun (t : Bool) => (.dat .bool t, []))).run = some (r, H')) : Awp laws_FnExactSidesOf_ctx LL (bodyOf Try.f5) laws_FnExactSidesOf_an (⟨mkE 50 0 [(0, .dat (.list (.int .i64)) x1463), (1, .dat (.int .i64) x1464)], []⟩ : St) (Ret (tlook tys) Try.f5.results.toList r H') :=
  ret_of' (laws_FnExactSidesOf_n1_l x1463 x1464) (by unfold laws_FnExactSidesOf; kernel_rfl) (by
  intro t
  exact ret_mk [.dat .bool t] (by kernel_rfl) (by kernel_rfl) (by kernel_rfl) (by kernel_rfl)) h

def F_laws_FnExactSidesOf : Fun := fun avs H =>
  match avs, H with
  | [.dat (.list (.int .i64)) x1463, .dat (.int .i64) x1464], [] => ⟨_, laws_FnExactSidesOf x1463 x1464, fun (t : Bool) => (.dat .bool t, [])⟩
  | _, _ => Ans.no

theorem laws_FnExactSidesOf_sound : Sound Try.prog 5 F_laws_FnExactSidesOf := by
  refine fn_sound' (C := laws_FnExactSidesOf_ctx) (c := bodyOf Try.f5) (cok_of tys_ok (List.forall_mem_cons.2 ⟨laws_toIntS_sound, List.forall_mem_cons.2 ⟨spec_SidesOf_sound, List.forall_mem_cons.2 ⟨impl_SidesOf_sound, List.forall_mem_cons.2 ⟨laws_eqIntS_sound, by simp⟩⟩⟩⟩) (List.forall_mem_cons.2 ⟨Try.call19, List.forall_mem_cons.2 ⟨Try.call18, List.forall_mem_cons.2 ⟨Try.call20, List.forall_mem_cons.2 ⟨Try.call21, by simp⟩⟩⟩⟩) (by kernel_rfl)) Try.func5 (by kernel_rfl) LL laws_FnExactSidesOf_an ?_
  intro avs H r H' h
  unfold F_laws_FnExactSidesOf at h
  split at h
  · refine Awp.cast ?_ ?_ ?_ (laws_FnExactSidesOf_e _ _ h) <;> kernel_rfl
  · simp [Ans.no, Ans.run] at h

/-! loop.example/headtrees/laws.FnExactCrossOk -/

def laws_FnExactCrossOk_an : Ann := (.seq (.leaf [0, 1, 2, 3]) (.seq (.leaf [0, 1, 2, 3, 9]) (.seq (.leaf [9, 10]) (.seq (.seq (.leaf [23]) (.cond (.seq (.leaf [8]) (.leaf [8])) (.leaf []))) (.seq (.leaf [8]) (.leaf [8]))))))

noncomputable def laws_FnExactCrossOk_ctx : Ctx := ⟨tlook tys, olook [(12, F_spec_CrossOk), (11, F_impl_CrossOk)], ioF, 0⟩

theorem laws_FnExactCrossOk_n1_l (x2055 : Int) (x2056 : Int) (x2057 : Int) (x2058 : Int) : Link laws_FnExactCrossOk_ctx LL (bodyOf Try.f6) laws_FnExactCrossOk_an (⟨mkE 24 0 [(0, .dat (.int .i64) x2055), (1, .dat (.int .i64) x2056), (2, .dat (.int .i64) x2057), (3, .dat (.int .i64) x2058)], []⟩ : St) (laws_FnExactCrossOk_n1 x2055 x2056 x2057 x2058) (fun (t : Bool) => (Exit.ret, (⟨mkE 24 0 [(8, .dat .bool t)], []⟩ : St))) := by
  refine Link.of fun K h => ?_
  simp only [laws_FnExactCrossOk_n1, wpO_bind, wpO_cond, wpO_map, wpO_some] at h
  exact Awp.of (by kernel_rfl) h

theorem laws_FnExactCrossOk_e (x2055 : Int) (x2056 : Int) (x2057 : Int) (x2058 : Int) {r : AV} {H' : Heap} (h : (Ans.mk _ (laws_FnExactCrossOk x2055 x2056 x2057 x2058) (fun (t : Bool) => (.dat .bool t, []))).run = some (r, H')) : Awp laws_FnExactCrossOk_ctx LL (bodyOf Try.f6) laws_FnExactCrossOk_an (⟨mkE 24 0 [(0, .dat (.int .i64) x2055), (1, .dat (.int .i64) x2056), (2, .dat (.int .i64) x2057), (3, .dat (.int .i64) x2058)], []⟩ : St) (Ret (tlook tys) Try.f6.results.toList r H') :=
  ret_of' (laws_FnExactCrossOk_n1_l x2055 x2056 x2057 x2058) (by unfold laws_FnExactCrossOk; kernel_rfl) (by
  intro t
  exact ret_mk [.dat .bool t] (by kernel_rfl) (by kernel_rfl) (by kernel_rfl) (by kernel_rfl)) h

def F_laws_FnExactCrossOk : Fun := fun avs H =>
  match avs, H with
  | [.dat (.int .i64) x2055, .dat (.int .i64) x2056, .dat (.int .i64) x2057, .dat (.int .i64) x2058], [] => ⟨_, laws_FnExactCrossOk x2055 x2056 x2057 x2058, fun (t : Bool) => (.dat .bool t, [])⟩
  | _, _ => Ans.no

theorem laws_FnExactCrossOk_sound : Sound Try.prog 6 F_laws_FnExactCrossOk := by
  refine fn_sound' (C := laws_FnExactCrossOk_ctx) (c := bodyOf Try.f6) (cok_of tys_ok (List.forall_mem_cons.2 ⟨spec_CrossOk_sound, List.forall_mem_cons.2 ⟨impl_CrossOk_sound, by simp⟩⟩) (List.forall_mem_cons.2 ⟨Try.call12, List.forall_mem_cons.2 ⟨Try.call11, by simp⟩⟩) (by kernel_rfl)) Try.func6 (by kernel_rfl) LL laws_FnExactCrossOk_an ?_
  intro avs H r H' h
  unfold F_laws_FnExactCrossOk at h
  split at h
  · refine Awp.cast ?_ ?_ ?_ (laws_FnExactCrossOk_e _ _ _ _ h) <;> kernel_rfl
  · simp [Ans.no, Ans.run] at h

/-! loop.example/headtrees/spec.BackOf -/

def spec_BackOf_an : Ann := (.seq (.leaf [0]) (.seq (.leaf [0, 3]) (.seq (.leaf [0, 3, 4]) (.seq (.seq (.leaf [0, 3, 4, 5]) (.block (.loop (.seq (.seq (.leaf [0, 3, 4, 5, 16]) (.cond (.leaf [0, 3, 4, 5]) (.leaf [3]))) (.seq (.block (.seq (.leaf [0, 3, 4, 5, 23]) (.cond (.leaf [0, 3, 4, 5]) (.leaf [0, 3, 4, 5])))) (.leaf [0, 3, 4, 5])))))) (.seq (.leaf [2]) (.leaf [2]))))))

noncomputable def spec_BackOf_ctx : Ctx := ⟨tlook tys, olook [(16, F_spec_TreeOk)], ioF, 0⟩

theorem spec_BackOf_n1_l (x2119 : List Int) : Link spec_BackOf_ctx LL (Code.seq (Code.fst (bodyOf Try.f24)) (Code.seq (Code.fst (Code.snd (bodyOf Try.f24))) (Code.fst (Code.snd (Code.snd (bodyOf Try.f24)))))) (Ann.seq (Ann.fst spec_BackOf_an) (Ann.seq (Ann.fst (Ann.snd spec_BackOf_an)) (Ann.fst (Ann.snd (Ann.snd spec_BackOf_an))))) (⟨mkE 38 0 [(0, .dat (.list (.int .i64)) x2119)], []⟩ : St) (spec_BackOf_n1 x2119) (fun (t : Int) => (Exit.normal, (⟨mkE 38 0 [(0, .dat (.list (.int .i64)) x2119), (3, .slc 0), (4, .dat (.int .i64) t)], [some (.seq (.int .i64) ([] : List Int))]⟩ : St))) := by
  refine Link.of fun K h => ?_
  simp only [spec_BackOf_n1, wpO_bind, wpO_cond, wpO_map, wpO_some] at h
  exact Awp.of (by kernel_rfl) h

theorem spec_BackOf_n2_l (x2119 : List Int) (x2120 : Int) : Link spec_BackOf_ctx LL (Code.fst (Code.fst (Code.snd (Code.snd (Code.snd (bodyOf Try.f24)))))) (Ann.fst (Ann.fst (Ann.snd (Ann.snd (Ann.snd spec_BackOf_an))))) (⟨mkE 38 0 [(0, .dat (.list (.int .i64)) x2119), (3, .slc 0), (4, .dat (.int .i64) x2120)], [some (.seq (.int .i64) ([] : List Int))]⟩ : St) (spec_BackOf_n2 x2120) (fun (t : Int) => (Exit.normal, (⟨mkE 38 0 [(0, .dat (.list (.int .i64)) x2119), (3, .slc 0), (4, .dat (.int .i64) x2120), (5, .dat (.int .i64) t)], [some (.seq (.int .i64) ([] : List Int))]⟩ : St))) := by
  refine Link.of fun K h => ?_
  simp only [spec_BackOf_n2, wpO_bind, wpO_cond, wpO_map, wpO_some] at h
  exact Awp.of (by kernel_rfl) h

theorem spec_BackOf_n3_l (x2119 : List Int) (x2120 : Int) (x2158 : Int) (x2159 : List Int) : Link spec_BackOf_ctx LL (Code.fst (Code.fst (Code.snd (Code.fst (Code.snd (Code.snd (Code.snd (bodyOf Try.f24)))))))) (Ann.fst (Ann.fst (Ann.snd (Ann.fst (Ann.snd (Ann.snd (Ann.snd spec_BackOf_an))))))) (⟨mkE 38 0 [(0, .dat (.list (.int .i64)) x2119), (3, .slc 0), (4, .dat (.int .i64) x2120), (5, .dat (.int .i64) x2158)], [some (.seq (.int .i64) x2159)]⟩ : St) (spec_BackOf_n3 x2119 x2120 x2158 x2159) (Sum.elim (fun (t : Int × (List Int)) => (Exit.normal, (⟨mkE 38 0 [(0, .dat (.list (.int .i64)) x2119), (3, .slc 0), (4, .dat (.int .i64) x2120), (5, .dat (.int .i64) t.1)], [some (.seq (.int .i64) t.2)]⟩ : St))) (fun (t : (List Int)) => ((Exit.exit 0), (⟨mkE 38 0 [(3, .slc 0)], [some (.seq (.int .i64) t)]⟩ : St)))) := by
  refine Link.of fun K h => ?_
  simp only [spec_BackOf_n3, wpO_bind, wpO_cond, wpO_map, wpO_some] at h
  exact Awp.of (by kernel_rfl) h

theorem spec_BackOf_n4_l (x2119 : List Int) (x2120 : Int) (x2121 : Int) : Link spec_BackOf_ctx LL (Code.fst (Code.snd (Code.fst (Code.snd (Code.snd (Code.snd (bodyOf Try.f24))))))) (Ann.fst (Ann.snd (Ann.fst (Ann.snd (Ann.snd (Ann.snd spec_BackOf_an)))))) (⟨mkE 38 0 [(0, .dat (.list (.int .i64)) x2119), (3, .slc 0), (4, .dat (.int .i64) x2120), (5, .dat (.int .i64) x2121)], [some (.seq (.int .i64) ([] : List Int))]⟩ : St) (spec_BackOf_n4 x2119 x2120 x2121) (fun (t : (List Int)) => ((Exit.exit 0), (⟨mkE 38 0 [(3, .slc 0)], [some (.seq (.int .i64) t)]⟩ : St))) := by
  unfold spec_BackOf_n4
  exact Link.cast (by kernel_rfl) (by kernel_rfl) (link_loop (mk := fun (s : Int × (List Int)) => (⟨mkE 38 0 [(0, .dat (.list (.int .i64)) x2119), (3, .slc 0), (4, .dat (.int .i64) x2120), (5, .dat (.int .i64) s.1)], [some (.seq (.int .i64) s.2)]⟩ : St)) (fin := (fun (t : (List Int)) => ((Exit.exit 0), (⟨mkE 38 0 [(3, .slc 0)], [some (.seq (.int .i64) t)]⟩ : St)))) (by
  rintro t f K h
  · exact h) (fun s => link_map (spec_BackOf_n3_l x2119 x2120 s.1 s.2) (Sum.elim (fun (t : Int × (List Int)) => Sum.inl (t.1, t.2)) (fun (t : (List Int)) => Sum.inr t)) (by
  rintro (t | t)
  · kernel_rfl
  · kernel_rfl)) (x2121, ([] : List Int)))

theorem spec_BackOf_n5_l (x2119 : List Int) (x2120 : Int) (x2121 : Int) : Link spec_BackOf_ctx LL (Code.snd (Code.fst (Code.snd (Code.snd (Code.snd (bodyOf Try.f24)))))) (Ann.snd (Ann.fst (Ann.snd (Ann.snd (Ann.snd spec_BackOf_an))))) (⟨mkE 38 0 [(0, .dat (.list (.int .i64)) x2119), (3, .slc 0), (4, .dat (.int .i64) x2120), (5, .dat (.int .i64) x2121)], [some (.seq (.int .i64) ([] : List Int))]⟩ : St) (spec_BackOf_n5 x2119 x2120 x2121) (fun (t : (List Int)) => (Exit.normal, (⟨mkE 38 0 [(3, .slc 0)], [some (.seq (.int .i64) t)]⟩ : St))) := by
  unfold spec_BackOf_n5
  exact Link.cast (by kernel_rfl) (by kernel_rfl) (link_block (id := 0) (spec_BackOf_n4_l x2119 x2120 x2121) (fun (t : (List Int)) => t) (by
  rintro t K h
  · exact Eq.mp (by kernel_rfl) h))

theorem spec_BackOf_n6_l (x2119 : List Int) (x2120 : Int) : Link spec_BackOf_ctx LL (Code.fst (Code.snd (Code.snd (Code.snd (bodyOf Try.f24))))) (Ann.fst (Ann.snd (Ann.snd (Ann.snd spec_BackOf_an)))) (⟨mkE 38 0 [(0, .dat (.list (.int .i64)) x2119), (3, .slc 0), (4, .dat (.int .i64) x2120)], [some (.seq (.int .i64) ([] : List Int))]⟩ : St) (spec_BackOf_n6 x2119 x2120) (fun (t : (List Int)) => (Exit.normal, (⟨mkE 38 0 [(3, .slc 0)], [some (.seq (.int .i64) t)]⟩ : St))) := by
  unfold spec_BackOf_n6
  exact Link.cast (by kernel_rfl) (by kernel_rfl) (link_seq (b := (Code.snd (Code.fst (Code.snd (Code.snd (Code.snd (bodyOf Try.f24))))))) (y := (Ann.snd (Ann.fst (Ann.snd (Ann.snd (Ann.snd spec_BackOf_an)))))) (spec_BackOf_n2_l x2119 x2120) (fun (t : Int) => (spec_BackOf_n5_l x2119 x2120 t)))

theorem spec_BackOf_n7_l (x2159 : List Int) : Link spec_BackOf_ctx LL (Code.snd (Code.snd (Code.snd (Code.snd (bodyOf Try.f24))))) (Ann.snd (Ann.snd (Ann.snd (Ann.snd spec_BackOf_an)))) (⟨mkE 38 0 [(3, .slc 0)], [some (.seq (.int .i64) x2159)]⟩ : St) (spec_BackOf_n7 x2159) (fun (t : (List Int)) => (Exit.ret, (⟨mkE 38 0 [(2, .slc 0)], [some (.seq (.int .i64) t)]⟩ : St))) := by
  refine Link.of fun K h => ?_
  simp only [spec_BackOf_n7, wpO_bind, wpO_cond, wpO_map, wpO_some] at h
  exact Awp.of (by kernel_rfl) h

theorem spec_BackOf_n8_l (x2119 : List Int) (x2120 : Int) : Link spec_BackOf_ctx LL (Code.snd (Code.snd (Code.snd (bodyOf Try.f24)))) (Ann.snd (Ann.snd (Ann.snd spec_BackOf_an))) (⟨mkE 38 0 [(0, .dat (.list (.int .i64)) x2119), (3, .slc 0), (4, .dat (.int .i64) x2120)], [some (.seq (.int .i64) ([] : List Int))]⟩ : St) (spec_BackOf_n8 x2119 x2120) (fun (t : (List Int)) => (Exit.ret, (⟨mkE 38 0 [(2, .slc 0)], [some (.seq (.int .i64) t)]⟩ : St))) := by
  unfold spec_BackOf_n8
  exact Link.cast (by kernel_rfl) (by kernel_rfl) (link_seq (b := (Code.snd (Code.snd (Code.snd (Code.snd (bodyOf Try.f24)))))) (y := (Ann.snd (Ann.snd (Ann.snd (Ann.snd spec_BackOf_an))))) (spec_BackOf_n6_l x2119 x2120) (fun (t : (List Int)) => (spec_BackOf_n7_l t)))

theorem spec_BackOf_n9_l (x2119 : List Int) : Link spec_BackOf_ctx LL (bodyOf Try.f24) spec_BackOf_an (⟨mkE 38 0 [(0, .dat (.list (.int .i64)) x2119)], []⟩ : St) (spec_BackOf_n9 x2119) (fun (t : (List Int)) => (Exit.ret, (⟨mkE 38 0 [(2, .slc 0)], [some (.seq (.int .i64) t)]⟩ : St))) := by
  unfold spec_BackOf_n9
  exact Link.cast (by kernel_rfl) (by kernel_rfl) (link_group (c := (Code.fst (Code.snd (Code.snd (bodyOf Try.f24))))) (a := (Ann.fst (Ann.snd (Ann.snd spec_BackOf_an)))) [(Code.fst (bodyOf Try.f24)), (Code.fst (Code.snd (bodyOf Try.f24)))] [(Ann.fst spec_BackOf_an), (Ann.fst (Ann.snd spec_BackOf_an))] rfl (link_seq (b := (Code.snd (Code.snd (Code.snd (bodyOf Try.f24))))) (y := (Ann.snd (Ann.snd (Ann.snd spec_BackOf_an)))) (spec_BackOf_n1_l x2119) (fun (t : Int) => (spec_BackOf_n8_l x2119 t))))

theorem spec_BackOf_e (x2119 : List Int) {r : AV} {H' : Heap} (h : (Ans.mk _ (spec_BackOf x2119) (fun (t : (List Int)) => (.slc 0, [some (.seq (.int .i64) t)]))).run = some (r, H')) : Awp spec_BackOf_ctx LL (bodyOf Try.f24) spec_BackOf_an (⟨mkE 38 0 [(0, .dat (.list (.int .i64)) x2119)], []⟩ : St) (Ret (tlook tys) Try.f24.results.toList r H') :=
  ret_of' (spec_BackOf_n9_l x2119) (by unfold spec_BackOf; kernel_rfl) (by
  intro t
  exact ret_mk [.slc 0] (by kernel_rfl) (by kernel_rfl) (by kernel_rfl) (by kernel_rfl)) h

def F_spec_BackOf : Fun := fun avs H =>
  match avs, H with
  | [.dat (.list (.int .i64)) x2119], [] => ⟨_, spec_BackOf x2119, fun (t : (List Int)) => (.slc 0, [some (.seq (.int .i64) t)])⟩
  | _, _ => Ans.no

theorem spec_BackOf_sound : Sound Try.prog 24 F_spec_BackOf := by
  refine fn_sound' (C := spec_BackOf_ctx) (c := bodyOf Try.f24) (cok_of tys_ok (List.forall_mem_cons.2 ⟨spec_TreeOk_sound, by simp⟩) (List.forall_mem_cons.2 ⟨Try.call16, by simp⟩) (by kernel_rfl)) Try.func24 (by kernel_rfl) LL spec_BackOf_an ?_
  intro avs H r H' h
  unfold F_spec_BackOf at h
  split at h
  · refine Awp.cast ?_ ?_ ?_ (spec_BackOf_e _ h) <;> kernel_rfl
  · simp [Ans.no, Ans.run] at h

/-! loop.example/headtrees/impl.lastToFirst -/

def impl_lastToFirst_an : Ann := (.seq (.leaf [0]) (.seq (.leaf [0, 3]) (.seq (.seq (.leaf [0, 3, 8, 9]) (.block (.loop (.seq (.leaf [0, 3, 8, 9, 10]) (.seq (.cond (.leaf [0, 3, 8, 9]) (.leaf [3])) (.seq (.block (.seq (.leaf [0, 3, 4, 8, 9]) (.leaf [0, 3, 8, 9]))) (.leaf [0, 3, 8, 9]))))))) (.seq (.leaf [2]) (.leaf [2])))))

noncomputable def impl_lastToFirst_ctx : Ctx := ⟨tlook tys, olook [], ioF, 0⟩

theorem impl_lastToFirst_n1_l (x2213 : Int) : Link impl_lastToFirst_ctx LL (Code.seq (Code.fst (bodyOf Try.f44)) (Code.fst (Code.snd (bodyOf Try.f44)))) (Ann.seq (Ann.fst impl_lastToFirst_an) (Ann.fst (Ann.snd impl_lastToFirst_an))) (⟨mkE 20 0 [(0, .dat (.int .i64) x2213)], []⟩ : St) (impl_lastToFirst_n1 x2213) (fun (t : (List Int)) => (Exit.normal, (⟨mkE 20 0 [(0, .dat (.int .i64) x2213), (3, .slc 0)], [some (.seq (.int .i64) t)]⟩ : St))) := by
  refine Link.of fun K h => ?_
  simp only [impl_lastToFirst_n1, wpO_bind, wpO_cond, wpO_map, wpO_some] at h
  exact Awp.of (by kernel_rfl) h

theorem impl_lastToFirst_n2_l (x2213 : Int) (x2215 : List Int) : Link impl_lastToFirst_ctx LL (Code.fst (Code.fst (Code.snd (Code.snd (bodyOf Try.f44))))) (Ann.fst (Ann.fst (Ann.snd (Ann.snd impl_lastToFirst_an)))) (⟨mkE 20 0 [(0, .dat (.int .i64) x2213), (3, .slc 0)], [some (.seq (.int .i64) x2215)]⟩ : St) (impl_lastToFirst_n2 x2215) (fun (t : Int) => (Exit.normal, (⟨mkE 20 0 [(0, .dat (.int .i64) x2213), (3, .slc 0), (8, .dat (.int .i64) t), (9, .dat (.int .i64) 0)], [some (.seq (.int .i64) x2215)]⟩ : St))) := by
  refine Link.of fun K h => ?_
  simp only [impl_lastToFirst_n2, wpO_bind, wpO_cond, wpO_map, wpO_some] at h
  exact Awp.of (by kernel_rfl) h

theorem impl_lastToFirst_n3_l (x2213 : Int) (x2216 : Int) (x2228 : Int) (x2229 : List Int) : Link impl_lastToFirst_ctx LL (Code.fst (Code.fst (Code.snd (Code.fst (Code.snd (Code.snd (bodyOf Try.f44))))))) (Ann.fst (Ann.fst (Ann.snd (Ann.fst (Ann.snd (Ann.snd impl_lastToFirst_an)))))) (⟨mkE 20 0 [(0, .dat (.int .i64) x2213), (3, .slc 0), (8, .dat (.int .i64) x2216), (9, .dat (.int .i64) x2228)], [some (.seq (.int .i64) x2229)]⟩ : St) (impl_lastToFirst_n3 x2213 x2216 x2228 x2229) (Sum.elim (fun (t : Int × (List Int)) => (Exit.normal, (⟨mkE 20 0 [(0, .dat (.int .i64) x2213), (3, .slc 0), (8, .dat (.int .i64) x2216), (9, .dat (.int .i64) t.1)], [some (.seq (.int .i64) t.2)]⟩ : St))) (fun (t : (List Int)) => ((Exit.exit 0), (⟨mkE 20 0 [(3, .slc 0)], [some (.seq (.int .i64) t)]⟩ : St)))) := by
  refine Link.of fun K h => ?_
  simp only [impl_lastToFirst_n3, wpO_bind, wpO_cond, wpO_map, wpO_some] at h
  exact Awp.of (by kernel_rfl) h

theorem impl_lastToFirst_n4_l (x2213 : Int) (x2216 : Int) (x2215 : List Int) : Link impl_lastToFirst_ctx LL (Code.fst (Code.snd (Code.fst (Code.snd (Code.snd (bodyOf Try.f44)))))) (Ann.fst (Ann.snd (Ann.fst (Ann.snd (Ann.snd impl_lastToFirst_an))))) (⟨mkE 20 0 [(0, .dat (.int .i64) x2213), (3, .slc 0), (8, .dat (.int .i64) x2216), (9, .dat (.int .i64) 0)], [some (.seq (.int .i64) x2215)]⟩ : St) (impl_lastToFirst_n4 x2213 x2216 x2215) (fun (t : (List Int)) => ((Exit.exit 0), (⟨mkE 20 0 [(3, .slc 0)], [some (.seq (.int .i64) t)]⟩ : St))) := by
  unfold impl_lastToFirst_n4
  exact Link.cast (by kernel_rfl) (by kernel_rfl) (link_loop (mk := fun (s : Int × (List Int)) => (⟨mkE 20 0 [(0, .dat (.int .i64) x2213), (3, .slc 0), (8, .dat (.int .i64) x2216), (9, .dat (.int .i64) s.1)], [some (.seq (.int .i64) s.2)]⟩ : St)) (fin := (fun (t : (List Int)) => ((Exit.exit 0), (⟨mkE 20 0 [(3, .slc 0)], [some (.seq (.int .i64) t)]⟩ : St)))) (by
  rintro t f K h
  · exact h) (fun s => link_map (impl_lastToFirst_n3_l x2213 x2216 s.1 s.2) (Sum.elim (fun (t : Int × (List Int)) => Sum.inl (t.1, t.2)) (fun (t : (List Int)) => Sum.inr t)) (by
  rintro (t | t)
  · kernel_rfl
  · kernel_rfl)) (0, x2215))

theorem impl_lastToFirst_n5_l (x2213 : Int) (x2216 : Int) (x2215 : List Int) : Link impl_lastToFirst_ctx LL (Code.snd (Code.fst (Code.snd (Code.snd (bodyOf Try.f44))))) (Ann.snd (Ann.fst (Ann.snd (Ann.snd impl_lastToFirst_an)))) (⟨mkE 20 0 [(0, .dat (.int .i64) x2213), (3, .slc 0), (8, .dat (.int .i64) x2216), (9, .dat (.int .i64) 0)], [some (.seq (.int .i64) x2215)]⟩ : St) (impl_lastToFirst_n5 x2213 x2216 x2215) (fun (t : (List Int)) => (Exit.normal, (⟨mkE 20 0 [(3, .slc 0)], [some (.seq (.int .i64) t)]⟩ : St))) := by
  unfold impl_lastToFirst_n5
  exact Link.cast (by kernel_rfl) (by kernel_rfl) (link_block (id := 0) (impl_lastToFirst_n4_l x2213 x2216 x2215) (fun (t : (List Int)) => t) (by
  rintro t K h
  · exact Eq.mp (by kernel_rfl) h))

theorem impl_lastToFirst_n6_l (x2213 : Int) (x2215 : List Int) : Link impl_lastToFirst_ctx LL (Code.fst (Code.snd (Code.snd (bodyOf Try.f44)))) (Ann.fst (Ann.snd (Ann.snd impl_lastToFirst_an))) (⟨mkE 20 0 [(0, .dat (.int .i64) x2213), (3, .slc 0)], [some (.seq (.int .i64) x2215)]⟩ : St) (impl_lastToFirst_n6 x2213 x2215) (fun (t : (List Int)) => (Exit.normal, (⟨mkE 20 0 [(3, .slc 0)], [some (.seq (.int .i64) t)]⟩ : St))) := by
  unfold impl_lastToFirst_n6
  exact Link.cast (by kernel_rfl) (by kernel_rfl) (link_seq (b := (Code.snd (Code.fst (Code.snd (Code.snd (bodyOf Try.f44)))))) (y := (Ann.snd (Ann.fst (Ann.snd (Ann.snd impl_lastToFirst_an))))) (impl_lastToFirst_n2_l x2213 x2215) (fun (t : Int) => (impl_lastToFirst_n5_l x2213 t x2215)))

theorem impl_lastToFirst_n7_l (x2229 : List Int) : Link impl_lastToFirst_ctx LL (Code.snd (Code.snd (Code.snd (bodyOf Try.f44)))) (Ann.snd (Ann.snd (Ann.snd impl_lastToFirst_an))) (⟨mkE 20 0 [(3, .slc 0)], [some (.seq (.int .i64) x2229)]⟩ : St) (impl_lastToFirst_n7 x2229) (fun (t : (List Int)) => (Exit.ret, (⟨mkE 20 0 [(2, .slc 0)], [some (.seq (.int .i64) t)]⟩ : St))) := by
  refine Link.of fun K h => ?_
  simp only [impl_lastToFirst_n7, wpO_bind, wpO_cond, wpO_map, wpO_some] at h
  exact Awp.of (by kernel_rfl) h

theorem impl_lastToFirst_n8_l (x2213 : Int) (x2215 : List Int) : Link impl_lastToFirst_ctx LL (Code.snd (Code.snd (bodyOf Try.f44))) (Ann.snd (Ann.snd impl_lastToFirst_an)) (⟨mkE 20 0 [(0, .dat (.int .i64) x2213), (3, .slc 0)], [some (.seq (.int .i64) x2215)]⟩ : St) (impl_lastToFirst_n8 x2213 x2215) (fun (t : (List Int)) => (Exit.ret, (⟨mkE 20 0 [(2, .slc 0)], [some (.seq (.int .i64) t)]⟩ : St))) := by
  unfold impl_lastToFirst_n8
  exact Link.cast (by kernel_rfl) (by kernel_rfl) (link_seq (b := (Code.snd (Code.snd (Code.snd (bodyOf Try.f44))))) (y := (Ann.snd (Ann.snd (Ann.snd impl_lastToFirst_an)))) (impl_lastToFirst_n6_l x2213 x2215) (fun (t : (List Int)) => (impl_lastToFirst_n7_l t)))

theorem impl_lastToFirst_n9_l (x2213 : Int) : Link impl_lastToFirst_ctx LL (bodyOf Try.f44) impl_lastToFirst_an (⟨mkE 20 0 [(0, .dat (.int .i64) x2213)], []⟩ : St) (impl_lastToFirst_n9 x2213) (fun (t : (List Int)) => (Exit.ret, (⟨mkE 20 0 [(2, .slc 0)], [some (.seq (.int .i64) t)]⟩ : St))) := by
  unfold impl_lastToFirst_n9
  exact Link.cast (by kernel_rfl) (by kernel_rfl) (link_group (c := (Code.fst (Code.snd (bodyOf Try.f44)))) (a := (Ann.fst (Ann.snd impl_lastToFirst_an))) [(Code.fst (bodyOf Try.f44))] [(Ann.fst impl_lastToFirst_an)] rfl (link_seq (b := (Code.snd (Code.snd (bodyOf Try.f44)))) (y := (Ann.snd (Ann.snd impl_lastToFirst_an))) (impl_lastToFirst_n1_l x2213) (fun (t : (List Int)) => (impl_lastToFirst_n8_l x2213 t))))

theorem impl_lastToFirst_e (x2213 : Int) {r : AV} {H' : Heap} (h : (Ans.mk _ (impl_lastToFirst x2213) (fun (t : (List Int)) => (.slc 0, [some (.seq (.int .i64) t)]))).run = some (r, H')) : Awp impl_lastToFirst_ctx LL (bodyOf Try.f44) impl_lastToFirst_an (⟨mkE 20 0 [(0, .dat (.int .i64) x2213)], []⟩ : St) (Ret (tlook tys) Try.f44.results.toList r H') :=
  ret_of' (impl_lastToFirst_n9_l x2213) (by unfold impl_lastToFirst; kernel_rfl) (by
  intro t
  exact ret_mk [.slc 0] (by kernel_rfl) (by kernel_rfl) (by kernel_rfl) (by kernel_rfl)) h

def F_impl_lastToFirst : Fun := fun avs H =>
  match avs, H with
  | [.dat (.int .i64) x2213], [] => ⟨_, impl_lastToFirst x2213, fun (t : (List Int)) => (.slc 0, [some (.seq (.int .i64) t)])⟩
  | _, _ => Ans.no

theorem impl_lastToFirst_sound : Sound Try.prog 44 F_impl_lastToFirst := by
  refine fn_sound' (C := impl_lastToFirst_ctx) (c := bodyOf Try.f44) (cok_of tys_ok (by simp) (by simp) (by kernel_rfl)) Try.func44 (by kernel_rfl) LL impl_lastToFirst_an ?_
  intro avs H r H' h
  unfold F_impl_lastToFirst at h
  split at h
  · refine Awp.cast ?_ ?_ ?_ (impl_lastToFirst_e _ h) <;> kernel_rfl
  · simp [Ans.no, Ans.run] at h

/-! loop.example/headtrees/impl.OrderOk -/

def impl_OrderOk_an : Ann := (.seq (.leaf [0, 1]) (.seq (.seq (.leaf [0, 1, 19]) (.cond (.seq (.leaf [4]) (.leaf [4])) (.leaf [0, 1]))) (.seq (.leaf [0, 1, 5]) (.seq (.seq (.leaf [1, 5, 20, 21, 22]) (.block (.loop (.seq (.leaf [1, 5, 20, 21, 22, 23]) (.seq (.cond (.leaf [1, 5, 20, 21, 22]) (.leaf [])) (.seq (.block (.seq (.leaf [1, 5, 7, 20, 21, 22]) (.seq (.seq (.leaf [1, 5, 7, 20, 21, 22, 37]) (.cond (.seq (.leaf [4]) (.leaf [4])) (.leaf [1, 5, 7, 20, 21, 22]))) (.leaf [1, 5, 20, 21, 22])))) (.leaf [1, 5, 20, 21, 22]))))))) (.seq (.leaf [4]) (.leaf [4]))))))

noncomputable def impl_OrderOk_ctx : Ctx := ⟨tlook tys, olook [], ioF, 0⟩

theorem impl_OrderOk_n1_l (x2247 : List Int) (x2248 : Int) : Link impl_OrderOk_ctx LL (Code.seq (Code.fst (bodyOf Try.f52)) (Code.seq (Code.fst (Code.snd (bodyOf Try.f52))) (Code.fst (Code.snd (Code.snd (bodyOf Try.f52)))))) (Ann.seq (Ann.fst impl_OrderOk_an) (Ann.seq (Ann.fst (Ann.snd impl_OrderOk_an)) (Ann.fst (Ann.snd (Ann.snd impl_OrderOk_an))))) (⟨mkE 41 0 [(0, .dat (.list (.int .i64)) x2247), (1, .dat (.int .i64) x2248)], []⟩ : St) (impl_OrderOk_n1 x2247 x2248) (Sum.elim (fun (t : Unit) => (Exit.normal, (⟨mkE 41 0 [(0, .dat (.list (.int .i64)) x2247), (1, .dat (.int .i64) x2248), (5, .ptr 0 0)], [some (.seq .bool (List.replicate 9 false))]⟩ : St))) (fun (t : Bool) => (Exit.ret, (⟨mkE 41 0 [(4, .dat .bool t)], []⟩ : St)))) := by
  refine Link.of fun K h => ?_
  simp only [impl_OrderOk_n1, wpO_bind, wpO_cond, wpO_map, wpO_some] at h
  exact Awp.of (by kernel_rfl) h

theorem impl_OrderOk_n2_l (x2247 : List Int) (x2248 : Int) : Link impl_OrderOk_ctx LL (Code.fst (Code.fst (Code.snd (Code.snd (Code.snd (bodyOf Try.f52)))))) (Ann.fst (Ann.fst (Ann.snd (Ann.snd (Ann.snd impl_OrderOk_an))))) (⟨mkE 41 0 [(0, .dat (.list (.int .i64)) x2247), (1, .dat (.int .i64) x2248), (5, .ptr 0 0)], [some (.seq .bool (List.replicate 9 false))]⟩ : St) (impl_OrderOk_n2 x2247) (fun (t : Int) => (Exit.normal, (⟨mkE 41 0 [(1, .dat (.int .i64) x2248), (5, .ptr 0 0), (20, .dat (.list (.int .i64)) x2247), (21, .dat (.int .i64) t), (22, .dat (.int .i64) 0)], [some (.seq .bool (List.replicate 9 false))]⟩ : St))) := by
  refine Link.of fun K h => ?_
  simp only [impl_OrderOk_n2, wpO_bind, wpO_cond, wpO_map, wpO_some] at h
  exact Awp.of (by kernel_rfl) h

theorem impl_OrderOk_n3_l (x2248 : Int) (x2247 : List Int) (x2258 : Int) (x2282 : Int) (x2283 : List Bool) : Link impl_OrderOk_ctx LL (Code.fst (Code.fst (Code.snd (Code.fst (Code.snd (Code.snd (Code.snd (bodyOf Try.f52)))))))) (Ann.fst (Ann.fst (Ann.snd (Ann.fst (Ann.snd (Ann.snd (Ann.snd impl_OrderOk_an))))))) (⟨mkE 41 0 [(1, .dat (.int .i64) x2248), (5, .ptr 0 0), (20, .dat (.list (.int .i64)) x2247), (21, .dat (.int .i64) x2258), (22, .dat (.int .i64) x2282)], [some (.seq .bool x2283)]⟩ : St) (impl_OrderOk_n3 x2248 x2247 x2258 x2282 x2283) (Sum.elim (fun (t : Int × (List Bool)) => (Exit.normal, (⟨mkE 41 0 [(1, .dat (.int .i64) x2248), (5, .ptr 0 0), (20, .dat (.list (.int .i64)) x2247), (21, .dat (.int .i64) x2258), (22, .dat (.int .i64) t.1)], [some (.seq .bool t.2)]⟩ : St))) (Sum.elim (fun (t : Bool) => (Exit.ret, (⟨mkE 41 0 [(4, .dat .bool t)], []⟩ : St))) (fun (t : Unit) => ((Exit.exit 0), (⟨mkE 41 0 [], []⟩ : St))))) := by
  refine Link.of fun K h => ?_
  simp only [impl_OrderOk_n3, wpO_bind, wpO_cond, wpO_map, wpO_some] at h
  exact Awp.of (by kernel_rfl) h

theorem impl_OrderOk_n4_l (x2248 : Int) (x2247 : List Int) (x2258 : Int) : Link impl_OrderOk_ctx LL (Code.fst (Code.snd (Code.fst (Code.snd (Code.snd (Code.snd (bodyOf Try.f52))))))) (Ann.fst (Ann.snd (Ann.fst (Ann.snd (Ann.snd (Ann.snd impl_OrderOk_an)))))) (⟨mkE 41 0 [(1, .dat (.int .i64) x2248), (5, .ptr 0 0), (20, .dat (.list (.int .i64)) x2247), (21, .dat (.int .i64) x2258), (22, .dat (.int .i64) 0)], [some (.seq .bool (List.replicate 9 false))]⟩ : St) (impl_OrderOk_n4 x2248 x2247 x2258) (Sum.elim (fun (t : Bool) => (Exit.ret, (⟨mkE 41 0 [(4, .dat .bool t)], []⟩ : St))) (fun (t : Unit) => ((Exit.exit 0), (⟨mkE 41 0 [], []⟩ : St)))) := by
  unfold impl_OrderOk_n4
  exact Link.cast (by kernel_rfl) (by kernel_rfl) (link_loop (mk := fun (s : Int × (List Bool)) => (⟨mkE 41 0 [(1, .dat (.int .i64) x2248), (5, .ptr 0 0), (20, .dat (.list (.int .i64)) x2247), (21, .dat (.int .i64) x2258), (22, .dat (.int .i64) s.1)], [some (.seq .bool s.2)]⟩ : St)) (fin := (Sum.elim (fun (t : Bool) => (Exit.ret, (⟨mkE 41 0 [(4, .dat .bool t)], []⟩ : St))) (fun (t : Unit) => ((Exit.exit 0), (⟨mkE 41 0 [], []⟩ : St))))) (by
  rintro (t | t) f K h
  · exact h
  · exact h) (fun s => link_map (impl_OrderOk_n3_l x2248 x2247 x2258 s.1 s.2) (Sum.elim (fun (t : Int × (List Bool)) => Sum.inl (t.1, t.2)) (Sum.elim (fun (t : Bool) => Sum.inr (Sum.inl t)) (fun (t : Unit) => Sum.inr (Sum.inr t)))) (by
  rintro (t | t | t)
  · kernel_rfl
  · kernel_rfl
  · kernel_rfl)) (0, (List.replicate 9 false)))

theorem impl_OrderOk_n5_l (x2248 : Int) (x2247 : List Int) (x2258 : Int) : Link impl_OrderOk_ctx LL (Code.snd (Code.fst (Code.snd (Code.snd (Code.snd (bodyOf Try.f52)))))) (Ann.snd (Ann.fst (Ann.snd (Ann.snd (Ann.snd impl_OrderOk_an))))) (⟨mkE 41 0 [(1, .dat (.int .i64) x2248), (5, .ptr 0 0), (20, .dat (.list (.int .i64)) x2247), (21, .dat (.int .i64) x2258), (22, .dat (.int .i64) 0)], [some (.seq .bool (List.replicate 9 false))]⟩ : St) (impl_OrderOk_n5 x2248 x2247 x2258) (Sum.elim (fun (t : Unit) => (Exit.normal, (⟨mkE 41 0 [], []⟩ : St))) (fun (t : Bool) => (Exit.ret, (⟨mkE 41 0 [(4, .dat .bool t)], []⟩ : St)))) := by
  unfold impl_OrderOk_n5
  exact Link.cast (by kernel_rfl) (by kernel_rfl) (link_block (id := 0) (impl_OrderOk_n4_l x2248 x2247 x2258) (Sum.elim (fun (t : Bool) => (Sum.inr t)) (fun (t : Unit) => (Sum.inl ()))) (by
  rintro (t | t) K h
  · exact Eq.mp (by kernel_rfl) h
  · exact Eq.mp (by kernel_rfl) h))

theorem impl_OrderOk_n6_l (x2247 : List Int) (x2248 : Int) : Link impl_OrderOk_ctx LL (Code.fst (Code.snd (Code.snd (Code.snd (bodyOf Try.f52))))) (Ann.fst (Ann.snd (Ann.snd (Ann.snd impl_OrderOk_an)))) (⟨mkE 41 0 [(0, .dat (.list (.int .i64)) x2247), (1, .dat (.int .i64) x2248), (5, .ptr 0 0)], [some (.seq .bool (List.replicate 9 false))]⟩ : St) (impl_OrderOk_n6 x2247 x2248) (Sum.elim (fun (t : Unit) => (Exit.normal, (⟨mkE 41 0 [], []⟩ : St))) (fun (t : Bool) => (Exit.ret, (⟨mkE 41 0 [(4, .dat .bool t)], []⟩ : St)))) := by
  unfold impl_OrderOk_n6
  exact Link.cast (by kernel_rfl) (by kernel_rfl) (link_seq (b := (Code.snd (Code.fst (Code.snd (Code.snd (Code.snd (bodyOf Try.f52))))))) (y := (Ann.snd (Ann.fst (Ann.snd (Ann.snd (Ann.snd impl_OrderOk_an)))))) (impl_OrderOk_n2_l x2247 x2248) (fun (t : Int) => (impl_OrderOk_n5_l x2248 x2247 t)))

theorem impl_OrderOk_n7_l : Link impl_OrderOk_ctx LL (Code.snd (Code.snd (Code.snd (Code.snd (bodyOf Try.f52))))) (Ann.snd (Ann.snd (Ann.snd (Ann.snd impl_OrderOk_an)))) (⟨mkE 41 0 [], []⟩ : St) (impl_OrderOk_n7) (fun (t : Bool) => (Exit.ret, (⟨mkE 41 0 [(4, .dat .bool t)], []⟩ : St))) := by
  refine Link.of fun K h => ?_
  simp only [impl_OrderOk_n7, wpO_bind, wpO_cond, wpO_map, wpO_some] at h
  exact Awp.of (by kernel_rfl) h

theorem impl_OrderOk_n8_l (x2247 : List Int) (x2248 : Int) : Link impl_OrderOk_ctx LL (Code.snd (Code.snd (Code.snd (bodyOf Try.f52)))) (Ann.snd (Ann.snd (Ann.snd impl_OrderOk_an))) (⟨mkE 41 0 [(0, .dat (.list (.int .i64)) x2247), (1, .dat (.int .i64) x2248), (5, .ptr 0 0)], [some (.seq .bool (List.replicate 9 false))]⟩ : St) (impl_OrderOk_n8 x2247 x2248) (fun (t : Bool) => (Exit.ret, (⟨mkE 41 0 [(4, .dat .bool t)], []⟩ : St))) := by
  unfold impl_OrderOk_n8
  exact Link.cast (by kernel_rfl) (by kernel_rfl) (link_seq2 (b := (Code.snd (Code.snd (Code.snd (Code.snd (bodyOf Try.f52)))))) (y := (Ann.snd (Ann.snd (Ann.snd (Ann.snd impl_OrderOk_an))))) (impl_OrderOk_n6_l x2247 x2248) (fun (t : Unit) => (impl_OrderOk_n7_l)) (fun (t : Bool) => t) (by
  rintro t
  · kernel_rfl) (by
  rintro t f K h
  · exact h))

theorem impl_OrderOk_n9_l (x2247 : List Int) (x2248 : Int) : Link impl_OrderOk_ctx LL (bodyOf Try.f52) impl_OrderOk_an (⟨mkE 41 0 [(0, .dat (.list (.int .i64)) x2247), (1, .dat (.int .i64) x2248)], []⟩ : St) (impl_OrderOk_n9 x2247 x2248) (fun (t : Bool) => (Exit.ret, (⟨mkE 41 0 [(4, .dat .bool t)], []⟩ : St))) := by
  unfold impl_OrderOk_n9
  exact Link.cast (by kernel_rfl) (by kernel_rfl) (link_group (c := (Code.fst (Code.snd (Code.snd (bodyOf Try.f52))))) (a := (Ann.fst (Ann.snd (Ann.snd impl_OrderOk_an)))) [(Code.fst (bodyOf Try.f52)), (Code.fst (Code.snd (bodyOf Try.f52)))] [(Ann.fst impl_OrderOk_an), (Ann.fst (Ann.snd impl_OrderOk_an))] rfl (link_seq2 (b := (Code.snd (Code.snd (Code.snd (bodyOf Try.f52))))) (y := (Ann.snd (Ann.snd (Ann.snd impl_OrderOk_an)))) (impl_OrderOk_n1_l x2247 x2248) (fun (t : Unit) => (impl_OrderOk_n8_l x2247 x2248)) (fun (t : Bool) => t) (by
  rintro t
  · kernel_rfl) (by
  rintro t f K h
  · exact h)))

theorem impl_OrderOk_e (x2247 : List Int) (x2248 : Int) {r : AV} {H' : Heap} (h : (Ans.mk _ (impl_OrderOk x2247 x2248) (fun (t : Bool) => (.dat .bool t, []))).run = some (r, H')) : Awp impl_OrderOk_ctx LL (bodyOf Try.f52) impl_OrderOk_an (⟨mkE 41 0 [(0, .dat (.list (.int .i64)) x2247), (1, .dat (.int .i64) x2248)], []⟩ : St) (Ret (tlook tys) Try.f52.results.toList r H') :=
  ret_of' (impl_OrderOk_n9_l x2247 x2248) (by unfold impl_OrderOk; kernel_rfl) (by
  intro t
  exact ret_mk [.dat .bool t] (by kernel_rfl) (by kernel_rfl) (by kernel_rfl) (by kernel_rfl)) h

def F_impl_OrderOk : Fun := fun avs H =>
  match avs, H with
  | [.dat (.list (.int .i64)) x2247, .dat (.int .i64) x2248], [] => ⟨_, impl_OrderOk x2247 x2248, fun (t : Bool) => (.dat .bool t, [])⟩
  | _, _ => Ans.no

theorem impl_OrderOk_sound : Sound Try.prog 52 F_impl_OrderOk := by
  refine fn_sound' (C := impl_OrderOk_ctx) (c := bodyOf Try.f52) (cok_of tys_ok (by simp) (by simp) (by kernel_rfl)) Try.func52 (by kernel_rfl) LL impl_OrderOk_an ?_
  intro avs H r H' h
  unfold F_impl_OrderOk at h
  split at h
  · refine Awp.cast ?_ ?_ ?_ (impl_OrderOk_e _ _ h) <;> kernel_rfl
  · simp [Ans.no, Ans.run] at h

/-! loop.example/headtrees/impl.placesIn -/

def impl_placesIn_an : Ann := (.seq (.leaf [0]) (.seq (.leaf [0, 3]) (.seq (.seq (.leaf [3, 10, 11, 12]) (.block (.loop (.seq (.leaf [3, 10, 11, 12, 13]) (.seq (.cond (.leaf [3, 10, 11, 12]) (.leaf [3])) (.seq (.block (.seq (.leaf [3, 4, 5, 10, 11, 12]) (.leaf [3, 10, 11, 12]))) (.leaf [3, 10, 11, 12]))))))) (.seq (.leaf [2]) (.leaf [2])))))

noncomputable def impl_placesIn_ctx : Ctx := ⟨tlook tys, olook [], ioF, 0⟩

theorem impl_placesIn_n1_l (x2315 : List Int) : Link impl_placesIn_ctx LL (Code.seq (Code.fst (bodyOf Try.f53)) (Code.fst (Code.snd (bodyOf Try.f53)))) (Ann.seq (Ann.fst impl_placesIn_an) (Ann.fst (Ann.snd impl_placesIn_an))) (⟨mkE 24 0 [(0, .dat (.list (.int .i64)) x2315)], []⟩ : St) (impl_placesIn_n1 x2315) (fun (t : (List Int)) => (Exit.normal, (⟨mkE 24 0 [(0, .dat (.list (.int .i64)) x2315), (3, .slc 0)], [some (.seq (.int .i64) t)]⟩ : St))) := by
  refine Link.of fun K h => ?_
  simp only [impl_placesIn_n1, wpO_bind, wpO_cond, wpO_map, wpO_some] at h
  exact Awp.of (by kernel_rfl) h

theorem impl_placesIn_n2_l (x2315 : List Int) (x2319 : List Int) : Link impl_placesIn_ctx LL (Code.fst (Code.fst (Code.snd (Code.snd (bodyOf Try.f53))))) (Ann.fst (Ann.fst (Ann.snd (Ann.snd impl_placesIn_an)))) (⟨mkE 24 0 [(0, .dat (.list (.int .i64)) x2315), (3, .slc 0)], [some (.seq (.int .i64) x2319)]⟩ : St) (impl_placesIn_n2 x2315) (fun (t : Int) => (Exit.normal, (⟨mkE 24 0 [(3, .slc 0), (10, .dat (.list (.int .i64)) x2315), (11, .dat (.int .i64) t), (12, .dat (.int .i64) 0)], [some (.seq (.int .i64) x2319)]⟩ : St))) := by
  refine Link.of fun K h => ?_
  simp only [impl_placesIn_n2, wpO_bind, wpO_cond, wpO_map, wpO_some] at h
  exact Awp.of (by kernel_rfl) h

theorem impl_placesIn_n3_l (x2315 : List Int) (x2320 : Int) (x2334 : Int) (x2335 : List Int) : Link impl_placesIn_ctx LL (Code.fst (Code.fst (Code.snd (Code.fst (Code.snd (Code.snd (bodyOf Try.f53))))))) (Ann.fst (Ann.fst (Ann.snd (Ann.fst (Ann.snd (Ann.snd impl_placesIn_an)))))) (⟨mkE 24 0 [(3, .slc 0), (10, .dat (.list (.int .i64)) x2315), (11, .dat (.int .i64) x2320), (12, .dat (.int .i64) x2334)], [some (.seq (.int .i64) x2335)]⟩ : St) (impl_placesIn_n3 x2315 x2320 x2334 x2335) (Sum.elim (fun (t : Int × (List Int)) => (Exit.normal, (⟨mkE 24 0 [(3, .slc 0), (10, .dat (.list (.int .i64)) x2315), (11, .dat (.int .i64) x2320), (12, .dat (.int .i64) t.1)], [some (.seq (.int .i64) t.2)]⟩ : St))) (fun (t : (List Int)) => ((Exit.exit 0), (⟨mkE 24 0 [(3, .slc 0)], [some (.seq (.int .i64) t)]⟩ : St)))) := by
  refine Link.of fun K h => ?_
  simp only [impl_placesIn_n3, wpO_bind, wpO_cond, wpO_map, wpO_some] at h
  exact Awp.of (by kernel_rfl) h

theorem impl_placesIn_n4_l (x2315 : List Int) (x2320 : Int) (x2319 : List Int) : Link impl_placesIn_ctx LL (Code.fst (Code.snd (Code.fst (Code.snd (Code.snd (bodyOf Try.f53)))))) (Ann.fst (Ann.snd (Ann.fst (Ann.snd (Ann.snd impl_placesIn_an))))) (⟨mkE 24 0 [(3, .slc 0), (10, .dat (.list (.int .i64)) x2315), (11, .dat (.int .i64) x2320), (12, .dat (.int .i64) 0)], [some (.seq (.int .i64) x2319)]⟩ : St) (impl_placesIn_n4 x2315 x2320 x2319) (fun (t : (List Int)) => ((Exit.exit 0), (⟨mkE 24 0 [(3, .slc 0)], [some (.seq (.int .i64) t)]⟩ : St))) := by
  unfold impl_placesIn_n4
  exact Link.cast (by kernel_rfl) (by kernel_rfl) (link_loop (mk := fun (s : Int × (List Int)) => (⟨mkE 24 0 [(3, .slc 0), (10, .dat (.list (.int .i64)) x2315), (11, .dat (.int .i64) x2320), (12, .dat (.int .i64) s.1)], [some (.seq (.int .i64) s.2)]⟩ : St)) (fin := (fun (t : (List Int)) => ((Exit.exit 0), (⟨mkE 24 0 [(3, .slc 0)], [some (.seq (.int .i64) t)]⟩ : St)))) (by
  rintro t f K h
  · exact h) (fun s => link_map (impl_placesIn_n3_l x2315 x2320 s.1 s.2) (Sum.elim (fun (t : Int × (List Int)) => Sum.inl (t.1, t.2)) (fun (t : (List Int)) => Sum.inr t)) (by
  rintro (t | t)
  · kernel_rfl
  · kernel_rfl)) (0, x2319))

theorem impl_placesIn_n5_l (x2315 : List Int) (x2320 : Int) (x2319 : List Int) : Link impl_placesIn_ctx LL (Code.snd (Code.fst (Code.snd (Code.snd (bodyOf Try.f53))))) (Ann.snd (Ann.fst (Ann.snd (Ann.snd impl_placesIn_an)))) (⟨mkE 24 0 [(3, .slc 0), (10, .dat (.list (.int .i64)) x2315), (11, .dat (.int .i64) x2320), (12, .dat (.int .i64) 0)], [some (.seq (.int .i64) x2319)]⟩ : St) (impl_placesIn_n5 x2315 x2320 x2319) (fun (t : (List Int)) => (Exit.normal, (⟨mkE 24 0 [(3, .slc 0)], [some (.seq (.int .i64) t)]⟩ : St))) := by
  unfold impl_placesIn_n5
  exact Link.cast (by kernel_rfl) (by kernel_rfl) (link_block (id := 0) (impl_placesIn_n4_l x2315 x2320 x2319) (fun (t : (List Int)) => t) (by
  rintro t K h
  · exact Eq.mp (by kernel_rfl) h))

theorem impl_placesIn_n6_l (x2315 : List Int) (x2319 : List Int) : Link impl_placesIn_ctx LL (Code.fst (Code.snd (Code.snd (bodyOf Try.f53)))) (Ann.fst (Ann.snd (Ann.snd impl_placesIn_an))) (⟨mkE 24 0 [(0, .dat (.list (.int .i64)) x2315), (3, .slc 0)], [some (.seq (.int .i64) x2319)]⟩ : St) (impl_placesIn_n6 x2315 x2319) (fun (t : (List Int)) => (Exit.normal, (⟨mkE 24 0 [(3, .slc 0)], [some (.seq (.int .i64) t)]⟩ : St))) := by
  unfold impl_placesIn_n6
  exact Link.cast (by kernel_rfl) (by kernel_rfl) (link_seq (b := (Code.snd (Code.fst (Code.snd (Code.snd (bodyOf Try.f53)))))) (y := (Ann.snd (Ann.fst (Ann.snd (Ann.snd impl_placesIn_an))))) (impl_placesIn_n2_l x2315 x2319) (fun (t : Int) => (impl_placesIn_n5_l x2315 t x2319)))

theorem impl_placesIn_n7_l (x2335 : List Int) : Link impl_placesIn_ctx LL (Code.snd (Code.snd (Code.snd (bodyOf Try.f53)))) (Ann.snd (Ann.snd (Ann.snd impl_placesIn_an))) (⟨mkE 24 0 [(3, .slc 0)], [some (.seq (.int .i64) x2335)]⟩ : St) (impl_placesIn_n7 x2335) (fun (t : (List Int)) => (Exit.ret, (⟨mkE 24 0 [(2, .slc 0)], [some (.seq (.int .i64) t)]⟩ : St))) := by
  refine Link.of fun K h => ?_
  simp only [impl_placesIn_n7, wpO_bind, wpO_cond, wpO_map, wpO_some] at h
  exact Awp.of (by kernel_rfl) h

theorem impl_placesIn_n8_l (x2315 : List Int) (x2319 : List Int) : Link impl_placesIn_ctx LL (Code.snd (Code.snd (bodyOf Try.f53))) (Ann.snd (Ann.snd impl_placesIn_an)) (⟨mkE 24 0 [(0, .dat (.list (.int .i64)) x2315), (3, .slc 0)], [some (.seq (.int .i64) x2319)]⟩ : St) (impl_placesIn_n8 x2315 x2319) (fun (t : (List Int)) => (Exit.ret, (⟨mkE 24 0 [(2, .slc 0)], [some (.seq (.int .i64) t)]⟩ : St))) := by
  unfold impl_placesIn_n8
  exact Link.cast (by kernel_rfl) (by kernel_rfl) (link_seq (b := (Code.snd (Code.snd (Code.snd (bodyOf Try.f53))))) (y := (Ann.snd (Ann.snd (Ann.snd impl_placesIn_an)))) (impl_placesIn_n6_l x2315 x2319) (fun (t : (List Int)) => (impl_placesIn_n7_l t)))

theorem impl_placesIn_n9_l (x2315 : List Int) : Link impl_placesIn_ctx LL (bodyOf Try.f53) impl_placesIn_an (⟨mkE 24 0 [(0, .dat (.list (.int .i64)) x2315)], []⟩ : St) (impl_placesIn_n9 x2315) (fun (t : (List Int)) => (Exit.ret, (⟨mkE 24 0 [(2, .slc 0)], [some (.seq (.int .i64) t)]⟩ : St))) := by
  unfold impl_placesIn_n9
  exact Link.cast (by kernel_rfl) (by kernel_rfl) (link_group (c := (Code.fst (Code.snd (bodyOf Try.f53)))) (a := (Ann.fst (Ann.snd impl_placesIn_an))) [(Code.fst (bodyOf Try.f53))] [(Ann.fst impl_placesIn_an)] rfl (link_seq (b := (Code.snd (Code.snd (bodyOf Try.f53)))) (y := (Ann.snd (Ann.snd impl_placesIn_an))) (impl_placesIn_n1_l x2315) (fun (t : (List Int)) => (impl_placesIn_n8_l x2315 t))))

theorem impl_placesIn_e (x2315 : List Int) {r : AV} {H' : Heap} (h : (Ans.mk _ (impl_placesIn x2315) (fun (t : (List Int)) => (.slc 0, [some (.seq (.int .i64) t)]))).run = some (r, H')) : Awp impl_placesIn_ctx LL (bodyOf Try.f53) impl_placesIn_an (⟨mkE 24 0 [(0, .dat (.list (.int .i64)) x2315)], []⟩ : St) (Ret (tlook tys) Try.f53.results.toList r H') :=
  ret_of' (impl_placesIn_n9_l x2315) (by unfold impl_placesIn; kernel_rfl) (by
  intro t
  exact ret_mk [.slc 0] (by kernel_rfl) (by kernel_rfl) (by kernel_rfl) (by kernel_rfl)) h

def F_impl_placesIn : Fun := fun avs H =>
  match avs, H with
  | [.dat (.list (.int .i64)) x2315], [] => ⟨_, impl_placesIn x2315, fun (t : (List Int)) => (.slc 0, [some (.seq (.int .i64) t)])⟩
  | _, _ => Ans.no

theorem impl_placesIn_sound : Sound Try.prog 53 F_impl_placesIn := by
  refine fn_sound' (C := impl_placesIn_ctx) (c := bodyOf Try.f53) (cok_of tys_ok (by simp) (by simp) (by kernel_rfl)) Try.func53 (by kernel_rfl) LL impl_placesIn_an ?_
  intro avs H r H' h
  unfold F_impl_placesIn at h
  split at h
  · refine Awp.cast ?_ ?_ ?_ (impl_placesIn_e _ h) <;> kernel_rfl
  · simp [Ans.no, Ans.run] at h

/-! loop.example/headtrees/impl.PutInOrder$1 -/

def impl_PutInOrder_1_an : Ann := (.seq (.leaf [0, 1]) (.seq (.leaf [3]) (.leaf [3])))

noncomputable def impl_PutInOrder_1_ctx : Ctx := ⟨tlook tys, olook [], ioF, 2⟩

theorem impl_PutInOrder_1_n1_l (x2369 : Int) (x2370 : List Int) : Link impl_PutInOrder_1_ctx LL (bodyOf Try.f55) impl_PutInOrder_1_an (⟨mkE 8 0 [(0, .dat (.int .i64) x2369), (1, .ptr 0 0)], [some (.box [.slc 1]), some (.seq (.int .i64) x2370)]⟩ : St) (impl_PutInOrder_1_n1 x2369 x2370) (fun (t : Int) => (Exit.ret, (⟨mkE 8 0 [(3, .dat (.int .i64) t)], [some (.box [.slc 1]), some (.seq (.int .i64) x2370)]⟩ : St))) := by
  refine Link.of fun K h => ?_
  simp only [impl_PutInOrder_1_n1, wpO_bind, wpO_cond, wpO_map, wpO_some] at h
  exact Awp.of (by kernel_rfl) h

theorem impl_PutInOrder_1_e (x2369 : Int) (x2370 : List Int) {r : AV} {H' : Heap} (h : (Ans.mk _ (impl_PutInOrder_1 x2369 x2370) (fun (t : Int) => (.dat (.int .i64) t, [some (.box [.slc 1]), some (.seq (.int .i64) x2370)]))).run = some (r, H')) : Awp impl_PutInOrder_1_ctx LL (bodyOf Try.f55) impl_PutInOrder_1_an (⟨mkE 8 0 [(0, .dat (.int .i64) x2369), (1, .ptr 0 0)], [some (.box [.slc 1]), some (.seq (.int .i64) x2370)]⟩ : St) (Ret (tlook tys) Try.f55.results.toList r H') :=
  ret_of' (impl_PutInOrder_1_n1_l x2369 x2370) (by unfold impl_PutInOrder_1; kernel_rfl) (by
  intro t
  exact ret_mk [.dat (.int .i64) t] (by kernel_rfl) (by kernel_rfl) (by kernel_rfl) (by kernel_rfl)) h

def F_impl_PutInOrder_1 : Fun := fun avs H =>
  match avs, H with
  | [.dat (.int .i64) x2369, .ptr 0 0], [some (.box [.slc 1]), some (.seq (.int .i64) x2370)] => ⟨_, impl_PutInOrder_1 x2369 x2370, fun (t : Int) => (.dat (.int .i64) t, [some (.box [.slc 1]), some (.seq (.int .i64) x2370)])⟩
  | _, _ => Ans.no

theorem impl_PutInOrder_1_sound : Sound Try.prog 55 F_impl_PutInOrder_1 := by
  refine fn_sound' (C := impl_PutInOrder_1_ctx) (c := bodyOf Try.f55) (cok_of tys_ok (by simp) (by simp) (by kernel_rfl)) Try.func55 (by kernel_rfl) LL impl_PutInOrder_1_an ?_
  intro avs H r H' h
  unfold F_impl_PutInOrder_1 at h
  split at h
  · refine Awp.cast ?_ ?_ ?_ (impl_PutInOrder_1_e _ _ h) <;> kernel_rfl
  · simp [Ans.no, Ans.run] at h

/-! loop.example/headtrees/impl.renamed[int] -/

def impl_renamed_int_an : Ann := (.seq (.leaf [0, 1, 2]) (.seq (.leaf [0, 1, 2, 7]) (.seq (.seq (.leaf [0, 2, 7, 13, 14, 15]) (.block (.loop (.seq (.leaf [0, 2, 7, 13, 14, 15, 16]) (.seq (.cond (.leaf [0, 2, 7, 13, 14, 15]) (.leaf [7])) (.seq (.block (.seq (.leaf [0, 2, 7, 8, 9, 13, 14, 15]) (.leaf [0, 2, 7, 13, 14, 15]))) (.leaf [0, 2, 7, 13, 14, 15]))))))) (.seq (.leaf [6]) (.leaf [6])))))

noncomputable def impl_renamed_int_ctx : Ctx := ⟨tlook tys, olook [(55, F_impl_PutInOrder_1)], ioF, 2⟩

theorem impl_renamed_int_n1_l (x2356 : List Int) (x2357 : List Int) (x2358 : List Int) : Link impl_renamed_int_ctx LL (Code.seq (Code.fst (bodyOf Try.f54)) (Code.fst (Code.snd (bodyOf Try.f54)))) (Ann.seq (Ann.fst impl_renamed_int_an) (Ann.fst (Ann.snd impl_renamed_int_an))) (⟨mkE 32 0 [(0, .dat (.list (.int .i64)) x2356), (1, .dat (.list (.int .i64)) x2357), (2, .fn 55 [] [.ptr 0 0])], [some (.box [.slc 1]), some (.seq (.int .i64) x2358)]⟩ : St) (impl_renamed_int_n1 x2357) (fun (t : (List Int)) => (Exit.normal, (⟨mkE 32 0 [(0, .dat (.list (.int .i64)) x2356), (1, .dat (.list (.int .i64)) x2357), (2, .fn 55 [] [.ptr 0 0]), (7, .slc 2)], [some (.box [.slc 1]), some (.seq (.int .i64) x2358), some (.seq (.int .i64) t)]⟩ : St))) := by
  refine Link.of fun K h => ?_
  simp only [impl_renamed_int_n1, wpO_bind, wpO_cond, wpO_map, wpO_some] at h
  exact Awp.of (by kernel_rfl) h

theorem impl_renamed_int_n2_l (x2356 : List Int) (x2357 : List Int) (x2358 : List Int) (x2361 : List Int) : Link impl_renamed_int_ctx LL (Code.fst (Code.fst (Code.snd (Code.snd (bodyOf Try.f54))))) (Ann.fst (Ann.fst (Ann.snd (Ann.snd impl_renamed_int_an)))) (⟨mkE 32 0 [(0, .dat (.list (.int .i64)) x2356), (1, .dat (.list (.int .i64)) x2357), (2, .fn 55 [] [.ptr 0 0]), (7, .slc 2)], [some (.box [.slc 1]), some (.seq (.int .i64) x2358), some (.seq (.int .i64) x2361)]⟩ : St) (impl_renamed_int_n2 x2357) (fun (t : Int) => (Exit.normal, (⟨mkE 32 0 [(0, .dat (.list (.int .i64)) x2356), (2, .fn 55 [] [.ptr 0 0]), (7, .slc 2), (13, .dat (.list (.int .i64)) x2357), (14, .dat (.int .i64) t), (15, .dat (.int .i64) 0)], [some (.box [.slc 1]), some (.seq (.int .i64) x2358), some (.seq (.int .i64) x2361)]⟩ : St))) := by
  refine Link.of fun K h => ?_
  simp only [impl_renamed_int_n2, wpO_bind, wpO_cond, wpO_map, wpO_some] at h
  exact Awp.of (by kernel_rfl) h

theorem impl_renamed_int_n3_l (x2356 : List Int) (x2357 : List Int) (x2362 : Int) (x2386 : Int) (x2358 : List Int) (x2387 : List Int) : Link impl_renamed_int_ctx LL (Code.fst (Code.fst (Code.snd (Code.fst (Code.snd (Code.snd (bodyOf Try.f54))))))) (Ann.fst (Ann.fst (Ann.snd (Ann.fst (Ann.snd (Ann.snd impl_renamed_int_an)))))) (⟨mkE 32 0 [(0, .dat (.list (.int .i64)) x2356), (2, .fn 55 [] [.ptr 0 0]), (7, .slc 2), (13, .dat (.list (.int .i64)) x2357), (14, .dat (.int .i64) x2362), (15, .dat (.int .i64) x2386)], [some (.box [.slc 1]), some (.seq (.int .i64) x2358), some (.seq (.int .i64) x2387)]⟩ : St) (impl_renamed_int_n3 x2356 x2357 x2362 x2386 x2358 x2387) (Sum.elim (fun (t : Int × (List Int)) => (Exit.normal, (⟨mkE 32 0 [(0, .dat (.list (.int .i64)) x2356), (2, .fn 55 [] [.ptr 0 0]), (7, .slc 2), (13, .dat (.list (.int .i64)) x2357), (14, .dat (.int .i64) x2362), (15, .dat (.int .i64) t.1)], [some (.box [.slc 1]), some (.seq (.int .i64) x2358), some (.seq (.int .i64) t.2)]⟩ : St))) (fun (t : (List Int)) => ((Exit.exit 0), (⟨mkE 32 0 [(7, .slc 2)], [some (.box [.slc 1]), some (.seq (.int .i64) x2358), some (.seq (.int .i64) t)]⟩ : St)))) := by
  refine Link.of fun K h => ?_
  simp only [impl_renamed_int_n3, wpO_bind, wpO_cond, wpO_map, wpO_some] at h
  exact Awp.of (by kernel_rfl) h

theorem impl_renamed_int_n4_l (x2356 : List Int) (x2357 : List Int) (x2362 : Int) (x2358 : List Int) (x2361 : List Int) : Link impl_renamed_int_ctx LL (Code.fst (Code.snd (Code.fst (Code.snd (Code.snd (bodyOf Try.f54)))))) (Ann.fst (Ann.snd (Ann.fst (Ann.snd (Ann.snd impl_renamed_int_an))))) (⟨mkE 32 0 [(0, .dat (.list (.int .i64)) x2356), (2, .fn 55 [] [.ptr 0 0]), (7, .slc 2), (13, .dat (.list (.int .i64)) x2357), (14, .dat (.int .i64) x2362), (15, .dat (.int .i64) 0)], [some (.box [.slc 1]), some (.seq (.int .i64) x2358), some (.seq (.int .i64) x2361)]⟩ : St) (impl_renamed_int_n4 x2356 x2357 x2362 x2358 x2361) (fun (t : (List Int)) => ((Exit.exit 0), (⟨mkE 32 0 [(7, .slc 2)], [some (.box [.slc 1]), some (.seq (.int .i64) x2358), some (.seq (.int .i64) t)]⟩ : St))) := by
  unfold impl_renamed_int_n4
  exact Link.cast (by kernel_rfl) (by kernel_rfl) (link_loop (mk := fun (s : Int × (List Int)) => (⟨mkE 32 0 [(0, .dat (.list (.int .i64)) x2356), (2, .fn 55 [] [.ptr 0 0]), (7, .slc 2), (13, .dat (.list (.int .i64)) x2357), (14, .dat (.int .i64) x2362), (15, .dat (.int .i64) s.1)], [some (.box [.slc 1]), some (.seq (.int .i64) x2358), some (.seq (.int .i64) s.2)]⟩ : St)) (fin := (fun (t : (List Int)) => ((Exit.exit 0), (⟨mkE 32 0 [(7, .slc 2)], [some (.box [.slc 1]), some (.seq (.int .i64) x2358), some (.seq (.int .i64) t)]⟩ : St)))) (by
  rintro t f K h
  · exact h) (fun s => link_map (impl_renamed_int_n3_l x2356 x2357 x2362 s.1 x2358 s.2) (Sum.elim (fun (t : Int × (List Int)) => Sum.inl (t.1, t.2)) (fun (t : (List Int)) => Sum.inr t)) (by
  rintro (t | t)
  · kernel_rfl
  · kernel_rfl)) (0, x2361))

theorem impl_renamed_int_n5_l (x2356 : List Int) (x2357 : List Int) (x2362 : Int) (x2358 : List Int) (x2361 : List Int) : Link impl_renamed_int_ctx LL (Code.snd (Code.fst (Code.snd (Code.snd (bodyOf Try.f54))))) (Ann.snd (Ann.fst (Ann.snd (Ann.snd impl_renamed_int_an)))) (⟨mkE 32 0 [(0, .dat (.list (.int .i64)) x2356), (2, .fn 55 [] [.ptr 0 0]), (7, .slc 2), (13, .dat (.list (.int .i64)) x2357), (14, .dat (.int .i64) x2362), (15, .dat (.int .i64) 0)], [some (.box [.slc 1]), some (.seq (.int .i64) x2358), some (.seq (.int .i64) x2361)]⟩ : St) (impl_renamed_int_n5 x2356 x2357 x2362 x2358 x2361) (fun (t : (List Int)) => (Exit.normal, (⟨mkE 32 0 [(7, .slc 2)], [some (.box [.slc 1]), some (.seq (.int .i64) x2358), some (.seq (.int .i64) t)]⟩ : St))) := by
  unfold impl_renamed_int_n5
  exact Link.cast (by kernel_rfl) (by kernel_rfl) (link_block (id := 0) (impl_renamed_int_n4_l x2356 x2357 x2362 x2358 x2361) (fun (t : (List Int)) => t) (by
  rintro t K h
  · exact Eq.mp (by kernel_rfl) h))

theorem impl_renamed_int_n6_l (x2356 : List Int) (x2357 : List Int) (x2358 : List Int) (x2361 : List Int) : Link impl_renamed_int_ctx LL (Code.fst (Code.snd (Code.snd (bodyOf Try.f54)))) (Ann.fst (Ann.snd (Ann.snd impl_renamed_int_an))) (⟨mkE 32 0 [(0, .dat (.list (.int .i64)) x2356), (1, .dat (.list (.int .i64)) x2357), (2, .fn 55 [] [.ptr 0 0]), (7, .slc 2)], [some (.box [.slc 1]), some (.seq (.int .i64) x2358), some (.seq (.int .i64) x2361)]⟩ : St) (impl_renamed_int_n6 x2356 x2357 x2358 x2361) (fun (t : (List Int)) => (Exit.normal, (⟨mkE 32 0 [(7, .slc 2)], [some (.box [.slc 1]), some (.seq (.int .i64) x2358), some (.seq (.int .i64) t)]⟩ : St))) := by
  unfold impl_renamed_int_n6
  exact Link.cast (by kernel_rfl) (by kernel_rfl) (link_seq (b := (Code.snd (Code.fst (Code.snd (Code.snd (bodyOf Try.f54)))))) (y := (Ann.snd (Ann.fst (Ann.snd (Ann.snd impl_renamed_int_an))))) (impl_renamed_int_n2_l x2356 x2357 x2358 x2361) (fun (t : Int) => (impl_renamed_int_n5_l x2356 x2357 t x2358 x2361)))

theorem impl_renamed_int_n7_l (x2358 : List Int) (x2387 : List Int) : Link impl_renamed_int_ctx LL (Code.snd (Code.snd (Code.snd (bodyOf Try.f54)))) (Ann.snd (Ann.snd (Ann.snd impl_renamed_int_an))) (⟨mkE 32 0 [(7, .slc 2)], [some (.box [.slc 1]), some (.seq (.int .i64) x2358), some (.seq (.int .i64) x2387)]⟩ : St) (impl_renamed_int_n7 x2387) (fun (t : (List Int)) => (Exit.ret, (⟨mkE 32 0 [(6, .slc 2)], [some (.box [.slc 1]), some (.seq (.int .i64) x2358), some (.seq (.int .i64) t)]⟩ : St))) := by
  refine Link.of fun K h => ?_
  simp only [impl_renamed_int_n7, wpO_bind, wpO_cond, wpO_map, wpO_some] at h
  exact Awp.of (by kernel_rfl) h

theorem impl_renamed_int_n8_l (x2356 : List Int) (x2357 : List Int) (x2358 : List Int) (x2361 : List Int) : Link impl_renamed_int_ctx LL (Code.snd (Code.snd (bodyOf Try.f54))) (Ann.snd (Ann.snd impl_renamed_int_an)) (⟨mkE 32 0 [(0, .dat (.list (.int .i64)) x2356), (1, .dat (.list (.int .i64)) x2357), (2, .fn 55 [] [.ptr 0 0]), (7, .slc 2)], [some (.box [.slc 1]), some (.seq (.int .i64) x2358), some (.seq (.int .i64) x2361)]⟩ : St) (impl_renamed_int_n8 x2356 x2357 x2358 x2361) (fun (t : (List Int)) => (Exit.ret, (⟨mkE 32 0 [(6, .slc 2)], [some (.box [.slc 1]), some (.seq (.int .i64) x2358), some (.seq (.int .i64) t)]⟩ : St))) := by
  unfold impl_renamed_int_n8
  exact Link.cast (by kernel_rfl) (by kernel_rfl) (link_seq (b := (Code.snd (Code.snd (Code.snd (bodyOf Try.f54))))) (y := (Ann.snd (Ann.snd (Ann.snd impl_renamed_int_an)))) (impl_renamed_int_n6_l x2356 x2357 x2358 x2361) (fun (t : (List Int)) => (impl_renamed_int_n7_l x2358 t)))

theorem impl_renamed_int_n9_l (x2356 : List Int) (x2357 : List Int) (x2358 : List Int) : Link impl_renamed_int_ctx LL (bodyOf Try.f54) impl_renamed_int_an (⟨mkE 32 0 [(0, .dat (.list (.int .i64)) x2356), (1, .dat (.list (.int .i64)) x2357), (2, .fn 55 [] [.ptr 0 0])], [some (.box [.slc 1]), some (.seq (.int .i64) x2358)]⟩ : St) (impl_renamed_int_n9 x2356 x2357 x2358) (fun (t : (List Int)) => (Exit.ret, (⟨mkE 32 0 [(6, .slc 2)], [some (.box [.slc 1]), some (.seq (.int .i64) x2358), some (.seq (.int .i64) t)]⟩ : St))) := by
  unfold impl_renamed_int_n9
  exact Link.cast (by kernel_rfl) (by kernel_rfl) (link_group (c := (Code.fst (Code.snd (bodyOf Try.f54)))) (a := (Ann.fst (Ann.snd impl_renamed_int_an))) [(Code.fst (bodyOf Try.f54))] [(Ann.fst impl_renamed_int_an)] rfl (link_seq (b := (Code.snd (Code.snd (bodyOf Try.f54)))) (y := (Ann.snd (Ann.snd impl_renamed_int_an))) (impl_renamed_int_n1_l x2356 x2357 x2358) (fun (t : (List Int)) => (impl_renamed_int_n8_l x2356 x2357 x2358 t))))

theorem impl_renamed_int_e (x2356 : List Int) (x2357 : List Int) (x2358 : List Int) {r : AV} {H' : Heap} (h : (Ans.mk _ (impl_renamed_int x2356 x2357 x2358) (fun (t : (List Int)) => (.slc 2, [some (.box [.slc 1]), some (.seq (.int .i64) x2358), some (.seq (.int .i64) t)]))).run = some (r, H')) : Awp impl_renamed_int_ctx LL (bodyOf Try.f54) impl_renamed_int_an (⟨mkE 32 0 [(0, .dat (.list (.int .i64)) x2356), (1, .dat (.list (.int .i64)) x2357), (2, .fn 55 [] [.ptr 0 0])], [some (.box [.slc 1]), some (.seq (.int .i64) x2358)]⟩ : St) (Ret (tlook tys) Try.f54.results.toList r H') :=
  ret_of' (impl_renamed_int_n9_l x2356 x2357 x2358) (by unfold impl_renamed_int; kernel_rfl) (by
  intro t
  exact ret_mk [.slc 2] (by kernel_rfl) (by kernel_rfl) (by kernel_rfl) (by kernel_rfl)) h

def F_impl_renamed_int : Fun := fun avs H =>
  match avs, H with
  | [.dat (.list (.int .i64)) x2356, .dat (.list (.int .i64)) x2357, .fn 55 [] [.ptr 0 0]], [some (.box [.slc 1]), some (.seq (.int .i64) x2358)] => ⟨_, impl_renamed_int x2356 x2357 x2358, fun (t : (List Int)) => (.slc 2, [some (.box [.slc 1]), some (.seq (.int .i64) x2358), some (.seq (.int .i64) t)])⟩
  | _, _ => Ans.no

theorem impl_renamed_int_sound : Sound Try.prog 54 F_impl_renamed_int := by
  refine fn_sound' (C := impl_renamed_int_ctx) (c := bodyOf Try.f54) (cok_of tys_ok (List.forall_mem_cons.2 ⟨impl_PutInOrder_1_sound, by simp⟩) (List.forall_mem_cons.2 ⟨Try.call55, by simp⟩) (by kernel_rfl)) Try.func54 (by kernel_rfl) LL impl_renamed_int_an ?_
  intro avs H r H' h
  unfold F_impl_renamed_int at h
  split at h
  · refine Awp.cast ?_ ?_ ?_ (impl_renamed_int_e _ _ _ h) <;> kernel_rfl
  · simp [Ans.no, Ans.run] at h

/-! loop.example/headtrees/impl.PutInOrder -/

def impl_PutInOrder_an : Ann := (.seq (.leaf [0, 1]) (.seq (.seq (.leaf [0, 1, 16]) (.cond (.seq (.leaf [4, 5]) (.leaf [4, 5])) (.leaf [0, 1]))) (.seq (.leaf [0, 1, 6]) (.seq (.leaf [4, 5]) (.leaf [4, 5])))))

noncomputable def impl_PutInOrder_ctx : Ctx := ⟨tlook tys, olook [(38, F_impl_TreeOk), (52, F_impl_OrderOk), (53, F_impl_placesIn), (54, F_impl_renamed_int)], ioF, 0⟩

theorem impl_PutInOrder_n1_l (x2242 : List Int) (x2243 : List Int) : Link impl_PutInOrder_ctx LL (bodyOf Try.f43) impl_PutInOrder_an (⟨mkE 23 0 [(0, .dat (.list (.int .i64)) x2242), (1, .dat (.list (.int .i64)) x2243)], []⟩ : St) (impl_PutInOrder_n1 x2242 x2243) (fun (t : Bool × (List Int)) => (Exit.ret, (⟨mkE 23 0 [(4, .slc 0), (5, .dat .bool t.1)], [some (.seq (.int .i64) t.2)]⟩ : St))) := by
  refine Link.of fun K h => ?_
  simp only [impl_PutInOrder_n1, wpO_bind, wpO_cond, wpO_map, wpO_some] at h
  exact Awp.of (by kernel_rfl) h

theorem impl_PutInOrder_e (x2242 : List Int) (x2243 : List Int) {r : AV} {H' : Heap} (h : (Ans.mk _ (impl_PutInOrder x2242 x2243) (fun (t : Bool × (List Int)) => (.tup [.slc 0, .dat .bool t.1], [some (.seq (.int .i64) t.2)]))).run = some (r, H')) : Awp impl_PutInOrder_ctx LL (bodyOf Try.f43) impl_PutInOrder_an (⟨mkE 23 0 [(0, .dat (.list (.int .i64)) x2242), (1, .dat (.list (.int .i64)) x2243)], []⟩ : St) (Ret (tlook tys) Try.f43.results.toList r H') :=
  ret_of' (impl_PutInOrder_n1_l x2242 x2243) (by unfold impl_PutInOrder; kernel_rfl) (by
  intro t
  exact ret_mk [.slc 0, .dat .bool t.1] (by kernel_rfl) (by kernel_rfl) (by kernel_rfl) (by kernel_rfl)) h

def F_impl_PutInOrder : Fun := fun avs H =>
  match avs, H with
  | [.dat (.list (.int .i64)) x2242, .dat (.list (.int .i64)) x2243], [] => ⟨_, impl_PutInOrder x2242 x2243, fun (t : Bool × (List Int)) => (.tup [.slc 0, .dat .bool t.1], [some (.seq (.int .i64) t.2)])⟩
  | _, _ => Ans.no

theorem impl_PutInOrder_sound : Sound Try.prog 43 F_impl_PutInOrder := by
  refine fn_sound' (C := impl_PutInOrder_ctx) (c := bodyOf Try.f43) (cok_of tys_ok (List.forall_mem_cons.2 ⟨impl_TreeOk_sound, List.forall_mem_cons.2 ⟨impl_OrderOk_sound, List.forall_mem_cons.2 ⟨impl_placesIn_sound, List.forall_mem_cons.2 ⟨impl_renamed_int_sound, by simp⟩⟩⟩⟩) (List.forall_mem_cons.2 ⟨Try.call38, List.forall_mem_cons.2 ⟨Try.call52, List.forall_mem_cons.2 ⟨Try.call53, List.forall_mem_cons.2 ⟨Try.call54, by simp⟩⟩⟩⟩) (by kernel_rfl)) Try.func43 (by kernel_rfl) LL impl_PutInOrder_an ?_
  intro avs H r H' h
  unfold F_impl_PutInOrder at h
  split at h
  · refine Awp.cast ?_ ?_ ?_ (impl_PutInOrder_e _ _ h) <;> kernel_rfl
  · simp [Ans.no, Ans.run] at h

/-! loop.example/headtrees/impl.BackOf -/

def impl_BackOf_an : Ann := (.seq (.leaf [0]) (.seq (.seq (.leaf [0, 7]) (.cond (.seq (.leaf [2]) (.leaf [2])) (.leaf [0]))) (.seq (.leaf [3]) (.seq (.leaf [2]) (.leaf [2])))))

noncomputable def impl_BackOf_ctx : Ctx := ⟨tlook tys, olook [(38, F_impl_TreeOk), (44, F_impl_lastToFirst), (43, F_impl_PutInOrder)], ioF, 0⟩

theorem impl_BackOf_n1_l (x2207 : List Int) : Link impl_BackOf_ctx LL (bodyOf Try.f25) impl_BackOf_an (⟨mkE 17 0 [(0, .dat (.list (.int .i64)) x2207)], []⟩ : St) (impl_BackOf_n1 x2207) (fun (t : (List Int)) => (Exit.ret, (⟨mkE 17 0 [(2, .slc 0)], [some (.seq (.int .i64) t)]⟩ : St))) := by
  refine Link.of fun K h => ?_
  simp only [impl_BackOf_n1, wpO_bind, wpO_cond, wpO_map, wpO_some] at h
  exact Awp.of (by kernel_rfl) h

theorem impl_BackOf_e (x2207 : List Int) {r : AV} {H' : Heap} (h : (Ans.mk _ (impl_BackOf x2207) (fun (t : (List Int)) => (.slc 0, [some (.seq (.int .i64) t)]))).run = some (r, H')) : Awp impl_BackOf_ctx LL (bodyOf Try.f25) impl_BackOf_an (⟨mkE 17 0 [(0, .dat (.list (.int .i64)) x2207)], []⟩ : St) (Ret (tlook tys) Try.f25.results.toList r H') :=
  ret_of' (impl_BackOf_n1_l x2207) (by unfold impl_BackOf; kernel_rfl) (by
  intro t
  exact ret_mk [.slc 0] (by kernel_rfl) (by kernel_rfl) (by kernel_rfl) (by kernel_rfl)) h

def F_impl_BackOf : Fun := fun avs H =>
  match avs, H with
  | [.dat (.list (.int .i64)) x2207], [] => ⟨_, impl_BackOf x2207, fun (t : (List Int)) => (.slc 0, [some (.seq (.int .i64) t)])⟩
  | _, _ => Ans.no

theorem impl_BackOf_sound : Sound Try.prog 25 F_impl_BackOf := by
  refine fn_sound' (C := impl_BackOf_ctx) (c := bodyOf Try.f25) (cok_of tys_ok (List.forall_mem_cons.2 ⟨impl_TreeOk_sound, List.forall_mem_cons.2 ⟨impl_lastToFirst_sound, List.forall_mem_cons.2 ⟨impl_PutInOrder_sound, by simp⟩⟩⟩) (List.forall_mem_cons.2 ⟨Try.call38, List.forall_mem_cons.2 ⟨Try.call44, List.forall_mem_cons.2 ⟨Try.call43, by simp⟩⟩⟩) (by kernel_rfl)) Try.func25 (by kernel_rfl) LL impl_BackOf_an ?_
  intro avs H r H' h
  unfold F_impl_BackOf at h
  split at h
  · refine Awp.cast ?_ ?_ ?_ (impl_BackOf_e _ h) <;> kernel_rfl
  · simp [Ans.no, Ans.run] at h

/-! loop.example/headtrees/laws.markIntS -/

def laws_markIntS_an : Ann := (.seq (.leaf [0, 1]) (.seq (.seq (.leaf [0, 1, 5]) (.block (.loop (.seq (.seq (.leaf [0, 1, 5, 9]) (.cond (.leaf [0, 1, 5]) (.leaf [1]))) (.seq (.block (.seq (.leaf [0, 1, 5]) (.leaf [0, 1, 5]))) (.leaf [0, 1, 5])))))) (.seq (.leaf [4]) (.leaf [4]))))

noncomputable def laws_markIntS_ctx : Ctx := ⟨tlook tys, olook [], ioF, 1⟩

theorem laws_markIntS_n1_l (x2475 : Int) (x2476 : List Int) : Link laws_markIntS_ctx LL (Code.fst (bodyOf Try.f26)) (Ann.fst laws_markIntS_an) (⟨mkE 19 0 [(0, .slc 0), (1, .dat (.int .i64) x2475)], [some (.seq (.int .i64) x2476)]⟩ : St) (laws_markIntS_n1) (fun (t : Unit) => (Exit.normal, (⟨mkE 19 0 [(0, .slc 0), (1, .dat (.int .i64) x2475)], [some (.seq (.int .i64) x2476)]⟩ : St))) := by
  refine Link.of fun K h => ?_
  simp only [laws_markIntS_n1, wpO_bind, wpO_cond, wpO_map, wpO_some] at h
  exact Awp.of (by kernel_rfl) h

theorem laws_markIntS_n2_l (x2475 : Int) (x2476 : List Int) : Link laws_markIntS_ctx LL (Code.fst (Code.fst (Code.snd (bodyOf Try.f26)))) (Ann.fst (Ann.fst (Ann.snd laws_markIntS_an))) (⟨mkE 19 0 [(0, .slc 0), (1, .dat (.int .i64) x2475)], [some (.seq (.int .i64) x2476)]⟩ : St) (laws_markIntS_n2) (fun (t : Unit) => (Exit.normal, (⟨mkE 19 0 [(0, .slc 0), (1, .dat (.int .i64) x2475), (5, .dat (.int .i64) 0)], [some (.seq (.int .i64) x2476)]⟩ : St))) := by
  refine Link.of fun K h => ?_
  simp only [laws_markIntS_n2, wpO_bind, wpO_cond, wpO_map, wpO_some] at h
  exact Awp.of (by kernel_rfl) h

theorem laws_markIntS_n3_l (x2490 : Int) (x2491 : Int) (x2492 : List Int) : Link laws_markIntS_ctx LL (Code.fst (Code.fst (Code.snd (Code.fst (Code.snd (bodyOf Try.f26)))))) (Ann.fst (Ann.fst (Ann.snd (Ann.fst (Ann.snd laws_markIntS_an))))) (⟨mkE 19 0 [(0, .slc 0), (1, .dat (.int .i64) x2490), (5, .dat (.int .i64) x2491)], [some (.seq (.int .i64) x2492)]⟩ : St) (laws_markIntS_n3 x2490 x2491 x2492) (Sum.elim (fun (t : Int × Int × (List Int)) => (Exit.normal, (⟨mkE 19 0 [(0, .slc 0), (1, .dat (.int .i64) t.1), (5, .dat (.int .i64) t.2.1)], [some (.seq (.int .i64) t.2.2)]⟩ : St))) (fun (t : Int × (List Int)) => ((Exit.exit 0), (⟨mkE 19 0 [(1, .dat (.int .i64) t.1)], [some (.seq (.int .i64) t.2)]⟩ : St)))) := by
  refine Link.of fun K h => ?_
  simp only [laws_markIntS_n3, wpO_bind, wpO_cond, wpO_map, wpO_some] at h
  exact Awp.of (by kernel_rfl) h

theorem laws_markIntS_n4_l (x2475 : Int) (x2476 : List Int) : Link laws_markIntS_ctx LL (Code.fst (Code.snd (Code.fst (Code.snd (bodyOf Try.f26))))) (Ann.fst (Ann.snd (Ann.fst (Ann.snd laws_markIntS_an)))) (⟨mkE 19 0 [(0, .slc 0), (1, .dat (.int .i64) x2475), (5, .dat (.int .i64) 0)], [some (.seq (.int .i64) x2476)]⟩ : St) (laws_markIntS_n4 x2475 x2476) (fun (t : Int × (List Int)) => ((Exit.exit 0), (⟨mkE 19 0 [(1, .dat (.int .i64) t.1)], [some (.seq (.int .i64) t.2)]⟩ : St))) := by
  unfold laws_markIntS_n4
  exact Link.cast (by kernel_rfl) (by kernel_rfl) (link_loop (mk := fun (s : Int × Int × (List Int)) => (⟨mkE 19 0 [(0, .slc 0), (1, .dat (.int .i64) s.1), (5, .dat (.int .i64) s.2.1)], [some (.seq (.int .i64) s.2.2)]⟩ : St)) (fin := (fun (t : Int × (List Int)) => ((Exit.exit 0), (⟨mkE 19 0 [(1, .dat (.int .i64) t.1)], [some (.seq (.int .i64) t.2)]⟩ : St)))) (by
  rintro t f K h
  · exact h) (fun s => link_map (laws_markIntS_n3_l s.1 s.2.1 s.2.2) (Sum.elim (fun (t : Int × Int × (List Int)) => Sum.inl (t.1, t.2.1, t.2.2)) (fun (t : Int × (List Int)) => Sum.inr t)) (by
  rintro (t | t)
  · kernel_rfl
  · kernel_rfl)) (x2475, 0, x2476))

theorem laws_markIntS_n5_l (x2475 : Int) (x2476 : List Int) : Link laws_markIntS_ctx LL (Code.snd (Code.fst (Code.snd (bodyOf Try.f26)))) (Ann.snd (Ann.fst (Ann.snd laws_markIntS_an))) (⟨mkE 19 0 [(0, .slc 0), (1, .dat (.int .i64) x2475), (5, .dat (.int .i64) 0)], [some (.seq (.int .i64) x2476)]⟩ : St) (laws_markIntS_n5 x2475 x2476) (fun (t : Int × (List Int)) => (Exit.normal, (⟨mkE 19 0 [(1, .dat (.int .i64) t.1)], [some (.seq (.int .i64) t.2)]⟩ : St))) := by
  unfold laws_markIntS_n5
  exact Link.cast (by kernel_rfl) (by kernel_rfl) (link_block (id := 0) (laws_markIntS_n4_l x2475 x2476) (fun (t : Int × (List Int)) => (t.1, t.2)) (by
  rintro t K h
  · exact Eq.mp (by kernel_rfl) h))

theorem laws_markIntS_n6_l (x2475 : Int) (x2476 : List Int) : Link laws_markIntS_ctx LL (Code.fst (Code.snd (bodyOf Try.f26))) (Ann.fst (Ann.snd laws_markIntS_an)) (⟨mkE 19 0 [(0, .slc 0), (1, .dat (.int .i64) x2475)], [some (.seq (.int .i64) x2476)]⟩ : St) (laws_markIntS_n6 x2475 x2476) (fun (t : Int × (List Int)) => (Exit.normal, (⟨mkE 19 0 [(1, .dat (.int .i64) t.1)], [some (.seq (.int .i64) t.2)]⟩ : St))) := by
  unfold laws_markIntS_n6
  exact Link.cast (by kernel_rfl) (by kernel_rfl) (link_seq (b := (Code.snd (Code.fst (Code.snd (bodyOf Try.f26))))) (y := (Ann.snd (Ann.fst (Ann.snd laws_markIntS_an)))) (laws_markIntS_n2_l x2475 x2476) (fun (t : Unit) => (laws_markIntS_n5_l x2475 x2476)))

theorem laws_markIntS_n7_l (x2490 : Int) (x2492 : List Int) : Link laws_markIntS_ctx LL (Code.snd (Code.snd (bodyOf Try.f26))) (Ann.snd (Ann.snd laws_markIntS_an)) (⟨mkE 19 0 [(1, .dat (.int .i64) x2490)], [some (.seq (.int .i64) x2492)]⟩ : St) (laws_markIntS_n7 x2490 x2492) (fun (t : Int × (List Int)) => (Exit.ret, (⟨mkE 19 0 [(4, .dat (.int .i64) t.1)], [some (.seq (.int .i64) t.2)]⟩ : St))) := by
  refine Link.of fun K h => ?_
  simp only [laws_markIntS_n7, wpO_bind, wpO_cond, wpO_map, wpO_some] at h
  exact Awp.of (by kernel_rfl) h

theorem laws_markIntS_n8_l (x2475 : Int) (x2476 : List Int) : Link laws_markIntS_ctx LL (Code.snd (bodyOf Try.f26)) (Ann.snd laws_markIntS_an) (⟨mkE 19 0 [(0, .slc 0), (1, .dat (.int .i64) x2475)], [some (.seq (.int .i64) x2476)]⟩ : St) (laws_markIntS_n8 x2475 x2476) (fun (t : Int × (List Int)) => (Exit.ret, (⟨mkE 19 0 [(4, .dat (.int .i64) t.1)], [some (.seq (.int .i64) t.2)]⟩ : St))) := by
  unfold laws_markIntS_n8
  exact Link.cast (by kernel_rfl) (by kernel_rfl) (link_seq (b := (Code.snd (Code.snd (bodyOf Try.f26)))) (y := (Ann.snd (Ann.snd laws_markIntS_an))) (laws_markIntS_n6_l x2475 x2476) (fun (t : Int × (List Int)) => (laws_markIntS_n7_l t.1 t.2)))

theorem laws_markIntS_n9_l (x2475 : Int) (x2476 : List Int) : Link laws_markIntS_ctx LL (bodyOf Try.f26) laws_markIntS_an (⟨mkE 19 0 [(0, .slc 0), (1, .dat (.int .i64) x2475)], [some (.seq (.int .i64) x2476)]⟩ : St) (laws_markIntS_n9 x2475 x2476) (fun (t : Int × (List Int)) => (Exit.ret, (⟨mkE 19 0 [(4, .dat (.int .i64) t.1)], [some (.seq (.int .i64) t.2)]⟩ : St))) := by
  unfold laws_markIntS_n9
  exact Link.cast (by kernel_rfl) (by kernel_rfl) (link_seq (b := (Code.snd (bodyOf Try.f26))) (y := (Ann.snd laws_markIntS_an)) (laws_markIntS_n1_l x2475 x2476) (fun (t : Unit) => (laws_markIntS_n8_l x2475 x2476)))

theorem laws_markIntS_e (x2475 : Int) (x2476 : List Int) {r : AV} {H' : Heap} (h : (Ans.mk _ (laws_markIntS x2475 x2476) (fun (t : Int × (List Int)) => (.dat (.int .i64) t.1, [some (.seq (.int .i64) t.2)]))).run = some (r, H')) : Awp laws_markIntS_ctx LL (bodyOf Try.f26) laws_markIntS_an (⟨mkE 19 0 [(0, .slc 0), (1, .dat (.int .i64) x2475)], [some (.seq (.int .i64) x2476)]⟩ : St) (Ret (tlook tys) Try.f26.results.toList r H') :=
  ret_of' (laws_markIntS_n9_l x2475 x2476) (by unfold laws_markIntS; kernel_rfl) (by
  intro t
  exact ret_mk [.dat (.int .i64) t.1] (by kernel_rfl) (by kernel_rfl) (by kernel_rfl) (by kernel_rfl)) h

def F_laws_markIntS : Fun := fun avs H =>
  match avs, H with
  | [.slc 0, .dat (.int .i64) x2475], [some (.seq (.int .i64) x2476)] => ⟨_, laws_markIntS x2475 x2476, fun (t : Int × (List Int)) => (.dat (.int .i64) t.1, [some (.seq (.int .i64) t.2)])⟩
  | _, _ => Ans.no

theorem laws_markIntS_sound : Sound Try.prog 26 F_laws_markIntS := by
  refine fn_sound' (C := laws_markIntS_ctx) (c := bodyOf Try.f26) (cok_of tys_ok (by simp) (by simp) (by kernel_rfl)) Try.func26 (by kernel_rfl) LL laws_markIntS_an ?_
  intro avs H r H' h
  unfold F_laws_markIntS at h
  split at h
  · refine Awp.cast ?_ ?_ ?_ (laws_markIntS_e _ _ h) <;> kernel_rfl
  · simp [Ans.no, Ans.run] at h

/-! loop.example/headtrees/laws.heldIntS -/

def laws_heldIntS_an : Ann := (.seq (.leaf [0, 1]) (.seq (.seq (.leaf [0, 1, 5]) (.block (.loop (.seq (.seq (.leaf [0, 1, 5, 9]) (.cond (.leaf [0, 1, 5]) (.leaf [1]))) (.seq (.block (.seq (.seq (.leaf [0, 1, 5, 17]) (.cond (.seq (.leaf [4]) (.leaf [4])) (.leaf [0, 1, 5]))) (.leaf [0, 1, 5]))) (.leaf [0, 1, 5])))))) (.seq (.leaf [4]) (.leaf [4]))))

noncomputable def laws_heldIntS_ctx : Ctx := ⟨tlook tys, olook [], ioF, 0⟩

theorem laws_heldIntS_n1_l (x2603 : List Int) (x2604 : Int) : Link laws_heldIntS_ctx LL (Code.fst (bodyOf Try.f27)) (Ann.fst laws_heldIntS_an) (⟨mkE 21 0 [(0, .dat (.list (.int .i64)) x2603), (1, .dat (.int .i64) x2604)], []⟩ : St) (laws_heldIntS_n1) (fun (t : Unit) => (Exit.normal, (⟨mkE 21 0 [(0, .dat (.list (.int .i64)) x2603), (1, .dat (.int .i64) x2604)], []⟩ : St))) := by
  refine Link.of fun K h => ?_
  simp only [laws_heldIntS_n1, wpO_bind, wpO_cond, wpO_map, wpO_some] at h
  exact Awp.of (by kernel_rfl) h

theorem laws_heldIntS_n2_l (x2603 : List Int) (x2604 : Int) : Link laws_heldIntS_ctx LL (Code.fst (Code.fst (Code.snd (bodyOf Try.f27)))) (Ann.fst (Ann.fst (Ann.snd laws_heldIntS_an))) (⟨mkE 21 0 [(0, .dat (.list (.int .i64)) x2603), (1, .dat (.int .i64) x2604)], []⟩ : St) (laws_heldIntS_n2) (fun (t : Unit) => (Exit.normal, (⟨mkE 21 0 [(0, .dat (.list (.int .i64)) x2603), (1, .dat (.int .i64) x2604), (5, .dat (.int .i64) 0)], []⟩ : St))) := by
  refine Link.of fun K h => ?_
  simp only [laws_heldIntS_n2, wpO_bind, wpO_cond, wpO_map, wpO_some] at h
  exact Awp.of (by kernel_rfl) h

theorem laws_heldIntS_n3_l (x2603 : List Int) (x2618 : Int) (x2619 : Int) : Link laws_heldIntS_ctx LL (Code.fst (Code.fst (Code.snd (Code.fst (Code.snd (bodyOf Try.f27)))))) (Ann.fst (Ann.fst (Ann.snd (Ann.fst (Ann.snd laws_heldIntS_an))))) (⟨mkE 21 0 [(0, .dat (.list (.int .i64)) x2603), (1, .dat (.int .i64) x2618), (5, .dat (.int .i64) x2619)], []⟩ : St) (laws_heldIntS_n3 x2603 x2618 x2619) (Sum.elim (fun (t : Int × Int) => (Exit.normal, (⟨mkE 21 0 [(0, .dat (.list (.int .i64)) x2603), (1, .dat (.int .i64) t.1), (5, .dat (.int .i64) t.2)], []⟩ : St))) (Sum.elim (fun (t : Int) => (Exit.ret, (⟨mkE 21 0 [(4, .dat (.int .i64) t)], []⟩ : St))) (fun (t : Int) => ((Exit.exit 0), (⟨mkE 21 0 [(1, .dat (.int .i64) t)], []⟩ : St))))) := by
  refine Link.of fun K h => ?_
  simp only [laws_heldIntS_n3, wpO_bind, wpO_cond, wpO_map, wpO_some] at h
  exact Awp.of (by kernel_rfl) h

theorem laws_heldIntS_n4_l (x2603 : List Int) (x2604 : Int) : Link laws_heldIntS_ctx LL (Code.fst (Code.snd (Code.fst (Code.snd (bodyOf Try.f27))))) (Ann.fst (Ann.snd (Ann.fst (Ann.snd laws_heldIntS_an)))) (⟨mkE 21 0 [(0, .dat (.list (.int .i64)) x2603), (1, .dat (.int .i64) x2604), (5, .dat (.int .i64) 0)], []⟩ : St) (laws_heldIntS_n4 x2603 x2604) (Sum.elim (fun (t : Int) => (Exit.ret, (⟨mkE 21 0 [(4, .dat (.int .i64) t)], []⟩ : St))) (fun (t : Int) => ((Exit.exit 0), (⟨mkE 21 0 [(1, .dat (.int .i64) t)], []⟩ : St)))) := by
  unfold laws_heldIntS_n4
  exact Link.cast (by kernel_rfl) (by kernel_rfl) (link_loop (mk := fun (s : Int × Int) => (⟨mkE 21 0 [(0, .dat (.list (.int .i64)) x2603), (1, .dat (.int .i64) s.1), (5, .dat (.int .i64) s.2)], []⟩ : St)) (fin := (Sum.elim (fun (t : Int) => (Exit.ret, (⟨mkE 21 0 [(4, .dat (.int .i64) t)], []⟩ : St))) (fun (t : Int) => ((Exit.exit 0), (⟨mkE 21 0 [(1, .dat (.int .i64) t)], []⟩ : St))))) (by
  rintro (t | t) f K h
  · exact h
  · exact h) (fun s => link_map (laws_heldIntS_n3_l x2603 s.1 s.2) (Sum.elim (fun (t : Int × Int) => Sum.inl (t.1, t.2)) (Sum.elim (fun (t : Int) => Sum.inr (Sum.inl t)) (fun (t : Int) => Sum.inr (Sum.inr t)))) (by
  rintro (t | t | t)
  · kernel_rfl
  · kernel_rfl
  · kernel_rfl)) (x2604, 0))

theorem laws_heldIntS_n5_l (x2603 : List Int) (x2604 : Int) : Link laws_heldIntS_ctx LL (Code.snd (Code.fst (Code.snd (bodyOf Try.f27)))) (Ann.snd (Ann.fst (Ann.snd laws_heldIntS_an))) (⟨mkE 21 0 [(0, .dat (.list (.int .i64)) x2603), (1, .dat (.int .i64) x2604), (5, .dat (.int .i64) 0)], []⟩ : St) (laws_heldIntS_n5 x2603 x2604) (Sum.elim (fun (t : Int) => (Exit.normal, (⟨mkE 21 0 [(1, .dat (.int .i64) t)], []⟩ : St))) (fun (t : Int) => (Exit.ret, (⟨mkE 21 0 [(4, .dat (.int .i64) t)], []⟩ : St)))) := by
  unfold laws_heldIntS_n5
  exact Link.cast (by kernel_rfl) (by kernel_rfl) (link_block (id := 0) (laws_heldIntS_n4_l x2603 x2604) (Sum.elim (fun (t : Int) => (Sum.inr t)) (fun (t : Int) => (Sum.inl t))) (by
  rintro (t | t) K h
  · exact Eq.mp (by kernel_rfl) h
  · exact Eq.mp (by kernel_rfl) h))

theorem laws_heldIntS_n6_l (x2603 : List Int) (x2604 : Int) : Link laws_heldIntS_ctx LL (Code.fst (Code.snd (bodyOf Try.f27))) (Ann.fst (Ann.snd laws_heldIntS_an)) (⟨mkE 21 0 [(0, .dat (.list (.int .i64)) x2603), (1, .dat (.int .i64) x2604)], []⟩ : St) (laws_heldIntS_n6 x2603 x2604) (Sum.elim (fun (t : Int) => (Exit.normal, (⟨mkE 21 0 [(1, .dat (.int .i64) t)], []⟩ : St))) (fun (t : Int) => (Exit.ret, (⟨mkE 21 0 [(4, .dat (.int .i64) t)], []⟩ : St)))) := by
  unfold laws_heldIntS_n6
  exact Link.cast (by kernel_rfl) (by kernel_rfl) (link_seq (b := (Code.snd (Code.fst (Code.snd (bodyOf Try.f27))))) (y := (Ann.snd (Ann.fst (Ann.snd laws_heldIntS_an)))) (laws_heldIntS_n2_l x2603 x2604) (fun (t : Unit) => (laws_heldIntS_n5_l x2603 x2604)))

theorem laws_heldIntS_n7_l (x2618 : Int) : Link laws_heldIntS_ctx LL (Code.snd (Code.snd (bodyOf Try.f27))) (Ann.snd (Ann.snd laws_heldIntS_an)) (⟨mkE 21 0 [(1, .dat (.int .i64) x2618)], []⟩ : St) (laws_heldIntS_n7 x2618) (fun (t : Int) => (Exit.ret, (⟨mkE 21 0 [(4, .dat (.int .i64) t)], []⟩ : St))) := by
  refine Link.of fun K h => ?_
  simp only [laws_heldIntS_n7, wpO_bind, wpO_cond, wpO_map, wpO_some] at h
  exact Awp.of (by kernel_rfl) h

theorem laws_heldIntS_n8_l (x2603 : List Int) (x2604 : Int) : Link laws_heldIntS_ctx LL (Code.snd (bodyOf Try.f27)) (Ann.snd laws_heldIntS_an) (⟨mkE 21 0 [(0, .dat (.list (.int .i64)) x2603), (1, .dat (.int .i64) x2604)], []⟩ : St) (laws_heldIntS_n8 x2603 x2604) (fun (t : Int) => (Exit.ret, (⟨mkE 21 0 [(4, .dat (.int .i64) t)], []⟩ : St))) := by
  unfold laws_heldIntS_n8
  exact Link.cast (by kernel_rfl) (by kernel_rfl) (link_seq2 (b := (Code.snd (Code.snd (bodyOf Try.f27)))) (y := (Ann.snd (Ann.snd laws_heldIntS_an))) (laws_heldIntS_n6_l x2603 x2604) (fun (t : Int) => (laws_heldIntS_n7_l t)) (fun (t : Int) => t) (by
  rintro t
  · kernel_rfl) (by
  rintro t f K h
  · exact h))

theorem laws_heldIntS_n9_l (x2603 : List Int) (x2604 : Int) : Link laws_heldIntS_ctx LL (bodyOf Try.f27) laws_heldIntS_an (⟨mkE 21 0 [(0, .dat (.list (.int .i64)) x2603), (1, .dat (.int .i64) x2604)], []⟩ : St) (laws_heldIntS_n9 x2603 x2604) (fun (t : Int) => (Exit.ret, (⟨mkE 21 0 [(4, .dat (.int .i64) t)], []⟩ : St))) := by
  unfold laws_heldIntS_n9
  exact Link.cast (by kernel_rfl) (by kernel_rfl) (link_seq (b := (Code.snd (bodyOf Try.f27))) (y := (Ann.snd laws_heldIntS_an)) (laws_heldIntS_n1_l x2603 x2604) (fun (t : Unit) => (laws_heldIntS_n8_l x2603 x2604)))

theorem laws_heldIntS_e (x2603 : List Int) (x2604 : Int) {r : AV} {H' : Heap} (h : (Ans.mk _ (laws_heldIntS x2603 x2604) (fun (t : Int) => (.dat (.int .i64) t, []))).run = some (r, H')) : Awp laws_heldIntS_ctx LL (bodyOf Try.f27) laws_heldIntS_an (⟨mkE 21 0 [(0, .dat (.list (.int .i64)) x2603), (1, .dat (.int .i64) x2604)], []⟩ : St) (Ret (tlook tys) Try.f27.results.toList r H') :=
  ret_of' (laws_heldIntS_n9_l x2603 x2604) (by unfold laws_heldIntS; kernel_rfl) (by
  intro t
  exact ret_mk [.dat (.int .i64) t] (by kernel_rfl) (by kernel_rfl) (by kernel_rfl) (by kernel_rfl)) h

def F_laws_heldIntS : Fun := fun avs H =>
  match avs, H with
  | [.dat (.list (.int .i64)) x2603, .dat (.int .i64) x2604], [] => ⟨_, laws_heldIntS x2603 x2604, fun (t : Int) => (.dat (.int .i64) t, [])⟩
  | _, _ => Ans.no

theorem laws_heldIntS_sound : Sound Try.prog 27 F_laws_heldIntS := by
  refine fn_sound' (C := laws_heldIntS_ctx) (c := bodyOf Try.f27) (cok_of tys_ok (by simp) (by simp) (by kernel_rfl)) Try.func27 (by kernel_rfl) LL laws_heldIntS_an ?_
  intro avs H r H' h
  unfold F_laws_heldIntS at h
  split at h
  · refine Awp.cast ?_ ?_ ?_ (laws_heldIntS_e _ _ h) <;> kernel_rfl
  · simp [Ans.no, Ans.run] at h

/-! loop.example/headtrees/laws.FnExactBackOf -/

def laws_FnExactBackOf_an : Ann := (.seq (.leaf [0]) (.seq (.seq (.leaf [0, 12]) (.cond (.seq (.leaf [2]) (.leaf [2])) (.leaf [0]))) (.seq (.leaf [0, 3]) (.seq (.leaf [0, 3, 4]) (.seq (.leaf [0, 3, 4, 5]) (.seq (.seq (.leaf [0, 3, 4, 5, 23]) (.cond (.seq (.leaf [2]) (.leaf [2])) (.leaf [0, 3, 4, 5]))) (.seq (.seq (.leaf [0, 3, 4, 5, 28]) (.cond (.seq (.leaf [2]) (.leaf [2])) (.leaf [0, 3, 4, 5]))) (.seq (.leaf [0, 3, 4, 5, 6]) (.seq (.leaf [0, 3, 5, 6]) (.seq (.seq (.leaf [0, 3, 5, 39]) (.cond (.seq (.leaf [2]) (.leaf [2])) (.leaf [0, 3, 5]))) (.seq (.leaf [0, 3, 5, 7]) (.seq (.leaf [0, 3, 5, 7]) (.seq (.leaf [0, 3, 5, 7, 8]) (.seq (.leaf [0, 3, 5, 7, 8]) (.seq (.seq (.leaf [0, 3, 5, 7, 8, 47]) (.cond (.seq (.leaf [2]) (.leaf [2])) (.leaf [0, 3, 5, 7, 8]))) (.seq (.seq (.leaf [0, 3, 5, 7, 50]) (.cond (.seq (.leaf [2]) (.leaf [2])) (.leaf [0, 3, 5, 7]))) (.seq (.leaf [3, 5, 7, 9]) (.seq (.seq (.leaf [5, 7, 57]) (.cond (.seq (.leaf [2]) (.leaf [2])) (.leaf [5, 7]))) (.seq (.leaf [5, 7, 8]) (.seq (.leaf [7, 8]) (.seq (.seq (.leaf [7, 8, 62]) (.cond (.seq (.leaf [2]) (.leaf [2])) (.leaf [7, 8]))) (.seq (.seq (.leaf [65]) (.cond (.seq (.leaf [2]) (.leaf [2])) (.leaf []))) (.seq (.leaf [2]) (.leaf [2]))))))))))))))))))))))))

noncomputable def laws_FnExactBackOf_ctx : Ctx := ⟨tlook tys, olook [(19, F_laws_toIntS), (24, F_spec_BackOf), (25, F_impl_BackOf), (21, F_laws_eqIntS), (26, F_laws_markIntS), (27, F_laws_heldIntS)], ioF, 0⟩

theorem laws_FnExactBackOf_n1_l (x2113 : List Int) : Link laws_FnExactBackOf_ctx LL (bodyOf Try.f9) laws_FnExactBackOf_an (⟨mkE 66 0 [(0, .dat (.list (.int .i64)) x2113)], []⟩ : St) (laws_FnExactBackOf_n1 x2113) (fun (t : Bool) => (Exit.ret, (⟨mkE 66 0 [(2, .dat .bool t)], []⟩ : St))) := by
  refine Link.of fun K h => ?_
  simp only [laws_FnExactBackOf_n1, wpO_bind, wpO_cond, wpO_map, wpO_some] at h
  exact Awp.of (by kernel_rfl) h

theorem laws_FnExactBackOf_e (x2113 : List Int) {r : AV} {H' : Heap} (h : (Ans.mk _ (laws_FnExactBackOf x2113) (fun (t : Bool) => (.dat .bool t, []))).run = some (r, H')) : Awp laws_FnExactBackOf_ctx LL (bodyOf Try.f9) laws_FnExactBackOf_an (⟨mkE 66 0 [(0, .dat (.list (.int .i64)) x2113)], []⟩ : St) (Ret (tlook tys) Try.f9.results.toList r H') :=
  ret_of' (laws_FnExactBackOf_n1_l x2113) (by unfold laws_FnExactBackOf; kernel_rfl) (by
  intro t
  exact ret_mk [.dat .bool t] (by kernel_rfl) (by kernel_rfl) (by kernel_rfl) (by kernel_rfl)) h

def F_laws_FnExactBackOf : Fun := fun avs H =>
  match avs, H with
  | [.dat (.list (.int .i64)) x2113], [] => ⟨_, laws_FnExactBackOf x2113, fun (t : Bool) => (.dat .bool t, [])⟩
  | _, _ => Ans.no

theorem laws_FnExactBackOf_sound : Sound Try.prog 9 F_laws_FnExactBackOf := by
  refine fn_sound' (C := laws_FnExactBackOf_ctx) (c := bodyOf Try.f9) (cok_of tys_ok (List.forall_mem_cons.2 ⟨laws_toIntS_sound, List.forall_mem_cons.2 ⟨spec_BackOf_sound, List.forall_mem_cons.2 ⟨impl_BackOf_sound, List.forall_mem_cons.2 ⟨laws_eqIntS_sound, List.forall_mem_cons.2 ⟨laws_markIntS_sound, List.forall_mem_cons.2 ⟨laws_heldIntS_sound, by simp⟩⟩⟩⟩⟩⟩) (List.forall_mem_cons.2 ⟨Try.call19, List.forall_mem_cons.2 ⟨Try.call24, List.forall_mem_cons.2 ⟨Try.call25, List.forall_mem_cons.2 ⟨Try.call21, List.forall_mem_cons.2 ⟨Try.call26, List.forall_mem_cons.2 ⟨Try.call27, by simp⟩⟩⟩⟩⟩⟩) (by kernel_rfl)) Try.func9 (by kernel_rfl) LL laws_FnExactBackOf_an ?_
  intro avs H r H' h
  unfold F_laws_FnExactBackOf at h
  split at h
  · refine Awp.cast ?_ ?_ ?_ (laws_FnExactBackOf_e _ h) <;> kernel_rfl
  · simp [Ans.no, Ans.run] at h

end Go.Rv
