/-
  The checked code answers as the plain functions do; written by program. Conditions: none.
-/
import Derived.Test.YtlpcfakfhfjclaaG2N
import Derived.Test.YtlpcfakfhfjclaaProg
set_option linter.unusedVariables false
set_option linter.unusedSimpArgs false
set_option maxRecDepth 100000
namespace Go.Rv
open Go.Proofs
def tys : List (TypeId × TI) := []
theorem tys_ok : TOk Try.prog (tlook tys) := tok_of (by simp [tys])
def ioF (f : FuncId) (i : Nat) : Bool := [].any fun (p : Nat × Nat) => Nat.beq p.1 f && Nat.beq p.2 i

/-! loop.example/headtrees/spec.l1In -/

def spec_l1In_an : Ann := (.seq (.leaf [0, 1, 2]) (.seq (.leaf [6]) (.leaf [6])))

noncomputable def spec_l1In_ctx : Ctx := ⟨tlook tys, olook [], ioF, 0⟩

theorem spec_l1In_0_l (x8 : Int) (x9 : Int) (x10 : Int) : Link spec_l1In_ctx LL (Code.fst (bodyOf Try.f44)) (Ann.fst spec_l1In_an) (⟨mkE 15 0 [(0, .dat (.int .i64) x8), (1, .dat (.int .i64) x9), (2, .dat (.int .i64) x10)], []⟩ : St) (spec_l1In_0) (fun (t : Unit) => (Exit.normal, (⟨mkE 15 0 [(0, .dat (.int .i64) x8), (1, .dat (.int .i64) x9), (2, .dat (.int .i64) x10)], []⟩ : St))) := by
  refine ⟨fun K h => ?_⟩
  simp only [spec_l1In_0, wpO_bind, wpO_cond, wpO_map, wpO_some] at h
  exact Eq.mp (by kernel_rfl) h

theorem spec_l1In_10_l (x8 : Int) (x9 : Int) (x10 : Int) : Link spec_l1In_ctx LL (Code.fst (Code.snd (bodyOf Try.f44))) (Ann.fst (Ann.snd spec_l1In_an)) (⟨mkE 15 0 [(0, .dat (.int .i64) x8), (1, .dat (.int .i64) x9), (2, .dat (.int .i64) x10)], []⟩ : St) (spec_l1In_10 x8 x9 x10) (fun (t : Bool) => (Exit.normal, (⟨mkE 15 0 [(6, .dat .bool t)], []⟩ : St))) := by
  refine ⟨fun K h => ?_⟩
  simp only [spec_l1In_10, wpO_bind, wpO_cond, wpO_map, wpO_some] at h
  exact Eq.mp (by kernel_rfl) h

theorem spec_l1In_11_l (x14 : Bool) : Link spec_l1In_ctx LL (Code.snd (Code.snd (bodyOf Try.f44))) (Ann.snd (Ann.snd spec_l1In_an)) (⟨mkE 15 0 [(6, .dat .bool x14)], []⟩ : St) (spec_l1In_11 x14) (fun (t : Bool) => (Exit.ret, (⟨mkE 15 0 [(6, .dat .bool t)], []⟩ : St))) := by
  refine ⟨fun K h => ?_⟩
  simp only [spec_l1In_11, wpO_some] at h
  exact Eq.mp (by kernel_rfl) h

theorem spec_l1In_1_l (x8 : Int) (x9 : Int) (x10 : Int) : Link spec_l1In_ctx LL (Code.snd (bodyOf Try.f44)) (Ann.snd spec_l1In_an) (⟨mkE 15 0 [(0, .dat (.int .i64) x8), (1, .dat (.int .i64) x9), (2, .dat (.int .i64) x10)], []⟩ : St) (spec_l1In_1 x8 x9 x10) (fun (t : Bool) => (Exit.ret, (⟨mkE 15 0 [(6, .dat .bool t)], []⟩ : St))) := by
  unfold spec_l1In_1
  exact Link.cast (by kernel_rfl) (by kernel_rfl) (link_seq (b := Code.snd (Code.snd (bodyOf Try.f44))) (y := Ann.snd (Ann.snd spec_l1In_an)) (spec_l1In_10_l x8 x9 x10) (fun (t : Bool) => (spec_l1In_11_l t)))

theorem spec_l1In_r_l (x8 : Int) (x9 : Int) (x10 : Int) : Link spec_l1In_ctx LL (bodyOf Try.f44) spec_l1In_an (⟨mkE 15 0 [(0, .dat (.int .i64) x8), (1, .dat (.int .i64) x9), (2, .dat (.int .i64) x10)], []⟩ : St) (spec_l1In_r x8 x9 x10) (fun (t : Bool) => (Exit.ret, (⟨mkE 15 0 [(6, .dat .bool t)], []⟩ : St))) := by
  unfold spec_l1In_r
  exact Link.cast (by kernel_rfl) (by kernel_rfl) (link_seq (b := Code.snd (bodyOf Try.f44)) (y := Ann.snd spec_l1In_an) (spec_l1In_0_l x8 x9 x10) (fun (t : Unit) => (spec_l1In_1_l x8 x9 x10)))

theorem spec_l1In_e (x8 : Int) (x9 : Int) (x10 : Int) {r : AV} {H' : Heap} (h : (Ans.mk _ (spec_l1In x8 x9 x10) (fun (t : Bool) => (.dat .bool t, []))).run = some (r, H')) : Awp spec_l1In_ctx LL (bodyOf Try.f44) spec_l1In_an (⟨mkE 15 0 [(0, .dat (.int .i64) x8), (1, .dat (.int .i64) x9), (2, .dat (.int .i64) x10)], []⟩ : St) (Ret (tlook tys) Try.f44.results.toList r H') :=
  ret_of' (spec_l1In_r_l x8 x9 x10) (by unfold spec_l1In; kernel_rfl) (by
  intro t
  exact ret_mk [.dat .bool t] (by kernel_rfl) (by kernel_rfl) (by kernel_rfl) (by kernel_rfl)) h

def F_spec_l1In : Fun := fun avs H =>
  match avs, H with
  | [.dat (.int .i64) x8, .dat (.int .i64) x9, .dat (.int .i64) x10], [] => ⟨_, spec_l1In x8 x9 x10, fun (t : Bool) => (.dat .bool t, [])⟩
  | _, _ => Ans.no

theorem spec_l1In_sound : Sound Try.prog 44 F_spec_l1In := by
  refine fn_sound' (C := spec_l1In_ctx) (c := bodyOf Try.f44) (cok_of tys_ok (by simp) (by simp)) Try.func44 (by kernel_rfl) LL spec_l1In_an ?_
  intro avs H r H' h
  unfold F_spec_l1In at h
  split at h
  · refine Awp.cast ?_ ?_ ?_ (spec_l1In_e _ _ _ h) <;> kernel_rfl
  · simp [Ans.no, Ans.run] at h

/-! loop.example/headtrees/spec.l1Power -/

def spec_l1Power_an : Ann := (.seq (.leaf [0, 1]) (.seq (.leaf [0, 1, 5]) (.seq (.seq (.leaf [0, 1, 5, 6]) (.block (.loop (.seq (.seq (.leaf [0, 1, 5, 6, 9]) (.cond (.leaf [0, 1, 5, 6]) (.leaf [5]))) (.seq (.block (.leaf [0, 1, 5, 6])) (.leaf [0, 1, 5, 6])))))) (.seq (.leaf [4]) (.leaf [4])))))

noncomputable def spec_l1Power_ctx : Ctx := ⟨tlook tys, olook [], ioF, 0⟩

theorem spec_l1Power_0_l (x19 : Int) (x20 : Int) : Link spec_l1Power_ctx LL (Code.fst (bodyOf Try.f47)) (Ann.fst spec_l1Power_an) (⟨mkE 16 0 [(0, .dat (.int .i64) x19), (1, .dat (.int .i64) x20)], []⟩ : St) (spec_l1Power_0) (fun (t : Unit) => (Exit.normal, (⟨mkE 16 0 [(0, .dat (.int .i64) x19), (1, .dat (.int .i64) x20)], []⟩ : St))) := by
  refine ⟨fun K h => ?_⟩
  simp only [spec_l1Power_0, wpO_bind, wpO_cond, wpO_map, wpO_some] at h
  exact Eq.mp (by kernel_rfl) h

theorem spec_l1Power_10_l (x19 : Int) (x20 : Int) : Link spec_l1Power_ctx LL (Code.fst (Code.snd (bodyOf Try.f47))) (Ann.fst (Ann.snd spec_l1Power_an)) (⟨mkE 16 0 [(0, .dat (.int .i64) x19), (1, .dat (.int .i64) x20)], []⟩ : St) (spec_l1Power_10) (fun (t : Unit) => (Exit.normal, (⟨mkE 16 0 [(0, .dat (.int .i64) x19), (1, .dat (.int .i64) x20), (5, .dat (.int .i64) 1)], []⟩ : St))) := by
  refine ⟨fun K h => ?_⟩
  simp only [spec_l1Power_10, wpO_bind, wpO_cond, wpO_map, wpO_some] at h
  exact Eq.mp (by kernel_rfl) h

theorem spec_l1Power_1100_l (x19 : Int) (x20 : Int) : Link spec_l1Power_ctx LL (Code.fst (Code.fst (Code.snd (Code.snd (bodyOf Try.f47))))) (Ann.fst (Ann.fst (Ann.snd (Ann.snd spec_l1Power_an)))) (⟨mkE 16 0 [(0, .dat (.int .i64) x19), (1, .dat (.int .i64) x20), (5, .dat (.int .i64) 1)], []⟩ : St) (spec_l1Power_1100) (fun (t : Unit) => (Exit.normal, (⟨mkE 16 0 [(0, .dat (.int .i64) x19), (1, .dat (.int .i64) x20), (5, .dat (.int .i64) 1), (6, .dat (.int .i64) 0)], []⟩ : St))) := by
  refine ⟨fun K h => ?_⟩
  simp only [spec_l1Power_1100, wpO_bind, wpO_cond, wpO_map, wpO_some] at h
  exact Eq.mp (by kernel_rfl) h

theorem spec_l1Power_11010000_l (x19 : Int) (x20 : Int) (x24 : Int) (x25 : Int) : Link spec_l1Power_ctx LL (Code.fst (Code.fst (Code.fst (Code.fst (Code.snd (Code.fst (Code.snd (Code.snd (bodyOf Try.f47))))))))) (Ann.fst (Ann.fst (Ann.fst (Ann.fst (Ann.snd (Ann.fst (Ann.snd (Ann.snd spec_l1Power_an)))))))) (⟨mkE 16 0 [(0, .dat (.int .i64) x19), (1, .dat (.int .i64) x20), (5, .dat (.int .i64) x24), (6, .dat (.int .i64) x25)], []⟩ : St) (spec_l1Power_11010000 x20 x25) (fun (t : Bool) => (Exit.normal, (⟨mkE 16 0 [(0, .dat (.int .i64) x19), (1, .dat (.int .i64) x20), (5, .dat (.int .i64) x24), (6, .dat (.int .i64) x25), (9, .dat .bool t)], []⟩ : St))) := by
  refine ⟨fun K h => ?_⟩
  simp only [spec_l1Power_11010000, wpO_bind, wpO_cond, wpO_map, wpO_some] at h
  exact Eq.mp (by kernel_rfl) h

theorem spec_l1Power_110100010_l (x19 : Int) (x20 : Int) (x24 : Int) (x25 : Int) (x26 : Bool) : Link spec_l1Power_ctx LL (Code.fst (Code.snd (Code.fst (Code.fst (Code.fst (Code.snd (Code.fst (Code.snd (Code.snd (bodyOf Try.f47)))))))))) (Ann.fst (Ann.snd (Ann.fst (Ann.fst (Ann.fst (Ann.snd (Ann.fst (Ann.snd (Ann.snd spec_l1Power_an))))))))) (⟨mkE 16 0 [(0, .dat (.int .i64) x19), (1, .dat (.int .i64) x20), (5, .dat (.int .i64) x24), (6, .dat (.int .i64) x25), (9, .dat .bool x26)], []⟩ : St) (spec_l1Power_110100010) (fun (t : Unit) => (Exit.normal, (⟨mkE 16 0 [(0, .dat (.int .i64) x19), (1, .dat (.int .i64) x20), (5, .dat (.int .i64) x24), (6, .dat (.int .i64) x25)], []⟩ : St))) := by
  refine ⟨fun K h => ?_⟩
  simp only [spec_l1Power_110100010, wpO_some] at h
  exact Eq.mp (by kernel_rfl) h

theorem spec_l1Power_110100011_l (x19 : Int) (x20 : Int) (x24 : Int) (x25 : Int) (x26 : Bool) : Link spec_l1Power_ctx LL (Code.snd (Code.snd (Code.fst (Code.fst (Code.fst (Code.snd (Code.fst (Code.snd (Code.snd (bodyOf Try.f47)))))))))) (Ann.snd (Ann.snd (Ann.fst (Ann.fst (Ann.fst (Ann.snd (Ann.fst (Ann.snd (Ann.snd spec_l1Power_an))))))))) (⟨mkE 16 0 [(0, .dat (.int .i64) x19), (1, .dat (.int .i64) x20), (5, .dat (.int .i64) x24), (6, .dat (.int .i64) x25), (9, .dat .bool x26)], []⟩ : St) (spec_l1Power_110100011 x24) (fun (t : Int) => ((Exit.exit 0), (⟨mkE 16 0 [(5, .dat (.int .i64) t)], []⟩ : St))) := by
  refine ⟨fun K h => ?_⟩
  simp only [spec_l1Power_110100011, wpO_some] at h
  exact Eq.mp (by kernel_rfl) h

theorem spec_l1Power_11010001_l (x19 : Int) (x20 : Int) (x24 : Int) (x25 : Int) (x26 : Bool) : Link spec_l1Power_ctx LL (Code.snd (Code.fst (Code.fst (Code.fst (Code.snd (Code.fst (Code.snd (Code.snd (bodyOf Try.f47))))))))) (Ann.snd (Ann.fst (Ann.fst (Ann.fst (Ann.snd (Ann.fst (Ann.snd (Ann.snd spec_l1Power_an)))))))) (⟨mkE 16 0 [(0, .dat (.int .i64) x19), (1, .dat (.int .i64) x20), (5, .dat (.int .i64) x24), (6, .dat (.int .i64) x25), (9, .dat .bool x26)], []⟩ : St) (spec_l1Power_11010001 x24 x26) (Sum.elim (fun (t : Unit) => (Exit.normal, (⟨mkE 16 0 [(0, .dat (.int .i64) x19), (1, .dat (.int .i64) x20), (5, .dat (.int .i64) x24), (6, .dat (.int .i64) x25)], []⟩ : St))) (fun (t : Int) => ((Exit.exit 0), (⟨mkE 16 0 [(5, .dat (.int .i64) t)], []⟩ : St)))) := by
  unfold spec_l1Power_11010001
  exact Link.cast (by kernel_rfl) (by kernel_rfl) (link_cond (c := .tmp 9) (by kernel_rfl) ((link_map (spec_l1Power_110100010_l x19 x20 x24 x25 x26) (fun (t : Unit) => (Sum.inl ())) (by
  rintro t
  · kernel_rfl))) ((link_map (spec_l1Power_110100011_l x19 x20 x24 x25 x26) (fun (t : Int) => (Sum.inr t)) (by
  rintro t
  · kernel_rfl))))

theorem spec_l1Power_1101000_l (x19 : Int) (x20 : Int) (x24 : Int) (x25 : Int) : Link spec_l1Power_ctx LL (Code.fst (Code.fst (Code.fst (Code.snd (Code.fst (Code.snd (Code.snd (bodyOf Try.f47)))))))) (Ann.fst (Ann.fst (Ann.fst (Ann.snd (Ann.fst (Ann.snd (Ann.snd spec_l1Power_an))))))) (⟨mkE 16 0 [(0, .dat (.int .i64) x19), (1, .dat (.int .i64) x20), (5, .dat (.int .i64) x24), (6, .dat (.int .i64) x25)], []⟩ : St) (spec_l1Power_1101000 x20 x24 x25) (Sum.elim (fun (t : Unit) => (Exit.normal, (⟨mkE 16 0 [(0, .dat (.int .i64) x19), (1, .dat (.int .i64) x20), (5, .dat (.int .i64) x24), (6, .dat (.int .i64) x25)], []⟩ : St))) (fun (t : Int) => ((Exit.exit 0), (⟨mkE 16 0 [(5, .dat (.int .i64) t)], []⟩ : St)))) := by
  unfold spec_l1Power_1101000
  exact Link.cast (by kernel_rfl) (by kernel_rfl) (link_seq (b := Code.snd (Code.fst (Code.fst (Code.fst (Code.snd (Code.fst (Code.snd (Code.snd (bodyOf Try.f47))))))))) (y := Ann.snd (Ann.fst (Ann.fst (Ann.fst (Ann.snd (Ann.fst (Ann.snd (Ann.snd spec_l1Power_an)))))))) (spec_l1Power_11010000_l x19 x20 x24 x25) (fun (t : Bool) => (spec_l1Power_11010001_l x19 x20 x24 x25 t)))

theorem spec_l1Power_110100100_l (x19 : Int) (x20 : Int) (x24 : Int) (x25 : Int) : Link spec_l1Power_ctx LL (Code.fst (Code.fst (Code.snd (Code.fst (Code.fst (Code.snd (Code.fst (Code.snd (Code.snd (bodyOf Try.f47)))))))))) (Ann.fst (Ann.fst (Ann.snd (Ann.fst (Ann.fst (Ann.snd (Ann.fst (Ann.snd (Ann.snd spec_l1Power_an))))))))) (⟨mkE 16 0 [(0, .dat (.int .i64) x19), (1, .dat (.int .i64) x20), (5, .dat (.int .i64) x24), (6, .dat (.int .i64) x25)], []⟩ : St) (spec_l1Power_110100100 x19 x24) (fun (t : Int) => (Exit.normal, (⟨mkE 16 0 [(0, .dat (.int .i64) x19), (1, .dat (.int .i64) x20), (5, .dat (.int .i64) t), (6, .dat (.int .i64) x25)], []⟩ : St))) := by
  refine ⟨fun K h => ?_⟩
  simp only [spec_l1Power_110100100, wpO_bind, wpO_cond, wpO_map, wpO_some] at h
  exact Eq.mp (by kernel_rfl) h

theorem spec_l1Power_11010010_l (x19 : Int) (x20 : Int) (x24 : Int) (x25 : Int) : Link spec_l1Power_ctx LL (Code.fst (Code.snd (Code.fst (Code.fst (Code.snd (Code.fst (Code.snd (Code.snd (bodyOf Try.f47))))))))) (Ann.fst (Ann.snd (Ann.fst (Ann.fst (Ann.snd (Ann.fst (Ann.snd (Ann.snd spec_l1Power_an)))))))) (⟨mkE 16 0 [(0, .dat (.int .i64) x19), (1, .dat (.int .i64) x20), (5, .dat (.int .i64) x24), (6, .dat (.int .i64) x25)], []⟩ : St) (spec_l1Power_11010010 x19 x24) (fun (t : Int) => (Exit.normal, (⟨mkE 16 0 [(0, .dat (.int .i64) x19), (1, .dat (.int .i64) x20), (5, .dat (.int .i64) t), (6, .dat (.int .i64) x25)], []⟩ : St))) := by
  unfold spec_l1Power_11010010
  exact Link.cast (by kernel_rfl) (by kernel_rfl) (link_block (id := 1) (spec_l1Power_110100100_l x19 x20 x24 x25) (fun (t : Int) => t) (by
  rintro t K h
  · exact Eq.mp (by kernel_rfl) h))

theorem spec_l1Power_11010011_l (x19 : Int) (x20 : Int) (x27 : Int) (x25 : Int) : Link spec_l1Power_ctx LL (Code.snd (Code.snd (Code.fst (Code.fst (Code.snd (Code.fst (Code.snd (Code.snd (bodyOf Try.f47))))))))) (Ann.snd (Ann.snd (Ann.fst (Ann.fst (Ann.snd (Ann.fst (Ann.snd (Ann.snd spec_l1Power_an)))))))) (⟨mkE 16 0 [(0, .dat (.int .i64) x19), (1, .dat (.int .i64) x20), (5, .dat (.int .i64) x27), (6, .dat (.int .i64) x25)], []⟩ : St) (spec_l1Power_11010011 x25) (fun (t : Int) => (Exit.normal, (⟨mkE 16 0 [(0, .dat (.int .i64) x19), (1, .dat (.int .i64) x20), (5, .dat (.int .i64) x27), (6, .dat (.int .i64) t)], []⟩ : St))) := by
  refine ⟨fun K h => ?_⟩
  simp only [spec_l1Power_11010011, wpO_bind, wpO_cond, wpO_map, wpO_some] at h
  exact Eq.mp (by kernel_rfl) h

theorem spec_l1Power_1101001_l (x19 : Int) (x20 : Int) (x24 : Int) (x25 : Int) : Link spec_l1Power_ctx LL (Code.snd (Code.fst (Code.fst (Code.snd (Code.fst (Code.snd (Code.snd (bodyOf Try.f47)))))))) (Ann.snd (Ann.fst (Ann.fst (Ann.snd (Ann.fst (Ann.snd (Ann.snd spec_l1Power_an))))))) (⟨mkE 16 0 [(0, .dat (.int .i64) x19), (1, .dat (.int .i64) x20), (5, .dat (.int .i64) x24), (6, .dat (.int .i64) x25)], []⟩ : St) (spec_l1Power_1101001 x19 x24 x25) (fun (t : Int × Int) => (Exit.normal, (⟨mkE 16 0 [(0, .dat (.int .i64) x19), (1, .dat (.int .i64) x20), (5, .dat (.int .i64) t.1), (6, .dat (.int .i64) t.2)], []⟩ : St))) := by
  unfold spec_l1Power_1101001
  exact Link.cast (by kernel_rfl) (by kernel_rfl) (link_seq (b := Code.snd (Code.snd (Code.fst (Code.fst (Code.snd (Code.fst (Code.snd (Code.snd (bodyOf Try.f47))))))))) (y := Ann.snd (Ann.snd (Ann.fst (Ann.fst (Ann.snd (Ann.fst (Ann.snd (Ann.snd spec_l1Power_an)))))))) (spec_l1Power_11010010_l x19 x20 x24 x25) (fun (t : Int) => (link_map (spec_l1Power_11010011_l x19 x20 t x25) (fun (u : Int) => (t, u)) (by
  rintro t
  · kernel_rfl))))

theorem spec_l1Power_110100_l (x19 : Int) (x20 : Int) (x24 : Int) (x25 : Int) : Link spec_l1Power_ctx LL (Code.fst (Code.fst (Code.snd (Code.fst (Code.snd (Code.snd (bodyOf Try.f47))))))) (Ann.fst (Ann.fst (Ann.snd (Ann.fst (Ann.snd (Ann.snd spec_l1Power_an)))))) (⟨mkE 16 0 [(0, .dat (.int .i64) x19), (1, .dat (.int .i64) x20), (5, .dat (.int .i64) x24), (6, .dat (.int .i64) x25)], []⟩ : St) (spec_l1Power_110100 x19 x20 x24 x25) (Sum.elim (fun (t : Int × Int) => (Exit.normal, (⟨mkE 16 0 [(0, .dat (.int .i64) x19), (1, .dat (.int .i64) x20), (5, .dat (.int .i64) t.1), (6, .dat (.int .i64) t.2)], []⟩ : St))) (fun (t : Int) => ((Exit.exit 0), (⟨mkE 16 0 [(5, .dat (.int .i64) t)], []⟩ : St)))) := by
  unfold spec_l1Power_110100
  exact Link.cast (by kernel_rfl) (by kernel_rfl) (link_seq2 (b := Code.snd (Code.fst (Code.fst (Code.snd (Code.fst (Code.snd (Code.snd (bodyOf Try.f47)))))))) (y := Ann.snd (Ann.fst (Ann.fst (Ann.snd (Ann.fst (Ann.snd (Ann.snd spec_l1Power_an))))))) (spec_l1Power_1101000_l x19 x20 x24 x25) (fun (t : Unit) => (link_map (spec_l1Power_1101001_l x19 x20 x24 x25) (fun (t : Int × Int) => (Sum.inl (t.1, t.2))) (by
  rintro t
  · kernel_rfl))) (fun (t : Int) => (Sum.inr t)) (by
  rintro t
  · kernel_rfl) (by
  rintro t f K h
  · exact h))

theorem spec_l1Power_11010_l (x19 : Int) (x20 : Int) : Link spec_l1Power_ctx LL (Code.fst (Code.snd (Code.fst (Code.snd (Code.snd (bodyOf Try.f47)))))) (Ann.fst (Ann.snd (Ann.fst (Ann.snd (Ann.snd spec_l1Power_an))))) (⟨mkE 16 0 [(0, .dat (.int .i64) x19), (1, .dat (.int .i64) x20), (5, .dat (.int .i64) 1), (6, .dat (.int .i64) 0)], []⟩ : St) (spec_l1Power_11010 x19 x20) (fun (t : Int) => ((Exit.exit 0), (⟨mkE 16 0 [(5, .dat (.int .i64) t)], []⟩ : St))) := by
  unfold spec_l1Power_11010
  exact Link.cast (by kernel_rfl) (by kernel_rfl) (link_loop (mk := fun (s : Int × Int) => (⟨mkE 16 0 [(0, .dat (.int .i64) x19), (1, .dat (.int .i64) x20), (5, .dat (.int .i64) s.1), (6, .dat (.int .i64) s.2)], []⟩ : St)) (fin := (fun (t : Int) => ((Exit.exit 0), (⟨mkE 16 0 [(5, .dat (.int .i64) t)], []⟩ : St)))) (by
  rintro t f K h
  · exact h) (fun s => link_map (spec_l1Power_110100_l x19 x20 s.1 s.2) (Sum.elim (fun (t : Int × Int) => Sum.inl (t.1, t.2)) (fun (t : Int) => Sum.inr t)) (by
  rintro (t | t)
  · kernel_rfl
  · kernel_rfl)) (1, 0))

theorem spec_l1Power_1101_l (x19 : Int) (x20 : Int) : Link spec_l1Power_ctx LL (Code.snd (Code.fst (Code.snd (Code.snd (bodyOf Try.f47))))) (Ann.snd (Ann.fst (Ann.snd (Ann.snd spec_l1Power_an)))) (⟨mkE 16 0 [(0, .dat (.int .i64) x19), (1, .dat (.int .i64) x20), (5, .dat (.int .i64) 1), (6, .dat (.int .i64) 0)], []⟩ : St) (spec_l1Power_1101 x19 x20) (fun (t : Int) => (Exit.normal, (⟨mkE 16 0 [(5, .dat (.int .i64) t)], []⟩ : St))) := by
  unfold spec_l1Power_1101
  exact Link.cast (by kernel_rfl) (by kernel_rfl) (link_block (id := 0) (spec_l1Power_11010_l x19 x20) (fun (t : Int) => t) (by
  rintro t K h
  · exact Eq.mp (by kernel_rfl) h))

theorem spec_l1Power_110_l (x19 : Int) (x20 : Int) : Link spec_l1Power_ctx LL (Code.fst (Code.snd (Code.snd (bodyOf Try.f47)))) (Ann.fst (Ann.snd (Ann.snd spec_l1Power_an))) (⟨mkE 16 0 [(0, .dat (.int .i64) x19), (1, .dat (.int .i64) x20), (5, .dat (.int .i64) 1)], []⟩ : St) (spec_l1Power_110 x19 x20) (fun (t : Int) => (Exit.normal, (⟨mkE 16 0 [(5, .dat (.int .i64) t)], []⟩ : St))) := by
  unfold spec_l1Power_110
  exact Link.cast (by kernel_rfl) (by kernel_rfl) (link_seq (b := Code.snd (Code.fst (Code.snd (Code.snd (bodyOf Try.f47))))) (y := Ann.snd (Ann.fst (Ann.snd (Ann.snd spec_l1Power_an)))) (spec_l1Power_1100_l x19 x20) (fun (t : Unit) => (spec_l1Power_1101_l x19 x20)))

theorem spec_l1Power_1110_l (x24 : Int) : Link spec_l1Power_ctx LL (Code.fst (Code.snd (Code.snd (Code.snd (bodyOf Try.f47))))) (Ann.fst (Ann.snd (Ann.snd (Ann.snd spec_l1Power_an)))) (⟨mkE 16 0 [(5, .dat (.int .i64) x24)], []⟩ : St) (spec_l1Power_1110) (fun (t : Unit) => (Exit.normal, (⟨mkE 16 0 [(4, .dat (.int .i64) x24)], []⟩ : St))) := by
  refine ⟨fun K h => ?_⟩
  simp only [spec_l1Power_1110, wpO_bind, wpO_cond, wpO_map, wpO_some] at h
  exact Eq.mp (by kernel_rfl) h

theorem spec_l1Power_1111_l (x24 : Int) : Link spec_l1Power_ctx LL (Code.snd (Code.snd (Code.snd (Code.snd (bodyOf Try.f47))))) (Ann.snd (Ann.snd (Ann.snd (Ann.snd spec_l1Power_an)))) (⟨mkE 16 0 [(4, .dat (.int .i64) x24)], []⟩ : St) (spec_l1Power_1111 x24) (fun (t : Int) => (Exit.ret, (⟨mkE 16 0 [(4, .dat (.int .i64) t)], []⟩ : St))) := by
  refine ⟨fun K h => ?_⟩
  simp only [spec_l1Power_1111, wpO_some] at h
  exact Eq.mp (by kernel_rfl) h

theorem spec_l1Power_111_l (x24 : Int) : Link spec_l1Power_ctx LL (Code.snd (Code.snd (Code.snd (bodyOf Try.f47)))) (Ann.snd (Ann.snd (Ann.snd spec_l1Power_an))) (⟨mkE 16 0 [(5, .dat (.int .i64) x24)], []⟩ : St) (spec_l1Power_111 x24) (fun (t : Int) => (Exit.ret, (⟨mkE 16 0 [(4, .dat (.int .i64) t)], []⟩ : St))) := by
  unfold spec_l1Power_111
  exact Link.cast (by kernel_rfl) (by kernel_rfl) (link_seq (b := Code.snd (Code.snd (Code.snd (Code.snd (bodyOf Try.f47))))) (y := Ann.snd (Ann.snd (Ann.snd (Ann.snd spec_l1Power_an)))) (spec_l1Power_1110_l x24) (fun (t : Unit) => (spec_l1Power_1111_l x24)))

theorem spec_l1Power_11_l (x19 : Int) (x20 : Int) : Link spec_l1Power_ctx LL (Code.snd (Code.snd (bodyOf Try.f47))) (Ann.snd (Ann.snd spec_l1Power_an)) (⟨mkE 16 0 [(0, .dat (.int .i64) x19), (1, .dat (.int .i64) x20), (5, .dat (.int .i64) 1)], []⟩ : St) (spec_l1Power_11 x19 x20) (fun (t : Int) => (Exit.ret, (⟨mkE 16 0 [(4, .dat (.int .i64) t)], []⟩ : St))) := by
  unfold spec_l1Power_11
  exact Link.cast (by kernel_rfl) (by kernel_rfl) (link_seq (b := Code.snd (Code.snd (Code.snd (bodyOf Try.f47)))) (y := Ann.snd (Ann.snd (Ann.snd spec_l1Power_an))) (spec_l1Power_110_l x19 x20) (fun (t : Int) => (spec_l1Power_111_l t)))

theorem spec_l1Power_1_l (x19 : Int) (x20 : Int) : Link spec_l1Power_ctx LL (Code.snd (bodyOf Try.f47)) (Ann.snd spec_l1Power_an) (⟨mkE 16 0 [(0, .dat (.int .i64) x19), (1, .dat (.int .i64) x20)], []⟩ : St) (spec_l1Power_1 x19 x20) (fun (t : Int) => (Exit.ret, (⟨mkE 16 0 [(4, .dat (.int .i64) t)], []⟩ : St))) := by
  unfold spec_l1Power_1
  exact Link.cast (by kernel_rfl) (by kernel_rfl) (link_seq (b := Code.snd (Code.snd (bodyOf Try.f47))) (y := Ann.snd (Ann.snd spec_l1Power_an)) (spec_l1Power_10_l x19 x20) (fun (t : Unit) => (spec_l1Power_11_l x19 x20)))

theorem spec_l1Power_r_l (x19 : Int) (x20 : Int) : Link spec_l1Power_ctx LL (bodyOf Try.f47) spec_l1Power_an (⟨mkE 16 0 [(0, .dat (.int .i64) x19), (1, .dat (.int .i64) x20)], []⟩ : St) (spec_l1Power_r x19 x20) (fun (t : Int) => (Exit.ret, (⟨mkE 16 0 [(4, .dat (.int .i64) t)], []⟩ : St))) := by
  unfold spec_l1Power_r
  exact Link.cast (by kernel_rfl) (by kernel_rfl) (link_seq (b := Code.snd (bodyOf Try.f47)) (y := Ann.snd spec_l1Power_an) (spec_l1Power_0_l x19 x20) (fun (t : Unit) => (spec_l1Power_1_l x19 x20)))

theorem spec_l1Power_e (x19 : Int) (x20 : Int) {r : AV} {H' : Heap} (h : (Ans.mk _ (spec_l1Power x19 x20) (fun (t : Int) => (.dat (.int .i64) t, []))).run = some (r, H')) : Awp spec_l1Power_ctx LL (bodyOf Try.f47) spec_l1Power_an (⟨mkE 16 0 [(0, .dat (.int .i64) x19), (1, .dat (.int .i64) x20)], []⟩ : St) (Ret (tlook tys) Try.f47.results.toList r H') :=
  ret_of' (spec_l1Power_r_l x19 x20) (by unfold spec_l1Power; kernel_rfl) (by
  intro t
  exact ret_mk [.dat (.int .i64) t] (by kernel_rfl) (by kernel_rfl) (by kernel_rfl) (by kernel_rfl)) h

def F_spec_l1Power : Fun := fun avs H =>
  match avs, H with
  | [.dat (.int .i64) x19, .dat (.int .i64) x20], [] => ⟨_, spec_l1Power x19 x20, fun (t : Int) => (.dat (.int .i64) t, [])⟩
  | _, _ => Ans.no

theorem spec_l1Power_sound : Sound Try.prog 47 F_spec_l1Power := by
  refine fn_sound' (C := spec_l1Power_ctx) (c := bodyOf Try.f47) (cok_of tys_ok (by simp) (by simp)) Try.func47 (by kernel_rfl) LL spec_l1Power_an ?_
  intro avs H r H' h
  unfold F_spec_l1Power at h
  split at h
  · refine Awp.cast ?_ ?_ ?_ (spec_l1Power_e _ _ h) <;> kernel_rfl
  · simp [Ans.no, Ans.run] at h

/-! loop.example/headtrees/spec.CountTrees -/

def spec_CountTrees_an : Ann := (.seq (.leaf [0]) (.seq (.seq (.leaf [0, 5]) (.cond (.seq (.leaf [2]) (.leaf [2])) (.leaf [0]))) (.seq (.leaf [2]) (.leaf [2]))))

noncomputable def spec_CountTrees_ctx : Ctx := ⟨tlook tys, olook [(44, F_spec_l1In), (47, F_spec_l1Power)], ioF, 0⟩

theorem spec_CountTrees_0_l (x4 : Int) : Link spec_CountTrees_ctx LL (Code.fst (bodyOf Try.f28)) (Ann.fst spec_CountTrees_an) (⟨mkE 10 0 [(0, .dat (.int .i64) x4)], []⟩ : St) (spec_CountTrees_0) (fun (t : Unit) => (Exit.normal, (⟨mkE 10 0 [(0, .dat (.int .i64) x4)], []⟩ : St))) := by
  refine ⟨fun K h => ?_⟩
  simp only [spec_CountTrees_0, wpO_bind, wpO_cond, wpO_map, wpO_some] at h
  exact Eq.mp (by kernel_rfl) h

theorem spec_CountTrees_100_l (x4 : Int) : Link spec_CountTrees_ctx LL (Code.fst (Code.fst (Code.snd (bodyOf Try.f28)))) (Ann.fst (Ann.fst (Ann.snd spec_CountTrees_an))) (⟨mkE 10 0 [(0, .dat (.int .i64) x4)], []⟩ : St) (spec_CountTrees_100 x4) (fun (t : Bool) => (Exit.normal, (⟨mkE 10 0 [(0, .dat (.int .i64) x4), (5, .dat .bool t)], []⟩ : St))) := by
  refine ⟨fun K h => ?_⟩
  simp only [spec_CountTrees_100, wpO_bind, wpO_cond, wpO_map, wpO_some] at h
  exact Eq.mp (by kernel_rfl) h

theorem spec_CountTrees_10100_l (x4 : Int) (x16 : Bool) : Link spec_CountTrees_ctx LL (Code.fst (Code.fst (Code.snd (Code.fst (Code.snd (bodyOf Try.f28)))))) (Ann.fst (Ann.fst (Ann.snd (Ann.fst (Ann.snd spec_CountTrees_an))))) (⟨mkE 10 0 [(0, .dat (.int .i64) x4), (5, .dat .bool x16)], []⟩ : St) (spec_CountTrees_10100) (fun (t : Unit) => (Exit.normal, (⟨mkE 10 0 [(2, .dat (.int .i64) (-1))], []⟩ : St))) := by
  refine ⟨fun K h => ?_⟩
  simp only [spec_CountTrees_10100, wpO_bind, wpO_cond, wpO_map, wpO_some] at h
  exact Eq.mp (by kernel_rfl) h

theorem spec_CountTrees_10101_l : Link spec_CountTrees_ctx LL (Code.snd (Code.fst (Code.snd (Code.fst (Code.snd (bodyOf Try.f28)))))) (Ann.snd (Ann.fst (Ann.snd (Ann.fst (Ann.snd spec_CountTrees_an))))) (⟨mkE 10 0 [(2, .dat (.int .i64) (-1))], []⟩ : St) (spec_CountTrees_10101) (fun (t : Int) => (Exit.ret, (⟨mkE 10 0 [(2, .dat (.int .i64) t)], []⟩ : St))) := by
  refine ⟨fun K h => ?_⟩
  simp only [spec_CountTrees_10101, wpO_some] at h
  exact Eq.mp (by kernel_rfl) h

theorem spec_CountTrees_1010_l (x4 : Int) (x16 : Bool) : Link spec_CountTrees_ctx LL (Code.fst (Code.snd (Code.fst (Code.snd (bodyOf Try.f28))))) (Ann.fst (Ann.snd (Ann.fst (Ann.snd spec_CountTrees_an)))) (⟨mkE 10 0 [(0, .dat (.int .i64) x4), (5, .dat .bool x16)], []⟩ : St) (spec_CountTrees_1010) (fun (t : Int) => (Exit.ret, (⟨mkE 10 0 [(2, .dat (.int .i64) t)], []⟩ : St))) := by
  unfold spec_CountTrees_1010
  exact Link.cast (by kernel_rfl) (by kernel_rfl) (link_seq (b := Code.snd (Code.fst (Code.snd (Code.fst (Code.snd (bodyOf Try.f28)))))) (y := Ann.snd (Ann.fst (Ann.snd (Ann.fst (Ann.snd spec_CountTrees_an))))) (spec_CountTrees_10100_l x4 x16) (fun (t : Unit) => (spec_CountTrees_10101_l)))

theorem spec_CountTrees_1011_l (x4 : Int) (x16 : Bool) : Link spec_CountTrees_ctx LL (Code.snd (Code.snd (Code.fst (Code.snd (bodyOf Try.f28))))) (Ann.snd (Ann.snd (Ann.fst (Ann.snd spec_CountTrees_an)))) (⟨mkE 10 0 [(0, .dat (.int .i64) x4), (5, .dat .bool x16)], []⟩ : St) (spec_CountTrees_1011) (fun (t : Unit) => (Exit.normal, (⟨mkE 10 0 [(0, .dat (.int .i64) x4)], []⟩ : St))) := by
  refine ⟨fun K h => ?_⟩
  simp only [spec_CountTrees_1011, wpO_some] at h
  exact Eq.mp (by kernel_rfl) h

theorem spec_CountTrees_101_l (x4 : Int) (x16 : Bool) : Link spec_CountTrees_ctx LL (Code.snd (Code.fst (Code.snd (bodyOf Try.f28)))) (Ann.snd (Ann.fst (Ann.snd spec_CountTrees_an))) (⟨mkE 10 0 [(0, .dat (.int .i64) x4), (5, .dat .bool x16)], []⟩ : St) (spec_CountTrees_101 x16) (Sum.elim (fun (t : Unit) => (Exit.normal, (⟨mkE 10 0 [(0, .dat (.int .i64) x4)], []⟩ : St))) (fun (t : Int) => (Exit.ret, (⟨mkE 10 0 [(2, .dat (.int .i64) t)], []⟩ : St)))) := by
  unfold spec_CountTrees_101
  exact Link.cast (by kernel_rfl) (by kernel_rfl) (link_cond (c := .tmp 5) (by kernel_rfl) ((link_map (spec_CountTrees_1010_l x4 x16) (fun (t : Int) => (Sum.inr t)) (by
  rintro t
  · kernel_rfl))) ((link_map (spec_CountTrees_1011_l x4 x16) (fun (t : Unit) => (Sum.inl ())) (by
  rintro t
  · kernel_rfl))))

theorem spec_CountTrees_10_l (x4 : Int) : Link spec_CountTrees_ctx LL (Code.fst (Code.snd (bodyOf Try.f28))) (Ann.fst (Ann.snd spec_CountTrees_an)) (⟨mkE 10 0 [(0, .dat (.int .i64) x4)], []⟩ : St) (spec_CountTrees_10 x4) (Sum.elim (fun (t : Unit) => (Exit.normal, (⟨mkE 10 0 [(0, .dat (.int .i64) x4)], []⟩ : St))) (fun (t : Int) => (Exit.ret, (⟨mkE 10 0 [(2, .dat (.int .i64) t)], []⟩ : St)))) := by
  unfold spec_CountTrees_10
  exact Link.cast (by kernel_rfl) (by kernel_rfl) (link_seq (b := Code.snd (Code.fst (Code.snd (bodyOf Try.f28)))) (y := Ann.snd (Ann.fst (Ann.snd spec_CountTrees_an))) (spec_CountTrees_100_l x4) (fun (t : Bool) => (spec_CountTrees_101_l x4 t)))

theorem spec_CountTrees_110_l (x4 : Int) : Link spec_CountTrees_ctx LL (Code.fst (Code.snd (Code.snd (bodyOf Try.f28)))) (Ann.fst (Ann.snd (Ann.snd spec_CountTrees_an))) (⟨mkE 10 0 [(0, .dat (.int .i64) x4)], []⟩ : St) (spec_CountTrees_110 x4) (fun (t : Int) => (Exit.normal, (⟨mkE 10 0 [(2, .dat (.int .i64) t)], []⟩ : St))) := by
  refine ⟨fun K h => ?_⟩
  simp only [spec_CountTrees_110, wpO_bind, wpO_cond, wpO_map, wpO_some] at h
  exact Eq.mp (by kernel_rfl) h

theorem spec_CountTrees_111_l (x29 : Int) : Link spec_CountTrees_ctx LL (Code.snd (Code.snd (Code.snd (bodyOf Try.f28)))) (Ann.snd (Ann.snd (Ann.snd spec_CountTrees_an))) (⟨mkE 10 0 [(2, .dat (.int .i64) x29)], []⟩ : St) (spec_CountTrees_111 x29) (fun (t : Int) => (Exit.ret, (⟨mkE 10 0 [(2, .dat (.int .i64) t)], []⟩ : St))) := by
  refine ⟨fun K h => ?_⟩
  simp only [spec_CountTrees_111, wpO_some] at h
  exact Eq.mp (by kernel_rfl) h

theorem spec_CountTrees_11_l (x4 : Int) : Link spec_CountTrees_ctx LL (Code.snd (Code.snd (bodyOf Try.f28))) (Ann.snd (Ann.snd spec_CountTrees_an)) (⟨mkE 10 0 [(0, .dat (.int .i64) x4)], []⟩ : St) (spec_CountTrees_11 x4) (fun (t : Int) => (Exit.ret, (⟨mkE 10 0 [(2, .dat (.int .i64) t)], []⟩ : St))) := by
  unfold spec_CountTrees_11
  exact Link.cast (by kernel_rfl) (by kernel_rfl) (link_seq (b := Code.snd (Code.snd (Code.snd (bodyOf Try.f28)))) (y := Ann.snd (Ann.snd (Ann.snd spec_CountTrees_an))) (spec_CountTrees_110_l x4) (fun (t : Int) => (spec_CountTrees_111_l t)))

theorem spec_CountTrees_1_l (x4 : Int) : Link spec_CountTrees_ctx LL (Code.snd (bodyOf Try.f28)) (Ann.snd spec_CountTrees_an) (⟨mkE 10 0 [(0, .dat (.int .i64) x4)], []⟩ : St) (spec_CountTrees_1 x4) (fun (t : Int) => (Exit.ret, (⟨mkE 10 0 [(2, .dat (.int .i64) t)], []⟩ : St))) := by
  unfold spec_CountTrees_1
  exact Link.cast (by kernel_rfl) (by kernel_rfl) (link_seq2 (b := Code.snd (Code.snd (bodyOf Try.f28))) (y := Ann.snd (Ann.snd spec_CountTrees_an)) (spec_CountTrees_10_l x4) (fun (t : Unit) => (spec_CountTrees_11_l x4)) (fun (t : Int) => t) (by
  rintro t
  · kernel_rfl) (by
  rintro t f K h
  · exact h))

theorem spec_CountTrees_r_l (x4 : Int) : Link spec_CountTrees_ctx LL (bodyOf Try.f28) spec_CountTrees_an (⟨mkE 10 0 [(0, .dat (.int .i64) x4)], []⟩ : St) (spec_CountTrees_r x4) (fun (t : Int) => (Exit.ret, (⟨mkE 10 0 [(2, .dat (.int .i64) t)], []⟩ : St))) := by
  unfold spec_CountTrees_r
  exact Link.cast (by kernel_rfl) (by kernel_rfl) (link_seq (b := Code.snd (bodyOf Try.f28)) (y := Ann.snd spec_CountTrees_an) (spec_CountTrees_0_l x4) (fun (t : Unit) => (spec_CountTrees_1_l x4)))

theorem spec_CountTrees_e (x4 : Int) {r : AV} {H' : Heap} (h : (Ans.mk _ (spec_CountTrees x4) (fun (t : Int) => (.dat (.int .i64) t, []))).run = some (r, H')) : Awp spec_CountTrees_ctx LL (bodyOf Try.f28) spec_CountTrees_an (⟨mkE 10 0 [(0, .dat (.int .i64) x4)], []⟩ : St) (Ret (tlook tys) Try.f28.results.toList r H') :=
  ret_of' (spec_CountTrees_r_l x4) (by unfold spec_CountTrees; kernel_rfl) (by
  intro t
  exact ret_mk [.dat (.int .i64) t] (by kernel_rfl) (by kernel_rfl) (by kernel_rfl) (by kernel_rfl)) h

def F_spec_CountTrees : Fun := fun avs H =>
  match avs, H with
  | [.dat (.int .i64) x4], [] => ⟨_, spec_CountTrees x4, fun (t : Int) => (.dat (.int .i64) t, [])⟩
  | _, _ => Ans.no

theorem spec_CountTrees_sound : Sound Try.prog 28 F_spec_CountTrees := by
  refine fn_sound' (C := spec_CountTrees_ctx) (c := bodyOf Try.f28) (cok_of tys_ok (List.forall_mem_cons.2 ⟨spec_l1In_sound, List.forall_mem_cons.2 ⟨spec_l1Power_sound, by simp⟩⟩) (List.forall_mem_cons.2 ⟨Try.call44, List.forall_mem_cons.2 ⟨Try.call47, by simp⟩⟩)) Try.func28 (by kernel_rfl) LL spec_CountTrees_an ?_
  intro avs H r H' h
  unfold F_spec_CountTrees at h
  split at h
  · refine Awp.cast ?_ ?_ ?_ (spec_CountTrees_e _ h) <;> kernel_rfl
  · simp [Ans.no, Ans.run] at h

/-! loop.example/headtrees/impl.CountTrees -/

def impl_CountTrees_an : Ann := (.seq (.leaf [0]) (.seq (.seq (.leaf [0, 9]) (.cond (.seq (.leaf [2]) (.leaf [2])) (.leaf [0]))) (.seq (.leaf [0, 3]) (.seq (.seq (.leaf [0, 3, 11, 12]) (.block (.loop (.seq (.leaf [0, 3, 11, 12, 13]) (.seq (.cond (.leaf [0, 3, 11, 12]) (.leaf [3])) (.seq (.block (.leaf [0, 3, 11, 12])) (.leaf [0, 3, 11, 12]))))))) (.seq (.leaf [2]) (.leaf [2]))))))

noncomputable def impl_CountTrees_ctx : Ctx := ⟨tlook tys, olook [], ioF, 0⟩

theorem impl_CountTrees_0_l (x32 : Int) : Link impl_CountTrees_ctx LL (Code.fst (bodyOf Try.f27)) (Ann.fst impl_CountTrees_an) (⟨mkE 19 0 [(0, .dat (.int .i64) x32)], []⟩ : St) (impl_CountTrees_0) (fun (t : Unit) => (Exit.normal, (⟨mkE 19 0 [(0, .dat (.int .i64) x32)], []⟩ : St))) := by
  refine ⟨fun K h => ?_⟩
  simp only [impl_CountTrees_0, wpO_bind, wpO_cond, wpO_map, wpO_some] at h
  exact Eq.mp (by kernel_rfl) h

theorem impl_CountTrees_100_l (x32 : Int) : Link impl_CountTrees_ctx LL (Code.fst (Code.fst (Code.snd (bodyOf Try.f27)))) (Ann.fst (Ann.fst (Ann.snd impl_CountTrees_an))) (⟨mkE 19 0 [(0, .dat (.int .i64) x32)], []⟩ : St) (impl_CountTrees_100 x32) (fun (t : Bool) => (Exit.normal, (⟨mkE 19 0 [(0, .dat (.int .i64) x32), (9, .dat .bool t)], []⟩ : St))) := by
  refine ⟨fun K h => ?_⟩
  simp only [impl_CountTrees_100, wpO_bind, wpO_cond, wpO_map, wpO_some] at h
  exact Eq.mp (by kernel_rfl) h

theorem impl_CountTrees_10100_l (x32 : Int) (x35 : Bool) : Link impl_CountTrees_ctx LL (Code.fst (Code.fst (Code.snd (Code.fst (Code.snd (bodyOf Try.f27)))))) (Ann.fst (Ann.fst (Ann.snd (Ann.fst (Ann.snd impl_CountTrees_an))))) (⟨mkE 19 0 [(0, .dat (.int .i64) x32), (9, .dat .bool x35)], []⟩ : St) (impl_CountTrees_10100) (fun (t : Unit) => (Exit.normal, (⟨mkE 19 0 [(2, .dat (.int .i64) (-1))], []⟩ : St))) := by
  refine ⟨fun K h => ?_⟩
  simp only [impl_CountTrees_10100, wpO_bind, wpO_cond, wpO_map, wpO_some] at h
  exact Eq.mp (by kernel_rfl) h

theorem impl_CountTrees_10101_l : Link impl_CountTrees_ctx LL (Code.snd (Code.fst (Code.snd (Code.fst (Code.snd (bodyOf Try.f27)))))) (Ann.snd (Ann.fst (Ann.snd (Ann.fst (Ann.snd impl_CountTrees_an))))) (⟨mkE 19 0 [(2, .dat (.int .i64) (-1))], []⟩ : St) (impl_CountTrees_10101) (fun (t : Int) => (Exit.ret, (⟨mkE 19 0 [(2, .dat (.int .i64) t)], []⟩ : St))) := by
  refine ⟨fun K h => ?_⟩
  simp only [impl_CountTrees_10101, wpO_some] at h
  exact Eq.mp (by kernel_rfl) h

theorem impl_CountTrees_1010_l (x32 : Int) (x35 : Bool) : Link impl_CountTrees_ctx LL (Code.fst (Code.snd (Code.fst (Code.snd (bodyOf Try.f27))))) (Ann.fst (Ann.snd (Ann.fst (Ann.snd impl_CountTrees_an)))) (⟨mkE 19 0 [(0, .dat (.int .i64) x32), (9, .dat .bool x35)], []⟩ : St) (impl_CountTrees_1010) (fun (t : Int) => (Exit.ret, (⟨mkE 19 0 [(2, .dat (.int .i64) t)], []⟩ : St))) := by
  unfold impl_CountTrees_1010
  exact Link.cast (by kernel_rfl) (by kernel_rfl) (link_seq (b := Code.snd (Code.fst (Code.snd (Code.fst (Code.snd (bodyOf Try.f27)))))) (y := Ann.snd (Ann.fst (Ann.snd (Ann.fst (Ann.snd impl_CountTrees_an))))) (impl_CountTrees_10100_l x32 x35) (fun (t : Unit) => (impl_CountTrees_10101_l)))

theorem impl_CountTrees_1011_l (x32 : Int) (x35 : Bool) : Link impl_CountTrees_ctx LL (Code.snd (Code.snd (Code.fst (Code.snd (bodyOf Try.f27))))) (Ann.snd (Ann.snd (Ann.fst (Ann.snd impl_CountTrees_an)))) (⟨mkE 19 0 [(0, .dat (.int .i64) x32), (9, .dat .bool x35)], []⟩ : St) (impl_CountTrees_1011) (fun (t : Unit) => (Exit.normal, (⟨mkE 19 0 [(0, .dat (.int .i64) x32)], []⟩ : St))) := by
  refine ⟨fun K h => ?_⟩
  simp only [impl_CountTrees_1011, wpO_some] at h
  exact Eq.mp (by kernel_rfl) h

theorem impl_CountTrees_101_l (x32 : Int) (x35 : Bool) : Link impl_CountTrees_ctx LL (Code.snd (Code.fst (Code.snd (bodyOf Try.f27)))) (Ann.snd (Ann.fst (Ann.snd impl_CountTrees_an))) (⟨mkE 19 0 [(0, .dat (.int .i64) x32), (9, .dat .bool x35)], []⟩ : St) (impl_CountTrees_101 x35) (Sum.elim (fun (t : Unit) => (Exit.normal, (⟨mkE 19 0 [(0, .dat (.int .i64) x32)], []⟩ : St))) (fun (t : Int) => (Exit.ret, (⟨mkE 19 0 [(2, .dat (.int .i64) t)], []⟩ : St)))) := by
  unfold impl_CountTrees_101
  exact Link.cast (by kernel_rfl) (by kernel_rfl) (link_cond (c := .tmp 9) (by kernel_rfl) ((link_map (impl_CountTrees_1010_l x32 x35) (fun (t : Int) => (Sum.inr t)) (by
  rintro t
  · kernel_rfl))) ((link_map (impl_CountTrees_1011_l x32 x35) (fun (t : Unit) => (Sum.inl ())) (by
  rintro t
  · kernel_rfl))))

theorem impl_CountTrees_10_l (x32 : Int) : Link impl_CountTrees_ctx LL (Code.fst (Code.snd (bodyOf Try.f27))) (Ann.fst (Ann.snd impl_CountTrees_an)) (⟨mkE 19 0 [(0, .dat (.int .i64) x32)], []⟩ : St) (impl_CountTrees_10 x32) (Sum.elim (fun (t : Unit) => (Exit.normal, (⟨mkE 19 0 [(0, .dat (.int .i64) x32)], []⟩ : St))) (fun (t : Int) => (Exit.ret, (⟨mkE 19 0 [(2, .dat (.int .i64) t)], []⟩ : St)))) := by
  unfold impl_CountTrees_10
  exact Link.cast (by kernel_rfl) (by kernel_rfl) (link_seq (b := Code.snd (Code.fst (Code.snd (bodyOf Try.f27)))) (y := Ann.snd (Ann.fst (Ann.snd impl_CountTrees_an))) (impl_CountTrees_100_l x32) (fun (t : Bool) => (impl_CountTrees_101_l x32 t)))

theorem impl_CountTrees_110_l (x32 : Int) : Link impl_CountTrees_ctx LL (Code.fst (Code.snd (Code.snd (bodyOf Try.f27)))) (Ann.fst (Ann.snd (Ann.snd impl_CountTrees_an))) (⟨mkE 19 0 [(0, .dat (.int .i64) x32)], []⟩ : St) (impl_CountTrees_110) (fun (t : Unit) => (Exit.normal, (⟨mkE 19 0 [(0, .dat (.int .i64) x32), (3, .dat (.int .i64) 1)], []⟩ : St))) := by
  refine ⟨fun K h => ?_⟩
  simp only [impl_CountTrees_110, wpO_bind, wpO_cond, wpO_map, wpO_some] at h
  exact Eq.mp (by kernel_rfl) h

theorem impl_CountTrees_11100_l (x32 : Int) : Link impl_CountTrees_ctx LL (Code.fst (Code.fst (Code.snd (Code.snd (Code.snd (bodyOf Try.f27)))))) (Ann.fst (Ann.fst (Ann.snd (Ann.snd (Ann.snd impl_CountTrees_an))))) (⟨mkE 19 0 [(0, .dat (.int .i64) x32), (3, .dat (.int .i64) 1)], []⟩ : St) (impl_CountTrees_11100 x32) (fun (t : Int) => (Exit.normal, (⟨mkE 19 0 [(0, .dat (.int .i64) x32), (3, .dat (.int .i64) 1), (11, .dat (.int .i64) t), (12, .dat (.int .i64) 0)], []⟩ : St))) := by
  refine ⟨fun K h => ?_⟩
  simp only [impl_CountTrees_11100, wpO_bind, wpO_cond, wpO_map, wpO_some] at h
  exact Eq.mp (by kernel_rfl) h

theorem impl_CountTrees_11101000_l (x32 : Int) (x40 : Int) (x36 : Int) (x41 : Int) : Link impl_CountTrees_ctx LL (Code.fst (Code.fst (Code.fst (Code.snd (Code.fst (Code.snd (Code.snd (Code.snd (bodyOf Try.f27))))))))) (Ann.fst (Ann.fst (Ann.fst (Ann.snd (Ann.fst (Ann.snd (Ann.snd (Ann.snd impl_CountTrees_an)))))))) (⟨mkE 19 0 [(0, .dat (.int .i64) x32), (3, .dat (.int .i64) x40), (11, .dat (.int .i64) x36), (12, .dat (.int .i64) x41)], []⟩ : St) (impl_CountTrees_11101000 x36 x41) (fun (t : Bool) => (Exit.normal, (⟨mkE 19 0 [(0, .dat (.int .i64) x32), (3, .dat (.int .i64) x40), (11, .dat (.int .i64) x36), (12, .dat (.int .i64) x41), (13, .dat .bool t)], []⟩ : St))) := by
  refine ⟨fun K h => ?_⟩
  simp only [impl_CountTrees_11101000, wpO_bind, wpO_cond, wpO_map, wpO_some] at h
  exact Eq.mp (by kernel_rfl) h

theorem impl_CountTrees_1110100100_l (x32 : Int) (x40 : Int) (x36 : Int) (x41 : Int) (x42 : Bool) : Link impl_CountTrees_ctx LL (Code.fst (Code.fst (Code.snd (Code.fst (Code.fst (Code.snd (Code.fst (Code.snd (Code.snd (Code.snd (bodyOf Try.f27))))))))))) (Ann.fst (Ann.fst (Ann.snd (Ann.fst (Ann.fst (Ann.snd (Ann.fst (Ann.snd (Ann.snd (Ann.snd impl_CountTrees_an)))))))))) (⟨mkE 19 0 [(0, .dat (.int .i64) x32), (3, .dat (.int .i64) x40), (11, .dat (.int .i64) x36), (12, .dat (.int .i64) x41), (13, .dat .bool x42)], []⟩ : St) (impl_CountTrees_1110100100) (fun (t : Unit) => (Exit.normal, (⟨mkE 19 0 [(0, .dat (.int .i64) x32), (3, .dat (.int .i64) x40), (11, .dat (.int .i64) x36), (12, .dat (.int .i64) x41)], []⟩ : St))) := by
  refine ⟨fun K h => ?_⟩
  simp only [impl_CountTrees_1110100100, wpO_some] at h
  exact Eq.mp (by kernel_rfl) h

theorem impl_CountTrees_1110100101_l (x32 : Int) (x40 : Int) (x36 : Int) (x41 : Int) (x42 : Bool) : Link impl_CountTrees_ctx LL (Code.snd (Code.fst (Code.snd (Code.fst (Code.fst (Code.snd (Code.fst (Code.snd (Code.snd (Code.snd (bodyOf Try.f27))))))))))) (Ann.snd (Ann.fst (Ann.snd (Ann.fst (Ann.fst (Ann.snd (Ann.fst (Ann.snd (Ann.snd (Ann.snd impl_CountTrees_an)))))))))) (⟨mkE 19 0 [(0, .dat (.int .i64) x32), (3, .dat (.int .i64) x40), (11, .dat (.int .i64) x36), (12, .dat (.int .i64) x41), (13, .dat .bool x42)], []⟩ : St) (impl_CountTrees_1110100101 x40) (fun (t : Int) => ((Exit.exit 0), (⟨mkE 19 0 [(3, .dat (.int .i64) t)], []⟩ : St))) := by
  refine ⟨fun K h => ?_⟩
  simp only [impl_CountTrees_1110100101, wpO_some] at h
  exact Eq.mp (by kernel_rfl) h

theorem impl_CountTrees_111010010_l (x32 : Int) (x40 : Int) (x36 : Int) (x41 : Int) (x42 : Bool) : Link impl_CountTrees_ctx LL (Code.fst (Code.snd (Code.fst (Code.fst (Code.snd (Code.fst (Code.snd (Code.snd (Code.snd (bodyOf Try.f27)))))))))) (Ann.fst (Ann.snd (Ann.fst (Ann.fst (Ann.snd (Ann.fst (Ann.snd (Ann.snd (Ann.snd impl_CountTrees_an))))))))) (⟨mkE 19 0 [(0, .dat (.int .i64) x32), (3, .dat (.int .i64) x40), (11, .dat (.int .i64) x36), (12, .dat (.int .i64) x41), (13, .dat .bool x42)], []⟩ : St) (impl_CountTrees_111010010 x40 x42) (Sum.elim (fun (t : Unit) => (Exit.normal, (⟨mkE 19 0 [(0, .dat (.int .i64) x32), (3, .dat (.int .i64) x40), (11, .dat (.int .i64) x36), (12, .dat (.int .i64) x41)], []⟩ : St))) (fun (t : Int) => ((Exit.exit 0), (⟨mkE 19 0 [(3, .dat (.int .i64) t)], []⟩ : St)))) := by
  unfold impl_CountTrees_111010010
  exact Link.cast (by kernel_rfl) (by kernel_rfl) (link_cond (c := .tmp 13) (by kernel_rfl) ((link_map (impl_CountTrees_1110100100_l x32 x40 x36 x41 x42) (fun (t : Unit) => (Sum.inl ())) (by
  rintro t
  · kernel_rfl))) ((link_map (impl_CountTrees_1110100101_l x32 x40 x36 x41 x42) (fun (t : Int) => (Sum.inr t)) (by
  rintro t
  · kernel_rfl))))

theorem impl_CountTrees_11101001100_l (x32 : Int) (x40 : Int) (x36 : Int) (x41 : Int) : Link impl_CountTrees_ctx LL (Code.fst (Code.fst (Code.snd (Code.snd (Code.fst (Code.fst (Code.snd (Code.fst (Code.snd (Code.snd (Code.snd (bodyOf Try.f27)))))))))))) (Ann.fst (Ann.fst (Ann.snd (Ann.snd (Ann.fst (Ann.fst (Ann.snd (Ann.fst (Ann.snd (Ann.snd (Ann.snd impl_CountTrees_an))))))))))) (⟨mkE 19 0 [(0, .dat (.int .i64) x32), (3, .dat (.int .i64) x40), (11, .dat (.int .i64) x36), (12, .dat (.int .i64) x41)], []⟩ : St) (impl_CountTrees_11101001100 x32 x40) (fun (t : Int) => (Exit.normal, (⟨mkE 19 0 [(0, .dat (.int .i64) x32), (3, .dat (.int .i64) t), (11, .dat (.int .i64) x36), (12, .dat (.int .i64) x41)], []⟩ : St))) := by
  refine ⟨fun K h => ?_⟩
  simp only [impl_CountTrees_11101001100, wpO_bind, wpO_cond, wpO_map, wpO_some] at h
  exact Eq.mp (by kernel_rfl) h

theorem impl_CountTrees_1110100110_l (x32 : Int) (x40 : Int) (x36 : Int) (x41 : Int) : Link impl_CountTrees_ctx LL (Code.fst (Code.snd (Code.snd (Code.fst (Code.fst (Code.snd (Code.fst (Code.snd (Code.snd (Code.snd (bodyOf Try.f27))))))))))) (Ann.fst (Ann.snd (Ann.snd (Ann.fst (Ann.fst (Ann.snd (Ann.fst (Ann.snd (Ann.snd (Ann.snd impl_CountTrees_an)))))))))) (⟨mkE 19 0 [(0, .dat (.int .i64) x32), (3, .dat (.int .i64) x40), (11, .dat (.int .i64) x36), (12, .dat (.int .i64) x41)], []⟩ : St) (impl_CountTrees_1110100110 x32 x40) (fun (t : Int) => (Exit.normal, (⟨mkE 19 0 [(0, .dat (.int .i64) x32), (3, .dat (.int .i64) t), (11, .dat (.int .i64) x36), (12, .dat (.int .i64) x41)], []⟩ : St))) := by
  unfold impl_CountTrees_1110100110
  exact Link.cast (by kernel_rfl) (by kernel_rfl) (link_block (id := 1) (impl_CountTrees_11101001100_l x32 x40 x36 x41) (fun (t : Int) => t) (by
  rintro t K h
  · exact Eq.mp (by kernel_rfl) h))

theorem impl_CountTrees_1110100111_l (x32 : Int) (x43 : Int) (x36 : Int) (x41 : Int) : Link impl_CountTrees_ctx LL (Code.snd (Code.snd (Code.snd (Code.fst (Code.fst (Code.snd (Code.fst (Code.snd (Code.snd (Code.snd (bodyOf Try.f27))))))))))) (Ann.snd (Ann.snd (Ann.snd (Ann.fst (Ann.fst (Ann.snd (Ann.fst (Ann.snd (Ann.snd (Ann.snd impl_CountTrees_an)))))))))) (⟨mkE 19 0 [(0, .dat (.int .i64) x32), (3, .dat (.int .i64) x43), (11, .dat (.int .i64) x36), (12, .dat (.int .i64) x41)], []⟩ : St) (impl_CountTrees_1110100111 x41) (fun (t : Int) => (Exit.normal, (⟨mkE 19 0 [(0, .dat (.int .i64) x32), (3, .dat (.int .i64) x43), (11, .dat (.int .i64) x36), (12, .dat (.int .i64) t)], []⟩ : St))) := by
  refine ⟨fun K h => ?_⟩
  simp only [impl_CountTrees_1110100111, wpO_bind, wpO_cond, wpO_map, wpO_some] at h
  exact Eq.mp (by kernel_rfl) h

theorem impl_CountTrees_111010011_l (x32 : Int) (x40 : Int) (x36 : Int) (x41 : Int) : Link impl_CountTrees_ctx LL (Code.snd (Code.snd (Code.fst (Code.fst (Code.snd (Code.fst (Code.snd (Code.snd (Code.snd (bodyOf Try.f27)))))))))) (Ann.snd (Ann.snd (Ann.fst (Ann.fst (Ann.snd (Ann.fst (Ann.snd (Ann.snd (Ann.snd impl_CountTrees_an))))))))) (⟨mkE 19 0 [(0, .dat (.int .i64) x32), (3, .dat (.int .i64) x40), (11, .dat (.int .i64) x36), (12, .dat (.int .i64) x41)], []⟩ : St) (impl_CountTrees_111010011 x32 x40 x41) (fun (t : Int × Int) => (Exit.normal, (⟨mkE 19 0 [(0, .dat (.int .i64) x32), (3, .dat (.int .i64) t.1), (11, .dat (.int .i64) x36), (12, .dat (.int .i64) t.2)], []⟩ : St))) := by
  unfold impl_CountTrees_111010011
  exact Link.cast (by kernel_rfl) (by kernel_rfl) (link_seq (b := Code.snd (Code.snd (Code.snd (Code.fst (Code.fst (Code.snd (Code.fst (Code.snd (Code.snd (Code.snd (bodyOf Try.f27))))))))))) (y := Ann.snd (Ann.snd (Ann.snd (Ann.fst (Ann.fst (Ann.snd (Ann.fst (Ann.snd (Ann.snd (Ann.snd impl_CountTrees_an)))))))))) (impl_CountTrees_1110100110_l x32 x40 x36 x41) (fun (t : Int) => (link_map (impl_CountTrees_1110100111_l x32 t x36 x41) (fun (u : Int) => (t, u)) (by
  rintro t
  · kernel_rfl))))

theorem impl_CountTrees_11101001_l (x32 : Int) (x40 : Int) (x36 : Int) (x41 : Int) (x42 : Bool) : Link impl_CountTrees_ctx LL (Code.snd (Code.fst (Code.fst (Code.snd (Code.fst (Code.snd (Code.snd (Code.snd (bodyOf Try.f27))))))))) (Ann.snd (Ann.fst (Ann.fst (Ann.snd (Ann.fst (Ann.snd (Ann.snd (Ann.snd impl_CountTrees_an)))))))) (⟨mkE 19 0 [(0, .dat (.int .i64) x32), (3, .dat (.int .i64) x40), (11, .dat (.int .i64) x36), (12, .dat (.int .i64) x41), (13, .dat .bool x42)], []⟩ : St) (impl_CountTrees_11101001 x32 x40 x41 x42) (Sum.elim (fun (t : Int × Int) => (Exit.normal, (⟨mkE 19 0 [(0, .dat (.int .i64) x32), (3, .dat (.int .i64) t.1), (11, .dat (.int .i64) x36), (12, .dat (.int .i64) t.2)], []⟩ : St))) (fun (t : Int) => ((Exit.exit 0), (⟨mkE 19 0 [(3, .dat (.int .i64) t)], []⟩ : St)))) := by
  unfold impl_CountTrees_11101001
  exact Link.cast (by kernel_rfl) (by kernel_rfl) (link_seq2 (b := Code.snd (Code.snd (Code.fst (Code.fst (Code.snd (Code.fst (Code.snd (Code.snd (Code.snd (bodyOf Try.f27)))))))))) (y := Ann.snd (Ann.snd (Ann.fst (Ann.fst (Ann.snd (Ann.fst (Ann.snd (Ann.snd (Ann.snd impl_CountTrees_an))))))))) (impl_CountTrees_111010010_l x32 x40 x36 x41 x42) (fun (t : Unit) => (link_map (impl_CountTrees_111010011_l x32 x40 x36 x41) (fun (t : Int × Int) => (Sum.inl (t.1, t.2))) (by
  rintro t
  · kernel_rfl))) (fun (t : Int) => (Sum.inr t)) (by
  rintro t
  · kernel_rfl) (by
  rintro t f K h
  · exact h))

theorem impl_CountTrees_1110100_l (x32 : Int) (x40 : Int) (x36 : Int) (x41 : Int) : Link impl_CountTrees_ctx LL (Code.fst (Code.fst (Code.snd (Code.fst (Code.snd (Code.snd (Code.snd (bodyOf Try.f27)))))))) (Ann.fst (Ann.fst (Ann.snd (Ann.fst (Ann.snd (Ann.snd (Ann.snd impl_CountTrees_an))))))) (⟨mkE 19 0 [(0, .dat (.int .i64) x32), (3, .dat (.int .i64) x40), (11, .dat (.int .i64) x36), (12, .dat (.int .i64) x41)], []⟩ : St) (impl_CountTrees_1110100 x32 x40 x36 x41) (Sum.elim (fun (t : Int × Int) => (Exit.normal, (⟨mkE 19 0 [(0, .dat (.int .i64) x32), (3, .dat (.int .i64) t.1), (11, .dat (.int .i64) x36), (12, .dat (.int .i64) t.2)], []⟩ : St))) (fun (t : Int) => ((Exit.exit 0), (⟨mkE 19 0 [(3, .dat (.int .i64) t)], []⟩ : St)))) := by
  unfold impl_CountTrees_1110100
  exact Link.cast (by kernel_rfl) (by kernel_rfl) (link_seq (b := Code.snd (Code.fst (Code.fst (Code.snd (Code.fst (Code.snd (Code.snd (Code.snd (bodyOf Try.f27))))))))) (y := Ann.snd (Ann.fst (Ann.fst (Ann.snd (Ann.fst (Ann.snd (Ann.snd (Ann.snd impl_CountTrees_an)))))))) (impl_CountTrees_11101000_l x32 x40 x36 x41) (fun (t : Bool) => (impl_CountTrees_11101001_l x32 x40 x36 x41 t)))

theorem impl_CountTrees_111010_l (x32 : Int) (x36 : Int) : Link impl_CountTrees_ctx LL (Code.fst (Code.snd (Code.fst (Code.snd (Code.snd (Code.snd (bodyOf Try.f27))))))) (Ann.fst (Ann.snd (Ann.fst (Ann.snd (Ann.snd (Ann.snd impl_CountTrees_an)))))) (⟨mkE 19 0 [(0, .dat (.int .i64) x32), (3, .dat (.int .i64) 1), (11, .dat (.int .i64) x36), (12, .dat (.int .i64) 0)], []⟩ : St) (impl_CountTrees_111010 x32 x36) (fun (t : Int) => ((Exit.exit 0), (⟨mkE 19 0 [(3, .dat (.int .i64) t)], []⟩ : St))) := by
  unfold impl_CountTrees_111010
  exact Link.cast (by kernel_rfl) (by kernel_rfl) (link_loop (mk := fun (s : Int × Int) => (⟨mkE 19 0 [(0, .dat (.int .i64) x32), (3, .dat (.int .i64) s.1), (11, .dat (.int .i64) x36), (12, .dat (.int .i64) s.2)], []⟩ : St)) (fin := (fun (t : Int) => ((Exit.exit 0), (⟨mkE 19 0 [(3, .dat (.int .i64) t)], []⟩ : St)))) (by
  rintro t f K h
  · exact h) (fun s => link_map (impl_CountTrees_1110100_l x32 s.1 x36 s.2) (Sum.elim (fun (t : Int × Int) => Sum.inl (t.1, t.2)) (fun (t : Int) => Sum.inr t)) (by
  rintro (t | t)
  · kernel_rfl
  · kernel_rfl)) (1, 0))

theorem impl_CountTrees_11101_l (x32 : Int) (x36 : Int) : Link impl_CountTrees_ctx LL (Code.snd (Code.fst (Code.snd (Code.snd (Code.snd (bodyOf Try.f27)))))) (Ann.snd (Ann.fst (Ann.snd (Ann.snd (Ann.snd impl_CountTrees_an))))) (⟨mkE 19 0 [(0, .dat (.int .i64) x32), (3, .dat (.int .i64) 1), (11, .dat (.int .i64) x36), (12, .dat (.int .i64) 0)], []⟩ : St) (impl_CountTrees_11101 x32 x36) (fun (t : Int) => (Exit.normal, (⟨mkE 19 0 [(3, .dat (.int .i64) t)], []⟩ : St))) := by
  unfold impl_CountTrees_11101
  exact Link.cast (by kernel_rfl) (by kernel_rfl) (link_block (id := 0) (impl_CountTrees_111010_l x32 x36) (fun (t : Int) => t) (by
  rintro t K h
  · exact Eq.mp (by kernel_rfl) h))

theorem impl_CountTrees_1110_l (x32 : Int) : Link impl_CountTrees_ctx LL (Code.fst (Code.snd (Code.snd (Code.snd (bodyOf Try.f27))))) (Ann.fst (Ann.snd (Ann.snd (Ann.snd impl_CountTrees_an)))) (⟨mkE 19 0 [(0, .dat (.int .i64) x32), (3, .dat (.int .i64) 1)], []⟩ : St) (impl_CountTrees_1110 x32) (fun (t : Int) => (Exit.normal, (⟨mkE 19 0 [(3, .dat (.int .i64) t)], []⟩ : St))) := by
  unfold impl_CountTrees_1110
  exact Link.cast (by kernel_rfl) (by kernel_rfl) (link_seq (b := Code.snd (Code.fst (Code.snd (Code.snd (Code.snd (bodyOf Try.f27)))))) (y := Ann.snd (Ann.fst (Ann.snd (Ann.snd (Ann.snd impl_CountTrees_an))))) (impl_CountTrees_11100_l x32) (fun (t : Int) => (impl_CountTrees_11101_l x32 t)))

theorem impl_CountTrees_11110_l (x40 : Int) : Link impl_CountTrees_ctx LL (Code.fst (Code.snd (Code.snd (Code.snd (Code.snd (bodyOf Try.f27)))))) (Ann.fst (Ann.snd (Ann.snd (Ann.snd (Ann.snd impl_CountTrees_an))))) (⟨mkE 19 0 [(3, .dat (.int .i64) x40)], []⟩ : St) (impl_CountTrees_11110) (fun (t : Unit) => (Exit.normal, (⟨mkE 19 0 [(2, .dat (.int .i64) x40)], []⟩ : St))) := by
  refine ⟨fun K h => ?_⟩
  simp only [impl_CountTrees_11110, wpO_bind, wpO_cond, wpO_map, wpO_some] at h
  exact Eq.mp (by kernel_rfl) h

theorem impl_CountTrees_11111_l (x40 : Int) : Link impl_CountTrees_ctx LL (Code.snd (Code.snd (Code.snd (Code.snd (Code.snd (bodyOf Try.f27)))))) (Ann.snd (Ann.snd (Ann.snd (Ann.snd (Ann.snd impl_CountTrees_an))))) (⟨mkE 19 0 [(2, .dat (.int .i64) x40)], []⟩ : St) (impl_CountTrees_11111 x40) (fun (t : Int) => (Exit.ret, (⟨mkE 19 0 [(2, .dat (.int .i64) t)], []⟩ : St))) := by
  refine ⟨fun K h => ?_⟩
  simp only [impl_CountTrees_11111, wpO_some] at h
  exact Eq.mp (by kernel_rfl) h

theorem impl_CountTrees_1111_l (x40 : Int) : Link impl_CountTrees_ctx LL (Code.snd (Code.snd (Code.snd (Code.snd (bodyOf Try.f27))))) (Ann.snd (Ann.snd (Ann.snd (Ann.snd impl_CountTrees_an)))) (⟨mkE 19 0 [(3, .dat (.int .i64) x40)], []⟩ : St) (impl_CountTrees_1111 x40) (fun (t : Int) => (Exit.ret, (⟨mkE 19 0 [(2, .dat (.int .i64) t)], []⟩ : St))) := by
  unfold impl_CountTrees_1111
  exact Link.cast (by kernel_rfl) (by kernel_rfl) (link_seq (b := Code.snd (Code.snd (Code.snd (Code.snd (Code.snd (bodyOf Try.f27)))))) (y := Ann.snd (Ann.snd (Ann.snd (Ann.snd (Ann.snd impl_CountTrees_an))))) (impl_CountTrees_11110_l x40) (fun (t : Unit) => (impl_CountTrees_11111_l x40)))

theorem impl_CountTrees_111_l (x32 : Int) : Link impl_CountTrees_ctx LL (Code.snd (Code.snd (Code.snd (bodyOf Try.f27)))) (Ann.snd (Ann.snd (Ann.snd impl_CountTrees_an))) (⟨mkE 19 0 [(0, .dat (.int .i64) x32), (3, .dat (.int .i64) 1)], []⟩ : St) (impl_CountTrees_111 x32) (fun (t : Int) => (Exit.ret, (⟨mkE 19 0 [(2, .dat (.int .i64) t)], []⟩ : St))) := by
  unfold impl_CountTrees_111
  exact Link.cast (by kernel_rfl) (by kernel_rfl) (link_seq (b := Code.snd (Code.snd (Code.snd (Code.snd (bodyOf Try.f27))))) (y := Ann.snd (Ann.snd (Ann.snd (Ann.snd impl_CountTrees_an)))) (impl_CountTrees_1110_l x32) (fun (t : Int) => (impl_CountTrees_1111_l t)))

theorem impl_CountTrees_11_l (x32 : Int) : Link impl_CountTrees_ctx LL (Code.snd (Code.snd (bodyOf Try.f27))) (Ann.snd (Ann.snd impl_CountTrees_an)) (⟨mkE 19 0 [(0, .dat (.int .i64) x32)], []⟩ : St) (impl_CountTrees_11 x32) (fun (t : Int) => (Exit.ret, (⟨mkE 19 0 [(2, .dat (.int .i64) t)], []⟩ : St))) := by
  unfold impl_CountTrees_11
  exact Link.cast (by kernel_rfl) (by kernel_rfl) (link_seq (b := Code.snd (Code.snd (Code.snd (bodyOf Try.f27)))) (y := Ann.snd (Ann.snd (Ann.snd impl_CountTrees_an))) (impl_CountTrees_110_l x32) (fun (t : Unit) => (impl_CountTrees_111_l x32)))

theorem impl_CountTrees_1_l (x32 : Int) : Link impl_CountTrees_ctx LL (Code.snd (bodyOf Try.f27)) (Ann.snd impl_CountTrees_an) (⟨mkE 19 0 [(0, .dat (.int .i64) x32)], []⟩ : St) (impl_CountTrees_1 x32) (fun (t : Int) => (Exit.ret, (⟨mkE 19 0 [(2, .dat (.int .i64) t)], []⟩ : St))) := by
  unfold impl_CountTrees_1
  exact Link.cast (by kernel_rfl) (by kernel_rfl) (link_seq2 (b := Code.snd (Code.snd (bodyOf Try.f27))) (y := Ann.snd (Ann.snd impl_CountTrees_an)) (impl_CountTrees_10_l x32) (fun (t : Unit) => (impl_CountTrees_11_l x32)) (fun (t : Int) => t) (by
  rintro t
  · kernel_rfl) (by
  rintro t f K h
  · exact h))

theorem impl_CountTrees_r_l (x32 : Int) : Link impl_CountTrees_ctx LL (bodyOf Try.f27) impl_CountTrees_an (⟨mkE 19 0 [(0, .dat (.int .i64) x32)], []⟩ : St) (impl_CountTrees_r x32) (fun (t : Int) => (Exit.ret, (⟨mkE 19 0 [(2, .dat (.int .i64) t)], []⟩ : St))) := by
  unfold impl_CountTrees_r
  exact Link.cast (by kernel_rfl) (by kernel_rfl) (link_seq (b := Code.snd (bodyOf Try.f27)) (y := Ann.snd impl_CountTrees_an) (impl_CountTrees_0_l x32) (fun (t : Unit) => (impl_CountTrees_1_l x32)))

theorem impl_CountTrees_e (x32 : Int) {r : AV} {H' : Heap} (h : (Ans.mk _ (impl_CountTrees x32) (fun (t : Int) => (.dat (.int .i64) t, []))).run = some (r, H')) : Awp impl_CountTrees_ctx LL (bodyOf Try.f27) impl_CountTrees_an (⟨mkE 19 0 [(0, .dat (.int .i64) x32)], []⟩ : St) (Ret (tlook tys) Try.f27.results.toList r H') :=
  ret_of' (impl_CountTrees_r_l x32) (by unfold impl_CountTrees; kernel_rfl) (by
  intro t
  exact ret_mk [.dat (.int .i64) t] (by kernel_rfl) (by kernel_rfl) (by kernel_rfl) (by kernel_rfl)) h

def F_impl_CountTrees : Fun := fun avs H =>
  match avs, H with
  | [.dat (.int .i64) x32], [] => ⟨_, impl_CountTrees x32, fun (t : Int) => (.dat (.int .i64) t, [])⟩
  | _, _ => Ans.no

theorem impl_CountTrees_sound : Sound Try.prog 27 F_impl_CountTrees := by
  refine fn_sound' (C := impl_CountTrees_ctx) (c := bodyOf Try.f27) (cok_of tys_ok (by simp) (by simp)) Try.func27 (by kernel_rfl) LL impl_CountTrees_an ?_
  intro avs H r H' h
  unfold F_impl_CountTrees at h
  split at h
  · refine Awp.cast ?_ ?_ ?_ (impl_CountTrees_e _ h) <;> kernel_rfl
  · simp [Ans.no, Ans.run] at h

/-! loop.example/headtrees/laws.FnExactCountTrees -/

def laws_FnExactCountTrees_an : Ann := (.seq (.leaf [0]) (.seq (.leaf [0, 3]) (.seq (.leaf [3, 4]) (.seq (.seq (.leaf [11]) (.cond (.seq (.leaf [2]) (.leaf [2])) (.leaf []))) (.seq (.leaf [2]) (.leaf [2]))))))

noncomputable def laws_FnExactCountTrees_ctx : Ctx := ⟨tlook tys, olook [(28, F_spec_CountTrees), (27, F_impl_CountTrees)], ioF, 0⟩

theorem laws_FnExactCountTrees_0_l (x2 : Int) : Link laws_FnExactCountTrees_ctx LL (Code.fst (bodyOf Try.f12)) (Ann.fst laws_FnExactCountTrees_an) (⟨mkE 12 0 [(0, .dat (.int .i64) x2)], []⟩ : St) (laws_FnExactCountTrees_0) (fun (t : Unit) => (Exit.normal, (⟨mkE 12 0 [(0, .dat (.int .i64) x2)], []⟩ : St))) := by
  refine ⟨fun K h => ?_⟩
  simp only [laws_FnExactCountTrees_0, wpO_bind, wpO_cond, wpO_map, wpO_some] at h
  exact Eq.mp (by kernel_rfl) h

theorem laws_FnExactCountTrees_10_l (x2 : Int) : Link laws_FnExactCountTrees_ctx LL (Code.fst (Code.snd (bodyOf Try.f12))) (Ann.fst (Ann.snd laws_FnExactCountTrees_an)) (⟨mkE 12 0 [(0, .dat (.int .i64) x2)], []⟩ : St) (laws_FnExactCountTrees_10 x2) (fun (t : Int) => (Exit.normal, (⟨mkE 12 0 [(0, .dat (.int .i64) x2), (3, .dat (.int .i64) t)], []⟩ : St))) := by
  refine ⟨fun K h => ?_⟩
  simp only [laws_FnExactCountTrees_10, wpO_bind, wpO_cond, wpO_map, wpO_some] at h
  exact Eq.mp (by kernel_rfl) h

theorem laws_FnExactCountTrees_110_l (x2 : Int) (x31 : Int) : Link laws_FnExactCountTrees_ctx LL (Code.fst (Code.snd (Code.snd (bodyOf Try.f12)))) (Ann.fst (Ann.snd (Ann.snd laws_FnExactCountTrees_an))) (⟨mkE 12 0 [(0, .dat (.int .i64) x2), (3, .dat (.int .i64) x31)], []⟩ : St) (laws_FnExactCountTrees_110 x2) (fun (t : Int) => (Exit.normal, (⟨mkE 12 0 [(3, .dat (.int .i64) x31), (4, .dat (.int .i64) t)], []⟩ : St))) := by
  refine ⟨fun K h => ?_⟩
  simp only [laws_FnExactCountTrees_110, wpO_bind, wpO_cond, wpO_map, wpO_some] at h
  exact Eq.mp (by kernel_rfl) h

theorem laws_FnExactCountTrees_11100_l (x31 : Int) (x46 : Int) : Link laws_FnExactCountTrees_ctx LL (Code.fst (Code.fst (Code.snd (Code.snd (Code.snd (bodyOf Try.f12)))))) (Ann.fst (Ann.fst (Ann.snd (Ann.snd (Ann.snd laws_FnExactCountTrees_an))))) (⟨mkE 12 0 [(3, .dat (.int .i64) x31), (4, .dat (.int .i64) x46)], []⟩ : St) (laws_FnExactCountTrees_11100 x31 x46) (fun (t : Bool) => (Exit.normal, (⟨mkE 12 0 [(11, .dat .bool t)], []⟩ : St))) := by
  refine ⟨fun K h => ?_⟩
  simp only [laws_FnExactCountTrees_11100, wpO_bind, wpO_cond, wpO_map, wpO_some] at h
  exact Eq.mp (by kernel_rfl) h

theorem laws_FnExactCountTrees_1110100_l (x47 : Bool) : Link laws_FnExactCountTrees_ctx LL (Code.fst (Code.fst (Code.snd (Code.fst (Code.snd (Code.snd (Code.snd (bodyOf Try.f12)))))))) (Ann.fst (Ann.fst (Ann.snd (Ann.fst (Ann.snd (Ann.snd (Ann.snd laws_FnExactCountTrees_an))))))) (⟨mkE 12 0 [(11, .dat .bool x47)], []⟩ : St) (laws_FnExactCountTrees_1110100) (fun (t : Unit) => (Exit.normal, (⟨mkE 12 0 [(2, .dat .bool false)], []⟩ : St))) := by
  refine ⟨fun K h => ?_⟩
  simp only [laws_FnExactCountTrees_1110100, wpO_bind, wpO_cond, wpO_map, wpO_some] at h
  exact Eq.mp (by kernel_rfl) h

theorem laws_FnExactCountTrees_1110101_l : Link laws_FnExactCountTrees_ctx LL (Code.snd (Code.fst (Code.snd (Code.fst (Code.snd (Code.snd (Code.snd (bodyOf Try.f12)))))))) (Ann.snd (Ann.fst (Ann.snd (Ann.fst (Ann.snd (Ann.snd (Ann.snd laws_FnExactCountTrees_an))))))) (⟨mkE 12 0 [(2, .dat .bool false)], []⟩ : St) (laws_FnExactCountTrees_1110101) (fun (t : Bool) => (Exit.ret, (⟨mkE 12 0 [(2, .dat .bool t)], []⟩ : St))) := by
  refine ⟨fun K h => ?_⟩
  simp only [laws_FnExactCountTrees_1110101, wpO_some] at h
  exact Eq.mp (by kernel_rfl) h

theorem laws_FnExactCountTrees_111010_l (x47 : Bool) : Link laws_FnExactCountTrees_ctx LL (Code.fst (Code.snd (Code.fst (Code.snd (Code.snd (Code.snd (bodyOf Try.f12))))))) (Ann.fst (Ann.snd (Ann.fst (Ann.snd (Ann.snd (Ann.snd laws_FnExactCountTrees_an)))))) (⟨mkE 12 0 [(11, .dat .bool x47)], []⟩ : St) (laws_FnExactCountTrees_111010) (fun (t : Bool) => (Exit.ret, (⟨mkE 12 0 [(2, .dat .bool t)], []⟩ : St))) := by
  unfold laws_FnExactCountTrees_111010
  exact Link.cast (by kernel_rfl) (by kernel_rfl) (link_seq (b := Code.snd (Code.fst (Code.snd (Code.fst (Code.snd (Code.snd (Code.snd (bodyOf Try.f12)))))))) (y := Ann.snd (Ann.fst (Ann.snd (Ann.fst (Ann.snd (Ann.snd (Ann.snd laws_FnExactCountTrees_an))))))) (laws_FnExactCountTrees_1110100_l x47) (fun (t : Unit) => (laws_FnExactCountTrees_1110101_l)))

theorem laws_FnExactCountTrees_111011_l (x47 : Bool) : Link laws_FnExactCountTrees_ctx LL (Code.snd (Code.snd (Code.fst (Code.snd (Code.snd (Code.snd (bodyOf Try.f12))))))) (Ann.snd (Ann.snd (Ann.fst (Ann.snd (Ann.snd (Ann.snd laws_FnExactCountTrees_an)))))) (⟨mkE 12 0 [(11, .dat .bool x47)], []⟩ : St) (laws_FnExactCountTrees_111011) (fun (t : Unit) => (Exit.normal, (⟨mkE 12 0 [], []⟩ : St))) := by
  refine ⟨fun K h => ?_⟩
  simp only [laws_FnExactCountTrees_111011, wpO_some] at h
  exact Eq.mp (by kernel_rfl) h

theorem laws_FnExactCountTrees_11101_l (x47 : Bool) : Link laws_FnExactCountTrees_ctx LL (Code.snd (Code.fst (Code.snd (Code.snd (Code.snd (bodyOf Try.f12)))))) (Ann.snd (Ann.fst (Ann.snd (Ann.snd (Ann.snd laws_FnExactCountTrees_an))))) (⟨mkE 12 0 [(11, .dat .bool x47)], []⟩ : St) (laws_FnExactCountTrees_11101 x47) (Sum.elim (fun (t : Unit) => (Exit.normal, (⟨mkE 12 0 [], []⟩ : St))) (fun (t : Bool) => (Exit.ret, (⟨mkE 12 0 [(2, .dat .bool t)], []⟩ : St)))) := by
  unfold laws_FnExactCountTrees_11101
  exact Link.cast (by kernel_rfl) (by kernel_rfl) (link_cond (c := .tmp 11) (by kernel_rfl) ((link_map (laws_FnExactCountTrees_111010_l x47) (fun (t : Bool) => (Sum.inr t)) (by
  rintro t
  · kernel_rfl))) ((link_map (laws_FnExactCountTrees_111011_l x47) (fun (t : Unit) => (Sum.inl ())) (by
  rintro t
  · kernel_rfl))))

theorem laws_FnExactCountTrees_1110_l (x31 : Int) (x46 : Int) : Link laws_FnExactCountTrees_ctx LL (Code.fst (Code.snd (Code.snd (Code.snd (bodyOf Try.f12))))) (Ann.fst (Ann.snd (Ann.snd (Ann.snd laws_FnExactCountTrees_an)))) (⟨mkE 12 0 [(3, .dat (.int .i64) x31), (4, .dat (.int .i64) x46)], []⟩ : St) (laws_FnExactCountTrees_1110 x31 x46) (Sum.elim (fun (t : Unit) => (Exit.normal, (⟨mkE 12 0 [], []⟩ : St))) (fun (t : Bool) => (Exit.ret, (⟨mkE 12 0 [(2, .dat .bool t)], []⟩ : St)))) := by
  unfold laws_FnExactCountTrees_1110
  exact Link.cast (by kernel_rfl) (by kernel_rfl) (link_seq (b := Code.snd (Code.fst (Code.snd (Code.snd (Code.snd (bodyOf Try.f12)))))) (y := Ann.snd (Ann.fst (Ann.snd (Ann.snd (Ann.snd laws_FnExactCountTrees_an))))) (laws_FnExactCountTrees_11100_l x31 x46) (fun (t : Bool) => (laws_FnExactCountTrees_11101_l t)))

theorem laws_FnExactCountTrees_11110_l : Link laws_FnExactCountTrees_ctx LL (Code.fst (Code.snd (Code.snd (Code.snd (Code.snd (bodyOf Try.f12)))))) (Ann.fst (Ann.snd (Ann.snd (Ann.snd (Ann.snd laws_FnExactCountTrees_an))))) (⟨mkE 12 0 [], []⟩ : St) (laws_FnExactCountTrees_11110) (fun (t : Unit) => (Exit.normal, (⟨mkE 12 0 [(2, .dat .bool true)], []⟩ : St))) := by
  refine ⟨fun K h => ?_⟩
  simp only [laws_FnExactCountTrees_11110, wpO_bind, wpO_cond, wpO_map, wpO_some] at h
  exact Eq.mp (by kernel_rfl) h

theorem laws_FnExactCountTrees_11111_l : Link laws_FnExactCountTrees_ctx LL (Code.snd (Code.snd (Code.snd (Code.snd (Code.snd (bodyOf Try.f12)))))) (Ann.snd (Ann.snd (Ann.snd (Ann.snd (Ann.snd laws_FnExactCountTrees_an))))) (⟨mkE 12 0 [(2, .dat .bool true)], []⟩ : St) (laws_FnExactCountTrees_11111) (fun (t : Bool) => (Exit.ret, (⟨mkE 12 0 [(2, .dat .bool t)], []⟩ : St))) := by
  refine ⟨fun K h => ?_⟩
  simp only [laws_FnExactCountTrees_11111, wpO_some] at h
  exact Eq.mp (by kernel_rfl) h

theorem laws_FnExactCountTrees_1111_l : Link laws_FnExactCountTrees_ctx LL (Code.snd (Code.snd (Code.snd (Code.snd (bodyOf Try.f12))))) (Ann.snd (Ann.snd (Ann.snd (Ann.snd laws_FnExactCountTrees_an)))) (⟨mkE 12 0 [], []⟩ : St) (laws_FnExactCountTrees_1111) (fun (t : Bool) => (Exit.ret, (⟨mkE 12 0 [(2, .dat .bool t)], []⟩ : St))) := by
  unfold laws_FnExactCountTrees_1111
  exact Link.cast (by kernel_rfl) (by kernel_rfl) (link_seq (b := Code.snd (Code.snd (Code.snd (Code.snd (Code.snd (bodyOf Try.f12)))))) (y := Ann.snd (Ann.snd (Ann.snd (Ann.snd (Ann.snd laws_FnExactCountTrees_an))))) (laws_FnExactCountTrees_11110_l) (fun (t : Unit) => (laws_FnExactCountTrees_11111_l)))

theorem laws_FnExactCountTrees_111_l (x31 : Int) (x46 : Int) : Link laws_FnExactCountTrees_ctx LL (Code.snd (Code.snd (Code.snd (bodyOf Try.f12)))) (Ann.snd (Ann.snd (Ann.snd laws_FnExactCountTrees_an))) (⟨mkE 12 0 [(3, .dat (.int .i64) x31), (4, .dat (.int .i64) x46)], []⟩ : St) (laws_FnExactCountTrees_111 x31 x46) (fun (t : Bool) => (Exit.ret, (⟨mkE 12 0 [(2, .dat .bool t)], []⟩ : St))) := by
  unfold laws_FnExactCountTrees_111
  exact Link.cast (by kernel_rfl) (by kernel_rfl) (link_seq2 (b := Code.snd (Code.snd (Code.snd (Code.snd (bodyOf Try.f12))))) (y := Ann.snd (Ann.snd (Ann.snd (Ann.snd laws_FnExactCountTrees_an)))) (laws_FnExactCountTrees_1110_l x31 x46) (fun (t : Unit) => (laws_FnExactCountTrees_1111_l)) (fun (t : Bool) => t) (by
  rintro t
  · kernel_rfl) (by
  rintro t f K h
  · exact h))

theorem laws_FnExactCountTrees_11_l (x2 : Int) (x31 : Int) : Link laws_FnExactCountTrees_ctx LL (Code.snd (Code.snd (bodyOf Try.f12))) (Ann.snd (Ann.snd laws_FnExactCountTrees_an)) (⟨mkE 12 0 [(0, .dat (.int .i64) x2), (3, .dat (.int .i64) x31)], []⟩ : St) (laws_FnExactCountTrees_11 x2 x31) (fun (t : Bool) => (Exit.ret, (⟨mkE 12 0 [(2, .dat .bool t)], []⟩ : St))) := by
  unfold laws_FnExactCountTrees_11
  exact Link.cast (by kernel_rfl) (by kernel_rfl) (link_seq (b := Code.snd (Code.snd (Code.snd (bodyOf Try.f12)))) (y := Ann.snd (Ann.snd (Ann.snd laws_FnExactCountTrees_an))) (laws_FnExactCountTrees_110_l x2 x31) (fun (t : Int) => (laws_FnExactCountTrees_111_l x31 t)))

theorem laws_FnExactCountTrees_1_l (x2 : Int) : Link laws_FnExactCountTrees_ctx LL (Code.snd (bodyOf Try.f12)) (Ann.snd laws_FnExactCountTrees_an) (⟨mkE 12 0 [(0, .dat (.int .i64) x2)], []⟩ : St) (laws_FnExactCountTrees_1 x2) (fun (t : Bool) => (Exit.ret, (⟨mkE 12 0 [(2, .dat .bool t)], []⟩ : St))) := by
  unfold laws_FnExactCountTrees_1
  exact Link.cast (by kernel_rfl) (by kernel_rfl) (link_seq (b := Code.snd (Code.snd (bodyOf Try.f12))) (y := Ann.snd (Ann.snd laws_FnExactCountTrees_an)) (laws_FnExactCountTrees_10_l x2) (fun (t : Int) => (laws_FnExactCountTrees_11_l x2 t)))

theorem laws_FnExactCountTrees_r_l (x2 : Int) : Link laws_FnExactCountTrees_ctx LL (bodyOf Try.f12) laws_FnExactCountTrees_an (⟨mkE 12 0 [(0, .dat (.int .i64) x2)], []⟩ : St) (laws_FnExactCountTrees_r x2) (fun (t : Bool) => (Exit.ret, (⟨mkE 12 0 [(2, .dat .bool t)], []⟩ : St))) := by
  unfold laws_FnExactCountTrees_r
  exact Link.cast (by kernel_rfl) (by kernel_rfl) (link_seq (b := Code.snd (bodyOf Try.f12)) (y := Ann.snd laws_FnExactCountTrees_an) (laws_FnExactCountTrees_0_l x2) (fun (t : Unit) => (laws_FnExactCountTrees_1_l x2)))

theorem laws_FnExactCountTrees_e (x2 : Int) {r : AV} {H' : Heap} (h : (Ans.mk _ (laws_FnExactCountTrees x2) (fun (t : Bool) => (.dat .bool t, []))).run = some (r, H')) : Awp laws_FnExactCountTrees_ctx LL (bodyOf Try.f12) laws_FnExactCountTrees_an (⟨mkE 12 0 [(0, .dat (.int .i64) x2)], []⟩ : St) (Ret (tlook tys) Try.f12.results.toList r H') :=
  ret_of' (laws_FnExactCountTrees_r_l x2) (by unfold laws_FnExactCountTrees; kernel_rfl) (by
  intro t
  exact ret_mk [.dat .bool t] (by kernel_rfl) (by kernel_rfl) (by kernel_rfl) (by kernel_rfl)) h

def F_laws_FnExactCountTrees : Fun := fun avs H =>
  match avs, H with
  | [.dat (.int .i64) x2], [] => ⟨_, laws_FnExactCountTrees x2, fun (t : Bool) => (.dat .bool t, [])⟩
  | _, _ => Ans.no

theorem laws_FnExactCountTrees_sound : Sound Try.prog 12 F_laws_FnExactCountTrees := by
  refine fn_sound' (C := laws_FnExactCountTrees_ctx) (c := bodyOf Try.f12) (cok_of tys_ok (List.forall_mem_cons.2 ⟨spec_CountTrees_sound, List.forall_mem_cons.2 ⟨impl_CountTrees_sound, by simp⟩⟩) (List.forall_mem_cons.2 ⟨Try.call28, List.forall_mem_cons.2 ⟨Try.call27, by simp⟩⟩)) Try.func12 (by kernel_rfl) LL laws_FnExactCountTrees_an ?_
  intro avs H r H' h
  unfold F_laws_FnExactCountTrees at h
  split at h
  · refine Awp.cast ?_ ?_ ?_ (laws_FnExactCountTrees_e _ h) <;> kernel_rfl
  · simp [Ans.no, Ans.run] at h

end Go.Rv
