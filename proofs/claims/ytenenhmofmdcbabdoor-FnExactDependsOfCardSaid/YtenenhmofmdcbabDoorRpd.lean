/-
  A region whose order is left open: one order serves all; a part. Conditions: none.
-/
import Derived.Test.YtenenhmofmdcbabDoorRpc
set_option linter.unusedSimpArgs false
set_option linter.unusedVariables false
namespace Go.Rv

def RowsIn' (H H' : Heap) : Prop := ∀ (h : Nat) (r : Row), H[h]? = some (some r) → H'[h]? = some (some r)

theorem RowsIn'.refl (H : Heap) : RowsIn' H H := fun _ _ h => h

theorem rows_set {H : Heap} {base : Nat} {r : Row} (h : H[base]? = some none) : RowsIn' H (H.set base (some r)) := fun g r0 hg => by
  have hne : base ≠ g := fun e => by subst e; rw [h] at hg; simp at hg
  rw [List.getElem?_set_ne hne]; exact hg

/-- What an operation leaves: one slot, and memory. -/
theorem step_shape {C : Ctx} {base : Nat} {o : Oper} {s s1 : St} (hap : isAppend o.op = false) (h : cstep (optAlg St) C base o s some = some s1) :
    ∃ (v : AV) (H : Heap), s1 = (⟨s.env, H⟩ : St).put o.dst v ∧ ∀ (calm : List Nat) (i : Nat), calmKind calm i o.op = true → calmNow C calm i o s = true → RowsIn' s.heap H := by
  obtain ⟨odst, oop, otype, opos, oafter, oguard⟩ := o
  simp only at hap ⊢
  have hout : ∀ {v : AV} {s1 : St}, some (s.put odst v) = some s1 → ∃ (v : AV) (H : Heap), s1 = (⟨s.env, H⟩ : St).put odst v ∧ ∀ (calm : List Nat) (i : Nat), calmKind calm i oop = true → calmNow C calm i ⟨odst, oop, otype, opos, oafter, oguard⟩ s = true → RowsIn' s.heap H := fun {v s1} e => by
    cases e
    exact ⟨v, s.heap, rfl, fun _ _ _ _ => RowsIn'.refl _⟩
  have halloc : ∀ {r : Row} {v : AV} {s1 : St}, allocRow (optAlg St) s base r (fun s' => some (s'.put odst v)) = some s1 → ∃ (v : AV) (H : Heap), s1 = (⟨s.env, H⟩ : St).put odst v ∧ ∀ (calm : List Nat) (i : Nat), calmKind calm i oop = true → calmNow C calm i ⟨odst, oop, otype, opos, oafter, oguard⟩ s = true → RowsIn' s.heap H := fun {r v s1} e => by
    obtain ⟨hfree, e⟩ := allocRow_opt e
    cases e
    exact ⟨v, _, rfl, fun _ _ _ _ => rows_set hfree⟩
  unfold cstep at h
  cases oop <;> simp only at h
  case move x => obtain ⟨a, _, h⟩ := lift_opt h; exact hout h
  case assign x =>
    obtain ⟨a, _, h⟩ := lift_opt h
    split at h
    · split at h
      · split at h
        · exact halloc h
        · cases h
      · cases h
    · exact hout h
  case pick c x y =>
    obtain ⟨a, _, h⟩ := lift_opt h
    split at h
    · obtain ⟨_, _, h⟩ := lift_opt h
      obtain ⟨_, _, h⟩ := lift_opt h
      exact hout h
    · cases h
  case alloc e =>
    split at h
    · split at h
      · split at h
        · split at h
          · split at h
            · exact halloc h
            · cases h
          · cases h
        · cases h
      · split at h
        · exact halloc h
        · cases h
    · cases h
  case box e x =>
    obtain ⟨a, _, h⟩ := lift_opt h
    split at h
    · split at h
      · exact halloc h
      · cases h
    · split at h
      · exact halloc h
      · cases h
  case build t ps =>
    split at h
    · split at h
      · split at h
        · obtain ⟨_, _, h⟩ := lift_opt h; exact hout h
        · cases h
      · cases h
    · cases h
  case buildSlice t n ps =>
    split at h
    · split at h
      · split at h
        · split at h
          · exact halloc h
          · cases h
        · cases h
      · cases h
    · cases h
  case makeSlice t l c =>
    split at h
    · split at h
      · split at h
        · obtain ⟨_, _, h⟩ := bind_some_opt h
          exact halloc h
        · cases h
      · cases h
    · cases h
  case load t p =>
    obtain ⟨_, _, h⟩ := lift_opt h
    rw [aload_nat] at h
    obtain ⟨_, _, h⟩ := bind_some_opt h
    exact hout h
  case store t p v =>
    obtain ⟨p1, _, h⟩ := lift_opt h
    obtain ⟨v1, _, h⟩ := lift_opt h
    have hk : ∀ (r : Row) (g : Nat), some ((s.setRow g r).put odst .undef) = some s1 → ∃ (u : AV) (H : Heap), s1 = (⟨s.env, H⟩ : St).put odst u ∧ ∀ (calm : List Nat) (i : Nat), calmKind calm i (.store t p v) = true → calmNow C calm i ⟨odst, .store t p v, otype, opos, oafter, oguard⟩ s = true → RowsIn' s.heap H := fun r g e => by
      cases e
      exact ⟨_, _, rfl, fun _ _ hh _ => by simp [calmKind] at hh⟩
    unfold astore at h
    split at h
    · cases h
    · split at h
      · split at h
        · split at h
          · split at h
            · exact hk _ _ h
            · cases h
          · cases h
        · cases h
      · split at h
        · split at h
          · split at h
            · split at h
              · split at h
                · exact hk _ _ h
                · cases h
              · cases h
            · cases h
          · split at h
            · split at h
              · exact hk _ _ h
              · cases h
            · cases h
          · cases h
        · cases h
  case nilCheck x =>
    obtain ⟨a, _, h⟩ := lift_opt h
    split at h <;> first | exact hout h | cases h
  case binOp op t x y yt =>
    obtain ⟨_, _, h⟩ := lift_opt h
    obtain ⟨_, _, h⟩ := lift_opt h
    rw [abin_nat] at h
    obtain ⟨_, _, h⟩ := bind_some_opt h
    exact hout h
  case unOp op t x =>
    obtain ⟨_, _, h⟩ := lift_opt h
    rw [aun_nat] at h
    obtain ⟨_, _, h⟩ := bind_some_opt h
    exact hout h
  case convert st dt x =>
    obtain ⟨_, _, h⟩ := lift_opt h
    split at h
    · split at h
      · exact hout h
      · cases h
    · cases h
  case makeFunc fn first caps =>
    cases fn <;> (try simp only at h) <;> (try cases h)
    split at h
    · exact hout h
    · cases h
  case slice t x lo hi mx =>
    cases mx with
    | some m => cases h
    | none =>
      simp only at h
      split at h
      · rw [aslice_nat] at h
        obtain ⟨_, _, h⟩ := bind_some_opt h
        exact hout h
      · cases h
  case fieldAddr t x f =>
    obtain ⟨_, _, h⟩ := lift_opt h
    rw [afieldAddr_nat] at h
    obtain ⟨_, _, h⟩ := bind_some_opt h
    exact hout h
  case field t x f =>
    obtain ⟨_, _, h⟩ := lift_opt h
    rw [afield_nat] at h
    obtain ⟨_, _, h⟩ := bind_some_opt h
    exact hout h
  case indexAddr t x i =>
    obtain ⟨_, _, h⟩ := lift_opt h
    obtain ⟨_, _, h⟩ := lift_opt h
    rw [aindexAddr_nat] at h
    obtain ⟨_, _, h⟩ := bind_some_opt h
    exact hout h
  case index t x i =>
    split at h
    · split at h
      · obtain ⟨_, _, h⟩ := bind_some_opt h
        exact hout h
      · cases h
    · cases h
  case extract x i =>
    obtain ⟨_, _, h⟩ := lift_opt h
    split at h
    · obtain ⟨_, _, h⟩ := lift_opt h
      exact hout h
    · cases h
  case call c =>
    obtain ⟨callee, cargs, ctypes⟩ := c
    cases callee <;> (try simp only at h) <;> (try cases h)
    case value f =>
      obtain ⟨f1, hf, h⟩ := lift_opt h
      split at h
      · rename_i g first caps
        split at h
        · rename_i args hargs
          unfold acall at h
          split at h
          · cases h
          · rename_i avs havs
            simp only at h
            generalize hre : reach s.heap (s.heap.length + 1) 0 (addNew [] (idsL avs)) = ids at h
            split at h
            · rename_i hchk
              simp only [Bool.and_eq_true] at hchk
              obtain ⟨x, hx, h⟩ := bind_some_opt h
              split at h
              · rename_i hchk2
                simp only [Bool.and_eq_true, decide_eq_true_eq] at hchk2
                cases h
                refine ⟨_, _, rfl, fun calm i hc hn => ?_⟩
                simp only [calmKind] at hc
                simp only [calmNow, hc, Bool.not_true, Bool.false_or] at hn
                have hids : idsL avs = [] := by
                  simp only [callIds, hf, hargs, havs] at hn
                  simpa using hn
                have hnil : ids = [] := by
                  rw [← hre, hids]
                  simp [addNew, reach]
                subst hnil
                intro g r hg
                rw [putRows_miss]
                · exact hg
                · intro j r' hj e
                  have hjl := (List.getElem?_eq_some_iff.1 hj).1
                  have h1 := fresh_get hchk.2 (j := j) (by have := hchk2.1.1; simp only [List.length_nil] at this; omega)
                  simp [backTo] at e
                  rw [e, hg] at h1
                  simp at h1
              · cases h
            · cases h
        · cases h
      · cases h
    case builtin b =>
      cases b <;> (try simp only at h) <;> (try cases h)
      case len =>
        split at h
        · obtain ⟨x1, hx, h⟩ := lift_opt h
          split at h
          · split at h
            · cases h
            · cases h
            · obtain ⟨_, _, h⟩ := lift_opt h
              exact hout h
            · obtain ⟨_, _, h⟩ := lift_opt h
              exact hout h
            · cases h
          · cases h
        · cases h
      case append => exact absurd hap (by simp [isAppend])
      case max =>
        split at h
        · obtain ⟨_, _, h⟩ := lift_opt h
          exact hout h
        · cases h
      case min =>
        split at h
        · obtain ⟨_, _, h⟩ := lift_opt h
          exact hout h
        · cases h
  all_goals cases h

end Go.Rv
