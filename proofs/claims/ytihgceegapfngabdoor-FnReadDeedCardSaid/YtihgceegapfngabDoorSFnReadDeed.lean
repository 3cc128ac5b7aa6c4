/-
  The law FnReadDeed, in plain words: it is true of every argument. Conditions: what the program's DeedText and ReadDeed say.
-/
import Derived.Test.YtihgceegapfngabDoorHFnReadDeed
set_option linter.unusedVariables false
set_option linter.unusedSimpArgs false
namespace Go.Rv

theorem core_FnReadDeed (hI : ∀ k a b, impl_DeedText k a b = some (deedT k a b)) (hR : ∀ s, s.size ≤ 1048576 → impl_ReadDeed s = some (readI s)) (x : List Int) (w : ∀ n ∈ x, (Lit.int .u8 n).wf = true) (l : x.length ≤ maxLen) : laws_FnReadDeed x = some true := by
  unfold laws_FnReadDeed laws_FnReadDeed_n1
  by_cases c : ((x.length : Nat) : Int) > 1048576
  · rw [decide_eq_true c]
    rfl
  · rw [decide_eq_false c]
    obtain ⟨b, hb, hB⟩ := open_ok x w l
    obtain ⟨q, h, hq, qa, qb, h8⟩ := wild_ok hB 0 (by omega) (p := 0) (by omega) (by omega)
    obtain ⟨s, k, a, d, hs, sa, sb⟩ := deed_ok hB h (by omega) (p := q) (by omega) (by omega)
    obtain ⟨v, hv, _⟩ := pick_ok hB 3 (by omega) (p := s) (by omega) (by omega)
    have ts := deedT_size k a d
    obtain ⟨t, r, ht, _, _, tz⟩ := spoil_ok hB (deedT k a d) (by omega) (p := s + 1) (by omega) (by omega)
    have dr : ∃ u, spec_DrawReadDeed x = some u ∧ u.size ≤ 20 := by
      unfold spec_DrawReadDeed spec_DrawReadDeed_n1
      simp only [hb, hq, hs, hv, specDeed_eq, Option.bind_some]
      cases v == 0 with
      | true => simp only [cond_true, ht, Option.bind_some]; exact ⟨t, rfl, by omega⟩
      | false => exact ⟨_, rfl, by omega⟩
    obtain ⟨u, hu, uz⟩ := dr
    simp only [cond_false, hu, Option.bind_some, hR u (by omega), specRead_eq u (by omega), beq_self_eq_true, Bool.and_true, Bool.not_true, bne_self_eq_false, alive_eq]
    cases g : (readI u).1 with
    | false =>
      have z := read_false g
      simp only [z, Bool.not_false, cond_true, beq_self_eq_true, Bool.and_true]
    | true =>
      have z : readI u = (true, (readI u).2.1, (readI u).2.2.1, (readI u).2.2.2) := by rw [← g]
      obtain ⟨y1, y2⟩ := read_true z
      have sp := read_spaced z
      have ct : cat u (ByteArray.mk #[32]) = some (u ++ spaceW) := catT (by show u.size + 1 ≤ _; omega)
      have us : (u ++ spaceW).size ≤ 1048576 := by rw [ByteArray.size_append]; show u.size + 1 ≤ _; omega
      simp only [Bool.not_true, cond_false, ct, Option.bind_some, hR _ us, hI, y2, seqs_self, cond_true, sp, Bool.not_false]

theorem same_FnReadDeed (x : List Int) (w : ∀ n ∈ x, (Lit.int .u8 n).wf = true) (l : x.length ≤ maxLen) : laws_FnReadDeed x = some true :=
  core_FnReadDeed implDeedText_eq (fun s h => implRead_eq s (by omega)) x w l

end Go.Rv
