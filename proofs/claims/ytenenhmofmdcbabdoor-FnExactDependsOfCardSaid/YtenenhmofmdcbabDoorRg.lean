/-
  Soundness of the abstract run, a part. Conditions: none.
-/
import Derived.Test.YtenenhmofmdcbabDoorRf
set_option linter.unusedSimpArgs false
set_option linter.unusedVariables false
namespace Go.Rv

section
variable {P : Program} {T : TT} {B : Base} {s : St} {tmps : Array Value} {w : World} {ι : Plc}

theorem sum_of_row {g : Nat} {u : Ty} {xs : List u.den} {q : Sum} (hr : s.heap[g]? = some (some (.seq u xs))) (hq : sumOf ι s.heap g = some q) : q = ⟨ι g, u.cells, xs.length⟩ := by
  have := sumOf_of (ι := ι) hr
  rw [hq] at this
  exact Option.some.inj this

/-- An address into a slice. -/
theorem indexAt_slice {t e : TypeId} {ti ie : TI} (hti : TIOk P t ti) (hk : ti.kind = .slice e) (hie : TIOk P e ie) (b o len cap : Nat) (k : IntKind) (n : Int) (h0 : 0 ≤ n) (h1 : n < (len : Int)) :
    (Instr.indexAt t (.slice (some ⟨b, o, none⟩) len cap) (.int k n)).run P w = .ok (.pointer (some ⟨b, o + n.toNat * ie.size, none⟩)) w := by
  have hu : P.underlying t = some (.slice e) := by have := hti.kind; rw [hk] at this; exact this
  simp [Instr.indexAt, asIntOf, Sem.run_bind, run_underlying hu, h0, h1, run_sizeOf hie, addr_add]

theorem aindexAddr_ok (hT : TOk P T) (hI : Inv B s tmps w ι) {β : Type} {t : TypeId} {x i : AV} {K : AV → Option β} {r : β} (h : aindexAddr (optAlg β) T s t x i K = some r) {vx vi : Value}
    (hx : AVRep w (dst B.D w ι s.heap) (sumOf ι s.heap) x vx) (hi : AVRep w (dst B.D w ι s.heap) (sumOf ι s.heap) i vi) :
    ∃ a v, K a = some r ∧ AVRep w (dst B.D w ι s.heap) (sumOf ι s.heap) a v ∧ (Instr.indexAt t vx vi).run P w = .ok v w := by
  unfold aindexAddr at h
  split at h
  · rename_i k n
    have e := dat_int hi
    subst e
    split at h
    · rename_i ti hti
      have hti := hT t ti hti
      split at h
      · rename_i e hke
        split at h
        · rename_i ie hie
          have hie := hT e ie hie
          simp only [optAlg] at h
          split at h
          · rename_i u xs
            split at h
            · rename_i hc
              cases hx' : idx xs n with
              | none => simp [hx'] at h
              | some y =>
                simp only [hx', Option.bind_some] at h
                unfold idx at hx'
                split at hx'
                · rename_i h0
                  obtain ⟨a, cap, e1, hcap, hr⟩ := hx
                  simp at e1
                  subst e1
                  have hlt : n.toNat < xs.length := (List.getElem?_eq_some_iff.1 hx').1
                  rcases hr with rfl | ⟨b, o, rfl, hS, hbl, hall⟩
                  · simp at hlt
                  · obtain ⟨cs, hd, hh⟩ := hall _ y hx'
                    exact ⟨_, .pointer (some ⟨b, o + n.toNat * ie.size, none⟩), h, ⟨b, o + n.toNat * u.cells, cs, by simp [hc], hS, hbl, hd, hh⟩,
                      indexAt_slice hti hke hie b o xs.length cap k n h0 (by omega)⟩
                · cases hx'
            · cases h
          · rename_i g
            split at h
            · rename_i u xs hrow
              have hr := row_eq hrow
              split at h
              · rename_i hc
                obtain ⟨q, hq, hw⟩ := hx
                have hq' := sum_of_row hr hq
                subst hq'
                unfold inb at h
                split at h
                · rename_i hn
                  simp only [Option.bind_some] at h
                  unfold WinAt at hw
                  simp only at hw
                  split at hw
                  · rename_i b o c hp
                    obtain ⟨hle, hw⟩ := hw
                    rcases hw with rfl | ⟨hc0, _, _⟩
                    · exact ⟨_, .pointer (some ⟨b, o + n.toNat * ie.size, none⟩), h, ⟨_, b, o, c, hq, hp, by simp; omega, by simp [hc]⟩, by
                        have := indexAt_slice (w := w) hti hke hie b (o + 0 * u.cells) xs.length (c - 0) k n hn.1 hn.2
                        simpa [hc] using this⟩
                    · omega
                  · omega
                · simp at h
              · cases h
            · cases h
          · rename_i g off len
            split at h
            · rename_i u xs hrow
              have hr := row_eq hrow
              split at h
              · rename_i hc
                obtain ⟨q, hq, hwl, hw⟩ := hx
                have hq' := sum_of_row hr hq
                subst hq'
                unfold inb at h
                split at h
                · rename_i hn
                  simp only [Option.bind_some] at h
                  unfold WinAt at hw
                  simp only at hw
                  split at hw
                  · rename_i b o c hp
                    obtain ⟨hle, hw⟩ := hw
                    rcases hw with rfl | ⟨hc0, _, _⟩
                    · exact ⟨_, .pointer (some ⟨b, o + (off + n.toNat) * ie.size, none⟩), h, ⟨_, b, o, c, hq, hp, by simp at hwl ⊢; omega, by simp [hc]⟩, by
                        have := indexAt_slice (w := w) hti hke hie b (o + off * u.cells) len (c - off) k n hn.1 hn.2
                        simpa [hc, Nat.add_mul, Nat.add_assoc] using this⟩
                    · omega
                  · omega
                · simp at h
              · cases h
            · cases h
          · cases h
        · cases h
      · rename_i c0 e hke
        split at h
        · rename_i ie hie
          have hie := hT e ie hie
          have hu : P.underlying t = some (.array c0 e) := by have := hti.kind; rw [hke] at this; exact this
          simp only [optAlg] at h
          split at h
          · rename_i g
            split at h
            · rename_i u xs hrow
              have hr := row_eq hrow
              split at h
              · rename_i hc
                unfold same inb at h
                split at h
                · rename_i hlen
                  simp only [Option.bind_some] at h
                  split at h
                  · rename_i hn
                    simp only [Option.bind_some] at h
                    obtain ⟨q, b, o, c, hq, hp, rfl⟩ := hx
                    have hq' := sum_of_row hr hq
                    subst hq'
                    exact ⟨_, .pointer (some ⟨b, o + n.toNat * ie.size, none⟩), h, ⟨_, b, o, c, hq, hp, by simp; omega, by simp [hc]⟩, by
                      simp [Instr.indexAt, asIntOf, Sem.run_bind, run_underlying hu, hn.1, hn.2, run_sizeOf hie, addr_add, Instr.sureAddr]⟩
                  · simp at h
                · simp at h
              · cases h
            · cases h
          · rename_i u xs
            split at h
            · rename_i hc
              unfold same idx at h
              split at h
              · rename_i hlen
                simp only [Option.bind_some] at h
                split at h
                · rename_i hn
                  cases hx2 : xs[n.toNat]? with
                  | none => rw [hx2] at h; simp at h
                  | some y =>
                    rw [hx2] at h
                    simp only [Option.bind_some] at h
                    obtain ⟨b, rfl, hS, hlt, hall⟩ := hx
                    obtain ⟨cs, hd, hcs⟩ := hall n.toNat y hx2
                    have hnl : n.toNat < xs.length := (List.getElem?_eq_some_iff.1 hx2).1
                    have hn2 : (n : Int) < (c0 : Int) := (Int.toNat_lt (show (0 : Int) ≤ n from hn)).1 (hlen ▸ hnl)
                    exact ⟨_, .pointer (some ⟨b, n.toNat * ie.size, none⟩), h, ⟨b, n.toNat * ie.size, cs, by simp, hS, hlt, hd, by rw [← hc]; exact hcs⟩, by
                      simp [Instr.indexAt, asIntOf, Sem.run_bind, run_underlying hu, hn, hn2, run_sizeOf hie, addr_add, Instr.sureAddr]⟩
                · simp at h
              · simp at h
            · cases h
          · cases h
        · cases h
      · cases h
    · cases h
  · cases h

/-! Length -/

theorem alen_ok (hI : Inv B s tmps w ι) {x : AV} {n : Nat} (h : alen s x = some n) {vx : Value} (hx : AVRep w (dst B.D w ι s.heap) (sumOf ι s.heap) x vx) :
    (∃ b, x = .dat .str b ∧ vx = .string b ∧ n = b.size) ∨ ((∀ b, x ≠ .dat .str b) ∧ ∃ a c, vx = .slice a n c) := by
  unfold alen at h
  split at h
  · obtain ⟨a, cap, e, _⟩ := hx
    simp at e h
    subst e h
    exact .inr ⟨by simp, _, _, rfl⟩
  · have e := dat_str hx
    simp at h
    subst e h
    exact .inl ⟨_, rfl, rfl, rfl⟩
  · obtain ⟨a, rfl⟩ := hx
    simp at h
    subst h
    exact .inr ⟨by simp, _, _, rfl⟩
  · split at h
    · rename_i u xs hrow
      obtain ⟨q, hq, hw⟩ := hx
      have hq' := sum_of_row (row_eq hrow) hq
      subst hq'
      simp at h
      subst h
      refine .inr ⟨by simp, ?_⟩
      unfold WinAt at hw
      simp only [Row.len] at hw
      split at hw
      · obtain ⟨h1, rfl | ⟨h2, a, rfl⟩⟩ := hw
        · exact ⟨_, _, rfl⟩
        · exact ⟨a, 0, by congr 1; omega⟩
      · obtain ⟨_, h2, a, rfl⟩ := hw
        exact ⟨a, 0, by rw [h2]⟩
    · cases h
  · obtain ⟨q, hq, hl, hw⟩ := hx
    simp at h
    subst h
    refine .inr ⟨by simp, ?_⟩
    unfold WinAt at hw
    split at hw
    · obtain ⟨h1, rfl | ⟨h2, a, rfl⟩⟩ := hw
      · exact ⟨_, _, rfl⟩
      · exact ⟨a, 0, by congr 1; omega⟩
    · obtain ⟨_, h2, a, rfl⟩ := hw
      exact ⟨a, 0, by rw [h2]⟩
  · cases h

end
end Go.Rv
