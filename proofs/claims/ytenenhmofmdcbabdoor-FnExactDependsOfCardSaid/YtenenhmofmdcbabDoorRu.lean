/-
  What an argument shows, and that it shows it still behind the call. Conditions: none.
-/
import Derived.Test.YtenenhmofmdcbabDoorRt
import Derived.WideKeyArgs
import Derived.ChangeSlices
import Derived.WideShapes
set_option linter.unusedSimpArgs false
set_option linter.unusedVariables false
namespace Go.Rv
open Go.RowKit Go.ChangeShapes Go.WideShapes

section
variable {H : Type} {enc : TypeId × Value → H} {P : Program} {W : World}

abbrev S0 (W : World) : Nat → Prop := dst (fun _ => True) W (fun _ => none) []

theorem S0_of {b : Nat} (h : b < W.heap.size) : S0 W b := ⟨trivial, h, fun g r p hg => by simp at hg⟩

theorem cell_lt {a : Addr} {v : Value} (h : W.cell? a = some v) : a.block < W.heap.size := by
  unfold World.cell? at h
  cases hb : W.heap[a.block]? with
  | none => rw [hb] at h; simp at h
  | some o => exact (Array.getElem?_eq_some_iff.1 hb).1

/-- A slice of numbers, as a datum. -/
theorem av_ints {t e : TypeId} {k : IntKind} {r : Reach} {b0 : Nat} {v : Value} {d : DataW H} {ps : List MemPlace} (ht : P.underlying t = some (.slice e)) (he : P.underlying e = some (.int k)) (hc : P.cellsOf e = 1)
    (hval : Value.okWide P W r b0 t v) (hd : DataW.Trod enc P W 0 (fun _ => true) true t v d ps) :
    ∃ xs : List Int, (∀ n ∈ xs, (Lit.int k n).wf = true) ∧ xs.length ≤ maxLen ∧ ∀ σ, AVRep W (S0 W) σ (.dat (.list (.int k)) xs) v := by
  obtain ⟨fuel, hf⟩ := hd
  obtain ⟨a0, len, cap, rfl⟩ := okWide_slice ht hval
  rcases open_ints ht he hc hf with ⟨hcs, hx⟩ | ⟨a, len', cap', zs, hcs, _, hl, hm, hz, hx, hcell, hwz⟩
  · simp [Value.cells] at hcs
    obtain ⟨rfl, rfl, rfl⟩ := hcs
    exact ⟨[], by simp, by simp, fun σ => ⟨none, 0, rfl, by simp, .inl rfl⟩⟩
  · simp [Value.cells] at hcs
    obtain ⟨rfl, rfl, rfl⟩ := hcs
    simp only [if_true] at hz
    refine ⟨zs.take len, fun n hn => hwz n (List.mem_of_mem_take hn), by simp; omega, fun σ => ?_⟩
    have hlen : (zs.take len).length = len := by simp; omega
    refine ⟨some a, cap, by rw [hlen], by rw [hlen]; exact hl, ?_⟩
    by_cases h0 : zs.take len = []
    · exact .inl h0
    · right
      have hpos : 0 < len := by
        rcases Nat.eq_zero_or_pos len with e0 | e0
        · subst e0; simp at h0
        · exact e0
      have hc0 := hcell 0 (by omega)
      obtain ⟨b, o, ar⟩ := a
      have har : ar = none := by
        cases ar with
        | none => rfl
        | some y =>
          simp [World.cell?, Addr.add] at hc0
          split at hc0 <;> cases hc0
      subst har
      refine ⟨b, o, rfl, S0_of (cell_lt hc0), cell_lt hc0, fun i x hx => ?_⟩
      have hil : i < len := by have := (List.getElem?_eq_some_iff.1 hx).1; omega
      refine ⟨[.int k x], rfl, fun j u hj => ?_⟩
      have hj0 : j = 0 := by have := (List.getElem?_eq_some_iff.1 hj).1; simpa using this
      subst hj0
      simp at hj
      subst hj
      have := hcell i (by omega)
      have hxi : zs.getD i 0 = x := by
        rw [List.getElem?_take, if_pos hil] at hx
        simp [List.getD, hx]
      rw [hxi] at this
      simpa [addr_add, Ty.cells] using this

/-- Behind the call the argument reads as it did. -/
theorem stays {t : TypeId} (hl : laidOutB P = true) (hr : P.readableRec t = true) (hrow : t < P.types.size) {W' : World} {sp' : Nat → Bool} {v : Value} {d : DataW H} {ps : List MemPlace}
    (h : DataW.Trod enc P W 0 (fun _ => true) true t v d ps) (hlt : ∀ p ∈ ps, p.block < W.heap.size) (hk : ∀ b, b < W.heap.size → W'.heap[b]? = W.heap[b]?) (hs : ∀ p ∈ ps, sp' p.block = true) :
    DataW.Trod enc P W' 0 sp' true t v d ps := by
  refine WideElems.Trod_stays hl hr hrow h (fun p hp => ?_) hs
  have hb := hk p.block (hlt p hp)
  cases p with
  | cell b off =>
    have hb' : W'.heap[b]? = W.heap[b]? := hb
    simp only [World.sameAt, World.cell?, hb']
  | map b => exact hb

/-- A law's call, by what its native says; the blocks of before are as they were. -/
theorem law_calls' {f : FuncId} {F : Fun} (hS : Sound P f F) {avs : List AV} (hF : (F avs []).run = some (.dat .bool true, [])) {args : List Value} (hg : GlobsOk W (S0 W))
    (ha : AVsRep W (S0 W) (sumOf (fun _ => none) []) avs args) : Calls P f args.toArray W fun e w' => e = .returned (.bool true) ∧ Grown W w' ∧ ∀ b, b < W.heap.size → w'.heap[b]? = W.heap[b]? := by
  have h := hS avs [] _ _ hF (fun _ => True) W args (fun _ => none) (fun _ _ => trivial) ⟨fun h r hr => by simp at hr, fun h h' r r' p p' hr => by simp at hr, fun h r p hr => by simp at hr⟩ hg (fun h hh => by simp at hh) ha
  refine h.mono fun e w' ⟨v, ι', he, hk, _, _, _, hr⟩ => ⟨?_, grown_of hk, fun b hb => hk.block b ⟨hb, fun h' r p hr => by simp at hr⟩⟩
  subst he
  have hv : v = .bool true := by simpa [AVRep, DCells] using hr
  rw [hv]

theorem globs_none (h : ∀ g, gtab g = none) (S : Nat → Prop) : GlobsOk W S := fun g t xs e => by rw [h g] at e; cases e

end
end Go.Rv
