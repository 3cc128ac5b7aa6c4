/-
  What is drawn: it is there, and lies within its bounds. Conditions: none.
-/
import Derived.Test.YtiokdplogigiaaaMa
import Derived.Test.YtiokdplogigiaaaGN
set_option linter.unusedVariables false
set_option linter.unusedSimpArgs false
namespace Go.Rv

theorem nloop_ex {σ ω : Type} {body : σ → Option (σ ⊕ ω)} (I : σ → Prop) (μ : σ → Nat) (Q : ω → Prop)
    (h : ∀ s, I s → (∃ s', body s = some (.inl s') ∧ I s' ∧ μ s' < μ s) ∨ (∃ o, body s = some (.inr o) ∧ Q o)) : ∀ (n : Nat) (s : σ), I s → μ s < n → ∃ o, nloop body n s = some o ∧ Q o
  | 0, s, _, hn => by omega
  | n + 1, s, hi, hn => by
    rcases h s hi with ⟨s', hb, hi', hm⟩ | ⟨o, hb, hq⟩
    · simp only [nloop, hb, Option.bind_some]
      exact nloop_ex I μ Q h n s' hi' (by omega)
    · simp only [nloop, hb, Option.bind_some]
      exact ⟨o, rfl, hq⟩

/-- Bytes. -/
structure Bytes (b : List Int) : Prop where
  rng : ∀ x ∈ b, 0 ≤ x ∧ x ≤ 255
  len : b.length ≤ 2000

theorem rem_ok {a b : Int} (h : 1 ≤ b) (ha : 0 ≤ a) : ∃ v, rem a b = some v ∧ 0 ≤ v ∧ v < b := by
  refine ⟨a.tmod b, by simp [rem]; omega, ?_, ?_⟩
  · exact Int.tmod_nonneg _ ha
  · exact Int.tmod_lt_of_pos _ (by omega)

theorem idx_ok {b : List Int} {i : Int} (h0 : 0 ≤ i) (h1 : i < b.length) : ∃ v, idx b i = some v ∧ v ∈ b := by
  have : i.toNat < b.length := by omega
  exact ⟨b[i.toNat], by simp [idx, h0, this], List.getElem_mem _⟩

theorem quo_ok {a b : Int} (h : 1 ≤ b) (ha : 0 ≤ a) (hm : a ≤ 9223372036854775807) : ∃ v, quo .i64 a b = some v ∧ 0 ≤ v ∧ v ≤ a := by
  have h1 : 0 ≤ a.tdiv b := Int.tdiv_nonneg ha (by omega)
  have h2 : a.tdiv b ≤ a := Int.tdiv_le_self _ ha
  refine ⟨a.tdiv b, ?_, h1, h2⟩
  simp only [quo]
  rw [if_neg (by omega), wrap64 (by omega) (by omega)]

theorem ixor_ok {a b : Int} (ha : 0 ≤ a) (ha2 : a < 9223372036854775808) (hb : 0 ≤ b) (hb2 : b < 9223372036854775808) : 0 ≤ ixor .i64 a b := by
  have e : (BitVec.ofInt 64 a ^^^ BitVec.ofInt 64 b).toNat < 9223372036854775808 := by
    rw [BitVec.toNat_xor]
    have h1 : (BitVec.ofInt 64 a).toNat < 2 ^ 63 := by
      rw [BitVec.toNat_ofInt]; omega
    have h2 : (BitVec.ofInt 64 b).toNat < 2 ^ 63 := by
      rw [BitVec.toNat_ofInt]; omega
    exact Nat.xor_lt_two_pow h1 h2
  unfold ixor
  have : IntKind.bits .i64 = 64 := rfl
  show 0 ≤ IntKind.wrap .i64 ((BitVec.ofInt 64 a ^^^ BitVec.ofInt 64 b).toNat : Int)
  rw [wrap64 (by omega) (by omega)]
  omega

theorem mixw {x1 x2 p q : Int} (h1 : 0 ≤ x1 ∧ x1 ≤ 255) (h2 : 0 ≤ x2 ∧ x2 ≤ 255) (hp : 0 ≤ p) (hp2 : p ≤ 1000000000) (qa : 0 ≤ q) (qb : q ≤ p) :
    IntKind.wrap .i64 (IntKind.wrap .i64 (IntKind.wrap .i64 (IntKind.wrap .i64 (IntKind.wrap .i64 x1 * 131) + IntKind.wrap .i64 (IntKind.wrap .i64 x2 * 1117)) + IntKind.wrap .i64 (p * 29)) + IntKind.wrap .i64 (q * 53)) = x1 * 131 + x2 * 1117 + p * 29 + q * 53 := by
  rw [wrap64 (x := x1) (by omega) (by omega), wrap64 (x := x1 * 131) (by omega) (by omega), wrap64 (x := x2) (by omega) (by omega), wrap64 (x := x2 * 1117) (by omega) (by omega),
      wrap64 (x := x1 * 131 + x2 * 1117) (by omega) (by omega), wrap64 (x := p * 29) (by omega) (by omega), wrap64 (x := x1 * 131 + x2 * 1117 + p * 29) (by omega) (by omega), wrap64 (x := q * 53) (by omega) (by omega),
      wrap64 (x := x1 * 131 + x2 * 1117 + p * 29 + q * 53) (by omega) (by omega)]
theorem mixb {x1 x2 p q : Int} (h1 : 0 ≤ x1 ∧ x1 ≤ 255) (h2 : 0 ≤ x2 ∧ x2 ≤ 255) (hp : 0 ≤ p) (hp2 : p ≤ 1000000000) (qa : 0 ≤ q) (qb : q ≤ p) :
    0 ≤ x1 * 131 + x2 * 1117 + p * 29 + q * 53 ∧ x1 * 131 + x2 * 1117 + p * 29 + q * 53 ≤ 1000000000000 := by omega

theorem bindO {α β : Type} {o : Option α} {a : α} {f : α → Option β} {K : β → Prop} (h : o = some a) (hk : ∃ r, f a = some r ∧ K r) : ∃ r, o.bind f = some r ∧ K r := by
  subst h; exact hk

theorem pick_far {b : List Int} (hb : Bytes b) {n : Int} (hn : 1 ≤ n) {p : Int} (hp : 0 ≤ p) (hp2 : p ≤ 1000000000) (h3 : ((b.length : Nat) : Int) ≤ p) (hl : 1 ≤ b.length) (K : Int × Int → Prop) (hK : ∀ v, 0 ≤ v → v < n → K (v, p + 1)) :
    ∃ r, ((rem p ((b.length : Nat) : Int)).bind fun (v171 : Int) => (idx b v171).bind fun (v172 : Int) => (rem (IntKind.wrap .i64 ((IntKind.wrap .i64 (p * 7)) + 3)) ((b.length : Nat) : Int)).bind fun (v178 : Int) => (idx b v178).bind fun (v179 : Int) => (quo .i64 p ((b.length : Nat) : Int)).bind fun (v186 : Int) => (quo .i64 (IntKind.wrap .i64 ((IntKind.wrap .i64 ((IntKind.wrap .i64 ((IntKind.wrap .i64 ((IntKind.wrap .i64 v172) * 131)) + (IntKind.wrap .i64 ((IntKind.wrap .i64 v179) * 1117)))) + (IntKind.wrap .i64 (p * 29)))) + (IntKind.wrap .i64 (v186 * 53)))) 64).bind fun (v189 : Int) =>
      (rem (ixor .i64 (IntKind.wrap .i64 ((IntKind.wrap .i64 ((IntKind.wrap .i64 ((IntKind.wrap .i64 ((IntKind.wrap .i64 v172) * 131)) + (IntKind.wrap .i64 ((IntKind.wrap .i64 v179) * 1117)))) + (IntKind.wrap .i64 (p * 29)))) + (IntKind.wrap .i64 (v186 * 53)))) v189) n).bind fun (v191 : Int) => some (v191, p + 1)) = some r ∧ K r := by
  obtain ⟨i1, e1, i1a, i1b⟩ := rem_ok (a := p) (b := b.length) (by omega) hp
  refine bindO e1 ?_
  obtain ⟨x1, ex1, hm1⟩ := idx_ok i1a i1b
  have hr1 := hb.rng x1 hm1
  refine bindO ex1 ?_
  obtain ⟨i2, e3, i2a, i2b⟩ := rem_ok (a := p * 7 + 3) (b := b.length) (by omega) (by omega)
  have e3' : rem (IntKind.wrap .i64 ((IntKind.wrap .i64 (p * 7)) + 3)) ((b.length : Nat) : Int) = some i2 := by
    rw [wrap64 (x := p * 7) (by omega) (by omega), wrap64 (x := p * 7 + 3) (by omega) (by omega)]; exact e3
  refine bindO e3' ?_
  obtain ⟨x2, ex2, hm2⟩ := idx_ok i2a i2b
  have hr2 := hb.rng x2 hm2
  refine bindO ex2 ?_
  obtain ⟨q, eq, qa, qb⟩ := quo_ok (a := p) (b := b.length) (by omega) hp (by omega)
  refine bindO eq ?_
  rw [mixw hr1 hr2 hp hp2 qa qb]
  obtain ⟨hX0, hX1⟩ := mixb hr1 hr2 hp hp2 qa qb
  generalize x1 * 131 + x2 * 1117 + p * 29 + q * 53 = X at hX0 hX1 ⊢
  obtain ⟨y, ey, ya, yb⟩ := quo_ok (a := X) (b := 64) (by omega) hX0 (by omega)
  refine bindO ey ?_
  obtain ⟨v, hv, h4, h5⟩ := rem_ok (b := n) (by omega) (ixor_ok hX0 (by omega) ya (by omega))
  refine bindO hv ?_
  exact ⟨_, rfl, hK v h4 h5⟩

theorem pick_ok {b : List Int} (hb : Bytes b) (n : Int) (hn : n ≤ 1000000) {p : Int} (hp : 0 ≤ p) (hp2 : p ≤ 1000000000) :
    ∃ v, spec_l20Rd_pick n b p = some (v, p + 1) ∧ 0 ≤ v ∧ (1 ≤ n → v < n) ∧ (n < 1 → v = 0) := by
  suffices H : ∃ r, spec_l20Rd_pick n b p = some r ∧ (r.2 = p + 1 ∧ 0 ≤ r.1 ∧ (1 ≤ n → r.1 < n) ∧ (n < 1 → r.1 = 0)) by
    obtain ⟨⟨v, q⟩, h1, h2, h3⟩ := H
    simp only at h2
    subst h2
    exact ⟨v, h1, h3⟩
  unfold spec_l20Rd_pick spec_l20Rd_pick_n1
  have hlen := hb.len
  rw [wrap64 (x := p + 1) (by omega) (by omega), show p + 1 - 1 = p by omega, wrap64 (x := p) (by omega) (by omega)]
  by_cases h1 : n < 1
  · rw [decide_eq_true h1]
    exact ⟨_, rfl, rfl, Int.le_refl _, fun h => by omega, fun _ => rfl⟩
  rw [decide_eq_false h1]
  by_cases h2 : b.length = 0
  · have e0 : ((((b.length : Nat) : Int)) == 0) = true := by simp; exact List.eq_nil_of_length_eq_zero h2
    rw [e0]
    exact ⟨_, rfl, rfl, Int.le_refl _, fun h => by show (0 : Int) < n; omega, fun _ => rfl⟩
  have e2 : ((((b.length : Nat) : Int)) == 0) = false := by simp; intro e; subst e; simp at h2
  rw [e2]
  by_cases h3 : p < ((b.length : Nat) : Int)
  · rw [decide_eq_true h3]
    obtain ⟨x, hx, hm⟩ := idx_ok hp h3
    have hr := hb.rng x hm
    simp only [cond_true, cond_false]
    refine bindO hx ?_
    obtain ⟨v, hv, h4, h5⟩ := rem_ok (b := n) (by omega) hr.1
    refine bindO (a := v) (by rw [wrap64 (x := x) (by omega) (by omega)]; exact hv) ?_
    exact ⟨_, rfl, rfl, h4, fun _ => h5, fun h => by omega⟩
  · rw [decide_eq_false h3]
    simp only [cond_false]
    exact pick_far hb (by omega) hp hp2 (by omega) (by omega) _ (fun v h4 h5 => ⟨rfl, h4, fun _ => h5, fun h => by omega⟩)

theorem odd_ok {b : List Int} (hb : Bytes b) (n : Int) (hn : n ≤ 1000000) {p : Int} (hp : 0 ≤ p) (hp2 : p ≤ 1000000000) :
    ∃ (v : Bool) (q : Int), spec_l20Rd_odd n b p = some (v, q) ∧ p ≤ q ∧ q ≤ p + 1 := by
  unfold spec_l20Rd_odd spec_l20Rd_odd_n1
  by_cases h : n > 0
  · obtain ⟨v, hv, _⟩ := pick_ok hb n hn hp hp2
    rw [decide_eq_true h, hv]
    exact ⟨_, _, rfl, by show p ≤ p + 1; omega, by show p + 1 ≤ p + 1; omega⟩
  · rw [decide_eq_false h]
    exact ⟨_, _, rfl, by omega, by omega⟩

theorem open_ok (x : List Int) (w : ∀ n ∈ x, (Lit.int .u8 n).wf = true) (l : x.length ≤ maxLen) : ∃ b, spec_l20Open x = some b ∧ Bytes b := by
  have hr : ∀ n ∈ x, 0 ≤ n ∧ n ≤ 255 := fun n hn => by
    have := w n hn
    simp only [Lit.wf, Bool.and_eq_true, decide_eq_true_eq] at this
    have e1 : IntKind.u8.min = 0 := rfl
    have e2 : IntKind.u8.max = 255 := rfl
    omega
  unfold spec_l20Open spec_l20Open_n1
  by_cases h : ((x.length : Nat) : Int) > 2000
  · rw [decide_eq_true h]
    have : inc 2000 x.length = some 2000 := by simp only [inc]; rw [if_pos (by omega)]; rfl
    rw [this]
    exact ⟨_, rfl, ⟨fun n hn => hr n (List.mem_of_mem_take (List.mem_of_mem_drop hn)), by simp; omega⟩⟩
  · rw [decide_eq_false h]
    exact ⟨x, rfl, ⟨hr, by omega⟩⟩

theorem inc_ok {i : Int} {n : Nat} (h0 : 0 ≤ i) (h1 : i ≤ n) : inc i n = some i.toNat := by simp only [inc]; rw [if_pos ⟨h0, h1⟩]
theorem inb_ok {i : Int} {n : Nat} (h0 : 0 ≤ i) (h1 : i < n) : inb i n = some i.toNat := by simp only [inb]; rw [if_pos ⟨h0, h1⟩]

/-- A number put into a row. -/
theorem ins_step {o : List Int} {i : Nat} {x : Int} (hi : i ≤ o.length) (hl : o.length ≤ 1000) :
    (room ((List.length ([] : List Int)) + List.length ((o.drop 0).take (i - 0)))) = some () ∧ room ((List.length (([] : List Int) ++ ((o.drop 0).take (i - 0)))) + List.length ([x])) = some () ∧
    room ((List.length ((([] : List Int) ++ ((o.drop 0).take (i - 0))) ++ ([x]))) + List.length ((o.drop i).take ((List.length o) - i))) = some () ∧
    (((([] : List Int) ++ ((o.drop 0).take (i - 0))) ++ ([x])) ++ ((o.drop i).take ((List.length o) - i))) = o.take i ++ [x] ++ o.drop i := by
  refine ⟨by rw [room_le]; simp; omega, by rw [room_le]; simp; omega, by rw [room_le]; simp; omega, ?_⟩
  simp only [List.nil_append, List.drop_zero, Nat.sub_zero]
  rw [List.take_of_length_le (l := o.drop i) (by simp)]

end Go.Rv
