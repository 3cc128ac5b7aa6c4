/-
  Plain mathematics of what the law reaches. Conditions: none.
-/
import Derived.Test.YtihgceegapfngaaDoorGFnExactJournalText
set_option linter.unusedVariables false
set_option linter.unusedSimpArgs false
namespace Go.Rv
/-- A loop that counts from a number on: state (k, x), k < n goes on. -/
theorem wrap64 {x : Int} (h1 : -9223372036854775808 ≤ x) (h2 : x ≤ 9223372036854775807) : IntKind.wrap .i64 x = x := by
  simp only [IntKind.wrap, IntKind.bits, IntKind.signed]
  simp
  omega

theorem idx_lt {α : Type} {xs : List α} {k : Nat} (h : k < xs.length) : idx xs (k : Int) = some xs[k] := by simp [idx, h]
theorem inb_nat {k n : Nat} (h : k < n) : inb (k : Int) n = some k := by
  simp only [inb]
  rw [if_pos (by omega)]
  simp
theorem mk_nat {n : Nat} (h : n ≤ 1099511627776) : mk (n : Int) (n : Int) = some n := by
  simp only [mk]
  rw [if_pos (by omega)]
  simp
/-- From a word to the root, with so many steps at most: the root, and how many steps lead to it. -/
def climb (h : List Int) : Nat → Nat → Option (Nat × Nat)
  | 0, _ => none
  | f + 1, w => match h[w - 1]? with
    | none => none
    | some x => if x = 0 then some (w, 0) else (climb h f x.toNat).map fun p => (p.1, p.2 + 1)

def okHead (n : Nat) (x : Int) : Bool := decide (0 ≤ x) && decide (x ≤ n)

def inRange (h : List Int) : Bool := h.all (okHead h.length)

theorem inRange_get {h : List Int} (hr : inRange h = true) {k : Nat} (hk : k < h.length) : 0 ≤ h[k] ∧ h[k] ≤ h.length := by
  have := List.all_eq_true.1 hr h[k] (List.getElem_mem hk)
  simpa [okHead] using this

theorem l1In_eq (a b c : Int) : spec_l1In a b c = some (decide (b ≤ a) && decide (a ≤ c)) := by
  unfold spec_l1In spec_l1In_n1
  by_cases h : a ≥ b
  · have e : decide (a ≥ b) = true := decide_eq_true h
    rw [e]; rfl
  · have e : decide (a ≥ b) = false := decide_eq_false h
    rw [e]; rfl

/-- What a tree is. -/
structure Tree (h : List Int) : Prop where
  pos : 1 ≤ h.length
  le : h.length ≤ 8
  rng : inRange h = true
  one : h.count 0 = 1
  way : ∀ k, k < h.length → (climb h h.length (k + 1)).isSome = true

/-- The head of a word, both from 1 on; 0 for none. -/
def hd (h : List Int) (w : Nat) : Nat := (h.getD (w - 1) 0).toNat

section
variable {h : List Int} (T : Tree h)
include T

theorem Tree.get {w : Nat} (h1 : 1 ≤ w) (h2 : w ≤ h.length) : h[w - 1]? = some ((hd h w : Nat) : Int) := by
  have hk : w - 1 < h.length := by omega
  have := inRange_get T.rng hk
  rw [List.getElem?_eq_getElem hk, hd, List.getD_eq_getElem?_getD, List.getElem?_eq_getElem hk]
  simp only [Option.getD_some, Option.some.injEq]
  omega

end

theorem nloop_to {σ ω : Type} {body : σ → Option (σ ⊕ ω)} (S : Nat → σ) (n : Nat) (w : ω) (hs : ∀ k, k < n → body (S k) = some (.inl (S (k + 1)))) (he : body (S n) = some (.inr w)) :
    ∀ (N : Nat), n < N → nloop body N (S 0) = some w := by
  have key : ∀ (m k N : Nat), k + m = n → m < N → nloop body N (S k) = some w := by
    intro m
    induction m with
    | zero =>
      intro k N hk hN
      obtain ⟨N', rfl⟩ : ∃ N', N = N' + 1 := ⟨N - 1, by omega⟩
      have : k = n := by omega
      subst this
      simp only [nloop, he, Option.bind_some]
    | succ m ih =>
      intro k N hk hN
      obtain ⟨N', rfl⟩ : ∃ N', N = N' + 1 := ⟨N - 1, by omega⟩
      simp only [nloop, hs k (by omega), Option.bind_some]
      exact ih (k + 1) N' (by omega) (by omega)
  intro N hN
  exact key n 0 N (by omega) hN

/-- A word is under another one: from head to head one comes to it. -/
inductive Und (h : List Int) : Nat → Nat → Prop
  | refl {a : Nat} (h1 : 1 ≤ a) (h2 : a ≤ h.length) : Und h a a
  | step {a b : Nat} (h1 : 1 ≤ a) (h2 : a ≤ h.length) (h3 : hd h a ≠ 0) (u : Und h (hd h a) b) : Und h a b

def Betw (a b j : Nat) : Prop := (a < j ∧ j < b) ∨ (b < j ∧ j < a)
/-- What holds of the machine: the next word, the stack from its top, the heads. -/
structure MInv (n i : Nat) (st : List Nat) (h : List Int) : Prop where
  len : h.length = n
  lo : 1 ≤ i
  hi : i ≤ n + 1
  ne : st = [] → i = 1
  dec : st.Pairwise (· > ·)
  rng : ∀ s ∈ st, 1 ≤ s ∧ s < i ∧ hd h s = 0
  num : ∀ x ∈ h, 0 ≤ x ∧ x ≤ (n : Int)
  rank : ∃ (m : Nat) (ρ : Nat → Nat), m + st.length + 1 = i ∧ ∀ w, 1 ≤ w → w < i → w ∉ st → ρ w < m ∧ 1 ≤ hd h w ∧ hd h w < i ∧ (hd h w ∈ st ∨ ρ w < ρ (hd h w))
  near : ∀ j, 1 ≤ j → j < i → ∃ s ∈ st, Und h j s ∧ ∀ t ∈ st, ¬ Betw j s t
  below : ∀ w j, 1 ≤ w → w < i → hd h w ≠ 0 → Betw w (hd h w) j → Und h j (hd h w)

theorem MInv.get {n i : Nat} {st : List Nat} {h : List Int} (M : MInv n i st h) {w : Nat} (w1 : 1 ≤ w) (w2 : w ≤ n) : h[w - 1]? = some ((hd h w : Nat) : Int) := by
  have hl := M.len
  have lt : w - 1 < h.length := by omega
  have := M.num _ (List.getElem_mem lt)
  rw [List.getElem?_eq_getElem lt]
  unfold hd
  rw [List.getD_eq_getElem?_getD, List.getElem?_eq_getElem lt, Option.getD_some]
  congr 1
  omega

def bytesN (mv : ByteArray) : List Nat := mv.data.toList.map fun b => b.toNat
theorem toList_loop (b : ByteArray) : ∀ (n i : Nat) (r : List UInt8), i + n = b.size → ByteArray.toList.loop b i r = r.reverse ++ b.data.toList.drop i
  | 0, i, r, h => by
    have hs : b.size = b.data.toList.length := by rw [Array.length_toList]; rfl
    rw [ByteArray.toList.loop, if_neg (by omega), List.drop_eq_nil_of_le (by omega), List.append_nil]
  | n + 1, i, r, h => by
    have hs : b.size = b.data.toList.length := by rw [Array.length_toList]; rfl
    rw [ByteArray.toList.loop, if_pos (by omega), toList_loop b n (i + 1) _ (by omega), List.reverse_cons, List.append_assoc]
    have e : b.get! i = b.data.toList[i]'(by omega) := by
      have hi : i < b.data.size := by have : b.data.size = b.size := rfl; omega
      show b.data[i]! = _
      rw [getElem!_pos b.data i hi]
      rfl
    rw [e, List.drop_eq_getElem_cons (show i < b.data.toList.length by omega)]
    rfl
theorem toList_data (b : ByteArray) : b.toList = b.data.toList := by
  have := toList_loop b b.size 0 [] (by omega)
  unfold ByteArray.toList
  rw [this]
  rfl

theorem bytesN_inj {a b : ByteArray} (h : bytesN a = bytesN b) : a = b := by
  have h1 : a.data.toList = b.data.toList := by
    unfold bytesN at h
    refine List.map_inj_right (f := fun b : UInt8 => b.toNat) (fun x y e => UInt8.toNat_inj.mp e) |>.mp h
  exact ByteArray.ext (Array.toList_inj.mp h1)
theorem seqs_iff {a b : ByteArray} : seqs a b = true ↔ a = b := by
  unfold seqs
  rw [beq_iff_eq, toList_data, toList_data]
  exact ⟨fun h => ByteArray.ext (Array.toList_inj.mp h), fun h => by rw [h]⟩
theorem seqs_self (a : ByteArray) : seqs a a = true := seqs_iff.mpr rfl
theorem seqs_ne {a b : ByteArray} (h : a ≠ b) : seqs a b = false := by
  rw [Bool.eq_false_iff]
  exact fun x => h (seqs_iff.mp x)

theorem bytesN_app (a b : ByteArray) : bytesN (a ++ b) = bytesN a ++ bytesN b := by
  simp [bytesN, ByteArray.data_append]
theorem bytesN_empty : bytesN ByteArray.empty = [] := rfl
theorem catT {a b : ByteArray} (h : a.size + b.size ≤ 1000000000) : cat a b = some (a ++ b) := by
  unfold cat
  rw [if_pos (by simp only [maxLen]; omega)]

/-- The text of a number. -/
noncomputable def numT (n : Nat) : ByteArray := (spec_l1Number (n : Int)).getD ByteArray.empty
def numChk (n : Nat) : Bool := match spec_l1Number (n : Int) with
  | some t => decide (1 ≤ t.size) && decide (t.size ≤ 2) && (bytesN t).all (fun x => decide (48 ≤ x) && decide (x ≤ 57))
  | none => false
theorem num_tab : ((List.range 100).all numChk) = true := by decide +kernel
theorem num_ok {n : Nat} (h : n < 100) : spec_l1Number (n : Int) = some (numT n) ∧ 1 ≤ (numT n).size ∧ (numT n).size ≤ 2 ∧ (∀ x ∈ bytesN (numT n), 48 ≤ x ∧ x ≤ 57) ∧ True := by
  have h1 := List.all_eq_true.mp num_tab n (List.mem_range.mpr h)
  unfold numChk at h1
  split at h1
  · rename_i t ht
    have e : numT n = t := by unfold numT; rw [ht]; rfl
    simp only [Bool.and_eq_true, decide_eq_true_eq] at h1
    rw [e]
    refine ⟨ht, h1.1.1, h1.1.2, fun x hx => ?_, trivial⟩
    have := List.all_eq_true.mp h1.2 x hx
    simpa using this
  · cases h1
/-- A deed that has a text. -/
def deedB (k a b : Int) : Bool :=
  (k == 0 && decide (0 ≤ a) && decide (a ≤ 99) && decide (0 ≤ b) && decide (b ≤ 99)) || (k == 1 && decide (0 ≤ a) && decide (a ≤ 99) && b == 0) || (decide (2 ≤ k) && decide (k ≤ 5) && a == 0 && b == 0)
/-- Its text. -/
noncomputable def deedT (k a b : Int) : ByteArray := (spec_DeedText k a b).getD ByteArray.empty

def headW : ByteArray := ByteArray.mk #[104, 101, 97, 100, 32]
def addW : ByteArray := ByteArray.mk #[97, 100, 100, 32]
def spaceW : ByteArray := ByteArray.mk #[32]
def wordW (k : Int) : ByteArray := if k = 2 then ByteArray.mk #[100, 114, 111, 112] else if k = 3 then ByteArray.mk #[116, 117, 114, 110] else if k = 4 then ByteArray.mk #[102, 108, 97, 116] else ByteArray.mk #[98, 97, 99, 107]

theorem deed_some (k a b : Int) : ∃ t, spec_DeedText k a b = some t ∧ (deedB k a b = false → t = ByteArray.empty) ∧
    (∀ n m : Nat, n < 100 → m < 100 → k = 0 → a = (n : Int) → b = (m : Int) → t = headW ++ numT n ++ spaceW ++ numT m) ∧
    (∀ n : Nat, n < 100 → k = 1 → a = (n : Int) → b = 0 → t = addW ++ numT n) ∧ (2 ≤ k → k ≤ 5 → a = 0 → b = 0 → t = wordW k) := by
  have e : spec_DeedText k a b = spec_DeedText_n12 k a b := by unfold spec_DeedText; rfl
  rw [e]
  unfold spec_DeedText_n12 spec_DeedText_n1 spec_DeedText_n11 spec_DeedText_n9 spec_DeedText_n8 spec_DeedText_n2
  simp only [Option.bind_some]
  by_cases k0 : k = 0
  · subst k0
    rw [l1In_eq, l1In_eq]
    by_cases r : (0 ≤ a ∧ a ≤ 99) ∧ (0 ≤ b ∧ b ≤ 99)
    · obtain ⟨n, rfl⟩ : ∃ n : Nat, a = (n : Int) := ⟨a.toNat, by omega⟩
      obtain ⟨m, rfl⟩ : ∃ m : Nat, b = (m : Int) := ⟨b.toNat, by omega⟩
      obtain ⟨n1, n2, n3, _⟩ := num_ok (n := n) (by omega)
      obtain ⟨m1, m2, m3, _⟩ := num_ok (n := m) (by omega)
      refine ⟨headW ++ numT n ++ spaceW ++ numT m, ?_, fun f => ?_, fun n' m' _ _ _ ea eb => ?_, fun _ _ h => by omega, fun h => by omega⟩
      · simp only [beq_self_eq_true, cond_true, Option.bind_some]
        rw [decide_eq_true r.1.1, decide_eq_true r.1.2, decide_eq_true r.2.1, decide_eq_true r.2.2]
        simp only [Bool.and_self, cond_true, Option.bind_some]
        unfold spec_DeedText_n7 spec_DeedText_n3
        have s1 : (headW ++ numT n).size ≤ 7 := by rw [ByteArray.size_append]; show 5 + _ ≤ 7; omega
        have s2 : (headW ++ numT n ++ spaceW).size ≤ 8 := by rw [ByteArray.size_append]; show _ + 1 ≤ 8; omega
        rw [n1, m1]
        simp only [Option.bind_some]
        rw [show cat (ByteArray.mk #[104, 101, 97, 100, 32]) (numT n) = some (headW ++ numT n) from catT (by show 5 + _ ≤ _; omega)]
        simp only [Option.bind_some]
        rw [show cat (headW ++ numT n) (ByteArray.mk #[32]) = some (headW ++ numT n ++ spaceW) from catT (by show _ + 1 ≤ _; omega)]
        simp only [Option.bind_some]
        rw [catT (by omega)]
        rfl
      · simp [deedB, r] at f
      · have h1 : n' = n := by omega
        have h2 : m' = m := by omega
        rw [h1, h2]
    · refine ⟨ByteArray.empty, ?_, fun _ => rfl, fun n' m' _ _ _ ea eb => absurd ⟨⟨by omega, by omega⟩, by omega, by omega⟩ r, fun _ _ h => by omega, fun h => by omega⟩
      simp only [beq_self_eq_true, cond_true, Option.bind_some]
      have f : (cond (decide (0 ≤ a) && decide (a ≤ 99)) (some (decide (0 ≤ b) && decide (b ≤ 99))) (some false)) = some false := by
        by_cases q : 0 ≤ a ∧ a ≤ 99
        · rw [decide_eq_true q.1, decide_eq_true q.2]
          simp only [Bool.and_self, cond_true]
          congr 1
          rw [Bool.eq_false_iff]
          intro x
          simp only [Bool.and_eq_true, decide_eq_true_eq] at x
          exact r ⟨q, x⟩
        · have : (decide (0 ≤ a) && decide (a ≤ 99)) = false := by
            rw [Bool.eq_false_iff]
            intro x
            simp only [Bool.and_eq_true, decide_eq_true_eq] at x
            exact q x
          rw [this]
          rfl
      rw [f]
      rfl
  · rw [beq_eq_false_iff_ne.mpr k0]
    simp only [cond_false, Option.bind_some]
    unfold spec_DeedText_n7 spec_DeedText_n6 spec_DeedText_n4
    simp only [cond_false]
    by_cases k1 : k = 1
    · subst k1
      rw [l1In_eq]
      by_cases r : (0 ≤ a ∧ a ≤ 99) ∧ b = 0
      · obtain ⟨n, rfl⟩ : ∃ n : Nat, a = (n : Int) := ⟨a.toNat, by omega⟩
        obtain ⟨n1, n2, n3, _⟩ := num_ok (n := n) (by omega)
        refine ⟨addW ++ numT n, ?_, fun f => ?_, fun _ _ _ _ h => by omega, fun n' _ _ ea _ => ?_, fun h => by omega⟩
        · simp only [beq_self_eq_true, cond_true, Option.bind_some]
          rw [decide_eq_true r.1.1, decide_eq_true r.1.2, r.2]
          simp only [Bool.and_self, cond_true, beq_self_eq_true, Option.bind_some]
          unfold spec_DeedText_n5
          simp only [cond_true]
          rw [n1]
          simp only [Option.bind_some]
          rw [show cat (ByteArray.mk #[97, 100, 100, 32]) (numT n) = some (addW ++ numT n) from catT (by show 4 + _ ≤ _; omega)]
          rfl
        · simp [deedB, r] at f
        · have h1 : n' = n := by omega
          rw [h1]
      · refine ⟨ByteArray.empty, ?_, fun _ => rfl, fun _ _ _ _ h => by omega, fun n' _ _ ea eb => absurd ⟨⟨by omega, by omega⟩, eb⟩ r, fun h => by omega⟩
        simp only [beq_self_eq_true, cond_true, Option.bind_some]
        have f : (cond (decide (0 ≤ a) && decide (a ≤ 99)) (some (b == 0)) (some false)) = some false := by
          by_cases q : 0 ≤ a ∧ a ≤ 99
          · rw [decide_eq_true q.1, decide_eq_true q.2]
            simp only [Bool.and_self, cond_true]
            congr 1
            rw [beq_eq_false_iff_ne]
            exact fun x => r ⟨q, x⟩
          · have : (decide (0 ≤ a) && decide (a ≤ 99)) = false := by
              rw [Bool.eq_false_iff]
              intro x
              simp only [Bool.and_eq_true, decide_eq_true_eq] at x
              exact q x
            rw [this]
            rfl
        rw [f]
        rfl
    · rw [beq_eq_false_iff_ne.mpr k1]
      simp only [cond_false, Option.bind_some]
      unfold spec_DeedText_n5
      simp only [cond_false, Bool.and_true]
      by_cases z : a = 0 ∧ b = 0
      · obtain ⟨rfl, rfl⟩ := z
        simp only [beq_self_eq_true, Bool.and_true]
        by_cases k2 : k = 2
        · subst k2
          exact ⟨_, rfl, fun f => by simp [deedB] at f, fun _ _ _ _ h => by omega, fun _ _ h => by omega, fun _ _ _ _ => rfl⟩
        · rw [beq_eq_false_iff_ne.mpr k2]
          by_cases k3 : k = 3
          · subst k3
            exact ⟨_, rfl, fun f => by simp [deedB] at f, fun _ _ _ _ h => by omega, fun _ _ h => by omega, fun _ _ _ _ => rfl⟩
          · rw [beq_eq_false_iff_ne.mpr k3]
            by_cases k4 : k = 4
            · subst k4
              exact ⟨_, rfl, fun f => by simp [deedB] at f, fun _ _ _ _ h => by omega, fun _ _ h => by omega, fun _ _ _ _ => rfl⟩
            · rw [beq_eq_false_iff_ne.mpr k4]
              by_cases k5 : k = 5
              · subst k5
                exact ⟨_, rfl, fun f => by simp [deedB] at f, fun _ _ _ _ h => by omega, fun _ _ h => by omega, fun _ _ _ _ => rfl⟩
              · rw [beq_eq_false_iff_ne.mpr k5]
                exact ⟨_, rfl, fun _ => rfl, fun _ _ _ _ h => by omega, fun _ _ h => by omega, fun _ _ _ _ => by omega⟩
      · have f : ((a == 0) && (b == 0)) = false := by
          rw [Bool.eq_false_iff]
          intro x
          simp only [Bool.and_eq_true, beq_iff_eq] at x
          exact z x
        rw [f]
        simp only [Bool.and_false]
        exact ⟨_, rfl, fun _ => rfl, fun _ _ _ _ h => by omega, fun _ _ h => by omega, fun _ _ ea eb => absurd ⟨ea, eb⟩ z⟩

theorem specDeed_eq (k a b : Int) : spec_DeedText k a b = some (deedT k a b) := by
  obtain ⟨t, h, _⟩ := deed_some k a b
  unfold deedT
  rw [h]
  rfl
theorem deedT_is {k a b : Int} {t : ByteArray} (h : spec_DeedText k a b = some t) : deedT k a b = t := by unfold deedT; rw [h]; rfl
theorem deed_none {k a b : Int} (h : deedB k a b = false) : deedT k a b = ByteArray.empty := by
  obtain ⟨t, h1, h2, _⟩ := deed_some k a b
  rw [deedT_is h1, h2 h]
theorem deed_head {n m : Nat} (hn : n < 100) (hm : m < 100) : deedT 0 (n : Int) (m : Int) = headW ++ numT n ++ spaceW ++ numT m := by
  obtain ⟨t, h1, _, h2, _⟩ := deed_some 0 (n : Int) (m : Int)
  rw [deedT_is h1, h2 n m hn hm rfl rfl rfl]
theorem deed_add {n : Nat} (hn : n < 100) : deedT 1 (n : Int) 0 = addW ++ numT n := by
  obtain ⟨t, h1, _, _, h2, _⟩ := deed_some 1 (n : Int) 0
  rw [deedT_is h1, h2 n hn rfl rfl rfl]
theorem deed_word {k : Int} (h2 : 2 ≤ k) (h5 : k ≤ 5) : deedT k 0 0 = wordW k := by
  obtain ⟨t, h1, _, _, _, h⟩ := deed_some k 0 0
  rw [deedT_is h1, h h2 h5 rfl rfl]

/-- The deeds that have a text, one kind after the other. -/
theorem deedB_cases {k a b : Int} (h : deedB k a b = true) : (∃ n m : Nat, n < 100 ∧ m < 100 ∧ k = 0 ∧ a = (n : Int) ∧ b = (m : Int)) ∨ (∃ n : Nat, n < 100 ∧ k = 1 ∧ a = (n : Int) ∧ b = 0) ∨ (2 ≤ k ∧ k ≤ 5 ∧ a = 0 ∧ b = 0) := by
  unfold deedB at h
  simp only [Bool.or_eq_true, Bool.and_eq_true, beq_iff_eq, decide_eq_true_eq] at h
  rcases h with (h | h) | h
  · exact .inl ⟨a.toNat, b.toNat, by omega, by omega, by omega, by omega, by omega⟩
  · exact .inr (.inl ⟨a.toNat, by omega, by omega, by omega, by omega⟩)
  · exact .inr (.inr ⟨h.1.1.1, h.1.1.2, h.1.2, h.2⟩)

theorem wordW_eq {k : Int} (h2 : 2 ≤ k) (h5 : k ≤ 5) : k = 2 ∨ k = 3 ∨ k = 4 ∨ k = 5 := by omega

theorem deed_size {k a b : Int} (h : deedB k a b = true) : 1 ≤ (deedT k a b).size ∧ (deedT k a b).size ≤ 10 := by
  rcases deedB_cases h with ⟨n, m, hn, hm, rfl, rfl, rfl⟩ | ⟨n, hn, rfl, rfl, rfl⟩ | ⟨h2, h5, rfl, rfl⟩
  · have x := num_ok hn
    have y := num_ok hm
    rw [deed_head hn hm, ByteArray.size_append, ByteArray.size_append, ByteArray.size_append, show headW.size = 5 from rfl, show spaceW.size = 1 from rfl]
    omega
  · have x := num_ok hn
    rw [deed_add hn, ByteArray.size_append, show addW.size = 4 from rfl]
    omega
  · rw [deed_word h2 h5]
    rcases wordW_eq h2 h5 with rfl | rfl | rfl | rfl <;> exact ⟨by decide, by decide⟩
theorem deed_ne {k a b : Int} (h : deedB k a b = true) : deedT k a b ≠ ByteArray.empty := fun e => by
  have := (deed_size h).1
  rw [e] at this
  exact absurd this (by decide)
abbrev DeedL := Int × Int × Int × Unit

def nlW : ByteArray := ByteArray.mk #[10]
noncomputable def textD (d : DeedL) : ByteArray := deedT d.1 d.2.1 d.2.2.1
def validD (d : DeedL) : Bool := deedB d.1 d.2.1 d.2.2.1
/-- The lines of deeds, one after the other. -/
noncomputable def journL : List DeedL → ByteArray
  | [] => ByteArray.empty
  | d :: r => textD d ++ nlW ++ journL r
noncomputable def journT (l : List DeedL) : ByteArray := if l.all validD = true then journL l else ByteArray.empty

abbrev jtBody (l : List DeedL) : ByteArray × Int → Option ((ByteArray × Int) ⊕ (ByteArray ⊕ ByteArray)) :=
  fun (s : ByteArray × Int) => ((spec_JournalText_n3 l s.1 s.2).map (Sum.elim (fun (t : ByteArray × Int) => Sum.inl (t.1, t.2)) (Sum.elim (fun (t : ByteArray) => Sum.inr (Sum.inl t)) (fun (t : ByteArray) => Sum.inr (Sum.inr t)))) : Option ((ByteArray × Int) ⊕ (ByteArray ⊕ ByteArray)))

theorem jt_loop (l : List DeedL) (hl : l.length ≤ 2000000) : ∀ (r k N : Nat) (out : ByteArray), k + r = l.length → r < N → out.size ≤ 11 * k →
    nloop (jtBody l) N (out, (k : Int)) = some (if (l.drop k).all validD = true then .inr (out ++ journL (l.drop k)) else .inl ByteArray.empty)
  | r, k, 0, out, _, h, _ => by omega
  | 0, k, N + 1, out, hk, _, _ => by
    have e : k = l.length := by omega
    subst e
    rw [nloop]
    simp only [jtBody, spec_JournalText_n3]
    rw [decide_eq_false (show ¬ ((l.length : Nat) : Int) < ((l.length : Nat) : Int) by omega), List.drop_length]
    simp only [cond_false, Option.map_some, Sum.elim_inr, Option.bind_some, List.all_nil, if_true, journL]
    rw [ByteArray.append_empty]
  | r + 1, k, N + 1, out, hk, hN, ho => by
    have hkl : k < l.length := by omega
    have g : idx l (k : Int) = some l[k] := by unfold idx; rw [if_pos (by omega), Int.toNat_natCast, List.getElem?_eq_getElem hkl]
    have w : IntKind.wrap .i64 ((k : Int) + 1) = ((k + 1 : Nat) : Int) := by rw [wrap64 (by omega) (by omega)]; omega
    have dr : l.drop k = l[k] :: l.drop (k + 1) := List.drop_eq_getElem_cons hkl
    rw [nloop, dr, List.all_cons]
    cases v : validD l[k] with
    | false =>
      have e : deedT l[k].1 l[k].2.1 l[k].2.2.1 = ByteArray.empty := deed_none v
      simp only [jtBody, spec_JournalText_n3]
      rw [decide_eq_true (show (k : Int) < ((l.length : Nat) : Int) by omega), g]
      simp only [cond_true, Option.bind_some, specDeed_eq, e, seqs_self]
      rfl
    | true =>
      have hs := deed_size (k := l[k].1) (a := l[k].2.1) (b := l[k].2.2.1) v
      have ne := deed_ne (k := l[k].1) (a := l[k].2.1) (b := l[k].2.2.1) v
      have s1 : (out ++ textD l[k]).size ≤ 11 * k + 10 := by rw [ByteArray.size_append]; unfold textD; omega
      have st : jtBody l (out, (k : Int)) = some (.inl (out ++ textD l[k] ++ nlW, ((k + 1 : Nat) : Int))) := by
        simp only [jtBody, spec_JournalText_n3]
        rw [decide_eq_true (show (k : Int) < ((l.length : Nat) : Int) by omega), g, w]
        simp only [cond_true, Option.bind_some, specDeed_eq]
        rw [seqs_ne ne]
        simp only [cond_false]
        rw [catT (by omega)]
        simp only [Option.bind_some]
        rw [show cat (out ++ deedT l[k].1 l[k].2.1 l[k].2.2.1) (ByteArray.mk #[10]) = some (out ++ textD l[k] ++ nlW) from catT (by
          have : (out ++ deedT l[k].1 l[k].2.1 l[k].2.2.1).size ≤ 11 * k + 10 := s1
          show _ + 1 ≤ _
          omega)]
        rfl
      rw [st]
      simp only [Option.bind_some, Bool.true_and]
      rw [jt_loop l hl r (k + 1) N _ (by omega) (by omega) (by rw [ByteArray.size_append, show nlW.size = 1 from rfl]; omega), journL, ← ByteArray.append_assoc, ← ByteArray.append_assoc]

theorem specJournal_eq (l : List DeedL) (hl : l.length ≤ 2000000) : spec_JournalText l = some (journT l) := by
  have e : spec_JournalText l = spec_JournalText_n9 l := by unfold spec_JournalText; rfl
  rw [e]
  unfold spec_JournalText_n9 spec_JournalText_n1 spec_JournalText_n8 spec_JournalText_n6 spec_JournalText_n2 spec_JournalText_n5 spec_JournalText_n4 spec_JournalText_n7
  have q := jt_loop l hl l.length 0 LL ByteArray.empty (by omega) (by simp only [LL]; omega) (Nat.zero_le _)
  have q' : nloop (jtBody l) LL (ByteArray.empty, 0) = _ := q
  simp only [Option.bind_some]
  rw [show (nloop _ LL (ByteArray.empty, (0 : Int)) : Option (ByteArray ⊕ ByteArray)) = _ from q', List.drop_zero, ByteArray.empty_append]
  unfold journT
  cases l.all validD <;> rfl

theorem toDeed_eq (k a b : Int) : laws_toDeed k a b = some () := by
  unfold laws_toDeed laws_toDeed_n1
  rfl
theorem toDeedS_eq (l : List DeedL) (h : l.length ≤ 1048576) : laws_toDeedS l = some l := by
  have e : laws_toDeedS l = laws_toDeedS_n9 l := by unfold laws_toDeedS; rfl
  rw [e]
  unfold laws_toDeedS_n9 laws_toDeedS_n1 laws_toDeedS_n8 laws_toDeedS_n6 laws_toDeedS_n2 laws_toDeedS_n5 laws_toDeedS_n4 laws_toDeedS_n7
  rw [mk_nat (by omega)]
  have lp := nloop_to (body := fun (s : Int × (List (Int × Int × Int × Unit))) => ((laws_toDeedS_n3 l s.1 s.2).map (Sum.elim (fun (t : Int × (List (Int × Int × Int × Unit))) => Sum.inl (t.1, t.2)) (fun (t : (List (Int × Int × Int × Unit))) => Sum.inr t)) : Option ((Int × (List (Int × Int × Int × Unit))) ⊕ (((List (Int × Int × Int × Unit)))))))
    (fun k => ((k : Int), l.take k ++ List.replicate (l.length - k) (0, 0, 0, ()))) l.length l
    (by
      intro k hk
      have w : IntKind.wrap .i64 ((k : Int) + 1) = ((k + 1 : Nat) : Int) := by rw [wrap64 (by omega) (by omega)]; omega
      have lt : (l.take k).length = k := by rw [List.length_take]; omega
      have len : (l.take k ++ List.replicate (l.length - k) ((0, 0, 0, ()) : DeedL)).length = l.length := by rw [List.length_append, lt, List.length_replicate]; omega
      simp only [laws_toDeedS_n3]
      rw [decide_eq_true (show (k : Int) < ((l.length : Nat) : Int) by omega), idx_lt hk, w]
      simp only [cond_true, Option.bind_some, toDeed_eq]
      rw [len, inb_nat hk]
      simp only [Option.bind_some]
      rw [List.getElem?_eq_getElem (by rw [len]; exact hk)]
      simp only [Option.bind_some, Option.map_some, Sum.elim_inl]
      congr 3
      rw [List.set_append_right _ _ (by omega), lt, Nat.sub_self, show l.length - k = (l.length - (k + 1)) + 1 by omega, List.replicate_succ, List.set_cons_zero, List.take_add_one, List.getElem?_eq_getElem hk, List.append_assoc]
      rfl)
    (by
      simp only [laws_toDeedS_n3]
      rw [decide_eq_false (show ¬ ((l.length : Nat) : Int) < ((l.length : Nat) : Int) by omega)]
      simp) LL (by simp only [LL]; omega)
  have lp' := lp
  rw [List.take_zero, Nat.sub_zero, List.nil_append, show ((0 : Nat) : Int) = 0 from rfl] at lp'
  simp only [Option.bind_some]
  rw [lp']
  rfl
theorem eqDeedS_refl (l : List DeedL) (h : l.length ≤ 1048576) : laws_eqDeedS l l = some true := by
  have e : laws_eqDeedS l l = laws_eqDeedS_n9 l l := by unfold laws_eqDeedS; rfl
  rw [e]
  unfold laws_eqDeedS_n9 laws_eqDeedS_n1 laws_eqDeedS_n8 laws_eqDeedS_n6 laws_eqDeedS_n2 laws_eqDeedS_n5 laws_eqDeedS_n4 laws_eqDeedS_n7
  have lp := nloop_to (body := fun (s : Int) => ((laws_eqDeedS_n3 l l s).map (Sum.elim (fun (t : Int) => Sum.inl t) (Sum.elim (fun (t : Bool) => Sum.inr (Sum.inl t)) (fun (t : Unit) => Sum.inr (Sum.inr t)))) : Option ((Int) ⊕ (Bool ⊕ Unit))))
    (fun k => (k : Int)) l.length (Sum.inr ())
    (by
      intro k hk
      have w : IntKind.wrap .i64 ((k : Int) + 1) = ((k + 1 : Nat) : Int) := by rw [wrap64 (by omega) (by omega)]; omega
      simp only [laws_eqDeedS_n3]
      rw [decide_eq_true (show (k : Int) < ((l.length : Nat) : Int) by omega), idx_lt hk, w]
      simp [laws_eqDeed, laws_eqDeed_n1])
    (by
      simp only [laws_eqDeedS_n3]
      rw [decide_eq_false (show ¬ ((l.length : Nat) : Int) < ((l.length : Nat) : Int) by omega)]
      rfl) LL (by simp only [LL]; omega)
  have lp' := lp
  rw [show ((0 : Nat) : Int) = 0 from rfl] at lp'
  simp only [bne_self_eq_false, cond_false, Option.bind_some, Sum.elim_inl]
  rw [lp']
  rfl

theorem core_FnExactJournalText (hI : ∀ l, l.length ≤ 1048576 → impl_JournalText l = some (journT l)) (l : List DeedL) (h : l.length ≤ maxLen) : laws_FnExactJournalText l = some true := by
  have mx : maxLen = 9223372036854775807 := rfl
  unfold laws_FnExactJournalText laws_FnExactJournalText_n1
  simp only [laws_szDeedS, laws_szDeedS_n1]
  rw [wrap64 (by omega) (by omega)]
  by_cases c : (1048576 : Int) - ((l.length : Nat) : Int) < 0
  · rw [decide_eq_true c]
    rfl
  · rw [decide_eq_false c]
    have s2 : l.length ≤ 1048576 := by omega
    simp only [cond_false, Option.bind_some, decide_eq_false c, toDeedS_eq l s2, specJournal_eq l (by omega), hI l s2, seqs_self, eqDeedS_refl l s2, Bool.not_true]

def restB (k x y : Int) : Bool := (((k == 0) || (k == 1)) || (x == 0)) && ((k == 0) || (y == 0))
theorem implRest_eq (k x y : Int) : impl_Deed_restOk k x y = some (restB k x y) := by
  unfold impl_Deed_restOk impl_Deed_restOk_n1 impl_numbersIn impl_numbersIn_n1 restB
  cases k == 0 <;> cases k == 1 <;> cases x == 0 <;> cases y == 0 <;> rfl

def ddL (n : Nat) : List UInt8 := if n < 10 then [UInt8.ofNat (48 + n)] else [UInt8.ofNat (48 + n / 10), UInt8.ofNat (48 + n % 10)]
theorem dd_eq {n : Nat} (h : n < 100) : Lib.decDigits n = ddL n := by
  unfold ddL
  rw [Lib.decDigits]
  by_cases c : n < 10
  · rw [dif_pos c, if_pos c]
  · rw [dif_neg c, if_neg c, Lib.decDigits, dif_pos (show n / 10 < 10 by omega)]
    rfl
def numChk2 (n : Nat) : Bool := match spec_l1Number (n : Int) with
  | some t => t.data.toList == ddL n
  | none => false
theorem num_tab2 : ((List.range 100).all numChk2) = true := by decide +kernel
theorem num_itoa {n : Nat} (h : n < 100) : itoaS (n : Int) = some (numT n) := by
  have h1 := List.all_eq_true.mp num_tab2 n (List.mem_range.mpr h)
  unfold numChk2 at h1
  rw [(num_ok h).1] at h1
  simp only [beq_iff_eq] at h1
  unfold itoaS
  rw [if_pos (by omega), Int.toNat_natCast, dd_eq h, ← h1]
theorem inText_eq (k a b : Int) : impl_Deed_inText k a b = some (deedB k a b) := by
  unfold impl_Deed_inText impl_Deed_inText_n1 deedB
  rw [implRest_eq]
  unfold restB
  by_cases k0 : k = 0
  · subst k0
    by_cases a0 : 0 ≤ a <;> by_cases a9 : a ≤ 99 <;> by_cases b0 : 0 ≤ b <;> by_cases b9 : b ≤ 99 <;> simp [a0, a9, b0, b9]
  · have z0 : (k == 0) = false := beq_eq_false_iff_ne.mpr k0
    by_cases k1 : k = 1
    · subst k1
      by_cases b0 : b = 0
      · subst b0
        by_cases a0 : 0 ≤ a <;> by_cases a9 : a ≤ 99 <;> simp [a0, a9]
      · rw [beq_eq_false_iff_ne.mpr b0]
        simp
    · have z1 : (k == 1) = false := beq_eq_false_iff_ne.mpr k1
      rw [z0, z1]
      by_cases k2 : 2 ≤ k ∧ k ≤ 5
      · rw [decide_eq_true (show k ≥ 0 by omega), decide_eq_true (show k < 6 by omega), decide_eq_true k2.1, decide_eq_true k2.2]
        by_cases a0 : a = 0
        · by_cases b0 : b = 0
          · subst a0
            subst b0
            rfl
          · rw [beq_eq_false_iff_ne.mpr b0]
            simp
        · rw [beq_eq_false_iff_ne.mpr a0]
          simp
      · have r : (false && decide (0 ≤ a) && decide (a ≤ 99) && decide (0 ≤ b) && decide (b ≤ 99) || false && decide (0 ≤ a) && decide (a ≤ 99) && b == 0 || decide (2 ≤ k) && decide (k ≤ 5) && a == 0 && b == 0) = false := by
          by_cases c2 : 2 ≤ k
          · rw [decide_eq_false (show ¬ k ≤ 5 from fun h => k2 ⟨c2, h⟩)]
            simp
          · rw [decide_eq_false c2]
            simp
        rw [r]
        by_cases c0 : k ≥ 0
        · rw [decide_eq_true c0, decide_eq_false (show ¬ k < 6 by omega)]
          rfl
        · rw [decide_eq_false c0]
          rfl

theorem nloop_s {σ ω : Type} {body : σ → Option (σ ⊕ ω)} {s s' : σ} (h : body s = some (.inl s')) (N : Nat) : nloop body (N + 1) s = nloop body N s' := by
  rw [nloop, h]
  rfl
theorem nloop_e {σ ω : Type} {body : σ → Option (σ ⊕ ω)} {s : σ} {o : ω} (h : body s = some (.inr o)) (N : Nat) : nloop body (N + 1) s = some o := by
  rw [nloop, h]
  rfl
theorem LL3 : ∃ N, LL = N + 1 + 1 + 1 := ⟨LL - 3, by simp only [LL]⟩

abbrev dtBody (xs : List Int) (n : Int) : ByteArray × Int → Option ((ByteArray × Int) ⊕ ByteArray) :=
  fun (s : ByteArray × Int) => ((impl_DeedText_n3 s.1 xs n s.2).map (Sum.elim (fun (t : ByteArray × Int) => Sum.inl (t.1, t.2)) (fun (t : ByteArray) => Sum.inr t)) : Option ((ByteArray × Int) ⊕ (ByteArray)))

theorem dt_step {t : ByteArray} {xs : List Int} {n : Int} {k m : Nat} (ht : t.size ≤ 1000) (hk : k < xs.length) (h1000 : k < 1000) (hn : (k : Int) < n) (hm : m < 100) (hx : xs[k] = (m : Int)) :
    dtBody xs n (t, (k : Int)) = some (.inl (t ++ (spaceW ++ numT m), ((k + 1 : Nat) : Int))) := by
  obtain ⟨_, n2, n3, _⟩ := num_ok hm
  have w : IntKind.wrap .i64 ((k : Int) + 1) = ((k + 1 : Nat) : Int) := by rw [wrap64 (by omega) (by omega)]; omega
  have s1 : (spaceW ++ numT m).size ≤ 3 := by rw [ByteArray.size_append]; show 1 + _ ≤ 3; omega
  simp only [dtBody, impl_DeedText_n3]
  rw [decide_eq_true hn, idx_lt hk, hx, w]
  simp only [cond_true, Option.bind_some, strconv_Itoa, num_itoa hm]
  rw [show cat (ByteArray.mk #[32]) (numT m) = some (spaceW ++ numT m) from catT (by show 1 + _ ≤ _; omega)]
  simp only [Option.bind_some]
  rw [catT (by omega)]
  rfl
theorem dt_end {t : ByteArray} {xs : List Int} {n k : Int} (hn : ¬ k < n) : dtBody xs n (t, k) = some (.inr t) := by
  simp only [dtBody, impl_DeedText_n3]
  rw [decide_eq_false hn]
  rfl

theorem implDeedText_eq (k a b : Int) : impl_DeedText k a b = some (deedT k a b) := by
  have e : impl_DeedText k a b = impl_DeedText_n9 k a b := by unfold impl_DeedText; rfl
  rw [e]
  unfold impl_DeedText_n9 impl_DeedText_n1
  rw [inText_eq, Option.bind_some]
  cases d : deedB k a b with
  | false => rw [deed_none d]; rfl
  | true =>
    simp only [Bool.not_true, cond_false]
    rcases deedB_cases d with ⟨n, m, hn, hm, rfl, rfl, rfl⟩ | ⟨n, hn, rfl, rfl, rfl⟩ | ⟨h2, h5, rfl, rfl⟩
    · have i : idx tabW 0 = some (ByteArray.mk #[104, 101, 97, 100]) := rfl
      rw [i, show same (List.length tabW) 6 = some () from rfl]
      simp only [Option.bind_some, Sum.elim_inl]
      unfold impl_DeedText_n8 impl_DeedText_n6 impl_DeedText_n2 impl_DeedText_n5 impl_DeedText_n4 impl_DeedText_n7
      have nn : impl_numbersIn 0 = some 2 := by unfold impl_numbersIn; rfl
      rw [nn, Option.bind_some, show inc 2 (List.length [(n : Int), (m : Int)]) = some 2 from rfl]
      simp only [Option.bind_some]
      have L : nloop (dtBody [(n : Int), (m : Int)] 2) LL (ByteArray.mk #[104, 101, 97, 100], ((0 : Nat) : Int)) = some (ByteArray.mk #[104, 101, 97, 100] ++ (spaceW ++ numT n) ++ (spaceW ++ numT m)) := by
        obtain ⟨_, n2, n3, _⟩ := num_ok hn
        obtain ⟨N, hN⟩ := LL3
        rw [hN, nloop_s (dt_step (m := n) (by decide) (by simp) (by decide) (by decide) hn rfl), nloop_s (dt_step (m := m) (by rw [ByteArray.size_append, ByteArray.size_append]; show 4 + (1 + _) ≤ 1000; omega) (by simp) (by decide) (by decide) hm rfl), nloop_e (dt_end (by decide))]
      have L' : nloop _ LL (ByteArray.mk #[104, 101, 97, 100], (0 : Int)) = _ := L
      refine (congrArg (fun x : Option ByteArray => (x.map fun t => t).bind fun t => some t) L').trans ?_
      rw [deed_head hn hm]
      simp only [Option.map_some, Option.bind_some]
      congr 1
      refine bytesN_inj ?_
      simp only [bytesN_app]
      rw [show bytesN headW = bytesN (ByteArray.mk #[104, 101, 97, 100]) ++ bytesN spaceW from rfl]
      simp
    · have i : idx tabW 1 = some (ByteArray.mk #[97, 100, 100]) := rfl
      rw [i, show same (List.length tabW) 6 = some () from rfl]
      simp only [Option.bind_some, Sum.elim_inl]
      unfold impl_DeedText_n8 impl_DeedText_n6 impl_DeedText_n2 impl_DeedText_n5 impl_DeedText_n4 impl_DeedText_n7
      have nn : impl_numbersIn 1 = some 1 := by unfold impl_numbersIn; rfl
      rw [nn, Option.bind_some, show inc 1 (List.length [(n : Int), 0]) = some 1 from rfl]
      simp only [Option.bind_some]
      have L : nloop (dtBody [(n : Int)] 1) LL (ByteArray.mk #[97, 100, 100], ((0 : Nat) : Int)) = some (ByteArray.mk #[97, 100, 100] ++ (spaceW ++ numT n)) := by
        obtain ⟨N, hN⟩ := LL3
        rw [hN, nloop_s (dt_step (m := n) (by decide) (by simp) (by decide) (by decide) hn rfl), nloop_e (dt_end (by decide))]
      have L' : nloop _ LL (ByteArray.mk #[97, 100, 100], (0 : Int)) = _ := L
      refine (congrArg (fun x : Option ByteArray => (x.map fun t => t).bind fun t => some t) L').trans ?_
      rw [deed_add hn]
      simp only [Option.map_some, Option.bind_some]
      congr 1
    · rw [deed_word h2 h5, show same (List.length tabW) 6 = some () from rfl]
      have nn : impl_numbersIn k = some 0 := by
        unfold impl_numbersIn impl_numbersIn_n1
        rw [beq_eq_false_iff_ne.mpr (show k ≠ 0 by omega), beq_eq_false_iff_ne.mpr (show k ≠ 1 by omega)]
        rfl
      have i : idx tabW k = some (wordW k) := by
        rcases wordW_eq h2 h5 with rfl | rfl | rfl | rfl <;> rfl
      rw [i]
      simp only [Option.bind_some, Sum.elim_inl]
      unfold impl_DeedText_n8 impl_DeedText_n6 impl_DeedText_n2 impl_DeedText_n5 impl_DeedText_n4 impl_DeedText_n7
      rw [nn, Option.bind_some, show inc 0 (List.length [(0 : Int), 0]) = some 0 from rfl]
      simp only [Option.bind_some]
      have L : nloop (dtBody ([] : List Int) 0) LL (wordW k, ((0 : Nat) : Int)) = some (wordW k) := by
        obtain ⟨N, hN⟩ := LL3
        rw [hN, nloop_e (dt_end (by decide))]
      have L' : nloop _ LL (wordW k, (0 : Int)) = _ := L
      exact (congrArg (fun x : Option ByteArray => (x.map fun t => t).bind fun t => some t) L').trans rfl

theorem ba_empty_append (a : ByteArray) : ByteArray.empty ++ a = a := bytesN_inj (by rw [bytesN_app, bytesN_empty, List.nil_append])

theorem jtext_is : ∀ (l : List DeedL) (acc : ByteArray), acc.size + 11 * l.length ≤ 100000000 →
    jtext (fun d : Int × Int × Int × Unit => impl_DeedText d.1 d.2.1 d.2.2.1) l acc = some (if l.all validD = true then acc ++ journL l else ByteArray.empty)
  | [], acc, _ => by
    rw [jtext, List.all_nil, if_pos rfl]
    congr 1
    exact bytesN_inj (by rw [bytesN_app, show bytesN (journL []) = [] from rfl, List.append_nil])
  | d :: l, acc, h => by
    rw [List.length_cons] at h
    have e : impl_DeedText d.1 d.2.1 d.2.2.1 = some (textD d) := implDeedText_eq d.1 d.2.1 d.2.2.1
    rw [jtext, e, Option.bind_some]
    cases v : validD d with
    | false =>
      have : textD d = ByteArray.empty := deed_none v
      rw [if_pos this, List.all_cons, v, Bool.false_and, if_neg (by simp)]
    | true =>
      obtain ⟨_, s10⟩ := deed_size v
      have ne : textD d ≠ ByteArray.empty := deed_ne v
      have s10 : (textD d).size ≤ 10 := s10
      rw [if_neg ne, if_pos ⟨by omega, by omega⟩, jtext_is l _ (by rw [ByteArray.size_append, ByteArray.size_append]; show acc.size + ((textD d).size + 1) + _ ≤ _; omega), List.all_cons, v, Bool.true_and]
      cases l.all validD with
      | false => rw [if_neg (by simp), if_neg (by simp)]
      | true =>
        rw [if_pos rfl, if_pos rfl]
        congr 1
        refine bytesN_inj ?_
        rw [journL]
        simp only [bytesN_app]
        rw [show bytesN (ByteArray.mk #[10]) = bytesN nlW from rfl]
        simp

theorem implJournal_eq (l : List DeedL) (h : l.length ≤ 1048576) : impl_JournalText l = some (journT l) := by
  unfold impl_JournalText journT jtextL
  rw [if_pos (by omega)]
  rw [jtext_is l _ (by show 0 + _ ≤ _; omega)]
  cases l.all validD with
  | false => rfl
  | true => rw [if_pos rfl, if_pos rfl, ba_empty_append]

end Go.Rv
