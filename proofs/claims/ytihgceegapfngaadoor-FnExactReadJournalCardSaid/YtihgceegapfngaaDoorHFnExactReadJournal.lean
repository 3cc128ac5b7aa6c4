/-
  Plain mathematics of what the law reaches. Conditions: none.
-/
import Derived.Test.YtihgceegapfngaaDoorGFnExactReadJournal
set_option linter.unusedVariables false
set_option linter.unusedSimpArgs false
namespace Go.Rv
/-- A loop that counts from a number on: state (k, x), k < n goes on. -/
theorem wrap64 {x : Int} (h1 : -9223372036854775808 ≤ x) (h2 : x ≤ 9223372036854775807) : IntKind.wrap .i64 x = x := by
  simp only [IntKind.wrap, IntKind.bits, IntKind.signed]
  simp
  omega

theorem idx_nat {α : Type} (xs : List α) (k : Nat) : idx xs (k : Int) = xs[k]? := by simp [idx]
theorem idx_lt {α : Type} {xs : List α} {k : Nat} (h : k < xs.length) : idx xs (k : Int) = some xs[k] := by simp [idx, h]
theorem inb_nat {k n : Nat} (h : k < n) : inb (k : Int) n = some k := by
  simp only [inb]
  rw [if_pos (by omega)]
  simp
theorem mk_nat {n : Nat} (h : n ≤ 1099511627776) : mk (n : Int) (n : Int) = some n := by
  simp only [mk]
  rw [if_pos (by omega)]
  simp
theorem room_le {n : Nat} (h : n ≤ 1099511627776) : room n = some () := by simp [room, h]

/-- From a word to the root, with so many steps at most: the root, and how many steps lead to it. -/
def climb (h : List Int) : Nat → Nat → Option (Nat × Nat)
  | 0, _ => none
  | f + 1, w => match h[w - 1]? with
    | none => none
    | some x => if x = 0 then some (w, 0) else (climb h f x.toNat).map fun p => (p.1, p.2 + 1)

def okHead (n : Nat) (x : Int) : Bool := decide (0 ≤ x) && decide (x ≤ n)

def inRange (h : List Int) : Bool := h.all (okHead h.length)

theorem inRange_get {h : List Int} (hr : inRange h = true) {k : Nat} (hk : k < h.length) : 0 ≤ h[k] ∧ h[k] ≤ h.length := by
  have := List.all_eq_true.1 hr h[k] (List.getElem_mem hk)
  simpa [okHead] using this

theorem l1In_eq (a b c : Int) : spec_l1In a b c = some (decide (b ≤ a) && decide (a ≤ c)) := by
  unfold spec_l1In spec_l1In_n1
  by_cases h : a ≥ b
  · have e : decide (a ≥ b) = true := decide_eq_true h
    rw [e]; rfl
  · have e : decide (a ≥ b) = false := decide_eq_false h
    rw [e]; rfl

/-- What a tree is. -/
structure Tree (h : List Int) : Prop where
  pos : 1 ≤ h.length
  le : h.length ≤ 8
  rng : inRange h = true
  one : h.count 0 = 1
  way : ∀ k, k < h.length → (climb h h.length (k + 1)).isSome = true

/-- The head of a word, both from 1 on; 0 for none. -/
def hd (h : List Int) (w : Nat) : Nat := (h.getD (w - 1) 0).toNat

section
variable {h : List Int} (T : Tree h)
include T

theorem Tree.get {w : Nat} (h1 : 1 ≤ w) (h2 : w ≤ h.length) : h[w - 1]? = some ((hd h w : Nat) : Int) := by
  have hk : w - 1 < h.length := by omega
  have := inRange_get T.rng hk
  rw [List.getElem?_eq_getElem hk, hd, List.getD_eq_getElem?_getD, List.getElem?_eq_getElem hk]
  simp only [Option.getD_some, Option.some.injEq]
  omega

end

theorem nloop_to {σ ω : Type} {body : σ → Option (σ ⊕ ω)} (S : Nat → σ) (n : Nat) (w : ω) (hs : ∀ k, k < n → body (S k) = some (.inl (S (k + 1)))) (he : body (S n) = some (.inr w)) :
    ∀ (N : Nat), n < N → nloop body N (S 0) = some w := by
  have key : ∀ (m k N : Nat), k + m = n → m < N → nloop body N (S k) = some w := by
    intro m
    induction m with
    | zero =>
      intro k N hk hN
      obtain ⟨N', rfl⟩ : ∃ N', N = N' + 1 := ⟨N - 1, by omega⟩
      have : k = n := by omega
      subst this
      simp only [nloop, he, Option.bind_some]
    | succ m ih =>
      intro k N hk hN
      obtain ⟨N', rfl⟩ : ∃ N', N = N' + 1 := ⟨N - 1, by omega⟩
      simp only [nloop, hs k (by omega), Option.bind_some]
      exact ih (k + 1) N' (by omega) (by omega)
  intro N hN
  exact key n 0 N (by omega) hN

/-- A word is under another one: from head to head one comes to it. -/
inductive Und (h : List Int) : Nat → Nat → Prop
  | refl {a : Nat} (h1 : 1 ≤ a) (h2 : a ≤ h.length) : Und h a a
  | step {a b : Nat} (h1 : 1 ≤ a) (h2 : a ≤ h.length) (h3 : hd h a ≠ 0) (u : Und h (hd h a) b) : Und h a b

def Betw (a b j : Nat) : Prop := (a < j ∧ j < b) ∨ (b < j ∧ j < a)
/-- What holds of the machine: the next word, the stack from its top, the heads. -/
structure MInv (n i : Nat) (st : List Nat) (h : List Int) : Prop where
  len : h.length = n
  lo : 1 ≤ i
  hi : i ≤ n + 1
  ne : st = [] → i = 1
  dec : st.Pairwise (· > ·)
  rng : ∀ s ∈ st, 1 ≤ s ∧ s < i ∧ hd h s = 0
  num : ∀ x ∈ h, 0 ≤ x ∧ x ≤ (n : Int)
  rank : ∃ (m : Nat) (ρ : Nat → Nat), m + st.length + 1 = i ∧ ∀ w, 1 ≤ w → w < i → w ∉ st → ρ w < m ∧ 1 ≤ hd h w ∧ hd h w < i ∧ (hd h w ∈ st ∨ ρ w < ρ (hd h w))
  near : ∀ j, 1 ≤ j → j < i → ∃ s ∈ st, Und h j s ∧ ∀ t ∈ st, ¬ Betw j s t
  below : ∀ w j, 1 ≤ w → w < i → hd h w ≠ 0 → Betw w (hd h w) j → Und h j (hd h w)

theorem MInv.get {n i : Nat} {st : List Nat} {h : List Int} (M : MInv n i st h) {w : Nat} (w1 : 1 ≤ w) (w2 : w ≤ n) : h[w - 1]? = some ((hd h w : Nat) : Int) := by
  have hl := M.len
  have lt : w - 1 < h.length := by omega
  have := M.num _ (List.getElem_mem lt)
  rw [List.getElem?_eq_getElem lt]
  unfold hd
  rw [List.getD_eq_getElem?_getD, List.getElem?_eq_getElem lt, Option.getD_some]
  congr 1
  omega

theorem nloop_ex {σ ω : Type} {body : σ → Option (σ ⊕ ω)} (I : σ → Prop) (μ : σ → Nat) (Q : ω → Prop)
    (h : ∀ s, I s → (∃ s', body s = some (.inl s') ∧ I s' ∧ μ s' < μ s) ∨ (∃ o, body s = some (.inr o) ∧ Q o)) : ∀ (n : Nat) (s : σ), I s → μ s < n → ∃ o, nloop body n s = some o ∧ Q o
  | 0, s, _, hn => by omega
  | n + 1, s, hi, hn => by
    rcases h s hi with ⟨s', hb, hi', hm⟩ | ⟨o, hb, hq⟩
    · simp only [nloop, hb, Option.bind_some]
      exact nloop_ex I μ Q h n s' hi' (by omega)
    · simp only [nloop, hb, Option.bind_some]
      exact ⟨o, rfl, hq⟩

theorem inc_ok {i : Int} {n : Nat} (h0 : 0 ≤ i) (h1 : i ≤ n) : inc i n = some i.toNat := by simp only [inc]; rw [if_pos ⟨h0, h1⟩]
def bytesN (mv : ByteArray) : List Nat := mv.data.toList.map fun b => b.toNat
theorem bytesN_length (mv : ByteArray) : (bytesN mv).length = mv.size := by rw [bytesN, List.length_map, Array.length_toList]; rfl

theorem bidx_ok {mv : ByteArray} {k : Nat} (hk : k < mv.size) : bidx mv (k : Int) = some ((((bytesN mv)[k]'(by rw [bytesN_length]; exact hk) : Nat)) : Int) := by
  unfold bidx
  rw [if_pos (by omega)]
  simp only [Int.toNat_natCast]
  rw [getElem?_pos mv k hk]
  simp only [Option.map_some, bytesN, List.getElem_map]
  rfl

theorem toList_loop (b : ByteArray) : ∀ (n i : Nat) (r : List UInt8), i + n = b.size → ByteArray.toList.loop b i r = r.reverse ++ b.data.toList.drop i
  | 0, i, r, h => by
    have hs : b.size = b.data.toList.length := by rw [Array.length_toList]; rfl
    rw [ByteArray.toList.loop, if_neg (by omega), List.drop_eq_nil_of_le (by omega), List.append_nil]
  | n + 1, i, r, h => by
    have hs : b.size = b.data.toList.length := by rw [Array.length_toList]; rfl
    rw [ByteArray.toList.loop, if_pos (by omega), toList_loop b n (i + 1) _ (by omega), List.reverse_cons, List.append_assoc]
    have e : b.get! i = b.data.toList[i]'(by omega) := by
      have hi : i < b.data.size := by have : b.data.size = b.size := rfl; omega
      show b.data[i]! = _
      rw [getElem!_pos b.data i hi]
      rfl
    rw [e, List.drop_eq_getElem_cons (show i < b.data.toList.length by omega)]
    rfl
theorem toList_data (b : ByteArray) : b.toList = b.data.toList := by
  have := toList_loop b b.size 0 [] (by omega)
  unfold ByteArray.toList
  rw [this]
  rfl

theorem bytesN_inj {a b : ByteArray} (h : bytesN a = bytesN b) : a = b := by
  have h1 : a.data.toList = b.data.toList := by
    unfold bytesN at h
    refine List.map_inj_right (f := fun b : UInt8 => b.toNat) (fun x y e => UInt8.toNat_inj.mp e) |>.mp h
  exact ByteArray.ext (Array.toList_inj.mp h1)
theorem seqs_iff {a b : ByteArray} : seqs a b = true ↔ a = b := by
  unfold seqs
  rw [beq_iff_eq, toList_data, toList_data]
  exact ⟨fun h => ByteArray.ext (Array.toList_inj.mp h), fun h => by rw [h]⟩
theorem seqs_self (a : ByteArray) : seqs a a = true := seqs_iff.mpr rfl
theorem seqs_ne {a b : ByteArray} (h : a ≠ b) : seqs a b = false := by
  rw [Bool.eq_false_iff]
  exact fun x => h (seqs_iff.mp x)

theorem bytesN_app (a b : ByteArray) : bytesN (a ++ b) = bytesN a ++ bytesN b := by
  simp [bytesN, ByteArray.data_append]
theorem bytesN_extract (a : ByteArray) (i j : Nat) : bytesN (a.extract i j) = ((bytesN a).take j).drop i := by
  unfold bytesN
  rw [ByteArray.data_extract, Array.toList_extract, List.extract_eq_take_drop, List.map_take, List.map_drop, List.drop_take]
theorem bytesN_empty : bytesN ByteArray.empty = [] := rfl
theorem bytesN_lt {a : ByteArray} : ∀ x ∈ bytesN a, x < 256 := by
  intro x hx
  unfold bytesN at hx
  obtain ⟨b, _, rfl⟩ := List.mem_map.mp hx
  exact b.toNat_lt

theorem catT {a b : ByteArray} (h : a.size + b.size ≤ 1000000000) : cat a b = some (a ++ b) := by
  unfold cat
  rw [if_pos (by simp only [maxLen]; omega)]

/-- A text in pieces: what stands between bytes. -/
def cutL (sep : Nat) : List Nat → List Nat → List (List Nat)
  | acc, [] => [acc]
  | acc, x :: r => if x = sep then acc :: cutL sep [] r else cutL sep (acc ++ [x]) r

theorem cutL_plain {sep : Nat} : ∀ {l acc : List Nat}, sep ∉ l → cutL sep acc l = [acc ++ l]
  | [], acc, _ => by simp [cutL]
  | x :: l, acc, h => by
    have hx : x ≠ sep := fun e => h (by rw [e]; exact List.mem_cons_self ..)
    rw [cutL, if_neg hx, cutL_plain (fun m => h (List.mem_cons_of_mem _ m))]
    simp
theorem cutL_cut {sep : Nat} {r : List Nat} : ∀ {l acc : List Nat}, sep ∉ l → cutL sep acc (l ++ sep :: r) = (acc ++ l) :: cutL sep [] r
  | [], acc, _ => by simp [cutL]
  | x :: l, acc, h => by
    have hx : x ≠ sep := fun e => h (by rw [e]; exact List.mem_cons_self ..)
    rw [List.cons_append, cutL, if_neg hx, cutL_cut (fun m => h (List.mem_cons_of_mem _ m))]
    simp

abbrev cutBody (s : ByteArray) (sep : Int) : Int × Int × List ByteArray → Option ((Int × Int × List ByteArray) ⊕ (Int × List ByteArray)) :=
  fun (t : Int × Int × (List ByteArray)) => ((spec_l1Cut_n3 s sep t.1 t.2.1 t.2.2).map (Sum.elim (fun (t : Int × Int × (List ByteArray)) => Sum.inl (t.1, t.2.1, t.2.2)) (fun (t : Int × (List ByteArray)) => Sum.inr t)) : Option ((Int × Int × (List ByteArray)) ⊕ ((Int × (List ByteArray)))))

theorem cut_loop (s : ByteArray) (sep : Nat) (hs : s.size ≤ 1000000000) : ∀ (r k f : Nat) (out : List ByteArray) (N : Nat), k + r = s.size → r < N → f ≤ k → out.length ≤ k →
    ∃ (f' : Nat) (out' : List ByteArray), nloop (cutBody s (sep : Int)) N ((f : Int), (k : Int), out) = some ((f' : Int), out') ∧ f' ≤ s.size ∧ out'.length ≤ s.size ∧
      out'.map bytesN ++ [((bytesN s).take s.size).drop f'] = out.map bytesN ++ cutL sep (((bytesN s).take k).drop f) ((bytesN s).drop k)
  | r, k, f, out, 0, _, h, _, _ => by omega
  | 0, k, f, out, N + 1, hk, _, hf, ho => by
    have e : k = s.size := by omega
    subst e
    refine ⟨f, out, ?_, hf, ho, ?_⟩
    · rw [nloop]
      simp only [cutBody, spec_l1Cut_n3]
      rw [decide_eq_false (show ¬ ((s.size : Nat) : Int) < ((s.size : Nat) : Int) by omega)]
      rfl
    · rw [show (bytesN s).drop s.size = [] from List.drop_eq_nil_of_le (by rw [bytesN_length]; omega), cutL]
  | r + 1, k, f, out, N + 1, hk, hN, hf, ho => by
    have hks : k < s.size := by omega
    have hl : k < (bytesN s).length := by rw [bytesN_length]; exact hks
    have dr : (bytesN s).drop k = (bytesN s)[k] :: (bytesN s).drop (k + 1) := List.drop_eq_getElem_cons hl
    rw [nloop]
    by_cases c : (bytesN s)[k] = sep
    · have i1 : inc (k : Int) s.size = some k := by unfold inc; rw [if_pos (by omega)]; simp
      have i2 : inc (f : Int) k = some f := by unfold inc; rw [if_pos (by omega)]; simp
      have st : cutBody s (sep : Int) ((f : Int), (k : Int), out) = some (.inl (((k + 1 : Nat) : Int), ((k + 1 : Nat) : Int), out ++ [s.extract f k])) := by
        simp only [cutBody, spec_l1Cut_n3]
        rw [decide_eq_true (show (k : Int) < ((s.size : Nat) : Int) by omega), bidx_ok hks, c]
        simp only [cond_true, Option.bind_some, beq_self_eq_true, i1, i2]
        rw [show room (out.length + [s.extract f k].length) = some () by unfold room; rw [if_pos (by simp only [List.length_cons, List.length_nil]; omega)], wrap64 (by omega) (by omega)]
        rfl
      obtain ⟨f', out', h1, h2, h3, h4⟩ := cut_loop s sep hs r (k + 1) (k + 1) (out ++ [s.extract f k]) N (by omega) (by omega) (Nat.le_refl _) (by simp; omega)
      refine ⟨f', out', ?_, h2, h3, ?_⟩
      · rw [st]
        exact h1
      · rw [h4, dr, cutL, if_pos c, List.map_append, List.map_cons, List.map_nil, bytesN_extract, List.append_assoc]
        congr 2
        rw [List.singleton_append]
        congr 1
        rw [List.drop_eq_nil_of_le (by rw [List.length_take]; omega)]
    · have st : cutBody s (sep : Int) ((f : Int), (k : Int), out) = some (.inl ((f : Int), ((k + 1 : Nat) : Int), out)) := by
        simp only [cutBody, spec_l1Cut_n3]
        rw [decide_eq_true (show (k : Int) < ((s.size : Nat) : Int) by omega), bidx_ok hks]
        simp only [cond_true, Option.bind_some]
        rw [beq_eq_false_iff_ne.mpr (by omega), wrap64 (by omega) (by omega)]
        rfl
      obtain ⟨f', out', h1, h2, h3, h4⟩ := cut_loop s sep hs r (k + 1) f out N (by omega) (by omega) (by omega) (by omega)
      refine ⟨f', out', ?_, h2, h3, ?_⟩
      · rw [st]
        exact h1
      · rw [h4, dr, cutL, if_neg c]
        congr 2
        rw [List.take_succ_eq_append_getElem hl, List.drop_append_of_le_length (by rw [List.length_take]; omega)]

theorem specCut_eq (s : ByteArray) (sep : Nat) (hs : s.size ≤ 1000000000) : ∃ out, spec_l1Cut s (sep : Int) = some out ∧ out.map bytesN = cutL sep [] (bytesN s) := by
  have e : spec_l1Cut s (sep : Int) = spec_l1Cut_n9 s (sep : Int) := by unfold spec_l1Cut; rfl
  obtain ⟨f', out', h1, h2, h3, h4⟩ := cut_loop s sep hs s.size 0 0 [] LL (by omega) (by simp only [LL]; omega) (Nat.le_refl _) (by simp)
  have i1 : inc (f' : Int) s.size = some f' := by unfold inc; rw [if_pos (by omega)]; simp
  refine ⟨out' ++ [s.extract f' s.size], ?_, ?_⟩
  · rw [e]
    unfold spec_l1Cut_n9 spec_l1Cut_n1 spec_l1Cut_n8 spec_l1Cut_n6 spec_l1Cut_n2 spec_l1Cut_n5 spec_l1Cut_n4
    have h1' : nloop (cutBody s (sep : Int)) LL (0, 0, []) = _ := h1
    simp only [Option.bind_some]
    rw [show (nloop _ LL ((0 : Int), (0 : Int), ([] : List ByteArray)) : Option (Int × List ByteArray)) = some ((f' : Int), out') from h1']
    simp only [Option.map_some, Option.bind_some]
    unfold spec_l1Cut_n7
    rw [i1]
    simp only [Option.bind_some]
    rw [show room (out'.length + [s.extract f' s.size].length) = some () by unfold room; rw [if_pos (by simp only [List.length_cons, List.length_nil]; omega)]]
    rfl
  · rw [List.map_append, List.map_cons, List.map_nil, bytesN_extract, h4]
    simp

/-- The text of a number. -/
noncomputable def numT (n : Nat) : ByteArray := (spec_l1Number (n : Int)).getD ByteArray.empty
def numChk (n : Nat) : Bool := match spec_l1Number (n : Int) with
  | some t => decide (1 ≤ t.size) && decide (t.size ≤ 2) && (bytesN t).all (fun x => decide (48 ≤ x) && decide (x ≤ 57)) && (spec_l1Digits t == some (n : Int))
  | none => false
theorem num_tab : ((List.range 100).all numChk) = true := by decide +kernel
theorem num_ok {n : Nat} (h : n < 100) : spec_l1Number (n : Int) = some (numT n) ∧ 1 ≤ (numT n).size ∧ (numT n).size ≤ 2 ∧ (∀ x ∈ bytesN (numT n), 48 ≤ x ∧ x ≤ 57) ∧ spec_l1Digits (numT n) = some (n : Int) := by
  have h1 := List.all_eq_true.mp num_tab n (List.mem_range.mpr h)
  unfold numChk at h1
  split at h1
  · rename_i t ht
    have e : numT n = t := by unfold numT; rw [ht]; rfl
    simp only [Bool.and_eq_true, decide_eq_true_eq, beq_iff_eq] at h1
    rw [e]
    refine ⟨ht, h1.1.1.1, h1.1.1.2, fun x hx => ?_, h1.2⟩
    have := List.all_eq_true.mp h1.1.2 x hx
    simpa using this
  · cases h1

/-- A deed that has a text. -/
def deedB (k a b : Int) : Bool :=
  (k == 0 && decide (0 ≤ a) && decide (a ≤ 99) && decide (0 ≤ b) && decide (b ≤ 99)) || (k == 1 && decide (0 ≤ a) && decide (a ≤ 99) && b == 0) || (decide (2 ≤ k) && decide (k ≤ 5) && a == 0 && b == 0)
/-- Its text. -/
noncomputable def deedT (k a b : Int) : ByteArray := (spec_DeedText k a b).getD ByteArray.empty

def headW : ByteArray := ByteArray.mk #[104, 101, 97, 100, 32]
def addW : ByteArray := ByteArray.mk #[97, 100, 100, 32]
def spaceW : ByteArray := ByteArray.mk #[32]
def wordW (k : Int) : ByteArray := if k = 2 then ByteArray.mk #[100, 114, 111, 112] else if k = 3 then ByteArray.mk #[116, 117, 114, 110] else if k = 4 then ByteArray.mk #[102, 108, 97, 116] else ByteArray.mk #[98, 97, 99, 107]

theorem deed_some (k a b : Int) : ∃ t, spec_DeedText k a b = some t ∧ (deedB k a b = false → t = ByteArray.empty) ∧
    (∀ n m : Nat, n < 100 → m < 100 → k = 0 → a = (n : Int) → b = (m : Int) → t = headW ++ numT n ++ spaceW ++ numT m) ∧
    (∀ n : Nat, n < 100 → k = 1 → a = (n : Int) → b = 0 → t = addW ++ numT n) ∧ (2 ≤ k → k ≤ 5 → a = 0 → b = 0 → t = wordW k) := by
  have e : spec_DeedText k a b = spec_DeedText_n12 k a b := by unfold spec_DeedText; rfl
  rw [e]
  unfold spec_DeedText_n12 spec_DeedText_n1 spec_DeedText_n11 spec_DeedText_n9 spec_DeedText_n8 spec_DeedText_n2
  simp only [Option.bind_some]
  by_cases k0 : k = 0
  · subst k0
    rw [l1In_eq, l1In_eq]
    by_cases r : (0 ≤ a ∧ a ≤ 99) ∧ (0 ≤ b ∧ b ≤ 99)
    · obtain ⟨n, rfl⟩ : ∃ n : Nat, a = (n : Int) := ⟨a.toNat, by omega⟩
      obtain ⟨m, rfl⟩ : ∃ m : Nat, b = (m : Int) := ⟨b.toNat, by omega⟩
      obtain ⟨n1, n2, n3, _⟩ := num_ok (n := n) (by omega)
      obtain ⟨m1, m2, m3, _⟩ := num_ok (n := m) (by omega)
      refine ⟨headW ++ numT n ++ spaceW ++ numT m, ?_, fun f => ?_, fun n' m' _ _ _ ea eb => ?_, fun _ _ h => by omega, fun h => by omega⟩
      · simp only [beq_self_eq_true, cond_true, Option.bind_some]
        rw [decide_eq_true r.1.1, decide_eq_true r.1.2, decide_eq_true r.2.1, decide_eq_true r.2.2]
        simp only [Bool.and_self, cond_true, Option.bind_some]
        unfold spec_DeedText_n7 spec_DeedText_n3
        have s1 : (headW ++ numT n).size ≤ 7 := by rw [ByteArray.size_append]; show 5 + _ ≤ 7; omega
        have s2 : (headW ++ numT n ++ spaceW).size ≤ 8 := by rw [ByteArray.size_append]; show _ + 1 ≤ 8; omega
        rw [n1, m1]
        simp only [Option.bind_some]
        rw [show cat (ByteArray.mk #[104, 101, 97, 100, 32]) (numT n) = some (headW ++ numT n) from catT (by show 5 + _ ≤ _; omega)]
        simp only [Option.bind_some]
        rw [show cat (headW ++ numT n) (ByteArray.mk #[32]) = some (headW ++ numT n ++ spaceW) from catT (by show _ + 1 ≤ _; omega)]
        simp only [Option.bind_some]
        rw [catT (by omega)]
        rfl
      · simp [deedB, r] at f
      · have h1 : n' = n := by omega
        have h2 : m' = m := by omega
        rw [h1, h2]
    · refine ⟨ByteArray.empty, ?_, fun _ => rfl, fun n' m' _ _ _ ea eb => absurd ⟨⟨by omega, by omega⟩, by omega, by omega⟩ r, fun _ _ h => by omega, fun h => by omega⟩
      simp only [beq_self_eq_true, cond_true, Option.bind_some]
      have f : (cond (decide (0 ≤ a) && decide (a ≤ 99)) (some (decide (0 ≤ b) && decide (b ≤ 99))) (some false)) = some false := by
        by_cases q : 0 ≤ a ∧ a ≤ 99
        · rw [decide_eq_true q.1, decide_eq_true q.2]
          simp only [Bool.and_self, cond_true]
          congr 1
          rw [Bool.eq_false_iff]
          intro x
          simp only [Bool.and_eq_true, decide_eq_true_eq] at x
          exact r ⟨q, x⟩
        · have : (decide (0 ≤ a) && decide (a ≤ 99)) = false := by
            rw [Bool.eq_false_iff]
            intro x
            simp only [Bool.and_eq_true, decide_eq_true_eq] at x
            exact q x
          rw [this]
          rfl
      rw [f]
      rfl
  · rw [beq_eq_false_iff_ne.mpr k0]
    simp only [cond_false, Option.bind_some]
    unfold spec_DeedText_n7 spec_DeedText_n6 spec_DeedText_n4
    simp only [cond_false]
    by_cases k1 : k = 1
    · subst k1
      rw [l1In_eq]
      by_cases r : (0 ≤ a ∧ a ≤ 99) ∧ b = 0
      · obtain ⟨n, rfl⟩ : ∃ n : Nat, a = (n : Int) := ⟨a.toNat, by omega⟩
        obtain ⟨n1, n2, n3, _⟩ := num_ok (n := n) (by omega)
        refine ⟨addW ++ numT n, ?_, fun f => ?_, fun _ _ _ _ h => by omega, fun n' _ _ ea _ => ?_, fun h => by omega⟩
        · simp only [beq_self_eq_true, cond_true, Option.bind_some]
          rw [decide_eq_true r.1.1, decide_eq_true r.1.2, r.2]
          simp only [Bool.and_self, cond_true, beq_self_eq_true, Option.bind_some]
          unfold spec_DeedText_n5
          simp only [cond_true]
          rw [n1]
          simp only [Option.bind_some]
          rw [show cat (ByteArray.mk #[97, 100, 100, 32]) (numT n) = some (addW ++ numT n) from catT (by show 4 + _ ≤ _; omega)]
          rfl
        · simp [deedB, r] at f
        · have h1 : n' = n := by omega
          rw [h1]
      · refine ⟨ByteArray.empty, ?_, fun _ => rfl, fun _ _ _ _ h => by omega, fun n' _ _ ea eb => absurd ⟨⟨by omega, by omega⟩, eb⟩ r, fun h => by omega⟩
        simp only [beq_self_eq_true, cond_true, Option.bind_some]
        have f : (cond (decide (0 ≤ a) && decide (a ≤ 99)) (some (b == 0)) (some false)) = some false := by
          by_cases q : 0 ≤ a ∧ a ≤ 99
          · rw [decide_eq_true q.1, decide_eq_true q.2]
            simp only [Bool.and_self, cond_true]
            congr 1
            rw [beq_eq_false_iff_ne]
            exact fun x => r ⟨q, x⟩
          · have : (decide (0 ≤ a) && decide (a ≤ 99)) = false := by
              rw [Bool.eq_false_iff]
              intro x
              simp only [Bool.and_eq_true, decide_eq_true_eq] at x
              exact q x
            rw [this]
            rfl
        rw [f]
        rfl
    · rw [beq_eq_false_iff_ne.mpr k1]
      simp only [cond_false, Option.bind_some]
      unfold spec_DeedText_n5
      simp only [cond_false, Bool.and_true]
      by_cases z : a = 0 ∧ b = 0
      · obtain ⟨rfl, rfl⟩ := z
        simp only [beq_self_eq_true, Bool.and_true]
        by_cases k2 : k = 2
        · subst k2
          exact ⟨_, rfl, fun f => by simp [deedB] at f, fun _ _ _ _ h => by omega, fun _ _ h => by omega, fun _ _ _ _ => rfl⟩
        · rw [beq_eq_false_iff_ne.mpr k2]
          by_cases k3 : k = 3
          · subst k3
            exact ⟨_, rfl, fun f => by simp [deedB] at f, fun _ _ _ _ h => by omega, fun _ _ h => by omega, fun _ _ _ _ => rfl⟩
          · rw [beq_eq_false_iff_ne.mpr k3]
            by_cases k4 : k = 4
            · subst k4
              exact ⟨_, rfl, fun f => by simp [deedB] at f, fun _ _ _ _ h => by omega, fun _ _ h => by omega, fun _ _ _ _ => rfl⟩
            · rw [beq_eq_false_iff_ne.mpr k4]
              by_cases k5 : k = 5
              · subst k5
                exact ⟨_, rfl, fun f => by simp [deedB] at f, fun _ _ _ _ h => by omega, fun _ _ h => by omega, fun _ _ _ _ => rfl⟩
              · rw [beq_eq_false_iff_ne.mpr k5]
                exact ⟨_, rfl, fun _ => rfl, fun _ _ _ _ h => by omega, fun _ _ h => by omega, fun _ _ _ _ => by omega⟩
      · have f : ((a == 0) && (b == 0)) = false := by
          rw [Bool.eq_false_iff]
          intro x
          simp only [Bool.and_eq_true, beq_iff_eq] at x
          exact z x
        rw [f]
        simp only [Bool.and_false]
        exact ⟨_, rfl, fun _ => rfl, fun _ _ _ _ h => by omega, fun _ _ h => by omega, fun _ _ ea eb => absurd ⟨ea, eb⟩ z⟩

theorem specDeed_eq (k a b : Int) : spec_DeedText k a b = some (deedT k a b) := by
  obtain ⟨t, h, _⟩ := deed_some k a b
  unfold deedT
  rw [h]
  rfl
theorem deedT_is {k a b : Int} {t : ByteArray} (h : spec_DeedText k a b = some t) : deedT k a b = t := by unfold deedT; rw [h]; rfl
theorem deed_none {k a b : Int} (h : deedB k a b = false) : deedT k a b = ByteArray.empty := by
  obtain ⟨t, h1, h2, _⟩ := deed_some k a b
  rw [deedT_is h1, h2 h]
theorem deed_head {n m : Nat} (hn : n < 100) (hm : m < 100) : deedT 0 (n : Int) (m : Int) = headW ++ numT n ++ spaceW ++ numT m := by
  obtain ⟨t, h1, _, h2, _⟩ := deed_some 0 (n : Int) (m : Int)
  rw [deedT_is h1, h2 n m hn hm rfl rfl rfl]
theorem deed_add {n : Nat} (hn : n < 100) : deedT 1 (n : Int) 0 = addW ++ numT n := by
  obtain ⟨t, h1, _, _, h2, _⟩ := deed_some 1 (n : Int) 0
  rw [deedT_is h1, h2 n hn rfl rfl rfl]
theorem deed_word {k : Int} (h2 : 2 ≤ k) (h5 : k ≤ 5) : deedT k 0 0 = wordW k := by
  obtain ⟨t, h1, _, _, _, h⟩ := deed_some k 0 0
  rw [deedT_is h1, h h2 h5 rfl rfl]

/-- The deeds that have a text, one kind after the other. -/
theorem deedB_cases {k a b : Int} (h : deedB k a b = true) : (∃ n m : Nat, n < 100 ∧ m < 100 ∧ k = 0 ∧ a = (n : Int) ∧ b = (m : Int)) ∨ (∃ n : Nat, n < 100 ∧ k = 1 ∧ a = (n : Int) ∧ b = 0) ∨ (2 ≤ k ∧ k ≤ 5 ∧ a = 0 ∧ b = 0) := by
  unfold deedB at h
  simp only [Bool.or_eq_true, Bool.and_eq_true, beq_iff_eq, decide_eq_true_eq] at h
  rcases h with (h | h) | h
  · exact .inl ⟨a.toNat, b.toNat, by omega, by omega, by omega, by omega, by omega⟩
  · exact .inr (.inl ⟨a.toNat, by omega, by omega, by omega, by omega⟩)
  · exact .inr (.inr ⟨h.1.1.1, h.1.1.2, h.1.2, h.2⟩)

theorem wordW_eq {k : Int} (h2 : 2 ≤ k) (h5 : k ≤ 5) : k = 2 ∨ k = 3 ∨ k = 4 ∨ k = 5 := by omega

/-- A text of a deed in pieces. -/
theorem no_space {n : Nat} (h : n < 100) : 32 ∉ bytesN (numT n) := fun m => by
  have := (num_ok h).2.2.2.1 32 m
  omega
theorem pieces_head {n m : Nat} (hn : n < 100) (hm : m < 100) : cutL 32 [] (bytesN (deedT 0 (n : Int) (m : Int))) = [[104, 101, 97, 100], bytesN (numT n), bytesN (numT m)] := by
  rw [deed_head hn hm, bytesN_app, bytesN_app, bytesN_app]
  have e : bytesN headW ++ bytesN (numT n) ++ bytesN spaceW ++ bytesN (numT m) = [104, 101, 97, 100] ++ 32 :: (bytesN (numT n) ++ 32 :: bytesN (numT m)) := by
    rw [show bytesN headW = [104, 101, 97, 100, 32] from rfl, show bytesN spaceW = [32] from rfl]
    simp
  rw [e, cutL_cut (by decide), cutL_cut (no_space hn), cutL_plain (no_space hm)]
  rfl
theorem pieces_add {n : Nat} (hn : n < 100) : cutL 32 [] (bytesN (deedT 1 (n : Int) 0)) = [[97, 100, 100], bytesN (numT n)] := by
  rw [deed_add hn, bytesN_app]
  have e : bytesN addW ++ bytesN (numT n) = [97, 100, 100] ++ 32 :: bytesN (numT n) := by
    rw [show bytesN addW = [97, 100, 100, 32] from rfl]
    simp
  rw [e, cutL_cut (by decide), cutL_plain (no_space hn)]
  rfl
theorem pieces_word {k : Int} (h2 : 2 ≤ k) (h5 : k ≤ 5) : cutL 32 [] (bytesN (deedT k 0 0)) = [bytesN (wordW k)] := by
  rw [deed_word h2 h5]
  rcases wordW_eq h2 h5 with rfl | rfl | rfl | rfl <;> exact cutL_plain (by decide)

theorem numT_inj {n m : Nat} (hn : n < 100) (hm : m < 100) (h : bytesN (numT n) = bytesN (numT m)) : n = m := by
  have e := bytesN_inj h
  have h1 := (num_ok hn).2.2.2.2
  rw [e, (num_ok hm).2.2.2.2] at h1
  have := Option.some.inj h1
  omega

/-- Two deeds with the same text are one. -/
theorem deed_inj {k a b k' a' b' : Int} (h : deedB k a b = true) (h' : deedB k' a' b' = true) (e : deedT k a b = deedT k' a' b') : k = k' ∧ a = a' ∧ b = b' := by
  rcases deedB_cases h with ⟨n, m, hn, hm, rfl, rfl, rfl⟩ | ⟨n, hn, rfl, rfl, rfl⟩ | ⟨h2, h5, rfl, rfl⟩ <;>
    rcases deedB_cases h' with ⟨n', m', hn', hm', rfl, rfl, rfl⟩ | ⟨n', hn', rfl, rfl, rfl⟩ | ⟨h2', h5', rfl, rfl⟩
  · have c := congrArg (fun t => cutL 32 [] (bytesN t)) e
    simp only [pieces_head hn hm, pieces_head hn' hm', List.cons.injEq] at c
    have x := numT_inj hn hn' c.2.1
    have y := numT_inj hm hm' c.2.2.1
    exact ⟨rfl, by omega, by omega⟩
  · have c := congrArg (fun t => (cutL 32 [] (bytesN t)).length) e
    simp only [pieces_head hn hm, pieces_add hn'] at c
    simp at c
  · have c := congrArg (fun t => (cutL 32 [] (bytesN t)).length) e
    simp only [pieces_head hn hm, pieces_word h2' h5'] at c
    simp at c
  · have c := congrArg (fun t => (cutL 32 [] (bytesN t)).length) e
    simp only [pieces_head hn' hm', pieces_add hn] at c
    simp at c
  · have c := congrArg (fun t => cutL 32 [] (bytesN t)) e
    simp only [pieces_add hn, pieces_add hn', List.cons.injEq] at c
    have x := numT_inj hn hn' c.2.1
    exact ⟨rfl, by omega, rfl⟩
  · have c := congrArg (fun t => (cutL 32 [] (bytesN t)).length) e
    simp only [pieces_add hn, pieces_word h2' h5'] at c
    simp at c
  · have c := congrArg (fun t => (cutL 32 [] (bytesN t)).length) e
    simp only [pieces_head hn' hm', pieces_word h2 h5] at c
    simp at c
  · have c := congrArg (fun t => (cutL 32 [] (bytesN t)).length) e
    simp only [pieces_add hn', pieces_word h2 h5] at c
    simp at c
  · rw [deed_word h2 h5, deed_word h2' h5'] at e
    have c := congrArg bytesN e
    rcases wordW_eq h2 h5 with rfl | rfl | rfl | rfl <;> rcases wordW_eq h2' h5' with rfl | rfl | rfl | rfl <;> first | exact ⟨rfl, rfl, rfl⟩ | exact absurd c (by decide)

theorem deed_size {k a b : Int} (h : deedB k a b = true) : 1 ≤ (deedT k a b).size ∧ (deedT k a b).size ≤ 10 := by
  rcases deedB_cases h with ⟨n, m, hn, hm, rfl, rfl, rfl⟩ | ⟨n, hn, rfl, rfl, rfl⟩ | ⟨h2, h5, rfl, rfl⟩
  · have x := num_ok hn
    have y := num_ok hm
    rw [deed_head hn hm, ByteArray.size_append, ByteArray.size_append, ByteArray.size_append, show headW.size = 5 from rfl, show spaceW.size = 1 from rfl]
    omega
  · have x := num_ok hn
    rw [deed_add hn, ByteArray.size_append, show addW.size = 4 from rfl]
    omega
  · rw [deed_word h2 h5]
    rcases wordW_eq h2 h5 with rfl | rfl | rfl | rfl <;> exact ⟨by decide, by decide⟩
theorem deed_ne {k a b : Int} (h : deedB k a b = true) : deedT k a b ≠ ByteArray.empty := fun e => by
  have := (deed_size h).1
  rw [e] at this
  exact absurd this (by decide)
theorem deed_iff {k a b : Int} : deedT k a b ≠ ByteArray.empty ↔ deedB k a b = true := by
  constructor
  · intro h
    cases c : deedB k a b with
    | true => rfl
    | false => exact absurd (deed_none c) h
  · exact deed_ne

abbrev DeedL := Int × Int × Int × Unit

theorem roomT {n : Nat} (h : n ≤ 1000000000) : room n = some () := by unfold room; rw [if_pos (by omega)]

abbrev digBody (t : ByteArray) : Int × Int → Option ((Int × Int) ⊕ (Int ⊕ Int)) :=
  fun (s : Int × Int) => ((spec_l1Digits_n3 t s.1 s.2).map (Sum.elim (fun (t : Int × Int) => Sum.inl (t.1, t.2)) (Sum.elim (fun (t : Int) => Sum.inr (Sum.inl t)) (fun (t : Int) => Sum.inr (Sum.inr t)))) : Option ((Int × Int) ⊕ (Int ⊕ Int)))

theorem dig_loop (t : ByteArray) (h : t.size ≤ 100000000) : ∀ (r k N : Nat) (n : Int), k + r = t.size → r < N → ∃ v, nloop (digBody t) N (n, (k : Int)) = some v
  | r, k, 0, n, _, h => by omega
  | 0, k, N + 1, n, hk, _ => by
    have e : k = t.size := by omega
    subst e
    rw [nloop]
    simp only [digBody, spec_l1Digits_n3]
    rw [decide_eq_false (show ¬ ((t.size : Nat) : Int) < ((t.size : Nat) : Int) by omega)]
    exact ⟨_, rfl⟩
  | r + 1, k, N + 1, n, hk, hN => by
    have hks : k < t.size := by omega
    rw [nloop]
    have st : (∃ v, digBody t (n, (k : Int)) = some (.inr v)) ∨ ∃ m, digBody t (n, (k : Int)) = some (.inl (m, ((k + 1 : Nat) : Int))) := by
      simp only [digBody, spec_l1Digits_n3]
      rw [decide_eq_true (show (k : Int) < ((t.size : Nat) : Int) by omega), bidx_ok hks, wrap64 (x := (k : Int) + 1) (by omega) (by omega)]
      simp only [cond_true, Option.bind_some]
      cases decide ((((bytesN t)[k]'(by rw [bytesN_length]; exact hks) : Nat) : Int) < 48) with
      | true => exact .inl ⟨_, rfl⟩
      | false =>
        cases decide ((((bytesN t)[k]'(by rw [bytesN_length]; exact hks) : Nat) : Int) > 57) with
        | true => exact .inl ⟨_, rfl⟩
        | false => exact .inr ⟨_, rfl⟩
    rcases st with ⟨v, e⟩ | ⟨m, e⟩
    · rw [e]
      exact ⟨_, rfl⟩
    · rw [e]
      exact dig_loop t h r (k + 1) N m (by omega) (by omega)

theorem digits_some (t : ByteArray) (h : t.size ≤ 100000000) : ∃ v, spec_l1Digits t = some v := by
  have e : spec_l1Digits t = spec_l1Digits_n9 t := by unfold spec_l1Digits; rfl
  rw [e]
  unfold spec_l1Digits_n9 spec_l1Digits_n1
  rw [l1In_eq]
  simp only [Option.bind_some]
  cases c : (decide ((1 : Int) ≤ ((t.size : Nat) : Int)) && decide (((t.size : Nat) : Int) ≤ 6)) with
  | false => exact ⟨_, rfl⟩
  | true =>
    simp only [Bool.and_eq_true, decide_eq_true_eq] at c
    have go : ∃ v, spec_l1Digits_n8 t = some v := by
      unfold spec_l1Digits_n8 spec_l1Digits_n6 spec_l1Digits_n2 spec_l1Digits_n5 spec_l1Digits_n4 spec_l1Digits_n7
      obtain ⟨v, q⟩ := dig_loop t h t.size 0 LL 0 (by omega) (by simp only [LL]; omega)
      have q' : nloop (digBody t) LL (0, 0) = some v := q
      simp only [Option.bind_some]
      rw [show (nloop _ LL ((0 : Int), (0 : Int)) : Option (Int ⊕ Int)) = some v from q']
      cases v <;> exact ⟨_, rfl⟩
    obtain ⟨v, q⟩ := go
    simp only [Bool.not_true, cond_false]
    cases decide (((t.size : Nat) : Int) > 1) with
    | false =>
      simp only [cond_false, Option.bind_some, Sum.elim_inl]
      exact ⟨v, q⟩
    | true =>
      rw [show bidx t (0 : Int) = some _ from bidx_ok (mv := t) (k := 0) (by omega)]
      simp only [cond_true, Option.bind_some]
      cases ((((bytesN t)[0]'(by rw [bytesN_length]; omega) : Nat) : Int) == 48) with
      | true => exact ⟨_, rfl⟩
      | false =>
        simp only [cond_false, Option.bind_some, Sum.elim_inl]
        exact ⟨v, q⟩

/-- The first of some deeds whose text it is. -/
noncomputable def findI (s : ByteArray) (L : List DeedL) : Option DeedL := L.find? fun c => !(seqs s ByteArray.empty) && seqs (deedT c.1 c.2.1 c.2.2.1) s

abbrev findBody (s : ByteArray) (L : List DeedL) : Int → Option (Int ⊕ ((Bool × Int × Int × Int) ⊕ Unit)) :=
  fun (k : Int) => ((spec_ReadDeed_n9 s k L).map (Sum.elim (fun (t : Int) => Sum.inl t) (Sum.elim (fun (t : Bool × Int × Int × Int) => Sum.inr (Sum.inl t)) (fun (t : Unit) => Sum.inr (Sum.inr t)))) : Option ((Int) ⊕ ((Bool × Int × Int × Int) ⊕ Unit)))

theorem find_loop (s : ByteArray) (L : List DeedL) (hL : L.length ≤ 1000) : ∀ (r k N : Nat), k + r = L.length → r < N →
    nloop (findBody s L) N (k : Int) = some (match findI s (L.drop k) with | some c => .inl (true, c.1, c.2.1, c.2.2.1) | none => .inr ())
  | r, k, 0, _, h => by omega
  | 0, k, N + 1, hk, _ => by
    have e : k = L.length := by omega
    subst e
    rw [nloop]
    simp only [findBody, spec_ReadDeed_n9]
    rw [decide_eq_false (show ¬ ((L.length : Nat) : Int) < ((L.length : Nat) : Int) by omega), List.drop_length]
    rfl
  | r + 1, k, N + 1, hk, hN => by
    have hkl : k < L.length := by omega
    have ih := find_loop s L hL r (k + 1) N (by omega) (by omega)
    have i1 : inb (k : Int) L.length = some k := by unfold inb; rw [if_pos (by omega)]; simp
    have g : L[k]? = some L[k] := List.getElem?_eq_getElem hkl
    have w : IntKind.wrap .i64 ((k : Int) + 1) = ((k + 1 : Nat) : Int) := by rw [wrap64 (by omega) (by omega)]; omega
    rw [nloop]
    have dr : L.drop k = L[k] :: L.drop (k + 1) := List.drop_eq_getElem_cons hkl
    unfold findI at ih ⊢
    rw [dr, List.find?_cons]
    have st : findBody s L (k : Int) = some (if !(seqs s ByteArray.empty) && seqs (deedT L[k].1 L[k].2.1 L[k].2.2.1) s then .inr (.inl (true, L[k].1, L[k].2.1, L[k].2.2.1)) else .inl ((k + 1 : Nat) : Int)) := by
      simp only [findBody, spec_ReadDeed_n9]
      rw [decide_eq_true (show (k : Int) < ((L.length : Nat) : Int) by omega), i1, w]
      simp only [cond_true, Option.bind_some, g, specDeed_eq]
      cases seqs s ByteArray.empty with
      | true => rfl
      | false =>
        cases seqs (deedT L[k].1 L[k].2.1 L[k].2.2.1) s <;> rfl
    rw [st]
    cases c : (!(seqs s ByteArray.empty) && seqs (deedT L[k].1 L[k].2.1 L[k].2.2.1) s) with
    | true => rfl
    | false =>
      simp only [Bool.false_eq_true, if_false, Option.bind_some]
      exact ih

/-- What a text reads as: the deed whose text it is. -/
noncomputable def readI (s : ByteArray) : Bool × Int × Int × Int := open Classical in
  if h : ∃ d : Int × Int × Int, deedB d.1 d.2.1 d.2.2 = true ∧ deedT d.1 d.2.1 d.2.2 = s then (true, h.choose.1, h.choose.2.1, h.choose.2.2) else (false, 0, 0, 0)

theorem read_deed {k a b : Int} (h : deedB k a b = true) : readI (deedT k a b) = (true, k, a, b) := by
  have hx : ∃ d : Int × Int × Int, deedB d.1 d.2.1 d.2.2 = true ∧ deedT d.1 d.2.1 d.2.2 = deedT k a b := ⟨(k, a, b), h, rfl⟩
  unfold readI
  rw [dif_pos hx]
  obtain ⟨e1, e2, e3⟩ := deed_inj hx.choose_spec.1 h hx.choose_spec.2
  rw [e1, e2, e3]
theorem read_true {s : ByteArray} {k a b : Int} (h : readI s = (true, k, a, b)) : deedB k a b = true ∧ deedT k a b = s := by
  unfold readI at h
  split at h
  · rename_i hx
    have e := Prod.mk.inj h
    have e2 := Prod.mk.inj e.2
    have e3 := Prod.mk.inj e2.2
    rw [← e2.1, ← e3.1, ← e3.2]
    exact hx.choose_spec
  · cases (Prod.mk.inj h).1
theorem read_none {s : ByteArray} (h : ∀ k a b : Int, deedB k a b = true → deedT k a b ≠ s) : readI s = (false, 0, 0, 0) := by
  unfold readI
  rw [dif_neg]
  rintro ⟨⟨k, a, b⟩, h1, h2⟩
  exact h k a b h1 h2
/-- If the candidates hold each deed whose text it may be, the first one whose text it is, is the deed. -/
theorem find_read {s : ByteArray} {L : List DeedL} (hL : ∀ k a b, deedB k a b = true → deedT k a b = s → (k, a, b, ()) ∈ L) :
    (match findI s L with | some c => (true, c.1, c.2.1, c.2.2.1) | none => (false, (0 : Int), (0 : Int), (0 : Int))) = readI s := by
  cases f : findI s L with
  | some c =>
    have h1 := List.find?_some f
    simp only [Bool.and_eq_true, Bool.not_eq_true'] at h1
    have e := seqs_iff.mp h1.2
    have ne : s ≠ ByteArray.empty := fun x => by rw [x, seqs_self] at h1; cases h1.1
    have b : deedB c.1 c.2.1 c.2.2.1 = true := deed_iff.mp (by rw [e]; exact ne)
    have := read_deed b
    rw [e] at this
    rw [this]
  | none =>
    rw [read_none]
    intro k a b hb he
    have := List.find?_eq_none.mp f _ (hL k a b hb he)
    simp only [Bool.and_eq_true, Bool.not_eq_true', not_and] at this
    refine this ?_ ?_
    · refine seqs_ne ?_
      rw [← he]
      exact deed_ne hb
    · rw [he]
      exact seqs_self s

theorem specRead_eq (s : ByteArray) (hs : s.size ≤ 100000000) : spec_ReadDeed s = some (readI s) := by
  have e : spec_ReadDeed s = spec_ReadDeed_n17 s := by unfold spec_ReadDeed; rfl
  obtain ⟨out, c1, c2⟩ := specCut_eq s 32 (by omega)
  rw [e]
  unfold spec_ReadDeed_n17 spec_ReadDeed_n1
  rw [show (32 : Int) = ((32 : Nat) : Int) from rfl, c1]
  simp only [Option.bind_some]
  -- the loop, over any candidates
  have tail : ∀ L : List DeedL, L.length ≤ 1000 → (∀ k a b, deedB k a b = true → deedT k a b = s → (k, a, b, ()) ∈ L) → spec_ReadDeed_n14 s L = some (readI s) := fun L hl hL => by
    unfold spec_ReadDeed_n14 spec_ReadDeed_n12 spec_ReadDeed_n8 spec_ReadDeed_n11 spec_ReadDeed_n10 spec_ReadDeed_n13
    have q := find_loop s L hl L.length 0 LL (by omega) (by simp only [LL]; omega)
    have q' : nloop (findBody s L) LL (0 : Int) = _ := q
    simp only [Option.bind_some]
    rw [show (nloop _ LL (0 : Int) : Option ((Bool × Int × Int × Int) ⊕ Unit)) = _ from q', List.drop_zero, ← find_read hL]
    cases findI s L <;> rfl
  have len : out.length = (cutL 32 [] (bytesN s)).length := by rw [← c2, List.length_map]
  have words : ∀ k a b, deedB k a b = true → deedT k a b = s → (2 ≤ k → k ≤ 5 → (k, a, b, ()) ∈ ([(2, 0, 0, ()), (3, 0, 0, ()), (4, 0, 0, ()), (5, 0, 0, ())] : List DeedL)) := fun k a b hb _ h2 h5 => by
    rcases deedB_cases hb with ⟨n, m, _, _, rfl, _, _⟩ | ⟨n, _, rfl, _, _⟩ | ⟨_, _, rfl, rfl⟩
    · omega
    · omega
    · rcases wordW_eq h2 h5 with rfl | rfl | rfl | rfl <;> simp
  have osz : ∀ t ∈ out, t.size ≤ 100000000 := fun t ht => by
    have : bytesN t ∈ cutL 32 [] (bytesN s) := by rw [← c2]; exact List.mem_map_of_mem ht
    have key : ∀ (l acc : List Nat) (x : List Nat), x ∈ cutL 32 acc l → x.length ≤ acc.length + l.length := by
      intro l
      induction l with
      | nil =>
        intro acc x hx
        rw [cutL, List.mem_singleton] at hx
        rw [hx]
        simp
      | cons y l ih =>
        intro acc x hx
        rw [cutL] at hx
        split at hx
        · rcases List.mem_cons.mp hx with h | h
          · rw [h]
            simp
          · have := ih [] x h
            simp only [List.length_nil, List.length_cons] at this ⊢
            omega
        · have := ih _ x hx
          simp only [List.length_append, List.length_cons, List.length_nil] at this ⊢
          omega
    have := key _ _ _ this
    rw [bytesN_length, bytesN_length] at this
    simp at this
    omega
  unfold spec_ReadDeed_n16 spec_ReadDeed_n6 spec_ReadDeed_n2
  simp only [Option.bind_some]
  unfold spec_ReadDeed_n5
  by_cases l3 : out.length = 3
  · rw [show ((((out.length : Nat) : Int)) == 3) = true from beq_iff_eq.mpr (by omega)]
    unfold spec_ReadDeed_n3
    match out, l3 with
    | [o0, o1, o2], _ =>
      obtain ⟨v1, d1⟩ := digits_some o1 (osz o1 (by simp))
      obtain ⟨v2, d2⟩ := digits_some o2 (osz o2 (by simp))
      have i1 : inb 1 [o0, o1, o2].length = some 1 := rfl
      have i2 : inb 2 [o0, o1, o2].length = some 2 := rfl
      simp only [cond_true, i1, i2, Option.bind_some, List.getElem?_cons_succ, List.getElem?_cons_zero, d1, d2]
      rw [roomT (by simp)]
      simp only [Option.map_some, Option.bind_some]
      unfold spec_ReadDeed_n15 spec_ReadDeed_n7
      rw [show (((([o0, o1, o2].length : Nat) : Int)) == 2) = false from rfl]
      simp only [cond_false, Option.bind_some]
      refine tail _ (by simp) fun k a b hb he => ?_
      rw [List.mem_append]
      rcases deedB_cases hb with ⟨n, m, hn, hm, rfl, rfl, rfl⟩ | ⟨n, hn, rfl, rfl, rfl⟩ | ⟨h2, h5, rfl, rfl⟩
      · right
        rw [← he, pieces_head hn hm] at c2
        simp only [List.map_cons, List.map_nil, List.cons.injEq, and_true] at c2
        have e1 := bytesN_inj c2.2.1
        have e2 := bytesN_inj c2.2.2
        rw [e1, (num_ok hn).2.2.2.2] at d1
        rw [e2, (num_ok hm).2.2.2.2] at d2
        rw [← Option.some.inj d1, ← Option.some.inj d2]
        simp
      · rw [← he, pieces_add hn] at c2
        simp at c2
      · exact .inl (words k 0 0 hb he h2 h5)
  · rw [show ((((out.length : Nat) : Int)) == 3) = false from beq_eq_false_iff_ne.mpr (by omega)]
    unfold spec_ReadDeed_n4
    simp only [cond_false, Option.map_some, Option.bind_some]
    unfold spec_ReadDeed_n15 spec_ReadDeed_n7
    by_cases l2 : out.length = 2
    · rw [show ((((out.length : Nat) : Int)) == 2) = true from beq_iff_eq.mpr (by omega)]
      match out, l2 with
      | [o0, o1], _ =>
        obtain ⟨v1, d1⟩ := digits_some o1 (osz o1 (by simp))
        have i1 : inb 1 [o0, o1].length = some 1 := rfl
        simp only [cond_true, i1, Option.bind_some, List.getElem?_cons_succ, List.getElem?_cons_zero, d1]
        rw [roomT (by simp)]
        simp only [Option.bind_some]
        refine tail _ (by simp) fun k a b hb he => ?_
        rw [List.mem_append]
        rcases deedB_cases hb with ⟨n, m, hn, hm, rfl, rfl, rfl⟩ | ⟨n, hn, rfl, rfl, rfl⟩ | ⟨h2, h5, rfl, rfl⟩
        · rw [← he, pieces_head hn hm] at c2
          simp at c2
        · right
          rw [← he, pieces_add hn] at c2
          simp only [List.map_cons, List.map_nil, List.cons.injEq, and_true] at c2
          have e1 := bytesN_inj c2.2
          rw [e1, (num_ok hn).2.2.2.2] at d1
          rw [← Option.some.inj d1]
          simp
        · exact .inl (words k 0 0 hb he h2 h5)
    · rw [show ((((out.length : Nat) : Int)) == 2) = false from beq_eq_false_iff_ne.mpr (by omega)]
      simp only [cond_false, Option.bind_some]
      refine tail _ (by simp) fun k a b hb he => ?_
      rcases deedB_cases hb with ⟨n, m, hn, hm, rfl, rfl, rfl⟩ | ⟨n, hn, rfl, rfl, rfl⟩ | ⟨h2, h5, rfl, rfl⟩
      · rw [← he, pieces_head hn hm] at len
        simp at len
        omega
      · rw [← he, pieces_add hn] at len
        simp at len
        omega
      · exact words k 0 0 hb he h2 h5

def nlW : ByteArray := ByteArray.mk #[10]
noncomputable def textD (d : DeedL) : ByteArray := deedT d.1 d.2.1 d.2.2.1
def validD (d : DeedL) : Bool := deedB d.1 d.2.1 d.2.2.1
/-- The lines of deeds, one after the other. -/
noncomputable def journL : List DeedL → ByteArray
  | [] => ByteArray.empty
  | d :: r => textD d ++ nlW ++ journL r
/-- The text of bytes. -/
def toB (l : List Nat) : ByteArray := ByteArray.mk (l.map Nat.toUInt8).toArray
theorem toB_bytes (a : ByteArray) : toB (bytesN a) = a := by
  refine ByteArray.ext (Array.toList_inj.mp ?_)
  unfold toB bytesN
  simp only [List.map_map]
  have : (Nat.toUInt8 ∘ fun b : UInt8 => b.toNat) = id := by
    funext b
    exact UInt8.ofNat_toNat
  rw [this, List.map_id]

/-- What lines tell: deeds, and how many bytes their lines have; acc is what was met of a line. -/
noncomputable def scanJ : List Nat → List Nat → List DeedL × Nat
  | _, [] => ([], 0)
  | acc, x :: r => if x = 10 then (if (readI (toB acc)).1 = true then (((readI (toB acc)).2.1, (readI (toB acc)).2.2.1, (readI (toB acc)).2.2.2, ()) :: (scanJ [] r).1, acc.length + 1 + (scanJ [] r).2) else ([], 0)) else scanJ (acc ++ [x]) r

abbrev rjBody (s : ByteArray) : Int × Int × List DeedL → Option ((Int × Int × List DeedL) ⊕ ((Int × List DeedL) ⊕ (Int × List DeedL))) :=
  fun (t : Int × Int × (List (Int × Int × Int × Unit))) => ((spec_ReadJournal_n3 s t.1 t.2.1 t.2.2).map (Sum.elim (fun (t : Int × Int × (List (Int × Int × Int × Unit))) => Sum.inl (t.1, t.2.1, t.2.2)) (Sum.elim (fun (t : Int × (List (Int × Int × Int × Unit))) => Sum.inr (Sum.inl t)) (fun (t : Int × (List (Int × Int × Int × Unit))) => Sum.inr (Sum.inr t)))) : Option ((Int × Int × (List (Int × Int × Int × Unit))) ⊕ ((Int × (List (Int × Int × Int × Unit))) ⊕ (Int × (List (Int × Int × Int × Unit))))))

theorem rj_loop (s : ByteArray) (hs : s.size ≤ 100000000) : ∀ (r k f N : Nat) (out : List DeedL), k + r = s.size → r < N → f ≤ k → out.length ≤ k →
    ∃ v, nloop (rjBody s) N ((f : Int), (k : Int), out) = some v ∧ (v = .inl (((f + (scanJ (((bytesN s).take k).drop f) ((bytesN s).drop k)).2 : Nat) : Int), out ++ (scanJ (((bytesN s).take k).drop f) ((bytesN s).drop k)).1) ∨
      v = .inr (((f + (scanJ (((bytesN s).take k).drop f) ((bytesN s).drop k)).2 : Nat) : Int), out ++ (scanJ (((bytesN s).take k).drop f) ((bytesN s).drop k)).1))
  | r, k, f, 0, out, _, h, _, _ => by omega
  | 0, k, f, N + 1, out, hk, _, hf, ho => by
    have e : k = s.size := by omega
    subst e
    rw [nloop]
    simp only [rjBody, spec_ReadJournal_n3]
    rw [decide_eq_false (show ¬ ((s.size : Nat) : Int) < ((s.size : Nat) : Int) by omega), show (bytesN s).drop s.size = [] from List.drop_eq_nil_of_le (by rw [bytesN_length]; omega), scanJ, List.append_nil]
    exact ⟨_, rfl, .inr rfl⟩
  | r + 1, k, f, N + 1, out, hk, hN, hf, ho => by
    have hks : k < s.size := by omega
    have hl : k < (bytesN s).length := by rw [bytesN_length]; exact hks
    have dr : (bytesN s).drop k = (bytesN s)[k] :: (bytesN s).drop (k + 1) := List.drop_eq_getElem_cons hl
    have w : IntKind.wrap .i64 ((k : Int) + 1) = ((k + 1 : Nat) : Int) := by rw [wrap64 (by omega) (by omega)]; omega
    rw [nloop, dr, scanJ]
    by_cases c : (bytesN s)[k] = 10
    · have i1 : inc (k : Int) s.size = some k := by unfold inc; rw [if_pos (by omega)]; simp
      have i2 : inc (f : Int) k = some f := by unfold inc; rw [if_pos (by omega)]; simp
      have ex : s.extract f k = toB (((bytesN s).take k).drop f) := by rw [← bytesN_extract, toB_bytes]
      have ll : (((bytesN s).take k).drop f).length = k - f := by rw [List.length_drop, List.length_take, bytesN_length]; omega
      rw [if_pos c]
      generalize ha : ((bytesN s).take k).drop f = acc at ex ll
      have rd : spec_ReadDeed (s.extract f k) = some (readI (toB acc)) := by
        rw [specRead_eq _ (by rw [ByteArray.size_extract]; omega), ex]
      cases v : (readI (toB acc)).1 with
      | false =>
        have st : rjBody s ((f : Int), (k : Int), out) = some (.inr (.inl ((f : Int), out))) := by
          simp only [rjBody, spec_ReadJournal_n3]
          rw [decide_eq_true (show (k : Int) < ((s.size : Nat) : Int) by omega), bidx_ok hks, c]
          simp only [cond_true, Option.bind_some]
          rw [show ((((10 : Nat) : Int)) == 10) = true from rfl]
          simp only [cond_true, Option.bind_some, i1, i2, rd, v]
          rfl
        rw [st, if_neg (by simp)]
        refine ⟨_, rfl, .inl ?_⟩
        simp
      | true =>
        have st : rjBody s ((f : Int), (k : Int), out) = some (.inl (((k + 1 : Nat) : Int), ((k + 1 : Nat) : Int), out ++ [((readI (toB acc)).2.1, (readI (toB acc)).2.2.1, (readI (toB acc)).2.2.2, ())])) := by
          simp only [rjBody, spec_ReadJournal_n3]
          rw [decide_eq_true (show (k : Int) < ((s.size : Nat) : Int) by omega), bidx_ok hks, c]
          simp only [cond_true, Option.bind_some]
          rw [show ((((10 : Nat) : Int)) == 10) = true from rfl]
          simp only [cond_true, Option.bind_some, i1, i2, rd, v, w]
          simp only [Bool.not_true, cond_false]
          rw [roomT (by simp only [List.length_cons, List.length_nil]; omega)]
          rfl
        rw [st, if_pos rfl]
        obtain ⟨u, h1, h2⟩ := rj_loop s hs r (k + 1) (k + 1) N (out ++ [((readI (toB acc)).2.1, (readI (toB acc)).2.2.1, (readI (toB acc)).2.2.2, ())]) (by omega) (by omega) (Nat.le_refl _) (by simp; omega)
        rw [show ((bytesN s).take (k + 1)).drop (k + 1) = [] from List.drop_eq_nil_of_le (by rw [List.length_take]; omega)] at h2
        refine ⟨u, h1, ?_⟩
        rw [ll, show f + (k - f + 1 + (scanJ [] ((bytesN s).drop (k + 1))).2) = k + 1 + (scanJ [] ((bytesN s).drop (k + 1))).2 by omega, List.append_cons]
        exact h2
    · have st : rjBody s ((f : Int), (k : Int), out) = some (.inl ((f : Int), ((k + 1 : Nat) : Int), out)) := by
        simp only [rjBody, spec_ReadJournal_n3]
        rw [decide_eq_true (show (k : Int) < ((s.size : Nat) : Int) by omega), bidx_ok hks]
        simp only [cond_true, Option.bind_some]
        rw [beq_eq_false_iff_ne.mpr (by omega), w]
        rfl
      rw [st, if_neg c]
      obtain ⟨u, h1, h2⟩ := rj_loop s hs r (k + 1) f N out (by omega) (by omega) (by omega) (by omega)
      rw [List.take_succ_eq_append_getElem hl, List.drop_append_of_le_length (by rw [List.length_take]; omega)] at h2
      exact ⟨u, h1, h2⟩

/-- What a text tells of a journal. -/
noncomputable def readJ (s : ByteArray) : List DeedL × Nat := scanJ [] (bytesN s)

theorem specReadJ_eq (s : ByteArray) (hs : s.size ≤ 100000000) : spec_ReadJournal s = some (((readJ s).2 : Int), (readJ s).1) := by
  have e : spec_ReadJournal s = spec_ReadJournal_n9 s := by unfold spec_ReadJournal; rfl
  rw [e]
  unfold spec_ReadJournal_n9 spec_ReadJournal_n1 spec_ReadJournal_n8 spec_ReadJournal_n6 spec_ReadJournal_n2 spec_ReadJournal_n5 spec_ReadJournal_n4 spec_ReadJournal_n7
  obtain ⟨v, q, h⟩ := rj_loop s hs s.size 0 0 LL [] (by omega) (by simp only [LL]; omega) (Nat.le_refl _) (Nat.le_refl _)
  have q' : nloop (rjBody s) LL (0, 0, []) = some v := q
  simp only [Option.bind_some]
  rw [show (nloop _ LL ((0 : Int), (0 : Int), ([] : List DeedL)) : Option ((Int × List DeedL) ⊕ (Int × List DeedL))) = some v from q']
  simp only [List.take_zero, List.drop_zero, Nat.zero_add, List.nil_append, List.drop_nil] at h
  unfold readJ
  rcases h with rfl | rfl <;> rfl

theorem scan_line : ∀ (l acc r : List Nat), 10 ∉ l → scanJ acc (l ++ 10 :: r) = scanJ (acc ++ l) (10 :: r)
  | [], acc, r, _ => by simp
  | x :: l, acc, r, h => by
    have hx : x ≠ 10 := fun e => h (by rw [e]; exact List.mem_cons_self ..)
    rw [List.cons_append, scanJ, if_neg hx, scan_line l _ r (fun m => h (List.mem_cons_of_mem _ m)), List.append_assoc, List.singleton_append]

/-- What is read has a text: the beginning that was read. -/
theorem scan_text : ∀ (r acc : List Nat), (∀ x ∈ acc, x < 256) → (∀ x ∈ r, x < 256) → (scanJ acc r).1.all validD = true ∧ (scanJ acc r).2 ≤ acc.length + r.length ∧ bytesN (journL (scanJ acc r).1) = (acc ++ r).take (scanJ acc r).2
  | [], acc, _, _ => by
    rw [scanJ]
    exact ⟨rfl, Nat.zero_le _, by simp [journL, bytesN_empty]⟩
  | x :: r, acc, ha, hr => by
    have hx := hr x (List.mem_cons_self ..)
    have hr' : ∀ y ∈ r, y < 256 := fun y hy => hr y (List.mem_cons_of_mem _ hy)
    rw [scanJ]
    by_cases c : x = 10
    · rw [if_pos c]
      cases v : (readI (toB acc)).1 with
      | false =>
        rw [if_neg (by simp)]
        exact ⟨rfl, Nat.zero_le _, by simp [journL, bytesN_empty]⟩
      | true =>
        rw [if_pos rfl]
        obtain ⟨h1, h2, h3⟩ := scan_text r [] (by simp) hr'
        have rt : readI (toB acc) = (true, (readI (toB acc)).2.1, (readI (toB acc)).2.2.1, (readI (toB acc)).2.2.2) := by rw [← v]
        obtain ⟨t1, t2⟩ := read_true rt
        have ba : bytesN (toB acc) = acc := by
          unfold bytesN toB
          simp only [List.map_map]
          refine (List.map_congr_left (g := id) fun y hy => ?_).trans (List.map_id _)
          exact UInt8.toNat_ofNat_of_lt' (ha y hy)
        refine ⟨?_, ?_, ?_⟩
        · rw [List.all_cons, h1, Bool.and_true]
          exact t1
        · simp only [List.length_cons, List.length_nil] at h2 ⊢
          omega
        · rw [journL, bytesN_app, bytesN_app, h3]
          unfold textD
          simp only
          rw [t2, ba, show bytesN nlW = [10] from rfl, c, List.nil_append, List.append_assoc, List.singleton_append]
          rw [show acc.length + 1 + (scanJ [] r).2 = acc.length + ((scanJ [] r).2 + 1) by omega, List.take_length_add_append, List.take_succ_cons]
    · rw [if_neg c]
      obtain ⟨h1, h2, h3⟩ := scan_text r (acc ++ [x]) (fun y hy => by
        rcases List.mem_append.mp hy with h | h
        · exact ha y h
        · rw [List.mem_singleton] at h
          omega) hr'
      refine ⟨h1, ?_, ?_⟩
      · simp only [List.length_append, List.length_cons, List.length_nil] at h2 ⊢
        omega
      · rw [h3, List.append_assoc, List.singleton_append]

theorem readJ_ok (s : ByteArray) : (readJ s).1.all validD = true ∧ (readJ s).2 ≤ s.size ∧ journL (readJ s).1 = s.extract 0 (readJ s).2 := by
  unfold readJ
  obtain ⟨h1, h2, h3⟩ := scan_text (bytesN s) [] (by simp) bytesN_lt
  rw [bytesN_length] at h2
  refine ⟨h1, by simpa using h2, bytesN_inj ?_⟩
  rw [bytesN_extract, List.drop_zero]
  simpa using h3
theorem eqDeedS_refl (l : List DeedL) (h : l.length ≤ 1048576) : laws_eqDeedS l l = some true := by
  have e : laws_eqDeedS l l = laws_eqDeedS_n9 l l := by unfold laws_eqDeedS; rfl
  rw [e]
  unfold laws_eqDeedS_n9 laws_eqDeedS_n1 laws_eqDeedS_n8 laws_eqDeedS_n6 laws_eqDeedS_n2 laws_eqDeedS_n5 laws_eqDeedS_n4 laws_eqDeedS_n7
  have lp := nloop_to (body := fun (s : Int) => ((laws_eqDeedS_n3 l l s).map (Sum.elim (fun (t : Int) => Sum.inl t) (Sum.elim (fun (t : Bool) => Sum.inr (Sum.inl t)) (fun (t : Unit) => Sum.inr (Sum.inr t)))) : Option ((Int) ⊕ (Bool ⊕ Unit))))
    (fun k => (k : Int)) l.length (Sum.inr ())
    (by
      intro k hk
      have w : IntKind.wrap .i64 ((k : Int) + 1) = ((k + 1 : Nat) : Int) := by rw [wrap64 (by omega) (by omega)]; omega
      simp only [laws_eqDeedS_n3]
      rw [decide_eq_true (show (k : Int) < ((l.length : Nat) : Int) by omega), idx_lt hk, w]
      simp [laws_eqDeed, laws_eqDeed_n1])
    (by
      simp only [laws_eqDeedS_n3]
      rw [decide_eq_false (show ¬ ((l.length : Nat) : Int) < ((l.length : Nat) : Int) by omega)]
      rfl) LL (by simp only [LL]; omega)
  have lp' := lp
  rw [show ((0 : Nat) : Int) = 0 from rfl] at lp'
  simp only [bne_self_eq_false, cond_false, Option.bind_some, Sum.elim_inl]
  rw [lp']
  rfl

/-- Deeds marked by numbers, one after another. -/
def markDs (m k : Nat) : List DeedL := (List.range k).map fun i => (((m + 3 * i : Nat) : Int), ((m + 3 * i + 1 : Nat) : Int), ((m + 3 * i + 2 : Nat) : Int), ())
theorem markDs_succ (m k : Nat) : markDs m (k + 1) = markDs m k ++ [(((m + 3 * k : Nat) : Int), ((m + 3 * k + 1 : Nat) : Int), ((m + 3 * k + 2 : Nat) : Int), ())] := by
  unfold markDs
  rw [List.range_succ, List.map_append]
  rfl
theorem markDs_length (m k : Nat) : (markDs m k).length = k := by unfold markDs; simp
theorem markDeedS_eq (m : Nat) (hm : m ≤ 2097152) (l : List DeedL) (h : l.length ≤ 1048576) : laws_markDeedS (m : Int) l = some (((m + 3 * l.length : Nat) : Int), markDs m l.length) := by
  have e : laws_markDeedS (m : Int) l = laws_markDeedS_n18 (m : Int) l := by unfold laws_markDeedS; rfl
  rw [e]
  unfold laws_markDeedS_n18 laws_markDeedS_n1 laws_markDeedS_n17 laws_markDeedS_n15 laws_markDeedS_n2 laws_markDeedS_n14 laws_markDeedS_n13 laws_markDeedS_n16
  have lp := nloop_to (body := fun (s : Int × Int × (List (Int × Int × Int × Unit))) => ((laws_markDeedS_n12 s.1 s.2.1 s.2.2).map (Sum.elim (fun (t : Int × Int × (List (Int × Int × Int × Unit))) => Sum.inl (t.1, t.2.1, t.2.2)) (fun (t : Int × (List (Int × Int × Int × Unit))) => Sum.inr t)) : Option ((Int × Int × (List (Int × Int × Int × Unit))) ⊕ ((Int × (List (Int × Int × Int × Unit)))))))
    (fun k => (((m + 3 * k : Nat) : Int), (k : Int), markDs m k ++ l.drop k)) l.length (((m + 3 * l.length : Nat) : Int), markDs m l.length)
    (by
      intro k hk
      have ml := markDs_length m k
      have w : IntKind.wrap .i64 ((k : Int) + 1) = ((k + 1 : Nat) : Int) := by rw [wrap64 (by omega) (by omega)]; omega
      have w1 : IntKind.wrap .i64 (((m + 3 * k : Nat) : Int) + 1) = ((m + 3 * k + 1 : Nat) : Int) := by rw [wrap64 (by omega) (by omega)]; omega
      have w2 : IntKind.wrap .i64 (((m + 3 * k + 1 : Nat) : Int) + 1) = ((m + 3 * k + 2 : Nat) : Int) := by rw [wrap64 (by omega) (by omega)]; omega
      have w3 : IntKind.wrap .i64 (((m + 3 * k + 2 : Nat) : Int) + 1) = ((m + 3 * (k + 1) : Nat) : Int) := by rw [wrap64 (by omega) (by omega)]; omega
      have g : ∀ x : DeedL, (markDs m k ++ x :: l.drop (k + 1))[k]? = some x := fun x => by
        rw [List.getElem?_append_right (by omega), ml, Nat.sub_self]
        rfl
      have st : ∀ x y : DeedL, (markDs m k ++ x :: l.drop (k + 1)).set k y = markDs m k ++ y :: l.drop (k + 1) := fun x y => by
        rw [List.set_append_right _ _ (by omega), ml, Nat.sub_self, List.set_cons_zero]
      have len : ∀ x : DeedL, (markDs m k ++ x :: l.drop (k + 1)).length = l.length := fun x => by
        rw [List.length_append, ml, List.length_cons, List.length_drop]; omega
      simp only [laws_markDeedS_n12, laws_markDeedS_n3, laws_markDeedS_n11, laws_markDeedS_n9, laws_markDeedS_n8, laws_markDeedS_n4, laws_markDeedS_n7, laws_markDeedS_n5, laws_markDeedS_n6, laws_markDeedS_n10]
      rw [List.drop_eq_getElem_cons hk, len, decide_eq_true (show (k : Int) < ((l.length : Nat) : Int) by omega)]
      simp only [cond_true, Option.bind_some, Sum.elim_inl, inb_nat hk, g, st, len, w, w1, w2, w3, Option.map_some]
      rw [markDs_succ, List.append_assoc]
      rfl)
    (by
      have ml := markDs_length m l.length
      simp only [laws_markDeedS_n12, laws_markDeedS_n3]
      rw [List.drop_length, List.append_nil, ml, decide_eq_false (show ¬ ((l.length : Nat) : Int) < ((l.length : Nat) : Int) by omega)]
      rfl) LL (by simp only [LL]; omega)
  have lp' := lp
  rw [show markDs m 0 = [] from rfl, List.nil_append, List.drop_zero, show ((0 : Nat) : Int) = 0 from rfl, Nat.mul_zero, Nat.add_zero] at lp'
  simp only [Option.bind_some]
  rw [lp']
  rfl

theorem heldDeedS_eq (m : Nat) (hm : m ≤ 2097152) (n : Nat) (h : n ≤ 1048576) : laws_heldDeedS (markDs m n) (m : Int) = some ((m + 3 * n : Nat) : Int) := by
  have e : laws_heldDeedS (markDs m n) (m : Int) = laws_heldDeedS_n9 (markDs m n) (m : Int) := by unfold laws_heldDeedS; rfl
  rw [e]
  unfold laws_heldDeedS_n9 laws_heldDeedS_n1 laws_heldDeedS_n8 laws_heldDeedS_n6 laws_heldDeedS_n2 laws_heldDeedS_n5 laws_heldDeedS_n4 laws_heldDeedS_n7
  have ml := markDs_length m n
  have lp := nloop_to (body := fun (s : Int × Int) => ((laws_heldDeedS_n3 (markDs m n) s.1 s.2).map (Sum.elim (fun (t : Int × Int) => Sum.inl (t.1, t.2)) (Sum.elim (fun (t : Int) => Sum.inr (Sum.inl t)) (fun (t : Int) => Sum.inr (Sum.inr t)))) : Option ((Int × Int) ⊕ (Int ⊕ Int))))
    (fun k => (((m + 3 * k : Nat) : Int), (k : Int))) n (Sum.inr ((m + 3 * n : Nat) : Int))
    (by
      intro k hk
      have w : IntKind.wrap .i64 ((k : Int) + 1) = ((k + 1 : Nat) : Int) := by rw [wrap64 (by omega) (by omega)]; omega
      have w1 : IntKind.wrap .i64 (((m + 3 * k : Nat) : Int) + 1) = ((m + 3 * k + 1 : Nat) : Int) := by rw [wrap64 (by omega) (by omega)]; omega
      have w2 : IntKind.wrap .i64 (((m + 3 * k + 1 : Nat) : Int) + 1) = ((m + 3 * k + 2 : Nat) : Int) := by rw [wrap64 (by omega) (by omega)]; omega
      have w3 : IntKind.wrap .i64 (((m + 3 * k + 2 : Nat) : Int) + 1) = ((m + 3 * (k + 1) : Nat) : Int) := by rw [wrap64 (by omega) (by omega)]; omega
      have g : idx (markDs m n) (k : Int) = some (((m + 3 * k : Nat) : Int), ((m + 3 * k + 1 : Nat) : Int), ((m + 3 * k + 2 : Nat) : Int), ()) := by
        rw [idx_nat]
        unfold markDs
        rw [List.getElem?_map, List.getElem?_range hk]
        rfl
      simp only [laws_heldDeedS_n3, ml]
      rw [decide_eq_true (show (k : Int) < ((n : Nat) : Int) by omega)]
      simp only [cond_true, g, Option.bind_some, w, w1, w2, w3, bne_self_eq_false, cond_false]
      rfl)
    (by
      simp only [laws_heldDeedS_n3, ml]
      rw [decide_eq_false (show ¬ ((n : Nat) : Int) < ((n : Nat) : Int) by omega)]
      rfl) LL (by simp only [LL]; omega)
  have lp' := lp
  rw [show ((0 : Nat) : Int) = 0 from rfl, Nat.mul_zero, Nat.add_zero] at lp'
  simp only [Option.bind_some]
  rw [lp']
  rfl

theorem readJ_length (s : ByteArray) : (readJ s).1.length ≤ s.size := by
  obtain ⟨h1, h2, h3⟩ := readJ_ok s
  have q : ∀ l : List DeedL, l.all validD = true → l.length ≤ (journL l).size := by
    intro l
    induction l with
    | nil => intro _; exact Nat.zero_le _
    | cons d l ih =>
      intro h
      rw [List.all_cons, Bool.and_eq_true] at h
      have := ih h.2
      rw [journL, ByteArray.size_append, ByteArray.size_append, List.length_cons]
      have : nlW.size = 1 := rfl
      omega
  have := q _ h1
  rw [h3, ByteArray.size_extract] at this
  omega

theorem core_FnExactReadJournal (hI : ∀ s, s.size ≤ 1048576 → impl_ReadJournal s = some (((readJ s).2 : Int), (readJ s).1)) (s : ByteArray) : laws_FnExactReadJournal s = some true := by
  unfold laws_FnExactReadJournal laws_FnExactReadJournal_n1
  by_cases c : ((s.size : Nat) : Int) > 1048576
  · rw [decide_eq_true c]
    rfl
  · rw [decide_eq_false c]
    have z := readJ_length s
    have sp := specReadJ_eq s (by omega)
    have im := hI s (by omega)
    generalize readJ s = q at sp im z
    have m := markDeedS_eq 1 (by omega) q.1 (by omega)
    have h := heldDeedS_eq 1 (by omega) q.1.length (by omega)
    have m' : laws_markDeedS 1 q.1 = some (((1 + 3 * q.1.length : Nat) : Int), markDs 1 q.1.length) := m
    have h' : laws_heldDeedS (markDs 1 q.1.length) 1 = some ((1 + 3 * q.1.length : Nat) : Int) := h
    simp only [cond_false, Option.bind_some, sp, im, eqDeedS_refl q.1 (by omega), m', h', Bool.not_true, bne_self_eq_false]
    simp only [decide_eq_false (show ¬ ((1 + 3 * q.1.length : Nat) : Int) < 0 by omega), cond_false, bne_self_eq_false]

def restB (k x y : Int) : Bool := (((k == 0) || (k == 1)) || (x == 0)) && ((k == 0) || (y == 0))
theorem implRest_eq (k x y : Int) : impl_Deed_restOk k x y = some (restB k x y) := by
  unfold impl_Deed_restOk impl_Deed_restOk_n1 impl_numbersIn impl_numbersIn_n1 restB
  cases k == 0 <;> cases k == 1 <;> cases x == 0 <;> cases y == 0 <;> rfl

def ddL (n : Nat) : List UInt8 := if n < 10 then [UInt8.ofNat (48 + n)] else [UInt8.ofNat (48 + n / 10), UInt8.ofNat (48 + n % 10)]
theorem dd_eq {n : Nat} (h : n < 100) : Lib.decDigits n = ddL n := by
  unfold ddL
  rw [Lib.decDigits]
  by_cases c : n < 10
  · rw [dif_pos c, if_pos c]
  · rw [dif_neg c, if_neg c, Lib.decDigits, dif_pos (show n / 10 < 10 by omega)]
    rfl
def numChk2 (n : Nat) : Bool := match spec_l1Number (n : Int) with
  | some t => (t.data.toList == ddL n) && ((atoiE t).1 == (n : Int))
  | none => false
theorem num_tab2 : ((List.range 100).all numChk2) = true := by decide +kernel
theorem num_ok2 {n : Nat} (h : n < 100) : itoaS (n : Int) = some (numT n) ∧ (atoiE (numT n)).1 = (n : Int) := by
  have h1 := List.all_eq_true.mp num_tab2 n (List.mem_range.mpr h)
  unfold numChk2 at h1
  rw [(num_ok h).1] at h1
  simp only [Bool.and_eq_true, beq_iff_eq] at h1
  refine ⟨?_, h1.2⟩
  unfold itoaS
  rw [if_pos (by omega), Int.toNat_natCast, dd_eq h, ← h1.1]

theorem inText_eq (k a b : Int) : impl_Deed_inText k a b = some (deedB k a b) := by
  unfold impl_Deed_inText impl_Deed_inText_n1 deedB
  rw [implRest_eq]
  unfold restB
  by_cases k0 : k = 0
  · subst k0
    by_cases a0 : 0 ≤ a <;> by_cases a9 : a ≤ 99 <;> by_cases b0 : 0 ≤ b <;> by_cases b9 : b ≤ 99 <;> simp [a0, a9, b0, b9]
  · have z0 : (k == 0) = false := beq_eq_false_iff_ne.mpr k0
    by_cases k1 : k = 1
    · subst k1
      by_cases b0 : b = 0
      · subst b0
        by_cases a0 : 0 ≤ a <;> by_cases a9 : a ≤ 99 <;> simp [a0, a9]
      · rw [beq_eq_false_iff_ne.mpr b0]
        simp
    · have z1 : (k == 1) = false := beq_eq_false_iff_ne.mpr k1
      rw [z0, z1]
      by_cases k2 : 2 ≤ k ∧ k ≤ 5
      · rw [decide_eq_true (show k ≥ 0 by omega), decide_eq_true (show k < 6 by omega), decide_eq_true k2.1, decide_eq_true k2.2]
        by_cases a0 : a = 0
        · by_cases b0 : b = 0
          · subst a0
            subst b0
            rfl
          · rw [beq_eq_false_iff_ne.mpr b0]
            simp
        · rw [beq_eq_false_iff_ne.mpr a0]
          simp
      · have r : (false && decide (0 ≤ a) && decide (a ≤ 99) && decide (0 ≤ b) && decide (b ≤ 99) || false && decide (0 ≤ a) && decide (a ≤ 99) && b == 0 || decide (2 ≤ k) && decide (k ≤ 5) && a == 0 && b == 0) = false := by
          by_cases c2 : 2 ≤ k
          · rw [decide_eq_false (show ¬ k ≤ 5 from fun h => k2 ⟨c2, h⟩)]
            simp
          · rw [decide_eq_false c2]
            simp
        rw [r]
        by_cases c0 : k ≥ 0
        · rw [decide_eq_true c0, decide_eq_false (show ¬ k < 6 by omega)]
          rfl
        · rw [decide_eq_false c0]
          rfl

theorem nloop_s {σ ω : Type} {body : σ → Option (σ ⊕ ω)} {s s' : σ} (h : body s = some (.inl s')) (N : Nat) : nloop body (N + 1) s = nloop body N s' := by
  rw [nloop, h]
  rfl
theorem nloop_e {σ ω : Type} {body : σ → Option (σ ⊕ ω)} {s : σ} {o : ω} (h : body s = some (.inr o)) (N : Nat) : nloop body (N + 1) s = some o := by
  rw [nloop, h]
  rfl
theorem LL3 : ∃ N, LL = N + 1 + 1 + 1 := ⟨LL - 3, by simp only [LL]⟩

abbrev dtBody (xs : List Int) (n : Int) : ByteArray × Int → Option ((ByteArray × Int) ⊕ ByteArray) :=
  fun (s : ByteArray × Int) => ((impl_DeedText_n3 s.1 xs n s.2).map (Sum.elim (fun (t : ByteArray × Int) => Sum.inl (t.1, t.2)) (fun (t : ByteArray) => Sum.inr t)) : Option ((ByteArray × Int) ⊕ (ByteArray)))

theorem dt_step {t : ByteArray} {xs : List Int} {n : Int} {k m : Nat} (ht : t.size ≤ 1000) (hk : k < xs.length) (h1000 : k < 1000) (hn : (k : Int) < n) (hm : m < 100) (hx : xs[k] = (m : Int)) :
    dtBody xs n (t, (k : Int)) = some (.inl (t ++ (spaceW ++ numT m), ((k + 1 : Nat) : Int))) := by
  obtain ⟨_, n2, n3, _⟩ := num_ok hm
  have w : IntKind.wrap .i64 ((k : Int) + 1) = ((k + 1 : Nat) : Int) := by rw [wrap64 (by omega) (by omega)]; omega
  have s1 : (spaceW ++ numT m).size ≤ 3 := by rw [ByteArray.size_append]; show 1 + _ ≤ 3; omega
  simp only [dtBody, impl_DeedText_n3]
  rw [decide_eq_true hn, idx_lt hk, hx, w]
  simp only [cond_true, Option.bind_some, strconv_Itoa, (num_ok2 hm).1]
  rw [show cat (ByteArray.mk #[32]) (numT m) = some (spaceW ++ numT m) from catT (by show 1 + _ ≤ _; omega)]
  simp only [Option.bind_some]
  rw [catT (by omega)]
  rfl
theorem dt_end {t : ByteArray} {xs : List Int} {n k : Int} (hn : ¬ k < n) : dtBody xs n (t, k) = some (.inr t) := by
  simp only [dtBody, impl_DeedText_n3]
  rw [decide_eq_false hn]
  rfl

theorem implDeedText_eq (k a b : Int) : impl_DeedText k a b = some (deedT k a b) := by
  have e : impl_DeedText k a b = impl_DeedText_n9 k a b := by unfold impl_DeedText; rfl
  rw [e]
  unfold impl_DeedText_n9 impl_DeedText_n1
  rw [inText_eq, Option.bind_some]
  cases d : deedB k a b with
  | false => rw [deed_none d]; rfl
  | true =>
    simp only [Bool.not_true, cond_false]
    rcases deedB_cases d with ⟨n, m, hn, hm, rfl, rfl, rfl⟩ | ⟨n, hn, rfl, rfl, rfl⟩ | ⟨h2, h5, rfl, rfl⟩
    · have i : idx tabW 0 = some (ByteArray.mk #[104, 101, 97, 100]) := rfl
      rw [i, show same (List.length tabW) 6 = some () from rfl]
      simp only [Option.bind_some, Sum.elim_inl]
      unfold impl_DeedText_n8 impl_DeedText_n6 impl_DeedText_n2 impl_DeedText_n5 impl_DeedText_n4 impl_DeedText_n7
      have nn : impl_numbersIn 0 = some 2 := by unfold impl_numbersIn; rfl
      rw [nn, Option.bind_some, show inc 2 (List.length [(n : Int), (m : Int)]) = some 2 from rfl]
      simp only [Option.bind_some]
      have L : nloop (dtBody [(n : Int), (m : Int)] 2) LL (ByteArray.mk #[104, 101, 97, 100], ((0 : Nat) : Int)) = some (ByteArray.mk #[104, 101, 97, 100] ++ (spaceW ++ numT n) ++ (spaceW ++ numT m)) := by
        obtain ⟨_, n2, n3, _⟩ := num_ok hn
        obtain ⟨N, hN⟩ := LL3
        rw [hN, nloop_s (dt_step (m := n) (by decide) (by simp) (by decide) (by decide) hn rfl), nloop_s (dt_step (m := m) (by rw [ByteArray.size_append, ByteArray.size_append]; show 4 + (1 + _) ≤ 1000; omega) (by simp) (by decide) (by decide) hm rfl), nloop_e (dt_end (by decide))]
      have L' : nloop _ LL (ByteArray.mk #[104, 101, 97, 100], (0 : Int)) = _ := L
      refine (congrArg (fun x : Option ByteArray => (x.map fun t => t).bind fun t => some t) L').trans ?_
      rw [deed_head hn hm]
      simp only [Option.map_some, Option.bind_some]
      congr 1
      refine bytesN_inj ?_
      simp only [bytesN_app]
      rw [show bytesN headW = bytesN (ByteArray.mk #[104, 101, 97, 100]) ++ bytesN spaceW from rfl]
      simp
    · have i : idx tabW 1 = some (ByteArray.mk #[97, 100, 100]) := rfl
      rw [i, show same (List.length tabW) 6 = some () from rfl]
      simp only [Option.bind_some, Sum.elim_inl]
      unfold impl_DeedText_n8 impl_DeedText_n6 impl_DeedText_n2 impl_DeedText_n5 impl_DeedText_n4 impl_DeedText_n7
      have nn : impl_numbersIn 1 = some 1 := by unfold impl_numbersIn; rfl
      rw [nn, Option.bind_some, show inc 1 (List.length [(n : Int), 0]) = some 1 from rfl]
      simp only [Option.bind_some]
      have L : nloop (dtBody [(n : Int)] 1) LL (ByteArray.mk #[97, 100, 100], ((0 : Nat) : Int)) = some (ByteArray.mk #[97, 100, 100] ++ (spaceW ++ numT n)) := by
        obtain ⟨N, hN⟩ := LL3
        rw [hN, nloop_s (dt_step (m := n) (by decide) (by simp) (by decide) (by decide) hn rfl), nloop_e (dt_end (by decide))]
      have L' : nloop _ LL (ByteArray.mk #[97, 100, 100], (0 : Int)) = _ := L
      refine (congrArg (fun x : Option ByteArray => (x.map fun t => t).bind fun t => some t) L').trans ?_
      rw [deed_add hn]
      simp only [Option.map_some, Option.bind_some]
      congr 1
    · rw [deed_word h2 h5, show same (List.length tabW) 6 = some () from rfl]
      have nn : impl_numbersIn k = some 0 := by
        unfold impl_numbersIn impl_numbersIn_n1
        rw [beq_eq_false_iff_ne.mpr (show k ≠ 0 by omega), beq_eq_false_iff_ne.mpr (show k ≠ 1 by omega)]
        rfl
      have i : idx tabW k = some (wordW k) := by
        rcases wordW_eq h2 h5 with rfl | rfl | rfl | rfl <;> rfl
      rw [i]
      simp only [Option.bind_some, Sum.elim_inl]
      unfold impl_DeedText_n8 impl_DeedText_n6 impl_DeedText_n2 impl_DeedText_n5 impl_DeedText_n4 impl_DeedText_n7
      rw [nn, Option.bind_some, show inc 0 (List.length [(0 : Int), 0]) = some 0 from rfl]
      simp only [Option.bind_some]
      have L : nloop (dtBody ([] : List Int) 0) LL (wordW k, ((0 : Nat) : Int)) = some (wordW k) := by
        obtain ⟨N, hN⟩ := LL3
        rw [hN, nloop_e (dt_end (by decide))]
      have L' : nloop _ LL (wordW k, (0 : Int)) = _ := L
      exact (congrArg (fun x : Option ByteArray => (x.map fun t => t).bind fun t => some t) L').trans rfl

theorem indexByte_is : ∀ (l : List UInt8) (c : UInt8), (Lib.indexByte l c = -1 ∧ c ∉ l) ∨ ∃ l1 l2, l = l1 ++ c :: l2 ∧ c ∉ l1 ∧ Lib.indexByte l c = (l1.length : Int)
  | [], c => .inl ⟨rfl, by simp⟩
  | b :: l, c => by
    rw [Lib.indexByte]
    by_cases e : b = c
    · subst e
      rw [beq_self_eq_true, if_pos rfl]
      exact .inr ⟨[], l, rfl, by simp, rfl⟩
    · rw [beq_eq_false_iff_ne.mpr e, if_neg (by simp)]
      rcases indexByte_is l c with ⟨h1, h2⟩ | ⟨l1, l2, rfl, h2, h3⟩
      · rw [h1]
        exact .inl ⟨rfl, fun m => by
          rcases List.mem_cons.1 m with m | m
          · exact e m.symm
          · exact h2 m⟩
      · rw [h3, beq_eq_false_iff_ne.mpr (show ((l1.length : Nat) : Int) ≠ -1 by omega), if_neg (by simp)]
        exact .inr ⟨b :: l1, l2, rfl, fun m => by
          rcases List.mem_cons.1 m with m | m
          · exact e m.symm
          · exact h2 m, by simp⟩

theorem cut_unique {α : Type} {x : α} : ∀ {l1 m1 l2 m2 : List α}, l1 ++ x :: l2 = m1 ++ x :: m2 → x ∉ l1 → x ∉ m1 → l1 = m1 ∧ l2 = m2
  | [], [], l2, m2, h, _, _ => by simpa using h
  | [], y :: m1, l2, m2, h, _, n => by simp at h; exact absurd (by rw [h.1]; exact List.mem_cons_self ..) n
  | y :: l1, [], l2, m2, h, n, _ => by simp at h; exact absurd (by rw [← h.1]; exact List.mem_cons_self ..) n
  | y :: l1, z :: m1, l2, m2, h, n1, n2 => by
    simp only [List.cons_append, List.cons.injEq] at h
    obtain ⟨rfl, h⟩ := h
    obtain ⟨rfl, rfl⟩ := cut_unique h (fun m => n1 (List.mem_cons_of_mem _ m)) (fun m => n2 (List.mem_cons_of_mem _ m))
    exact ⟨rfl, rfl⟩

theorem sidx_is (s : ByteArray) (c : UInt8) : (sidx s (ByteArray.mk #[c]) = some (-1) ∧ c.toNat ∉ bytesN s) ∨ ∃ l1 l2, bytesN s = l1 ++ c.toNat :: l2 ∧ c.toNat ∉ l1 ∧ sidx s (ByteArray.mk #[c]) = some (l1.length : Int) := by
  have e : sidx s (ByteArray.mk #[c]) = some (Lib.indexByte s.data.toList c) := rfl
  have inj : ∀ (l : List UInt8), c ∉ l → c.toNat ∉ l.map (fun b : UInt8 => b.toNat) := fun l h m => by
    obtain ⟨b, hb, e⟩ := List.mem_map.1 m
    exact h (UInt8.toNat_inj.mp e ▸ hb)
  rw [e]
  rcases indexByte_is s.data.toList c with ⟨h1, h2⟩ | ⟨l1, l2, h1, h2, h3⟩
  · exact .inl ⟨by rw [h1], inj _ h2⟩
  · refine .inr ⟨l1.map (fun b : UInt8 => b.toNat), l2.map (fun b : UInt8 => b.toNat), ?_, inj _ h2, by rw [h3]; simp⟩
    unfold bytesN
    rw [h1]
    simp
theorem sidx_none {s : ByteArray} {c : UInt8} (h : c.toNat ∉ bytesN s) : sidx s (ByteArray.mk #[c]) = some (-1) := by
  rcases sidx_is s c with ⟨h1, _⟩ | ⟨l1, l2, h1, _, _⟩
  · exact h1
  · exact absurd (by rw [h1]; simp) h
theorem sidx_cut {s : ByteArray} {c : UInt8} {l1 l2 : List Nat} (h : bytesN s = l1 ++ c.toNat :: l2) (n : c.toNat ∉ l1) : sidx s (ByteArray.mk #[c]) = some (l1.length : Int) := by
  rcases sidx_is s c with ⟨_, h2⟩ | ⟨m1, m2, h1, h2, h3⟩
  · exact absurd (by rw [h]; simp) h2
  · obtain ⟨rfl, _⟩ := cut_unique (h.symm.trans h1) n h2
    exact h3

/-- The parts of a text on both sides of a byte. -/
theorem cut_left {s : ByteArray} {x : Nat} {l1 l2 : List Nat} (h : bytesN s = l1 ++ x :: l2) : s.extract 0 l1.length = toB l1 := by
  rw [← toB_bytes (s.extract 0 l1.length), bytesN_extract, h, List.drop_zero, List.take_left']
  rfl
theorem cut_right {s : ByteArray} {x : Nat} {l1 l2 : List Nat} (h : bytesN s = l1 ++ x :: l2) : s.extract (l1.length + 1) s.size = toB l2 := by
  have hl : s.size = l1.length + (l2.length + 1) := by rw [← bytesN_length, h]; simp
  rw [← toB_bytes (s.extract (l1.length + 1) s.size), bytesN_extract, h, List.take_of_length_le (by simp; omega)]
  congr 1
  rw [List.drop_append]
  simp
theorem bytesN_toB {l : List Nat} (h : ∀ x ∈ l, x < 256) : bytesN (toB l) = l := by
  unfold bytesN toB
  simp only [List.map_map]
  refine (List.map_congr_left (g := id) fun y hy => ?_).trans (List.map_id _)
  exact UInt8.toNat_ofNat_of_lt' (h y hy)
theorem cut_lt {s : ByteArray} {x : Nat} {l1 l2 : List Nat} (h : bytesN s = l1 ++ x :: l2) : (∀ y ∈ l1, y < 256) ∧ (∀ y ∈ l2, y < 256) ∧ l1.length + (l2.length + 1) = s.size := by
  refine ⟨fun y hy => bytesN_lt (a := s) y (by rw [h]; simp [hy]), fun y hy => bytesN_lt (a := s) y (by rw [h]; simp [hy]), ?_⟩
  rw [← bytesN_length, h]
  simp

abbrev gsBody (n : Int) : ByteArray × Int × List ByteArray → Option ((ByteArray × Int × List ByteArray) ⊕ (ByteArray × Int × List ByteArray)) :=
  fun (s : ByteArray × Int × (List ByteArray)) => ((strings_genSplit_n2 s.1 (ByteArray.mk #[32]) 0 n s.2.1 s.2.2).map (Sum.elim (fun (t : ByteArray × Int × (List ByteArray)) => Sum.inl (t.1, t.2.1, t.2.2)) (fun (t : ByteArray × Int × (List ByteArray)) => Sum.inr t)) : Option ((ByteArray × Int × (List ByteArray)) ⊕ ((ByteArray × Int × (List ByteArray)))))

theorem strIndex_eq (s t : ByteArray) : strings_Index s t = (sidx s t).bind some := by
  unfold strings_Index strings_Index_n1 internal_stringslite_Index
  rfl
theorem gs_end {n i : Int} {t : ByteArray} {row : List ByteArray} (h : ¬ i < n) : gsBody n (t, i, row) = some (.inr (t, i, row)) := by
  simp only [gsBody, strings_genSplit_n2]
  rw [decide_eq_false h]
  rfl
theorem gs_none {n i : Int} {t : ByteArray} {row : List ByteArray} (h : i < n) (c : 32 ∉ bytesN t) : gsBody n (t, i, row) = some (.inr (t, i, row)) := by
  simp only [gsBody, strings_genSplit_n2]
  rw [decide_eq_true h, strIndex_eq, sidx_none (c := 32) c]
  rfl
theorem gs_cut {n : Int} {k : Nat} {t : ByteArray} {row : List ByteArray} {l1 l2 : List Nat} (h : (k : Int) < n) (hk : k < row.length) (hr : k ≤ 1000) (ht : t.size ≤ 1000000000) (c : bytesN t = l1 ++ 32 :: l2) (d : 32 ∉ l1) :
    gsBody n (t, (k : Int), row) = some (.inl (toB l2, ((k + 1 : Nat) : Int), row.set k (toB l1))) := by
  obtain ⟨_, _, hl⟩ := cut_lt c
  have w1 : IntKind.wrap .i64 (((l1.length : Nat) : Int) + 0) = ((l1.length : Nat) : Int) := by rw [wrap64 (by omega) (by omega)]; omega
  have w2 : IntKind.wrap .i64 (((l1.length : Nat) : Int) + (((ByteArray.mk #[32]).size : Nat) : Int)) = ((l1.length + 1 : Nat) : Int) := by
    show IntKind.wrap .i64 (((l1.length : Nat) : Int) + 1) = _
    rw [wrap64 (by omega) (by omega)]; omega
  have w3 : IntKind.wrap .i64 ((k : Int) + 1) = ((k + 1 : Nat) : Int) := by rw [wrap64 (by omega) (by omega)]; omega
  simp only [gsBody, strings_genSplit_n2]
  rw [decide_eq_true h, strIndex_eq, sidx_cut (c := 32) c d]
  simp only [cond_true, Option.bind_some]
  rw [decide_eq_false (by omega), w1, w2, w3, cond_false, inc_ok (by omega) (by omega), Option.bind_some, inb_nat hk, Option.bind_some, inc_ok (by omega) (by omega), Option.bind_some, Int.toNat_natCast, Int.toNat_natCast, cut_left c, cut_right c]
  rfl

/-- What a text in parts is. -/
def PartsAt (s : ByteArray) (n : Nat) (row : List ByteArray) : Prop :=
  n ≤ row.length ∧ 1 ≤ n ∧ n ≤ 3 ∧ (∀ x ∈ row, x.size ≤ s.size) ∧
  (32 ∉ bytesN s → n = 1 ∧ row[0]? = some s) ∧
  (∀ l1 l2, bytesN s = l1 ++ 32 :: l2 → 32 ∉ l1 → 32 ∉ l2 → n = 2 ∧ row[0]? = some (toB l1) ∧ row[1]? = some (toB l2)) ∧
  (∀ l1 l2 l3, bytesN s = l1 ++ 32 :: (l2 ++ 32 :: l3) → 32 ∉ l1 → 32 ∉ l2 → n = 3 ∧ row[0]? = some (toB l1) ∧ row[1]? = some (toB l2) ∧ row[2]? = some (toB l3))

theorem toB_size (l : List Nat) : (toB l).size = l.length := by
  show (Array.size _) = _
  simp [toB]

theorem in_space {s : ByteArray} (h : ¬ 32 ∉ bytesN s) : ∃ l1 l2, bytesN s = l1 ++ 32 :: l2 ∧ 32 ∉ l1 := by
  rcases sidx_is s 32 with ⟨_, h2⟩ | ⟨l1, l2, h1, h2, _⟩
  · exact absurd h2 h
  · exact ⟨l1, l2, h1, h2⟩

theorem splitN_ok (s : ByteArray) (hs : s.size ≤ 1000000000) : ∃ n row, strings_SplitN s (ByteArray.mk #[32]) 3 = some (n, row) ∧ PartsAt s n row := by
  obtain ⟨N, hN⟩ := LL3
  have e : strings_SplitN s (ByteArray.mk #[32]) 3 = strings_SplitN_n1 s (ByteArray.mk #[32]) 3 := by unfold strings_SplitN; rfl
  have e2 : strings_genSplit s (ByteArray.mk #[32]) 0 3 = strings_genSplit_n7 s (ByteArray.mk #[32]) 0 3 := by unfold strings_genSplit; rfl
  rw [e]
  unfold strings_SplitN_n1
  rw [e2]
  unfold strings_genSplit_n7 strings_genSplit_n1
  have w : IntKind.wrap .i64 (((s.size : Nat) : Int) + 1) = ((s.size + 1 : Nat) : Int) := by rw [wrap64 (by omega) (by omega)]; omega
  have sp : seqs (ByteArray.mk #[32]) ByteArray.empty = false := seqs_ne (by decide)
  rw [sp, w, show ((3 : Int) == 0) = false from rfl, show decide ((3 : Int) < 0) = false from rfl]
  simp only [cond_false]
  -- how many parts there may be
  obtain ⟨m, hm, m1, m3, ms⟩ : ∃ m : Nat, imin 3 ((s.size + 1 : Nat) : Int) = (m : Int) ∧ 1 ≤ m ∧ m ≤ 3 ∧ ∀ q, q ≤ s.size → q ≤ 2 → q < m := by
    by_cases c : s.size + 1 ≤ 3
    · refine ⟨s.size + 1, ?_, by omega, by omega, fun q h1 h2 => by omega⟩
      unfold imin
      split <;> omega
    · refine ⟨3, ?_, by omega, by omega, fun q h1 h2 => by omega⟩
      unfold imin
      split <;> omega
  rw [hm, mk_nat (by omega), Option.bind_some, wrap64 (x := (m : Int) - 1) (by omega) (by omega)]
  simp only [Option.bind_some, Sum.elim_inl]
  unfold strings_genSplit_n6 strings_genSplit_n4 strings_genSplit_n3
  -- how it ends
  have fin : ∀ (t : ByteArray) (k : Nat) (row : List ByteArray), row.length = m → k < m → nloop (gsBody ((m : Int) - 1)) LL (s, ((0 : Nat) : Int), List.replicate m ByteArray.empty) = some (t, ((k : Nat) : Int), row) → PartsAt s (k + 1) (row.set k t) →
      ∃ n row', ((((nloop (gsBody ((m : Int) - 1)) LL (s, ((0 : Nat) : Int), List.replicate m ByteArray.empty)).map (fun (t : ByteArray × Int × (List ByteArray)) => (t.1, t.2.1, t.2.2))).bind (fun (t : ByteArray × Int × (List ByteArray)) => strings_genSplit_n5 t.1 t.2.1 t.2.2)).bind fun (v : Nat × (List ByteArray)) => some ((v.1), (v.2))) = some (n, row') ∧ PartsAt s n row' := by
    intro t k row hl hk hL hP
    rw [hL]
    simp only [Option.map_some, Option.bind_some]
    unfold strings_genSplit_n5
    have w3 : IntKind.wrap .i64 ((k : Int) + 1) = ((k + 1 : Nat) : Int) := by rw [wrap64 (by omega) (by omega)]; omega
    rw [inb_nat (by omega), Option.bind_some, w3, inc_ok (by omega) (by rw [List.length_set]; omega), Option.bind_some, Option.bind_some, Int.toNat_natCast, Nat.sub_zero]
    exact ⟨k + 1, row.set k t, rfl, hP⟩
  have r0 : (List.replicate m ByteArray.empty).length = m := List.length_replicate ..
  have small : ∀ x ∈ List.replicate m ByteArray.empty, x.size ≤ s.size := fun x hx => by rw [(List.mem_replicate.1 hx).2]; exact Nat.zero_le _
  have setle : ∀ {row : List ByteArray} {k : Nat} {y : ByteArray}, (∀ x ∈ row, x.size ≤ s.size) → y.size ≤ s.size → ∀ x ∈ row.set k y, x.size ≤ s.size := fun {row k y} h hy x hx => by
    rcases List.mem_or_eq_of_mem_set hx with h' | h'
    · exact h x h'
    · rw [h']; exact hy
  by_cases c1 : 32 ∉ bytesN s
  · refine fin s 0 _ r0 (by omega) ?_ ⟨by rw [List.length_set]; omega, by omega, by omega, setle small (Nat.le_refl _), fun _ => ⟨rfl, by rw [List.getElem?_set_self (by omega)]⟩, fun l1 l2 h _ _ => absurd (by rw [h]; simp) c1, fun l1 l2 l3 h _ _ => absurd (by rw [h]; simp) c1⟩
    rw [hN]
    by_cases q : ((0 : Nat) : Int) < (m : Int) - 1
    · exact nloop_e (gs_none q c1) _
    · exact nloop_e (gs_end q) _
  · obtain ⟨l1, l2, h1, d1⟩ := in_space c1
    obtain ⟨b1, b2, hl⟩ := cut_lt h1
    have m2 : 1 < m := ms 1 (by omega) (by omega)
    have st1 := gs_cut (n := (m : Int) - 1) (k := 0) (t := s) (row := List.replicate m ByteArray.empty) (by omega) (by omega) (by omega) hs h1 d1
    have z1 : (toB l1).size ≤ s.size := by rw [toB_size]; omega
    have z2 : (toB l2).size ≤ s.size := by rw [toB_size]; omega
    have bb : bytesN (toB l2) = l2 := bytesN_toB b2
    by_cases c2 : 32 ∉ l2
    · refine fin (toB l2) 1 ((List.replicate m ByteArray.empty).set 0 (toB l1)) (by rw [List.length_set]; omega) (by omega) ?_ ⟨by rw [List.length_set, List.length_set]; omega, by omega, by omega, setle (setle small z1) z2, fun h => absurd h c1, fun a b h da db => ?_, fun a b c h da db => ?_⟩
      · rw [hN, nloop_s st1]
        by_cases q : ((0 + 1 : Nat) : Int) < (m : Int) - 1
        · exact nloop_e (gs_none q (by rw [bb]; exact c2)) _
        · exact nloop_e (gs_end q) _
      · obtain ⟨rfl, rfl⟩ := cut_unique (h1.symm.trans h) d1 da
        refine ⟨rfl, ?_, by rw [List.getElem?_set_self (by rw [List.length_set]; omega)]⟩
        rw [List.getElem?_set_ne (by omega), List.getElem?_set_self (by omega)]
      · obtain ⟨rfl, rfl⟩ := cut_unique (h1.symm.trans h) d1 da
        exact absurd (by simp) c2
    · obtain ⟨k1, k2, h2, d2⟩ := in_space (s := toB l2) (by rw [bb]; exact c2)
      obtain ⟨b3, b4, hl2⟩ := cut_lt h2
      rw [toB_size] at hl2
      have m3' : 2 < m := ms 2 (by omega) (by omega)
      have st2 := gs_cut (n := (m : Int) - 1) (k := 1) (t := toB l2) (row := (List.replicate m ByteArray.empty).set 0 (toB l1)) (by omega) (by rw [List.length_set]; omega) (by omega) (by rw [toB_size]; omega) h2 d2
      have z3 : (toB k1).size ≤ s.size := by rw [toB_size]; omega
      have z4 : (toB k2).size ≤ s.size := by rw [toB_size]; omega
      rw [bb] at h2
      refine fin (toB k2) 2 (((List.replicate m ByteArray.empty).set 0 (toB l1)).set 1 (toB k1)) (by rw [List.length_set, List.length_set]; omega) (by omega) ?_ ⟨by rw [List.length_set, List.length_set, List.length_set]; omega, by omega, by omega, setle (setle (setle small z1) z3) z4, fun h => absurd h c1, fun a b h da db => ?_, fun a b c h da db => ?_⟩
      · rw [hN, nloop_s st1, nloop_s st2]
        exact nloop_e (gs_end (by omega)) _
      · obtain ⟨rfl, rfl⟩ := cut_unique (h1.symm.trans h) d1 da
        exact absurd db c2
      · obtain ⟨rfl, e2⟩ := cut_unique (h1.symm.trans h) d1 da
        obtain ⟨rfl, rfl⟩ := cut_unique (h2.symm.trans e2) d2 db
        refine ⟨rfl, ?_, ?_, by rw [List.getElem?_set_self (by rw [List.length_set, List.length_set]; omega)]⟩
        · rw [List.getElem?_set_ne (by omega), List.getElem?_set_ne (by omega), List.getElem?_set_self (by omega)]
        · rw [List.getElem?_set_ne (by omega), List.getElem?_set_self (by rw [List.length_set]; omega)]

theorem kind_some (w : ByteArray) : ∃ k, impl_kindFor w = some k := by
  have e : impl_kindFor w = impl_kindFor_n9 w := by unfold impl_kindFor; rfl
  rw [e]
  unfold impl_kindFor_n9 impl_kindFor_n1 impl_kindFor_n8 impl_kindFor_n6 impl_kindFor_n2 impl_kindFor_n5 impl_kindFor_n4 impl_kindFor_n7
  rw [show same (List.length tabW) 6 = some () from rfl]
  simp only [Option.bind_some]
  obtain ⟨r, hr, _⟩ := nloop_ex (body := fun (s : Int) => ((impl_kindFor_n3 w (tabW.getD 0 ByteArray.empty) (tabW.getD 1 ByteArray.empty) (tabW.getD 2 ByteArray.empty) (tabW.getD 3 ByteArray.empty) (tabW.getD 4 ByteArray.empty) (tabW.getD 5 ByteArray.empty) s).map (Sum.elim (fun (t : Int) => Sum.inl t) (Sum.elim (fun (t : Int) => Sum.inr (Sum.inl t)) (fun (t : Unit) => Sum.inr (Sum.inr t)))) : Option ((Int) ⊕ (Int ⊕ Unit))))
    (I := fun s => 0 ≤ s ∧ s ≤ 6) (μ := fun s => (6 - s).toNat) (Q := fun _ => True)
    (by
      intro s ⟨s0, s6⟩
      unfold impl_kindFor_n3
      by_cases c : s < 6
      · rw [decide_eq_true c]
        obtain ⟨j, rfl⟩ := Int.eq_ofNat_of_zero_le s0
        have hj : j < [tabW.getD 0 ByteArray.empty, tabW.getD 1 ByteArray.empty, tabW.getD 2 ByteArray.empty, tabW.getD 3 ByteArray.empty, tabW.getD 4 ByteArray.empty, tabW.getD 5 ByteArray.empty].length := by simp; omega
        rw [cond_true, idx_lt hj, Option.bind_some, wrap64 (by omega) (by omega)]
        cases seqs _ w with
        | true => exact .inr ⟨_, rfl, trivial⟩
        | false => exact .inl ⟨_, rfl, ⟨by omega, by omega⟩, by omega⟩
      · rw [decide_eq_false c]
        exact .inr ⟨_, rfl, trivial⟩) LL 0 ⟨by omega, by omega⟩ (by simp only [LL]; omega)
  have hr' : nloop _ LL (0 : Int) = some r := hr
  rw [hr']
  cases r with
  | inl x => exact ⟨_, rfl⟩
  | inr x => exact ⟨_, rfl⟩

theorem kind_word : impl_kindFor (ByteArray.mk #[104, 101, 97, 100]) = some 0 ∧ impl_kindFor (ByteArray.mk #[97, 100, 100]) = some 1 ∧ impl_kindFor (wordW 2) = some 2 ∧ impl_kindFor (wordW 3) = some 3 ∧ impl_kindFor (wordW 4) = some 4 ∧ impl_kindFor (wordW 5) = some 5 := by
  decide +kernel

theorem atoi_some {t : ByteArray} (h : t.size ≤ 1000000000) : strconv_Atoi t = some (atoiE t) := by
  unfold strconv_Atoi atoiS
  rw [if_pos (by omega)]

def guessR (s : ByteArray) (k x y : Int) (t : ByteArray) : Bool × Int × Int × Int := cond (seqs s ByteArray.empty) (false, 0, 0, 0) (cond (!(seqs t s)) (false, 0, 0, 0) (true, k, x, y))

theorem implRead_eq (s : ByteArray) (hs : s.size ≤ 100000000) : impl_ReadDeed s = some (readI s) := by
  obtain ⟨n, row, hsp, hn, n1, n3, hsz, p1, p2, p3⟩ := splitN_ok s (by omega)
  have e : impl_ReadDeed s = impl_ReadDeed_n1 s := by unfold impl_ReadDeed; rfl
  have rs : ∀ i (hi : i < row.length), row[i].size ≤ 1000000000 := fun i hi => by have := hsz _ (List.getElem_mem hi); omega
  obtain ⟨k, hk⟩ := kind_some (row[0]'(by omega))
  -- what is told
  have G : impl_ReadDeed s = some (guessR s k (if h : 1 < n then (atoiE (row[1]'(by omega))).1 else 0) (if h : 2 < n then (atoiE (row[2]'(by omega))).1 else 0) (deedT k (if h : 1 < n then (atoiE (row[1]'(by omega))).1 else 0) (if h : 2 < n then (atoiE (row[2]'(by omega))).1 else 0))) := by
    rw [e]
    unfold impl_ReadDeed_n1 guessR
    rw [hsp]
    simp only [Option.bind_some, Nat.zero_add]
    rw [show (0 : Int) = ((0 : Nat) : Int) from rfl, inb_nat (show 0 < n by omega), Option.bind_some, List.getElem?_eq_getElem (show 0 < row.length by omega), Option.bind_some, hk, Option.bind_some]
    by_cases c1 : 1 < n
    · rw [decide_eq_true (show (n : Int) > 1 by omega), cond_true, show (1 : Int) = ((1 : Nat) : Int) from rfl, inb_nat c1, Option.bind_some, List.getElem?_eq_getElem (show 1 < row.length by omega), Option.bind_some, atoi_some (rs 1 _), Option.bind_some, dif_pos c1]
      by_cases c2 : 2 < n
      · rw [decide_eq_true (show (n : Int) > 2 by omega), cond_true, show (2 : Int) = ((2 : Nat) : Int) from rfl, inb_nat c2, Option.bind_some, List.getElem?_eq_getElem (show 2 < row.length by omega), Option.bind_some, atoi_some (rs 2 _), Option.bind_some, dif_pos c2, implDeedText_eq]
        cases seqs s ByteArray.empty with
        | true => rfl
        | false =>
          simp only [cond_false, Option.bind_some]
          cases seqs _ s <;> rfl
      · rw [decide_eq_false (show ¬ (n : Int) > 2 by omega), cond_false, dif_neg c2]
        have := implDeedText_eq k (atoiE (row[1]'(by omega))).1 0
        rw [show ((0 : Nat) : Int) = 0 from rfl, this]
        cases seqs s ByteArray.empty with
        | true => rfl
        | false =>
          simp only [cond_false, Option.bind_some]
          cases seqs _ s <;> rfl
    · rw [decide_eq_false (show ¬ (n : Int) > 1 by omega), cond_false, decide_eq_false (show ¬ (n : Int) > 2 by omega), cond_false, dif_neg c1, dif_neg (show ¬ 2 < n by omega)]
      have := implDeedText_eq k 0 0
      rw [show ((0 : Nat) : Int) = 0 from rfl, this]
      cases seqs s ByteArray.empty with
      | true => rfl
      | false =>
        simp only [cond_false, Option.bind_some]
        cases seqs _ s <;> rfl
  rw [G]
  by_cases q : ∃ d : Int × Int × Int, deedB d.1 d.2.1 d.2.2 = true ∧ deedT d.1 d.2.1 d.2.2 = s
  · obtain ⟨⟨k', a, b⟩, d, t⟩ := q
    simp only at d t
    have R := read_deed d
    rw [t] at R
    have ne := deed_ne d
    rw [t] at ne
    rw [R]
    -- what is told is the deed
    have same : k = k' ∧ (if h : 1 < n then (atoiE (row[1]'(by omega))).1 else 0) = a ∧ (if h : 2 < n then (atoiE (row[2]'(by omega))).1 else 0) = b := by
      have at0 : ∀ {x : ByteArray}, row[0]? = some x → row[0]'(by omega) = x := fun h => by
        rw [List.getElem?_eq_getElem (show 0 < row.length by omega)] at h
        exact Option.some.inj h
      rcases deedB_cases d with ⟨u, v, hu, hv, rfl, rfl, rfl⟩ | ⟨u, hu, rfl, rfl, rfl⟩ | ⟨h2, h5, rfl, rfl⟩
      · have hb : bytesN s = [104, 101, 97, 100] ++ 32 :: (bytesN (numT u) ++ 32 :: bytesN (numT v)) := by
          rw [← t, deed_head hu hv, bytesN_app, bytesN_app, bytesN_app]
          rw [show bytesN headW = [104, 101, 97, 100] ++ [32] from rfl, show bytesN spaceW = [32] from rfl]
          simp
        obtain ⟨rfl, r0, r1, r2⟩ := p3 _ _ _ hb (by decide) (no_space hu)
        rw [toB_bytes] at r1 r2
        have k0 := at0 r0
        rw [k0, show toB [104, 101, 97, 100] = ByteArray.mk #[104, 101, 97, 100] from rfl, kind_word.1] at hk
        rw [List.getElem?_eq_getElem (show 1 < row.length by omega)] at r1
        rw [List.getElem?_eq_getElem (show 2 < row.length by omega)] at r2
        refine ⟨(Option.some.inj hk).symm, ?_, ?_⟩
        · rw [dif_pos (by omega), Option.some.inj r1, (num_ok2 hu).2]
        · rw [dif_pos (by omega), Option.some.inj r2, (num_ok2 hv).2]
      · have hb : bytesN s = [97, 100, 100] ++ 32 :: bytesN (numT u) := by
          rw [← t, deed_add hu, bytesN_app]
          rw [show bytesN addW = [97, 100, 100] ++ [32] from rfl]
          simp
        obtain ⟨rfl, r0, r1⟩ := p2 _ _ hb (by decide) (no_space hu)
        rw [toB_bytes] at r1
        have k0 := at0 r0
        rw [k0, show toB [97, 100, 100] = ByteArray.mk #[97, 100, 100] from rfl, kind_word.2.1] at hk
        rw [List.getElem?_eq_getElem (show 1 < row.length by omega)] at r1
        refine ⟨(Option.some.inj hk).symm, ?_, ?_⟩
        · rw [dif_pos (by omega), Option.some.inj r1, (num_ok2 hu).2]
        · rw [dif_neg (by omega)]
      · have hw : s = wordW k' := by rw [← t, deed_word h2 h5]
        obtain ⟨rfl, r0⟩ := p1 (by
          rw [hw]
          rcases wordW_eq h2 h5 with rfl | rfl | rfl | rfl <;> decide)
        have k0 := at0 r0
        rw [k0, hw] at hk
        refine ⟨?_, by rw [dif_neg (by omega)], by rw [dif_neg (by omega)]⟩
        have kw := kind_word
        rcases wordW_eq h2 h5 with rfl | rfl | rfl | rfl
        · rw [kw.2.2.1] at hk; exact (Option.some.inj hk).symm
        · rw [kw.2.2.2.1] at hk; exact (Option.some.inj hk).symm
        · rw [kw.2.2.2.2.1] at hk; exact (Option.some.inj hk).symm
        · rw [kw.2.2.2.2.2] at hk; exact (Option.some.inj hk).symm
    obtain ⟨e1, e2, e3⟩ := same
    rw [e1, e2, e3]
    unfold guessR
    rw [seqs_ne ne, t, seqs_self]
    rfl
  · rw [read_none (fun k a b hd ht => q ⟨(k, a, b), hd, ht⟩)]
    unfold guessR
    by_cases em : s = ByteArray.empty
    · rw [em, seqs_self]
      rfl
    · rw [seqs_ne em]
      generalize (if h : 1 < n then (atoiE (row[1]'(by omega))).1 else 0) = x
      generalize (if h : 2 < n then (atoiE (row[2]'(by omega))).1 else 0) = y
      have : seqs (deedT k x y) s = false := seqs_ne (fun t => by
        cases d : deedB k x y with
        | true => exact q ⟨(k, x, y), d, t⟩
        | false =>
          rw [deed_none d] at t
          exact em t.symm)
      rw [this]
      rfl

theorem strCut_none {t : ByteArray} {c : UInt8} (h : c.toNat ∉ bytesN t) : strings_Cut t (ByteArray.mk #[c]) = some (t, ByteArray.empty, false) := by
  have e : strings_Cut t (ByteArray.mk #[c]) = strings_Cut_n1 t (ByteArray.mk #[c]) := by unfold strings_Cut; rfl
  have e2 : internal_stringslite_Cut t (ByteArray.mk #[c]) = internal_stringslite_Cut_n1 t (ByteArray.mk #[c]) := by unfold internal_stringslite_Cut; rfl
  rw [e]
  unfold strings_Cut_n1
  rw [e2]
  unfold internal_stringslite_Cut_n1 internal_stringslite_Index
  rw [sidx_none h]
  rfl
theorem strCut_cut {t : ByteArray} {c : UInt8} (ht : t.size ≤ 1000000000) {l1 l2 : List Nat} (h : bytesN t = l1 ++ c.toNat :: l2) (d : c.toNat ∉ l1) : strings_Cut t (ByteArray.mk #[c]) = some (toB l1, toB l2, true) := by
  have e : strings_Cut t (ByteArray.mk #[c]) = strings_Cut_n1 t (ByteArray.mk #[c]) := by unfold strings_Cut; rfl
  have e2 : internal_stringslite_Cut t (ByteArray.mk #[c]) = internal_stringslite_Cut_n1 t (ByteArray.mk #[c]) := by unfold internal_stringslite_Cut; rfl
  obtain ⟨_, _, hl⟩ := cut_lt h
  have w2 : IntKind.wrap .i64 (((l1.length : Nat) : Int) + (((ByteArray.mk #[c]).size : Nat) : Int)) = ((l1.length + 1 : Nat) : Int) := by
    show IntKind.wrap .i64 (((l1.length : Nat) : Int) + 1) = _
    rw [wrap64 (by omega) (by omega)]; omega
  rw [e]
  unfold strings_Cut_n1
  rw [e2]
  unfold internal_stringslite_Cut_n1 internal_stringslite_Index
  rw [sidx_cut h d, Option.bind_some, decide_eq_true (by omega), cond_true, w2, inc_ok (by omega) (by omega), Option.bind_some, inc_ok (by omega) (by omega), Option.bind_some, Int.toNat_natCast, Int.toNat_natCast, cut_left h, cut_right h]
  rfl

theorem scan_none : ∀ {r acc : List Nat}, 10 ∉ r → scanJ acc r = ([], 0)
  | [], acc, _ => by rw [scanJ]
  | x :: r, acc, h => by
    rw [scanJ, if_neg (fun e => h (by rw [e]; exact List.mem_cons_self ..))]
    exact scan_none fun m => h (List.mem_cons_of_mem _ m)

abbrev ijBody (s : ByteArray) : Int × List DeedL → Option ((Int × List DeedL) ⊕ (Int × List DeedL)) :=
  fun (t : Int × (List (Int × Int × Int × Unit))) => ((impl_ReadJournal_n2 s t.1 t.2).map (Sum.elim (fun (t : Int × (List (Int × Int × Int × Unit))) => Sum.inl (t.1, t.2)) (fun (t : Int × (List (Int × Int × Int × Unit))) => Sum.inr t)) : Option ((Int × (List (Int × Int × Int × Unit))) ⊕ ((Int × (List (Int × Int × Int × Unit))))))

theorem ij_loop (s : ByteArray) (hs : s.size ≤ 100000000) : ∀ (N f : Nat) (out : List DeedL), f ≤ s.size → out.length ≤ f → s.size - f < N →
    nloop (ijBody s) N ((f : Int), out) = some (((f + (scanJ [] ((bytesN s).drop f)).2 : Nat) : Int), out ++ (scanJ [] ((bytesN s).drop f)).1)
  | 0, f, out, _, _, h => by omega
  | N + 1, f, out, hf, ho, hN => by
    have hb : bytesN (s.extract f s.size) = (bytesN s).drop f := by
      rw [bytesN_extract, List.take_of_length_le (by rw [bytesN_length]; omega)]
    have hz : (s.extract f s.size).size ≤ s.size := by rw [← bytesN_length, hb, List.length_drop, bytesN_length]; omega
    by_cases c : 10 ∉ bytesN (s.extract f s.size)
    · refine (nloop_e (o := ((f : Int), out)) ?_ N).trans ?_
      · simp only [ijBody, impl_ReadJournal_n2]
        rw [inc_ok (by omega) (by omega), Option.bind_some, Int.toNat_natCast, strCut_none (c := 10) c]
        simp only [Option.bind_some]
        rw [implRead_eq _ (by omega)]
        rfl
      · rw [hb] at c
        rw [scan_none c]
        simp
    · obtain ⟨l1, l2, h1, d1⟩ : ∃ l1 l2, bytesN (s.extract f s.size) = l1 ++ 10 :: l2 ∧ 10 ∉ l1 := by
        rcases sidx_is (s.extract f s.size) 10 with ⟨_, h2⟩ | ⟨l1, l2, h1, h2, _⟩
        · exact absurd h2 c
        · exact ⟨l1, l2, h1, h2⟩
      obtain ⟨_, _, hl⟩ := cut_lt h1
      have hR : (bytesN s).drop f = l1 ++ 10 :: l2 := by rw [← hb, h1]
      have hlen : s.size - f = l1.length + (l2.length + 1) := by
        have := congrArg List.length hR
        rw [List.length_drop, bytesN_length] at this
        simpa using this
      have hrd := implRead_eq (toB l1) (by rw [toB_size]; omega)
      have sc : scanJ [] ((bytesN s).drop f) = if (readI (toB l1)).1 = true then (((readI (toB l1)).2.1, (readI (toB l1)).2.2.1, (readI (toB l1)).2.2.2, ()) :: (scanJ [] l2).1, l1.length + 1 + (scanJ [] l2).2) else ([], 0) := by
        rw [hR, scan_line _ _ _ d1, List.nil_append, scanJ, if_pos rfl]
      cases v : (readI (toB l1)).1 with
      | false =>
        refine (nloop_e (o := ((f : Int), out)) ?_ N).trans ?_
        · simp only [ijBody, impl_ReadJournal_n2]
          rw [inc_ok (by omega) (by omega), Option.bind_some, Int.toNat_natCast, strCut_cut (c := 10) (by omega) h1 d1]
          simp only [Option.bind_some, hrd, v]
          rfl
        · rw [sc, v, if_neg (by simp)]
          simp
      | true =>
        have w1 : IntKind.wrap .i64 (((toB l1).size : Nat) + 1 : Int) = ((l1.length + 1 : Nat) : Int) := by rw [toB_size, wrap64 (by omega) (by omega)]; omega
        have w2 : IntKind.wrap .i64 ((f : Int) + ((l1.length + 1 : Nat) : Int)) = ((f + (l1.length + 1) : Nat) : Int) := by rw [wrap64 (by omega) (by omega)]; omega
        refine (nloop_s (s' := (((f + (l1.length + 1) : Nat) : Int), out ++ [((readI (toB l1)).2.1, (readI (toB l1)).2.2.1, (readI (toB l1)).2.2.2, ())])) ?_ N).trans ?_
        · simp only [ijBody, impl_ReadJournal_n2]
          rw [inc_ok (by omega) (by omega), Option.bind_some, Int.toNat_natCast, strCut_cut (c := 10) (by omega) h1 d1]
          simp only [Option.bind_some, hrd, v, Bool.not_true, cond_false]
          rw [room_le (by simp only [List.length_cons, List.length_nil]; omega), Option.bind_some, w1, w2]
          rfl
        · rw [ij_loop s hs N (f + (l1.length + 1)) _ (by omega) (by simp; omega) (by omega)]
          have hd : (bytesN s).drop (f + (l1.length + 1)) = l2 := by
            rw [← List.drop_drop, hR, List.drop_append]
            simp
          rw [hd, sc, v, if_pos rfl]
          simp only [List.append_assoc, List.singleton_append]
          congr 2
          omega

theorem implReadJ_eq (s : ByteArray) (hs : s.size ≤ 100000000) : impl_ReadJournal s = some (((readJ s).2 : Int), (readJ s).1) := by
  have e : impl_ReadJournal s = impl_ReadJournal_n5 s := by unfold impl_ReadJournal; rfl
  rw [e]
  unfold impl_ReadJournal_n5 impl_ReadJournal_n1 impl_ReadJournal_n4 impl_ReadJournal_n3
  have L := ij_loop s hs LL 0 [] (by omega) (by simp) (by simp only [LL]; omega)
  have L' : nloop _ LL ((0 : Int), ([] : List DeedL)) = _ := L
  simp only [Option.bind_some]
  rw [L']
  simp only [List.drop_zero, Nat.zero_add, List.nil_append, Option.map_some]
  rfl

end Go.Rv
