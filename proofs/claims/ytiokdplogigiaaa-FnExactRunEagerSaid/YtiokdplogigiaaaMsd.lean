/-
  Plain mathematics: what the landed eager machine does. Conditions: none.
-/
import Derived.Test.YtiokdplogigiaaaMgx
import Derived.Test.YtiokdplogigiaaaMr
set_option linter.unusedVariables false
set_option linter.unusedSimpArgs false
namespace Go.Rv

/-- A set of words as a number. -/
def bitsB : List Bool → Nat
  | [] => 0
  | b :: l => (if b then 1 else 0) + 2 * bitsB l
/-- Which words have a head. -/
def hdB (h : List Int) : List Bool := h.map fun x => x != 0

def chkBit (bl : List Bool) (k : Nat) : Bool :=
  match impl_only ((k + 1 : Nat) : Int) with
  | some v => impl_wordSet_hasAll ((bitsB bl : Nat) : Int) v == some (bl.getD k false) && ior .u64 ((bitsB bl : Nat) : Int) v == ((bitsB (bl.set k true) : Nat) : Int)
  | none => false
def chkCount (bl : List Bool) : Bool := impl_wordSet_count ((bitsB bl : Nat) : Int) == some ((bl.count true : Nat) : Int)

theorem bits8 : ((List.range 9).all fun n => (allB n).all fun bl => (List.range n).all fun k => chkBit bl k) = true := by decide +kernel
theorem count8 : ((List.range 9).all fun n => (allB n).all chkCount) = true := by decide +kernel

theorem bit_ok (bl : List Bool) (h : bl.length ≤ 8) {k : Nat} (hk : k < bl.length) : ∃ v, impl_only ((k + 1 : Nat) : Int) = some v ∧ impl_wordSet_hasAll ((bitsB bl : Nat) : Int) v = some (bl.getD k false) ∧ ior .u64 ((bitsB bl : Nat) : Int) v = ((bitsB (bl.set k true) : Nat) : Int) := by
  have h1 := bits8
  rw [List.all_eq_true] at h1
  have h2 := h1 bl.length (List.mem_range.2 (by omega))
  rw [List.all_eq_true] at h2
  have h3 := h2 bl (mem_allB bl)
  rw [List.all_eq_true] at h3
  have h4 := h3 k (List.mem_range.2 hk)
  unfold chkBit at h4
  split at h4
  · rename_i v hv
    rw [Bool.and_eq_true] at h4
    exact ⟨v, hv, by simpa using h4.1, by simpa using h4.2⟩
  · cases h4

theorem count_ok (bl : List Bool) (h : bl.length ≤ 8) : impl_wordSet_count ((bitsB bl : Nat) : Int) = some ((bl.count true : Nat) : Int) := by
  have h1 := count8
  rw [List.all_eq_true] at h1
  have h2 := h1 bl.length (List.mem_range.2 (by omega))
  rw [List.all_eq_true] at h2
  simpa [chkCount] using h2 bl (mem_allB bl)

theorem hdB_length (h : List Int) : (hdB h).length = h.length := by simp [hdB]
theorem hdB_set (h : List Int) (k : Nat) {g : Nat} (g1 : 1 ≤ g) : hdB (h.set k (g : Int)) = (hdB h).set k true := by
  unfold hdB
  rw [List.map_set, show ((g : Int) != 0) = true from bne_iff_ne.2 (by omega)]
theorem hdB_get {h : List Int} (p : ∀ x ∈ h, 0 ≤ x) {w : Nat} (w1 : 1 ≤ w) (w2 : w ≤ h.length) : (hdB h).getD (w - 1) false = decide (hd h w ≠ 0) := by
  have lt : w - 1 < h.length := by omega
  have := p _ (List.getElem_mem lt)
  unfold hdB hd
  rw [List.getD_eq_getElem?_getD, List.getElem?_map, List.getElem?_eq_getElem lt, List.getD_eq_getElem?_getD, List.getElem?_eq_getElem lt, Option.getD_some, Option.map_some, Option.getD_some]
  by_cases z : h[w - 1] = 0
  · rw [z]
    rfl
  · rw [show (h[w - 1] != 0) = true from bne_iff_ne.2 z, decide_eq_true (by omega)]
theorem hdB_count (h : List Int) : (hdB h).count true + h.count 0 = h.length := by
  induction h with
  | nil => rfl
  | cons x l ih =>
    unfold hdB at ih ⊢
    rw [List.map_cons, List.count_cons, List.count_cons, List.length_cons]
    by_cases z : x = 0
    · subst z
      simp
      omega
    · rw [show (x != 0) = true from bne_iff_ne.2 z]
      simp [z]
      omega

/-- What the landed machine bears of a state. -/
structure NS (c : Conf) (o l : Nat) (b : Int) (ar : List Int) : Prop where
  len : l = c.2.1.length
  fit : o + l ≤ ar.length
  win : (ar.drop o).take l = convS c.2.1
  bits : b = ((bitsB (hdB c.2.2) : Nat) : Int)

theorem NS.top {i s o l : Nat} {rest : List Nat} {b : Int} {h ar : List Int} (S : NS (i, s :: rest, h) o l b ar) : ar[o + rest.length]? = some (s : Int) := by
  have w := S.win
  have hl : l = rest.length + 1 := S.len
  have e : ((ar.drop o).take l)[rest.length]? = ar[o + rest.length]? := by
    rw [List.getElem?_take_of_lt (by omega), List.getElem?_drop]
  have lr := convS_length rest
  rw [← e, w, convS_cons, ← lr]
  simp

theorem NS.pop {i s o l : Nat} {rest : List Nat} {b b' : Int} {h h' ar : List Int} (S : NS (i, s :: rest, h) o l b ar) (hb : b' = ((bitsB (hdB h') : Nat) : Int)) : NS (i, rest, h') o (l - 1) b' ar := by
  have w := S.win
  have f := S.fit
  have hl : l = rest.length + 1 := S.len
  refine ⟨by simp only; omega, by omega, ?_, hb⟩
  have e : (ar.drop o).take (l - 1) = ((ar.drop o).take l).take (l - 1) := by rw [List.take_take, Nat.min_eq_left (by omega)]
  have lr := convS_length rest
  rw [e, w, convS_cons, show l - 1 = (convS rest).length by omega, List.take_left]

theorem NS.full {i : Nat} {st : List Nat} {b : Int} {h : List Int} (hb : b = ((bitsB (hdB h) : Nat) : Int)) : NS (i, st, h) 0 st.length b (convS st) := by
  have l := convS_length st
  exact ⟨rfl, by omega, by rw [List.drop_zero, ← l, List.take_length], hb⟩

theorem eup {p o l : Nat} {d b : Int} {st : List Nat} {h ar : List Int} (S : NS (p + 1, st, h) o l b ar) (hl : h.length ≤ 8) (hp : p ≤ h.length) (ls : st.length ≤ 20) :
    impl_eagerMachine_upperAndNext o l (p : Int) d b h ar = some (match st with | [] => (0, 0, false) | s :: _ => if p + 1 ≤ h.length then ((s : Int), ((p + 1 : Nat) : Int), true) else (0, 0, false)) := by
  have e : impl_eagerMachine_upperAndNext o l (p : Int) d b h ar = impl_eagerMachine_upperAndNext_n1 o l (p : Int) h ar := by unfold impl_eagerMachine_upperAndNext; rfl
  rw [e]
  unfold impl_eagerMachine_upperAndNext_n1
  match st, S, ls with
  | [], S, ls =>
    have hl0 : l = 0 := S.len
    subst hl0
    rfl
  | s :: rest, S, ls =>
    have hl1 : l = rest.length + 1 := S.len
    have tp := S.top
    simp only [List.length_cons] at ls
    rw [show (((l : Nat) : Int) == 0) = false from beq_eq_false_iff_ne.2 (by omega)]
    by_cases c : p + 1 ≤ h.length
    · have i1 : inb (IntKind.wrap .i64 (((l : Nat) : Int) - 1)) l = some rest.length := by
        rw [wrap64 (by omega) (by omega)]
        unfold inb
        rw [if_pos (by omega), show (((l : Nat) : Int) - 1).toNat = rest.length by omega]
      have w : IntKind.wrap .i64 ((p : Int) + 1) = ((p + 1 : Nat) : Int) := by rw [wrap64 (by omega) (by omega)]; omega
      rw [show ((p : Int) == ((h.length : Nat) : Int)) = false from beq_eq_false_iff_ne.2 (by omega), i1, w]
      simp only [cond_false, Option.bind_some, tp]
      rw [if_pos c]
    · rw [show ((p : Int) == ((h.length : Nat) : Int)) = true from beq_iff_eq.mpr (by omega)]
      simp only [cond_true, cond_false]
      rw [if_neg c]

theorem ehas {o l : Nat} {a d b : Int} {h ar : List Int} (hb : b = ((bitsB (hdB h) : Nat) : Int)) (hl : h.length ≤ 8) (p : ∀ x ∈ h, 0 ≤ x) {w : Nat} (w1 : 1 ≤ w) (w2 : w ≤ h.length) :
    impl_eagerMachine_hasHead (w : Int) o l a d b h ar = some (decide (hd h w ≠ 0)) := by
  have e : impl_eagerMachine_hasHead (w : Int) o l a d b h ar = impl_eagerMachine_hasHead_n1 (w : Int) b := by unfold impl_eagerMachine_hasHead; rfl
  have lh := hdB_length h
  obtain ⟨v, h1, h2, _⟩ := bit_ok (hdB h) (by omega) (k := w - 1) (by omega)
  rw [show w - 1 + 1 = w by omega] at h1
  rw [e]
  unfold impl_eagerMachine_hasHead_n1
  rw [h1, hb]
  simp only [Option.bind_some, h2]
  rw [hdB_get p w1 w2]

theorem egive {o l : Nat} {a d b : Int} {h ar : List Int} (hb : b = ((bitsB (hdB h) : Nat) : Int)) (hl : h.length ≤ 8) {w g : Nat} (w1 : 1 ≤ w) (w2 : w ≤ h.length) (g1 : 1 ≤ g) :
    impl_eagerMachine_giveHead (w : Int) (g : Int) o l a d b h ar = some (((bitsB (hdB (h.set (w - 1) (g : Int))) : Nat) : Int), h.set (w - 1) (g : Int)) := by
  have e : impl_eagerMachine_giveHead (w : Int) (g : Int) o l a d b h ar = (impl_eagerMachine_giveHead_n1 (w : Int) (g : Int) b h).map (fun (t : Int × (List Int)) => (t.1, t.2)) := by unfold impl_eagerMachine_giveHead; rfl
  have lh := hdB_length h
  obtain ⟨v, h1, _, h3⟩ := bit_ok (hdB h) (by omega) (k := w - 1) (by omega)
  rw [show w - 1 + 1 = w by omega] at h1
  have i5 : inb (IntKind.wrap .i64 ((w : Int) - 1)) h.length = some (w - 1) := by
    rw [wrap64 (by omega) (by omega)]
    unfold inb
    rw [if_pos (by omega), show ((w : Int) - 1).toNat = w - 1 by omega]
  rw [e]
  unfold impl_eagerMachine_giveHead_n1
  rw [i5, h1, hb]
  simp only [Option.bind_some, Option.map_some, h3]
  rw [hdB_set h (w - 1) g1]

theorem eaway {o l : Nat} {a d b : Int} {h ar : List Int} (l1 : 1 ≤ l) (l2 : l ≤ 100) : impl_eagerMachine_takeAway o l a d b h ar = some (o, l - 1) := by
  have e : impl_eagerMachine_takeAway o l a d b h ar = (impl_eagerMachine_takeAway_n1 o l).map (fun (t : Nat × Nat) => (t.1, t.2)) := by unfold impl_eagerMachine_takeAway; rfl
  have i3 : inc (IntKind.wrap .i64 (((l : Nat) : Int) - 1)) l = some (l - 1) := by
    rw [wrap64 (by omega) (by omega)]
    unfold inc
    rw [if_pos (by omega), show (((l : Nat) : Int) - 1).toNat = l - 1 by omega]
  rw [e]
  unfold impl_eagerMachine_takeAway_n1
  rw [i3]
  rfl

theorem eput {p o l : Nat} {d b : Int} {st : List Nat} {h ar : List Int} (w : (ar.drop o).take l = convS st) (hl1 : l = st.length) (hl : h.length ≤ 8) (ls : st.length ≤ 20) :
    impl_stackMachine_putNext_v2 o l (p : Int) d b h ar = some (if p = h.length then (false, o, l, (p : Int), d, ar) else (true, 0, st.length + 1, ((IntKind.wrap .i64 ((p : Int) + 1)) : Int), imax d ((st.length + 1 : Nat) : Int), convS st ++ [IntKind.wrap .i64 ((p : Int) + 1)])) := by
  have e : impl_stackMachine_putNext_v2 o l (p : Int) d b h ar = impl_stackMachine_putNext_v2_n1 o l (p : Int) d h ar := by unfold impl_stackMachine_putNext_v2; rfl
  have lc := convS_length st
  rw [e]
  unfold impl_stackMachine_putNext_v2_n1
  by_cases c : p = h.length
  · rw [if_pos c, show ((p : Int) == ((h.length : Nat) : Int)) = true from beq_iff_eq.mpr (by omega)]
    rfl
  · have len (v : Int) : (convS st ++ [v]).length = st.length + 1 := by simp [lc]
    rw [if_neg c, show ((p : Int) == ((h.length : Nat) : Int)) = false from beq_eq_false_iff_ne.2 (by omega), w, room_ok (by simp only [List.length_cons, List.length_nil]; omega)]
    simp only [cond_false, Option.bind_some, len]

theorem eput_ok {p o l : Nat} {d b : Int} {st : List Nat} {h ar : List Int} (w : (ar.drop o).take l = convS st) (hl1 : l = st.length) (hl : h.length ≤ 8) (ls : st.length ≤ 20) (hp : p < h.length) :
    ∃ d', impl_stackMachine_putNext_v2 o l (p : Int) d b h ar = some (true, 0, ((p + 1) :: st).length, ((p + 1 : Nat) : Int), d', convS ((p + 1) :: st)) := by
  have w1 : IntKind.wrap .i64 ((p : Int) + 1) = ((p + 1 : Nat) : Int) := by rw [wrap64 (by omega) (by omega)]; omega
  refine ⟨imax d ((st.length + 1 : Nat) : Int), ?_⟩
  rw [eput w hl1 hl ls, if_neg (by omega), w1, convS_cons]
  rfl

theorem eput_no {o l : Nat} {d b : Int} {st : List Nat} {h ar : List Int} {p : Nat} (w : (ar.drop o).take l = convS st) (hl1 : l = st.length) (hl : h.length ≤ 8) (ls : st.length ≤ 20) (hp : p = h.length) :
    impl_stackMachine_putNext_v2 o l (p : Int) d b h ar = some (false, o, l, (p : Int), d, ar) := by
  rw [eput w hl1 hl ls, if_pos hp]

theorem eunder {n p o l : Nat} {d b : Int} {st : List Nat} {h ar : List Int} (S : NS (p + 1, st, h) o l b ar) (E : EInv n (p + 1, st, h)) (n8 : n ≤ 8) :
    match stepE n 76 (p + 1, st, h) with
    | some c => ∃ b', impl_eagerMachine_takeUnderNext o l (p : Int) d b h ar = some (true, o, l - 1, b', c.2.2) ∧ NS c o (l - 1) b' ar ∧ c.1 = p + 1
    | none => impl_eagerMachine_takeUnderNext o l (p : Int) d b h ar = some (false, o, l, b, h) := by
  have hl : h.length = n := E.len
  have hi : p + 1 ≤ n + 1 := E.hi
  have nm : ∀ x ∈ h, 0 ≤ x ∧ x ≤ (n : Int) := E.num
  have sh := dec_short E.dec E.rng E.i1
  simp only at sh
  have up := eup (d := d) S (by omega) (by omega) (by omega)
  cases st with
  | nil =>
    simp only [stepE]
    unfold impl_eagerMachine_takeUnderNext impl_eagerMachine_takeUnderNext_n1
    rw [up]
    rfl
  | cons s rest =>
    have rs := E.rng s (List.mem_cons_self ..)
    simp only at rs
    have hb : b = ((bitsB (hdB h) : Nat) : Int) := S.bits
    have l1 : l = rest.length + 1 := S.len
    simp only [List.length_cons] at sh
    by_cases le : p + 1 ≤ n
    · simp only at up
      rw [if_pos (by omega)] at up
      have hs := ehas (o := o) (l := l) (a := (p : Int)) (d := d) (ar := ar) hb (by omega) (fun x hx => (nm x hx).1) rs.1 (show s ≤ h.length by omega)
      by_cases z : hd h s = 0
      · have e : stepE n 76 (p + 1, s :: rest, h) = some (p + 1, rest, h.set (s - 1) ((p + 1 : Nat) : Int)) := by simp [stepE, le, z]
        rw [e]
        simp only
        refine ⟨_, ?_, S.pop rfl, trivial⟩
        unfold impl_eagerMachine_takeUnderNext impl_eagerMachine_takeUnderNext_n1
        rw [up]
        simp only [Option.bind_some, Bool.not_true, cond_false, hs]
        rw [decide_eq_false (fun y => y z), egive hb (by omega) rs.1 (show s ≤ h.length by omega) (by omega)]
        simp only [cond_false, Option.bind_some]
        rw [eaway (by omega) (by omega)]
        rfl
      · have e : stepE n 76 (p + 1, s :: rest, h) = none := by simp [stepE, z]
        rw [e]
        simp only
        unfold impl_eagerMachine_takeUnderNext impl_eagerMachine_takeUnderNext_n1
        rw [up]
        simp only [Option.bind_some, Bool.not_true, cond_false, hs]
        rw [decide_eq_true z]
        rfl
    · simp only at up
      rw [if_neg (by omega)] at up
      have e : stepE n 76 (p + 1, s :: rest, h) = none := by simp [stepE, le]
      rw [e]
      simp only
      unfold impl_eagerMachine_takeUnderNext impl_eagerMachine_takeUnderNext_n1
      rw [up]
      rfl

theorem eupper {n p o l : Nat} {d b : Int} {st : List Nat} {h ar : List Int} (S : NS (p + 1, st, h) o l b ar) (E : EInv n (p + 1, st, h)) (n8 : n ≤ 8) :
    match stepE n 82 (p + 1, st, h) with
    | some c => ∃ o' l' d' b' ar', impl_eagerMachine_putUnderUpper o l (p : Int) d b h ar = some (true, o', l', ((c.1 - 1 : Nat) : Int), d', b', c.2.2, ar') ∧ NS c o' l' b' ar'
    | none => impl_eagerMachine_putUnderUpper o l (p : Int) d b h ar = some (false, o, l, (p : Int), d, b, h, ar) := by
  have hl : h.length = n := E.len
  have hi : p + 1 ≤ n + 1 := E.hi
  have sh := dec_short E.dec E.rng E.i1
  simp only at sh
  have up := eup (d := d) S (by omega) (by omega) (by omega)
  cases st with
  | nil =>
    simp only [stepE]
    unfold impl_eagerMachine_putUnderUpper impl_eagerMachine_putUnderUpper_n1
    rw [up]
    rfl
  | cons s rest =>
    have rs := E.rng s (List.mem_cons_self ..)
    simp only at rs
    have hb : b = ((bitsB (hdB h) : Nat) : Int) := S.bits
    have l1 : l = rest.length + 1 := S.len
    have w : (ar.drop o).take l = convS (s :: rest) := S.win
    simp only [List.length_cons] at sh
    by_cases le : p + 1 ≤ n
    · simp only at up
      rw [if_pos (by omega)] at up
      have e : stepE n 82 (p + 1, s :: rest, h) = some (p + 1 + 1, (p + 1) :: s :: rest, h.set (p + 1 - 1) (s : Int)) := by simp [stepE, le]
      have g := egive (o := o) (l := l) (a := (p : Int)) (d := d) (ar := ar) hb (by omega) (show 1 ≤ p + 1 by omega) (show p + 1 ≤ h.length by omega) rs.1
      obtain ⟨d', q⟩ := eput_ok (p := p) (d := d) (b := ((bitsB (hdB (h.set (p + 1 - 1) (s : Int))) : Nat) : Int)) (h := h.set (p + 1 - 1) (s : Int)) w l1 (by rw [List.length_set]; omega) (by simp only [List.length_cons]; omega) (by rw [List.length_set]; omega)
      rw [e]
      simp only
      refine ⟨0, ((p + 1) :: s :: rest).length, d', _, convS ((p + 1) :: s :: rest), ?_, NS.full rfl⟩
      unfold impl_eagerMachine_putUnderUpper impl_eagerMachine_putUnderUpper_n1
      rw [up]
      simp only [Option.bind_some, Bool.not_true, cond_false, g, q]
      rfl
    · simp only at up
      rw [if_neg (by omega)] at up
      have e : stepE n 82 (p + 1, s :: rest, h) = none := by simp [stepE, le]
      rw [e]
      simp only
      unfold impl_eagerMachine_putUnderUpper impl_eagerMachine_putUnderUpper_n1
      rw [up]
      rfl

theorem eheaded {n p o l : Nat} {d b : Int} {st : List Nat} {h ar : List Int} (S : NS (p + 1, st, h) o l b ar) (E : EInv n (p + 1, st, h)) (n8 : n ≤ 8) :
    match stepE n 68 (p + 1, st, h) with
    | some c => impl_eagerMachine_takeHeaded o l (p : Int) d b h ar = some (true, o, l - 1) ∧ NS c o (l - 1) b ar ∧ c.1 = p + 1 ∧ c.2.2 = h
    | none => impl_eagerMachine_takeHeaded o l (p : Int) d b h ar = some (false, o, l) := by
  have hl : h.length = n := E.len
  have hi : p + 1 ≤ n + 1 := E.hi
  have nm : ∀ x ∈ h, 0 ≤ x ∧ x ≤ (n : Int) := E.num
  have sh := dec_short E.dec E.rng E.i1
  simp only at sh
  cases st with
  | nil =>
    have l0 : l = 0 := S.len
    subst l0
    simp only [stepE]
    unfold impl_eagerMachine_takeHeaded impl_eagerMachine_takeHeaded_n1
    rfl
  | cons s rest =>
    have rs := E.rng s (List.mem_cons_self ..)
    simp only at rs
    have hb : b = ((bitsB (hdB h) : Nat) : Int) := S.bits
    have l1 : l = rest.length + 1 := S.len
    simp only [List.length_cons] at sh
    have hs := ehas (o := o) (l := l) (a := (p : Int)) (d := d) (ar := ar) hb (by omega) (fun x hx => (nm x hx).1) rs.1 (show s ≤ h.length by omega)
    have i1 : inb (IntKind.wrap .i64 (((l : Nat) : Int) - 1)) l = some rest.length := by
      rw [wrap64 (by omega) (by omega)]
      unfold inb
      rw [if_pos (by omega), show (((l : Nat) : Int) - 1).toNat = rest.length by omega]
    have nat : impl_eagerMachine_takeHeaded o l (p : Int) d b h ar = cond (!(decide (hd h s ≠ 0))) (some (false, o, l)) (some (true, o, l - 1)) := by
      unfold impl_eagerMachine_takeHeaded impl_eagerMachine_takeHeaded_n1
      rw [show (((l : Nat) : Int) == 0) = false from beq_eq_false_iff_ne.2 (by omega), i1]
      simp only [cond_false, Option.bind_some, S.top, hs]
      rw [eaway (by omega) (by omega)]
      rfl
    by_cases z : hd h s ≠ 0
    · have e : stepE n 68 (p + 1, s :: rest, h) = some (p + 1, rest, h) := by simp [stepE, z]
      rw [e]
      simp only
      refine ⟨?_, S.pop hb, trivial, trivial⟩
      rw [nat, decide_eq_true z]
      rfl
    · have e : stepE n 68 (p + 1, s :: rest, h) = none := by
        unfold stepE
        rw [if_neg (by decide)]
        simp only
        rw [if_neg (by decide), if_neg (by decide), if_pos trivial, if_neg z]
      rw [e]
      simp only
      rw [nat, decide_eq_false z]
      rfl

end Go.Rv
