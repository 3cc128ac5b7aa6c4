/-
  Plain mathematics: what the model's rule for the machine with a stack says. Conditions: none.
-/
import Derived.Test.YtmmfabigcffdfaaDoorMgn
set_option linter.unusedVariables false
set_option linter.unusedSimpArgs false
namespace Go.Rv

/-- A move as a text. -/
def mvB (m : Nat) : ByteArray := ByteArray.mk #[m.toUInt8]
theorem bytesN_append (a b : ByteArray) : bytesN (a ++ b) = bytesN a ++ bytesN b := by
  simp [bytesN, ByteArray.data_append]

theorem cat_ok {a b : ByteArray} (h : a.size + b.size ≤ 1000) : cat a b = some (a ++ b) := by
  unfold cat
  rw [if_pos (by simp only [maxLen]; omega)]

theorem gone_push (n i : Nat) (st : List Nat) : goneL n (i + 1) (i :: st) = goneL n i st := by
  unfold goneL
  refine List.map_congr_left ?_
  intro k hk
  rw [List.contains_cons]
  by_cases c : k + 1 < i
  · rw [decide_eq_true c, decide_eq_true (show k + 1 < i + 1 by omega), show (k + 1 == i) = false from beq_eq_false_iff_ne.2 (by omega), Bool.false_or]
  · rw [decide_eq_false c]
    by_cases e : k + 1 = i
    · rw [e, beq_self_eq_true]
      simp
    · rw [decide_eq_false (show ¬ k + 1 < i + 1 by omega)]
      rfl

theorem gone_take {n i a g : Nat} {st st' : List Nat} (ha : 1 ≤ a) (ha' : a < i) (nin : a ∉ st') (mem : ∀ x, x ∈ st ↔ x = a ∨ x ∈ st') : (goneL n i st).set (a - 1) true = goneL n i st' := by
  apply List.ext_getElem?
  intro k
  by_cases hk : k < n
  · rw [List.getElem?_set, goneL_length, goneL_get hk, goneL_get hk]
    by_cases e : a - 1 = k
    · rw [if_pos e, if_pos (by omega)]
      have : k + 1 = a := by omega
      rw [this, decide_eq_true ha', show st'.contains a = false from by rw [Bool.eq_false_iff]; exact fun z => nin (List.contains_iff_mem.mp z)]
      rfl
    · rw [if_neg e]
      have : st.contains (k + 1) = st'.contains (k + 1) := by
        rw [Bool.eq_iff_iff, List.contains_iff_mem, List.contains_iff_mem, mem]
        constructor
        · rintro (q | q)
          · omega
          · exact q
        · exact .inr
      rw [this]
  · rw [List.getElem?_eq_none (by rw [List.length_set, goneL_length]; omega), List.getElem?_eq_none (by rw [goneL_length]; omega)]

open Classical in
theorem move_step {H : List Int} (T : Tree H) {i : Nat} {st : List Nat} {h : List Int} {d : Conf} (O : ORInv H (i, st, h)) (bs : ByteArray) (hb : bs.size ≤ 100)
    (e : stepM H.length (ruleM H i st) (i, st, h) = some d) :
    spec_MovesFor_n3 H bs (i : Int) (goneL H.length i st) (convS st) = some (bs ++ mvB (ruleM H i st), (d.1 : Int), goneL H.length d.1 d.2.1, convS d.2.1) := by
  have M := O.o.base
  have hl : h.length = H.length := M.len
  have hle := T.le
  have hi : i ≤ H.length + 1 := M.hi
  obtain ⟨c, ρ, ec, _⟩ := M.rank
  simp only at ec
  have ls := convS_length st
  have c83 : cat bs (ByteArray.mk #[83]) = some (bs ++ mvB 83) := cat_ok (by show bs.size + 1 ≤ 1000; omega)
  have c76 : cat bs (ByteArray.mk #[76]) = some (bs ++ mvB 76) := cat_ok (by show bs.size + 1 ≤ 1000; omega)
  have c82 : cat bs (ByteArray.mk #[82]) = some (bs ++ mvB 82) := cat_ok (by show bs.size + 1 ≤ 1000; omega)
  have wi : IntKind.wrap .i64 ((i : Int) + 1) = ((i + 1 : Nat) : Int) := by rw [wrap64 (by omega) (by omega)]; omega
  have rp : room (st.length + List.length [(i : Int)]) = some () := room_ok (by simp only [List.length_cons, List.length_nil]; omega)
  have push (r : ruleM H i st = 83) : d = (i + 1, i :: st, h) := by
    rw [r] at e
    unfold stepM at e
    simp only [if_true] at e
    by_cases le : i ≤ H.length
    · rw [if_pos le] at e
      injection e with e
      exact e.symm
    · rw [if_neg le] at e
      cases e
  unfold spec_MovesFor_n3
  rw [ls, wrap64 (x := ((st.length : Nat) : Int) - 1) (by omega) (by omega)]
  match st, O, M, ls, ec, rp, push with
  | [], O, M, ls, ec, rp, push =>
    have r : ruleM H i [] = 83 := rfl
    have := push r
    subst this
    rw [r, gone_push, convS_cons, decide_eq_false (show ¬ ((([] : List Nat).length : Nat) : Int) - 1 ≥ 1 by simp)]
    simp only [cond_false, c83, Option.bind_some, rp, wi]
  | [s], O, M, ls, ec, rp, push =>
    have r : ruleM H i [s] = 83 := rfl
    have := push r
    subst this
    rw [r, gone_push, convS_cons i, decide_eq_false (show ¬ ((([s] : List Nat).length : Nat) : Int) - 1 ≥ 1 by simp)]
    simp only [cond_false, c83, Option.bind_some, rp, wi]
  | s :: t :: rest, O, M, ls, ec, rp, push =>
    have rs := M.rng s (List.mem_cons_self ..)
    have rt := M.rng t (List.mem_cons_of_mem _ (List.mem_cons_self ..))
    simp only at rs rt
    have dd := M.dec
    rw [List.pairwise_cons] at dd
    obtain ⟨d1, dd⟩ := dd
    rw [List.pairwise_cons] at dd
    obtain ⟨d2, d3⟩ := dd
    have lt : t < s := d1 t (List.mem_cons_self ..)
    have lr := convS_length rest
    have ec2 : convS (s :: t :: rest) = convS rest ++ [(t : Int), (s : Int)] := by rw [convS_cons, convS_cons]; simp
    have g1 : (convS (s :: t :: rest))[rest.length]? = some (t : Int) := by rw [ec2, ← lr]; simp
    have g2 : (convS (s :: t :: rest))[rest.length + 1]? = some (s : Int) := by rw [ec2, ← lr]; simp
    have lrest : rest.length ≤ 20 := by simp only [List.length_cons] at ec; omega
    have i1 : inb (rest.length : Int) (rest.length + 2) = some rest.length := by unfold inb; rw [if_pos (by omega)]; simp
    have i2 : inb ((rest.length : Int) + 1) (rest.length + 2) = some (rest.length + 1) := by
      unfold inb
      rw [if_pos (by omega), show ((rest.length : Int) + 1).toNat = rest.length + 1 by omega]
    have i3 : inc (rest.length : Int) (rest.length + 2) = some rest.length := by unfold inc; rw [if_pos (by omega)]; simp
    have i4 : inc ((rest.length : Int) + 1) (rest.length + 2) = some (rest.length + 1) := by
      unfold inc
      rw [if_pos (by omega), show ((rest.length : Int) + 1).toNat = rest.length + 1 by omega]
    have i5 : inb ((t : Int) - 1) H.length = some (t - 1) := by
      unfold inb
      rw [if_pos (by omega), show ((t : Int) - 1).toNat = t - 1 by omega]
    have i6 : inb ((s : Int) - 1) H.length = some (s - 1) := by
      unfold inb
      rw [if_pos (by omega), show ((s : Int) - 1).toNat = s - 1 by omega]
    have x1 : idx H ((t : Int) - 1) = some ((hd H t : Nat) : Int) := by
      rw [show (t : Int) - 1 = ((t - 1 : Nat) : Int) by omega, idx_at]
      exact T.get rt.1 (by omega)
    have x2 : idx H ((s : Int) - 1) = some ((hd H s : Nat) : Int) := by
      rw [show (s : Int) - 1 = ((s - 1 : Nat) : Int) by omega, idx_at]
      exact T.get rs.1 (by omega)
    have t1 : ((convS (s :: t :: rest)).drop 0).take (rest.length - 0) = convS rest := by rw [ec2, ← lr]; simp
    have t2 : ((convS (s :: t :: rest)).drop 0).take (rest.length + 1 - 0) = convS (t :: rest) := by
      rw [ec2, convS_cons, ← lr, List.drop_zero, Nat.sub_zero, List.take_length_add_append]
      rfl
    have len : (s :: t :: rest).length = rest.length + 2 := rfl
    have w1 : ((rest.length + 2 : Nat) : Int) - 1 = (rest.length : Int) + 1 := by omega
    have w2 : IntKind.wrap .i64 ((rest.length : Int) + 1 - 1) = (rest.length : Int) := by rw [wrap64 (by omega) (by omega)]; omega
    have w3 : IntKind.wrap .i64 ((t : Int) - 1) = (t : Int) - 1 := wrap64 (by omega) (by omega)
    have w4 : IntKind.wrap .i64 ((s : Int) - 1) = (s : Int) - 1 := wrap64 (by omega) (by omega)
    have ge : decide ((rest.length : Int) + 1 ≥ 1) = true := decide_eq_true (by omega)
    have rL : room (convS rest).length = some () := room_ok (by omega)
    have rL2 : room ((convS rest).length + List.length [(s : Int)]) = some () := room_ok (by simp only [List.length_cons, List.length_nil]; omega)
    have rR : room (List.length ([] : List Int) + (convS (t :: rest)).length) = some () := room_ok (by simp only [convS_length, List.length_cons, List.length_nil]; omega)
    have nt : t ∉ s :: rest := fun z => by
      rcases List.mem_cons.mp z with z | z
      · omega
      · have := d2 t z
        omega
    have ns : s ∉ t :: rest := fun z => by
      have := d1 s z
      omega
    have gL : (goneL H.length i (s :: t :: rest)).set (t - 1) true = goneL H.length i (s :: rest) := gone_take (g := s) rt.1 rt.2.1 nt (by
      intro x
      simp only [List.mem_cons]
      constructor
      · rintro (q | q | q)
        · exact .inr (.inl q)
        · exact .inl q
        · exact .inr (.inr q)
      · rintro (q | q | q)
        · exact .inr (.inl q)
        · exact .inl q
        · exact .inr (.inr q))
    have gR : (goneL H.length i (s :: t :: rest)).set (s - 1) true = goneL H.length i (t :: rest) := gone_take (g := t) rs.1 rs.2.1 ns (fun x => List.mem_cons)
    have rp' : room (rest.length + 2 + List.length [(i : Int)]) = some () := rp
    rw [len, w1]
    have gl : (goneL H.length i (s :: t :: rest)).length = H.length := goneL_length ..
    -- the second part: R or S
    have fin : ¬ (hd H t = s ∧ LeafU H i (s :: t :: rest) t) → (cond (decide ((rest.length : Int) + 1 ≥ 1)) ((inb ((rest.length : Int) + 1) (rest.length + 2)).bind fun (v13047 : Nat) => ((convS (s :: t :: rest))[v13047]?).bind fun (v13048 : Int) => (idx H (IntKind.wrap .i64 (v13048 - 1))).bind fun (v13050 : Int) => (inb (IntKind.wrap .i64 ((rest.length : Int) + 1 - 1)) (rest.length + 2)).bind fun (v13052 : Nat) => ((convS (s :: t :: rest))[v13052]?).bind fun (v13053 : Int) => cond (v13050 == v13053) ((inb ((rest.length : Int) + 1) (rest.length + 2)).bind fun (v13055 : Nat) => ((convS (s :: t :: rest))[v13055]?).bind fun (v13056 : Int) => (spec_l6Free H v13056 (goneL H.length i (s :: t :: rest))).bind fun (v13057 : Bool) => cond v13057 ((cat bs (ByteArray.mk #[82])).bind fun (v13058 : ByteArray) => (inb ((rest.length : Int) + 1) (rest.length + 2)).bind fun (v13059 : Nat) => ((convS (s :: t :: rest))[v13059]?).bind fun (v13060 : Int) => (inb (IntKind.wrap .i64 (v13060 - 1)) (List.length (goneL H.length i (s :: t :: rest)))).bind fun (v13062 : Nat) => (inc ((rest.length : Int) + 1) (rest.length + 2)).bind fun (v13065 : Nat) => (room ((List.length ([] : List Int)) + List.length (((convS (s :: t :: rest)).drop 0).take (v13065 - 0)))).bind fun (v13069 : Unit) => some (v13058, (i : Int), ((goneL H.length i (s :: t :: rest)).set v13062 true), (([] : List Int) ++ (((convS (s :: t :: rest)).drop 0).take (v13065 - 0))))) ((cat bs (ByteArray.mk #[83])).bind fun (v13071 : ByteArray) => (room ((rest.length + 2) + List.length ([(i : Int)]))).bind fun (v13074 : Unit) => some (v13071, (IntKind.wrap .i64 ((i : Int) + 1)), goneL H.length i (s :: t :: rest), (convS (s :: t :: rest) ++ ([(i : Int)]))))) ((cat bs (ByteArray.mk #[83])).bind fun (v13077 : ByteArray) => (room ((rest.length + 2) + List.length ([(i : Int)]))).bind fun (v13080 : Unit) => some (v13077, (IntKind.wrap .i64 ((i : Int) + 1)), goneL H.length i (s :: t :: rest), (convS (s :: t :: rest) ++ ([(i : Int)]))))) ((cat bs (ByteArray.mk #[83])).bind fun (v13083 : ByteArray) => (room ((rest.length + 2) + List.length ([(i : Int)]))).bind fun (v13086 : Unit) => some (v13083, (IntKind.wrap .i64 ((i : Int) + 1)), goneL H.length i (s :: t :: rest), (convS (s :: t :: rest) ++ ([(i : Int)])))))
        = some (bs ++ mvB (ruleM H i (s :: t :: rest)), (d.1 : Int), goneL H.length d.1 d.2.1, convS d.2.1) := by
      intro n1
      have sS : ruleM H i (s :: t :: rest) = 83 → some (bs ++ mvB 83, ((i + 1 : Nat) : Int), goneL H.length i (s :: t :: rest), convS (s :: t :: rest) ++ [(i : Int)]) = some (bs ++ mvB (ruleM H i (s :: t :: rest)), (d.1 : Int), goneL H.length d.1 d.2.1, convS d.2.1) := by
        intro r
        have := push r
        subst this
        rw [r, gone_push, convS_cons i]
      simp only [ge, cond_true, i1, i2, Option.bind_some, g1, g2, w2, w4, x2, l6Free_eq T]
      by_cases q : hd H s = t
      · rw [show (((hd H s : Nat) : Int) == (t : Int)) = true from beq_iff_eq.mpr (by omega)]
        by_cases f : LeafU H i (s :: t :: rest) s
        · have r : ruleM H i (s :: t :: rest) = 82 := by simp only [ruleM]; rw [if_neg n1, if_pos ⟨q, f⟩]
          rw [r] at e ⊢
          simp [stepM] at e
          subst e
          simp only [cond_true, decide_eq_true f, c82, Option.bind_some, gl, i6, i4, t2, rR, gR]
          rfl
        · have r : ruleM H i (s :: t :: rest) = 83 := by simp only [ruleM]; rw [if_neg n1, if_neg (fun z => f z.2)]
          simp only [cond_true, decide_eq_false f, cond_false, c83, Option.bind_some, rp', wi]
          exact sS r
      · rw [show (((hd H s : Nat) : Int) == (t : Int)) = false from beq_eq_false_iff_ne.2 (by omega)]
        have r : ruleM H i (s :: t :: rest) = 83 := by simp only [ruleM]; rw [if_neg n1, if_neg (fun z => q z.1)]
        simp only [cond_false, c83, Option.bind_some, rp', wi]
        exact sS r
    rw [ge]
    simp only [cond_true, i1, i2, Option.bind_some, g1, g2, w2, w3, x1, l6Free_eq T]
    by_cases q : hd H t = s
    · rw [show (((hd H t : Nat) : Int) == (s : Int)) = true from beq_iff_eq.mpr (by omega)]
      by_cases f : LeafU H i (s :: t :: rest) t
      · have r : ruleM H i (s :: t :: rest) = 76 := by simp only [ruleM]; rw [if_pos ⟨q, f⟩]
        rw [r] at e ⊢
        simp [stepM] at e
        subst e
        simp only [cond_true, decide_eq_true f, c76, Option.bind_some, gl, i5, i3, t1, rL, rL2, gL]
        rw [convS_cons]
      · have := fin (fun z => f z.2)
        rw [ge] at this
        simp only [cond_true, i1, i2, Option.bind_some, g1, g2, w2, w4, x2, l6Free_eq T] at this
        simp only [cond_true, decide_eq_false f, cond_false, w4, x2]
        exact this
    · rw [show (((hd H t : Nat) : Int) == (s : Int)) = false from beq_eq_false_iff_ne.2 (by omega)]
      have := fin (fun z => q z.1)
      rw [ge] at this
      simp only [cond_true, i1, i2, Option.bind_some, g1, g2, w2, w4, x2, l6Free_eq T] at this
      simp only [cond_false, w4, x2, Option.bind_some]
      exact this

end Go.Rv
