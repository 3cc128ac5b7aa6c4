/-
  Plain mathematics: orders, turned round and drawn. Conditions: none.
-/
import Derived.Test.YtenenhmofmdcbaaMo
import Derived.Test.YtenenhmofmdcbaaMj
set_option linter.unusedVariables false
set_option linter.unusedSimpArgs false
namespace Go.Rv

theorem orderP_iff (o : List Int) (m : Int) : OrderP o m ↔ (∀ x ∈ o, 1 ≤ x ∧ x ≤ m) ∧ o.Nodup := by
  unfold OrderP List.Nodup
  rw [List.pairwise_iff_getElem]
  constructor
  · rintro ⟨h1, h2⟩
    refine ⟨fun x hx => ?_, fun i j hi hj hij => h2 i j hij hj⟩
    obtain ⟨k, hk, rfl⟩ := List.getElem_of_mem hx
    exact h1 k hk
  · rintro ⟨h1, h2⟩
    exact ⟨fun k hk => h1 _ (List.getElem_mem hk), fun i j hij hj => h2 i j (by omega) hj hij⟩

theorem order_mem {o : List Int} (hP : OrderP o (o.length : Nat)) {v : Int} (h1 : 1 ≤ v) (h2 : v ≤ (o.length : Nat)) : v ∈ o := by
  rw [orderP_iff] at hP
  obtain ⟨hr, hn⟩ := hP
  apply Classical.byContradiction
  intro hv
  have hn' : (v :: o).Nodup := List.nodup_cons.2 ⟨hv, hn⟩
  have := List.Nodup.length_le_of_subset (l₂ := (List.range o.length).map fun k => ((k + 1 : Nat) : Int)) hn' (by
    intro x hx
    rw [List.mem_map]
    have hx' : 1 ≤ x ∧ x ≤ (o.length : Nat) := by
      rcases List.mem_cons.1 hx with rfl | h
      · exact ⟨h1, h2⟩
      · exact hr x h
    exact ⟨x.toNat - 1, by rw [List.mem_range]; omega, by omega⟩)
  simp at this
  omega

theorem orderB_iff (o : List Int) (m : Int) : orderB o m = true ↔ 1 ≤ m ∧ m ≤ 8 ∧ (o.length : Int) = m ∧ OrderP o m := by
  unfold orderB
  simp only [Bool.and_eq_true, decide_eq_true_eq, beq_iff_eq, orderAll_iff]
  constructor
  · rintro ⟨⟨⟨a, b⟩, c⟩, d⟩; exact ⟨a, b, c, d⟩
  · rintro ⟨a, b, c, d⟩; exact ⟨⟨⟨a, b⟩, c⟩, d⟩

theorem orderB_reverse (o : List Int) (m : Int) : orderB o.reverse m = orderB o m := by
  rw [Bool.eq_iff_iff, orderB_iff, orderB_iff, orderP_iff, orderP_iff]
  have e : o.reverse.Nodup ↔ o.Nodup := (List.reverse_perm o).nodup_iff
  simp only [List.length_reverse, List.mem_reverse, e]

theorem hasInt_eq (o : List Int) (v : Int) (hl : o.length ≤ 1048576) : laws_hasInt o v = some (decide (v ∈ o)) := by
  have e : laws_hasInt o v = laws_hasInt_n9 o v := by unfold laws_hasInt; rfl
  rw [e]
  unfold laws_hasInt_n9 laws_hasInt_n1 laws_hasInt_n8 laws_hasInt_n6 laws_hasInt_n5 laws_hasInt_n4 laws_hasInt_n2 laws_hasInt_n7
  have hloop := nloop_run (body := fun (s : Int) => ((laws_hasInt_n3 o v s).map (Sum.elim (fun (t : Int) => Sum.inl t) (Sum.elim (fun (t : Bool) => Sum.inr (Sum.inl t)) (fun (t : Unit) => Sum.inr (Sum.inr t)))) : Option ((Int) ⊕ (Bool ⊕ Unit))))
    (I := fun s => ∃ k : Nat, s = k ∧ k ≤ o.length) (μ := fun s => o.length - s.toNat) (f := fun s => cond (decide (v ∈ o.drop s.toNat)) (.inl true) (.inr ()))
    (by
      rintro _ ⟨k, rfl, hk⟩
      simp only [laws_hasInt_n3]
      by_cases hlt : k < o.length
      · rw [show decide ((k : Int) < ((o.length : Nat) : Int)) = true from decide_eq_true (by omega)]
        simp only [cond_true, idx_lt hlt, Option.bind_some, Int.toNat_natCast]
        rw [wrap64 (by omega) (by omega)]
        simp only [List.drop_eq_getElem_cons hlt]
        by_cases he : o[k] = v
        · right
          have e1 : (o[k] == v) = true := by simpa using he
          rw [e1]
          simp [he]
        · left
          have e1 : (o[k] == v) = false := by simpa using he
          rw [e1]
          have he' : ¬ v = o[k] := fun e => he e.symm
          refine ⟨((k + 1 : Nat) : Int), by simp, ⟨k + 1, rfl, hlt⟩, by simp; omega, ?_⟩
          rw [Int.toNat_natCast]
          simp only [List.mem_cons, he', false_or]
      · right
        have e : k = o.length := by omega
        subst e
        rw [show decide (((o.length : Nat) : Int) < ((o.length : Nat) : Int)) = false from decide_eq_false (by omega)]
        simp)
  simp only [Option.bind_some]
  rw [hloop LL 0 ⟨0, by simp, by omega⟩ (by simp only [LL]; simp; omega)]
  simp only [Int.toNat_zero, List.drop_zero]
  cases decide (v ∈ o) <;> rfl

theorem drawn_order (x : List Int) (w : ∀ n ∈ x, (Lit.int .u8 n).wf = true) (l : x.length ≤ maxLen) :
    ∃ (m : Int) (o : List Int), spec_DrawOrderOk x = some (m, o) ∧ o.length ≤ 8 ∧ 0 ≤ m ∧ m ≤ 100 := by
  obtain ⟨b, hb, hB⟩ := open_ok x w l
  unfold spec_DrawOrderOk spec_DrawOrderOk_n1
  obtain ⟨v, hv, va, vb, _⟩ := pick_ok hB 8 (by omega) (p := 0) (by omega) (by omega)
  have vb' := vb (by omega)
  obtain ⟨m0, hm⟩ : ∃ m0 : Nat, 1 + v = (m0 : Int) := ⟨(1 + v).toNat, by omega⟩
  obtain ⟨q, o, ho, qa, qb, ol, ox⟩ := order_ok hB m0 (by omega) (p := 0 + 1) (by omega) (by omega)
  obtain ⟨c, hc, ca, _⟩ := pick_ok hB 3 (by omega) (p := q) (by omega) (by omega)
  simp only [hb, Option.bind_some, hv]
  rw [wrap64 (x := 1 + v) (by omega) (by omega), hm]
  simp only [ho, hc, Option.bind_some]
  cases h3 : (c == 0) with
  | true =>
    obtain ⟨i, hi, ia, ib, _⟩ := pick_ok hB m0 (by omega) (p := q + 1) (by omega) (by omega)
    have ib' := ib (by omega)
    obtain ⟨y, hy, _⟩ := pick_ok hB 9 (by omega) (p := q + 1 + 1) (by omega) (by omega)
    obtain ⟨z, hz, za, zb, _⟩ := pick_ok hB 9 (by omega) (p := q + 1 + 1 + 1) (by omega) (by omega)
    have zb' := zb (by omega)
    obtain ⟨d, hd, da, db⟩ := quo_ok (a := z) (b := 8) (by omega) za (by omega)
    simp only [cond_true, hi, hy, hz, hd, Option.bind_some, inb_ok ia (show i < (o.length : Nat) by omega)]
    rw [wrap64 (by omega) (by omega)]
    exact ⟨_, _, rfl, by simp; omega, by omega, by omega⟩
  | false =>
    obtain ⟨z, hz, za, zb, _⟩ := pick_ok hB 9 (by omega) (p := q + 1) (by omega) (by omega)
    have zb' := zb (by omega)
    obtain ⟨d, hd, da, db⟩ := quo_ok (a := z) (b := 8) (by omega) za (by omega)
    simp only [cond_false, hz, hd, Option.bind_some]
    rw [wrap64 (by omega) (by omega)]
    exact ⟨_, _, rfl, by omega, by omega, by omega⟩

end Go.Rv
