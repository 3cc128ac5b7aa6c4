/-
  Trees put in an order. Conditions: none.
-/
import Derived.Test.YtgnjabkkcglmkaaDoorMi
set_option linter.unusedVariables false
set_option linter.unusedSimpArgs false
namespace Go.Rv

/-- The places behind the first k numbers of an order. -/
def placesK (o : List Int) (k : Nat) : List Int := (List.range (o.length + 1)).map fun (v : Nat) => if (v : Int) ∈ o.take k then (o.idxOf (v : Int) : Int) + 1 else 0
def placesL (o : List Int) : List Int := placesK o o.length

theorem placesK_length (o : List Int) (k : Nat) : (placesK o k).length = o.length + 1 := by simp [placesK]
theorem placesK_get (o : List Int) (k v : Nat) (hv : v < o.length + 1) : (placesK o k)[v]? = some (if (v : Int) ∈ o.take k then (o.idxOf (v : Int) : Int) + 1 else 0) := by
  simp [placesK, hv]

theorem idxOf_get {o : List Int} {m : Int} (hP : OrderP o m) {k : Nat} (hk : k < o.length) : o.idxOf o[k] = k := by
  have hm : o[k] ∈ o := List.getElem_mem hk
  have hlt : o.idxOf o[k] < o.length := List.idxOf_lt_length_iff.2 hm
  have he : o[o.idxOf o[k]] = o[k] := by simp
  rcases Nat.lt_trichotomy (o.idxOf o[k]) k with h | h | h
  · exact absurd he (hP.2 _ _ h hk)
  · exact h
  · exact absurd he.symm (hP.2 _ _ h hlt)

theorem placesK_step {o : List Int} (hP : OrderP o (o.length : Nat)) {k v : Nat} (hk : k < o.length) (hv : o[k] = (v : Int)) : (placesK o k).set v ((k + 1 : Nat) : Int) = placesK o (k + 1) := by
  have hr := hP.1 k hk
  apply List.ext_getElem?
  intro u
  by_cases hu : u < o.length + 1
  · rw [placesK_get o (k + 1) u hu]
    rw [List.take_add_one, List.getElem?_eq_getElem hk, hv]
    simp only [Option.toList_some, List.mem_append, List.mem_singleton]
    by_cases e : v = u
    · subst e
      rw [List.getElem?_set_self (by rw [placesK_length]; omega)]
      have hidx : o.idxOf (v : Int) = k := by rw [← hv]; exact idxOf_get hP hk
      simp [hidx]
    · rw [List.getElem?_set_ne e, placesK_get o k u hu]
      have : ¬ (u : Int) = (v : Int) := by omega
      simp [this]
  · rw [List.getElem?_eq_none (by rw [List.length_set, placesK_length]; omega), List.getElem?_eq_none (by rw [placesK_length]; omega)]

theorem placesK_zero (o : List Int) : placesK o 0 = List.replicate (o.length + 1) 0 := by
  apply List.ext_getElem?
  intro u
  by_cases hu : u < o.length + 1
  · rw [placesK_get o 0 u hu, List.getElem?_replicate, if_pos hu]; simp
  · rw [List.getElem?_eq_none (by rw [placesK_length]; omega), List.getElem?_eq_none (by simp; omega)]

theorem places_loop (o : List Int) (hl : o.length ≤ 8) (hP : OrderP o (o.length : Nat)) :
    nloop (fun (s : Int × (List Int)) => ((impl_placesIn_n3 o o.length s.1 s.2).map (Sum.elim (fun (t : Int × (List Int)) => Sum.inl (t.1, t.2)) (fun (t : (List Int)) => Sum.inr t)) : Option ((Int × (List Int)) ⊕ (((List Int)))))) LL (0, List.replicate (o.length + 1) 0) = some (placesL o) := by
  have hloop := nloop_run (body := fun (s : Int × (List Int)) => ((impl_placesIn_n3 o o.length s.1 s.2).map (Sum.elim (fun (t : Int × (List Int)) => Sum.inl (t.1, t.2)) (fun (t : (List Int)) => Sum.inr t)) : Option ((Int × (List Int)) ⊕ (((List Int))))))
    (I := fun s => ∃ k : Nat, s = ((k : Int), placesK o k) ∧ k ≤ o.length) (μ := fun s => o.length - s.1.toNat) (f := fun _ => placesL o)
    (by
      rintro _ ⟨k, rfl, hk⟩
      simp only [impl_placesIn_n3]
      by_cases hlt : k < o.length
      · left
        have hr := hP.1 k hlt
        obtain ⟨v, hv⟩ : ∃ v : Nat, o[k] = (v : Int) := ⟨o[k].toNat, by omega⟩
        refine ⟨(((k + 1 : Nat) : Int), placesK o (k + 1)), ?_, ⟨k + 1, rfl, hlt⟩, by simp; omega, trivial⟩
        rw [show decide ((k : Int) < ((o.length : Nat) : Int)) = true from decide_eq_true (by omega), idx_lt hlt, wrap64 (by omega) (by omega)]
        have hin : inb o[k] (placesK o k).length = some v := by rw [hv, placesK_length]; exact inb_nat (by omega)
        simp only [cond_true, Option.bind_some, hin]
        rw [show (k : Int) + 1 = ((k + 1 : Nat) : Int) by omega, placesK_step hP hlt hv]
        rfl
      · right
        have e : k = o.length := by omega
        subst e
        rw [show decide (((o.length : Nat) : Int) < ((o.length : Nat) : Int)) = false from decide_eq_false (by omega)]
        rfl)
  have := hloop LL (0, placesK o 0) ⟨0, rfl, by omega⟩ (by simp only [LL]; simp; omega)
  rw [placesK_zero] at this
  exact this

theorem implPlaces_eq (o : List Int) (hl : o.length ≤ 8) (hP : OrderP o (o.length : Nat)) : impl_placesIn o = some (placesL o) := by
  unfold impl_placesIn impl_placesIn_n9 impl_placesIn_n1 impl_placesIn_n8 impl_placesIn_n6 impl_placesIn_n2 impl_placesIn_n5 impl_placesIn_n4 impl_placesIn_n7
  rw [wrap64 (by omega) (by omega), show ((o.length : Nat) : Int) + 1 = ((o.length + 1 : Nat) : Int) by omega, mk_nat (by omega)]
  simp only [Option.bind_some]
  rw [places_loop o hl hP]
  rfl

/-- The new head at place k, from 0 on. -/
def newHd (h o : List Int) (k : Nat) : Int := (placesL o).getD (h.getD (o.getD k 0 - 1).toNat 0).toNat 0
def putRow (h o : List Int) : List Int := (List.range o.length).map (newHd h o)
theorem putRow_length (h o : List Int) : (putRow h o).length = o.length := by simp [putRow]
theorem putRow_drop (h o : List Int) {k : Nat} (hk : k < o.length) : (putRow h o).drop k = newHd h o k :: (putRow h o).drop (k + 1) := by
  rw [List.drop_eq_getElem_cons (by rw [putRow_length]; exact hk)]
  simp [putRow]

/-- What is read on the way to a new head. -/
theorem put_reads {h o : List Int} (T : Tree h) (hl : o.length = h.length) (hP : OrderP o (o.length : Nat)) {k : Nat} (hk : k < o.length) :
    ∃ w x : Nat, o[k] = ((w + 1 : Nat) : Int) ∧ w < h.length ∧ h[w]? = some (x : Int) ∧ x < o.length + 1 ∧ (placesL o)[x]? = some (newHd h o k) := by
  have hr := hP.1 k hk
  refine ⟨o[k].toNat - 1, (h[o[k].toNat - 1]'(by omega)).toNat, by omega, by omega, ?_, ?_, ?_⟩
  · have := inRange_get T.rng (k := o[k].toNat - 1) (by omega)
    rw [List.getElem?_eq_getElem (by omega)]
    simp only [Option.some.injEq]
    omega
  · have := inRange_get T.rng (k := o[k].toNat - 1) (by omega); omega
  · have h1 := inRange_get T.rng (k := o[k].toNat - 1) (by omega)
    have hx : (h[o[k].toNat - 1]'(by omega)).toNat < (placesL o).length := by rw [placesL, placesK_length]; omega
    rw [List.getElem?_eq_getElem hx]
    have e1 : o.getD k 0 = o[k] := by simp [List.getD, hk]
    have e2 : h.getD (o[k] - 1).toNat 0 = h[o[k].toNat - 1]'(by omega) := by
      rw [show (o[k] - 1).toNat = o[k].toNat - 1 by omega]
      simp [List.getD, show o[k].toNat - 1 < h.length by omega]
    simp only [newHd, e1, e2]
    simp [List.getD, hx]

theorem implPut_eq (h o : List Int) : impl_PutInOrder h o = some (if treeB h && orderB o h.length then (true, putRow h o) else (false, [])) := by
  unfold impl_PutInOrder impl_PutInOrder_n1
  rw [implTree_eq, implOrder_eq]
  cases hT : treeB h with
  | false => simp
  | true =>
    cases hO : orderB o h.length with
    | false => simp
    | true =>
      have T := (tree_iff h).1 hT
      unfold orderB at hO
      simp only [Bool.and_eq_true, decide_eq_true_eq, beq_iff_eq] at hO
      obtain ⟨⟨_, hlen⟩, hA⟩ := hO
      have hl : o.length = h.length := by omega
      have hle := T.le
      have hP : OrderP o (o.length : Nat) := by rw [hl]; exact (orderAll_iff o _).1 hA
      simp only [Option.bind_some, Bool.not_true, cond_false, implPlaces_eq o (by omega) hP, Bool.and_self, if_true]
      unfold impl_renamed_int impl_renamed_int_n9 impl_renamed_int_n1 impl_renamed_int_n8 impl_renamed_int_n6 impl_renamed_int_n2 impl_renamed_int_n5 impl_renamed_int_n4 impl_renamed_int_n7
      rw [mk_nat (by omega)]
      simp only [Option.bind_some]
      have hloop := nloop_run (body := fun (s : Int × (List Int)) => ((impl_renamed_int_n3 h o o.length s.1 (placesL o) s.2).map (Sum.elim (fun (t : Int × (List Int)) => Sum.inl (t.1, t.2)) (fun (t : (List Int)) => Sum.inr t)) : Option ((Int × (List Int)) ⊕ (((List Int))))))
        (I := fun s => ∃ k : Nat, s.1 = (k : Int) ∧ k ≤ o.length ∧ s.2.length = o.length) (μ := fun s => o.length - s.1.toNat) (f := fun s => s.2.take s.1.toNat ++ (putRow h o).drop s.1.toNat)
        (by
          rintro ⟨_, out⟩ ⟨k, rfl, hk, ho⟩
          simp only at ho
          simp only [impl_renamed_int_n3]
          by_cases hlt : k < o.length
          · left
            obtain ⟨w, x, h1, hw, h2, h3, h4⟩ := put_reads T hl hP hlt
            refine ⟨(((k + 1 : Nat) : Int), out.set k (newHd h o k)), ?_, ⟨k + 1, rfl, hlt, by simpa using ho⟩, by simp; omega, ?_⟩
            · rw [show decide ((k : Int) < ((o.length : Nat) : Int)) = true from decide_eq_true (by omega), idx_lt hlt]
              simp only [cond_true, Option.bind_some]
              rw [h1, wrap64 (x := ((w + 1 : Nat) : Int) - 1) (by omega) (by omega), show ((w + 1 : Nat) : Int) - 1 = (w : Int) by omega, idx_nat, h2, wrap64 (by omega) (by omega)]
              have hin : impl_PutInOrder_1 (x : Int) (placesL o) = some (newHd h o k) := by
                unfold impl_PutInOrder_1 impl_PutInOrder_1_n1
                rw [inb_nat (by rw [placesL, placesK_length]; exact h3)]
                simp only [Option.bind_some, h4]
              simp only [Option.bind_some, hin, inb_nat (show k < out.length by omega)]
              simp
            · simp only [Int.toNat_natCast]
              rw [set_take (by omega), putRow_drop h o hlt]
              simp
          · right
            have e : k = o.length := by omega
            subst e
            rw [show decide (((o.length : Nat) : Int) < ((o.length : Nat) : Int)) = false from decide_eq_false (by omega)]
            simp [List.take_of_length_le (Nat.le_of_eq ho), List.drop_of_length_le (Nat.le_of_eq (putRow_length h o))])
      rw [hloop LL (0, List.replicate o.length 0) ⟨0, by simp, by omega, by simp⟩ (by simp only [LL]; simp; omega)]
      simp

end Go.Rv
