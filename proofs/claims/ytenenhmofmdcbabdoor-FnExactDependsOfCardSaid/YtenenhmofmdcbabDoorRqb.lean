/-
  A region whose order is left open: one order serves all. Conditions: none.
-/
import Derived.Test.YtenenhmofmdcbabDoorRqa
set_option linter.unusedSimpArgs false
set_option linter.unusedVariables false
namespace Go.Rv

theorem cstep_bind {C : Ctx} {base : Nat} {o : Oper} {s : St} {k : St → Option St} {r : St} (h : cstep (optAlg St) C base o s k = some r) : ∃ s0, cstep (optAlg St) C base o s some = some s0 ∧ k s0 = some r := by
  have h1 : wpO (cstep (optAlg St) C base o s k) (fun x => x = r) := by rw [h]; exact .mk rfl
  rw [← cstep_cps C base o s k (fun a => wpO (k a) (fun x => x = r)) (fun _ => rfl)] at h1
  have h2 := cstep_wpO h1
  obtain ⟨s0, h3, h4⟩ := wpO_iff.1 h2
  obtain ⟨x, h5, h6⟩ := wpO_iff.1 h4
  exact ⟨s0, h3, by rw [h5, h6]⟩

theorem crunS_orunS (C : Ctx) (ops : List Oper) (calm : List Nat) (B0 : Nat) (K : St → Prop) : ∀ (r : List Nat) (s : St), crunS C ops calm B0 r s K → wpO (orunS C ops calm B0 r s) K
  | [], _, h => show wpO (some _) K from .mk h
  | i :: r, s, h => by
    unfold crunS at h
    unfold orunS
    rw [wpO_bind]
    unfold stepAt
    cases ho : ops[i]? with
    | none => simp only [ho] at h
    | some o =>
      simp only [ho] at h ⊢
      have step : ∀ s : St, cond (calmNow C calm i o s) (cstep propAlg C (B0 + i * width) o s fun s' => crunS C ops calm B0 r s' K) False →
          wpO (if calmNow C calm i o s = true then cstep (optAlg St) C (B0 + i * width) o s some else none) (fun s' => wpO (orunS C ops calm B0 r s') K) := fun s h => by
        cases hc : calmNow C calm i o s with
        | false => rw [hc] at h; exact h.elim
        | true =>
          rw [hc] at h
          simp only [if_true]
          exact wpO_mono (fun s' h' => crunS_orunS C ops calm B0 K r s' h') (cstep_wpO h)
      cases hgd : o.guard with
      | none =>
        simp only [hgd] at h ⊢
        exact step s h
      | some jw =>
        obtain ⟨j, want⟩ := jw
        simp only [hgd] at h ⊢
        cases ht : (ops[j]?).bind (·.dst) with
        | none => simp only [ht] at h
        | some t =>
          simp only [ht] at h ⊢
          split at h
          · rename_i g hg
            cases g with
            | true =>
              have e : ({ s with env := s.env.set t (.dat .bool true) } : St) = s := by rw [set_self hg]
              rw [e] at h
              cases want with
              | true => simp only [cond_true] at h; simp only [if_true]; exact step s h
              | false => simp only [cond_true, cond_false] at h; rw [if_neg (by simp)]; exact .mk (crunS_orunS C ops calm B0 K r _ h)
            | false =>
              have e : ({ s with env := s.env.set t (.dat .bool false) } : St) = s := by rw [set_self hg]
              rw [e] at h
              cases want with
              | true => simp only [cond_true, cond_false] at h; rw [if_neg (by simp)]; exact .mk (crunS_orunS C ops calm B0 K r _ h)
              | false => simp only [cond_false] at h; simp only [if_true]; exact step s h
          · first | exact crunS_orunS C ops calm B0 K r _ h | exact .mk (crunS_orunS C ops calm B0 K r _ h)
          · cases h

section
variable {C : Ctx} {ops : Array Oper} {calm : List Nat} {B0 : Nat}

theorem not_operand {o : Oper} {d : Tmp} (h : d ∉ o.looksAt ops) : Operand.tmp d ∉ o.op.operands.toList := fun hm => h (by
  simp only [Oper.looksAt, List.mem_append, List.mem_filterMap]
  exact .inl ⟨_, hm, rfl⟩)

theorem not_guard {o : Oper} {d t : Tmp} {j : Nat} {w : Bool} (h : d ∉ o.looksAt ops) (hg : o.guard = some (j, w)) (ht : (ops.toList[j]?).bind (·.dst) = some t) : d ≠ t := fun e => h (by
  subst e
  simp only [Oper.looksAt, List.mem_append, hg]
  right
  have : (ops[j]?).bind (·.dst) = some d := by simpa using ht
  rw [this]; simp)

theorem callIds_put {o : Oper} {s : St} {d : Option Tmp} {a : AV} (h1 : ∀ t, d = some t → Operand.tmp t ∉ o.op.operands.toList) : callIds C o (s.put d a) = callIds C o s := by
  have hev : ∀ x ∈ o.op.operands.toList, evalO (s.put d a) x = evalO s x := fun x hx => evalO_put (fun t ht e => h1 t ht (e ▸ hx))
  unfold callIds
  split
  · rename_i c hc
    split
    · rename_i f hf
      have e0 : evalO (s.put d a) f = evalO s f := hev f (by rw [hc]; simp [Op.operands, Call.operands, hf])
      have e1 : argsAV (s.put d a) c.args.toList = argsAV s c.args.toList := argsAV_same (fun x hx => hev x (by rw [hc]; simp [Op.operands, Call.operands, hf]; exact .inr (by simpa using hx)))
      rw [e0, e1]
      simp only [handArgs_put]
    · rfl
  · rfl

/-- What an operation does beside a value that does not matter to it. -/
theorem stepAt_put {i j : Nat} {oi oj : Oper} {a : AV} {s s1 : St} (hj : ops[j]? = some oj) (hap : oi.apart ops oj = true) (hna : isAppend oj.op = false) (h : stepAt C ops.toList calm B0 j (s.put oi.dst a) = some s1) :
    ∃ s0, stepAt C ops.toList calm B0 j s = some s0 ∧ s1 = s0.put oi.dst a := by
  obtain ⟨h1, h2, h3⟩ := Oper.apart_spec hap
  have hj' : ops.toList[j]? = some oj := by simpa using hj
  have hcalm : calmNow C calm j oj (s.put oi.dst a) = calmNow C calm j oj s := by
    unfold calmNow
    rw [callIds_put (fun t ht => not_operand (h1 t ht))]
  have hstep : ∀ {s1}, (if calmNow C calm j oj (s.put oi.dst a) = true then cstep (optAlg St) C (B0 + j * width) oj (s.put oi.dst a) some else none) = some s1 →
      ∃ s0, (if calmNow C calm j oj s = true then cstep (optAlg St) C (B0 + j * width) oj s some else none) = some s0 ∧ s1 = s0.put oi.dst a := fun {s1} h => by
    rw [hcalm] at h
    split at h
    · rw [cstep_put some hna (fun t ht => not_operand (h1 t ht)) h2] at h
      obtain ⟨s0, h4, h5⟩ := cstep_bind h
      cases h5
      rename_i hc
      exact ⟨s0, by rw [if_pos hc]; exact h4, rfl⟩
    · cases h
  unfold stepAt at h ⊢
  simp only [hj'] at h ⊢
  split at h
  · rename_i hg
    exact hstep h
  · rename_i g want hg
    split at h
    · cases h
    · rename_i t ht
      have he : (s.put oi.dst a).env[t]? = s.env[t]? := by
        cases hd : oi.dst with
        | none => rfl
        | some d =>
          have hne : d ≠ t := not_guard (h1 d hd) hg ht
          simp [St.put, List.getElem?_set_ne hne]
      rw [he] at h
      split at h
      · rename_i b hb
        split at h
        · rename_i hbw
          rw [if_pos hbw]
          exact hstep h
        · rename_i hbw
          rw [if_neg hbw]
          cases h
          exact ⟨_, rfl, put_comm h2⟩
      · cases h
        exact ⟨_, rfl, put_comm h2⟩
      · cases h

/-- What an operation leaves. -/
theorem stepAt_shape {j : Nat} {oj : Oper} {s s0 : St} (hj : ops[j]? = some oj) (hna : isAppend oj.op = false) (h : stepAt C ops.toList calm B0 j s = some s0) :
    (∀ t, oj.dst ≠ some t → s0.env[t]? = s.env[t]?) ∧ (calmKind calm j oj.op = true → RowsIn s s0) := by
  have hj' : ops.toList[j]? = some oj := by simpa using hj
  have hput : ∀ (v : AV) (H : Heap) (t : Tmp), oj.dst ≠ some t → ((⟨s.env, H⟩ : St).put oj.dst v).env[t]? = s.env[t]? := fun v H t ht => by
    cases hd : oj.dst with
    | none => rfl
    | some d =>
      have hne : d ≠ t := fun e => ht (by rw [hd, e])
      simp [St.put, List.getElem?_set_ne hne]
  have hstep : (if calmNow C calm j oj s = true then cstep (optAlg St) C (B0 + j * width) oj s some else none) = some s0 →
      (∀ t, oj.dst ≠ some t → s0.env[t]? = s.env[t]?) ∧ (calmKind calm j oj.op = true → RowsIn s s0) := fun h => by
    split at h
    · rename_i hc
      obtain ⟨v, H, rfl, hr⟩ := step_shape hna h
      refine ⟨fun t ht => hput v H t ht, fun hk g r hg => ?_⟩
      rw [put_heap]
      exact hr calm j hk hc g r hg
    · cases h
  unfold stepAt at h
  simp only [hj'] at h
  split at h
  · exact hstep h
  · split at h
    · cases h
    · split at h
      · split at h
        · exact hstep h
        · cases h
          exact ⟨fun t ht => hput _ _ t ht, fun _ g r hg => by rw [put_heap]; exact hg⟩
      · cases h
        exact ⟨fun t ht => hput _ _ t ht, fun _ g r hg => by rw [put_heap]; exact hg⟩
      · cases h

/-- What a pure operation does now, it does later, too. -/
theorem stepAt_pure {i : Nat} {oi : Oper} {s s1 : St} (hi : ops[i]? = some oi) (hp : pureOp oi.op = true) (h : stepAt C ops.toList calm B0 i s = some s1) :
    ∃ a, s1 = s.put oi.dst a ∧ ∀ t : St, (∀ x ∈ oi.looksAt ops, t.env[x]? = s.env[x]?) → (heapFree oi.op = true ∨ RowsIn s t) → stepAt C ops.toList calm B0 i t = some (t.put oi.dst a) := by
  have hi' : ops.toList[i]? = some oi := by simpa using hi
  have hcalm : ∀ t, calmNow C calm i oi t = true := fun t => by
    unfold calmNow callIds
    split
    · rename_i c hc
      split
      · rename_i f hf
        rw [hc] at hp
        simp [pureOp, hf] at hp
      · simp
    · simp
  have hops : ∀ t : St, (∀ x ∈ oi.looksAt ops, t.env[x]? = s.env[x]?) → ∀ x ∈ oi.op.operands.toList, evalO t x = evalO s x := fun t ht x hx => by
    cases x with
    | tmp u =>
      refine ht u ?_
      simp only [Oper.looksAt, List.mem_append, List.mem_filterMap]
      exact .inl ⟨_, hx, rfl⟩
    | _ => rfl
  unfold stepAt at h ⊢
  simp only [hi', hcalm, if_true] at h ⊢
  split at h
  · rename_i hg
    obtain ⟨a, h1, h2⟩ := pure_step hp h
    refine ⟨a, h1, fun t ht hr => ?_⟩
    exact h2 _ t (hops t ht) hr
  · rename_i g want hg
    split at h
    · cases h
    · rename_i t0 ht0
      have hlook : ∀ t : St, (∀ x ∈ oi.looksAt ops, t.env[x]? = s.env[x]?) → t.env[t0]? = s.env[t0]? := fun t ht => ht t0 (by
        simp only [Oper.looksAt, List.mem_append, hg]
        right
        have : (ops[g]?).bind (·.dst) = some t0 := by simpa using ht0
        rw [this]; simp)
      split at h
      · rename_i b hb
        split at h
        · rename_i hbw
          obtain ⟨a, h1, h2⟩ := pure_step hp h
          refine ⟨a, h1, fun t ht hr => ?_⟩
          simp only [hg, ht0, hlook t ht, hb, hbw, if_true]
          exact h2 _ t (hops t ht) hr
        · rename_i hbw
          cases h
          refine ⟨.tup [], rfl, fun t ht hr => ?_⟩
          simp only [hg, ht0, hlook t ht, hb]
          rw [if_neg hbw]
      · rename_i hb
        cases h
        refine ⟨.tup [], rfl, fun t ht hr => ?_⟩
        simp only [hg, ht0, hlook t ht, hb]
      · cases h

/-! All orders -/

def oAny (C : Ctx) (ops : Array Oper) (calm : List Nat) (B0 : Nat) (s' : St) : Nat → Array Bool → St → Prop
  | 0, listed, s => Region.ready .any ops listed = [] ∧ s = s'
  | n + 1, listed, s => (Region.ready .any ops listed = [] → s = s') ∧ ∀ i ∈ Region.ready .any ops listed, ∃ s1, stepAt C ops.toList calm B0 i s = some s1 ∧ oAny C ops calm B0 s' n (listed.setIfInBounds i true) s1

/-- May the pure operation i come ahead of all that may come up beside it? -/
def FreeP (ops : Array Oper) (calm : List Nat) (listed : Array Bool) (i : Nat) (oi : Oper) : Prop :=
  ∀ (j : Nat) (oj : Oper), ops[j]? = some oj → j ≠ i → listed.getD j true = false → (∀ e ∈ oj.after, Region.binds .any e = true → e.on ≠ i) →
    oi.apart ops oj = true ∧ (heapFree oi.op = true ∨ calmKind calm j oj.op = true) ∧ isAppend oj.op = false

theorem freeP_of {listed : Array Bool} {i : Nat} {oi : Oper} (h : freeB ops calm listed i oi = true) : FreeP ops calm listed i oi := by
  intro j oj hj hne hl hw
  have hlt : j < ops.size := (Array.getElem?_eq_some_iff.1 hj).1
  have h1 := List.all_eq_true.1 h j (List.mem_range.2 hlt)
  simp only [hj, hl, Bool.or_false, Bool.or_eq_true, beq_iff_eq, hne, false_or, Array.any_eq_true', Bool.and_eq_true, Bool.not_eq_true'] at h1
  rcases h1 with h1 | h1
  · obtain ⟨e, he, hb, ho⟩ := h1
    exact absurd ho (hw e he hb)
  · exact ⟨h1.1.1, h1.1.2, h1.2⟩

theorem oAny_first {s' : St} {i : Nat} {oi : Oper} (hi : ops[i]? = some oi) (hp : pureOp oi.op = true) :
    ∀ (fuel : Nat) (listed : Array Bool) (s s1 : St), FreeP ops calm listed i oi → i ∈ Region.ready .any ops listed → stepAt C ops.toList calm B0 i s = some s1 →
      oAny C ops calm B0 s' fuel (listed.setIfInBounds i true) s1 → oAny C ops calm B0 s' (fuel + 1) listed s := by
  intro fuel
  induction fuel with
  | zero =>
    intro listed s s1 _ hr hy H
    refine ⟨fun h => (by rw [h] at hr; cases hr), fun j hj => ?_⟩
    by_cases hji : j = i
    · subst hji; exact ⟨s1, hy, H⟩
    · have := ready_mono hj hji
      rw [H.1] at this
      cases this
  | succ fuel ih =>
    intro listed s s1 hfree hr hy H
    refine ⟨fun h => (by rw [h] at hr; cases hr), fun j hj => ?_⟩
    by_cases hji : j = i
    · subst hji; exact ⟨s1, hy, H⟩
    · obtain ⟨s2, h1, h2⟩ := H.2 j (ready_mono hj hji)
      obtain ⟨hjun, oj, hoj, hall⟩ := mem_ready.1 hj
      have hnot : ∀ e ∈ oj.after, Region.binds .any e = true → e.on ≠ i := fun e he hb heq => by
        have h1 := hall e he hb
        have h0 := (mem_ready.1 hr).1
        rw [heq] at h1
        rcases Nat.lt_or_ge i listed.size with h' | h'
        · simp [h'] at h0 h1; rw [h0] at h1; cases h1
        · simp [Array.getElem?_eq_none h'] at h1
      obtain ⟨hap, hcalm, hna⟩ := hfree j oj hoj hji hjun hnot
      obtain ⟨a, rfl, hP⟩ := stepAt_pure hi hp hy
      obtain ⟨s0, h3, rfl⟩ := stepAt_put (i := i) hoj hap hna h1
      obtain ⟨henv, hrows⟩ := stepAt_shape hoj hna h3
      refine ⟨s0, h3, ?_⟩
      have h4 : stepAt C ops.toList calm B0 i s0 = some (s0.put oi.dst a) := hP s0 (fun x hx => henv x (fun e => (Oper.apart_spec hap).2.2 x e hx)) (hcalm.imp id hrows)
      have hfree' : FreeP ops calm (listed.setIfInBounds j true) i oi := fun k ok hk hki hun hno => by
        refine hfree k ok hk hki ?_ hno
        by_cases hjk : j = k
        · subst hjk; exact hjun
        · rw [getD_set_ne true hjk] at hun; exact hun
      refine ih (listed.setIfInBounds j true) s0 _ hfree' (ready_mono hr (Ne.symm hji)) h4 ?_
      rw [Array.setIfInBounds_comm _ _ hji]
      exact h2

theorem oAny_sched {s' : St} : ∀ (order : List Nat) (listed : Array Bool) (s : St), schedFrom ops calm order listed = true → orunS C ops.toList calm B0 order s = some s' → oAny C ops calm B0 s' order.length listed s
  | [], listed, s, hB, h => by
    simp only [orunS, Option.some.injEq] at h
    simp only [schedFrom, List.isEmpty_iff] at hB
    exact ⟨hB, h⟩
  | i :: r, listed, s, hB, h => by
    simp only [orunS] at h
    obtain ⟨s1, h1, h2⟩ := bind_some_opt h
    simp only [schedFrom, Bool.and_eq_true, Bool.or_eq_true, beq_iff_eq] at hB
    obtain ⟨⟨hr, hor⟩, hB'⟩ := hB
    have H := oAny_sched r _ s1 hB' h2
    have hr' : i ∈ Region.ready .any ops listed := by simpa using hr
    rcases hor with hor | hor
    · refine ⟨fun h0 => (by rw [h0] at hr'; cases hr'), fun j hj => ?_⟩
      rw [hor] at hj
      have : j = i := by simpa using hj
      subst this
      exact ⟨s1, h1, H⟩
    · cases ho : ops[i]? with
      | none => rw [ho] at hor; cases hor
      | some oi =>
        rw [ho] at hor
        simp only [Bool.and_eq_true] at hor
        exact oAny_first ho hor.1 r.length listed s s1 (freeP_of hor.2) hr' h1 H

end

section
variable {P : Program} {B : Base} {C : Ctx}

theorem guard_value {s : St} {a : Act} {w : World} {ops : Array Oper} {j : Nat} {t : Tmp} {g : Bool} (hR : Rep B s a w) (ht : (ops.toList[j]?).bind (·.dst) = some t) (hg : s.env[t]? = some (.dat .bool g)) : yielded ops a.tmps j = some g := by
  obtain ⟨_, ι, hI⟩ := hR
  obtain ⟨v, hv, hr⟩ := hI.env t _ hg
  have e := dat_bool hr
  subst e
  have ht' : (ops[j]?).bind (·.dst) = some t := by simpa using ht
  simp [yielded, ht', hv]

theorem put_undef {s : St} {a : Act} {w : World} (hR : Rep B s a w) (d : Option Tmp) : Rep B (s.put d (.tup [])) (a.put d undef) w := by
  obtain ⟨hd, ι, hI⟩ := hR
  exact ⟨by cases d <;> exact hd, ι, hI.put d (a := .tup []) (v := undef) ⟨[], rfl, rfl⟩ a.defers⟩

theorem guard_none {s : St} {a : Act} {w : World} {ops : Array Oper} {j : Nat} {t : Tmp} (hR : Rep B s a w) (ht : (ops.toList[j]?).bind (·.dst) = some t) (hg : s.env[t]? = some (.tup [])) : yielded ops a.tmps j = none := by
  obtain ⟨_, ι, hI⟩ := hR
  obtain ⟨v, hv, vs, e, hvs⟩ := hI.env t _ hg
  have e2 : vs = [] := hvs
  subst e2
  subst e
  have ht' : (ops[j]?).bind (·.dst) = some t := by simpa using ht
  simp [yielded, ht', hv]

theorem Rep.drew {s : St} {a : Act} {w : World} (h : Rep B s a w) : Rep B s a { w with drawn := w.drawn + 1 } := by
  obtain ⟨hd, ι, hI⟩ := h
  exact ⟨hd, ι, hI.drew _⟩

theorem stepAt_wp (hC : COk P C) (hk : C.k = B.k) {ops : Array Oper} {calm : List Nat} {B0 i : Nat} {s s1 : St} {a : Act} {w : World} (h : stepAt C ops.toList calm B0 i s = some s1) (hR : Rep B s a w) (Q : Exit → Act → World → Prop) :
    wpOp P ops Q i (fun a' w' => Rep B s1 a' w') a w := by
  unfold stepAt at h
  cases ho : ops[i]? with
  | none =>
    have : ops.toList[i]? = none := by simpa using ho
    simp [this] at h
  | some o =>
    have ho' : ops.toList[i]? = some o := by simpa using ho
    simp only [ho'] at h
    unfold wpOp
    simp only [ho]
    have step : (if calmNow C calm i o s = true then cstep (optAlg St) C (B0 + i * width) o s some else none) = some s1 → o.wp P a w (fun a' w' => Rep B s1 a' w') Q := fun h => by
      split at h
      · exact cstep_sound hC hk hR h Q
      · cases h
    split at h
    · rename_i hg
      simp only [Region.wanted, hg, if_true]
      exact .inl (step h)
    · rename_i j want hg
      split at h
      · cases h
      · rename_i t ht
        split at h
        · rename_i g hgv
          have hy := guard_value hR ht hgv
          simp only [Region.wanted, hg, hy]
          split at h
          · rename_i hgw
            subst hgw
            simp only [beq_self_eq_true, if_true]
            exact .inl (step h)
          · rename_i hgw
            have hne : (some g == some want) = false := by simpa using hgw
            rw [hne]
            simp only [Bool.false_eq_true, if_false]
            cases h
            exact put_undef hR o.dst
        · rename_i hgv
          have hy := guard_none hR ht hgv
          simp only [Region.wanted, hg, hy]
          have hne : ((none : Option Bool) == some want) = false := by simp
          rw [hne]
          simp only [Bool.false_eq_true, if_false]
          cases h
          exact put_undef hR o.dst
        · cases h

theorem oAny_wp (hC : COk P C) (hk : C.k = B.k) {ops : Array Oper} {calm : List Nat} {B0 : Nat} {s' : St} (Q : Exit → Act → World → Prop) (hQ : ∀ a w, Rep B s' a w → Q .normal a w) :
    ∀ (fuel : Nat) (listed : Array Bool) (s : St) (a : Act) (w : World), oAny C ops calm B0 s' fuel listed s → Rep B s a w → wpAny P .any ops Q fuel listed a w
  | 0, listed, s, a, w, h, hR => ⟨h.1, hQ a w (h.2 ▸ hR)⟩
  | n + 1, listed, s, a, w, h, hR => ⟨fun h0 => hQ a w (h.1 h0 ▸ hR), fun i hi => by
      obtain ⟨s1, h1, h2⟩ := h.2 i hi
      exact wpOp_mono (fun a' w' hR' => oAny_wp hC hk Q hQ n _ s1 a' w' h2 hR') (stepAt_wp hC hk h1 hR Q)⟩

theorem draw_wp (hC : COk P C) (hk : C.k = B.k) {ops : Array Oper} {calm order : List Nat} {B0 : Nat} {s s' : St} {a : Act} {w : World} (hB : schedB ops calm order = true)
    (h : orunS C ops.toList calm B0 order s = some s') (hR : Rep B s a w) (Q : Exit → Act → World → Prop) (hQ : ∀ a w, Rep B s' a w → Q .normal a w) : wpAny P .any ops Q ops.size (Array.replicate ops.size false) a w := by
  simp only [schedB, Bool.and_eq_true, beq_iff_eq] at hB
  have H := oAny_sched order _ s hB.2 h
  rw [hB.1.2] at H
  exact oAny_wp hC hk Q hQ _ _ s a w H hR

end
end Go.Rv
