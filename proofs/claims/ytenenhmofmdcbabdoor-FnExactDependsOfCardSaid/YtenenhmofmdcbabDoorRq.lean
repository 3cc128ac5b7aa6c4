/-
  The abstract run is sound. Conditions: none.
-/
import Derived.Test.YtenenhmofmdcbabDoorRqb
import Derived.Test.YtenenhmofmdcbabDoorRnf
set_option linter.unusedSimpArgs false
set_option linter.unusedVariables false
namespace Go.Rv

section
variable {P : Program} {B : Base} {C : Ctx}

theorem orun_wp (hC : COk P C) (hk : C.k = B.k) (ops : Array Oper) (fr : List Turn) (B0 : Nat) (Q : Exit → Act → World → Prop) (s' : St) (hQ : ∀ a w, Rep B s' a w → Q .normal a w) :
    ∀ (r : List Oper) (i : Nat) (s : St) (a : Act) (w : World), (∀ j, r[j]? = ops[i + j]?) → orun C ops.toList fr B0 i r s = some s' → Rep B s a w → wpOps P ops Q (List.range' i r.length) a w
  | [], i, s, a, w, _, h, hR => by
    simp only [orun] at h; cases h
    exact hQ a w (hk ▸ hR.freezeAt i fr)
  | o :: r, i, s0, a, w, hr, h, hR0 => by
    have ho : ops[i]? = some o := by simpa using (hr 0).symm
    have hrest : ∀ j, r[j]? = ops[i + 1 + j]? := fun j => by
      have := hr (j + 1)
      simp only [List.getElem?_cons_succ] at this
      rw [this]; congr 1; omega
    simp only [List.length_cons, List.range'_succ]
    rw [wpOps_cons]
    unfold wpOp
    simp only [ho]
    have step : ∀ {s : St}, Rep B s a w → (cstep (optAlg St) C (B0 + i * width) o s some).bind (orun C ops.toList fr B0 (i + 1) r) = some s' → o.wp P a w (wpOps P ops Q (List.range' (i + 1) r.length)) Q := fun {s} hR h => by
      cases hs : cstep (optAlg St) C (B0 + i * width) o s some with
      | none => rw [hs] at h; simp at h
      | some s1 =>
        rw [hs] at h
        simp only [Option.bind_some] at h
        exact Oper.wp_mono (fun a' w' hR' => orun_wp hC hk ops fr B0 Q s' hQ r (i + 1) s1 a' w' hrest h hR') (cstep_sound hC hk hR hs Q)
    unfold orun at h
    simp only at h
    have hR : Rep B (freezeAt C.k i fr s0) a w := hk ▸ hR0.freezeAt i fr
    generalize freezeAt C.k i fr s0 = s at h hR
    split at h
    · rename_i hg
      simp only [Region.wanted, hg, if_true]
      exact .inl (step hR h)
    · rename_i j want hg
      split at h
      · cases h
      · rename_i t ht
        split at h
        · rename_i g hgv
          have hy := guard_value hR ht hgv
          simp only [Region.wanted, hg, hy]
          split at h
          · rename_i hgw
            subst hgw
            simp only [beq_self_eq_true, if_true]
            exact .inl (step hR h)
          · rename_i hgw
            have hne : (some g == some want) = false := by simpa using hgw
            rw [hne]
            simp only [Bool.false_eq_true, if_false]
            exact orun_wp hC hk ops fr B0 Q s' hQ r (i + 1) _ _ w hrest h (put_undef hR o.dst)
        · rename_i hgv
          have hy := guard_none hR ht hgv
          simp only [Region.wanted, hg, hy]
          have hne : ((none : Option Bool) == some want) = false := by simp
          rw [hne]
          simp only [Bool.false_eq_true, if_false]
          exact orun_wp hC hk ops fr B0 Q s' hQ r (i + 1) _ _ w hrest h (put_undef hR o.dst)
        · cases h

theorem mask_get (live : List Nat) : ∀ (l : List AV) (n i : Nat) (a : AV), (mask live n l)[i]? = some a → ∃ a0, l[i]? = some a0 ∧ (a = a0 ∨ a = .undef)
  | [], _, _, _, h => by simp [mask] at h
  | b :: r, n, 0, a, h => by
    simp only [mask, List.getElem?_cons_zero, Option.some.injEq] at h
    refine ⟨b, rfl, ?_⟩
    split at h
    · exact .inl h.symm
    · exact .inr h.symm
  | b :: r, n, i + 1, a, h => by
    simp only [mask, List.getElem?_cons_succ] at h
    simpa using mask_get live r (n + 1) i a h

theorem refs_in_env : ∀ {l : List AV} {i : Nat} {a : AV}, l[i]? = some a → ∀ g, a.refs g = true → g ∈ idsL l := fun {l i a} h g hg => refsL_ids l g (refsL_get h hg)

theorem norm_sound {s s' : St} {a : Act} {w : World} (live : List Nat) (hR : Rep B s a w) (h : normO B.k live s = some s') : Rep B s' a w := by
  obtain ⟨hd, ι, hI⟩ := hR
  unfold normO at h
  simp only at h
  split at h
  · rename_i hchk
    generalize hids : reach s.heap (s.heap.length + 1) 0 (addNew (List.range B.k) (idsL (mask live 0 s.env))) = ids at h hchk
    simp only [Bool.and_eq_true, beq_iff_eq] at hchk
    obtain ⟨⟨⟨hnd, hcl⟩, hall⟩, hk⟩ := hchk
    simp only [Option.some.injEq] at h
    subst h
    let ιs : Plc := fun j => match ids[j]? with | some g => ι g | none => none
    have hidx : ∀ g, g ∈ ids → ids[place ids g]? = some g := fun g hg => place_get hg
    have hsumj : ∀ (j : Nat) g, ids[j]? = some g → sumOf ιs (subHeap s.heap ids) j = sumOf ι s.heap g := fun j g hj => by
      obtain ⟨r0, hr0, _⟩ := closed_get hcl (List.mem_of_getElem? hj)
      have := sub_of hj hr0
      simp [sumOf, this, hr0, ιs, hj, Row.ren_cells, Row.ren_len]
    have hsum : ∀ g, g ∈ ids → sumOf ιs (subHeap s.heap ids) (place ids g) = sumOf ι s.heap g := fun g hg => hsumj _ _ (hidx g hg)
    have hstab : ∀ b, stab w ι s.heap b → stab w ιs (subHeap s.heap ids) b := fun b hb => by
      refine ⟨hb.1, fun j r p hj hp => ?_⟩
      obtain ⟨g, r0, hi, hg, _⟩ := sub_get hj
      simp only [ιs, hi] at hp
      exact hb.2 g r0 p hg hp
    have hdst : ∀ b, dst B.D w ι s.heap b → dst B.D w ιs (subHeap s.heap ids) b := fun b hb => ⟨hb.1, hstab b hb.2⟩
    refine ⟨hd, ιs, hI.kept, ⟨fun j r hj => ?_, fun j1 j2 r1 r2 p1 p2 e1 e2 q1 q2 hne => ?_, fun j r p hj hp => ?_⟩, fun b hb => hstab b (hI.stay b hb), fun g hg => ?_, fun i x hx => ?_, hI.glob.mono (Nat.le_refl _) (fun b hb _ => ⟨hdst b hb, rfl⟩)⟩
    · obtain ⟨g, r0, hi, hg, rfl⟩ := sub_get hj
      have hι : ιs j = ι g := by simp [ιs, hi]
      rw [hι]
      refine RowRep.ren (.inl hdst) (fun x hx => ?_) (hI.hrep.rows g r0 hg)
      obtain ⟨r1, hr1, hin⟩ := closed_get hcl (List.mem_of_getElem? hi)
      have : r1 = r0 := by rw [hg] at hr1; simpa using hr1.symm
      subst this
      exact hsum x (hin x (Row.refs_ids hx))
    · obtain ⟨g1, r1', hi1, hg1, _⟩ := sub_get e1
      obtain ⟨g2, r2', hi2, hg2, _⟩ := sub_get e2
      simp only [ιs, hi1] at q1
      simp only [ιs, hi2] at q2
      exact hI.hrep.sep g1 g2 r1' r2' p1 p2 hg1 hg2 q1 q2 (fun e => hne (nodup_inj hnd hi1 (e ▸ hi2)))
    · obtain ⟨g, r0, hi, hg, _⟩ := sub_get hj
      simp only [ιs, hi] at hp
      exact hI.hrep.own g r0 p hg hp
    · have hj : ids[g]? = some g := by
        have h1 : (ids.take B.k)[g]? = some g := by rw [hk]; simp [hg]
        rw [List.getElem?_take, if_pos hg] at h1
        exact h1
      obtain ⟨h1, r0, hr0⟩ := hI.io g hg
      exact ⟨(hsumj g g hj).trans h1, _, sub_of hj hr0⟩
    · obtain ⟨x0, hx0, rfl⟩ := renL_get hx
      obtain ⟨y, hy, hor⟩ := mask_get live s.env 0 i x0 hx0
      obtain ⟨v, hv, hr⟩ := hI.env i y hy
      refine ⟨v, hv, ?_⟩
      rcases hor with rfl | rfl
      · exact AVRep.ren x0 v (.inl hdst) (fun g hg => hsum g (by
          have := List.all_eq_true.1 hall g (refs_in_env hx0 g hg)
          simpa using this)) hr
      · trivial
  · cases h

theorem withNorm_sound {k : Nat} {s : St} {a : Act} {w : World} {live : List Nat} {K : St → Prop} (hk : k = B.k) (hR : Rep B s a w) (h : withNorm k live s K) : ∃ s', K s' ∧ Rep B s' a w := by
  unfold withNorm at h
  split at h
  · rename_i s' hs
    subst hk
    exact ⟨s', h, norm_sound live hR hs⟩
  · cases h

theorem Rep.more {s : St} {a : Act} {w : World} (hR : Rep B s a w) (n : Nat) : Rep B { s with heap := s.heap ++ List.replicate n none } a w := by
  obtain ⟨hd, ι, hI⟩ := hR
  have hget : ∀ (g : Nat) (r : Row), (s.heap ++ List.replicate n none)[g]? = some (some r) ↔ s.heap[g]? = some (some r) := fun g r => by
    by_cases hg : g < s.heap.length
    · rw [List.getElem?_append_left hg]
    · rw [List.getElem?_append_right (by omega), List.getElem?_eq_none (l := s.heap) (by omega)]
      simp [List.getElem?_replicate]
  have hsum : sumOf ι (s.heap ++ List.replicate n none) = sumOf ι s.heap := by
    funext g
    unfold sumOf
    cases h : s.heap[g]? with
    | none =>
      cases h2 : (s.heap ++ List.replicate n none)[g]? with
      | none => rfl
      | some x =>
        cases x with
        | none => rfl
        | some r => rw [hget] at h2; rw [h] at h2; simp at h2
    | some x =>
      have hlt := (List.getElem?_eq_some_iff.1 h).1
      rw [List.getElem?_append_left hlt, h]
  have hst : ∀ b, stab w ι (s.heap ++ List.replicate n none) b ↔ stab w ι s.heap b := fun b => by
    constructor
    · exact fun hb => ⟨hb.1, fun g r p hg hp => hb.2 g r p ((hget g r).2 hg) hp⟩
    · exact fun hb => ⟨hb.1, fun g r p hg hp => hb.2 g r p ((hget g r).1 hg) hp⟩
  have t : Trans w ι s.heap w ι (s.heap ++ List.replicate n none) (fun _ => True) := ⟨Nat.le_refl _, fun b hb => ⟨(hst b).2 hb, rfl⟩, fun g _ => by rw [hsum]⟩
  refine ⟨hd, ι, hI.kept, ⟨fun g r hg => ?_, fun g1 g2 r1 r2 p1 p2 e1 e2 => hI.hrep.sep g1 g2 r1 r2 p1 p2 ((hget _ _).1 e1) ((hget _ _).1 e2), fun g r p hg hp => hI.hrep.own g r p ((hget _ _).1 hg) hp⟩, fun b hb => (hst b).2 (hI.stay b hb), fun g hg => ?_, fun i x hx => ?_, t.globs hI.glob⟩
  · exact t.row (fun _ _ => trivial) (fun _ _ _ _ => rfl) (hI.hrep.rows g r ((hget g r).1 hg))
  · obtain ⟨h1, r, hr⟩ := hI.io g hg
    exact ⟨by rw [hsum]; exact h1, r, (hget g r).2 hr⟩
  · obtain ⟨v, hv, hr⟩ := hI.env i x hx
    exact ⟨v, hv, t.av (fun _ _ => trivial) hr⟩

def Ends (B : Base) (K : Exit → St → Prop) (e : Exit) (a : Act) (w : World) : Prop := ∃ s', K e s' ∧ Rep B s' a w

theorem awpLoop_sound {c : Code} {body : St → (Exit → St → Prop) → Prop} (hb : ∀ s K a w, body s K → Rep B s a w → c.wp P (Ends B K) a w) {K : Exit → St → Prop} :
    ∀ (n : Nat) (s : St) (a : Act) (w : World), awpLoop body n s K → Rep B s a w → Code.rounds P c (Ends B K) n a w
  | 0, s, a, w, h, _ => h
  | n + 1, s, a, w, h, hR => by
    rw [rounds_succ]
    refine wp_mono (hb s _ a w h hR) fun e a' w' hq => ?_
    obtain ⟨s', hK, hR'⟩ := hq
    cases e with
    | normal => exact awpLoop_sound hb n s' a' w' hK hR'
    | _ => exact ⟨s', hK, hR'⟩

theorem awp_sound (hC : COk P C) (hk : C.k = B.k) (L : Nat) : ∀ (c : Code) (an : Ann) (s : St) (K : Exit → St → Prop) (a : Act) (w : World), awp C L c an s K → Rep B s a w → c.wp P (Ends B K) a w
  | .skip, an, s, K, a, w, h, hR => by
    cases an with
    | leaf live =>
      unfold awp at h
      obtain ⟨s2, h2, hR2⟩ := withNorm_sound hk hR h
      exact wp_skip ⟨s2, h2, hR2⟩
    | leafF fr live =>
      unfold awp at h
      obtain ⟨s2, h2, hR2⟩ := withNorm_sound hk (hk ▸ hR.freezeAt 0 fr) h
      exact wp_skip ⟨s2, h2, hR2⟩
    | _ => simp [awp] at h
  | .ret, an, s, K, a, w, h, hR => by
    cases an with
    | leaf live =>
      unfold awp at h
      obtain ⟨s2, h2, hR2⟩ := withNorm_sound hk hR h
      exact wp_ret ⟨s2, h2, hR2⟩
    | leafF fr live =>
      unfold awp at h
      obtain ⟨s2, h2, hR2⟩ := withNorm_sound hk (hk ▸ hR.freezeAt 0 fr) h
      exact wp_ret ⟨s2, h2, hR2⟩
    | _ => simp [awp] at h
  | .exit id, an, s, K, a, w, h, hR => by
    cases an with
    | leaf live =>
      unfold awp at h
      obtain ⟨s2, h2, hR2⟩ := withNorm_sound hk hR h
      exact wp_exit ⟨s2, h2, hR2⟩
    | leafF fr live =>
      unfold awp at h
      obtain ⟨s2, h2, hR2⟩ := withNorm_sound hk (hk ▸ hR.freezeAt 0 fr) h
      exact wp_exit ⟨s2, h2, hR2⟩
    | _ => simp [awp] at h
  | .region id ops d, an, s, K, a, w, h, hR => by
    have hregion : ∀ (fr : List Turn) (live : List Nat), (crun C ops.toList fr s.heap.length 0 ops.toList { s with heap := s.heap ++ List.replicate (ops.size * width) none } fun s' => withNorm C.k live s' (K .normal)) →
        (Code.region id ops false).wp P (Ends B K) a w := fun fr live h => by
      have h1 := crun_orun C ops.toList _ _ _ _ _ _ h
      obtain ⟨s1, hs1, hK⟩ := wpO_iff.1 h1
      refine wp_region ?_
      have := orun_wp hC hk ops fr s.heap.length (Ends B K) s1 (fun a' w' hR' => by
        obtain ⟨s2, h2, hR2⟩ := withNorm_sound hk hR' hK
        exact ⟨s2, h2, hR2⟩) ops.toList 0 _ a w (by simp) hs1 (hR.more _)
      simpa [List.range_eq_range'] using this
    cases d with
    | true =>
      cases an with
      | draw calm order fr live =>
        unfold awp at h
        cases hB : schedB ops calm order with
        | false => rw [hB] at h; exact h.elim
        | true =>
          rw [hB] at h
          have h1 := crunS_orunS C ops.toList calm _ _ _ _ h
          obtain ⟨s1, hs1, hK⟩ := wpO_iff.1 h1
          refine wp_region_any hC.mixed (draw_wp hC hk hB hs1 (hR.more _).drew (Ends B K) fun a' w' hR' => ?_)
          obtain ⟨s2, h2, hR2⟩ := withNorm_sound hk (hk ▸ hR'.freezeAt 0 fr) hK
          exact ⟨s2, h2, hR2⟩
      | _ => simp [awp] at h
    | false =>
      cases an with
      | leaf live =>
        unfold awp at h
        exact hregion [] live h
      | leafF fr live =>
        unfold awp at h
        exact hregion fr live h
      | _ => simp [awp] at h
  | .seq x y, an, s, K, a, w, h, hR => by
    cases an with
    | seq p q =>
      unfold awp at h
      refine wp_seq (wp_mono (awp_sound hC hk L x p s _ a w h hR) fun e a' w' hq => ?_)
      obtain ⟨s', hK, hR'⟩ := hq
      cases e with
      | normal => exact awp_sound hC hk L y q s' K a' w' hK hR'
      | _ => exact ⟨s', hK, hR'⟩
    | _ => simp [awp] at h
  | .cond c x y, an, s, K, a, w, h, hR => by
    cases an with
    | cond p q =>
      unfold awp at h
      split at h
      · rename_i g hg
        have hv : a.eval c = .bool g := by
          obtain ⟨_, ι, hI⟩ := hR
          have e := dat_bool (evalO_rep hI hg a.defers)
          exact e
        refine wp_cond hv ?_
        cases g with
        | true => exact awp_sound hC hk L x p s _ a w h hR
        | false => exact awp_sound hC hk L y q s _ a w h hR
      · cases h
    | _ => simp [awp] at h
  | .block id c, an, s, K, a, w, h, hR => by
    cases an with
    | block p =>
      unfold awp at h
      refine wp_block (wp_mono (awp_sound hC hk L c p s _ a w h hR) fun e a' w' hq => ?_)
      obtain ⟨s', hK, hR'⟩ := hq
      cases e with
      | exit i =>
        simp only [Exit.inBlock]
        simp only [onExit] at hK
        split
        · rename_i hi
          rw [if_pos hi] at hK
          exact ⟨s', hK, hR'⟩
        · rename_i hi
          rw [if_neg hi] at hK
          exact ⟨s', hK, hR'⟩
      | _ => exact ⟨s', hK, hR'⟩
    | _ => simp [awp] at h
  | .loop c, an, s, K, a, w, h, hR => by
    cases an with
    | loop p =>
      unfold awp at h
      exact wp_loop_rounds L (awpLoop_sound (fun s K a w h hR => awp_sound hC hk L c p s K a w h hR) L s a w h hR)
    | _ => simp [awp] at h
  | .rangeFunc _ _ _ _, an, s, K, a, w, h, hR => by simp [awp] at h
  | .scope _, an, s, K, a, w, h, hR => by simp [awp] at h
  | .label _, an, s, K, a, w, h, hR => by simp [awp] at h
  | .goto _, an, s, K, a, w, h, hR => by simp [awp] at h
  | .refuse _, an, s, K, a, w, h, hR => by simp [awp] at h

end
end Go.Rv
