/-
  The abstract run is sound. Conditions: none.
-/
import Derived.Test.YtlpcfakfhfjclaaRp
import Derived.LoopN
set_option linter.unusedSimpArgs false
set_option linter.unusedVariables false
namespace Go.Rv

/-! What is shown is what is reckoned -/

section
variable {β : Type} {Kf : β → Prop}

theorem cps_bind {α : Type} (o : Option α) (f : α → Option β) (g : α → Prop) (h : ∀ a, g a = wpO (f a) Kf) : propAlg.bind o g = wpO ((optAlg β).bind o f) Kf := by
  cases o with
  | none => rfl
  | some a => exact h a

theorem cps_fail : propAlg.fail = wpO ((optAlg β).fail) Kf := rfl

theorem lift_cps {α : Type} (x : Option α) (k : α → Option β) (g : α → Prop) (h : ∀ a, g a = wpO (k a) Kf) : lift propAlg x g = wpO (lift (optAlg β) x k) Kf := by
  cases x with
  | none => rfl
  | some a => exact h a

theorem abin_cps (op : BinOp) (x y : AV) (k : AV → Option β) (g : AV → Prop) (h : ∀ a, g a = wpO (k a) Kf) : abin propAlg op x y g = wpO (abin (optAlg β) op x y k) Kf := by
  unfold abin
  split
  · split
    · exact cps_bind _ _ _ (fun _ => h _)
    · exact cps_bind _ _ _ (fun _ => h _)
    · split
      · split <;> first | exact h _ | exact cps_bind _ _ _ (fun _ => h _) | rfl
      · rfl
  · split <;> first | exact h _ | exact cps_bind _ _ _ (fun _ => h _) | rfl
  · rfl

theorem aun_cps (op : UnOp) (x : AV) (k : AV → Option β) (g : AV → Prop) (h : ∀ a, g a = wpO (k a) Kf) : aun propAlg op x g = wpO (aun (optAlg β) op x k) Kf := by
  unfold aun
  split <;> first | exact h _ | rfl

theorem acut_cps (lo hi : Option AV) (L : Nat) (k : Nat → Nat → Option β) (g : Nat → Nat → Prop) (h : ∀ a b, g a b = wpO (k a b) Kf) : acut propAlg lo hi L g = wpO (acut (optAlg β) lo hi L k) Kf := by
  unfold acut
  split
  · exact h _ _
  · exact cps_bind _ _ _ (fun _ => h _ _)
  · exact cps_bind _ _ _ (fun _ => h _ _)
  · exact cps_bind _ _ _ (fun _ => cps_bind _ _ _ (fun _ => h _ _))
  · rfl

theorem ite_cps {c : Prop} [Decidable c] (x y : Option β) (a b : Prop) (h1 : a = wpO x Kf) (h2 : b = wpO y Kf) : (if c then a else b) = wpO (if c then x else y) Kf := by
  split <;> assumption

theorem aslice_cps (T : TT) (s : St) (t : TypeId) (x : AV) (lo hi : Option AV) (k : AV → Option β) (g : AV → Prop) (h : ∀ a, g a = wpO (k a) Kf) : aslice propAlg T s t x lo hi g = wpO (aslice (optAlg β) T s t x lo hi k) Kf := by
  unfold aslice
  split
  · split
    · split
      · split
        · exact ite_cps _ _ _ _ (acut_cps _ _ _ _ _ (fun _ _ => h _)) rfl
        · split
          · exact ite_cps _ _ _ _ (acut_cps _ _ _ _ _ (fun _ _ => h _)) rfl
          · rfl
        · split
          · exact ite_cps _ _ _ _ (acut_cps _ _ _ _ _ (fun _ _ => h _)) rfl
          · rfl
        · rfl
      · rfl
    · split
      · exact acut_cps _ _ _ _ _ (fun _ _ => h _)
      · rfl
    · rfl
  · rfl

theorem aindexAddr_cps (T : TT) (s : St) (t : TypeId) (x i : AV) (k : AV → Option β) (g : AV → Prop) (h : ∀ a, g a = wpO (k a) Kf) : aindexAddr propAlg T s t x i g = wpO (aindexAddr (optAlg β) T s t x i k) Kf := by
  unfold aindexAddr
  split
  · split
    · split
      · split
        · split
          · exact ite_cps _ _ _ _ (cps_bind _ _ _ (fun _ => h _)) rfl
          · split
            · exact ite_cps _ _ _ _ (cps_bind _ _ _ (fun _ => h _)) rfl
            · rfl
          · split
            · exact ite_cps _ _ _ _ (cps_bind _ _ _ (fun _ => h _)) rfl
            · rfl
          · rfl
        · rfl
      · split
        · split
          · split
            · exact ite_cps _ _ _ _ (cps_bind _ _ _ (fun _ => cps_bind _ _ _ (fun _ => h _))) rfl
            · rfl
          · rfl
        · rfl
      · rfl
    · rfl
  · rfl

theorem fin_cps (ti : TI) (cs : List AV) (off : Nat) (k : AV → Option β) (g : AV → Prop) (h : ∀ a, g a = wpO (k a) Kf) :
    (if isStruct ti.kind then (if off + ti.size ≤ cs.length then g (.agg ((cs.drop off).take ti.size)) else propAlg.fail) else match cs[off]? with | some a => g a | none => propAlg.fail) =
    wpO (if isStruct ti.kind then (if off + ti.size ≤ cs.length then k (.agg ((cs.drop off).take ti.size)) else (optAlg β).fail) else match cs[off]? with | some a => k a | none => (optAlg β).fail) Kf := by
  refine ite_cps _ _ _ _ (ite_cps _ _ _ _ (h _) rfl) ?_
  split <;> first | exact h _ | rfl

theorem aload_cps (T : TT) (s : St) (t : TypeId) (p : AV) (k : AV → Option β) (g : AV → Prop) (h : ∀ a, g a = wpO (k a) Kf) : aload propAlg T s t p g = wpO (aload (optAlg β) T s t p k) Kf := by
  unfold aload
  split
  · rfl
  · simp only
    split
    · exact fin_cps _ _ _ _ _ h
    · split
      · exact cps_bind _ _ _ (fun _ => fin_cps _ _ _ _ _ h)
      · rfl
    · split
      · exact fin_cps _ _ _ _ _ h
      · rfl
    · rfl

theorem afieldAddr_cps (T : TT) (t : TypeId) (x : AV) (f : Nat) (k : AV → Option β) (g : AV → Prop) (h : ∀ a, g a = wpO (k a) Kf) : afieldAddr propAlg T t x f g = wpO (afieldAddr (optAlg β) T t x f k) Kf := by
  unfold afieldAddr
  split
  · split
    · split
      · split
        · refine ite_cps _ _ _ _ rfl ?_
          split <;> first | exact h _ | rfl
        · rfl
      · rfl
    · rfl
  · rfl

theorem afield_cps (T : TT) (t : TypeId) (x : AV) (f : Nat) (k : AV → Option β) (g : AV → Prop) (h : ∀ a, g a = wpO (k a) Kf) : afield propAlg T t x f g = wpO (afield (optAlg β) T t x f k) Kf := by
  unfold afield
  split
  · split
    · split
      · split
        · refine ite_cps _ _ _ _ (ite_cps _ _ _ _ (h _) rfl) ?_
          split <;> first | exact h _ | rfl
        · rfl
      · rfl
    · rfl
  · rfl

theorem astore_cps (T : TT) (s : St) (t : TypeId) (p v : AV) (k : St → Option β) (g : St → Prop) (h : ∀ a, g a = wpO (k a) Kf) : astore propAlg T s t p v g = wpO (astore (optAlg β) T s t p v k) Kf := by
  unfold astore
  split
  · rfl
  · refine ite_cps _ _ _ _ ?_ (ite_cps _ _ _ _ ?_ rfl)
    · split
      · split
        · exact ite_cps _ _ _ _ (h _) rfl
        · rfl
      · rfl
    · split
      · split
        · split
          · exact ite_cps _ _ _ _ (h _) rfl
          · rfl
        · rfl
      · split
        · exact ite_cps _ _ _ _ (h _) rfl
        · rfl
      · rfl

theorem allocRow_cps (s : St) (base : Nat) (r : Row) (k : St → Option β) (g : St → Prop) (h : ∀ a, g a = wpO (k a) Kf) : allocRow propAlg s base r g = wpO (allocRow (optAlg β) s base r k) Kf := by
  unfold allocRow
  split <;> first | exact h _ | rfl

theorem aappend_cps (C : Ctx) (base : Nat) (s : St) (t : TypeId) (x y : AV) (k : AV → St → Option β) (g : AV → St → Prop) (h : ∀ a b, g a b = wpO (k a b) Kf) : aappend propAlg C base s t x y g = wpO (aappend (optAlg β) C base s t x y k) Kf := by
  unfold aappend
  split
  · split
    · refine ite_cps _ _ _ _ ?_ rfl
      split
      · split
        · exact cps_bind _ _ _ (fun _ => allocRow_cps _ _ _ _ _ (fun _ => h _ _))
        · split
          · split
            · exact ite_cps _ _ _ _ (cps_bind _ _ _ (fun _ => h _ _)) rfl
            · rfl
          · rfl
        · split
          · split
            · exact ite_cps _ _ _ _ (cps_bind _ _ _ (fun _ => h _ _)) rfl
            · rfl
          · rfl
        · rfl
      · rfl
    · rfl
  · rfl

theorem acall_cps (C : Ctx) (base : Nat) (s : St) (f : FuncId) (args : List AV) (types : List TypeId) (k : AV → St → Option β) (g : AV → St → Prop) (h : ∀ a b, g a b = wpO (k a b) Kf) : acall propAlg C base s f args types g = wpO (acall (optAlg β) C base s f args types k) Kf := by
  unfold acall
  split
  · rfl
  · simp only
    refine ite_cps _ _ _ _ (cps_bind _ _ _ (fun _ => ite_cps _ _ _ _ (h _ _) rfl)) rfl

theorem cstep_cps (C : Ctx) (base : Nat) (o : Oper) (s : St) (k : St → Option β) (g : St → Prop) (h : ∀ a, g a = wpO (k a) Kf) : cstep propAlg C base o s g = wpO (cstep (optAlg β) C base o s k) Kf := by
  unfold cstep
  obtain ⟨odst, oop, otype, opos, oafter, oguard⟩ := o
  cases oop <;> simp only
  case move x => exact lift_cps _ _ _ (fun _ => h _)
  case assign x =>
    refine lift_cps _ _ _ (fun a => ?_)
    split
    · split
      · split
        · exact allocRow_cps _ _ _ _ _ (fun _ => h _)
        · rfl
      · rfl
    · exact h _
  case pick c x y =>
    refine lift_cps _ _ _ (fun a => ?_)
    split
    · exact lift_cps _ _ _ (fun _ => lift_cps _ _ _ (fun _ => h _))
    · rfl
  case alloc e =>
    split
    · split
      · split
        · split
          · exact ite_cps _ _ _ _ (allocRow_cps _ _ _ _ _ (fun _ => h _)) rfl
          · rfl
        · rfl
      · exact ite_cps _ _ _ _ (allocRow_cps _ _ _ _ _ (fun _ => h _)) rfl
    · rfl
  case box e x =>
    refine lift_cps _ _ _ (fun a => ?_)
    split
    · exact ite_cps _ _ _ _ (allocRow_cps _ _ _ _ _ (fun _ => h _)) rfl
    · exact ite_cps _ _ _ _ (allocRow_cps _ _ _ _ _ (fun _ => h _)) rfl
  case build t ps =>
    split
    · split
      · exact ite_cps _ _ _ _ (lift_cps _ _ _ (fun _ => h _)) rfl
      · rfl
    · rfl
  case buildSlice t n ps =>
    split
    · split
      · split
        · exact ite_cps _ _ _ _ (allocRow_cps _ _ _ _ _ (fun _ => h _)) rfl
        · rfl
      · rfl
    · rfl
  case makeSlice t l c =>
    split
    · split
      · exact ite_cps _ _ _ _ (cps_bind _ _ _ (fun _ => allocRow_cps _ _ _ _ _ (fun _ => h _))) rfl
      · rfl
    · rfl
  case load t p => exact lift_cps _ _ _ (fun _ => aload_cps _ _ _ _ _ _ (fun _ => h _))
  case store t p v => exact lift_cps _ _ _ (fun _ => lift_cps _ _ _ (fun _ => astore_cps _ _ _ _ _ _ _ (fun _ => h _)))
  case nilCheck x =>
    refine lift_cps _ _ _ (fun a => ?_)
    split <;> first | exact h _ | rfl
  case binOp op t x y yt => exact lift_cps _ _ _ (fun _ => lift_cps _ _ _ (fun _ => abin_cps _ _ _ _ _ (fun _ => h _)))
  case unOp op t x => exact lift_cps _ _ _ (fun _ => aun_cps _ _ _ _ (fun _ => h _))
  case convert st dt x =>
    refine lift_cps _ _ _ (fun a => ?_)
    split
    · split <;> first | exact h _ | rfl
    · rfl
  case makeFunc fn first caps =>
    cases fn <;> (try rfl)
    simp only
    split <;> first | exact h _ | rfl
  case slice t x lo hi mx =>
    cases mx with
    | some m => rfl
    | none =>
      simp only
      split
      · exact aslice_cps _ _ _ _ _ _ _ _ (fun _ => h _)
      · rfl
  case fieldAddr t x f => exact lift_cps _ _ _ (fun _ => afieldAddr_cps _ _ _ _ _ _ (fun _ => h _))
  case field t x f => exact lift_cps _ _ _ (fun _ => afield_cps _ _ _ _ _ _ (fun _ => h _))
  case indexAddr t x i => exact lift_cps _ _ _ (fun _ => lift_cps _ _ _ (fun _ => aindexAddr_cps _ _ _ _ _ _ _ (fun _ => h _)))
  case index t x i =>
    split
    · split
      · exact cps_bind _ _ _ (fun _ => h _)
      · rfl
    · rfl
  case extract x i =>
    refine lift_cps _ _ _ (fun a => ?_)
    split
    · exact lift_cps _ _ _ (fun _ => h _)
    · rfl
  case call c =>
    obtain ⟨callee, cargs, ctypes⟩ := c
    cases callee <;> (try rfl)
    case value f =>
      refine lift_cps _ _ _ (fun a => ?_)
      split
      · split
        · exact acall_cps _ _ _ _ _ _ _ _ (fun _ _ => h _)
        · rfl
      · rfl
    case builtin b =>
      cases b <;> (try rfl)
      case len =>
        simp only
        split
        · refine lift_cps _ _ _ (fun a => ?_)
          split
          · split <;> first | rfl | exact lift_cps _ _ _ (fun _ => h _)
          · rfl
        · rfl
      case append =>
        simp only
        split
        · exact ite_cps _ _ _ _ (lift_cps _ _ _ (fun _ => lift_cps _ _ _ (fun _ => aappend_cps _ _ _ _ _ _ _ _ (fun _ _ => h _)))) rfl
        · rfl
      case max =>
        simp only
        split
        · exact lift_cps _ _ _ (fun _ => h _)
        · rfl
      case min =>
        simp only
        split
        · exact lift_cps _ _ _ (fun _ => h _)
        · rfl
  all_goals rfl

end

/-- The step that is shown, as one that is reckoned. -/
theorem cstep_wpO {C : Ctx} {base : Nat} {o : Oper} {s : St} {K : St → Prop} (h : cstep propAlg C base o s K) : wpO (cstep (optAlg St) C base o s some) K := by
  rw [← cstep_cps C base o s some K (fun _ => rfl)]
  exact h

theorem set_self {l : List AV} {t : Nat} {x : AV} (h : l[t]? = some x) : l.set t x = l := by
  obtain ⟨hlt, rfl⟩ := List.getElem?_eq_some_iff.1 h
  simp

theorem crun_orun (C : Ctx) (ops : List Oper) (B0 : Nat) (K : St → Prop) : ∀ (r : List Oper) (i : Nat) (s : St), crun C ops B0 i r s K → wpO (orun C ops B0 i r s) K
  | [], _, _, h => h
  | o :: r, i, s, h => by
    have step : ∀ s : St, cstep propAlg C (B0 + i * width) o s (fun s' => crun C ops B0 (i + 1) r s' K) → wpO ((cstep (optAlg St) C (B0 + i * width) o s some).bind (orun C ops B0 (i + 1) r)) K := fun s h => by
      rw [wpO_bind]
      exact wpO_mono (fun s' h' => crun_orun C ops B0 K r (i + 1) s' h') (cstep_wpO h)
    unfold crun at h
    unfold orun
    cases hgd : o.guard with
    | none =>
      simp only [hgd] at h ⊢
      exact step s h
    | some jw =>
      obtain ⟨j, want⟩ := jw
      simp only [hgd] at h ⊢
      cases ht : (ops[j]?).bind (·.dst) with
      | none => simp only [ht] at h
      | some t =>
        simp only [ht] at h ⊢
        split at h
        · rename_i g hg
          cases g with
          | true =>
            have e : ({ s with env := s.env.set t (.dat .bool true) } : St) = s := by rw [set_self hg]
            rw [e] at h
            cases want with
            | true => simp only [cond_true] at h; simp only [if_true]; exact step s h
            | false => simp only [cond_true, cond_false] at h; rw [if_neg (by simp)]; exact crun_orun C ops B0 K r (i + 1) _ h
          | false =>
            have e : ({ s with env := s.env.set t (.dat .bool false) } : St) = s := by rw [set_self hg]
            rw [e] at h
            cases want with
            | true => simp only [cond_true, cond_false] at h; rw [if_neg (by simp)]; exact crun_orun C ops B0 K r (i + 1) _ h
            | false => simp only [cond_false] at h; simp only [if_true]; exact step s h
        · cases h

section
variable {P : Program} {B : Base} {C : Ctx}

theorem guard_value {s : St} {a : Act} {w : World} {ops : Array Oper} {j : Nat} {t : Tmp} {g : Bool} (hR : Rep B s a w) (ht : (ops.toList[j]?).bind (·.dst) = some t) (hg : s.env[t]? = some (.dat .bool g)) : yielded ops a.tmps j = some g := by
  obtain ⟨_, ι, hI⟩ := hR
  obtain ⟨v, hv, hr⟩ := hI.env t _ hg
  have e := dat_bool hr
  subst e
  have ht' : (ops[j]?).bind (·.dst) = some t := by simpa using ht
  simp [yielded, ht', hv]

theorem put_undef {s : St} {a : Act} {w : World} (hR : Rep B s a w) (d : Option Tmp) : Rep B (s.put d .undef) (a.put d undef) w := by
  obtain ⟨hd, ι, hI⟩ := hR
  exact ⟨by cases d <;> exact hd, ι, hI.put d (a := .undef) (v := undef) trivial a.defers⟩

theorem orun_wp (hC : COk P C) (hk : C.k = B.k) (ops : Array Oper) (B0 : Nat) (Q : Exit → Act → World → Prop) (s' : St) (hQ : ∀ a w, Rep B s' a w → Q .normal a w) :
    ∀ (r : List Oper) (i : Nat) (s : St) (a : Act) (w : World), (∀ j, r[j]? = ops[i + j]?) → orun C ops.toList B0 i r s = some s' → Rep B s a w → wpOps P ops Q (List.range' i r.length) a w
  | [], i, s, a, w, _, h, hR => by
    simp only [orun] at h; cases h
    exact hQ a w hR
  | o :: r, i, s, a, w, hr, h, hR => by
    have ho : ops[i]? = some o := by simpa using (hr 0).symm
    have hrest : ∀ j, r[j]? = ops[i + 1 + j]? := fun j => by
      have := hr (j + 1)
      simp only [List.getElem?_cons_succ] at this
      rw [this]; congr 1; omega
    simp only [List.length_cons, List.range'_succ]
    rw [wpOps_cons]
    unfold wpOp
    simp only [ho]
    have step : (cstep (optAlg St) C (B0 + i * width) o s some).bind (orun C ops.toList B0 (i + 1) r) = some s' → o.wp P a w (wpOps P ops Q (List.range' (i + 1) r.length)) Q := fun h => by
      cases hs : cstep (optAlg St) C (B0 + i * width) o s some with
      | none => rw [hs] at h; simp at h
      | some s1 =>
        rw [hs] at h
        simp only [Option.bind_some] at h
        exact Oper.wp_mono (fun a' w' hR' => orun_wp hC hk ops B0 Q s' hQ r (i + 1) s1 a' w' hrest h hR') (cstep_sound hC hk hR hs Q)
    unfold orun at h
    split at h
    · rename_i hg
      simp only [Region.wanted, hg, if_true]
      exact .inl (step h)
    · rename_i j want hg
      split at h
      · cases h
      · rename_i t ht
        split at h
        · rename_i g hgv
          have hy := guard_value hR ht hgv
          simp only [Region.wanted, hg, hy]
          split at h
          · rename_i hgw
            subst hgw
            simp only [beq_self_eq_true, if_true]
            exact .inl (step h)
          · rename_i hgw
            have hne : (some g == some want) = false := by simpa using hgw
            rw [hne]
            simp only [Bool.false_eq_true, if_false]
            exact orun_wp hC hk ops B0 Q s' hQ r (i + 1) _ _ w hrest h (put_undef hR o.dst)
        · cases h

theorem mask_get (live : List Nat) : ∀ (l : List AV) (n i : Nat) (a : AV), (mask live n l)[i]? = some a → ∃ a0, l[i]? = some a0 ∧ (a = a0 ∨ a = .undef)
  | [], _, _, _, h => by simp [mask] at h
  | b :: r, n, 0, a, h => by
    simp only [mask, List.getElem?_cons_zero, Option.some.injEq] at h
    refine ⟨b, rfl, ?_⟩
    split at h
    · exact .inl h.symm
    · exact .inr h.symm
  | b :: r, n, i + 1, a, h => by
    simp only [mask, List.getElem?_cons_succ] at h
    simpa using mask_get live r (n + 1) i a h

theorem refs_in_env : ∀ {l : List AV} {i : Nat} {a : AV}, l[i]? = some a → ∀ g, a.refs g = true → g ∈ idsL l := fun {l i a} h g hg => refsL_ids l g (refsL_get h hg)

theorem norm_sound {s s' : St} {a : Act} {w : World} (live : List Nat) (hR : Rep B s a w) (h : normO B.k live s = some s') : Rep B s' a w := by
  obtain ⟨hd, ι, hI⟩ := hR
  unfold normO at h
  simp only at h
  split at h
  · rename_i hchk
    generalize hids : reach s.heap (s.heap.length + 1) 0 (addNew (List.range B.k) (idsL (mask live 0 s.env))) = ids at h hchk
    simp only [Bool.and_eq_true, beq_iff_eq] at hchk
    obtain ⟨⟨⟨hnd, hcl⟩, hall⟩, hk⟩ := hchk
    simp only [Option.some.injEq] at h
    subst h
    let ιs : Plc := fun j => match ids[j]? with | some g => ι g | none => none
    have hidx : ∀ g, g ∈ ids → ids[place ids g]? = some g := fun g hg => place_get hg
    have hsumj : ∀ (j : Nat) g, ids[j]? = some g → sumOf ιs (subHeap s.heap ids) j = sumOf ι s.heap g := fun j g hj => by
      obtain ⟨r0, hr0, _⟩ := closed_get hcl (List.mem_of_getElem? hj)
      have := sub_of hj hr0
      simp [sumOf, this, hr0, ιs, hj, Row.ren_cells, Row.ren_len]
    have hsum : ∀ g, g ∈ ids → sumOf ιs (subHeap s.heap ids) (place ids g) = sumOf ι s.heap g := fun g hg => hsumj _ _ (hidx g hg)
    have hstab : ∀ b, stab w ι s.heap b → stab w ιs (subHeap s.heap ids) b := fun b hb => by
      refine ⟨hb.1, fun j r p hj hp => ?_⟩
      obtain ⟨g, r0, hi, hg, _⟩ := sub_get hj
      simp only [ιs, hi] at hp
      exact hb.2 g r0 p hg hp
    have hdst : ∀ b, dst B.D w ι s.heap b → dst B.D w ιs (subHeap s.heap ids) b := fun b hb => ⟨hb.1, hstab b hb.2⟩
    refine ⟨hd, ιs, hI.kept, ⟨fun j r hj => ?_, fun j1 j2 r1 r2 p1 p2 e1 e2 q1 q2 hne => ?_⟩, fun b hb => hstab b (hI.stay b hb), fun g hg => ?_, fun i x hx => ?_⟩
    · obtain ⟨g, r0, hi, hg, rfl⟩ := sub_get hj
      have hι : ιs j = ι g := by simp [ιs, hi]
      rw [hι]
      refine RowRep.ren (.inl hdst) (fun x hx => ?_) (hI.hrep.rows g r0 hg)
      obtain ⟨r1, hr1, hin⟩ := closed_get hcl (List.mem_of_getElem? hi)
      have : r1 = r0 := by rw [hg] at hr1; simpa using hr1.symm
      subst this
      exact hsum x (hin x (Row.refs_ids hx))
    · obtain ⟨g1, r1', hi1, hg1, _⟩ := sub_get e1
      obtain ⟨g2, r2', hi2, hg2, _⟩ := sub_get e2
      simp only [ιs, hi1] at q1
      simp only [ιs, hi2] at q2
      exact hI.hrep.sep g1 g2 r1' r2' p1 p2 hg1 hg2 q1 q2 (fun e => hne (nodup_inj hnd hi1 (e ▸ hi2)))
    · have hj : ids[g]? = some g := by
        have h1 : (ids.take B.k)[g]? = some g := by rw [hk]; simp [hg]
        rw [List.getElem?_take, if_pos hg] at h1
        exact h1
      obtain ⟨h1, r0, hr0⟩ := hI.io g hg
      exact ⟨(hsumj g g hj).trans h1, _, sub_of hj hr0⟩
    · obtain ⟨x0, hx0, rfl⟩ := renL_get hx
      obtain ⟨y, hy, hor⟩ := mask_get live s.env 0 i x0 hx0
      obtain ⟨v, hv, hr⟩ := hI.env i y hy
      refine ⟨v, hv, ?_⟩
      rcases hor with rfl | rfl
      · exact AVRep.ren x0 v (.inl hdst) (fun g hg => hsum g (by
          have := List.all_eq_true.1 hall g (refs_in_env hx0 g hg)
          simpa using this)) hr
      · trivial
  · cases h

theorem withNorm_sound {k : Nat} {s : St} {a : Act} {w : World} {live : List Nat} {K : St → Prop} (hk : k = B.k) (hR : Rep B s a w) (h : withNorm k live s K) : ∃ s', K s' ∧ Rep B s' a w := by
  unfold withNorm at h
  split at h
  · rename_i s' hs
    subst hk
    exact ⟨s', h, norm_sound live hR hs⟩
  · cases h

theorem Rep.more {s : St} {a : Act} {w : World} (hR : Rep B s a w) (n : Nat) : Rep B { s with heap := s.heap ++ List.replicate n none } a w := by
  obtain ⟨hd, ι, hI⟩ := hR
  have hget : ∀ (g : Nat) (r : Row), (s.heap ++ List.replicate n none)[g]? = some (some r) ↔ s.heap[g]? = some (some r) := fun g r => by
    by_cases hg : g < s.heap.length
    · rw [List.getElem?_append_left hg]
    · rw [List.getElem?_append_right (by omega), List.getElem?_eq_none (l := s.heap) (by omega)]
      simp [List.getElem?_replicate]
  have hsum : sumOf ι (s.heap ++ List.replicate n none) = sumOf ι s.heap := by
    funext g
    unfold sumOf
    cases h : s.heap[g]? with
    | none =>
      cases h2 : (s.heap ++ List.replicate n none)[g]? with
      | none => rfl
      | some x =>
        cases x with
        | none => rfl
        | some r => rw [hget] at h2; rw [h] at h2; simp at h2
    | some x =>
      have hlt := (List.getElem?_eq_some_iff.1 h).1
      rw [List.getElem?_append_left hlt, h]
  have hst : ∀ b, stab w ι (s.heap ++ List.replicate n none) b ↔ stab w ι s.heap b := fun b => by
    constructor
    · exact fun hb => ⟨hb.1, fun g r p hg hp => hb.2 g r p ((hget g r).2 hg) hp⟩
    · exact fun hb => ⟨hb.1, fun g r p hg hp => hb.2 g r p ((hget g r).1 hg) hp⟩
  have t : Trans w ι s.heap w ι (s.heap ++ List.replicate n none) (fun _ => True) := ⟨Nat.le_refl _, fun b hb => ⟨(hst b).2 hb, rfl⟩, fun g _ => by rw [hsum]⟩
  refine ⟨hd, ι, hI.kept, ⟨fun g r hg => ?_, fun g1 g2 r1 r2 p1 p2 e1 e2 => hI.hrep.sep g1 g2 r1 r2 p1 p2 ((hget _ _).1 e1) ((hget _ _).1 e2)⟩, fun b hb => (hst b).2 (hI.stay b hb), fun g hg => ?_, fun i x hx => ?_⟩
  · exact t.row (fun _ _ => trivial) (fun _ _ _ _ => rfl) (hI.hrep.rows g r ((hget g r).1 hg))
  · obtain ⟨h1, r, hr⟩ := hI.io g hg
    exact ⟨by rw [hsum]; exact h1, r, (hget g r).2 hr⟩
  · obtain ⟨v, hv, hr⟩ := hI.env i x hx
    exact ⟨v, hv, t.av (fun _ _ => trivial) hr⟩

def Ends (B : Base) (K : Exit → St → Prop) (e : Exit) (a : Act) (w : World) : Prop := ∃ s', K e s' ∧ Rep B s' a w

theorem awpLoop_sound {c : Code} {body : St → (Exit → St → Prop) → Prop} (hb : ∀ s K a w, body s K → Rep B s a w → c.wp P (Ends B K) a w) {K : Exit → St → Prop} :
    ∀ (n : Nat) (s : St) (a : Act) (w : World), awpLoop body n s K → Rep B s a w → Code.rounds P c (Ends B K) n a w
  | 0, s, a, w, h, _ => h
  | n + 1, s, a, w, h, hR => by
    rw [rounds_succ]
    refine wp_mono (hb s _ a w h hR) fun e a' w' hq => ?_
    obtain ⟨s', hK, hR'⟩ := hq
    cases e with
    | normal => exact awpLoop_sound hb n s' a' w' hK hR'
    | _ => exact ⟨s', hK, hR'⟩

theorem awp_sound (hC : COk P C) (hk : C.k = B.k) (L : Nat) : ∀ (c : Code) (an : Ann) (s : St) (K : Exit → St → Prop) (a : Act) (w : World), awp C L c an s K → Rep B s a w → c.wp P (Ends B K) a w
  | .skip, an, s, K, a, w, h, hR => by
    cases an with
    | leaf live =>
      unfold awp at h
      obtain ⟨s2, h2, hR2⟩ := withNorm_sound hk hR h
      exact wp_skip ⟨s2, h2, hR2⟩
    | _ => simp [awp] at h
  | .ret, an, s, K, a, w, h, hR => by
    cases an with
    | leaf live =>
      unfold awp at h
      obtain ⟨s2, h2, hR2⟩ := withNorm_sound hk hR h
      exact wp_ret ⟨s2, h2, hR2⟩
    | _ => simp [awp] at h
  | .exit id, an, s, K, a, w, h, hR => by
    cases an with
    | leaf live =>
      unfold awp at h
      obtain ⟨s2, h2, hR2⟩ := withNorm_sound hk hR h
      exact wp_exit ⟨s2, h2, hR2⟩
    | _ => simp [awp] at h
  | .region id ops d, an, s, K, a, w, h, hR => by
    cases d with
    | true => cases an <;> simp [awp] at h
    | false =>
      cases an with
      | leaf live =>
        unfold awp at h
        have h1 := crun_orun C ops.toList _ _ _ _ _ h
        obtain ⟨s1, hs1, hK⟩ := wpO_iff.1 h1
        refine wp_region ?_
        have := orun_wp hC hk ops s.heap.length (Ends B K) s1 (fun a' w' hR' => by
          obtain ⟨s2, h2, hR2⟩ := withNorm_sound hk hR' hK
          exact ⟨s2, h2, hR2⟩) ops.toList 0 _ a w (by simp) hs1 (hR.more _)
        simpa [List.range_eq_range'] using this
      | _ => simp [awp] at h
  | .seq x y, an, s, K, a, w, h, hR => by
    cases an with
    | seq p q =>
      unfold awp at h
      refine wp_seq (wp_mono (awp_sound hC hk L x p s _ a w h hR) fun e a' w' hq => ?_)
      obtain ⟨s', hK, hR'⟩ := hq
      cases e with
      | normal => exact awp_sound hC hk L y q s' K a' w' hK hR'
      | _ => exact ⟨s', hK, hR'⟩
    | _ => simp [awp] at h
  | .cond c x y, an, s, K, a, w, h, hR => by
    cases an with
    | cond p q =>
      unfold awp at h
      split at h
      · rename_i g hg
        have hv : a.eval c = .bool g := by
          obtain ⟨_, ι, hI⟩ := hR
          have e := dat_bool (evalO_rep hI hg a.defers)
          exact e
        refine wp_cond hv ?_
        cases g with
        | true => exact awp_sound hC hk L x p s _ a w h hR
        | false => exact awp_sound hC hk L y q s _ a w h hR
      · cases h
    | _ => simp [awp] at h
  | .block id c, an, s, K, a, w, h, hR => by
    cases an with
    | block p =>
      unfold awp at h
      refine wp_block (wp_mono (awp_sound hC hk L c p s _ a w h hR) fun e a' w' hq => ?_)
      obtain ⟨s', hK, hR'⟩ := hq
      cases e with
      | exit i =>
        simp only [Exit.inBlock]
        simp only [onExit] at hK
        split
        · rename_i hi
          rw [if_pos hi] at hK
          exact ⟨s', hK, hR'⟩
        · rename_i hi
          rw [if_neg hi] at hK
          exact ⟨s', hK, hR'⟩
      | _ => exact ⟨s', hK, hR'⟩
    | _ => simp [awp] at h
  | .loop c, an, s, K, a, w, h, hR => by
    cases an with
    | loop p =>
      unfold awp at h
      exact wp_loop_rounds L (awpLoop_sound (fun s K a w h hR => awp_sound hC hk L c p s K a w h hR) L s a w h hR)
    | _ => simp [awp] at h
  | .rangeFunc _ _ _ _, an, s, K, a, w, h, hR => by simp [awp] at h
  | .scope _, an, s, K, a, w, h, hR => by simp [awp] at h
  | .label _, an, s, K, a, w, h, hR => by simp [awp] at h
  | .goto _, an, s, K, a, w, h, hR => by simp [awp] at h
  | .refuse _, an, s, K, a, w, h, hR => by simp [awp] at h

end
end Go.Rv
