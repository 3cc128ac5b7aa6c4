/-
  The abstract run is sound. Conditions: none.
-/
import Derived.Test.YtenenhmofmdcbabDoorRpd
import Derived.LoopN
set_option linter.unusedSimpArgs false
set_option linter.unusedVariables false
namespace Go.Rv

/-! What is shown is what is reckoned -/

section
variable {β : Type} {Kf : β → Prop}

theorem cps_bind {α : Type} (o : Option α) (f : α → Option β) (g : α → Prop) (h : ∀ a, g a = wpO (f a) Kf) : propAlg.bind o g = wpO ((optAlg β).bind o f) Kf := by
  cases o with
  | none => exact (wpO_none _).trans (wpO_none _).symm
  | some a => exact (wpO_some a g).trans (h a)

theorem cps_fail : propAlg.fail = wpO ((optAlg β).fail) Kf := (wpO_none _).symm

theorem lift_cps {α : Type} (x : Option α) (k : α → Option β) (g : α → Prop) (h : ∀ a, g a = wpO (k a) Kf) : lift propAlg x g = wpO (lift (optAlg β) x k) Kf := by
  cases x with
  | none => first | exact cps_fail | rfl
  | some a => exact h a

theorem abin_cps (ib : Bool) (op : BinOp) (x y : AV) (k : AV → Option β) (g : AV → Prop) (h : ∀ a, g a = wpO (k a) Kf) : abin propAlg ib op x y g = wpO (abin (optAlg β) ib op x y k) Kf := by
  unfold abin
  split
  · split
    · exact cps_bind _ _ _ (fun _ => h _)
    · exact cps_bind _ _ _ (fun _ => h _)
    · split
      · split <;> first | exact h _ | exact cps_bind _ _ _ (fun _ => h _) | exact cps_fail | rfl
      · first | exact cps_fail | rfl
  · split <;> first | exact h _ | exact cps_bind _ _ _ (fun _ => h _) | exact cps_fail | rfl
  · split
    · split <;> first | exact h _ | exact cps_fail | rfl
    · first | exact cps_fail | rfl
  · first | exact cps_fail | rfl

theorem aun_cps (op : UnOp) (x : AV) (k : AV → Option β) (g : AV → Prop) (h : ∀ a, g a = wpO (k a) Kf) : aun propAlg op x g = wpO (aun (optAlg β) op x k) Kf := by
  unfold aun
  split <;> first | exact h _ | exact cps_fail | rfl

theorem acut_cps (lo hi : Option AV) (L : Nat) (k : Nat → Nat → Option β) (g : Nat → Nat → Prop) (h : ∀ a b, g a b = wpO (k a b) Kf) : acut propAlg lo hi L g = wpO (acut (optAlg β) lo hi L k) Kf := by
  unfold acut
  split
  · exact h _ _
  · exact cps_bind _ _ _ (fun _ => h _ _)
  · exact cps_bind _ _ _ (fun _ => h _ _)
  · exact cps_bind _ _ _ (fun _ => cps_bind _ _ _ (fun _ => h _ _))
  · first | exact cps_fail | rfl

theorem ite_cps {c : Prop} [Decidable c] (x y : Option β) (a b : Prop) (h1 : a = wpO x Kf) (h2 : b = wpO y Kf) : (if c then a else b) = wpO (if c then x else y) Kf := by
  split <;> assumption

theorem aslice_cps (T : TT) (s : St) (t : TypeId) (x : AV) (lo hi : Option AV) (k : AV → Option β) (g : AV → Prop) (h : ∀ a, g a = wpO (k a) Kf) : aslice propAlg T s t x lo hi g = wpO (aslice (optAlg β) T s t x lo hi k) Kf := by
  unfold aslice
  split
  · split
    · split
      · split
        · exact ite_cps _ _ _ _ (acut_cps _ _ _ _ _ (fun _ _ => h _)) cps_fail
        · split
          · exact ite_cps _ _ _ _ (acut_cps _ _ _ _ _ (fun _ _ => h _)) cps_fail
          · first | exact cps_fail | rfl
        · split
          · exact ite_cps _ _ _ _ (acut_cps _ _ _ _ _ (fun _ _ => h _)) cps_fail
          · first | exact cps_fail | rfl
        · first | exact cps_fail | rfl
      · first | exact cps_fail | rfl
    · split
      · exact acut_cps _ _ _ _ _ (fun _ _ => h _)
      · first | exact cps_fail | rfl
    · first | exact cps_fail | rfl
  · first | exact cps_fail | rfl

theorem aindexAddr_cps (T : TT) (s : St) (t : TypeId) (x i : AV) (k : AV → Option β) (g : AV → Prop) (h : ∀ a, g a = wpO (k a) Kf) : aindexAddr propAlg T s t x i g = wpO (aindexAddr (optAlg β) T s t x i k) Kf := by
  unfold aindexAddr
  split
  · split
    · split
      · split
        · split
          · exact ite_cps _ _ _ _ (cps_bind _ _ _ (fun _ => h _)) cps_fail
          · split
            · exact ite_cps _ _ _ _ (cps_bind _ _ _ (fun _ => h _)) cps_fail
            · first | exact cps_fail | rfl
          · split
            · exact ite_cps _ _ _ _ (cps_bind _ _ _ (fun _ => h _)) cps_fail
            · first | exact cps_fail | rfl
          · first | exact cps_fail | rfl
        · first | exact cps_fail | rfl
      · split
        · split
          · split
            · exact ite_cps _ _ _ _ (cps_bind _ _ _ (fun _ => cps_bind _ _ _ (fun _ => h _))) cps_fail
            · first | exact cps_fail | rfl
          · exact ite_cps _ _ _ _ (cps_bind _ _ _ (fun _ => cps_bind _ _ _ (fun _ => h _))) cps_fail
          · first | exact cps_fail | rfl
        · first | exact cps_fail | rfl
      · first | exact cps_fail | rfl
    · first | exact cps_fail | rfl
  · first | exact cps_fail | rfl

theorem fin_cps (ti : TI) (cs : List AV) (off : Nat) (k : AV → Option β) (g : AV → Prop) (h : ∀ a, g a = wpO (k a) Kf) :
    (if isStruct ti.kind then (if off + ti.size ≤ cs.length then g (.agg ((cs.drop off).take ti.size)) else propAlg.fail) else match cs[off]? with | some a => g a | none => propAlg.fail) =
    wpO (if isStruct ti.kind then (if off + ti.size ≤ cs.length then k (.agg ((cs.drop off).take ti.size)) else (optAlg β).fail) else match cs[off]? with | some a => k a | none => (optAlg β).fail) Kf := by
  refine ite_cps _ _ _ _ (ite_cps _ _ _ _ (h _) cps_fail) ?_
  split <;> first | exact h _ | exact cps_fail | rfl

theorem aload_cps (T : TT) (s : St) (t : TypeId) (p : AV) (k : AV → Option β) (g : AV → Prop) (h : ∀ a, g a = wpO (k a) Kf) : aload propAlg T s t p g = wpO (aload (optAlg β) T s t p k) Kf := by
  unfold aload
  split
  · first | exact cps_fail | rfl
  · simp only
    split
    · exact fin_cps _ _ _ _ _ h
    · split
      · exact cps_bind _ _ _ (fun _ => fin_cps _ _ _ _ _ h)
      · first | exact cps_fail | rfl
    · split
      · exact fin_cps _ _ _ _ _ h
      · first | exact cps_fail | rfl
    · first | exact cps_fail | rfl

theorem afieldAddr_cps (T : TT) (t : TypeId) (x : AV) (f : Nat) (k : AV → Option β) (g : AV → Prop) (h : ∀ a, g a = wpO (k a) Kf) : afieldAddr propAlg T t x f g = wpO (afieldAddr (optAlg β) T t x f k) Kf := by
  unfold afieldAddr
  split
  · split
    · split
      · split
        · refine ite_cps _ _ _ _ cps_fail ?_
          split <;> first | exact h _ | exact cps_fail | rfl
        · first | exact cps_fail | rfl
      · first | exact cps_fail | rfl
    · first | exact cps_fail | rfl
  · first | exact cps_fail | rfl

theorem afield_cps (T : TT) (t : TypeId) (x : AV) (f : Nat) (k : AV → Option β) (g : AV → Prop) (h : ∀ a, g a = wpO (k a) Kf) : afield propAlg T t x f g = wpO (afield (optAlg β) T t x f k) Kf := by
  unfold afield
  split
  · split
    · split
      · split
        · refine ite_cps _ _ _ _ (ite_cps _ _ _ _ (h _) cps_fail) ?_
          split <;> first | exact h _ | exact cps_fail | rfl
        · first | exact cps_fail | rfl
      · first | exact cps_fail | rfl
    · first | exact cps_fail | rfl
  · first | exact cps_fail | rfl

theorem astore_cps (T : TT) (s : St) (t : TypeId) (p v : AV) (k : St → Option β) (g : St → Prop) (h : ∀ a, g a = wpO (k a) Kf) : astore propAlg T s t p v g = wpO (astore (optAlg β) T s t p v k) Kf := by
  unfold astore
  split
  · first | exact cps_fail | rfl
  · refine ite_cps _ _ _ _ ?_ (ite_cps _ _ _ _ ?_ cps_fail)
    · split
      · split
        · exact ite_cps _ _ _ _ (h _) cps_fail
        · first | exact cps_fail | rfl
      · first | exact cps_fail | rfl
    · split
      · split
        · split
          · exact ite_cps _ _ _ _ (h _) cps_fail
          · first | exact cps_fail | rfl
        · first | exact cps_fail | rfl
      · split
        · exact ite_cps _ _ _ _ (h _) cps_fail
        · first | exact cps_fail | rfl
      · first | exact cps_fail | rfl

theorem allocRow_cps (s : St) (base : Nat) (r : Row) (k : St → Option β) (g : St → Prop) (h : ∀ a, g a = wpO (k a) Kf) : allocRow propAlg s base r g = wpO (allocRow (optAlg β) s base r k) Kf := by
  unfold allocRow
  split <;> first | exact h _ | exact cps_fail | rfl

theorem aappend_cps (C : Ctx) (base : Nat) (s : St) (t : TypeId) (x y : AV) (k : AV → St → Option β) (g : AV → St → Prop) (h : ∀ a b, g a b = wpO (k a b) Kf) : aappend propAlg C base s t x y g = wpO (aappend (optAlg β) C base s t x y k) Kf := by
  unfold aappend
  split
  · split
    · refine ite_cps _ _ _ _ ?_ cps_fail
      split
      · split
        · exact cps_bind _ _ _ (fun _ => allocRow_cps _ _ _ _ _ (fun _ => h _ _))
        · split
          · split
            · exact ite_cps _ _ _ _ (cps_bind _ _ _ (fun _ => h _ _)) cps_fail
            · first | exact cps_fail | rfl
          · first | exact cps_fail | rfl
        · split
          · split
            · exact ite_cps _ _ _ _ (cps_bind _ _ _ (fun _ => h _ _)) cps_fail
            · first | exact cps_fail | rfl
          · first | exact cps_fail | rfl
        · first | exact cps_fail | rfl
      · first | exact cps_fail | rfl
    · first | exact cps_fail | rfl
  · first | exact cps_fail | rfl

theorem acall_cps (C : Ctx) (base : Nat) (s : St) (f : FuncId) (args : List AV) (types : List TypeId) (k : AV → St → Option β) (g : AV → St → Prop) (h : ∀ a b, g a b = wpO (k a b) Kf) : acall propAlg C base s f args types g = wpO (acall (optAlg β) C base s f args types k) Kf := by
  unfold acall
  split
  · first | exact cps_fail | rfl
  · simp only
    refine ite_cps _ _ _ _ (cps_bind _ _ _ (fun _ => ite_cps _ _ _ _ (h _ _) cps_fail)) cps_fail

theorem cstep_cps (C : Ctx) (base : Nat) (o : Oper) (s : St) (k : St → Option β) (g : St → Prop) (h : ∀ a, g a = wpO (k a) Kf) : cstep propAlg C base o s g = wpO (cstep (optAlg β) C base o s k) Kf := by
  unfold cstep
  obtain ⟨odst, oop, otype, opos, oafter, oguard⟩ := o
  cases oop <;> simp only
  case move x => exact lift_cps _ _ _ (fun _ => h _)
  case assign x =>
    refine lift_cps _ _ _ (fun a => ?_)
    split
    · split
      · split
        · exact allocRow_cps _ _ _ _ _ (fun _ => h _)
        · first | exact cps_fail | rfl
      · first | exact cps_fail | rfl
    · exact h _
  case pick c x y =>
    refine lift_cps _ _ _ (fun a => ?_)
    split
    · exact lift_cps _ _ _ (fun _ => lift_cps _ _ _ (fun _ => h _))
    · first | exact cps_fail | rfl
  case alloc e =>
    split
    · split
      · split
        · split
          · exact ite_cps _ _ _ _ (allocRow_cps _ _ _ _ _ (fun _ => h _)) cps_fail
          · first | exact cps_fail | rfl
        · first | exact cps_fail | rfl
      · exact ite_cps _ _ _ _ (allocRow_cps _ _ _ _ _ (fun _ => h _)) cps_fail
    · first | exact cps_fail | rfl
  case box e x =>
    refine lift_cps _ _ _ (fun a => ?_)
    split
    · exact ite_cps _ _ _ _ (allocRow_cps _ _ _ _ _ (fun _ => h _)) cps_fail
    · exact ite_cps _ _ _ _ (allocRow_cps _ _ _ _ _ (fun _ => h _)) cps_fail
  case build t ps =>
    split
    · split
      · exact ite_cps _ _ _ _ (lift_cps _ _ _ (fun _ => h _)) cps_fail
      · first | exact cps_fail | rfl
    · first | exact cps_fail | rfl
  case buildSlice t n ps =>
    split
    · split
      · split
        · exact ite_cps _ _ _ _ (allocRow_cps _ _ _ _ _ (fun _ => h _)) cps_fail
        · first | exact cps_fail | rfl
      · first | exact cps_fail | rfl
    · first | exact cps_fail | rfl
  case makeSlice t l c =>
    split
    · split
      · exact ite_cps _ _ _ _ (cps_bind _ _ _ (fun _ => allocRow_cps _ _ _ _ _ (fun _ => h _))) cps_fail
      · first | exact cps_fail | rfl
    · first | exact cps_fail | rfl
  case load t p => exact lift_cps _ _ _ (fun _ => aload_cps _ _ _ _ _ _ (fun _ => h _))
  case store t p v => exact lift_cps _ _ _ (fun _ => lift_cps _ _ _ (fun _ => astore_cps _ _ _ _ _ _ _ (fun _ => h _)))
  case nilCheck x =>
    refine lift_cps _ _ _ (fun a => ?_)
    split <;> first | exact h _ | exact cps_fail | rfl
  case binOp op t x y yt => exact lift_cps _ _ _ (fun _ => lift_cps _ _ _ (fun _ => abin_cps _ _ _ _ _ _ (fun _ => h _)))
  case unOp op t x => exact lift_cps _ _ _ (fun _ => aun_cps _ _ _ _ (fun _ => h _))
  case convert st dt x =>
    refine lift_cps _ _ _ (fun a => ?_)
    split
    · split <;> first | exact h _ | exact cps_fail | rfl
    · first | exact cps_fail | rfl
  case makeFunc fn first caps =>
    cases fn <;> (try exact cps_fail)
    simp only
    split <;> first | exact h _ | exact cps_fail | rfl
  case slice t x lo hi mx =>
    cases mx with
    | some m => first | exact cps_fail | rfl
    | none =>
      simp only
      split
      · exact aslice_cps _ _ _ _ _ _ _ _ (fun _ => h _)
      · first | exact cps_fail | rfl
  case fieldAddr t x f => exact lift_cps _ _ _ (fun _ => afieldAddr_cps _ _ _ _ _ _ (fun _ => h _))
  case field t x f => exact lift_cps _ _ _ (fun _ => afield_cps _ _ _ _ _ _ (fun _ => h _))
  case indexAddr t x i => exact lift_cps _ _ _ (fun _ => lift_cps _ _ _ (fun _ => aindexAddr_cps _ _ _ _ _ _ _ (fun _ => h _)))
  case index t x i =>
    split
    · split
      · exact cps_bind _ _ _ (fun _ => h _)
      · first | exact cps_fail | rfl
    · first | exact cps_fail | rfl
  case extract x i =>
    refine lift_cps _ _ _ (fun a => ?_)
    split
    · exact lift_cps _ _ _ (fun _ => h _)
    · first | exact cps_fail | rfl
  case call c =>
    obtain ⟨callee, cargs, ctypes⟩ := c
    cases callee <;> (try exact cps_fail)
    case value f =>
      refine lift_cps _ _ _ (fun a => ?_)
      split
      · split
        · exact acall_cps _ _ _ _ _ _ _ _ (fun _ _ => h _)
        · first | exact cps_fail | rfl
      · first | exact cps_fail | rfl
    case builtin b =>
      cases b <;> (try exact cps_fail)
      case len =>
        simp only
        split
        · refine lift_cps _ _ _ (fun a => ?_)
          split
          · split <;> first | exact cps_fail | rfl | exact lift_cps _ _ _ (fun _ => h _)
          · first | exact cps_fail | rfl
        · first | exact cps_fail | rfl
      case append =>
        simp only
        split
        · exact ite_cps _ _ _ _ (lift_cps _ _ _ (fun _ => lift_cps _ _ _ (fun _ => aappend_cps _ _ _ _ _ _ _ _ (fun _ _ => h _)))) cps_fail
        · first | exact cps_fail | rfl
      case max =>
        simp only
        split
        · exact lift_cps _ _ _ (fun _ => h _)
        · first | exact cps_fail | rfl
      case min =>
        simp only
        split
        · exact lift_cps _ _ _ (fun _ => h _)
        · first | exact cps_fail | rfl
  all_goals exact cps_fail

end

/-- The step that is shown, as one that is reckoned. -/
theorem cstep_wpO {C : Ctx} {base : Nat} {o : Oper} {s : St} {K : St → Prop} (h : cstep propAlg C base o s K) : wpO (cstep (optAlg St) C base o s some) K := by
  rw [← cstep_cps C base o s some K (fun a => (wpO_some a K).symm)]
  exact h

theorem set_self {l : List AV} {t : Nat} {x : AV} (h : l[t]? = some x) : l.set t x = l := by
  obtain ⟨hlt, rfl⟩ := List.getElem?_eq_some_iff.1 h
  simp

theorem crun_orun (C : Ctx) (ops : List Oper) (fr : List Turn) (B0 : Nat) (K : St → Prop) : ∀ (r : List Oper) (i : Nat) (s : St), crun C ops fr B0 i r s K → wpO (orun C ops fr B0 i r s) K
  | [], _, _, h => show wpO (some _) K from .mk h
  | o :: r, i, s0, h => by
    have step : ∀ s : St, cstep propAlg C (B0 + i * width) o s (fun s' => crun C ops fr B0 (i + 1) r s' K) → wpO ((cstep (optAlg St) C (B0 + i * width) o s some).bind (orun C ops fr B0 (i + 1) r)) K := fun s h => by
      rw [wpO_bind]
      exact wpO_mono (fun s' h' => crun_orun C ops fr B0 K r (i + 1) s' h') (cstep_wpO h)
    unfold crun at h
    unfold orun
    simp only at h ⊢
    generalize freezeAt C.k i fr s0 = s at h ⊢
    cases hgd : o.guard with
    | none =>
      simp only [hgd] at h ⊢
      exact step s h
    | some jw =>
      obtain ⟨j, want⟩ := jw
      simp only [hgd] at h ⊢
      cases ht : (ops[j]?).bind (·.dst) with
      | none => simp only [ht] at h
      | some t =>
        simp only [ht] at h ⊢
        split at h
        · rename_i g hg
          cases g with
          | true =>
            have e : ({ s with env := s.env.set t (.dat .bool true) } : St) = s := by rw [set_self hg]
            rw [e] at h
            cases want with
            | true => simp only [cond_true] at h; simp only [if_true]; exact step s h
            | false => simp only [cond_true, cond_false] at h; rw [if_neg (by simp)]; exact crun_orun C ops fr B0 K r (i + 1) _ h
          | false =>
            have e : ({ s with env := s.env.set t (.dat .bool false) } : St) = s := by rw [set_self hg]
            rw [e] at h
            cases want with
            | true => simp only [cond_true, cond_false] at h; rw [if_neg (by simp)]; exact crun_orun C ops fr B0 K r (i + 1) _ h
            | false => simp only [cond_false] at h; simp only [if_true]; exact step s h
        · exact crun_orun C ops fr B0 K r (i + 1) _ h
        · cases h

end Go.Rv
