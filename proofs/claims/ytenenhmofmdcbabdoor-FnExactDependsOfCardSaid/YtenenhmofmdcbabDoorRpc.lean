/-
  A region whose order is left open: one order serves all; a part. Conditions: none.
-/
import Derived.Test.YtenenhmofmdcbabDoorRpb
set_option linter.unusedSimpArgs false
set_option linter.unusedVariables false
namespace Go.Rv

/-! What stands beside an operation does not matter to it -/

theorem put_row (s : St) (d : Option Tmp) (a : AV) (h : Nat) : (s.put d a).row h = s.row h := by cases d <;> rfl
theorem put_heap (s : St) (d : Option Tmp) (a : AV) : (s.put d a).heap = s.heap := by cases d <;> rfl

theorem put_comm {s : St} {d e : Option Tmp} {a b : AV} (h : ∀ t, d = some t → e ≠ some t) : (s.put d a).put e b = (s.put e b).put d a := by
  cases d with
  | none => rfl
  | some t =>
    cases e with
    | none => rfl
    | some u =>
      have hne : t ≠ u := fun hh => h t rfl (by rw [hh])
      simp only [St.put]
      rw [List.set_comm _ _ hne]

theorem evalO_put {s : St} {d : Option Tmp} {a : AV} {x : Operand} (h : ∀ t, d = some t → x ≠ .tmp t) : evalO (s.put d a) x = evalO s x := by
  cases d with
  | none => rfl
  | some t =>
    cases x with
    | tmp u =>
      have hne : t ≠ u := fun hh => h t rfl (by rw [hh])
      simp [evalO, St.put, List.getElem?_set_ne hne]
    | _ => rfl

section
variable {β : Type} {s : St} {d : Option Tmp} {a : AV}

theorem alen_put (x : AV) : alen (s.put d a) x = alen s x := by
  unfold alen
  simp only [put_row]

theorem aslice_put (A : Alg (Option β)) (T : TT) (t : TypeId) (x : AV) (lo hi : Option AV) (k : AV → Option β) : aslice A T (s.put d a) t x lo hi k = aslice A T s t x lo hi k := by
  unfold aslice
  simp only [put_row]

theorem aindexAddr_put (A : Alg (Option β)) (T : TT) (t : TypeId) (x i : AV) (k : AV → Option β) : aindexAddr A T (s.put d a) t x i k = aindexAddr A T s t x i k := by
  unfold aindexAddr
  simp only [put_row]

theorem aload_put (A : Alg (Option β)) (T : TT) (t : TypeId) (p : AV) (k : AV → Option β) : aload A T (s.put d a) t p k = aload A T s t p k := by
  unfold aload
  simp only [put_row]

theorem setRow_put (h : Nat) (r : Row) : (s.put d a).setRow h r = (s.setRow h r).put d a := by cases d <;> rfl

theorem allocRow_put (base : Nat) (r : Row) (k : St → Option β) : allocRow (optAlg β) (s.put d a) base r k = allocRow (optAlg β) s base r (fun s' => k (s'.put d a)) := by
  unfold allocRow
  rw [put_heap]
  split
  · rw [setRow_put]
  · rfl

theorem astore_put (T : TT) (t : TypeId) (p v : AV) (k : St → Option β) : astore (optAlg β) T (s.put d a) t p v k = astore (optAlg β) T s t p v (fun s' => k (s'.put d a)) := by
  unfold astore
  simp only [put_row, setRow_put]

theorem handArg_put (T : TT) (io : Bool) (t : TypeId) (x : AV) : handArg (s.put d a) T io t x = handArg s T io t x := by
  unfold handArg
  simp only [put_row]

theorem handArgs_put (T : TT) (io : Nat → Bool) : ∀ (xs : List AV) (n : Nat) (ts : List TypeId), handArgs (s.put d a) T io n ts xs = handArgs s T io n ts xs
  | [], _, _ => by simp [handArgs]
  | x :: r, n, [] => by simp [handArgs]
  | x :: r, n, t :: ts => by simp only [handArgs, handArg_put, handArgs_put T io r]

theorem acall_put (C : Ctx) (base : Nat) (f : FuncId) (args : List AV) (types : List TypeId) (k : AV → St → Option β) :
    acall (optAlg β) C base (s.put d a) f args types k = acall (optAlg β) C base s f args types (fun v s' => k v (s'.put d a)) := by
  cases d with
  | none => rfl
  | some t =>
    unfold acall
    rw [handArgs_put]
    rfl

theorem lift_same {α : Type} {x y : Option α} {k j : α → Option β} (h : x = y) (hk : ∀ b, k b = j b) : lift (optAlg β) x k = lift (optAlg β) y j := by
  subst h
  cases x with
  | none => rfl
  | some b => exact hk b

theorem opt_same {α : Type} {x : Option α} {k j : α → Option β} (hk : ∀ b, k b = j b) : (optAlg β).bind x k = (optAlg β).bind x j := by
  have : k = j := funext hk
  rw [this]

/-- An operation that does not look at a slot does with it what it does without it. -/
theorem cstep_put {C : Ctx} {base : Nat} {o : Oper} (k : St → Option β) (hap : isAppend o.op = false) (h1 : ∀ t, d = some t → Operand.tmp t ∉ o.op.operands.toList) (h2 : ∀ t, d = some t → o.dst ≠ some t) :
    cstep (optAlg β) C base o (s.put d a) k = cstep (optAlg β) C base o s (fun s' => k (s'.put d a)) := by
  have hev : ∀ x ∈ o.op.operands.toList, evalO (s.put d a) x = evalO s x := fun x hx => evalO_put (fun t ht e => h1 t ht (e ▸ hx))
  have hout : ∀ (s' : St) (v : AV), (s'.put d a).put o.dst v = (s'.put o.dst v).put d a := fun s' v => put_comm h2
  obtain ⟨odst, oop, otype, opos, oafter, oguard⟩ := o
  simp only at hap hev hout
  unfold cstep
  cases oop <;> simp only [Op.operands, Array.toList, List.mem_cons, List.not_mem_nil, or_false, forall_eq_or_imp, forall_eq] at hev ⊢
  case move x => exact lift_same hev (fun v => by rw [hout])
  case assign x =>
    refine lift_same hev (fun v => ?_)
    split
    · split
      · split
        · rw [allocRow_put]
          simp only [hout]
        · rfl
      · rfl
    · rw [hout]
  case pick c x y =>
    refine lift_same hev.1 (fun v => ?_)
    split
    · exact lift_same hev.2.1 (fun _ => lift_same hev.2.2 (fun _ => by rw [hout]))
    · rfl
  case alloc e =>
    split
    · split
      · split
        · split
          · split
            · rw [allocRow_put]
              simp only [hout]
            · rfl
          · rfl
        · rfl
      · split
        · rw [allocRow_put]
          simp only [hout]
        · rfl
    · rfl
  case box e x =>
    refine lift_same hev (fun v => ?_)
    split
    · split
      · rw [allocRow_put]
        simp only [hout]
      · rfl
    · split
      · rw [allocRow_put]
        simp only [hout]
      · rfl
  case build t ps =>
    have e : partsAV (s.put d a) ps.toList = partsAV s ps.toList := partsAV_same (fun x hx => hev x hx)
    rw [e]
    split
    · split
      · split
        · exact lift_same rfl (fun _ => by rw [hout])
        · rfl
      · rfl
    · rfl
  case buildSlice t n ps =>
    have e : partsAV (s.put d a) ps.toList = partsAV s ps.toList := partsAV_same (fun x hx => hev x hx)
    rw [e]
    split
    · split
      · split
        · split
          · rw [allocRow_put]
            simp only [hout]
          · rfl
        · rfl
      · rfl
    · rfl
  case makeSlice t l c =>
    rw [hev.1, hev.2]
    split
    · split
      · split
        · refine opt_same (fun q => ?_)
          rw [allocRow_put]
          simp only [hout]
        · rfl
      · rfl
    · rfl
  case load t p => exact lift_same hev (fun v => by rw [aload_put]; simp only [hout])
  case store t p v => exact lift_same hev.1 (fun _ => lift_same hev.2 (fun _ => by rw [astore_put]; simp only [hout]))
  case nilCheck x =>
    refine lift_same hev (fun v => ?_)
    split <;> first | (rw [hout]) | rfl
  case binOp op t x y yt => exact lift_same hev.1 (fun _ => lift_same hev.2 (fun _ => by simp only [hout]))
  case unOp op t x => exact lift_same hev (fun _ => by simp only [hout])
  case convert st dt x =>
    refine lift_same hev (fun v => ?_)
    split
    · split
      · rw [hout]
      · rfl
    · rfl
  case makeFunc fn first caps =>
    cases fn <;> (try rfl)
    simp only
    have e1 : argsAV (s.put d a) first.toList = argsAV s first.toList := argsAV_same (fun x hx => hev x (by simp; exact .inl (by simpa using hx)))
    have e2 : argsAV (s.put d a) caps.toList = argsAV s caps.toList := argsAV_same (fun x hx => hev x (by simp; exact .inr (by simpa using hx)))
    rw [e1, e2]
    split
    · rw [hout]
    · rfl
  case slice t x lo hi mx =>
    cases mx with
    | some m => rfl
    | none =>
      simp only
      have e1 : evalO (s.put d a) x = evalO s x := hev x (by simp)
      have e2 : evalOp (s.put d a) lo = evalOp s lo := evalOp_same (fun y hy => hev y (by subst hy; simp))
      have e3 : evalOp (s.put d a) hi = evalOp s hi := evalOp_same (fun y hy => hev y (by subst hy; simp))
      rw [e1, e2, e3]
      split
      · rw [aslice_put]
        simp only [hout]
      · rfl
  case fieldAddr t x f => exact lift_same hev (fun _ => by simp only [hout])
  case field t x f => exact lift_same hev (fun _ => by simp only [hout])
  case indexAddr t x i => exact lift_same hev.1 (fun _ => lift_same hev.2 (fun _ => by rw [aindexAddr_put]; simp only [hout]))
  case index t x i =>
    rw [hev.1, hev.2]
    split
    · split
      · exact opt_same (fun _ => by rw [hout])
      · rfl
    · rfl
  case extract x i =>
    refine lift_same hev (fun v => ?_)
    split
    · exact lift_same rfl (fun _ => by rw [hout])
    · rfl
  case call c =>
    obtain ⟨callee, cargs, ctypes⟩ := c
    cases callee <;> (try rfl)
    case value f =>
      have e0 : evalO (s.put d a) f = evalO s f := hev f (by simp [Call.operands])
      have e1 : argsAV (s.put d a) cargs.toList = argsAV s cargs.toList := argsAV_same (fun x hx => hev x (by simp [Call.operands]; exact .inr (by simpa using hx)))
      refine lift_same e0 (fun v => ?_)
      split
      · rw [e1]
        show (match argsAV s cargs.toList with | some args => _ | none => _) = (match argsAV s cargs.toList with | some args => _ | none => _)
        cases argsAV s cargs.toList with
        | none => rfl
        | some args =>
          simp only
          rw [acall_put]
          simp only [hout]
      · rfl
    case builtin b =>
      have e1 : ∀ x ∈ cargs.toList, evalO (s.put d a) x = evalO s x := fun x hx => hev x (by simpa [Call.operands] using hx)
      cases b <;> (try rfl)
      case len =>
        simp only
        split
        · rename_i x t hxs hts
          refine lift_same (e1 x (by rw [hxs]; simp)) (fun v => ?_)
          split
          · split <;> first | rfl | exact lift_same (alen_put _) (fun _ => by rw [hout])
          · rfl
        · rfl
      case append => exact absurd hap (by simp [isAppend])
      case max =>
        simp only
        rw [argsAV_same e1]
        split
        · exact lift_same rfl (fun _ => by rw [hout])
        · rfl
      case min =>
        simp only
        rw [argsAV_same e1]
        split
        · exact lift_same rfl (fun _ => by rw [hout])
        · rfl
  all_goals rfl

end
end Go.Rv
