/-
  A region whose order is left open: one order serves all; a part. Conditions: none.
-/
import Derived.Test.YtenenhmofmdcbabDoorRpa
set_option linter.unusedSimpArgs false
set_option linter.unusedVariables false
namespace Go.Rv

theorem bind_some_opt {α β : Type} {o : Option α} {f : α → Option β} {r : β} (h : o.bind f = some r) : ∃ a, o = some a ∧ f a = some r := by
  cases o with
  | none => simp at h
  | some a => exact ⟨a, rfl, by simpa using h⟩

theorem evalOp_same {s t : St} {x : Option Operand} (h : ∀ y, x = some y → evalO t y = evalO s y) : evalOp t x = evalOp s x := by
  cases x with
  | none => rfl
  | some y => simp only [evalOp, h y rfl]

theorem argsAV_same {s t : St} : ∀ {xs : List Operand}, (∀ x ∈ xs, evalO t x = evalO s x) → argsAV t xs = argsAV s xs
  | [], _ => rfl
  | x :: r, h => by simp only [argsAV, h x (by simp), argsAV_same (fun y hy => h y (List.mem_cons_of_mem _ hy))]

theorem partsAV_same {s t : St} : ∀ {xs : List (Nat × Operand)}, (∀ x ∈ xs.map (·.2), evalO t x = evalO s x) → partsAV t xs = partsAV s xs
  | [], _ => rfl
  | x :: r, h => by
    obtain ⟨i, y⟩ := x
    simp only [partsAV, h y (by simp), partsAV_same (xs := r) (fun y hy => h y (by simp at hy ⊢; exact .inr hy))]

theorem pure_step {C : Ctx} {base : Nat} {o : Oper} {s s1 : St} (hp : pureOp o.op = true) (h : cstep (optAlg St) C base o s some = some s1) :
    ∃ a, s1 = s.put o.dst a ∧ ∀ (base' : Nat) (t : St), (∀ x ∈ o.op.operands.toList, evalO t x = evalO s x) → (heapFree o.op = true ∨ RowsIn s t) → cstep (optAlg St) C base' o t some = some (t.put o.dst a) := by
  obtain ⟨odst, oop, otype, opos, oafter, oguard⟩ := o
  simp only at hp ⊢
  unfold cstep at h ⊢
  cases oop <;> (try cases hp) <;> simp only [Op.operands, Array.toList, List.mem_cons, List.not_mem_nil, or_false, forall_eq_or_imp, forall_eq] at h ⊢
  case move x =>
    obtain ⟨a, ha, h⟩ := lift_opt h
    cases h
    refine ⟨a, rfl, fun _ t ht _ => ?_⟩
    rw [ht, ha]; rfl
  case pick c x y =>
    obtain ⟨c1, hc, h⟩ := lift_opt h
    split at h
    · rename_i g
      obtain ⟨x1, hx, h⟩ := lift_opt h
      obtain ⟨y1, hy, h⟩ := lift_opt h
      cases h
      refine ⟨_, rfl, fun _ t ht _ => ?_⟩
      rw [ht.1, ht.2.1, ht.2.2, hc, hx, hy]; rfl
    · cases h
  case build ty ps =>
    split at h
    · rename_i ti l hti hl
      split at h
      · rename_i fs hk
        split at h
        · rename_i hall
          obtain ⟨cs, hcs, h⟩ := lift_opt h
          cases h
          refine ⟨_, rfl, fun _ t ht _ => ?_⟩
          have e : partsAV t ps.toList = some l := by
            rw [← hl]; exact partsAV_same (fun x hx => ht x hx)
          simp only [hti, e, hk, hall, if_true, hcs, lift]
        · cases h
      · cases h
    · cases h
  case load ty p =>
    obtain ⟨p1, hp1, h⟩ := lift_opt h
    rw [aload_nat] at h
    obtain ⟨a, ha, h⟩ := bind_some_opt h
    cases h
    refine ⟨a, rfl, fun _ t ht hr => ?_⟩
    rw [ht, hp1]
    simp only [lift]
    rw [aload_nat, aload_rows (hr.resolve_left (by simp [heapFree])) ha]
    rfl
  case nilCheck x =>
    obtain ⟨a, ha, h⟩ := lift_opt h
    split at h
    all_goals first
      | (cases h
         refine ⟨_, rfl, fun _ t ht _ => ?_⟩
         rw [ht, ha]; rfl)
      | cases h
  case binOp op ty x y yt =>
    obtain ⟨x1, hx, h⟩ := lift_opt h
    obtain ⟨y1, hy, h⟩ := lift_opt h
    rw [abin_nat] at h
    obtain ⟨a, ha, h⟩ := bind_some_opt h
    cases h
    refine ⟨a, rfl, fun _ t ht _ => ?_⟩
    rw [ht.1, ht.2, hx, hy]
    simp only [lift]
    rw [abin_nat, ha]
    rfl
  case unOp op ty x =>
    obtain ⟨x1, hx, h⟩ := lift_opt h
    rw [aun_nat] at h
    obtain ⟨a, ha, h⟩ := bind_some_opt h
    cases h
    refine ⟨a, rfl, fun _ t ht _ => ?_⟩
    rw [ht, hx]
    simp only [lift]
    rw [aun_nat, ha]
    rfl
  case convert st dt x =>
    obtain ⟨x1, hx, h⟩ := lift_opt h
    split at h
    · rename_i t1 ti k n h1 h2
      split at h
      · rename_i k' hk'
        cases h
        refine ⟨_, rfl, fun _ t ht _ => ?_⟩
        rw [ht, hx]
        simp only [lift, h1, h2, hk']
      · cases h
    · cases h
  case makeFunc fn first caps =>
    cases fn <;> (try simp only at h) <;> (try cases h)
    case func f =>
      split at h
      · rename_i xa xb hfa hfb
        cases h
        refine ⟨_, rfl, fun _ t ht _ => ?_⟩
        have e1 : argsAV t first.toList = some xa := by rw [← hfa]; exact argsAV_same (fun x hx => ht x (by simp; exact .inl (by simpa using hx)))
        have e2 : argsAV t caps.toList = some xb := by rw [← hfb]; exact argsAV_same (fun x hx => ht x (by simp; exact .inr (by simpa using hx)))
        simp only [e1, e2]
      · cases h
  case slice ty x lo hi mx =>
    cases mx with
    | some m => cases h
    | none =>
      simp only at h
      split at h
      · rename_i b l hh hx hl hh'
        rw [aslice_nat] at h
        obtain ⟨a, ha, h⟩ := bind_some_opt h
        cases h
        refine ⟨a, rfl, fun _ t ht hr => ?_⟩
        have e1 : evalO t x = some b := by rw [← hx]; exact ht x (by simp)
        have e2 : evalOp t lo = some l := by rw [← hl]; exact evalOp_same (fun y hy => ht y (by subst hy; simp))
        have e3 : evalOp t hi = some hh := by rw [← hh']; exact evalOp_same (fun y hy => ht y (by subst hy; simp))
        simp only [e1, e2, e3]
        rw [aslice_nat, aslice_rows (hr.resolve_left (by simp [heapFree])) ha]
        rfl
      · cases h
  case fieldAddr ty x f =>
    obtain ⟨x1, hx, h⟩ := lift_opt h
    rw [afieldAddr_nat] at h
    obtain ⟨a, ha, h⟩ := bind_some_opt h
    cases h
    refine ⟨a, rfl, fun _ t ht _ => ?_⟩
    rw [ht, hx]
    simp only [lift]
    rw [afieldAddr_nat, ha]
    rfl
  case field ty x f =>
    obtain ⟨x1, hx, h⟩ := lift_opt h
    rw [afield_nat] at h
    obtain ⟨a, ha, h⟩ := bind_some_opt h
    cases h
    refine ⟨a, rfl, fun _ t ht _ => ?_⟩
    rw [ht, hx]
    simp only [lift]
    rw [afield_nat, ha]
    rfl
  case indexAddr ty x i =>
    obtain ⟨x1, hx, h⟩ := lift_opt h
    obtain ⟨i1, hi, h⟩ := lift_opt h
    rw [aindexAddr_nat] at h
    obtain ⟨a, ha, h⟩ := bind_some_opt h
    cases h
    refine ⟨a, rfl, fun _ t ht hr => ?_⟩
    rw [ht.1, ht.2, hx, hi]
    simp only [lift]
    rw [aindexAddr_nat, aindexAddr_rows (hr.resolve_left (by simp [heapFree])) ha]
    rfl
  case index ty x i =>
    split at h
    · rename_i ti b k n hti hx hi
      split at h
      · rename_i hks
        obtain ⟨m, hm, h⟩ := bind_some_opt h
        cases h
        refine ⟨_, rfl, fun _ t ht _ => ?_⟩
        rw [ht.1, ht.2]
        simp only [hti, hx, hi, hks, optAlg, hm]
        rfl
      · cases h
    · cases h
  case extract x i =>
    obtain ⟨x1, hx, h⟩ := lift_opt h
    split at h
    · rename_i cs
      obtain ⟨y, hy, h⟩ := lift_opt h
      cases h
      refine ⟨_, rfl, fun _ t ht _ => ?_⟩
      rw [ht, hx]
      simp only [lift, hy]
    · cases h
  case call c =>
    obtain ⟨callee, cargs, ctypes⟩ := c
    cases callee <;> (try cases hp)
    case builtin b =>
      cases b <;> (try cases hp)
      case len =>
        simp only at h ⊢
        split at h
        · rename_i x tt hxs hts
          obtain ⟨x1, hx, h⟩ := lift_opt h
          have hx' : ∀ t : St, (∀ y ∈ (Call.operands ⟨.builtin .len, cargs, ctypes⟩).toList, evalO t y = evalO s y) → evalO t x = some x1 := fun t ht => by
            rw [← hx]
            refine ht x ?_
            have e1 := arr1 hxs
            subst e1
            simp [Call.operands]
          split at h
          · rename_i ti hti
            split at h
            · cases h
            · cases h
            · rename_i hks
              obtain ⟨n, hn, h⟩ := lift_opt h
              cases h
              refine ⟨_, rfl, fun _ t ht hr => ?_⟩
              simp only [hxs, hts, hx' t ht, lift, hti, hks, alen_rows (hr.resolve_left (by simp [heapFree])) hn]
            · rename_i hks hne
              obtain ⟨n, hn, h⟩ := lift_opt h
              cases h
              refine ⟨_, rfl, fun _ t ht hr => ?_⟩
              simp only [hxs, hts, hx' t ht, lift, hti, hks, alen_rows (hr.resolve_left (by simp [heapFree])) hn]
            · cases h
          · cases h
        · cases h
      case max =>
        simp only at h ⊢
        split at h
        · rename_i k n r hargs
          obtain ⟨m, hm, h⟩ := lift_opt h
          cases h
          refine ⟨_, rfl, fun _ t ht hr => ?_⟩
          have e : argsAV t cargs.toList = some (.dat (.int k) n :: r) := by
            rw [← hargs]; exact argsAV_same (fun x hx => ht x (by simpa [Call.operands] using hx))
          simp only [e, hm, lift]
        · cases h
      case min =>
        simp only at h ⊢
        split at h
        · rename_i k n r hargs
          obtain ⟨m, hm, h⟩ := lift_opt h
          cases h
          refine ⟨_, rfl, fun _ t ht hr => ?_⟩
          have e : argsAV t cargs.toList = some (.dat (.int k) n :: r) := by
            rw [← hargs]; exact argsAV_same (fun x hx => ht x (by simpa [Call.operands] using hx))
          simp only [e, hm, lift]
        · cases h

end Go.Rv
