/-
  Soundness of the abstract run, a part. Conditions: none.
-/
import Derived.Test.YtenenhmofmdcbabDoorRo
set_option linter.unusedSimpArgs false
set_option linter.unusedVariables false
namespace Go.Rv

def Callable (P : Program) (f : FuncId) : Prop := ∀ args w, (callFunc f args).run P w = .ok (.enter f args) w

structure COk (P : Program) (C : Ctx) : Prop where
  types : TOk P C.T
  orc : ∀ f, Sound P f (C.orc f)
  call : ∀ f avs H, (C.orc f avs H).o.isSome = true → Callable P f
  mixed : P.follows .mixedOrders = true

section
variable {P : Program} {B : Base} {s : St} {a : Act} {w : World} {ι : Plc} {C : Ctx}

theorem map_toArr (xs : Array Operand) (ρ : Operand → Value) : xs.map ρ = (xs.toList.map ρ).toArray := by
  apply Array.ext'; simp

theorem arr2 {α : Type} {xs : Array α} {x y : α} (h : xs.toList = [x, y]) : xs = #[x, y] := by
  apply Array.ext'; simpa using h
theorem arr1 {α : Type} {xs : Array α} {x : α} (h : xs.toList = [x]) : xs = #[x] := by
  apply Array.ext'; simpa using h

theorem struct_places {T : TT} (hT : TOk P T) : ∀ (l : List Field), (∀ f ∈ l, ∃ fi, T f.type = some fi) → ∃ pl : List (Nat × Nat), l.mapM (fun f => (P.info? f.type).map fun i => (f.offset, i.size)) = some pl ∧
      ∀ (i : Nat) f fi, l[i]? = some f → T f.type = some fi → pl[i]? = some (f.offset, fi.size)
  | [], _ => ⟨[], rfl, by simp⟩
  | f :: r, h => by
    obtain ⟨fi, hfi⟩ := h f (by simp)
    obtain ⟨pl, h1, h2⟩ := struct_places hT r (fun g hg => h g (by simp [hg]))
    obtain ⟨inf, hinf, hs, _⟩ := (hT _ _ hfi).info
    refine ⟨(f.offset, fi.size) :: pl, by simp [List.mapM_cons, hinf, hs, h1], fun i g gi hg hgi => ?_⟩
    cases i with
    | zero => simp at hg; subst hg; rw [hfi] at hgi; cases hgi; rfl
    | succ i => simp at hg; simpa using h2 i g gi hg hgi

theorem cstep_sound (hC : COk P C) (hk : C.k = B.k) {base : Nat} {o : Oper} {s' : St} (hR : Rep B s a w) (h : cstep (optAlg St) C base o s some = some s') (Q : Exit → Act → World → Prop) :
    o.wp P a w (fun a' w' => Rep B s' a' w') Q := by
  obtain ⟨hd, ι, hI⟩ := hR
  have hI0 : Inv B s a.tmps w ι := hI
  obtain ⟨odst, oop, otype, opos, oafter, oguard⟩ := o
  unfold cstep at h
  cases oop <;> simp only at h
  case move x =>
    obtain ⟨x1, hx, h⟩ := lift_opt h
    cases h
    exact finish_value hd (by simp [execOp]) hI (evalO_rep hI hx a.defers)
  case assign x =>
    obtain ⟨x1, hx, h⟩ := lift_opt h
    have hv := evalO_rep hI hx a.defers
    split at h
    · split at h
      · split at h
        · rename_i ie hie u hu
          obtain ⟨hfree, h⟩ := allocRow_opt h
          cases h
          refine finish_value hd (v := a.eval x) (w' := w) (by simp [execOp]) (hI.addNil hfree u) ⟨_, sumOf_set_self (List.getElem?_eq_some_iff.1 hfree).1, ?_⟩
          obtain ⟨q, hq⟩ := hv
          exact ⟨rfl, rfl, q, hq⟩
        · cases h
      · cases h
    · cases h
      exact finish_value hd (by simp [execOp]) hI hv
  case pick c x y =>
    obtain ⟨c1, hc, h⟩ := lift_opt h
    have hcv := evalO_rep hI hc a.defers
    split at h
    · rename_i g
      obtain ⟨x1, hx, h⟩ := lift_opt h
      obtain ⟨y1, hy, h⟩ := lift_opt h
      cases h
      have e := dat_bool hcv
      have hrun : (execOp a.eval ⟨odst, .pick c x y, otype, opos, oafter, oguard⟩).run P w = .ok (.value (if g then a.eval x else a.eval y)) w := by
        have e' : a.eval c = .bool g := e
        simp [execOp, e', asBool]
      refine finish_value hd hrun hI ?_
      cases g
      · exact evalO_rep hI hy a.defers
      · exact evalO_rep hI hx a.defers
    · cases h
  case alloc e =>
    split at h
    · rename_i ti hti
      have hti := hC.types _ _ hti
      obtain ⟨inf, hinf, hsz, hby, z, hz, hzc⟩ := hti.info
      have hrun : (execOp a.eval ⟨odst, .alloc e, otype, opos, oafter, oguard⟩).run P w = .ok (.value (.pointer (some ⟨w.heap.size, 0, none⟩))) (w.alloc (.cells ti.zero.toArray e)) := by
        have : z.cells = ti.zero.toArray := by apply Array.ext'; simpa using hzc
        simp [execOp, Instr.alloc, zeroValue, typeInfo, hinf, hz, newVar, newRow, this]
      split at h
      · rename_i n e' hkk
        split at h
        · split at h
          · rename_i ie hie u hu
            split at h
            · rename_i hcond
              obtain ⟨hc1, hc2, hc3, hc4, hc5⟩ := hcond
              obtain ⟨hfree, h⟩ := allocRow_opt h
              cases h
              obtain ⟨hA, hB⟩ := hI.newSeq hfree u (List.replicate n u.zero) ti.zero.toArray e n (by simp [hc3, hc1]) (by simp) (by simp only [maxLen]; omega) (by
                intro i x hx
                have hi := (List.getElem?_eq_some_iff.1 hx).1
                simp at hi
                have hx0 : x = u.zero := by rw [List.getElem?_replicate] at hx; split at hx <;> simp_all
                subst hx0
                have hit : i < ti.zero.length := by omega
                refine ⟨[ti.zero[i]], zero_cells (by simpa using List.all_eq_true.1 hc5 _ (List.getElem_mem hit)) _, fun j v hv => ?_⟩
                have hj : j = 0 := by have := (List.getElem?_eq_some_iff.1 hv).1; simpa using this
                subst hj
                simp at hv
                simp [hc1, hit, hv])
              refine finish_value hd hrun hA ?_
              obtain ⟨q, hq, hw⟩ := hB
              have hlt : base < s.heap.length := (List.getElem?_eq_some_iff.1 hfree).1
              exact ⟨_, w.heap.size, 0, n, sumOf_set_self hlt, rfl, by simp⟩
            · cases h
          · cases h
        · cases h
      · split at h
        · rename_i hall
          obtain ⟨hfree, h⟩ := allocRow_opt h
          cases h
          obtain ⟨hA, hB⟩ := hI.newBox hfree (ti.zero.map constAV) ti.zero e (zero_box _) (list_cells (zero_box (w := w) (S := fun _ => True) (σ := fun _ => none) _) hall)
          exact finish_value hd hrun hA hB
        · cases h
    · cases h
  case box e x =>
    obtain ⟨x1, hx, h⟩ := lift_opt h
    have hv := evalO_rep hI hx a.defers
    have hrun : ∀ vs : List Value, (a.eval x).cells = vs.toArray → (execOp a.eval ⟨odst, .box e x, otype, opos, oafter, oguard⟩).run P w = .ok (.value (.pointer (some ⟨w.heap.size, 0, none⟩))) (w.alloc (.cells vs.toArray e)) := by
      intro vs hvs
      simp [execOp, Instr.box, newVar, newRow, hvs]
    split at h
    · rename_i cs
      split at h
      · rename_i hall
        obtain ⟨hfree, h⟩ := allocRow_opt h
        cases h
        obtain ⟨vs, he, hvs⟩ := hv
        obtain ⟨hA, hB⟩ := hI.newBox hfree cs vs e hvs (list_cells hvs hall)
        exact finish_value hd (hrun vs (by have e' : a.eval x = .agg vs.toArray := he; rw [e']; rfl)) hA hB
      · cases h
    · split at h
      · rename_i hs
        obtain ⟨hfree, h⟩ := allocRow_opt h
        cases h
        have h1 := single_one hs hv
        obtain ⟨hA, hB⟩ := hI.newBox hfree [x1] [a.eval x] e ⟨_, _, rfl, hv, rfl⟩ (by intro v hv'; simp at hv'; subst hv'; exact h1)
        exact finish_value hd (hrun [a.eval x] (oneCell_cells h1)) hA hB
      · cases h
  case build t ps =>
    split at h
    · rename_i ti l hti hl
      have hti := hC.types _ _ hti
      split at h
      · rename_i fs hfs
        split at h
        · rename_i hall
          obtain ⟨cs, hcs, h⟩ := lift_opt h
          cases h
          have hkd := hti.kind
          rw [hfs] at hkd
          obtain ⟨fields, hu, hmap⟩ := hkd
          obtain ⟨inf, hinf, hsz, hby, z, hz, hzc⟩ := hti.info
          obtain ⟨pl, hpl1, hpl2⟩ := struct_places hC.types fields.toList (fun f hf => by
            have hm : (f.offset, f.type) ∈ fs := by rw [← hmap]; exact List.mem_map.2 ⟨f, hf, rfl⟩
            have := List.all_eq_true.1 hall _ hm
            exact Option.isSome_iff_exists.1 this)
          obtain ⟨h1, h2⟩ := partsAV_rep hI a.defers ps.toList l hl
          obtain ⟨res, hfill, hres⟩ := abuild_ok hC.types hmap (places := pl.toArray) (fun i off ft fi hf hfi => by
            rw [← hmap, List.getElem?_map] at hf
            cases hg : fields.toList[i]? with
            | none => simp [hg] at hf
            | some f =>
              simp only [hg, Option.map_some, Option.some.injEq, Prod.mk.injEq] at hf
              obtain ⟨rfl, rfl⟩ := hf
              simpa using hpl2 i f fi hg hfi) l _ cs _ z.cells hcs h1 h2 (by rw [hzc]; exact zero_box _)
          have hbuilt : P.built t (ps.toList.map fun (p : Nat × Operand) => (p.1, a.eval p.2)) = some res := by
            unfold Program.built
            simp only [hinf, hu, hz, hpl1]
            exact hfill
          refine finish_value hd (v := .agg res) (w' := w) ?_ hI ⟨res.toList, by simp, hres⟩
          have e : (ps.map fun (p : Nat × Operand) => (p.1, a.eval p.2)).toList = (ps.toList.map fun (p : Nat × Operand) => (p.1, a.eval p.2)) := by simp
          have hrun := run_build (P := P) w t (ps.map fun (p : Nat × Operand) => (p.1, a.eval p.2)) res (by rw [e]; exact hbuilt)
          simp only [execOp]
          simp [Sem.run_bind, hrun]
        · cases h
      · cases h
    · cases h
  case buildSlice t n ps =>
    split at h
    · rename_i ie l hie hl
      split at h
      · rename_i u hu
        split at h
        · rename_i xs hxs
          split at h
          · rename_i hcond
            obtain ⟨hc1, hc2, hc3, hc4⟩ := hcond
            obtain ⟨hfree, h⟩ := allocRow_opt h
            cases h
            obtain ⟨h1, h2⟩ := partsAV_rep hI a.defers ps.toList l hl
            obtain ⟨v, w', ι', hrun, hA, hB⟩ := buildSlice_ok hC.types hI hie hxs hc1 hc2 hc3 hc4 hfree h1 h2
            refine finish_value hd (v := v) (w' := w') ?_ hA hB
            have e : (ps.map fun (p : Nat × Operand) => (p.1, a.eval p.2)) = (ps.toList.map fun (p : Nat × Operand) => (p.1, a.eval p.2)).toArray := by apply Array.ext'; simp
            have hrun' : (Instr.buildSlice t n (ps.map fun (p : Nat × Operand) => (p.1, a.eval p.2))).run P w = .ok v w' := by rw [e]; exact hrun
            simp only [execOp]
            simp [Sem.run_bind, hrun']
          · cases h
        · cases h
      · cases h
    · cases h
  case makeSlice t l c =>
    split at h
    · rename_i ie k1 n k2 m hie hl hc
      split at h
      · rename_i u hu
        split at h
        · rename_i hcond
          obtain ⟨hc1, hc2, hc3, hc4⟩ := hcond
          simp only [optAlg] at h
          cases hm : mk n m with
          | none => simp [hm] at h
          | some q =>
            simp only [hm, Option.bind_some] at h
            obtain ⟨hfree, h⟩ := allocRow_opt h
            cases h
            have e1 := dat_int (evalO_rep hI hl a.defers)
            have e2 := dat_int (evalO_rep hI hc a.defers)
            have e1' : a.eval l = .int k1 n := e1
            have e2' : a.eval c = .int k2 m := e2
            obtain ⟨v, w', ι', hrun, hA, hB⟩ := makeSlice_ok hC.types hI hie (k1 := k1) (k2 := k2) hm hc1 hc3 hc4 hfree
            refine finish_value hd (v := v) (w' := w') ?_ hA hB
            simp [execOp, e1', e2', Sem.run_bind, hrun]
        · cases h
      · cases h
    · cases h
  case load t p =>
    obtain ⟨p1, hp, h⟩ := lift_opt h
    obtain ⟨x, v, h1, h2, h3⟩ := aload_ok hC.types hI h (evalO_rep hI hp a.defers)
    cases h1
    refine finish_value hd (v := v) (w' := w) ?_ hI h2
    have h3' : (Instr.loadAt t (a.eval p)).run P w = .ok v w := h3
    simp [execOp, Sem.run_bind, h3']
  case store t p v =>
    obtain ⟨p1, hp, h⟩ := lift_opt h
    obtain ⟨v1, hv, h⟩ := lift_opt h
    obtain ⟨s2, w', ι', h1, h2, h3⟩ := astore_ok hC.types hI h (evalO_rep hI hp a.defers) (evalO_rep hI hv a.defers)
    cases h1
    refine finish_skip hd ?_ h2
    have h3' : (Instr.storeAt t (a.eval p) (a.eval v)).run P w = .ok () w' := h3
    simp [execOp, Sem.run_bind, h3']
  case nilCheck x =>
    obtain ⟨x1, hx, h⟩ := lift_opt h
    have hv := evalO_rep hI hx a.defers
    have hrun : ∀ b, a.eval x = .pointer (some b) → (execOp a.eval ⟨odst, .nilCheck x, otype, opos, oafter, oguard⟩).run P w = .ok (.value (a.eval x)) w := by
      intro b hb
      simp [execOp, hb]
    split at h
    · cases h
      have hv' := hv
      obtain ⟨_, _, _, _, _, _, e⟩ := hv
      exact finish_value hd (hrun _ e) hI hv'
    · cases h
      have hv' := hv
      obtain ⟨_, _, _, _, _, _, _, e⟩ := hv
      exact finish_value hd (hrun _ e) hI hv'
    · cases h
      have hv' := hv
      obtain ⟨_, _, _, e, _⟩ := hv
      exact finish_value hd (hrun _ e) hI hv'
    · cases h
  case binOp op t x y yt =>
    obtain ⟨x1, hx, h⟩ := lift_opt h
    obtain ⟨y1, hy, h⟩ := lift_opt h
    obtain ⟨z, v, h1, h2, h3⟩ := abin_ok (P := P) (w1 := w) t (isBool_ok hC.types) h (evalO_rep hI hx a.defers) (evalO_rep hI hy a.defers) x y
    cases h1
    refine finish_value hd (v := v) (w' := w) ?_ hI h2
    have h3' : (do eqGuard op t x y (a.eval x) (a.eval y); binOp op t (a.eval x) (a.eval y) : Sem Value).run P w = .ok v w := h3
    simp only [Sem.run_bind] at h3'
    simp only [execOp, Sem.run_bind, h3', Result.andThen_ok, Sem.run_pure]
  case unOp op t x =>
    obtain ⟨x1, hx, h⟩ := lift_opt h
    obtain ⟨z, v, h1, h2, h3⟩ := aun_ok (P := P) (w1 := w) h (evalO_rep hI hx a.defers)
    cases h1
    refine finish_value hd (v := v) (w' := w) ?_ hI h2
    have h3' : (Op.unary op (a.eval x)).run P w = .ok v w := h3
    simp [execOp, Sem.run_bind, h3']
  case convert st dt x =>
    obtain ⟨x1, hx, h⟩ := lift_opt h
    split at h
    · rename_i t1 ti k n h1 h2
      split at h
      · rename_i k' hk'
        cases h
        have e := dat_int (evalO_rep hI hx a.defers)
        have e' : a.eval x = .int k n := e
        have hu2 : P.underlying dt = some (.int k') := by have := (hC.types _ _ h2).kind; rw [hk'] at this; exact this
        have hu1 : ∃ d, P.underlying st = some d := by
          have := (hC.types _ _ h1).kind
          cases hkk : t1.kind <;> rw [hkk] at this
          · obtain ⟨d, hd, _⟩ := this; exact ⟨d, hd⟩
          · exact ⟨_, this⟩
          · exact ⟨_, this⟩
          · exact ⟨_, this⟩
          · exact ⟨_, this⟩
          · exact ⟨_, this⟩
          · obtain ⟨f, hf, _⟩ := this; exact ⟨_, hf⟩
        obtain ⟨d, hu1⟩ := hu1
        refine finish_value hd (v := .int k' (k'.wrap n)) (w' := w) ?_ hI (rep_int _ _)
        simp [execOp, e', convert, Sem.run_bind, run_underlying hu1, run_underlying hu2, Conv.intToInt]
      · cases h
    · cases h
  case makeFunc fn first caps =>
    cases fn <;> (try simp only at h)
    case func f =>
      split at h
      · rename_i xa xb hfa hfb
        cases h
        have h1 := argsAV_rep hI a.defers first.toList xa hfa
        have h2 := argsAV_rep hI a.defers caps.toList xb hfb
        refine finish_value hd (v := .func (.func f) (first.map a.eval) (caps.map a.eval)) (w' := w) (by simp [execOp, Instr.makeFunc]) hI ?_
        rw [map_toArr, map_toArr]
        exact ⟨_, _, rfl, h1, h2⟩
      · cases h
    all_goals cases h
  case slice t x lo hi mx =>
    cases mx with
    | some m => cases h
    | none =>
      simp only at h
      split at h
      · rename_i b l hh hx hl hh'
        obtain ⟨hl1, hl2⟩ := evalOp_ok hI hl
        obtain ⟨hh1, hh2⟩ := evalOp_ok hI hh'
        obtain ⟨z, v, h1, h2, h3⟩ := aslice_ok hC.types hI h (evalO_rep hI hx a.defers) hl1 hh1 hl2 hh2
        cases h1
        refine finish_value hd (v := v) (w' := w) ?_ hI h2
        have h3' : (Instr.sliceAt t (a.eval x) (lo.map a.eval) (hi.map a.eval) none).run P w = .ok v w := h3
        simp [execOp, Sem.run_bind, h3']
      · cases h
  case fieldAddr t x f =>
    obtain ⟨x1, hx, h⟩ := lift_opt h
    obtain ⟨z, v, h1, h2, h3⟩ := afieldAddr_ok (w := w) hC.types h (evalO_rep hI hx a.defers)
    cases h1
    refine finish_value hd (v := v) (w' := w) ?_ hI h2
    have h3' : (Instr.fieldAt t (a.eval x) f).run P w = .ok v w := h3
    simp [execOp, Sem.run_bind, h3']
  case field t x f =>
    obtain ⟨x1, hx, h⟩ := lift_opt h
    obtain ⟨z, v, h1, h2, h3⟩ := afield_ok (w := w) hC.types h (evalO_rep hI hx a.defers)
    cases h1
    refine finish_value hd (v := v) (w' := w) ?_ hI h2
    have h3' : (Instr.field t (a.eval x) f).run P w = .ok v w := h3
    simp [execOp, Sem.run_bind, h3']
  case indexAddr t x i =>
    obtain ⟨x1, hx, h⟩ := lift_opt h
    obtain ⟨i1, hi, h⟩ := lift_opt h
    obtain ⟨z, v, h1, h2, h3⟩ := aindexAddr_ok hC.types hI h (evalO_rep hI hx a.defers) (evalO_rep hI hi a.defers)
    cases h1
    refine finish_value hd (v := v) (w' := w) ?_ hI h2
    have h3' : (Instr.indexAt t (a.eval x) (a.eval i)).run P w = .ok v w := h3
    simp [execOp, Sem.run_bind, h3']
  case index t x i =>
    split at h
    · rename_i ti b k n hti hx hi
      split at h
      · rename_i hks
        simp only [optAlg, bidx] at h
        split at h
        · rename_i h0
          cases hb : b[Int.toNat n]? with
          | none => simp [hb] at h
          | some y =>
            simp only [hb, Option.map_some, Option.bind_some] at h
            cases h
            have e1 := dat_str (evalO_rep hI hx a.defers)
            have e2 := dat_int (evalO_rep hI hi a.defers)
            have e1' : a.eval x = .string b := e1
            have e2' : a.eval i = .int k n := e2
            have hu : P.underlying t = some .string := by have := (hC.types _ _ hti).kind; rw [hks] at this; exact this
            refine finish_value hd (v := .int .u8 y.toNat) (w' := w) ?_ hI (rep_int _ _)
            have h0' : (0 : Int) ≤ n := h0
            simp [execOp, e1', e2', Instr.index, asIntOf, Sem.run_bind, run_underlying hu, h0', hb]
        · simp at h
      · cases h
    · cases h
  case extract x i =>
    obtain ⟨x1, hx, h⟩ := lift_opt h
    split at h
    · rename_i cs
      obtain ⟨y, hy, h⟩ := lift_opt h
      cases h
      obtain ⟨vs, he, hvs⟩ := evalO_rep hI hx a.defers
      have he' : a.eval x = .tuple vs.toArray := he
      obtain ⟨v, hv, hr⟩ := hvs.get _ _ i y hy
      refine finish_value hd (v := v) (w' := w) ?_ hI hr
      simp [execOp, he', Instr.extract, hv]
    · cases h
  case call c =>
    obtain ⟨callee, cargs, ctypes⟩ := c
    simp only at h
    cases callee <;> (try simp only at h)
    case invoke r m => cases h
    case value f =>
      obtain ⟨f1, hf, h⟩ := lift_opt h
      split at h
      · rename_i g first caps
        split at h
        · rename_i args hargs
          obtain ⟨va, vb, he, h1, h2⟩ := evalO_rep hI hf a.defers
          have he' : a.eval f = .func (.func g) va.toArray vb.toArray := he
          have h3 := argsAV_rep hI a.defers cargs.toList args hargs
          obtain ⟨r, s2, hk2, hcalls⟩ := acall_ok hC.orc hI h (vs := va ++ cargs.toList.map a.eval ++ vb) ((h1.append h3).append h2)
          cases hk2
          have horc : Callable P g := by
            unfold acall at h
            split at h
            · cases h
            · simp only at h
              split at h
              · simp only [optAlg] at h
                cases hq : (C.orc g _ _).o with
                | none => rw [hq] at h; simp at h
                | some q => exact hC.call g _ _ (by rw [hq]; rfl)
              · cases h
          unfold Oper.wp
          have hrun : (execOp a.eval ⟨odst, .call ⟨.value f, cargs, ctypes⟩, otype, opos, oafter, oguard⟩).run P w = .ok (.enter g (va ++ cargs.toList.map a.eval ++ vb).toArray) w := by
            have e : va.toArray ++ cargs.map a.eval ++ vb.toArray = (va ++ cargs.toList.map a.eval ++ vb).toArray := by apply Array.ext'; simp
            simp [execOp, resolve, he', Deferred.ofValue, invoke, e, horc _ w]
          rw [hrun, Oper.upon_enter]
          refine hcalls.mono fun e w' hpost => ?_
          obtain ⟨v, ι', rfl, hI', hv'⟩ := hpost
          exact ⟨by cases odst <;> exact hd, ι', hI'.put odst hv' a.defers⟩
        · cases h
      · cases h
    case builtin b =>
      cases b <;> (try simp only at h)
      case len =>
        split at h
        · rename_i x t hxs hts
          obtain ⟨x1, hx, h⟩ := lift_opt h
          have e1 := arr1 hxs
          have e2 := arr1 hts
          subst e1 e2
          split at h
          · rename_i ti hti
            have hkd := (hC.types _ _ hti).kind
            have hv := evalO_rep hI hx a.defers
            have hstr : ∀ b : ByteArray, a.eval x = .string b → ti.kind = .str → (execOp a.eval ⟨odst, .call ⟨.builtin .len, #[x], #[t]⟩, otype, opos, oafter, oguard⟩).run P w = .ok (.value (.int .i64 b.size)) w := by
              intro b hb hks
              rw [hks] at hkd
              simp [execOp, resolve, invoke, builtin, Builtin.len_, hb, Sem.run_bind, run_underlying hkd, goInt]
            have hslc : ∀ e n aa cc, a.eval x = .slice aa n cc → ti.kind = .slice e → (execOp a.eval ⟨odst, .call ⟨.builtin .len, #[x], #[t]⟩, otype, opos, oafter, oguard⟩).run P w = .ok (.value (.int .i64 n)) w := by
              intro e n aa cc hb hks
              rw [hks] at hkd
              simp [execOp, resolve, invoke, builtin, Builtin.len_, hb, Sem.run_bind, run_underlying hkd, goInt]
            split at h
            · cases h
            · cases h
            · rename_i b hks
              obtain ⟨n, hn, h⟩ := lift_opt h
              cases h
              rcases alen_ok hI hn hv with ⟨b', e1, e2, rfl⟩ | ⟨hne, _⟩
              · exact finish_value hd (hstr b' e2 hks) hI (rep_int _ _)
              · exact absurd rfl (hne _)
            · rename_i hks hne
              obtain ⟨n, hn, h⟩ := lift_opt h
              cases h
              rcases alen_ok hI hn hv with ⟨b', e1, e2, rfl⟩ | ⟨_, aa, cc, e⟩
              · exact absurd e1 (hne b')
              · exact finish_value hd (hslc _ n aa cc e hks) hI (rep_int _ _)
            · cases h
          · cases h
        · cases h
      case append =>
        split at h
        · rename_i x y t t2 hxs hts
          have e1 := arr2 hxs
          have e2 := arr2 hts
          subst e1 e2
          split at h
          · rename_i htt
            subst htt
            obtain ⟨x1, hx, h⟩ := lift_opt h
            obtain ⟨y1, hy, h⟩ := lift_opt h
            obtain ⟨z, v, s2, w', ι', h1, h2, h3, h4⟩ := aappend_ok (ty := otype) hC.types hk hI h (evalO_rep hI hx a.defers) (evalO_rep hI hy a.defers)
            cases h1
            refine finish_value hd (v := v) (w' := w') ?_ h3 h4
            have h2' : (Builtin.append_ #[t, t] otype #[a.eval x, a.eval y]).run P w = .ok v w' := h2
            simp [execOp, resolve, invoke, builtin, Sem.run_bind, h2']
          · cases h
        · cases h
      case max =>
        split at h
        · rename_i k n r hargs
          obtain ⟨m, hm, h⟩ := lift_opt h
          cases h
          have h3 := argsAV_rep hI a.defers cargs.toList _ hargs
          obtain ⟨v, vr, he, h4, h5⟩ := h3
          have e := dat_int h4
          subst e
          simp only [Option.map_eq_some_iff] at hm
          obtain ⟨m', hm, rfl⟩ := hm
          have hfold := foldInt_ok (P := P) (w := w) (g := Builtin.max2) (fun n m => by simp [Builtin.max2, imax]) r n m' vr hm h5
          refine finish_value hd (v := .int k m') (w' := w) ?_ hI (rep_int _ _)
          have he' : cargs.map a.eval = (Value.int k n :: vr).toArray := by rw [map_toArr]; exact congrArg List.toArray he
          simp [execOp, resolve, invoke, builtin, Builtin.max_, he', Sem.run_bind, hfold]
        · cases h
      case min =>
        split at h
        · rename_i k n r hargs
          obtain ⟨m, hm, h⟩ := lift_opt h
          cases h
          have h3 := argsAV_rep hI a.defers cargs.toList _ hargs
          obtain ⟨v, vr, he, h4, h5⟩ := h3
          have e := dat_int h4
          subst e
          simp only [Option.map_eq_some_iff] at hm
          obtain ⟨m', hm, rfl⟩ := hm
          have hfold := foldInt_ok (P := P) (w := w) (g := Builtin.min2) (fun n m => by simp [Builtin.min2, imin]) r n m' vr hm h5
          refine finish_value hd (v := .int k m') (w' := w) ?_ hI (rep_int _ _)
          have he' : cargs.map a.eval = (Value.int k n :: vr).toArray := by rw [map_toArr]; exact congrArg List.toArray he
          simp [execOp, resolve, invoke, builtin, Builtin.min_, he', Sem.run_bind, hfold]
        · cases h
      all_goals cases h
  all_goals cases h

end
end Go.Rv
