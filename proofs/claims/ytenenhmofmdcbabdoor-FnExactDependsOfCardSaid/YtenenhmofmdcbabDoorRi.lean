/-
  Soundness of the abstract run, a part. Conditions: none.
-/
import Derived.Test.YtenenhmofmdcbabDoorRh
set_option linter.unusedSimpArgs false
set_option linter.unusedVariables false
namespace Go.Rv

theorem splice_get {α : Type} (l : List α) (n : Nat) (vs : List α) (h : n + vs.length ≤ l.length) (m : Nat) :
    (l.take n ++ vs ++ l.drop (n + vs.length))[m]? = if n ≤ m ∧ m < n + vs.length then vs[m - n]? else l[m]? := by
  have hn : (l.take n).length = n := by simp; omega
  by_cases h1 : m < n
  · rw [List.append_assoc, List.getElem?_append_left (by omega), List.getElem?_take, if_pos h1, if_neg (by omega)]
  · by_cases h2 : m < n + vs.length
    · rw [List.append_assoc, List.getElem?_append_right (by omega), hn, List.getElem?_append_left (by omega), if_pos ⟨by omega, h2⟩]
    · rw [List.getElem?_append_right (by simp; omega), if_neg (by omega)]
      simp only [List.length_append, hn, List.getElem?_drop]
      congr 1; omega

theorem oneCell_cells {v : Value} (h : v.oneCell' = true) : v.cells = #[v] := by
  cases v <;> simp_all [Value.oneCell', Value.cells]

section
variable {P : Program} {T : TT} {B : Base} {s : St} {tmps : Array Value} {w : World} {ι : Plc}

theorem single_one {S : Nat → Prop} {σ : Nat → Option Sum} {a : AV} {v : Value} (h : a.single = true) (hr : AVRep w S σ a v) : v.oneCell' = true := by
  cases a with
  | undef => simp [AV.single] at h
  | dat t x => exact DCells.one t x [v] hr v (by simp)
  | nils => obtain ⟨a, rfl⟩ := hr; rfl
  | slc g =>
    obtain ⟨q, _, hw⟩ := hr
    unfold WinAt at hw
    split at hw
    · obtain ⟨_, rfl | ⟨_, a, rfl⟩⟩ := hw <;> rfl
    · obtain ⟨_, _, a, rfl⟩ := hw; rfl
  | win g o l =>
    obtain ⟨q, _, _, hw⟩ := hr
    unfold WinAt at hw
    split at hw
    · obtain ⟨_, rfl | ⟨_, a, rfl⟩⟩ := hw <;> rfl
    · obtain ⟨_, _, a, rfl⟩ := hw; rfl
  | ptr g o => obtain ⟨_, _, _, _, _, _, rfl⟩ := hr; rfl
  | elt g i o => obtain ⟨_, _, _, _, _, _, _, rfl⟩ := hr; rfl
  | relt t x o => obtain ⟨_, _, _, rfl, _⟩ := hr; rfl
  | tab t x => simp [AV.single] at h
  | agg cs => simp [AV.single] at h
  | tup cs => simp [AV.single] at h
  | fn f a b => obtain ⟨_, _, rfl, _⟩ := hr; rfl
  | raw u =>
    have e : v = u := hr
    subst e
    simp only [AV.single] at h
    split at h <;> first | rfl | cases h

theorem toDat_rep {S : Nat → Prop} {σ : Nat → Option Sum} {u : Ty} {a : AV} {x : u.den} {v : Value} (h : toDat u a = some x) (hr : AVRep w S σ a v) : DCells w S u x [v] := by
  cases a with
  | dat t y =>
    simp only [toDat, castD] at h
    split at h
    · rename_i e; subst e; simp at h; subst h; exact hr
    · cases h
  | nils =>
    simp only [toDat] at h
    cases u <;> simp at h
    subst h
    obtain ⟨a, rfl⟩ := hr
    exact ⟨a, 0, rfl, Nat.le_refl _, .inl rfl⟩
  | _ => simp [toDat] at h

theorem list_cells {S : Nat → Prop} {σ : Nat → Option Sum} : ∀ {cs : List AV} {vs : List Value}, AVsRep w S σ cs vs → cs.all AV.single = true → ∀ v ∈ vs, v.oneCell' = true
  | [], vs, h, _, v, hv => by simp only [AVsRep] at h; subst h; cases hv
  | a :: r, _, ⟨u, ur, e, h1, h2⟩, ha, v, hv => by
    subst e
    simp only [List.all_cons, Bool.and_eq_true] at ha
    rcases List.mem_cons.1 hv with rfl | hv
    · exact single_one ha.1 h1
    · exact list_cells h2 ha.2 v hv

theorem refs_good (hI : Inv B s tmps w ι) {a : AV} {v : Value} (hr : AVRep w (dst B.D w ι s.heap) (sumOf ι s.heap) a v) : ∀ g, a.refs g = true → ∃ r0, s.heap[g]? = some (some r0) :=
  fun g hg => by obtain ⟨q, hq⟩ := AVRep.refs_some a v g hr hg; exact sumOf_some hq

theorem refsL_good (hI : Inv B s tmps w ι) {a : List AV} {v : List Value} (hr : AVsRep w (dst B.D w ι s.heap) (sumOf ι s.heap) a v) : ∀ g, refsL a g = true → ∃ r0, s.heap[g]? = some (some r0) :=
  fun g hg => by obtain ⟨q, hq⟩ := AVsRep.refs_some a v g hr hg; exact sumOf_some hq

theorem run_storeVar {t : TypeId} {ti : TI} (hti : TIOk P t ti) {v : Value} {b o : Nat} {cur : Array Value} {e : TypeId} (hb : w.heap[b]? = some (.cells cur e (0, 0)))
    (hs : v.cells.size = ti.size) (hf : o + v.cells.size ≤ cur.size) (h1 : ∀ x ∈ v.cells.toList, x.oneCell' = true) :
    (storeVar t ⟨b, o, none⟩ v).run P w = .ok () (w.setRow b (cur.toList.take o ++ v.cells.toList ++ cur.toList.drop (o + v.cells.toList.length)).toArray) := by
  have := run_storeCells_at P b o e v.cells.toList 0 cur w hb (by simpa using hf) h1
  simp only [Nat.add_zero] at this
  simp [storeVar, Sem.run_bind, run_sizeOf hti, hs, this]

theorem astore_ok (hT : TOk P T) (hI : Inv B s tmps w ι) {β : Type} {t : TypeId} {p v : AV} {K : St → Option β} {r : β} (h : astore (optAlg β) T s t p v K = some r) {vp vv : Value}
    (hp : AVRep w (dst B.D w ι s.heap) (sumOf ι s.heap) p vp) (hv : AVRep w (dst B.D w ι s.heap) (sumOf ι s.heap) v vv) :
    ∃ s' w' ι', K s' = some r ∧ Inv B s' tmps w' ι' ∧ (Instr.storeAt t vp vv).run P w = .ok () w' := by
  unfold astore at h
  split at h
  · cases h
  · rename_i ti hti
    have hti := hT t ti hti
    split at h
    · split at h
      · rename_i g off new
        split at h
        · rename_i cs hrow
          have hr := row_eq hrow
          split at h
          · rename_i hc
            obtain ⟨hc1, hc0, hc2, hc3⟩ := hc
            obtain ⟨q, b, o, c, hq, hpl, rfl⟩ := hp
            have hs := sumOf_of (ι := ι) hr
            rw [hq] at hs
            have hs := Option.some.inj hs
            subst hs
            obtain ⟨b', o', c', cur, e, he, hb, hall⟩ := hI.hrep.rows g _ hr
            simp only at hpl
            rw [hpl] at he
            cases he
            obtain ⟨vs, rfl, hvs⟩ := hv
            have hvl := hvs.length
            have hcells : (Value.agg vs.toArray).cells.toList = vs := rfl
            have hsz : (Value.agg vs.toArray).cells.size = vs.length := by simp [Value.cells]
            have hcur : ∀ j, j < cs.length → o + j < cur.size := fun j hj => by
              obtain ⟨u, hu, _⟩ := hall j cs[j] (by simp [hj])
              exact (Array.getElem?_eq_some_iff.1 hu).1
            have hfit : o + off + vs.length ≤ cur.size := by
              have := hcur (off + vs.length - 1) (by omega); omega
            have h1 := list_cells hvs hc3
            have hrun := run_storeVar (v := .agg vs.toArray) (o := o + off) hti hb (by rw [hsz]; omega) (by rw [hsz]; exact hfit) (by rw [hcells]; exact h1)
            rw [hcells] at hrun
            have hgd := refsL_good hI hvs
            refine ⟨_, _, _, h, hI.write hr (.box (overwrite cs off new)) rfl (by simp [Row.len, overwrite]; omega) hpl hb (cur.toList.take (o + off) ++ vs ++ cur.toList.drop (o + off + vs.length)).toArray ?_, ?_⟩
            · intro ht
              refine ⟨b, o, c, _, e, rfl, setRow_heap w b cur _ e _ hb, fun j a hj => ?_⟩
              have hget : ∀ m, (cur.toList.take (o + off) ++ vs ++ cur.toList.drop (o + off + vs.length)).toArray[m]? = if o + off ≤ m ∧ m < o + off + vs.length then vs[m - (o + off)]? else cur[m]? := by
                intro m
                have := splice_get cur.toList (o + off) vs (by simpa using hfit) m
                rw [List.getElem?_toArray, this]
                simp
              unfold overwrite at hj
              rw [splice_get cs off new hc2 j] at hj
              split at hj
              · rename_i hjr
                obtain ⟨z, hz, hzr⟩ := hvs.get _ _ _ a hj
                refine ⟨z, by rw [hget, if_pos (by omega)]; rw [← hz]; congr 1; omega, h1 z (List.mem_of_getElem? hz), ht.av (fun x hx => hgd x (refsL_get hj hx)) hzr⟩
              · rename_i hjr
                obtain ⟨z, hz, hz1, hzr⟩ := hall j a hj
                refine ⟨z, by rw [hget, if_neg (by omega)]; exact hz, hz1, ht.av (fun x hx => ?_) hzr⟩
                obtain ⟨q, hq⟩ := AVRep.refs_some a z x hzr hx
                exact sumOf_some hq
            · simpa [Instr.storeAt, Instr.sureAddr, Sem.run_bind] using hrun
          · cases h
        · cases h
      · cases h
    · split at h
      · rename_i hst hsz1
        split at h
        · rename_i g i
          split at h
          · rename_i u xs hrow
            have hr := row_eq hrow
            split at h
            · rename_i x hx
              split at h
              · rename_i hu1
                obtain ⟨q, b, o, c, hq, hpl, hlt, rfl⟩ := hp
                have hq' := sum_of_row hr hq
                subst hq'
                simp only at hpl hlt
                have hrr := hI.hrep.rows g _ hr
                rw [hpl] at hrr
                obtain ⟨cur, e, hb, hcs, hxc, hcm, hseq⟩ := hrr
                have hd := toDat_rep hx hv
                have h1 := DCells.one u x [vv] hd vv (by simp)
                have hcell := oneCell_cells h1
                have hfit : o + i * u.cells + 1 ≤ cur.size := by rw [hcs, hu1]; omega
                have hrun := run_storeVar (v := vv) (o := o + i * u.cells + 0) hti hb (by rw [hcell]; simp [hsz1]) (by rw [hcell]; simpa using hfit) (by rw [hcell]; simpa using h1)
                rw [hcell] at hrun
                refine ⟨_, _, _, h, hI.write hr (.seq u (xs.set i x)) rfl (by simp [Row.len]) hpl hb (cur.toList.take (o + i * u.cells) ++ [vv] ++ cur.toList.drop (o + i * u.cells + 1)).toArray ?_, ?_⟩
                · intro ht
                  refine ⟨_, e, setRow_heap w b cur _ e _ hb, ?_, by simpa using hxc, hcm, ?_⟩
                  · simp; omega
                  · intro j y hy
                    rw [List.getElem?_set] at hy
                    have hget : ∀ m, (cur.toList.take (o + i * u.cells) ++ [vv] ++ cur.toList.drop (o + i * u.cells + 1)).toArray[m]? = if m = o + i * u.cells then some vv else cur[m]? := by
                      intro m
                      have := splice_get cur.toList (o + i * u.cells) [vv] (by simpa using hfit) m
                      simp only [List.length_singleton] at this
                      rw [List.getElem?_toArray, this]
                      by_cases hm : m = o + i * u.cells
                      · subst hm; simp
                      · rw [if_neg (by omega), if_neg hm]; simp
                    split at hy
                    · rename_i hij
                      subst hij
                      have hy := Option.some.inj hy
                      subst hy
                      refine ⟨[vv], ht.dat hd, fun m z hz => ?_⟩
                      have hm0 : m = 0 := by
                        have := (List.getElem?_eq_some_iff.1 hz).1
                        simp at this
                        exact this
                      subst hm0
                      rw [hget, if_pos (by omega)]; simpa using hz
                    · rename_i hij
                      obtain ⟨cs, hd', hc'⟩ := hseq j y hy
                      refine ⟨cs, ht.dat hd', fun m z hz => ?_⟩
                      have hcl := DCells.length _ _ _ hd'
                      have hm : m = 0 := by have := (List.getElem?_eq_some_iff.1 hz).1; omega
                      subst hm
                      rw [hget, if_neg (by rw [hu1]; omega)]
                      exact hc' 0 z hz
                · simp only [Row.cells] at hrun ⊢
                  simpa [Instr.storeAt, Instr.sureAddr, Sem.run_bind] using hrun
              · cases h
            · cases h
          · cases h
        · rename_i g off
          split at h
          · rename_i cs hrow
            have hr := row_eq hrow
            split at h
            · rename_i hc
              obtain ⟨hsg, hoff⟩ := hc
              obtain ⟨q, b, o, c, hq, hpl, rfl⟩ := hp
              have hs := sumOf_of (ι := ι) hr
              rw [hq] at hs
              have hs := Option.some.inj hs
              subst hs
              obtain ⟨b', o', c', cur, e, he, hb, hall⟩ := hI.hrep.rows g _ hr
              simp only at hpl
              rw [hpl] at he
              cases he
              have h1 := single_one hsg hv
              have hcell := oneCell_cells h1
              obtain ⟨u0, hu0, _⟩ := hall off cs[off] (by simp [hoff])
              have hfit : o + off + 1 ≤ cur.size := (Array.getElem?_eq_some_iff.1 hu0).1
              have hrun := run_storeVar (v := vv) (o := o + off) hti hb (by rw [hcell]; simp [hsz1]) (by rw [hcell]; simpa using hfit) (by rw [hcell]; simpa using h1)
              rw [hcell] at hrun
              have hgd := refs_good hI hv
              refine ⟨_, _, _, h, hI.write hr (.box (cs.set off v)) rfl (by simp [Row.len]) hpl hb (cur.toList.take (o + off) ++ [vv] ++ cur.toList.drop (o + off + 1)).toArray ?_, ?_⟩
              · intro ht
                refine ⟨b, o, c, _, e, rfl, setRow_heap w b cur _ e _ hb, fun j a hj => ?_⟩
                have hget : ∀ m, (cur.toList.take (o + off) ++ [vv] ++ cur.toList.drop (o + off + 1)).toArray[m]? = if m = o + off then some vv else cur[m]? := by
                  intro m
                  have := splice_get cur.toList (o + off) [vv] (by simpa using hfit) m
                  simp only [List.length_singleton] at this
                  rw [List.getElem?_toArray, this]
                  by_cases hm : m = o + off
                  · subst hm; simp
                  · rw [if_neg (by omega), if_neg hm]; simp
                rw [List.getElem?_set] at hj
                split at hj
                · rename_i hij
                  subst hij
                  simp at hj
                  subst hj
                  exact ⟨vv, by rw [hget]; simp, h1, ht.av hgd hv⟩
                · rename_i hij
                  obtain ⟨z, hz, hz1, hzr⟩ := hall j a hj
                  refine ⟨z, by rw [hget, if_neg (by omega)]; exact hz, hz1, ht.av (fun x hx => ?_) hzr⟩
                  obtain ⟨q, hq⟩ := AVRep.refs_some a z x hzr hx
                  exact sumOf_some hq
              · simpa [Instr.storeAt, Instr.sureAddr, Sem.run_bind] using hrun
            · cases h
          · cases h
        · cases h
      · cases h

end
end Go.Rv
