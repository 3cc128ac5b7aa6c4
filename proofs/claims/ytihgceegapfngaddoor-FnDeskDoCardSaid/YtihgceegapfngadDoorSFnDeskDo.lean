/-
  The law FnDeskDo,in plain words: it is true of every argument. Conditions: what the program's DeskDo,DeskOk,CrossingsOf and FlatOk say.
-/
import Derived.Test.YtihgceegapfngadDoorHFnDeskDo
set_option linter.unusedVariables false
set_option linter.unusedSimpArgs false
namespace Go.Rv
theorem core_FnDeskDo (hI : ∀ n p a,n.length + szT p ≤ 1048576 → N1v n p a.1 a.2.1 a.2.2.1 = some (doDk (n,p) a)) (hO : ∀ n p,n.length + szT p ≤ 1048576 → Nx n p = some (okDk (n,p)))
    (hC : ∀ h,N17 h = some (crossingsI h)) (hF : ∀ h,Nq h = some (flatI h)) (x : List Int) (w : ∀ n ∈ x,(Lit.int .u8 n).wf = true) (l : x.length ≤ maxLen) : N2w x = some true := by
  unfold N2w Nga N98
  by_cases c : ((x.length : Nat) : Int) > 1048576
  · rw [decide_eq_true c]
    rfl
  · rw [decide_eq_false c]
    obtain ⟨b,hb,hB⟩ := open_ok x w l
    obtain ⟨q,d,hq,qa,qb,sm⟩ := desk_ok hB 12 (by omega) (p := 0) (by omega) (by omega)
    obtain ⟨s,k,y,z,hs,_,_⟩ := deed_ok hB d.1 (by have := sm.1; omega) (p := q) (by omega) (by omega)
    have dr : N4c x = some (d.1,k,y,z,d.2) := by
      unfold N4c Na0
      simp only [hb,hq,hs,Option.bind_some]
    have sz := small_sz sm
    have e1 := hI d.1 d.2 (k,y,z,()) (by omega)
    have e2 := specDo_eq d.1 d.2 (k,y,z,()) (by have := sm.2.1; omega)
    have e3 := hO d.1 d.2 (by omega)
    simp only at e1 e2
    have sx : Small (doDk d (k,y,z,())).2 := by
      cases o : okDk d with
      | true => exact (small_ok (do_ok _ o)).1
      | false => rw [do_none _ o]; exact ⟨by simp,by simp,by simp⟩
    have sxz := small_sz sx
    have same := sameDesk_eq _ (doDk d (k,y,z,())).2 sx
    rw [beq_self_eq_true] at same
    simp only [cond_false,dr,Option.bind_some,e1,e2,e3,same,Bool.not_true,bne_self_eq_false,alive_eq]
    cases f : (doDk d (k,y,z,())).1 with
    | false =>
      simp only [Bool.not_false,cond_true]
      rw [sameDesk_eq _ d sx,Option.bind_some]
      cases o : okDk d with
      | true =>
        rw [do_not _ o f,beq_self_eq_true]
        rfl
      | false =>
        cases (doDk d (k,y,z,())).2 == d <;> rfl
    | true =>
      have o : okDk d = true := by
        cases o : okDk d with
        | true => rfl
        | false => rw [do_none _ o] at f; cases f
      have ox := do_ok (k,y,z,()) o
      have td := (okDk_and o).1
      have Td := (tree_iff _).mp td
      simp only [Bool.not_true,cond_false]
      have eb := hI (doDk d (k,y,z,())).2.1 (doDk d (k,y,z,())).2.2 (5,0,0,()) (by omega)
      simp only at eb
      rw [eb,Option.bind_some]
      have ex := hO (doDk d (k,y,z,())).2.1 (doDk d (k,y,z,())).2.2 (by omega)
      have ox' : okDk ((doDk d (k,y,z,())).2.1,(doDk d (k,y,z,())).2.2) = true := ox
      rw [ox'] at ex
      have last : ∀ m : Bool,m = true → N5t (doDk (doDk d (k,y,z,())).2 (5,0,0,())).1 m d.1 k d.2 (doDk d (k,y,z,())).2.1 (doDk d (k,y,z,())).2.2 (doDk (doDk d (k,y,z,())).2 (5,0,0,())).2.1 (doDk (doDk d (k,y,z,())).2 (5,0,0,())).2.2 = some true := by
        rintro m rfl
        unfold N5t
        rw [ex,Option.bind_some,cond_true]
        cases k5 : k == 5 with
        | true =>
          have : k = 5 := eq_of_beq k5
          subst this
          rfl
        | false =>
          have kb : kindB (k,y,z,()) 5 = false := by unfold kindB; simp only [k5,Bool.false_and]
          obtain ⟨mk,mt⟩ := do_made o f kb
          have flat : (cond (k != 4) (some true) ((Nq (doDk d (k,y,z,())).2.1).bind fun (v : Bool) => some v)) = some true := by
            cases k4 : k == 4 with
            | false => rw [show (k != 4) = true by unfold bne; rw [k4]; rfl]; rfl
            | true =>
              rw [show (k != 4) = false by unfold bne; rw [k4]; rfl,cond_false,hF,mk]
              have e4 := (made_kind mt).2 (eq_of_beq k4)
              rw [e4] at mt ⊢
              have mi : madeI d.1 = putRow d.1 (flatOI d.1) := by unfold madeI; rw [if_pos td]
              rw [mi] at mt ⊢
              unfold flatI
              rw [mt,flatB_iff.mpr (made_flat Td)]
              rfl
          simp only [cond_false,cond_true,flat]
          by_cases c8 : (((List.length d.2 : Nat) : Int)) ≥ 8
          · rw [decide_eq_true c8]
            rfl
          · rw [decide_eq_false c8]
            have bk := do_back o f kb (by omega)
            rw [bk]
            have sd := sameDesk_eq d d sm
            rw [beq_self_eq_true] at sd
            simp only [cond_false,cond_true,sd,Option.bind_some]
      cases k3 : k == 3 with
      | false =>
        rw [show (k != 3) = true by unfold bne; rw [k3]; rfl]
        simp only [cond_true,Option.bind_some,Sum.elim_inl]
        exact last true rfl
      | true =>
        rw [show (k != 3) = false by unfold bne; rw [k3]; rfl]
        have kk : k = 3 := eq_of_beq k3
        have kb : kindB (k,y,z,()) 5 = false := by unfold kindB; simp only [kk]; rfl
        obtain ⟨mk,mt⟩ := do_made o f kb
        have e3 := (made_kind mt).1 kk
        have bi : backI d.1 = backL d.1 := by unfold backI; rw [if_pos td]
        simp only [cond_false,hC,Option.bind_some,Sum.elim_inl]
        refine last _ ?_
        rw [mk,e3,bi]
        unfold crossingsI
        rw [back_treeB Td,td,back_cross Td]
        simp
theorem same_FnDeskDo (x : List Int) (w : ∀ n ∈ x,(Lit.int .u8 n).wf = true) (l : x.length ≤ maxLen) : N2w x = some true :=
  core_FnDeskDo (fun n p a _ => implDo_eq n p a) (fun n p _ => implDeskOk_eq n p) implCrossings_eq implFlat_eq x w l
end Go.Rv
