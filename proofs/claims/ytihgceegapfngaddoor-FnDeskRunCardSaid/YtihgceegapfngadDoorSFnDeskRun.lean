/-
  The law FnDeskRun,in plain words: it is true of every argument. Conditions: what the program's DeskRun and DeskOk say.
-/
import Derived.Test.YtihgceegapfngadDoorHFnDeskRun
set_option linter.unusedVariables false
set_option linter.unusedSimpArgs false
namespace Go.Rv
theorem core_FnDeskRun (hI : ∀ n p l,n.length + szT p + l.length ≤ 1048576 → Nb n p l = some (runDI (n,p) l)) (hO : ∀ n p,n.length + szT p ≤ 1048576 → Nq n p = some (okDk (n,p)))
    (x : List Int) (w : ∀ n ∈ x,(Lit.int .u8 n).wf = true) (l : x.length ≤ maxLen) : N2v x = some true := by
  unfold N2v N7h
  by_cases c : ((x.length : Nat) : Int) > 1048576
  · rw [decide_eq_true c]
    rfl
  · rw [decide_eq_false c]
    obtain ⟨b,hb,hB⟩ := open_ok x w l
    obtain ⟨q,d,hq,qa,qb,sm⟩ := desk_ok hB 12 (by omega) (p := 0) (by omega) (by omega)
    obtain ⟨v,s,ho,sa,sb⟩ := odd_ok hB 30 (by omega) (p := q) (by omega) (by omega)
    obtain ⟨r,t,ht,_,_,t6⟩ := deeds_ok hB d.1 (by have := sm.1; omega) (p := s) (by omega) (by omega)
    have dr : ∃ u,N3b x = some (d.1,u,d.2) ∧ u.length ≤ 50 := by
      unfold N3b N69
      simp only [hb,hq,ho,Option.bind_some]
      cases v with
      | true => exact ⟨_,rfl,by decide⟩
      | false => simp only [cond_false,ht,Option.bind_some]; exact ⟨t,rfl,by omega⟩
    obtain ⟨u,hu,uz⟩ := dr
    have sz := small_sz sm
    have e1 := hI d.1 d.2 u (by omega)
    have e2 := specRunD_eq d u (by have := sm.2.1; omega)
    have e3 := specDeskOk_eq d.1 d.2 (by have := sm.2.1; omega)
    have e1' : Nb d.1 d.2 u = some (runDI d u) := e1
    have sr : Small (runDI d u).2 := by
      unfold runDI
      by_cases g : (okDk d && decide (u.length ≤ 40)) = true
      · rw [if_pos g]
        rw [Bool.and_eq_true] at g
        exact (small_ok (runDk_ok u g.1).1).1
      · rw [if_neg g]; exact ⟨by simp,by simp,by simp⟩
    have same := sameDesk_eq _ (runDI d u).2 sr
    rw [beq_self_eq_true] at same
    have e3' : Nx d.1 d.2 = some (okDk d) := e3
    simp only [cond_false,hu,Option.bind_some,e1',e2,e3',same,Bool.not_true,bne_self_eq_false,alive_eq]
    cases o : okDk d with
    | false =>
      have z : runDI d u = (0,[],[]) := by unfold runDI; rw [o]; rfl
      simp only [z,Bool.not_false,cond_true,noDesk_eq,Option.bind_some]
      rfl
    | true =>
      by_cases c40 : u.length ≤ 40
      · rw [decide_eq_false (show ¬ (((List.length u : Nat) : Int)) > 40 by omega)]
        simp only [Bool.not_true,cond_false]
        have qu : quo .i64 (((List.length u : Nat) : Int)) 2 = some ((u.length / 2 : Nat) : Int) := by
          obtain ⟨v,h1,h2,h3⟩ := quo_ok (a := ((List.length u : Nat) : Int)) (b := 2) (by omega) (by omega) (by omega)
          unfold quo at h1 ⊢
          rw [if_neg (by omega)] at h1 ⊢
          rw [wrap64 (by have := Int.tdiv_nonneg (show (0 : Int) ≤ ((List.length u : Nat) : Int) by omega) (show (0 : Int) ≤ 2 by omega); omega) (by
            have : (((List.length u : Nat) : Int)).tdiv 2 = ((u.length / 2 : Nat) : Int) := rfl
            omega)]
          rfl
        rw [qu,Option.bind_some]
        have ic : inc ((u.length / 2 : Nat) : Int) u.length = some (u.length / 2) := by rw [inc_ok (by omega) (by omega),Int.toNat_natCast]
        have two := runDk_two o c40 (u.length / 2)
        have i1 : Nb d.1 d.2 (u.take (u.length / 2)) = some (runDI d (u.take (u.length / 2))) := hI d.1 d.2 _ (by rw [List.length_take]; omega)
        have rz := runDk_sz d (u.take (u.length / 2))
        have i2 : Nb (runDI d (u.take (u.length / 2))).2.1 (runDI d (u.take (u.length / 2))).2.2 (u.drop (u.length / 2)) = some (runDI (runDI d (u.take (u.length / 2))).2 (u.drop (u.length / 2))) := hI _ _ _ (by rw [List.length_drop]; omega)
        have tk : (u.drop (u.length / 2)).take (u.length - u.length / 2) = u.drop (u.length / 2) := List.take_of_length_le (by rw [List.length_drop]; omega)
        have rz2 := runDk_sz d u
        have ok : Nq (runDI d u).2.1 (runDI d u).2.2 = some true := by
          rw [hO _ _ (by omega)]
          have : okDk (runDI d u).2 = true := by
            unfold runDI
            rw [o,decide_eq_true c40]
            exact (runDk_ok u o).1
          exact congrArg some this
        simp only [ic,Option.bind_some,List.drop_zero,Nat.sub_zero,i1,tk,i2,two,ok,cond_true,same]
        have n1 : 0 ≤ (runDI d (u.take (u.length / 2))).1 ∧ (runDI d (u.take (u.length / 2))).1 ≤ 40 ∧ 0 ≤ (runDI d u).1 ∧ (runDI d u).1 ≤ 40 := by
          have h1 : (u.take (u.length / 2)).length ≤ 40 := by rw [List.length_take]; omega
          have a1 : runDI d u = (((runDk d u).1 : Int),(runDk d u).2) := by unfold runDI; rw [o,decide_eq_true c40]; rfl
          have a2 : runDI d (u.take (u.length / 2)) = (((runDk d (u.take (u.length / 2))).1 : Int),(runDk d (u.take (u.length / 2))).2) := by unfold runDI; rw [o,decide_eq_true h1]; rfl
          have b1 := (runDk_ok u o).2
          have b2 := (runDk_ok (u.take (u.length / 2)) o).2
          rw [a1,a2]
          simp only
          omega
        rw [wrap64 (by omega) (by omega),show (runDI d (u.take (u.length / 2))).1 + ((runDI d u).1 - (runDI d (u.take (u.length / 2))).1) = (runDI d u).1 by omega,beq_self_eq_true]
      · have z : runDI d u = (0,[],[]) := by unfold runDI; rw [decide_eq_false c40,Bool.and_false]; rfl
        rw [decide_eq_true (show (((List.length u : Nat) : Int)) > 40 by omega)]
        simp only [z,Bool.not_true,cond_false,cond_true,noDesk_eq,Option.bind_some]
        rfl
theorem same_FnDeskRun (x : List Int) (w : ∀ n ∈ x,(Lit.int .u8 n).wf = true) (l : x.length ≤ maxLen) : N2v x = some true :=
  core_FnDeskRun (fun n p l _ => implDeskRun_eq n p l) (fun n p _ => implDeskOk_eq n p) x w l
end Go.Rv
