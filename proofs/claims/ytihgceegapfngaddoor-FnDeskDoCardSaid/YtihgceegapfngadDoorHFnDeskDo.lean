/-
  Plain mathematics of what the law reaches. Conditions: none.
-/
import Derived.Test.YtihgceegapfngadDoorHFnDeskDoa
set_option linter.unusedVariables false
set_option linter.unusedSimpArgs false
namespace Go.Rv
theorem cloneI_eq (x : List Int) (h : x.length ≤ 1099511627776) : N2y x = some x := by
  unfold N2y cloneD
  rw [if_pos h]
theorem cloneII_eq (x : List (List Int)) (h : x.length ≤ 1099511627776) : Nd5 x = some x := by
  unfold Nd5 cloneD
  rw [if_pos h]
theorem implNewDesk_eq (n : List Int) (p : List (List Int)) (hn : n.length ≤ 1048576) (hp : p.length ≤ 1048576) (hs : ∀ x ∈ p,x.length ≤ 1048576) : Nd n p = some (n,p) := by
  have e : Nd n p = Nf9 n p := by unfold Nd; rfl
  rw [e]
  unfold Nf9 N8q Ngw Nht N7n Njd Nkm N6q
  rw [cloneI_eq n (by omega)]
  simp only [Option.bind_some]
  have w : ∀ k : Nat,k < p.length → IntKind.wrap .i64 ((k : Int) + 1) = ((k + 1 : Nat) : Int) := fun k hk => by rw [wrap64 (by omega) (by omega)]; omega
  have L := nloop_to (body := fun (s : Int × (List (List Int))) => ((N4t p ((p.length : Nat) : Int) s.1 s.2).map (Sum.elim (fun (t : Int × (List (List Int))) => Sum.inl (t.1,t.2)) (fun (t : (List (List Int))) => Sum.inr t)) : Option ((Int × (List (List Int))) ⊕ (((List (List Int)))))))
    (fun k => ((k : Int),p.take k)) p.length p
    (fun k hk => by
      have lt : (p.take k).length = k := by rw [List.length_take]; omega
      unfold N4t
      simp only
      rw [decide_eq_true (show (k : Int) < ((p.length : Nat) : Int) by omega),idx_lt hk]
      simp only [cond_true,Option.bind_some]
      rw [cloneI_eq _ (by have := hs _ (List.getElem_mem hk); omega),Option.bind_some,room_le (by omega)]
      simp only [Option.bind_some,w k hk,lt]
      have : (p.take k ++ [[]]).set k p[k] = p.take (k + 1) := by
        rw [List.take_succ_eq_append_getElem hk,List.set_append,if_neg (by omega),lt,Nat.sub_self]
        rfl
      rw [this]
      rfl)
    (by
      unfold N4t
      simp only
      rw [decide_eq_false (show ¬ ((p.length : Nat) : Int) < ((p.length : Nat) : Int) by omega),List.take_length]
      rfl) LL (by simp only [LL]; omega)
  have L' : nloop _ LL ((0 : Int),([] : List (List Int))) = _ := L
  rw [L']
  rfl
theorem implDeskOk_eq (n : List Int) (p : List (List Int)) : Nx n p = some (okDk (n,p)) := by
  have e : Nx n p = Nbv n p := by unfold Nx; rfl
  rw [e]
  unfold Nbv N6i okDk
  rw [implTree_eq,Option.bind_some]
  cases treeB n with
  | false => simp
  | true =>
    simp only [Bool.not_true,cond_false,Bool.true_and]
    by_cases c : p.length ≤ 8
    · rw [decide_eq_false (show ¬ ((p.length : Nat) : Int) > 8 by omega),decide_eq_true c,Bool.and_true]
      simp only [cond_false,Option.bind_some,Sum.elim_inl]
      unfold Nje Nfs N6j Ngz Ng0
      have w : ∀ k : Nat,k < p.length → IntKind.wrap .i64 ((k : Int) + 1) = ((k + 1 : Nat) : Int) := fun k hk => by rw [wrap64 (by omega) (by omega)]; omega
      have L := nloop_while (body := fun (s : Int) => ((N2k p ((p.length : Nat) : Int) s).map (Sum.elim (fun (t : Int) => Sum.inl t) (Sum.elim (fun (t : Bool) => Sum.inr (Sum.inl t)) (fun (t : Unit) => Sum.inr (Sum.inr t)))) : Option ((Int) ⊕ (Bool ⊕ Unit))))
        (fun k => (k : Int)) p.length (fun k => treeB (p.getD k [])) (fun b => cond b (Sum.inr ()) (Sum.inl false))
        (fun k hk t => by
          rw [List.getD_eq_getElem?_getD,List.getElem?_eq_getElem hk,Option.getD_some] at t
          unfold N2k
          rw [decide_eq_true (show (k : Int) < ((p.length : Nat) : Int) by omega),idx_lt hk]
          simp only [cond_true,Option.bind_some,implTree_eq,t,Bool.not_true,cond_false,w k hk]
          rfl)
        (fun k hk t => by
          rw [List.getD_eq_getElem?_getD,List.getElem?_eq_getElem hk,Option.getD_some] at t
          unfold N2k
          rw [decide_eq_true (show (k : Int) < ((p.length : Nat) : Int) by omega),idx_lt hk]
          simp only [cond_true,Option.bind_some,implTree_eq,t,Bool.not_false,cond_true]
          rfl)
        (by
          unfold N2k
          rw [decide_eq_false (show ¬ ((p.length : Nat) : Int) < ((p.length : Nat) : Int) by omega)]
          rfl) LL (by simp only [LL]; omega)
      have L' : nloop _ LL (0 : Int) = _ := L
      simp only [Option.bind_some]
      rw [L']
      have ea : (List.range p.length).all (fun k => treeB (p.getD k [])) = p.all treeB := by
        rw [Bool.eq_iff_iff,List.all_eq_true,List.all_eq_true]
        constructor
        · intro h x hx
          obtain ⟨k,hk,rfl⟩ := List.getElem_of_mem hx
          have := h k (List.mem_range.mpr hk)
          rwa [List.getD_eq_getElem?_getD,List.getElem?_eq_getElem hk,Option.getD_some] at this
        · intro h k hk
          have hk := List.mem_range.mp hk
          rw [List.getD_eq_getElem?_getD,List.getElem?_eq_getElem hk,Option.getD_some]
          exact h _ (List.getElem_mem hk)
      rw [ea]
      cases p.all treeB <;> rfl
    · rw [decide_eq_true (show ((p.length : Nat) : Int) > 8 by omega),decide_eq_false c,Bool.and_false]
      rfl
theorem treeB_nil : treeB [] = false := by decide
def restB (k x y : Int) : Bool := (((k == 0) || (k == 1)) || (x == 0)) && ((k == 0) || (y == 0))
theorem implRest_eq (k x y : Int) : N4k k x y = some (restB k x y) := by
  unfold N4k N8u N5h N7r restB
  cases k == 0 <;> cases k == 1 <;> cases x == 0 <;> cases y == 0 <;> rfl
theorem implChangedBy_eq {h : List Int} (t : treeB h = true) (k x y : Int) (r : restB k x y = true) : N2l h k x y = some (madeDk h (k,x,y,())) := by
  obtain ⟨l1,l8⟩ := tree_len t
  have e : N2l h k x y = N55 h k x y := by unfold N2l; rfl
  rw [e]
  unfold N55 madeDk kindB
  unfold restB at r
  cases k0 : k == 0 with
  | true =>
    have k1 : (k == 1) = false := by rw [eq_of_beq k0]; rfl
    have k2 : (k == 2) = false := by rw [eq_of_beq k0]; rfl
    have k3 : (k == 3) = false := by rw [eq_of_beq k0]; rfl
    have k4 : (k == 4) = false := by rw [eq_of_beq k0]; rfl
    simp only [cond_true,wordOk_eq,Option.bind_some,k1,k2,k3,k4,Bool.true_and,Bool.false_and,wordB,t]
    cases c : decide (1 ≤ x) && decide (x ≤ ((h.length : Nat) : Int)) with
    | false => simp [c]
    | true =>
      have c' := c
      rw [Bool.and_eq_true,decide_eq_true_iff,decide_eq_true_iff] at c'
      have w : IntKind.wrap .i64 (x - 1) = (((x - 1).toNat : Nat) : Int) := by rw [wrap64 (by omega) (by omega)]; omega
      simp only [Bool.true_and,c,Bool.not_true,cond_false,cloneI_eq h (by omega),Option.bind_some,w,inb_nat (show (x - 1).toNat < h.length by omega)]
      rfl
  | false =>
    rw [k0] at r
    simp only [Bool.false_or] at r
    rw [Bool.and_eq_true] at r
    have y0 := r.2
    cases k1 : k == 1 with
    | true =>
      simp only [cond_false,cond_true,cloneI_eq h (by omega),Option.bind_some,y0,Bool.false_and,Bool.true_and,if_neg (show ¬ false = true by simp)]
      rw [room_le (by simp only [List.length_cons,List.length_nil]; omega)]
      rfl
    | false =>
      rw [k1,Bool.false_or] at r
      have x0 := r.1
      simp only [cond_false,x0,y0,Bool.false_and,Bool.true_and,Bool.and_true,if_neg (show ¬ false = true by simp)]
      cases k2 : k == 2 with
      | true =>
        have w : IntKind.wrap .i64 ((((h.length : Nat) : Int)) - 1) = ((h.length - 1 : Nat) : Int) := by rw [wrap64 (by omega) (by omega)]; omega
        have i : inc ((h.length - 1 : Nat) : Int) h.length = some (h.length - 1) := by unfold inc; rw [if_pos (by omega)]; simp
        simp only [cond_true,w,i,Option.bind_some,List.drop_zero]
        rw [cloneI_eq _ (by rw [List.length_take]; omega),Option.bind_some,List.dropLast_eq_take]
        rfl
      | false =>
        cases k3 : k == 3 with
        | true =>
          simp only [cond_false,cond_true,implBack_eq,Option.bind_some]
          rfl
        | false =>
          cases k4 : k == 4 with
          | true =>
            simp only [cond_false,cond_true,implMade_eq,Option.bind_some]
            rfl
          | false => rfl
theorem made_rest {h : List Int} {k x y : Int} (r : restB k x y = false) : madeDk h (k,x,y,()) = [] := by
  unfold madeDk kindB
  unfold restB at r
  simp only [Bool.and_true]
  cases k0 : k == 0 with
  | true => rw [k0] at r; simp at r
  | false =>
    cases k1 : k == 1 <;> cases x0 : x == 0 <;> cases y0 : y == 0 <;> simp_all
theorem equal_eq (x y : List Int) (hx : x.length ≤ 1048576) : N39 x y = some (x == y) := by
  have e : N39 x y = Ncp x y := by unfold N39; rfl
  rw [e]
  unfold Ncp N8a
  by_cases c : x.length = y.length
  · have b : ((((x.length : Nat) : Int)) != (((y.length : Nat) : Int))) = false := by rw [c]; simp
    rw [b]
    simp only [cond_false,Option.bind_some,Sum.elim_inl]
    unfold Nhb Nie N8o Njy Ngn
    have w : ∀ k : Nat,k < x.length → IntKind.wrap .i64 ((k : Int) + 1) = ((k + 1 : Nat) : Int) := fun k hk => by rw [wrap64 (by omega) (by omega)]; omega
    have L := nloop_while (body := fun (s : Int) => ((N2g x y ((x.length : Nat) : Int) s).map (Sum.elim (fun (t : Int) => Sum.inl t) (Sum.elim (fun (t : Bool) => Sum.inr (Sum.inl t)) (fun (t : Unit) => Sum.inr (Sum.inr t)))) : Option ((Int) ⊕ (Bool ⊕ Unit))))
      (fun k => (k : Int)) x.length (fun k => x.getD k 0 == y.getD k 0) (fun b => cond b (Sum.inr ()) (Sum.inl false))
      (fun k hk t => by
        rw [List.getD_eq_getElem?_getD,List.getElem?_eq_getElem hk,Option.getD_some,List.getD_eq_getElem?_getD,List.getElem?_eq_getElem (show k < y.length by omega),Option.getD_some] at t
        unfold N2g
        rw [decide_eq_true (show (k : Int) < ((x.length : Nat) : Int) by omega),idx_lt hk,Option.bind_some,idx_lt (show k < y.length by omega),Option.bind_some]
        rw [show (x[k] != y[k]'(by omega)) = false by unfold bne; rw [t]; rfl]
        simp only [cond_true,cond_false,w k hk]
        rfl)
      (fun k hk t => by
        rw [List.getD_eq_getElem?_getD,List.getElem?_eq_getElem hk,Option.getD_some,List.getD_eq_getElem?_getD,List.getElem?_eq_getElem (show k < y.length by omega),Option.getD_some] at t
        unfold N2g
        rw [decide_eq_true (show (k : Int) < ((x.length : Nat) : Int) by omega),idx_lt hk,Option.bind_some,idx_lt (show k < y.length by omega),Option.bind_some]
        rw [show (x[k] != y[k]'(by omega)) = true by unfold bne; rw [t]; rfl]
        rfl)
      (by
        unfold N2g
        rw [decide_eq_false (show ¬ ((x.length : Nat) : Int) < ((x.length : Nat) : Int) by omega)]
        rfl) LL (by simp only [LL]; omega)
    have L' : nloop _ LL (0 : Int) = _ := L
    simp only [Option.bind_some]
    rw [L']
    have ea : (List.range x.length).all (fun k => x.getD k 0 == y.getD k 0) = (x == y) := by
      rw [Bool.eq_iff_iff,List.all_eq_true,beq_iff_eq]
      constructor
      · intro h
        refine List.ext_getElem c fun k hk hk' => ?_
        have := h k (List.mem_range.mpr hk)
        rw [List.getD_eq_getElem?_getD,List.getElem?_eq_getElem hk,Option.getD_some,List.getD_eq_getElem?_getD,List.getElem?_eq_getElem hk',Option.getD_some] at this
        exact eq_of_beq this
      · rintro rfl k hk
        exact beq_self_eq_true _
    rw [ea]
    cases x == y <;> rfl
  · have b : ((((x.length : Nat) : Int)) != (((y.length : Nat) : Int))) = true := by
      rw [bne_iff_ne]
      omega
    rw [b,show (x == y) = false from beq_eq_false_iff_ne.mpr (fun e => c (by rw [e]))]
    rfl
theorem implChanged_eq {n : List Int} {p : List (List Int)} (o : okDk (n,p) = true) (k x y : Int) (r : restB k x y = true) (k5 : kindB (k,x,y,()) 5 = false) : N2t n p k x y = some (doDk (n,p) (k,x,y,())) := by
  obtain ⟨t,l8,ts⟩ := okDk_and o
  simp only at t l8 ts
  obtain ⟨n1,n8⟩ := tree_len t
  have e : N2t n p k x y = N5n n p k x y := by unfold N2t; rfl
  have hs : ∀ z ∈ p,z.length ≤ 1048576 := fun z hz => by have := (tree_len (ts z hz)).2; omega
  rw [e]
  unfold N5n doDk
  rw [if_pos o,k5,Bool.false_and,if_neg (show ¬ false = true by simp),implChangedBy_eq t k x y r,Option.bind_some,implTree_eq,Option.bind_some]
  cases tm : treeB (madeDk n (k,x,y,())) with
  | false =>
    simp only [Bool.not_false,cond_true,implNewDesk_eq n p (by omega) (by omega) hs,Option.bind_some,Bool.or_true,if_pos]
  | true =>
    obtain ⟨m1,m8⟩ := tree_len tm
    simp only [Bool.not_true,cond_false,equal_eq _ n (show (madeDk n (k,x,y,())).length ≤ 1048576 by omega),Option.bind_some,Bool.or_false]
    cases madeDk n (k,x,y,()) == n with
    | true => simp only [cond_true,implNewDesk_eq n p (by omega) (by omega) hs,Option.bind_some,if_pos]
    | false =>
      simp only [cond_false,cloneII_eq p (by omega),Option.bind_some,if_neg (show ¬ false = true by simp)]
      rw [room_le (by simp only [List.length_cons,List.length_nil]; omega),Option.bind_some]
      have la : (p ++ [n]).length = p.length + 1 := by simp
      have w : IntKind.wrap .i64 ((((p ++ [n]).length : Nat) : Int) - 8) = (p.length : Int) - 7 := by rw [la,wrap64 (by omega) (by omega)]; omega
      have hs2 : ∀ z ∈ p ++ [n],z.length ≤ 1048576 := fun z hz => by
        rcases List.mem_append.1 hz with hz | hz
        · exact hs z hz
        · rw [List.mem_singleton.1 hz]; omega
      rw [w]
      unfold pushDk
      by_cases c : p.length < 8
      · have i : inc (imax 0 ((p.length : Int) - 7)) (p ++ [n]).length = some 0 := by
          have : imax 0 ((p.length : Int) - 7) = 0 := by unfold imax; split <;> omega
          rw [this]
          unfold inc
          rw [if_pos (by omega)]
          rfl
        rw [i,Option.bind_some,List.drop_zero,Nat.sub_zero,List.take_length,implNewDesk_eq _ _ (by omega) (by omega) hs2,Option.bind_some,if_pos c]
      · have i : inc (imax 0 ((p.length : Int) - 7)) (p ++ [n]).length = some 1 := by
          have : imax 0 ((p.length : Int) - 7) = 1 := by unfold imax; split <;> omega
          rw [this]
          unfold inc
          rw [if_pos (by omega)]
          rfl
        have tk : ((p ++ [n]).drop 1).take ((p ++ [n]).length - 1) = (p ++ [n]).drop 1 := List.take_of_length_le (by rw [List.length_drop]; omega)
        rw [i,Option.bind_some,tk,implNewDesk_eq _ _ (by omega) (by rw [List.length_drop]; omega) (fun z hz => hs2 z (List.mem_of_mem_drop hz)),Option.bind_some,if_neg c]
theorem implPutBack_eq {n : List Int} {p : List (List Int)} (o : okDk (n,p) = true) (k x y : Int) (k5 : kindB (k,x,y,()) 5 = true) : N34 n p = some (doDk (n,p) (k,x,y,())) := by
  obtain ⟨t,l8,ts⟩ := okDk_and o
  simp only at t l8 ts
  obtain ⟨n1,n8⟩ := tree_len t
  have e : N34 n p = N50 n p := by unfold N34; rfl
  have hs : ∀ z ∈ p,z.length ≤ 1048576 := fun z hz => by have := (tree_len (ts z hz)).2; omega
  have km : madeDk n (k,x,y,()) = [] := by
    have k5 : k = 5 := by
      unfold kindB at k5
      rw [Bool.and_eq_true] at k5
      exact eq_of_beq k5.1
    subst k5
    rfl
  rw [e]
  unfold N50 doDk
  rw [if_pos o,k5,Bool.true_and,km]
  cases p with
  | nil =>
    have w : IntKind.wrap .i64 (((([] : List (List Int)).length : Nat) : Int) - 1) = -1 := by decide
    rw [w,implNewDesk_eq n [] (by omega) (by simp) (by simp)]
    simp [treeB_nil]
  | cons z p' =>
    have w : IntKind.wrap .i64 ((((z :: p').length : Nat) : Int) - 1) = (((z :: p').length - 1 : Nat) : Int) := by rw [wrap64 (by simp only [List.length_cons]; omega) (by omega)]; simp only [List.length_cons]; omega
    have i : inc (((z :: p').length - 1 : Nat) : Int) (z :: p').length = some ((z :: p').length - 1) := by unfold inc; rw [if_pos (by omega)]; simp
    rw [w,decide_eq_false (by omega),cond_false,idx_lt (by simp),Option.bind_some,i,Option.bind_some,List.drop_zero,implNewDesk_eq _ _ (hs _ (List.getElem_mem _)) (by rw [List.length_take]; omega) (fun q hq => hs q (List.mem_of_mem_take hq)),Option.bind_some]
    rw [← List.dropLast_eq_take]
    simp [List.getLastD_eq_getLast?,List.getLast?_eq_getElem?,List.getLast_eq_getElem]
theorem implDo_eq (n : List Int) (p : List (List Int)) (a : DeedL) : N1v n p a.1 a.2.1 a.2.2.1 = some (doDk (n,p) a) := by
  obtain ⟨k,x,y,u⟩ := a
  simp only
  have e : N1v n p k x y = N5o n p k x y := by unfold N1v; rfl
  rw [e]
  unfold N5o
  rw [implDeskOk_eq,Option.bind_some]
  cases o : okDk (n,p) with
  | false => rw [do_none _ o]; rfl
  | true =>
    obtain ⟨t,l8,ts⟩ := okDk_and o
    simp only at t l8 ts
    obtain ⟨n1,n8⟩ := tree_len t
    have hs : ∀ z ∈ p,z.length ≤ 1048576 := fun z hz => by have := (tree_len (ts z hz)).2; omega
    simp only [Bool.not_true,cond_false,implRest_eq,Option.bind_some]
    cases r : restB k x y with
    | false =>
      have k5 : kindB (k,x,y,u) 5 = false := by
        unfold kindB
        unfold restB at r
        show ((k == 5) && ((x == 0) && ((y == 0) && true))) = false
        cases k5 : k == 5 with
        | false => rfl
        | true =>
          have h0 : (k == 0) = false := by rw [eq_of_beq k5]; rfl
          have h1 : (k == 1) = false := by rw [eq_of_beq k5]; rfl
          rw [h0,h1] at r
          cases hx : x == 0 <;> cases hy : y == 0 <;> rw [hx,hy] at r <;> first | rfl | cases r
      have m := made_rest (h := n) r
      simp only [Bool.not_false,cond_true,implNewDesk_eq n p (by omega) (by omega) hs,Option.bind_some]
      unfold doDk
      rw [if_pos o,k5,Bool.false_and,if_neg (show ¬ false = true by simp),show madeDk n (k,x,y,u) = [] from m,treeB_nil,Bool.not_false,Bool.or_true,if_pos rfl]
    | true =>
      simp only [Bool.not_true,cond_false]
      cases k5 : k == 5 with
      | true =>
        have kb : kindB (k,x,y,()) 5 = true := by
          unfold kindB
          unfold restB at r
          have : k = 5 := eq_of_beq k5
          subst this
          simpa using r
        simp only [cond_true,implPutBack_eq o k x y kb,Option.bind_some]
      | false =>
        have kb : kindB (k,x,y,()) 5 = false := by unfold kindB; simp only [k5,Bool.false_and]
        simp only [cond_false,implChanged_eq o k x y r kb,Option.bind_some]
end Go.Rv
