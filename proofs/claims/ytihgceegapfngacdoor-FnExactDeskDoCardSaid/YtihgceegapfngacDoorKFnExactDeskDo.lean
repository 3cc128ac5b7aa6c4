/-
  The checked code answers as the plain functions do; written by program. Conditions: none.
-/
import Derived.Test.YtihgceegapfngacDoorKFnExactDeskDoa
import Derived.Test.YtihgceegapfngacDoorProg
set_option linter.unusedVariables false
set_option linter.unusedSimpArgs false
set_option linter.defProp false
set_option maxRecDepth 100000
namespace Go.Rv
open Go.Proofs
def N1c : Ann := (.seq (.leaf [0,1]) (.seq (.seq (.leaf [0,1,10]) (.cond (.seq (.leaf [4]) (.leaf [4])) (.leaf [0,1]))) (.seq (.seq (.leaf [0,1,5]) (.block (.loop (.seq (.seq (.leaf [0,1,5,14]) (.cond (.leaf [0,1,5]) (.leaf []))) (.seq (.block (.seq (.draw [] [0,1,2,3,4,5,6,7,8] [] [0,1,5,25]) (.cond (.seq (.leaf [4]) (.leaf [4])) (.leaf [0,1,5])))) (.leaf [0,1,5])))))) (.seq (.leaf [4]) (.leaf [4])))))
noncomputable def N3a : Ctx := ⟨tlook tys,olook [],ioF,0,false,[]⟩
theorem Nqx (a b : List Int) : Link N3a LL (Code.seq (cq [0] (bodyOf Tryd.f32)) (cq [0,1] (bodyOf Tryd.f32))) (Ann.seq (aq [0] N1c) (aq [0,1] N1c)) ⟨mkE 26 0 [(0,dL a),(1,dL b)],[]⟩ (N5j a b) (Sum.elim (fun (t : Unit) => (Exit.normal,⟨mkE 26 0 [(0,dL a),(1,dL b)],[]⟩)) (fun (t : Bool) => (Exit.ret,⟨mkE 26 0 [(4,dB t)],[]⟩))) := .of fun K h => by
  simp only [N5j,wpW] at h
  exact .of (by kernel_rfl) h
theorem Npc (a b : List Int) : Link N3a LL (cq [0,0,1,1] (bodyOf Tryd.f32)) (aq [0,0,1,1] N1c) ⟨mkE 26 0 [(0,dL a),(1,dL b)],[]⟩ (N8t) (fun (t : Unit) => (Exit.normal,⟨mkE 26 0 [(0,dL a),(1,dL b),(5,dI 0)],[]⟩)) := .of fun K h => by
  simp only [N8t,wpW] at h
  exact .of (by kernel_rfl) h
theorem Noj (a b : List Int) (c : Int) : Link N3a LL (cq [0,0,1,0,1,1] (bodyOf Tryd.f32)) (aq [0,0,1,0,1,1] N1c) ⟨mkE 26 0 [(0,dL a),(1,dL b),(5,dI c)],[]⟩ (N41 a b c) (Sum.elim (fun (t : Int) => (Exit.normal,⟨mkE 26 0 [(0,dL a),(1,dL b),(5,dI t)],[]⟩)) (Sum.elim (fun (t : Bool) => (Exit.ret,⟨mkE 26 0 [(4,dB t)],[]⟩)) (fun (t : Unit) => ((Exit.exit 0),⟨mkE 26 0 [],[]⟩)))) := .of fun K h => by
  simp only [N41,wpW] at h
  exact .of (by kernel_rfl) h
theorem Nvb : Link N3a LL (cq [1,1,1] (bodyOf Tryd.f32)) (aq [1,1,1] N1c) ⟨mkE 26 0 [],[]⟩ (N6k) (fun (t : Bool) => (Exit.ret,⟨mkE 26 0 [(4,dB t)],[]⟩)) := .of fun K h => by
  simp only [N6k,wpW] at h
  exact .of (by kernel_rfl) h
theorem Nsi (b d : List Int) {r : AV} {H' : Heap} (h : (Ans.mk _ (N2c b d) (fun (t : Bool) => (dB t,[])) [] none).run = some (r,H')) : Awp N3a LL (bodyOf Tryd.f32) N1c ⟨mkE 26 0 [(0,dL b),(1,dL d)],[]⟩ (Ret (tlook tys) Tryd.f32.results.toList r H') :=
  ret_of' (Link.cast (by kernel_rfl) (by kernel_rfl) (link_group (c := (cq [0,1] (bodyOf Tryd.f32))) (a := (aq [0,1] N1c)) [(cq [0] (bodyOf Tryd.f32))] [(aq [0] N1c)] rfl (link_seq2 (Nqx b d) (fun (t : Unit) => (link_seq2 (link_seq (Npc b d) (fun (t : Unit) => (link_block (fin2 := (Sum.elim (fun (t : Unit) => (Exit.normal,⟨mkE 26 0 [],[]⟩)) (fun (t : Bool) => (Exit.ret,⟨mkE 26 0 [(4,dB t)],[]⟩)))) (id := 0) (link_loop (mk := fun (s : Int) => ⟨mkE 26 0 [(0,dL b),(1,dL d),(5,dI s)],[]⟩) (fin := (Sum.elim (fun (t : Bool) => (Exit.ret,⟨mkE 26 0 [(4,dB t)],[]⟩)) (fun (t : Unit) => ((Exit.exit 0),⟨mkE 26 0 [],[]⟩)))) (by
  rintro (t | t) f K h
  · exact h
  · exact h) (fun s => link_map (Noj b d s) (Sum.elim (fun (t : Int) => Sum.inl t) (Sum.elim (fun (t : Bool) => Sum.inr (Sum.inl t)) (fun (t : Unit) => Sum.inr (Sum.inr t)))) (by
  rintro (t | t | t)
  · kernel_rfl
  · kernel_rfl
  · kernel_rfl)) 0) (Sum.elim (fun (t : Bool) => (Sum.inr t)) (fun (t : Unit) => (Sum.inl ()))) (by
  rintro (t | t) K h
  · exact Eq.mp (by kernel_rfl) h
  · exact Eq.mp (by kernel_rfl) h)))) (fun (t : Unit) => (Nvb)) (fun (t : Bool) => t) (by
  rintro t
  · kernel_rfl) (by
  rintro t f K h
  · exact h))) (fun (t : Bool) => t) (by
  rintro t
  · kernel_rfl) (by
  rintro t f K h
  · exact h)))) (by unfold N2c; kernel_rfl) (by
  intro t
  exact ret_mk [dB t] (by kernel_rfl) (by kernel_rfl) (by kernel_rfl) (by kernel_rfl)) h
def N6q : Fun := fun avs H =>
  match avs,H with
  | [.dat (.list (.int .i64)) a,.dat (.list (.int .i64)) b],[] => ⟨_,N2c a b,fun (t : Bool) => (dB t,[]),[],none⟩
  | _,_ => Ans.no
theorem Ngs : Sound Tryd.prog 32 N6q := by
  refine fn_sound' (C := N3a) (c := bodyOf Tryd.f32) (cok_of tys_ok (alln) (alln) (by kernel_rfl)) Tryd.func32 (by kernel_rfl) LL N1c ?_
  intro avs H r H' h
  unfold N6q at h
  split at h
  · refine Awp.cast ?_ ?_ ?_ (Nsi _ _ h) <;> kernel_rfl
  · simp [Ans.no,Ans.run] at h

def Nw : Ann := (.seq (.leaf [0,1]) (.seq (.seq (.leaf [0,1,10]) (.cond (.seq (.leaf [4]) (.leaf [4])) (.leaf [0,1]))) (.seq (.seq (.leaf [0,1,5]) (.block (.loop (.seq (.seq (.leaf [0,1,5,14]) (.cond (.leaf [0,1,5]) (.leaf []))) (.seq (.block (.seq (.draw [8] [0,1,2,3,4,5,6,7,8,9] [] [0,1,5,26]) (.cond (.seq (.leaf [4]) (.leaf [4])) (.leaf [0,1,5])))) (.leaf [0,1,5])))))) (.seq (.leaf [4]) (.leaf [4])))))
noncomputable def N3w : Ctx := ⟨tlook tys,olook [(32,N6q)],ioF,0,false,[]⟩
theorem Nmg (a b : List (List Int)) : Link N3w LL (Code.seq (cq [0] (bodyOf Tryd.f33)) (cq [0,1] (bodyOf Tryd.f33))) (Ann.seq (aq [0] Nw) (aq [0,1] Nw)) ⟨mkE 27 0 [(0,.dat (.list (.list (.int .i64))) a),(1,.dat (.list (.list (.int .i64))) b)],[]⟩ (N5k a b) (Sum.elim (fun (t : Unit) => (Exit.normal,⟨mkE 27 0 [(0,.dat (.list (.list (.int .i64))) a),(1,.dat (.list (.list (.int .i64))) b)],[]⟩)) (fun (t : Bool) => (Exit.ret,⟨mkE 27 0 [(4,dB t)],[]⟩))) := .of fun K h => by
  simp only [N5k,wpW] at h
  exact .of (by kernel_rfl) h
theorem Nke (a b : List (List Int)) : Link N3w LL (cq [0,0,1,1] (bodyOf Tryd.f33)) (aq [0,0,1,1] Nw) ⟨mkE 27 0 [(0,.dat (.list (.list (.int .i64))) a),(1,.dat (.list (.list (.int .i64))) b)],[]⟩ (N58) (fun (t : Unit) => (Exit.normal,⟨mkE 27 0 [(0,.dat (.list (.list (.int .i64))) a),(1,.dat (.list (.list (.int .i64))) b),(5,dI 0)],[]⟩)) := .of fun K h => by
  simp only [N58,wpW] at h
  exact .of (by kernel_rfl) h
theorem Nul (a b : List (List Int)) (c : Int) : Link N3w LL (cq [0,0,1,0,1,1] (bodyOf Tryd.f33)) (aq [0,0,1,0,1,1] Nw) ⟨mkE 27 0 [(0,.dat (.list (.list (.int .i64))) a),(1,.dat (.list (.list (.int .i64))) b),(5,dI c)],[]⟩ (N46 a b c) (Sum.elim (fun (t : Int) => (Exit.normal,⟨mkE 27 0 [(0,.dat (.list (.list (.int .i64))) a),(1,.dat (.list (.list (.int .i64))) b),(5,dI t)],[]⟩)) (Sum.elim (fun (t : Bool) => (Exit.ret,⟨mkE 27 0 [(4,dB t)],[]⟩)) (fun (t : Unit) => ((Exit.exit 0),⟨mkE 27 0 [],[]⟩)))) := .of fun K h => by
  simp only [N46,wpW] at h
  exact .of (by kernel_rfl) h
theorem Nr4 : Link N3w LL (cq [1,1,1] (bodyOf Tryd.f33)) (aq [1,1,1] Nw) ⟨mkE 27 0 [],[]⟩ (N5q) (fun (t : Bool) => (Exit.ret,⟨mkE 27 0 [(4,dB t)],[]⟩)) := .of fun K h => by
  simp only [N5q,wpW] at h
  exact .of (by kernel_rfl) h
theorem Nso (b d : List (List Int)) {r : AV} {H' : Heap} (h : (Ans.mk _ (N21 b d) (fun (t : Bool) => (dB t,[])) [] none).run = some (r,H')) : Awp N3w LL (bodyOf Tryd.f33) Nw ⟨mkE 27 0 [(0,.dat (.list (.list (.int .i64))) b),(1,.dat (.list (.list (.int .i64))) d)],[]⟩ (Ret (tlook tys) Tryd.f33.results.toList r H') :=
  ret_of' (Link.cast (by kernel_rfl) (by kernel_rfl) (link_group (c := (cq [0,1] (bodyOf Tryd.f33))) (a := (aq [0,1] Nw)) [(cq [0] (bodyOf Tryd.f33))] [(aq [0] Nw)] rfl (link_seq2 (Nmg b d) (fun (t : Unit) => (link_seq2 (link_seq (Nke b d) (fun (t : Unit) => (link_block (fin2 := (Sum.elim (fun (t : Unit) => (Exit.normal,⟨mkE 27 0 [],[]⟩)) (fun (t : Bool) => (Exit.ret,⟨mkE 27 0 [(4,dB t)],[]⟩)))) (id := 0) (link_loop (mk := fun (s : Int) => ⟨mkE 27 0 [(0,.dat (.list (.list (.int .i64))) b),(1,.dat (.list (.list (.int .i64))) d),(5,dI s)],[]⟩) (fin := (Sum.elim (fun (t : Bool) => (Exit.ret,⟨mkE 27 0 [(4,dB t)],[]⟩)) (fun (t : Unit) => ((Exit.exit 0),⟨mkE 27 0 [],[]⟩)))) (by
  rintro (t | t) f K h
  · exact h
  · exact h) (fun s => link_map (Nul b d s) (Sum.elim (fun (t : Int) => Sum.inl t) (Sum.elim (fun (t : Bool) => Sum.inr (Sum.inl t)) (fun (t : Unit) => Sum.inr (Sum.inr t)))) (by
  rintro (t | t | t)
  · kernel_rfl
  · kernel_rfl
  · kernel_rfl)) 0) (Sum.elim (fun (t : Bool) => (Sum.inr t)) (fun (t : Unit) => (Sum.inl ()))) (by
  rintro (t | t) K h
  · exact Eq.mp (by kernel_rfl) h
  · exact Eq.mp (by kernel_rfl) h)))) (fun (t : Unit) => (Nr4)) (fun (t : Bool) => t) (by
  rintro t
  · kernel_rfl) (by
  rintro t f K h
  · exact h))) (fun (t : Bool) => t) (by
  rintro t
  · kernel_rfl) (by
  rintro t f K h
  · exact h)))) (by unfold N21; kernel_rfl) (by
  intro t
  exact ret_mk [dB t] (by kernel_rfl) (by kernel_rfl) (by kernel_rfl) (by kernel_rfl)) h
def N9k : Fun := fun avs H =>
  match avs,H with
  | [.dat (.list (.list (.int .i64))) a,.dat (.list (.list (.int .i64))) b],[] => ⟨_,N21 a b,fun (t : Bool) => (dB t,[]),[],none⟩
  | _,_ => Ans.no
theorem Now : Sound Tryd.prog 33 N9k := by
  refine fn_sound' (C := N3w) (c := bodyOf Tryd.f33) (cok_of tys_ok (allc Ngs alln) (allc Tryd.call32 alln) (by kernel_rfl)) Tryd.func33 (by kernel_rfl) LL Nw ?_
  intro avs H r H' h
  unfold N9k at h
  split at h
  · refine Awp.cast ?_ ?_ ?_ (Nso _ _ h) <;> kernel_rfl
  · simp [Ans.no,Ans.run] at h

def Nak : Ann := (.seq (.leaf [2,3]) (.seq (.seq (.leaf [2,3,10]) (.cond (.seq (.leaf [4]) (.leaf [4])) (.leaf [2,3]))) (.seq (.seq (.leaf [16]) (.cond (.seq (.leaf [4]) (.leaf [4])) (.leaf []))) (.seq (.leaf [4]) (.leaf [4])))))
noncomputable def Nbv : Ctx := ⟨tlook tys,olook [(32,N6q),(33,N9k)],ioF,0,false,[]⟩
theorem Nt1 (a : List Int) (b : List (List Int)) (c : List Int) (d : List (List Int)) : Link Nbv LL (bodyOf Tryd.f10) Nak ⟨mkE 17 0 [(0,.agg [dL a,.dat (.list (.list (.int .i64))) b]),(1,.agg [dL c,.dat (.list (.list (.int .i64))) d])],[]⟩ (N78 a b c d) (fun (t : Bool) => (Exit.ret,⟨mkE 17 0 [(4,dB t)],[]⟩)) := .of fun K h => by
  simp only [N78,wpW] at h
  exact .of (by kernel_rfl) h
theorem Ntv (a : List Int) (b : List (List Int)) (c : List Int) (d : List (List Int)) {r : AV} {H' : Heap} (h : (Ans.mk _ (Nq a b c d) (fun (t : Bool) => (dB t,[])) [] none).run = some (r,H')) : Awp Nbv LL (bodyOf Tryd.f10) Nak ⟨mkE 17 0 [(0,.agg [dL a,.dat (.list (.list (.int .i64))) b]),(1,.agg [dL c,.dat (.list (.list (.int .i64))) d])],[]⟩ (Ret (tlook tys) Tryd.f10.results.toList r H') :=
  ret_of' (Nt1 a b c d) (by unfold Nq; kernel_rfl) (by
  intro t
  exact ret_mk [dB t] (by kernel_rfl) (by kernel_rfl) (by kernel_rfl) (by kernel_rfl)) h
def Na8 : Fun := fun avs H =>
  match avs,H with
  | [.agg [.dat (.list (.int .i64)) a,.dat (.list (.list (.int .i64))) b],.agg [.dat (.list (.int .i64)) c,.dat (.list (.list (.int .i64))) d]],[] => ⟨_,Nq a b c d,fun (t : Bool) => (dB t,[]),[],none⟩
  | _,_ => Ans.no
theorem Njm : Sound Tryd.prog 10 Na8 := by
  refine fn_sound' (C := Nbv) (c := bodyOf Tryd.f10) (cok_of tys_ok (allc Ngs (allc Now alln)) (allc Tryd.call32 (allc Tryd.call33 alln)) (by kernel_rfl)) Tryd.func10 (by kernel_rfl) LL Nak ?_
  intro avs H r H' h
  unfold Na8 at h
  split at h
  · refine Awp.cast ?_ ?_ ?_ (Ntv _ _ _ _ h) <;> kernel_rfl
  · simp [Ans.no,Ans.run] at h

def N3m : Ann := (.seq (.leaf [0,1]) (.seq (.seq (.leaf [0,1,5]) (.block (.loop (.seq (.seq (.leaf [0,1,5,9]) (.cond (.leaf [0,1,5]) (.leaf [1]))) (.seq (.block (.seq (.leaf [0,1,5]) (.leaf [0,1,5]))) (.leaf [0,1,5])))))) (.seq (.leaf [4]) (.leaf [4]))))
noncomputable def N42 : Ctx := ⟨tlook tys,olook [],ioF,1,false,[]⟩
theorem Nj5 (a : Int) (b : List Int) : Link N42 LL (cq [0] (bodyOf Tryd.f34)) (aq [0] N3m) ⟨mkE 19 0 [(0,.slc 0),(1,dI a)],[some (sI b)]⟩ (N83) (fun (t : Unit) => (Exit.normal,⟨mkE 19 0 [(0,.slc 0),(1,dI a)],[some (sI b)]⟩)) := .of fun K h => by
  simp only [N83,wpW] at h
  exact .of (by kernel_rfl) h
theorem Npq (a : Int) (b : List Int) : Link N42 LL (cq [0,0,1] (bodyOf Tryd.f34)) (aq [0,0,1] N3m) ⟨mkE 19 0 [(0,.slc 0),(1,dI a)],[some (sI b)]⟩ (N6i) (fun (t : Unit) => (Exit.normal,⟨mkE 19 0 [(0,.slc 0),(1,dI a),(5,dI 0)],[some (sI b)]⟩)) := .of fun K h => by
  simp only [N6i,wpW] at h
  exact .of (by kernel_rfl) h
theorem Njr (a b : Int) (c : List Int) : Link N42 LL (cq [0,0,1,0,1] (bodyOf Tryd.f34)) (aq [0,0,1,0,1] N3m) ⟨mkE 19 0 [(0,.slc 0),(1,dI a),(5,dI b)],[some (sI c)]⟩ (N4j a b c) (Sum.elim (fun (t : Int × Int × (List Int)) => (Exit.normal,⟨mkE 19 0 [(0,.slc 0),(1,dI t.1),(5,dI t.2.1)],[some (sI t.2.2)]⟩)) (fun (t : Int × (List Int)) => ((Exit.exit 0),⟨mkE 19 0 [(1,dI t.1)],[some (sI t.2)]⟩))) := .of fun K h => by
  simp only [N4j,wpW] at h
  exact .of (by kernel_rfl) h
theorem No5 (a : Int) (b : List Int) : Link N42 LL (cq [1,1] (bodyOf Tryd.f34)) (aq [1,1] N3m) ⟨mkE 19 0 [(1,dI a)],[some (sI b)]⟩ (N8p a b) (fun (t : Int × (List Int)) => (Exit.ret,⟨mkE 19 0 [(4,dI t.1)],[some (sI t.2)]⟩)) := .of fun K h => by
  simp only [N8p,wpW] at h
  exact .of (by kernel_rfl) h
theorem Njt (a : Int) (b : List Int) {r : AV} {H' : Heap} (h : (Ans.mk _ (N1e a b) (fun (t : Int × (List Int)) => (dI t.1,[some (sI t.2)])) [] none).run = some (r,H')) : Awp N42 LL (bodyOf Tryd.f34) N3m ⟨mkE 19 0 [(0,.slc 0),(1,dI a)],[some (sI b)]⟩ (Ret (tlook tys) Tryd.f34.results.toList r H') :=
  ret_of' (Link.cast (by kernel_rfl) (by kernel_rfl) (link_seq (Nj5 a b) (fun (t : Unit) => (link_seq (link_seq (Npq a b) (fun (t : Unit) => (link_block (fin2 := (fun (t : Int × (List Int)) => (Exit.normal,⟨mkE 19 0 [(1,dI t.1)],[some (sI t.2)]⟩))) (id := 0) (link_loop (mk := fun (s : Int × Int × (List Int)) => ⟨mkE 19 0 [(0,.slc 0),(1,dI s.1),(5,dI s.2.1)],[some (sI s.2.2)]⟩) (fin := (fun (t : Int × (List Int)) => ((Exit.exit 0),⟨mkE 19 0 [(1,dI t.1)],[some (sI t.2)]⟩))) (by
  rintro t f K h
  · exact h) (fun s => link_map (Njr s.1 s.2.1 s.2.2) (Sum.elim (fun (t : Int × Int × (List Int)) => Sum.inl (t.1,t.2.1,t.2.2)) (fun (t : Int × (List Int)) => Sum.inr t)) (by
  rintro (t | t)
  · kernel_rfl
  · kernel_rfl)) (a,0,b)) (fun (t : Int × (List Int)) => (t.1,t.2)) (by
  rintro t K h
  · exact Eq.mp (by kernel_rfl) h)))) (fun (t : Int × (List Int)) => (No5 t.1 t.2)))))) (by unfold N1e; kernel_rfl) (by
  intro t
  exact ret_mk [dI t.1] (by kernel_rfl) (by kernel_rfl) (by kernel_rfl) (by kernel_rfl)) h
def N86 : Fun := fun avs H =>
  match avs,H with
  | [.slc 0,.dat (.int .i64) a],[some (.seq (.int .i64) b)] => ⟨_,N1e a b,fun (t : Int × (List Int)) => (dI t.1,[some (sI t.2)]),[],none⟩
  | _,_ => Ans.no
theorem Ndw : Sound Tryd.prog 34 N86 := by
  refine fn_sound' (C := N42) (c := bodyOf Tryd.f34) (cok_of tys_ok (alln) (alln) (by kernel_rfl)) Tryd.func34 (by kernel_rfl) LL N3m ?_
  intro avs H r H' h
  unfold N86 at h
  split at h
  · refine Awp.cast ?_ ?_ ?_ (Njt _ _ h) <;> kernel_rfl
  · simp [Ans.no,Ans.run] at h

def N34 : Ann := (.seq (.leaf [0,1]) (.seq (.seq (.leaf [0,1,5]) (.block (.loop (.seq (.seq (.leaf [0,1,5,9]) (.cond (.leaf [0,1,5]) (.leaf [1]))) (.seq (.block (.leafF [⟨7,0,true,some 0,none⟩] [0,1,5])) (.leaf [0,1,5])))))) (.seq (.leaf [4]) (.leaf [4]))))
noncomputable def N3q : Ctx := ⟨tlook tys,olook [(34,N86)],ioF,1,true,[]⟩
theorem Np9 (a : Int) (b : List (List Int)) : Link N3q LL (cq [0] (bodyOf Tryd.f35)) (aq [0] N34) ⟨mkE 19 0 [(0,.slc 0),(1,dI a)],[some (.nest (.int .i64) b 0 [])]⟩ (N63) (fun (t : Unit) => (Exit.normal,⟨mkE 19 0 [(0,.slc 0),(1,dI a)],[some (.nest (.int .i64) b 0 [])]⟩)) := .of fun K h => by
  simp only [N63,wpW] at h
  exact .of (by kernel_rfl) h
theorem Nw8 (a : Int) (b : List (List Int)) : Link N3q LL (cq [0,0,1] (bodyOf Tryd.f35)) (aq [0,0,1] N34) ⟨mkE 19 0 [(0,.slc 0),(1,dI a)],[some (.nest (.int .i64) b 0 [])]⟩ (N5m) (fun (t : Unit) => (Exit.normal,⟨mkE 19 0 [(0,.slc 0),(1,dI a),(5,dI 0)],[some (.nest (.int .i64) b 0 [])]⟩)) := .of fun K h => by
  simp only [N5m,wpW] at h
  exact .of (by kernel_rfl) h
theorem Nsp (a b : Int) (c : List (List Int)) : Link N3q LL (cq [0,0,1,0,1] (bodyOf Tryd.f35)) (aq [0,0,1,0,1] N34) ⟨mkE 19 0 [(0,.slc 0),(1,dI a),(5,dI b)],[some (.nest (.int .i64) c 0 [])]⟩ (N2x a b c) (Sum.elim (fun (t : Int × Int × (List (List Int))) => (Exit.normal,⟨mkE 19 0 [(0,.slc 0),(1,dI t.1),(5,dI t.2.1)],[some (.nest (.int .i64) t.2.2 0 [])]⟩)) (fun (t : Int × (List (List Int))) => ((Exit.exit 0),⟨mkE 19 0 [(1,dI t.1)],[some (.nest (.int .i64) t.2 0 [])]⟩))) := .of fun K h => by
  simp only [N2x,wpW] at h
  exact .of (by kernel_rfl) h
theorem No4 (a : Int) (b : List (List Int)) : Link N3q LL (cq [1,1] (bodyOf Tryd.f35)) (aq [1,1] N34) ⟨mkE 19 0 [(1,dI a)],[some (.nest (.int .i64) b 0 [])]⟩ (N7c a b) (fun (t : Int × (List (List Int))) => (Exit.ret,⟨mkE 19 0 [(4,dI t.1)],[some (.nest (.int .i64) t.2 0 [])]⟩)) := .of fun K h => by
  simp only [N7c,wpW] at h
  exact .of (by kernel_rfl) h
theorem Njc (a : Int) (b : List (List Int)) {r : AV} {H' : Heap} (h : (Ans.mk _ (N2a a b) (fun (t : Int × (List (List Int))) => (dI t.1,[some (.nest (.int .i64) t.2 0 [])])) [] none).run = some (r,H')) : Awp N3q LL (bodyOf Tryd.f35) N34 ⟨mkE 19 0 [(0,.slc 0),(1,dI a)],[some (.nest (.int .i64) b 0 [])]⟩ (Ret (tlook tys) Tryd.f35.results.toList r H') :=
  ret_of' (Link.cast (by kernel_rfl) (by kernel_rfl) (link_seq (Np9 a b) (fun (t : Unit) => (link_seq (link_seq (Nw8 a b) (fun (t : Unit) => (link_block (fin2 := (fun (t : Int × (List (List Int))) => (Exit.normal,⟨mkE 19 0 [(1,dI t.1)],[some (.nest (.int .i64) t.2 0 [])]⟩))) (id := 0) (link_loop (mk := fun (s : Int × Int × (List (List Int))) => ⟨mkE 19 0 [(0,.slc 0),(1,dI s.1),(5,dI s.2.1)],[some (.nest (.int .i64) s.2.2 0 [])]⟩) (fin := (fun (t : Int × (List (List Int))) => ((Exit.exit 0),⟨mkE 19 0 [(1,dI t.1)],[some (.nest (.int .i64) t.2 0 [])]⟩))) (by
  rintro t f K h
  · exact h) (fun s => link_map (Nsp s.1 s.2.1 s.2.2) (Sum.elim (fun (t : Int × Int × (List (List Int))) => Sum.inl (t.1,t.2.1,t.2.2)) (fun (t : Int × (List (List Int))) => Sum.inr t)) (by
  rintro (t | t)
  · kernel_rfl
  · kernel_rfl)) (a,0,b)) (fun (t : Int × (List (List Int))) => (t.1,t.2)) (by
  rintro t K h
  · exact Eq.mp (by kernel_rfl) h)))) (fun (t : Int × (List (List Int))) => (No4 t.1 t.2)))))) (by unfold N2a; kernel_rfl) (by
  intro t
  exact ret_mk [dI t.1] (by kernel_rfl) (by kernel_rfl) (by kernel_rfl) (by kernel_rfl)) h
def N93 : Fun := fun avs H =>
  match avs,H with
  | [.slc 0,.dat (.int .i64) a],[some (.nest (.int .i64) b 0 [])] => ⟨_,N2a a b,fun (t : Int × (List (List Int))) => (dI t.1,[some (.nest (.int .i64) t.2 0 [])]),[],none⟩
  | _,_ => Ans.no
theorem Nrb : Sound Tryd.prog 35 N93 := by
  refine fn_sound' (C := N3q) (c := bodyOf Tryd.f35) (cok_of tys_ok (allc Ndw alln) (allc Tryd.call34 alln) (by kernel_rfl)) Tryd.func35 (by kernel_rfl) LL N34 ?_
  intro avs H r H' h
  unfold N93 at h
  split at h
  · refine Awp.cast ?_ ?_ ?_ (Njc _ _ h) <;> kernel_rfl
  · simp [Ans.no,Ans.run] at h

def N9x : Ann := (.seq (.leaf [1,2]) (.seq (.leaf [1,2]) (.seq (.leaf [1]) (.seq (.leaf [4]) (.leaf [4])))))
noncomputable def Nbe : Ctx := ⟨tlook tys,olook [(34,N86),(35,N93)],ioF,2,true,[]⟩
theorem Nn0 (a : Int) (b : List Int) (c : List (List Int)) : Link Nbe LL (bodyOf Tryd.f11) N9x ⟨mkE 14 0 [(0,.agg [.slc 0,.slc 1]),(1,dI a)],[some (sI b),some (.nest (.int .i64) c 0 [])]⟩ (N8a a b c) (fun (t : Int × (List Int) × (List (List Int))) => (Exit.ret,⟨mkE 14 0 [(4,dI t.1)],[some (sI t.2.1),some (.nest (.int .i64) t.2.2 0 [])]⟩)) := .of fun K h => by
  simp only [N8a,wpW] at h
  exact .of (by kernel_rfl) h
theorem Np1 (a : Int) (b : List Int) (c : List (List Int)) {r : AV} {H' : Heap} (h : (Ans.mk _ (N1m a b c) (fun (t : Int × (List Int) × (List (List Int))) => (dI t.1,[some (sI t.2.1),some (.nest (.int .i64) t.2.2 0 [])])) [] none).run = some (r,H')) : Awp Nbe LL (bodyOf Tryd.f11) N9x ⟨mkE 14 0 [(0,.agg [.slc 0,.slc 1]),(1,dI a)],[some (sI b),some (.nest (.int .i64) c 0 [])]⟩ (Ret (tlook tys) Tryd.f11.results.toList r H') :=
  ret_of' (Nn0 a b c) (by unfold N1m; kernel_rfl) (by
  intro t
  exact ret_mk [dI t.1] (by kernel_rfl) (by kernel_rfl) (by kernel_rfl) (by kernel_rfl)) h
def Nct : Fun := fun avs H =>
  match avs,H with
  | [.agg [.slc 0,.slc 1],.dat (.int .i64) a],[some (.seq (.int .i64) b),some (.nest (.int .i64) c 0 [])] => ⟨_,N1m a b c,fun (t : Int × (List Int) × (List (List Int))) => (dI t.1,[some (sI t.2.1),some (.nest (.int .i64) t.2.2 0 [])]),[],none⟩
  | _,_ => Ans.no
theorem Nmk : Sound Tryd.prog 11 Nct := by
  refine fn_sound' (C := Nbe) (c := bodyOf Tryd.f11) (cok_of tys_ok (allc Ndw (allc Nrb alln)) (allc Tryd.call34 (allc Tryd.call35 alln)) (by kernel_rfl)) Tryd.func11 (by kernel_rfl) LL N9x ?_
  intro avs H r H' h
  unfold Nct at h
  split at h
  · refine Awp.cast ?_ ?_ ?_ (Np1 _ _ _ h) <;> kernel_rfl
  · simp [Ans.no,Ans.run] at h

def N47 : Ann := (.seq (.leaf [0,1]) (.seq (.seq (.leaf [0,1,5]) (.block (.loop (.seq (.seq (.leaf [0,1,5,9]) (.cond (.leaf [0,1,5]) (.leaf [1]))) (.seq (.block (.seq (.seq (.leaf [0,1,5,17]) (.cond (.seq (.leaf [4]) (.leaf [4])) (.leaf [0,1,5]))) (.leaf [0,1,5]))) (.leaf [0,1,5])))))) (.seq (.leaf [4]) (.leaf [4]))))
noncomputable def N3v : Ctx := ⟨tlook tys,olook [],ioF,0,false,[]⟩
theorem Nw1 (a : List Int) (b : Int) : Link N3v LL (cq [0] (bodyOf Tryd.f36)) (aq [0] N47) ⟨mkE 21 0 [(0,dL a),(1,dI b)],[]⟩ (N7o) (fun (t : Unit) => (Exit.normal,⟨mkE 21 0 [(0,dL a),(1,dI b)],[]⟩)) := .of fun K h => by
  simp only [N7o,wpW] at h
  exact .of (by kernel_rfl) h
theorem Nk7 (a : List Int) (b : Int) : Link N3v LL (cq [0,0,1] (bodyOf Tryd.f36)) (aq [0,0,1] N47) ⟨mkE 21 0 [(0,dL a),(1,dI b)],[]⟩ (N5w) (fun (t : Unit) => (Exit.normal,⟨mkE 21 0 [(0,dL a),(1,dI b),(5,dI 0)],[]⟩)) := .of fun K h => by
  simp only [N5w,wpW] at h
  exact .of (by kernel_rfl) h
theorem Nkw (a : List Int) (b c : Int) : Link N3v LL (cq [0,0,1,0,1] (bodyOf Tryd.f36)) (aq [0,0,1,0,1] N47) ⟨mkE 21 0 [(0,dL a),(1,dI b),(5,dI c)],[]⟩ (N4o a b c) (Sum.elim (fun (t : Int × Int) => (Exit.normal,⟨mkE 21 0 [(0,dL a),(1,dI t.1),(5,dI t.2)],[]⟩)) (Sum.elim (fun (t : Int) => (Exit.ret,⟨mkE 21 0 [(4,dI t)],[]⟩)) (fun (t : Int) => ((Exit.exit 0),⟨mkE 21 0 [(1,dI t)],[]⟩)))) := .of fun K h => by
  simp only [N4o,wpW] at h
  exact .of (by kernel_rfl) h
theorem Nnb (a : Int) : Link N3v LL (cq [1,1] (bodyOf Tryd.f36)) (aq [1,1] N47) ⟨mkE 21 0 [(1,dI a)],[]⟩ (N7u a) (fun (t : Int) => (Exit.ret,⟨mkE 21 0 [(4,dI t)],[]⟩)) := .of fun K h => by
  simp only [N7u,wpW] at h
  exact .of (by kernel_rfl) h
theorem Ntp (a : List Int) (b : Int) {r : AV} {H' : Heap} (h : (Ans.mk _ (N1h a b) (fun (t : Int) => (dI t,[])) [] none).run = some (r,H')) : Awp N3v LL (bodyOf Tryd.f36) N47 ⟨mkE 21 0 [(0,dL a),(1,dI b)],[]⟩ (Ret (tlook tys) Tryd.f36.results.toList r H') :=
  ret_of' (Link.cast (by kernel_rfl) (by kernel_rfl) (link_seq (Nw1 a b) (fun (t : Unit) => (link_seq2 (link_seq (Nk7 a b) (fun (t : Unit) => (link_block (fin2 := (Sum.elim (fun (t : Int) => (Exit.normal,⟨mkE 21 0 [(1,dI t)],[]⟩)) (fun (t : Int) => (Exit.ret,⟨mkE 21 0 [(4,dI t)],[]⟩)))) (id := 0) (link_loop (mk := fun (s : Int × Int) => ⟨mkE 21 0 [(0,dL a),(1,dI s.1),(5,dI s.2)],[]⟩) (fin := (Sum.elim (fun (t : Int) => (Exit.ret,⟨mkE 21 0 [(4,dI t)],[]⟩)) (fun (t : Int) => ((Exit.exit 0),⟨mkE 21 0 [(1,dI t)],[]⟩)))) (by
  rintro (t | t) f K h
  · exact h
  · exact h) (fun s => link_map (Nkw a s.1 s.2) (Sum.elim (fun (t : Int × Int) => Sum.inl (t.1,t.2)) (Sum.elim (fun (t : Int) => Sum.inr (Sum.inl t)) (fun (t : Int) => Sum.inr (Sum.inr t)))) (by
  rintro (t | t | t)
  · kernel_rfl
  · kernel_rfl
  · kernel_rfl)) (b,0)) (Sum.elim (fun (t : Int) => (Sum.inr t)) (fun (t : Int) => (Sum.inl t))) (by
  rintro (t | t) K h
  · exact Eq.mp (by kernel_rfl) h
  · exact Eq.mp (by kernel_rfl) h)))) (fun (t : Int) => (Nnb t)) (fun (t : Int) => t) (by
  rintro t
  · kernel_rfl) (by
  rintro t f K h
  · exact h))))) (by unfold N1h; kernel_rfl) (by
  intro t
  exact ret_mk [dI t] (by kernel_rfl) (by kernel_rfl) (by kernel_rfl) (by kernel_rfl)) h
def N75 : Fun := fun avs H =>
  match avs,H with
  | [.dat (.list (.int .i64)) a,.dat (.int .i64) b],[] => ⟨_,N1h a b,fun (t : Int) => (dI t,[]),[],none⟩
  | _,_ => Ans.no
theorem Nhv : Sound Tryd.prog 36 N75 := by
  refine fn_sound' (C := N3v) (c := bodyOf Tryd.f36) (cok_of tys_ok (alln) (alln) (by kernel_rfl)) Tryd.func36 (by kernel_rfl) LL N47 ?_
  intro avs H r H' h
  unfold N75 at h
  split at h
  · refine Awp.cast ?_ ?_ ?_ (Ntp _ _ h) <;> kernel_rfl
  · simp [Ans.no,Ans.run] at h

def N43 : Ann := (.seq (.leaf [0,1]) (.seq (.seq (.leaf [0,1,5]) (.block (.loop (.seq (.seq (.leaf [0,1,5,9]) (.cond (.leaf [0,1,5]) (.leaf [1]))) (.seq (.block (.seq (.leaf [0,1,5]) (.seq (.leaf [0,1,5,19]) (.cond (.seq (.leaf [4]) (.leaf [4])) (.leaf [0,1,5]))))) (.leaf [0,1,5])))))) (.seq (.leaf [4]) (.leaf [4]))))
noncomputable def N37 : Ctx := ⟨tlook tys,olook [(36,N75)],ioF,0,false,[]⟩
theorem Nn1 (a : List (List Int)) (b : Int) : Link N37 LL (cq [0] (bodyOf Tryd.f37)) (aq [0] N43) ⟨mkE 21 0 [(0,.dat (.list (.list (.int .i64))) a),(1,dI b)],[]⟩ (N8h) (fun (t : Unit) => (Exit.normal,⟨mkE 21 0 [(0,.dat (.list (.list (.int .i64))) a),(1,dI b)],[]⟩)) := .of fun K h => by
  simp only [N8h,wpW] at h
  exact .of (by kernel_rfl) h
theorem Ns9 (a : List (List Int)) (b : Int) : Link N37 LL (cq [0,0,1] (bodyOf Tryd.f37)) (aq [0,0,1] N43) ⟨mkE 21 0 [(0,.dat (.list (.list (.int .i64))) a),(1,dI b)],[]⟩ (N7s) (fun (t : Unit) => (Exit.normal,⟨mkE 21 0 [(0,.dat (.list (.list (.int .i64))) a),(1,dI b),(5,dI 0)],[]⟩)) := .of fun K h => by
  simp only [N7s,wpW] at h
  exact .of (by kernel_rfl) h
theorem Nph (a : List (List Int)) (b c : Int) : Link N37 LL (cq [0,0,1,0,1] (bodyOf Tryd.f37)) (aq [0,0,1,0,1] N43) ⟨mkE 21 0 [(0,.dat (.list (.list (.int .i64))) a),(1,dI b),(5,dI c)],[]⟩ (N3h a b c) (Sum.elim (fun (t : Int × Int) => (Exit.normal,⟨mkE 21 0 [(0,.dat (.list (.list (.int .i64))) a),(1,dI t.1),(5,dI t.2)],[]⟩)) (Sum.elim (fun (t : Int) => (Exit.ret,⟨mkE 21 0 [(4,dI t)],[]⟩)) (fun (t : Int) => ((Exit.exit 0),⟨mkE 21 0 [(1,dI t)],[]⟩)))) := .of fun K h => by
  simp only [N3h,wpW] at h
  exact .of (by kernel_rfl) h
theorem Nv5 (a : Int) : Link N37 LL (cq [1,1] (bodyOf Tryd.f37)) (aq [1,1] N43) ⟨mkE 21 0 [(1,dI a)],[]⟩ (N8k a) (fun (t : Int) => (Exit.ret,⟨mkE 21 0 [(4,dI t)],[]⟩)) := .of fun K h => by
  simp only [N8k,wpW] at h
  exact .of (by kernel_rfl) h
theorem Nqz (a : List (List Int)) (b : Int) {r : AV} {H' : Heap} (h : (Ans.mk _ (N2b a b) (fun (t : Int) => (dI t,[])) [] none).run = some (r,H')) : Awp N37 LL (bodyOf Tryd.f37) N43 ⟨mkE 21 0 [(0,.dat (.list (.list (.int .i64))) a),(1,dI b)],[]⟩ (Ret (tlook tys) Tryd.f37.results.toList r H') :=
  ret_of' (Link.cast (by kernel_rfl) (by kernel_rfl) (link_seq (Nn1 a b) (fun (t : Unit) => (link_seq2 (link_seq (Ns9 a b) (fun (t : Unit) => (link_block (fin2 := (Sum.elim (fun (t : Int) => (Exit.normal,⟨mkE 21 0 [(1,dI t)],[]⟩)) (fun (t : Int) => (Exit.ret,⟨mkE 21 0 [(4,dI t)],[]⟩)))) (id := 0) (link_loop (mk := fun (s : Int × Int) => ⟨mkE 21 0 [(0,.dat (.list (.list (.int .i64))) a),(1,dI s.1),(5,dI s.2)],[]⟩) (fin := (Sum.elim (fun (t : Int) => (Exit.ret,⟨mkE 21 0 [(4,dI t)],[]⟩)) (fun (t : Int) => ((Exit.exit 0),⟨mkE 21 0 [(1,dI t)],[]⟩)))) (by
  rintro (t | t) f K h
  · exact h
  · exact h) (fun s => link_map (Nph a s.1 s.2) (Sum.elim (fun (t : Int × Int) => Sum.inl (t.1,t.2)) (Sum.elim (fun (t : Int) => Sum.inr (Sum.inl t)) (fun (t : Int) => Sum.inr (Sum.inr t)))) (by
  rintro (t | t | t)
  · kernel_rfl
  · kernel_rfl
  · kernel_rfl)) (b,0)) (Sum.elim (fun (t : Int) => (Sum.inr t)) (fun (t : Int) => (Sum.inl t))) (by
  rintro (t | t) K h
  · exact Eq.mp (by kernel_rfl) h
  · exact Eq.mp (by kernel_rfl) h)))) (fun (t : Int) => (Nv5 t)) (fun (t : Int) => t) (by
  rintro t
  · kernel_rfl) (by
  rintro t f K h
  · exact h))))) (by unfold N2b; kernel_rfl) (by
  intro t
  exact ret_mk [dI t] (by kernel_rfl) (by kernel_rfl) (by kernel_rfl) (by kernel_rfl)) h
def N9f : Fun := fun avs H =>
  match avs,H with
  | [.dat (.list (.list (.int .i64))) a,.dat (.int .i64) b],[] => ⟨_,N2b a b,fun (t : Int) => (dI t,[]),[],none⟩
  | _,_ => Ans.no
theorem Nt7 : Sound Tryd.prog 37 N9f := by
  refine fn_sound' (C := N37) (c := bodyOf Tryd.f37) (cok_of tys_ok (allc Nhv alln) (allc Tryd.call36 alln) (by kernel_rfl)) Tryd.func37 (by kernel_rfl) LL N43 ?_
  intro avs H r H' h
  unfold N9f at h
  split at h
  · refine Awp.cast ?_ ?_ ?_ (Nqz _ _ h) <;> kernel_rfl
  · simp [Ans.no,Ans.run] at h

def Ncy : Ann := (.seq (.leaf [1,2]) (.seq (.leaf [1,2]) (.seq (.seq (.leaf [1,2,10]) (.cond (.seq (.leaf [4]) (.leaf [4])) (.leaf [1,2]))) (.seq (.leaf [1]) (.seq (.seq (.leaf [1,16]) (.cond (.seq (.leaf [4]) (.leaf [4])) (.leaf [1]))) (.seq (.leaf [4]) (.leaf [4])))))))
noncomputable def Ncg : Ctx := ⟨tlook tys,olook [(36,N75),(37,N9f)],ioF,0,false,[]⟩
theorem Nrs (a : List Int) (b : List (List Int)) (c : Int) : Link Ncg LL (bodyOf Tryd.f12) Ncy ⟨mkE 18 0 [(0,.agg [dL a,.dat (.list (.list (.int .i64))) b]),(1,dI c)],[]⟩ (N7d a b c) (fun (t : Int) => (Exit.ret,⟨mkE 18 0 [(4,dI t)],[]⟩)) := .of fun K h => by
  simp only [N7d,wpW] at h
  exact .of (by kernel_rfl) h
theorem Nma (a : List Int) (b : List (List Int)) (c : Int) {r : AV} {H' : Heap} (h : (Ans.mk _ (N1n a b c) (fun (t : Int) => (dI t,[])) [] none).run = some (r,H')) : Awp Ncg LL (bodyOf Tryd.f12) Ncy ⟨mkE 18 0 [(0,.agg [dL a,.dat (.list (.list (.int .i64))) b]),(1,dI c)],[]⟩ (Ret (tlook tys) Tryd.f12.results.toList r H') :=
  ret_of' (Nrs a b c) (by unfold N1n; kernel_rfl) (by
  intro t
  exact ret_mk [dI t] (by kernel_rfl) (by kernel_rfl) (by kernel_rfl) (by kernel_rfl)) h
def Nab : Fun := fun avs H =>
  match avs,H with
  | [.agg [.dat (.list (.int .i64)) a,.dat (.list (.list (.int .i64))) b],.dat (.int .i64) c],[] => ⟨_,N1n a b c,fun (t : Int) => (dI t,[]),[],none⟩
  | _,_ => Ans.no
theorem Nun : Sound Tryd.prog 12 Nab := by
  refine fn_sound' (C := Ncg) (c := bodyOf Tryd.f12) (cok_of tys_ok (allc Nhv (allc Nt7 alln)) (allc Tryd.call36 (allc Tryd.call37 alln)) (by kernel_rfl)) Tryd.func12 (by kernel_rfl) LL Ncy ?_
  intro avs H r H' h
  unfold Nab at h
  split at h
  · refine Awp.cast ?_ ?_ ?_ (Nma _ _ _ h) <;> kernel_rfl
  · simp [Ans.no,Ans.run] at h

def Nan : Ann := (.seq (.leaf [2,3]) (.seq (.leaf [2,3,5]) (.seq (.leaf [2,3,5]) (.seq (.seq (.leaf [2,3,20]) (.cond (.seq (.leaf [4]) (.leaf [4])) (.leaf [2,3]))) (.seq (.draw [1,3,4] [0,2,1,3,4,5,6,7,8,9,10] [] [2,3,6,7]) (.seq (.leaf [2,3,6,7,8]) (.seq (.draw [2,3] [0,1,2,3,4,5,6,7,8,9] [] [2,3,6,7,8,9,10]) (.seq (.seq (.leaf [2,3,6,7,8,9,10,46]) (.cond (.seq (.leaf [4]) (.leaf [4])) (.leaf [2,3,6,7,8,9,10]))) (.seq (.seq (.draw [2,3] [0,1,2,3,4] [] [2,3,6,7,8,9,10,51]) (.cond (.seq (.leaf [4]) (.leaf [4])) (.leaf [2,3,6,7,8,9,10]))) (.seq (.leaf [2,3,6,7,8,9,10,11]) (.seq (.leaf [2,3,6,7,9,10,11]) (.seq (.seq (.leaf [2,3,6,7,9,67]) (.cond (.seq (.leaf [4]) (.leaf [4])) (.leaf [2,3,6,7,9]))) (.seq (.leaf [2,3,6,7,9,12]) (.seq (.leaf [2,3,6,7,9,12]) (.seq (.leaf [2,3,6,7,9,12,13]) (.seq (.leaf [2,3,6,7,9,12,13]) (.seq (.seq (.leaf [2,3,6,7,9,12,13,75]) (.cond (.seq (.leaf [4]) (.leaf [4])) (.leaf [2,3,6,7,9,12,13]))) (.seq (.seq (.leaf [2,3,6,7,9,12,78]) (.cond (.seq (.leaf [4]) (.leaf [4])) (.leaf [2,3,6,7,9,12]))) (.seq (.draw [1,3,4] [0,2,1,3,4,5,6,7,8,9,10] [] [6,7,9,12,14,15]) (.seq (.seq (.leaf [9,12,95]) (.cond (.seq (.leaf [4]) (.leaf [4])) (.leaf [9,12]))) (.seq (.leaf [9,12,13]) (.seq (.leaf [12,13]) (.seq (.seq (.leaf [12,13,100]) (.cond (.seq (.leaf [4]) (.leaf [4])) (.leaf [12,13]))) (.seq (.seq (.leaf [103]) (.cond (.seq (.leaf [4]) (.leaf [4])) (.leaf []))) (.seq (.leaf [4]) (.leaf [4]))))))))))))))))))))))))))
noncomputable def Nd1 : Ctx := ⟨tlook tys,olook [(5,Nac),(7,Nbg),(8,Nb3),(6,N9b),(9,Nd0),(10,Na8),(11,Nct),(12,Nab)],ioF,0,true,[]⟩
theorem Nvc (a : List Int) (b : List (List Int)) (c d g : Int) : Link Nd1 LL (bodyOf Tryd.f3) Nan ⟨mkE 104 0 [(0,.agg [dL a,.dat (.list (.list (.int .i64))) b]),(1,.agg [dI c,dI d,dI g])],[]⟩ (N6r a b c d g) (fun (t : Bool) => (Exit.ret,⟨mkE 104 0 [(4,dB t)],[]⟩)) := .of fun K h => by
  simp only [N6r,wpW] at h
  exact .of (by kernel_rfl) h
theorem Nmd (a : List Int) (b : List (List Int)) (c d g : Int) {r : AV} {H' : Heap} (h : (Ans.mk _ (N1w a b c d g) (fun (t : Bool) => (dB t,[])) [] none).run = some (r,H')) : Awp Nd1 LL (bodyOf Tryd.f3) Nan ⟨mkE 104 0 [(0,.agg [dL a,.dat (.list (.list (.int .i64))) b]),(1,.agg [dI c,dI d,dI g])],[]⟩ (Ret (tlook tys) Tryd.f3.results.toList r H') :=
  ret_of' (Nvc a b c d g) (by unfold N1w; kernel_rfl) (by
  intro t
  exact ret_mk [dB t] (by kernel_rfl) (by kernel_rfl) (by kernel_rfl) (by kernel_rfl)) h
def Nh9 : Fun := fun avs H =>
  match avs,H with
  | [.agg [.dat (.list (.int .i64)) a,.dat (.list (.list (.int .i64))) b],.agg [.dat (.int .i64) c,.dat (.int .i64) d,.dat (.int .i64) g]],[] => ⟨_,N1w a b c d g,fun (t : Bool) => (dB t,[]),[],none⟩
  | _,_ => Ans.no
theorem Nmw : Sound Tryd.prog 3 Nh9 := by
  refine fn_sound' (C := Nd1) (c := bodyOf Tryd.f3) (cok_of tys_ok (allc Nv3 (allc Nqv (allc Npa (allc Nr1 (allc Nl0 (allc Njm (allc Nmk (allc Nun alln)))))))) (allc Tryd.call5 (allc Tryd.call7 (allc Tryd.call8 (allc Tryd.call6 (allc Tryd.call9 (allc Tryd.call10 (allc Tryd.call11 (allc Tryd.call12 alln)))))))) (by kernel_rfl)) Tryd.func3 (by kernel_rfl) LL Nan ?_
  intro avs H r H' h
  unfold Nh9 at h
  split at h
  · refine Awp.cast ?_ ?_ ?_ (Nmd _ _ _ _ _ h) <;> kernel_rfl
  · simp [Ans.no,Ans.run] at h

end Go.Rv
