/-
  The checked code answers as the plain functions do; written by program. Conditions: none.
-/
import Derived.Test.YtihgceegapfngacDoorKFnExactDeskRuna
import Derived.Test.YtihgceegapfngacDoorProg
set_option linter.unusedVariables false
set_option linter.unusedSimpArgs false
set_option linter.defProp false
set_option maxRecDepth 100000
namespace Go.Rv
open Go.Proofs
def Nv : Ann := (.seq (.leaf [0,1]) (.seq (.seq (.leaf [0,1,10]) (.cond (.seq (.leaf [4]) (.leaf [4])) (.leaf [0,1]))) (.seq (.seq (.leaf [0,1,5]) (.block (.loop (.seq (.seq (.leaf [0,1,5,14]) (.cond (.leaf [0,1,5]) (.leaf []))) (.seq (.block (.seq (.draw [] [0,1,2,3,4,5,6,7,8] [] [0,1,5,25]) (.cond (.seq (.leaf [4]) (.leaf [4])) (.leaf [0,1,5])))) (.leaf [0,1,5])))))) (.seq (.leaf [4]) (.leaf [4])))))
noncomputable def N3b : Ctx := ⟨tlook tys,olook [],ioF,0,false,[]⟩
theorem Ns4 (a b : List Int) : Link N3b LL (Code.seq (cq [0] (bodyOf Tryd.f32)) (cq [0,1] (bodyOf Tryd.f32))) (Ann.seq (aq [0] Nv) (aq [0,1] Nv)) ⟨mkE 26 0 [(0,dL a),(1,dL b)],[]⟩ (N68 a b) (Sum.elim (fun (t : Unit) => (Exit.normal,⟨mkE 26 0 [(0,dL a),(1,dL b)],[]⟩)) (fun (t : Bool) => (Exit.ret,⟨mkE 26 0 [(4,dB t)],[]⟩))) := .of fun K h => by
  simp only [N68,wpW] at h
  exact .of (by kernel_rfl) h
theorem Nqa (a b : List Int) : Link N3b LL (cq [0,0,1,1] (bodyOf Tryd.f32)) (aq [0,0,1,1] Nv) ⟨mkE 26 0 [(0,dL a),(1,dL b)],[]⟩ (N61) (fun (t : Unit) => (Exit.normal,⟨mkE 26 0 [(0,dL a),(1,dL b),(5,dI 0)],[]⟩)) := .of fun K h => by
  simp only [N61,wpW] at h
  exact .of (by kernel_rfl) h
theorem Nr0 (a b : List Int) (c : Int) : Link N3b LL (cq [0,0,1,0,1,1] (bodyOf Tryd.f32)) (aq [0,0,1,0,1,1] Nv) ⟨mkE 26 0 [(0,dL a),(1,dL b),(5,dI c)],[]⟩ (N31 a b c) (Sum.elim (fun (t : Int) => (Exit.normal,⟨mkE 26 0 [(0,dL a),(1,dL b),(5,dI t)],[]⟩)) (Sum.elim (fun (t : Bool) => (Exit.ret,⟨mkE 26 0 [(4,dB t)],[]⟩)) (fun (t : Unit) => ((Exit.exit 0),⟨mkE 26 0 [],[]⟩)))) := .of fun K h => by
  simp only [N31,wpW] at h
  exact .of (by kernel_rfl) h
theorem Nqx : Link N3b LL (cq [1,1,1] (bodyOf Tryd.f32)) (aq [1,1,1] Nv) ⟨mkE 26 0 [],[]⟩ (N81) (fun (t : Bool) => (Exit.ret,⟨mkE 26 0 [(4,dB t)],[]⟩)) := .of fun K h => by
  simp only [N81,wpW] at h
  exact .of (by kernel_rfl) h
theorem Nqn (b d : List Int) {r : AV} {H' : Heap} (h : (Ans.mk _ (N2b b d) (fun (t : Bool) => (dB t,[])) [] none).run = some (r,H')) : Awp N3b LL (bodyOf Tryd.f32) Nv ⟨mkE 26 0 [(0,dL b),(1,dL d)],[]⟩ (Ret (tlook tys) Tryd.f32.results.toList r H') :=
  ret_of' (Link.cast (by kernel_rfl) (by kernel_rfl) (link_group (c := (cq [0,1] (bodyOf Tryd.f32))) (a := (aq [0,1] Nv)) [(cq [0] (bodyOf Tryd.f32))] [(aq [0] Nv)] rfl (link_seq2 (Ns4 b d) (fun (t : Unit) => (link_seq2 (link_seq (Nqa b d) (fun (t : Unit) => (link_block (fin2 := (Sum.elim (fun (t : Unit) => (Exit.normal,⟨mkE 26 0 [],[]⟩)) (fun (t : Bool) => (Exit.ret,⟨mkE 26 0 [(4,dB t)],[]⟩)))) (id := 0) (link_loop (mk := fun (s : Int) => ⟨mkE 26 0 [(0,dL b),(1,dL d),(5,dI s)],[]⟩) (fin := (Sum.elim (fun (t : Bool) => (Exit.ret,⟨mkE 26 0 [(4,dB t)],[]⟩)) (fun (t : Unit) => ((Exit.exit 0),⟨mkE 26 0 [],[]⟩)))) (by
  rintro (t | t) f K h
  · exact h
  · exact h) (fun s => link_map (Nr0 b d s) (Sum.elim (fun (t : Int) => Sum.inl t) (Sum.elim (fun (t : Bool) => Sum.inr (Sum.inl t)) (fun (t : Unit) => Sum.inr (Sum.inr t)))) (by
  rintro (t | t | t)
  · kernel_rfl
  · kernel_rfl
  · kernel_rfl)) 0) (Sum.elim (fun (t : Bool) => (Sum.inr t)) (fun (t : Unit) => (Sum.inl ()))) (by
  rintro (t | t) K h
  · exact Eq.mp (by kernel_rfl) h
  · exact Eq.mp (by kernel_rfl) h)))) (fun (t : Unit) => (Nqx)) (fun (t : Bool) => t) (by
  rintro t
  · kernel_rfl) (by
  rintro t f K h
  · exact h))) (fun (t : Bool) => t) (by
  rintro t
  · kernel_rfl) (by
  rintro t f K h
  · exact h)))) (by unfold N2b; kernel_rfl) (by
  intro t
  exact ret_mk [dB t] (by kernel_rfl) (by kernel_rfl) (by kernel_rfl) (by kernel_rfl)) h
def N7j : Fun := fun avs H =>
  match avs,H with
  | [.dat (.list (.int .i64)) a,.dat (.list (.int .i64)) b],[] => ⟨_,N2b a b,fun (t : Bool) => (dB t,[]),[],none⟩
  | _,_ => Ans.no
theorem Nhx : Sound Tryd.prog 32 N7j := by
  refine fn_sound' (C := N3b) (c := bodyOf Tryd.f32) (cok_of tys_ok (alln) (alln) (by kernel_rfl)) Tryd.func32 (by kernel_rfl) LL Nv ?_
  intro avs H r H' h
  unfold N7j at h
  split at h
  · refine Awp.cast ?_ ?_ ?_ (Nqn _ _ h) <;> kernel_rfl
  · simp [Ans.no,Ans.run] at h

def Nt : Ann := (.seq (.leaf [0,1]) (.seq (.seq (.leaf [0,1,10]) (.cond (.seq (.leaf [4]) (.leaf [4])) (.leaf [0,1]))) (.seq (.seq (.leaf [0,1,5]) (.block (.loop (.seq (.seq (.leaf [0,1,5,14]) (.cond (.leaf [0,1,5]) (.leaf []))) (.seq (.block (.seq (.draw [8] [0,1,2,3,4,5,6,7,8,9] [] [0,1,5,26]) (.cond (.seq (.leaf [4]) (.leaf [4])) (.leaf [0,1,5])))) (.leaf [0,1,5])))))) (.seq (.leaf [4]) (.leaf [4])))))
noncomputable def N3v : Ctx := ⟨tlook tys,olook [(32,N7j)],ioF,0,false,[]⟩
theorem Nj2 (a b : List (List Int)) : Link N3v LL (Code.seq (cq [0] (bodyOf Tryd.f33)) (cq [0,1] (bodyOf Tryd.f33))) (Ann.seq (aq [0] Nt) (aq [0,1] Nt)) ⟨mkE 27 0 [(0,.dat (.list (.list (.int .i64))) a),(1,.dat (.list (.list (.int .i64))) b)],[]⟩ (N5m a b) (Sum.elim (fun (t : Unit) => (Exit.normal,⟨mkE 27 0 [(0,.dat (.list (.list (.int .i64))) a),(1,.dat (.list (.list (.int .i64))) b)],[]⟩)) (fun (t : Bool) => (Exit.ret,⟨mkE 27 0 [(4,dB t)],[]⟩))) := .of fun K h => by
  simp only [N5m,wpW] at h
  exact .of (by kernel_rfl) h
theorem Nmf (a b : List (List Int)) : Link N3v LL (cq [0,0,1,1] (bodyOf Tryd.f33)) (aq [0,0,1,1] Nt) ⟨mkE 27 0 [(0,.dat (.list (.list (.int .i64))) a),(1,.dat (.list (.list (.int .i64))) b)],[]⟩ (N70) (fun (t : Unit) => (Exit.normal,⟨mkE 27 0 [(0,.dat (.list (.list (.int .i64))) a),(1,.dat (.list (.list (.int .i64))) b),(5,dI 0)],[]⟩)) := .of fun K h => by
  simp only [N70,wpW] at h
  exact .of (by kernel_rfl) h
theorem Npw (a b : List (List Int)) (c : Int) : Link N3v LL (cq [0,0,1,0,1,1] (bodyOf Tryd.f33)) (aq [0,0,1,0,1,1] Nt) ⟨mkE 27 0 [(0,.dat (.list (.list (.int .i64))) a),(1,.dat (.list (.list (.int .i64))) b),(5,dI c)],[]⟩ (N2p a b c) (Sum.elim (fun (t : Int) => (Exit.normal,⟨mkE 27 0 [(0,.dat (.list (.list (.int .i64))) a),(1,.dat (.list (.list (.int .i64))) b),(5,dI t)],[]⟩)) (Sum.elim (fun (t : Bool) => (Exit.ret,⟨mkE 27 0 [(4,dB t)],[]⟩)) (fun (t : Unit) => ((Exit.exit 0),⟨mkE 27 0 [],[]⟩)))) := .of fun K h => by
  simp only [N2p,wpW] at h
  exact .of (by kernel_rfl) h
theorem Nmz : Link N3v LL (cq [1,1,1] (bodyOf Tryd.f33)) (aq [1,1,1] Nt) ⟨mkE 27 0 [],[]⟩ (N67) (fun (t : Bool) => (Exit.ret,⟨mkE 27 0 [(4,dB t)],[]⟩)) := .of fun K h => by
  simp only [N67,wpW] at h
  exact .of (by kernel_rfl) h
theorem Nwe (b d : List (List Int)) {r : AV} {H' : Heap} (h : (Ans.mk _ (N29 b d) (fun (t : Bool) => (dB t,[])) [] none).run = some (r,H')) : Awp N3v LL (bodyOf Tryd.f33) Nt ⟨mkE 27 0 [(0,.dat (.list (.list (.int .i64))) b),(1,.dat (.list (.list (.int .i64))) d)],[]⟩ (Ret (tlook tys) Tryd.f33.results.toList r H') :=
  ret_of' (Link.cast (by kernel_rfl) (by kernel_rfl) (link_group (c := (cq [0,1] (bodyOf Tryd.f33))) (a := (aq [0,1] Nt)) [(cq [0] (bodyOf Tryd.f33))] [(aq [0] Nt)] rfl (link_seq2 (Nj2 b d) (fun (t : Unit) => (link_seq2 (link_seq (Nmf b d) (fun (t : Unit) => (link_block (fin2 := (Sum.elim (fun (t : Unit) => (Exit.normal,⟨mkE 27 0 [],[]⟩)) (fun (t : Bool) => (Exit.ret,⟨mkE 27 0 [(4,dB t)],[]⟩)))) (id := 0) (link_loop (mk := fun (s : Int) => ⟨mkE 27 0 [(0,.dat (.list (.list (.int .i64))) b),(1,.dat (.list (.list (.int .i64))) d),(5,dI s)],[]⟩) (fin := (Sum.elim (fun (t : Bool) => (Exit.ret,⟨mkE 27 0 [(4,dB t)],[]⟩)) (fun (t : Unit) => ((Exit.exit 0),⟨mkE 27 0 [],[]⟩)))) (by
  rintro (t | t) f K h
  · exact h
  · exact h) (fun s => link_map (Npw b d s) (Sum.elim (fun (t : Int) => Sum.inl t) (Sum.elim (fun (t : Bool) => Sum.inr (Sum.inl t)) (fun (t : Unit) => Sum.inr (Sum.inr t)))) (by
  rintro (t | t | t)
  · kernel_rfl
  · kernel_rfl
  · kernel_rfl)) 0) (Sum.elim (fun (t : Bool) => (Sum.inr t)) (fun (t : Unit) => (Sum.inl ()))) (by
  rintro (t | t) K h
  · exact Eq.mp (by kernel_rfl) h
  · exact Eq.mp (by kernel_rfl) h)))) (fun (t : Unit) => (Nmz)) (fun (t : Bool) => t) (by
  rintro t
  · kernel_rfl) (by
  rintro t f K h
  · exact h))) (fun (t : Bool) => t) (by
  rintro t
  · kernel_rfl) (by
  rintro t f K h
  · exact h)))) (by unfold N29; kernel_rfl) (by
  intro t
  exact ret_mk [dB t] (by kernel_rfl) (by kernel_rfl) (by kernel_rfl) (by kernel_rfl)) h
def Nax : Fun := fun avs H =>
  match avs,H with
  | [.dat (.list (.list (.int .i64))) a,.dat (.list (.list (.int .i64))) b],[] => ⟨_,N29 a b,fun (t : Bool) => (dB t,[]),[],none⟩
  | _,_ => Ans.no
theorem Npu : Sound Tryd.prog 33 Nax := by
  refine fn_sound' (C := N3v) (c := bodyOf Tryd.f33) (cok_of tys_ok (allc Nhx alln) (allc Tryd.call32 alln) (by kernel_rfl)) Tryd.func33 (by kernel_rfl) LL Nt ?_
  intro avs H r H' h
  unfold Nax at h
  split at h
  · refine Awp.cast ?_ ?_ ?_ (Nwe _ _ h) <;> kernel_rfl
  · simp [Ans.no,Ans.run] at h

def Neg : Ann := (.seq (.leaf [2,3]) (.seq (.seq (.leaf [2,3,10]) (.cond (.seq (.leaf [4]) (.leaf [4])) (.leaf [2,3]))) (.seq (.seq (.leaf [16]) (.cond (.seq (.leaf [4]) (.leaf [4])) (.leaf []))) (.seq (.leaf [4]) (.leaf [4])))))
noncomputable def Ne0 : Ctx := ⟨tlook tys,olook [(32,N7j),(33,Nax)],ioF,0,false,[]⟩
theorem Nph (a : List Int) (b : List (List Int)) (c : List Int) (d : List (List Int)) : Link Ne0 LL (bodyOf Tryd.f10) Neg ⟨mkE 17 0 [(0,.agg [dL a,.dat (.list (.list (.int .i64))) b]),(1,.agg [dL c,.dat (.list (.list (.int .i64))) d])],[]⟩ (N7h a b c d) (fun (t : Bool) => (Exit.ret,⟨mkE 17 0 [(4,dB t)],[]⟩)) := .of fun K h => by
  simp only [N7h,wpW] at h
  exact .of (by kernel_rfl) h
theorem Num (a : List Int) (b : List (List Int)) (c : List Int) (d : List (List Int)) {r : AV} {H' : Heap} (h : (Ans.mk _ (N1e a b c d) (fun (t : Bool) => (dB t,[])) [] none).run = some (r,H')) : Awp Ne0 LL (bodyOf Tryd.f10) Neg ⟨mkE 17 0 [(0,.agg [dL a,.dat (.list (.list (.int .i64))) b]),(1,.agg [dL c,.dat (.list (.list (.int .i64))) d])],[]⟩ (Ret (tlook tys) Tryd.f10.results.toList r H') :=
  ret_of' (Nph a b c d) (by unfold N1e; kernel_rfl) (by
  intro t
  exact ret_mk [dB t] (by kernel_rfl) (by kernel_rfl) (by kernel_rfl) (by kernel_rfl)) h
def N8v : Fun := fun avs H =>
  match avs,H with
  | [.agg [.dat (.list (.int .i64)) a,.dat (.list (.list (.int .i64))) b],.agg [.dat (.list (.int .i64)) c,.dat (.list (.list (.int .i64))) d]],[] => ⟨_,N1e a b c d,fun (t : Bool) => (dB t,[]),[],none⟩
  | _,_ => Ans.no
theorem Nt2 : Sound Tryd.prog 10 N8v := by
  refine fn_sound' (C := Ne0) (c := bodyOf Tryd.f10) (cok_of tys_ok (allc Nhx (allc Npu alln)) (allc Tryd.call32 (allc Tryd.call33 alln)) (by kernel_rfl)) Tryd.func10 (by kernel_rfl) LL Neg ?_
  intro avs H r H' h
  unfold N8v at h
  split at h
  · refine Awp.cast ?_ ?_ ?_ (Num _ _ _ _ h) <;> kernel_rfl
  · simp [Ans.no,Ans.run] at h

def N3h : Ann := (.seq (.leaf [0,1]) (.seq (.seq (.leaf [0,1,5]) (.block (.loop (.seq (.seq (.leaf [0,1,5,9]) (.cond (.leaf [0,1,5]) (.leaf [1]))) (.seq (.block (.seq (.leaf [0,1,5]) (.leaf [0,1,5]))) (.leaf [0,1,5])))))) (.seq (.leaf [4]) (.leaf [4]))))
noncomputable def N3a : Ctx := ⟨tlook tys,olook [],ioF,1,false,[]⟩
theorem Nqy (a : Int) (b : List Int) : Link N3a LL (cq [0] (bodyOf Tryd.f34)) (aq [0] N3h) ⟨mkE 19 0 [(0,.slc 0),(1,dI a)],[some (sI b)]⟩ (N7p) (fun (t : Unit) => (Exit.normal,⟨mkE 19 0 [(0,.slc 0),(1,dI a)],[some (sI b)]⟩)) := .of fun K h => by
  simp only [N7p,wpW] at h
  exact .of (by kernel_rfl) h
theorem Nqz (a : Int) (b : List Int) : Link N3a LL (cq [0,0,1] (bodyOf Tryd.f34)) (aq [0,0,1] N3h) ⟨mkE 19 0 [(0,.slc 0),(1,dI a)],[some (sI b)]⟩ (N7d) (fun (t : Unit) => (Exit.normal,⟨mkE 19 0 [(0,.slc 0),(1,dI a),(5,dI 0)],[some (sI b)]⟩)) := .of fun K h => by
  simp only [N7d,wpW] at h
  exact .of (by kernel_rfl) h
theorem Npp (a b : Int) (c : List Int) : Link N3a LL (cq [0,0,1,0,1] (bodyOf Tryd.f34)) (aq [0,0,1,0,1] N3h) ⟨mkE 19 0 [(0,.slc 0),(1,dI a),(5,dI b)],[some (sI c)]⟩ (N4i a b c) (Sum.elim (fun (t : Int × Int × (List Int)) => (Exit.normal,⟨mkE 19 0 [(0,.slc 0),(1,dI t.1),(5,dI t.2.1)],[some (sI t.2.2)]⟩)) (fun (t : Int × (List Int)) => ((Exit.exit 0),⟨mkE 19 0 [(1,dI t.1)],[some (sI t.2)]⟩))) := .of fun K h => by
  simp only [N4i,wpW] at h
  exact .of (by kernel_rfl) h
theorem Nx2 (a : Int) (b : List Int) : Link N3a LL (cq [1,1] (bodyOf Tryd.f34)) (aq [1,1] N3h) ⟨mkE 19 0 [(1,dI a)],[some (sI b)]⟩ (N5z a b) (fun (t : Int × (List Int)) => (Exit.ret,⟨mkE 19 0 [(4,dI t.1)],[some (sI t.2)]⟩)) := .of fun K h => by
  simp only [N5z,wpW] at h
  exact .of (by kernel_rfl) h
theorem Ntr (a : Int) (b : List Int) {r : AV} {H' : Heap} (h : (Ans.mk _ (N1o a b) (fun (t : Int × (List Int)) => (dI t.1,[some (sI t.2)])) [] none).run = some (r,H')) : Awp N3a LL (bodyOf Tryd.f34) N3h ⟨mkE 19 0 [(0,.slc 0),(1,dI a)],[some (sI b)]⟩ (Ret (tlook tys) Tryd.f34.results.toList r H') :=
  ret_of' (Link.cast (by kernel_rfl) (by kernel_rfl) (link_seq (Nqy a b) (fun (t : Unit) => (link_seq (link_seq (Nqz a b) (fun (t : Unit) => (link_block (fin2 := (fun (t : Int × (List Int)) => (Exit.normal,⟨mkE 19 0 [(1,dI t.1)],[some (sI t.2)]⟩))) (id := 0) (link_loop (mk := fun (s : Int × Int × (List Int)) => ⟨mkE 19 0 [(0,.slc 0),(1,dI s.1),(5,dI s.2.1)],[some (sI s.2.2)]⟩) (fin := (fun (t : Int × (List Int)) => ((Exit.exit 0),⟨mkE 19 0 [(1,dI t.1)],[some (sI t.2)]⟩))) (by
  rintro t f K h
  · exact h) (fun s => link_map (Npp s.1 s.2.1 s.2.2) (Sum.elim (fun (t : Int × Int × (List Int)) => Sum.inl (t.1,t.2.1,t.2.2)) (fun (t : Int × (List Int)) => Sum.inr t)) (by
  rintro (t | t)
  · kernel_rfl
  · kernel_rfl)) (a,0,b)) (fun (t : Int × (List Int)) => (t.1,t.2)) (by
  rintro t K h
  · exact Eq.mp (by kernel_rfl) h)))) (fun (t : Int × (List Int)) => (Nx2 t.1 t.2)))))) (by unfold N1o; kernel_rfl) (by
  intro t
  exact ret_mk [dI t.1] (by kernel_rfl) (by kernel_rfl) (by kernel_rfl) (by kernel_rfl)) h
def N89 : Fun := fun avs H =>
  match avs,H with
  | [.slc 0,.dat (.int .i64) a],[some (.seq (.int .i64) b)] => ⟨_,N1o a b,fun (t : Int × (List Int)) => (dI t.1,[some (sI t.2)]),[],none⟩
  | _,_ => Ans.no
theorem Nhj : Sound Tryd.prog 34 N89 := by
  refine fn_sound' (C := N3a) (c := bodyOf Tryd.f34) (cok_of tys_ok (alln) (alln) (by kernel_rfl)) Tryd.func34 (by kernel_rfl) LL N3h ?_
  intro avs H r H' h
  unfold N89 at h
  split at h
  · refine Awp.cast ?_ ?_ ?_ (Ntr _ _ h) <;> kernel_rfl
  · simp [Ans.no,Ans.run] at h

def N2d : Ann := (.seq (.leaf [0,1]) (.seq (.seq (.leaf [0,1,5]) (.block (.loop (.seq (.seq (.leaf [0,1,5,9]) (.cond (.leaf [0,1,5]) (.leaf [1]))) (.seq (.block (.leafF [⟨7,0,true,some 0,none⟩] [0,1,5])) (.leaf [0,1,5])))))) (.seq (.leaf [4]) (.leaf [4]))))
noncomputable def N2w : Ctx := ⟨tlook tys,olook [(34,N89)],ioF,1,true,[]⟩
theorem Nt9 (a : Int) (b : List (List Int)) : Link N2w LL (cq [0] (bodyOf Tryd.f35)) (aq [0] N2d) ⟨mkE 19 0 [(0,.slc 0),(1,dI a)],[some (.nest (.int .i64) b 0 [])]⟩ (N7g) (fun (t : Unit) => (Exit.normal,⟨mkE 19 0 [(0,.slc 0),(1,dI a)],[some (.nest (.int .i64) b 0 [])]⟩)) := .of fun K h => by
  simp only [N7g,wpW] at h
  exact .of (by kernel_rfl) h
theorem Nj0 (a : Int) (b : List (List Int)) : Link N2w LL (cq [0,0,1] (bodyOf Tryd.f35)) (aq [0,0,1] N2d) ⟨mkE 19 0 [(0,.slc 0),(1,dI a)],[some (.nest (.int .i64) b 0 [])]⟩ (N80) (fun (t : Unit) => (Exit.normal,⟨mkE 19 0 [(0,.slc 0),(1,dI a),(5,dI 0)],[some (.nest (.int .i64) b 0 [])]⟩)) := .of fun K h => by
  simp only [N80,wpW] at h
  exact .of (by kernel_rfl) h
theorem Noz (a b : Int) (c : List (List Int)) : Link N2w LL (cq [0,0,1,0,1] (bodyOf Tryd.f35)) (aq [0,0,1,0,1] N2d) ⟨mkE 19 0 [(0,.slc 0),(1,dI a),(5,dI b)],[some (.nest (.int .i64) c 0 [])]⟩ (N2j a b c) (Sum.elim (fun (t : Int × Int × (List (List Int))) => (Exit.normal,⟨mkE 19 0 [(0,.slc 0),(1,dI t.1),(5,dI t.2.1)],[some (.nest (.int .i64) t.2.2 0 [])]⟩)) (fun (t : Int × (List (List Int))) => ((Exit.exit 0),⟨mkE 19 0 [(1,dI t.1)],[some (.nest (.int .i64) t.2 0 [])]⟩))) := .of fun K h => by
  simp only [N2j,wpW] at h
  exact .of (by kernel_rfl) h
theorem Nnl (a : Int) (b : List (List Int)) : Link N2w LL (cq [1,1] (bodyOf Tryd.f35)) (aq [1,1] N2d) ⟨mkE 19 0 [(1,dI a)],[some (.nest (.int .i64) b 0 [])]⟩ (N72 a b) (fun (t : Int × (List (List Int))) => (Exit.ret,⟨mkE 19 0 [(4,dI t.1)],[some (.nest (.int .i64) t.2 0 [])]⟩)) := .of fun K h => by
  simp only [N72,wpW] at h
  exact .of (by kernel_rfl) h
theorem Np7 (a : Int) (b : List (List Int)) {r : AV} {H' : Heap} (h : (Ans.mk _ (N28 a b) (fun (t : Int × (List (List Int))) => (dI t.1,[some (.nest (.int .i64) t.2 0 [])])) [] none).run = some (r,H')) : Awp N2w LL (bodyOf Tryd.f35) N2d ⟨mkE 19 0 [(0,.slc 0),(1,dI a)],[some (.nest (.int .i64) b 0 [])]⟩ (Ret (tlook tys) Tryd.f35.results.toList r H') :=
  ret_of' (Link.cast (by kernel_rfl) (by kernel_rfl) (link_seq (Nt9 a b) (fun (t : Unit) => (link_seq (link_seq (Nj0 a b) (fun (t : Unit) => (link_block (fin2 := (fun (t : Int × (List (List Int))) => (Exit.normal,⟨mkE 19 0 [(1,dI t.1)],[some (.nest (.int .i64) t.2 0 [])]⟩))) (id := 0) (link_loop (mk := fun (s : Int × Int × (List (List Int))) => ⟨mkE 19 0 [(0,.slc 0),(1,dI s.1),(5,dI s.2.1)],[some (.nest (.int .i64) s.2.2 0 [])]⟩) (fin := (fun (t : Int × (List (List Int))) => ((Exit.exit 0),⟨mkE 19 0 [(1,dI t.1)],[some (.nest (.int .i64) t.2 0 [])]⟩))) (by
  rintro t f K h
  · exact h) (fun s => link_map (Noz s.1 s.2.1 s.2.2) (Sum.elim (fun (t : Int × Int × (List (List Int))) => Sum.inl (t.1,t.2.1,t.2.2)) (fun (t : Int × (List (List Int))) => Sum.inr t)) (by
  rintro (t | t)
  · kernel_rfl
  · kernel_rfl)) (a,0,b)) (fun (t : Int × (List (List Int))) => (t.1,t.2)) (by
  rintro t K h
  · exact Eq.mp (by kernel_rfl) h)))) (fun (t : Int × (List (List Int))) => (Nnl t.1 t.2)))))) (by unfold N28; kernel_rfl) (by
  intro t
  exact ret_mk [dI t.1] (by kernel_rfl) (by kernel_rfl) (by kernel_rfl) (by kernel_rfl)) h
def Nc2 : Fun := fun avs H =>
  match avs,H with
  | [.slc 0,.dat (.int .i64) a],[some (.nest (.int .i64) b 0 [])] => ⟨_,N28 a b,fun (t : Int × (List (List Int))) => (dI t.1,[some (.nest (.int .i64) t.2 0 [])]),[],none⟩
  | _,_ => Ans.no
theorem Nrz : Sound Tryd.prog 35 Nc2 := by
  refine fn_sound' (C := N2w) (c := bodyOf Tryd.f35) (cok_of tys_ok (allc Nhj alln) (allc Tryd.call34 alln) (by kernel_rfl)) Tryd.func35 (by kernel_rfl) LL N2d ?_
  intro avs H r H' h
  unfold Nc2 at h
  split at h
  · refine Awp.cast ?_ ?_ ?_ (Np7 _ _ h) <;> kernel_rfl
  · simp [Ans.no,Ans.run] at h

def N95 : Ann := (.seq (.leaf [1,2]) (.seq (.leaf [1,2]) (.seq (.leaf [1]) (.seq (.leaf [4]) (.leaf [4])))))
noncomputable def Nbr : Ctx := ⟨tlook tys,olook [(34,N89),(35,Nc2)],ioF,2,true,[]⟩
theorem Njn (a : Int) (b : List Int) (c : List (List Int)) : Link Nbr LL (bodyOf Tryd.f11) N95 ⟨mkE 14 0 [(0,.agg [.slc 0,.slc 1]),(1,dI a)],[some (sI b),some (.nest (.int .i64) c 0 [])]⟩ (N64 a b c) (fun (t : Int × (List Int) × (List (List Int))) => (Exit.ret,⟨mkE 14 0 [(4,dI t.1)],[some (sI t.2.1),some (.nest (.int .i64) t.2.2 0 [])]⟩)) := .of fun K h => by
  simp only [N64,wpW] at h
  exact .of (by kernel_rfl) h
theorem Nx5 (a : Int) (b : List Int) (c : List (List Int)) {r : AV} {H' : Heap} (h : (Ans.mk _ (N1u a b c) (fun (t : Int × (List Int) × (List (List Int))) => (dI t.1,[some (sI t.2.1),some (.nest (.int .i64) t.2.2 0 [])])) [] none).run = some (r,H')) : Awp Nbr LL (bodyOf Tryd.f11) N95 ⟨mkE 14 0 [(0,.agg [.slc 0,.slc 1]),(1,dI a)],[some (sI b),some (.nest (.int .i64) c 0 [])]⟩ (Ret (tlook tys) Tryd.f11.results.toList r H') :=
  ret_of' (Njn a b c) (by unfold N1u; kernel_rfl) (by
  intro t
  exact ret_mk [dI t.1] (by kernel_rfl) (by kernel_rfl) (by kernel_rfl) (by kernel_rfl)) h
def Nel : Fun := fun avs H =>
  match avs,H with
  | [.agg [.slc 0,.slc 1],.dat (.int .i64) a],[some (.seq (.int .i64) b),some (.nest (.int .i64) c 0 [])] => ⟨_,N1u a b c,fun (t : Int × (List Int) × (List (List Int))) => (dI t.1,[some (sI t.2.1),some (.nest (.int .i64) t.2.2 0 [])]),[],none⟩
  | _,_ => Ans.no
theorem Nvs : Sound Tryd.prog 11 Nel := by
  refine fn_sound' (C := Nbr) (c := bodyOf Tryd.f11) (cok_of tys_ok (allc Nhj (allc Nrz alln)) (allc Tryd.call34 (allc Tryd.call35 alln)) (by kernel_rfl)) Tryd.func11 (by kernel_rfl) LL N95 ?_
  intro avs H r H' h
  unfold Nel at h
  split at h
  · refine Awp.cast ?_ ?_ ?_ (Nx5 _ _ _ h) <;> kernel_rfl
  · simp [Ans.no,Ans.run] at h

def N2m : Ann := (.seq (.leaf [0,1]) (.seq (.seq (.leaf [0,1,5]) (.block (.loop (.seq (.seq (.leaf [0,1,5,9]) (.cond (.leaf [0,1,5]) (.leaf [1]))) (.seq (.block (.seq (.seq (.leaf [0,1,5,17]) (.cond (.seq (.leaf [4]) (.leaf [4])) (.leaf [0,1,5]))) (.leaf [0,1,5]))) (.leaf [0,1,5])))))) (.seq (.leaf [4]) (.leaf [4]))))
noncomputable def N3r : Ctx := ⟨tlook tys,olook [],ioF,0,false,[]⟩
theorem Nve (a : List Int) (b : Int) : Link N3r LL (cq [0] (bodyOf Tryd.f36)) (aq [0] N2m) ⟨mkE 21 0 [(0,dL a),(1,dI b)],[]⟩ (N7l) (fun (t : Unit) => (Exit.normal,⟨mkE 21 0 [(0,dL a),(1,dI b)],[]⟩)) := .of fun K h => by
  simp only [N7l,wpW] at h
  exact .of (by kernel_rfl) h
theorem Ns3 (a : List Int) (b : Int) : Link N3r LL (cq [0,0,1] (bodyOf Tryd.f36)) (aq [0,0,1] N2m) ⟨mkE 21 0 [(0,dL a),(1,dI b)],[]⟩ (N85) (fun (t : Unit) => (Exit.normal,⟨mkE 21 0 [(0,dL a),(1,dI b),(5,dI 0)],[]⟩)) := .of fun K h => by
  simp only [N85,wpW] at h
  exact .of (by kernel_rfl) h
theorem Nmj (a : List Int) (b c : Int) : Link N3r LL (cq [0,0,1,0,1] (bodyOf Tryd.f36)) (aq [0,0,1,0,1] N2m) ⟨mkE 21 0 [(0,dL a),(1,dI b),(5,dI c)],[]⟩ (N4f a b c) (Sum.elim (fun (t : Int × Int) => (Exit.normal,⟨mkE 21 0 [(0,dL a),(1,dI t.1),(5,dI t.2)],[]⟩)) (Sum.elim (fun (t : Int) => (Exit.ret,⟨mkE 21 0 [(4,dI t)],[]⟩)) (fun (t : Int) => ((Exit.exit 0),⟨mkE 21 0 [(1,dI t)],[]⟩)))) := .of fun K h => by
  simp only [N4f,wpW] at h
  exact .of (by kernel_rfl) h
theorem Nzi (a : Int) : Link N3r LL (cq [1,1] (bodyOf Tryd.f36)) (aq [1,1] N2m) ⟨mkE 21 0 [(1,dI a)],[]⟩ (N4n a) (fun (t : Int) => (Exit.ret,⟨mkE 21 0 [(4,dI t)],[]⟩)) := .of fun K h => by
  simp only [N4n,wpW] at h
  exact .of (by kernel_rfl) h
theorem Nz8 (a : List Int) (b : Int) {r : AV} {H' : Heap} (h : (Ans.mk _ (N1p a b) (fun (t : Int) => (dI t,[])) [] none).run = some (r,H')) : Awp N3r LL (bodyOf Tryd.f36) N2m ⟨mkE 21 0 [(0,dL a),(1,dI b)],[]⟩ (Ret (tlook tys) Tryd.f36.results.toList r H') :=
  ret_of' (Link.cast (by kernel_rfl) (by kernel_rfl) (link_seq (Nve a b) (fun (t : Unit) => (link_seq2 (link_seq (Ns3 a b) (fun (t : Unit) => (link_block (fin2 := (Sum.elim (fun (t : Int) => (Exit.normal,⟨mkE 21 0 [(1,dI t)],[]⟩)) (fun (t : Int) => (Exit.ret,⟨mkE 21 0 [(4,dI t)],[]⟩)))) (id := 0) (link_loop (mk := fun (s : Int × Int) => ⟨mkE 21 0 [(0,dL a),(1,dI s.1),(5,dI s.2)],[]⟩) (fin := (Sum.elim (fun (t : Int) => (Exit.ret,⟨mkE 21 0 [(4,dI t)],[]⟩)) (fun (t : Int) => ((Exit.exit 0),⟨mkE 21 0 [(1,dI t)],[]⟩)))) (by
  rintro (t | t) f K h
  · exact h
  · exact h) (fun s => link_map (Nmj a s.1 s.2) (Sum.elim (fun (t : Int × Int) => Sum.inl (t.1,t.2)) (Sum.elim (fun (t : Int) => Sum.inr (Sum.inl t)) (fun (t : Int) => Sum.inr (Sum.inr t)))) (by
  rintro (t | t | t)
  · kernel_rfl
  · kernel_rfl
  · kernel_rfl)) (b,0)) (Sum.elim (fun (t : Int) => (Sum.inr t)) (fun (t : Int) => (Sum.inl t))) (by
  rintro (t | t) K h
  · exact Eq.mp (by kernel_rfl) h
  · exact Eq.mp (by kernel_rfl) h)))) (fun (t : Int) => (Nzi t)) (fun (t : Int) => t) (by
  rintro t
  · kernel_rfl) (by
  rintro t f K h
  · exact h))))) (by unfold N1p; kernel_rfl) (by
  intro t
  exact ret_mk [dI t] (by kernel_rfl) (by kernel_rfl) (by kernel_rfl) (by kernel_rfl)) h
def N7n : Fun := fun avs H =>
  match avs,H with
  | [.dat (.list (.int .i64)) a,.dat (.int .i64) b],[] => ⟨_,N1p a b,fun (t : Int) => (dI t,[]),[],none⟩
  | _,_ => Ans.no
theorem Nhf : Sound Tryd.prog 36 N7n := by
  refine fn_sound' (C := N3r) (c := bodyOf Tryd.f36) (cok_of tys_ok (alln) (alln) (by kernel_rfl)) Tryd.func36 (by kernel_rfl) LL N2m ?_
  intro avs H r H' h
  unfold N7n at h
  split at h
  · refine Awp.cast ?_ ?_ ?_ (Nz8 _ _ h) <;> kernel_rfl
  · simp [Ans.no,Ans.run] at h

def N33 : Ann := (.seq (.leaf [0,1]) (.seq (.seq (.leaf [0,1,5]) (.block (.loop (.seq (.seq (.leaf [0,1,5,9]) (.cond (.leaf [0,1,5]) (.leaf [1]))) (.seq (.block (.seq (.leaf [0,1,5]) (.seq (.leaf [0,1,5,19]) (.cond (.seq (.leaf [4]) (.leaf [4])) (.leaf [0,1,5]))))) (.leaf [0,1,5])))))) (.seq (.leaf [4]) (.leaf [4]))))
noncomputable def N2s : Ctx := ⟨tlook tys,olook [(36,N7n)],ioF,0,false,[]⟩
theorem Nkn (a : List (List Int)) (b : Int) : Link N2s LL (cq [0] (bodyOf Tryd.f37)) (aq [0] N33) ⟨mkE 21 0 [(0,.dat (.list (.list (.int .i64))) a),(1,dI b)],[]⟩ (N5y) (fun (t : Unit) => (Exit.normal,⟨mkE 21 0 [(0,.dat (.list (.list (.int .i64))) a),(1,dI b)],[]⟩)) := .of fun K h => by
  simp only [N5y,wpW] at h
  exact .of (by kernel_rfl) h
theorem Nze (a : List (List Int)) (b : Int) : Link N2s LL (cq [0,0,1] (bodyOf Tryd.f37)) (aq [0,0,1] N33) ⟨mkE 21 0 [(0,.dat (.list (.list (.int .i64))) a),(1,dI b)],[]⟩ (N4y) (fun (t : Unit) => (Exit.normal,⟨mkE 21 0 [(0,.dat (.list (.list (.int .i64))) a),(1,dI b),(5,dI 0)],[]⟩)) := .of fun K h => by
  simp only [N4y,wpW] at h
  exact .of (by kernel_rfl) h
theorem Ns9 (a : List (List Int)) (b c : Int) : Link N2s LL (cq [0,0,1,0,1] (bodyOf Tryd.f37)) (aq [0,0,1,0,1] N33) ⟨mkE 21 0 [(0,.dat (.list (.list (.int .i64))) a),(1,dI b),(5,dI c)],[]⟩ (N2q a b c) (Sum.elim (fun (t : Int × Int) => (Exit.normal,⟨mkE 21 0 [(0,.dat (.list (.list (.int .i64))) a),(1,dI t.1),(5,dI t.2)],[]⟩)) (Sum.elim (fun (t : Int) => (Exit.ret,⟨mkE 21 0 [(4,dI t)],[]⟩)) (fun (t : Int) => ((Exit.exit 0),⟨mkE 21 0 [(1,dI t)],[]⟩)))) := .of fun K h => by
  simp only [N2q,wpW] at h
  exact .of (by kernel_rfl) h
theorem Nmp (a : Int) : Link N2s LL (cq [1,1] (bodyOf Tryd.f37)) (aq [1,1] N33) ⟨mkE 21 0 [(1,dI a)],[]⟩ (N7q a) (fun (t : Int) => (Exit.ret,⟨mkE 21 0 [(4,dI t)],[]⟩)) := .of fun K h => by
  simp only [N7q,wpW] at h
  exact .of (by kernel_rfl) h
theorem Nsl (a : List (List Int)) (b : Int) {r : AV} {H' : Heap} (h : (Ans.mk _ (N1t a b) (fun (t : Int) => (dI t,[])) [] none).run = some (r,H')) : Awp N2s LL (bodyOf Tryd.f37) N33 ⟨mkE 21 0 [(0,.dat (.list (.list (.int .i64))) a),(1,dI b)],[]⟩ (Ret (tlook tys) Tryd.f37.results.toList r H') :=
  ret_of' (Link.cast (by kernel_rfl) (by kernel_rfl) (link_seq (Nkn a b) (fun (t : Unit) => (link_seq2 (link_seq (Nze a b) (fun (t : Unit) => (link_block (fin2 := (Sum.elim (fun (t : Int) => (Exit.normal,⟨mkE 21 0 [(1,dI t)],[]⟩)) (fun (t : Int) => (Exit.ret,⟨mkE 21 0 [(4,dI t)],[]⟩)))) (id := 0) (link_loop (mk := fun (s : Int × Int) => ⟨mkE 21 0 [(0,.dat (.list (.list (.int .i64))) a),(1,dI s.1),(5,dI s.2)],[]⟩) (fin := (Sum.elim (fun (t : Int) => (Exit.ret,⟨mkE 21 0 [(4,dI t)],[]⟩)) (fun (t : Int) => ((Exit.exit 0),⟨mkE 21 0 [(1,dI t)],[]⟩)))) (by
  rintro (t | t) f K h
  · exact h
  · exact h) (fun s => link_map (Ns9 a s.1 s.2) (Sum.elim (fun (t : Int × Int) => Sum.inl (t.1,t.2)) (Sum.elim (fun (t : Int) => Sum.inr (Sum.inl t)) (fun (t : Int) => Sum.inr (Sum.inr t)))) (by
  rintro (t | t | t)
  · kernel_rfl
  · kernel_rfl
  · kernel_rfl)) (b,0)) (Sum.elim (fun (t : Int) => (Sum.inr t)) (fun (t : Int) => (Sum.inl t))) (by
  rintro (t | t) K h
  · exact Eq.mp (by kernel_rfl) h
  · exact Eq.mp (by kernel_rfl) h)))) (fun (t : Int) => (Nmp t)) (fun (t : Int) => t) (by
  rintro t
  · kernel_rfl) (by
  rintro t f K h
  · exact h))))) (by unfold N1t; kernel_rfl) (by
  intro t
  exact ret_mk [dI t] (by kernel_rfl) (by kernel_rfl) (by kernel_rfl) (by kernel_rfl)) h
def Ne2 : Fun := fun avs H =>
  match avs,H with
  | [.dat (.list (.list (.int .i64))) a,.dat (.int .i64) b],[] => ⟨_,N1t a b,fun (t : Int) => (dI t,[]),[],none⟩
  | _,_ => Ans.no
theorem Nzd : Sound Tryd.prog 37 Ne2 := by
  refine fn_sound' (C := N2s) (c := bodyOf Tryd.f37) (cok_of tys_ok (allc Nhf alln) (allc Tryd.call36 alln) (by kernel_rfl)) Tryd.func37 (by kernel_rfl) LL N33 ?_
  intro avs H r H' h
  unfold Ne2 at h
  split at h
  · refine Awp.cast ?_ ?_ ?_ (Nsl _ _ h) <;> kernel_rfl
  · simp [Ans.no,Ans.run] at h

def Naq : Ann := (.seq (.leaf [1,2]) (.seq (.leaf [1,2]) (.seq (.seq (.leaf [1,2,10]) (.cond (.seq (.leaf [4]) (.leaf [4])) (.leaf [1,2]))) (.seq (.leaf [1]) (.seq (.seq (.leaf [1,16]) (.cond (.seq (.leaf [4]) (.leaf [4])) (.leaf [1]))) (.seq (.leaf [4]) (.leaf [4])))))))
noncomputable def N9o : Ctx := ⟨tlook tys,olook [(36,N7n),(37,Ne2)],ioF,0,false,[]⟩
theorem Nrm (a : List Int) (b : List (List Int)) (c : Int) : Link N9o LL (bodyOf Tryd.f12) Naq ⟨mkE 18 0 [(0,.agg [dL a,.dat (.list (.list (.int .i64))) b]),(1,dI c)],[]⟩ (N6d a b c) (fun (t : Int) => (Exit.ret,⟨mkE 18 0 [(4,dI t)],[]⟩)) := .of fun K h => by
  simp only [N6d,wpW] at h
  exact .of (by kernel_rfl) h
theorem Nwl (a : List Int) (b : List (List Int)) (c : Int) {r : AV} {H' : Heap} (h : (Ans.mk _ (N21 a b c) (fun (t : Int) => (dI t,[])) [] none).run = some (r,H')) : Awp N9o LL (bodyOf Tryd.f12) Naq ⟨mkE 18 0 [(0,.agg [dL a,.dat (.list (.list (.int .i64))) b]),(1,dI c)],[]⟩ (Ret (tlook tys) Tryd.f12.results.toList r H') :=
  ret_of' (Nrm a b c) (by unfold N21; kernel_rfl) (by
  intro t
  exact ret_mk [dI t] (by kernel_rfl) (by kernel_rfl) (by kernel_rfl) (by kernel_rfl)) h
def Ndj : Fun := fun avs H =>
  match avs,H with
  | [.agg [.dat (.list (.int .i64)) a,.dat (.list (.list (.int .i64))) b],.dat (.int .i64) c],[] => ⟨_,N21 a b c,fun (t : Int) => (dI t,[]),[],none⟩
  | _,_ => Ans.no
theorem Nwm : Sound Tryd.prog 12 Ndj := by
  refine fn_sound' (C := N9o) (c := bodyOf Tryd.f12) (cok_of tys_ok (allc Nhf (allc Nzd alln)) (allc Tryd.call36 (allc Tryd.call37 alln)) (by kernel_rfl)) Tryd.func12 (by kernel_rfl) LL Naq ?_
  intro avs H r H' h
  unfold Ndj at h
  split at h
  · refine Awp.cast ?_ ?_ ?_ (Nwl _ _ _ h) <;> kernel_rfl
  · simp [Ans.no,Ans.run] at h

def Nab : Ann := (.seq (.leaf [0,1]) (.seq (.leaf [1]) (.seq (.seq (.leaf [1,10]) (.cond (.seq (.leaf [4]) (.leaf [4])) (.leaf [1]))) (.seq (.leaf [4]) (.leaf [4])))))
noncomputable def Nb7 : Ctx := ⟨tlook tys,olook [],ioF,0,false,[]⟩
theorem Nr9 (a : List (Int × Int × Int × Unit)) (b : Int) : Link Nb7 LL (bodyOf Tryd.f13) Nab ⟨mkE 12 0 [(0,.dat (.list (.pair (.int .i64) (.pair (.int .i64) (.pair (.int .i64) .unit)))) a),(1,dI b)],[]⟩ (N87 a b) (fun (t : Int) => (Exit.ret,⟨mkE 12 0 [(4,dI t)],[]⟩)) := .of fun K h => by
  simp only [N87,wpW] at h
  exact .of (by kernel_rfl) h
theorem Nsa (a : List (Int × Int × Int × Unit)) (b : Int) {r : AV} {H' : Heap} (h : (Ans.mk _ (N4k a b) (fun (t : Int) => (dI t,[])) [] none).run = some (r,H')) : Awp Nb7 LL (bodyOf Tryd.f13) Nab ⟨mkE 12 0 [(0,.dat (.list (.pair (.int .i64) (.pair (.int .i64) (.pair (.int .i64) .unit)))) a),(1,dI b)],[]⟩ (Ret (tlook tys) Tryd.f13.results.toList r H') :=
  ret_of' (Nr9 a b) (by unfold N4k; kernel_rfl) (by
  intro t
  exact ret_mk [dI t] (by kernel_rfl) (by kernel_rfl) (by kernel_rfl) (by kernel_rfl)) h
def N8e : Fun := fun avs H =>
  match avs,H with
  | [.dat (.list (.pair (.int .i64) (.pair (.int .i64) (.pair (.int .i64) .unit)))) a,.dat (.int .i64) b],[] => ⟨_,N4k a b,fun (t : Int) => (dI t,[]),[],none⟩
  | _,_ => Ans.no
theorem Nlo : Sound Tryd.prog 13 N8e := by
  refine fn_sound' (C := Nb7) (c := bodyOf Tryd.f13) (cok_of tys_ok (alln) (alln) (by kernel_rfl)) Tryd.func13 (by kernel_rfl) LL Nab ?_
  intro avs H r H' h
  unfold N8e at h
  split at h
  · refine Awp.cast ?_ ?_ ?_ (Nsa _ _ h) <;> kernel_rfl
  · simp [Ans.no,Ans.run] at h

def N19 : Ann := (.seq (.leaf [0]) (.seq (.leaf [0,3]) (.seq (.seq (.leaf [0,3,4]) (.block (.loop (.seq (.seq (.leaf [0,3,4,11]) (.cond (.leaf [0,3,4]) (.leaf [3]))) (.seq (.block (.leaf [0,3,4])) (.leaf [0,3,4])))))) (.seq (.leaf [2]) (.leaf [2])))))
noncomputable def N32 : Ctx := ⟨tlook tys,olook [(8,Neu)],ioF,0,false,[]⟩
theorem Nk1 (a : List (Int × Int × Int × Unit)) : Link N32 LL (Code.seq (cq [0] (bodyOf Tryd.f15)) (cq [0,1] (bodyOf Tryd.f15))) (Ann.seq (aq [0] N19) (aq [0,1] N19)) ⟨mkE 23 0 [(0,.dat (.list (.pair (.int .i64) (.pair (.int .i64) (.pair (.int .i64) .unit)))) a)],[]⟩ (N57 a) (fun (t : (List (Int × Int × Int × Unit))) => (Exit.normal,⟨mkE 23 0 [(0,.dat (.list (.pair (.int .i64) (.pair (.int .i64) (.pair (.int .i64) .unit)))) a),(3,.slc 0)],[some (.seq (.pair (.int .i64) (.pair (.int .i64) (.pair (.int .i64) .unit))) t)]⟩)) := .of fun K h => by
  simp only [N57,wpW] at h
  exact .of (by kernel_rfl) h
theorem Nxv (a b : List (Int × Int × Int × Unit)) : Link N32 LL (cq [0,0,1,1] (bodyOf Tryd.f15)) (aq [0,0,1,1] N19) ⟨mkE 23 0 [(0,.dat (.list (.pair (.int .i64) (.pair (.int .i64) (.pair (.int .i64) .unit)))) a),(3,.slc 0)],[some (.seq (.pair (.int .i64) (.pair (.int .i64) (.pair (.int .i64) .unit))) b)]⟩ (N6v) (fun (t : Unit) => (Exit.normal,⟨mkE 23 0 [(0,.dat (.list (.pair (.int .i64) (.pair (.int .i64) (.pair (.int .i64) .unit)))) a),(3,.slc 0),(4,dI 0)],[some (.seq (.pair (.int .i64) (.pair (.int .i64) (.pair (.int .i64) .unit))) b)]⟩)) := .of fun K h => by
  simp only [N6v,wpW] at h
  exact .of (by kernel_rfl) h
theorem Nm3 (a : List (Int × Int × Int × Unit)) (b : Int) (c : List (Int × Int × Int × Unit)) : Link N32 LL (cq [0,0,1,0,1,1] (bodyOf Tryd.f15)) (aq [0,0,1,0,1,1] N19) ⟨mkE 23 0 [(0,.dat (.list (.pair (.int .i64) (.pair (.int .i64) (.pair (.int .i64) .unit)))) a),(3,.slc 0),(4,dI b)],[some (.seq (.pair (.int .i64) (.pair (.int .i64) (.pair (.int .i64) .unit))) c)]⟩ (N2n a b c) (Sum.elim (fun (t : Int × (List (Int × Int × Int × Unit))) => (Exit.normal,⟨mkE 23 0 [(0,.dat (.list (.pair (.int .i64) (.pair (.int .i64) (.pair (.int .i64) .unit)))) a),(3,.slc 0),(4,dI t.1)],[some (.seq (.pair (.int .i64) (.pair (.int .i64) (.pair (.int .i64) .unit))) t.2)]⟩)) (fun (t : (List (Int × Int × Int × Unit))) => ((Exit.exit 0),⟨mkE 23 0 [(3,.slc 0)],[some (.seq (.pair (.int .i64) (.pair (.int .i64) (.pair (.int .i64) .unit))) t)]⟩))) := .of fun K h => by
  simp only [N2n,wpW] at h
  exact .of (by kernel_rfl) h
theorem Nrd (a : List (Int × Int × Int × Unit)) : Link N32 LL (cq [1,1,1] (bodyOf Tryd.f15)) (aq [1,1,1] N19) ⟨mkE 23 0 [(3,.slc 0)],[some (.seq (.pair (.int .i64) (.pair (.int .i64) (.pair (.int .i64) .unit))) a)]⟩ (N4l a) (fun (t : (List (Int × Int × Int × Unit))) => (Exit.ret,⟨mkE 23 0 [(2,.slc 0)],[some (.seq (.pair (.int .i64) (.pair (.int .i64) (.pair (.int .i64) .unit))) t)]⟩)) := .of fun K h => by
  simp only [N4l,wpW] at h
  exact .of (by kernel_rfl) h
theorem Nji (b : List (Int × Int × Int × Unit)) {r : AV} {H' : Heap} (h : (Ans.mk _ (Nq b) (fun (t : (List (Int × Int × Int × Unit))) => (.slc 0,[some (.seq (.pair (.int .i64) (.pair (.int .i64) (.pair (.int .i64) .unit))) t)])) [] none).run = some (r,H')) : Awp N32 LL (bodyOf Tryd.f15) N19 ⟨mkE 23 0 [(0,.dat (.list (.pair (.int .i64) (.pair (.int .i64) (.pair (.int .i64) .unit)))) b)],[]⟩ (Ret (tlook tys) Tryd.f15.results.toList r H') :=
  ret_of' (Link.cast (by kernel_rfl) (by kernel_rfl) (link_group (c := (cq [0,1] (bodyOf Tryd.f15))) (a := (aq [0,1] N19)) [(cq [0] (bodyOf Tryd.f15))] [(aq [0] N19)] rfl (link_seq (Nk1 b) (fun (t : (List (Int × Int × Int × Unit))) => (link_seq (link_seq (Nxv b t) (fun (t22 : Unit) => (link_block (fin2 := (fun (t22 : (List (Int × Int × Int × Unit))) => (Exit.normal,⟨mkE 23 0 [(3,.slc 0)],[some (.seq (.pair (.int .i64) (.pair (.int .i64) (.pair (.int .i64) .unit))) t22)]⟩))) (id := 0) (link_loop (mk := fun (s : Int × (List (Int × Int × Int × Unit))) => ⟨mkE 23 0 [(0,.dat (.list (.pair (.int .i64) (.pair (.int .i64) (.pair (.int .i64) .unit)))) b),(3,.slc 0),(4,dI s.1)],[some (.seq (.pair (.int .i64) (.pair (.int .i64) (.pair (.int .i64) .unit))) s.2)]⟩) (fin := (fun (t22 : (List (Int × Int × Int × Unit))) => ((Exit.exit 0),⟨mkE 23 0 [(3,.slc 0)],[some (.seq (.pair (.int .i64) (.pair (.int .i64) (.pair (.int .i64) .unit))) t22)]⟩))) (by
  rintro t22 f K h
  · exact h) (fun s => link_map (Nm3 b s.1 s.2) (Sum.elim (fun (t22 : Int × (List (Int × Int × Int × Unit))) => Sum.inl (t22.1,t22.2)) (fun (t22 : (List (Int × Int × Int × Unit))) => Sum.inr t22)) (by
  rintro (t22 | t22)
  · kernel_rfl
  · kernel_rfl)) (0,t)) (fun (t22 : (List (Int × Int × Int × Unit))) => t22) (by
  rintro t22 K h
  · exact Eq.mp (by kernel_rfl) h)))) (fun (t22 : (List (Int × Int × Int × Unit))) => (Nrd t22))))))) (by unfold Nq; kernel_rfl) (by
  intro t
  exact ret_mk [.slc 0] (by kernel_rfl) (by kernel_rfl) (by kernel_rfl) (by kernel_rfl)) h
def Neq : Fun := fun avs H =>
  match avs,H with
  | [.dat (.list (.pair (.int .i64) (.pair (.int .i64) (.pair (.int .i64) .unit)))) a],[] => ⟨_,Nq a,fun (t : (List (Int × Int × Int × Unit))) => (.slc 0,[some (.seq (.pair (.int .i64) (.pair (.int .i64) (.pair (.int .i64) .unit))) t)]),[],none⟩
  | _,_ => Ans.no
theorem Nq9 : Sound Tryd.prog 15 Neq := by
  refine fn_sound' (C := N32) (c := bodyOf Tryd.f15) (cok_of tys_ok (allc Nj8 alln) (allc Tryd.call8 alln) (by kernel_rfl)) Tryd.func15 (by kernel_rfl) LL N19 ?_
  intro avs H r H' h
  unfold Neq at h
  split at h
  · refine Awp.cast ?_ ?_ ?_ (Nji _ h) <;> kernel_rfl
  · simp [Ans.no,Ans.run] at h

def N6 : Ann := (.seq (.leaf [1,2,4]) (.seq (.seq (.leaf [1,2,4,18]) (.cond (.seq (.leaf [4,5]) (.leafF [⟨0,4,false,some 0,some (.int .i64)⟩,⟨0,4,true,some 1,some (.int .i64)⟩] [4,5])) (.leaf [1,2,4]))) (.seq (.leaf [1,4,6]) (.seq (.leaf [1,4,6,7]) (.seq (.seq (.leaf [1,4,6,7,8]) (.block (.loop (.seq (.seq (.leaf [1,4,6,7,8,25]) (.cond (.leaf [1,4,6,7,8]) (.leaf [4,6,7]))) (.seq (.block (.seq (.draw [5] [0,1,2,3,4,5,6,7,8,9,10,11] [] [1,4,6,7,8,9,10]) (.seq (.leaf [1,4,6,7,8,9,37]) (.cond (.seq (.leaf [1,4,6,7,8]) (.leaf [1,4,6,7,8])) (.leaf [1,4,6,7,8]))))) (.leaf [1,4,6,7,8])))))) (.seq (.leaf [4,5]) (.leaf [4,5])))))))
noncomputable def N3d : Ctx := ⟨tlook tys,olook [(21,N6k),(22,N56),(6,N99)],ioF,0,false,[]⟩
theorem Nrc (a : List Int) (b : List (List Int)) (c : List (Int × Int × Int × Unit)) : Link N3d LL (Code.seq (cq [0] (bodyOf Tryd.f14)) (Code.seq (cq [0,1] (bodyOf Tryd.f14)) (Code.seq (cq [0,1,1] (bodyOf Tryd.f14)) (cq [0,1,1,1] (bodyOf Tryd.f14))))) (Ann.seq (aq [0] N6) (Ann.seq (aq [0,1] N6) (Ann.seq (aq [0,1,1] N6) (aq [0,1,1,1] N6)))) ⟨mkE 43 0 [(0,.agg [dL a,.dat (.list (.list (.int .i64))) b]),(1,.dat (.list (.pair (.int .i64) (.pair (.int .i64) (.pair (.int .i64) .unit)))) c)],[]⟩ (N6h a b c) (Sum.elim (fun (t : (List Int) × (List (List Int))) => (Exit.normal,⟨mkE 43 0 [(1,.dat (.list (.pair (.int .i64) (.pair (.int .i64) (.pair (.int .i64) .unit)))) c),(4,.ptr 0 0),(6,.ptr 1 0),(7,dI 0)],[some (.box [.nils,.nils]),some (.box [.slc 2,.slc 3]),some (sI t.1),some (.nest (.int .i64) t.2 0 [])]⟩)) (fun (t : Int × (List Int) × (List (List Int))) => (Exit.ret,⟨mkE 43 0 [(4,.ptr 0 0),(5,dI t.1)],[some (.box [.slc 1,.slc 2]),some (sI t.2.1),some (.nest (.int .i64) t.2.2 0 [])]⟩))) := .of fun K h => by
  simp only [N6h,wpW] at h
  exact .of (by kernel_rfl) h
theorem Nnc (a : List (Int × Int × Int × Unit)) (b : List Int) (c : List (List Int)) : Link N3d LL (cq [0,0,1,1,1,1] (bodyOf Tryd.f14)) (aq [0,0,1,1,1,1] N6) ⟨mkE 43 0 [(1,.dat (.list (.pair (.int .i64) (.pair (.int .i64) (.pair (.int .i64) .unit)))) a),(4,.ptr 0 0),(6,.ptr 1 0),(7,dI 0)],[some (.box [.nils,.nils]),some (.box [.slc 2,.slc 3]),some (sI b),some (.nest (.int .i64) c 0 [])]⟩ (N4w) (fun (t : Unit) => (Exit.normal,⟨mkE 43 0 [(1,.dat (.list (.pair (.int .i64) (.pair (.int .i64) (.pair (.int .i64) .unit)))) a),(4,.ptr 0 0),(6,.ptr 1 0),(7,dI 0),(8,dI 0)],[some (.box [.nils,.nils]),some (.box [.slc 2,.slc 3]),some (sI b),some (.nest (.int .i64) c 0 [])]⟩)) := .of fun K h => by
  simp only [N4w,wpW] at h
  exact .of (by kernel_rfl) h
theorem Nuc (a : List (Int × Int × Int × Unit)) (b c : Int) (d : List Int) (g : List (List Int)) : Link N3d LL (cq [0,0,1,0,1,1,1,1] (bodyOf Tryd.f14)) (aq [0,0,1,0,1,1,1,1] N6) ⟨mkE 43 0 [(1,.dat (.list (.pair (.int .i64) (.pair (.int .i64) (.pair (.int .i64) .unit)))) a),(4,.ptr 0 0),(6,.ptr 1 0),(7,dI b),(8,dI c)],[some (.box [.nils,.nils]),some (.box [.slc 2,.slc 3]),some (sI d),some (.nest (.int .i64) g 0 [])]⟩ (N2x a b c d g) (Sum.elim (fun (t : Int × Int × (List Int) × (List (List Int))) => (Exit.normal,⟨mkE 43 0 [(1,.dat (.list (.pair (.int .i64) (.pair (.int .i64) (.pair (.int .i64) .unit)))) a),(4,.ptr 0 0),(6,.ptr 1 0),(7,dI t.1),(8,dI t.2.1)],[some (.box [.nils,.nils]),some (.box [.slc 2,.slc 3]),some (sI t.2.2.1),some (.nest (.int .i64) t.2.2.2 0 [])]⟩)) (fun (t : Int × (List Int) × (List (List Int))) => ((Exit.exit 0),⟨mkE 43 0 [(4,.ptr 0 0),(6,.ptr 1 0),(7,dI t.1)],[some (.box [.nils,.nils]),some (.box [.slc 2,.slc 3]),some (sI t.2.1),some (.nest (.int .i64) t.2.2 0 [])]⟩))) := .of fun K h => by
  simp only [N2x,wpW] at h
  exact .of (by kernel_rfl) h
theorem Nte (a : Int) (b : List Int) (c : List (List Int)) : Link N3d LL (cq [1,1,1,1,1] (bodyOf Tryd.f14)) (aq [1,1,1,1,1] N6) ⟨mkE 43 0 [(4,.ptr 0 0),(6,.ptr 1 0),(7,dI a)],[some (.box [.nils,.nils]),some (.box [.slc 2,.slc 3]),some (sI b),some (.nest (.int .i64) c 0 [])]⟩ (Nda a b c) (fun (t : Int × (List Int) × (List (List Int))) => (Exit.ret,⟨mkE 43 0 [(4,.ptr 0 0),(5,dI t.1)],[some (.box [.slc 1,.slc 2]),some (sI t.2.1),some (.nest (.int .i64) t.2.2 0 [])]⟩)) := .of fun K h => by
  simp only [Nda,wpW] at h
  exact .of (by kernel_rfl) h
theorem Np4 (b : List Int) (d : List (List Int)) (g : List (Int × Int × Int × Unit)) {r : AV} {H' : Heap} (h : (Ans.mk _ (N24 b d g) (fun (t : Int × (List Int) × (List (List Int))) => (.tup [.agg [.slc 1,.slc 2],dI t.1],[some (.box [.slc 1,.slc 2]),some (sI t.2.1),some (.nest (.int .i64) t.2.2 0 [])])) [] none).run = some (r,H')) : Awp N3d LL (bodyOf Tryd.f14) N6 ⟨mkE 43 0 [(0,.agg [dL b,.dat (.list (.list (.int .i64))) d]),(1,.dat (.list (.pair (.int .i64) (.pair (.int .i64) (.pair (.int .i64) .unit)))) g)],[]⟩ (Ret (tlook tys) Tryd.f14.results.toList r H') :=
  ret_of' (Link.cast (by kernel_rfl) (by kernel_rfl) (link_group (c := (cq [0,1,1,1] (bodyOf Tryd.f14))) (a := (aq [0,1,1,1] N6)) [(cq [0] (bodyOf Tryd.f14)),(cq [0,1] (bodyOf Tryd.f14)),(cq [0,1,1] (bodyOf Tryd.f14))] [(aq [0] N6),(aq [0,1] N6),(aq [0,1,1] N6)] rfl (link_seq2 (Nrc b d g) (fun (t : (List Int) × (List (List Int))) => (link_seq (link_seq (Nnc g t.1 t.2) (fun (t23 : Unit) => (link_block (fin2 := (fun (t23 : Int × (List Int) × (List (List Int))) => (Exit.normal,⟨mkE 43 0 [(4,.ptr 0 0),(6,.ptr 1 0),(7,dI t23.1)],[some (.box [.nils,.nils]),some (.box [.slc 2,.slc 3]),some (sI t23.2.1),some (.nest (.int .i64) t23.2.2 0 [])]⟩))) (id := 0) (link_loop (mk := fun (s : Int × Int × (List Int) × (List (List Int))) => ⟨mkE 43 0 [(1,.dat (.list (.pair (.int .i64) (.pair (.int .i64) (.pair (.int .i64) .unit)))) g),(4,.ptr 0 0),(6,.ptr 1 0),(7,dI s.1),(8,dI s.2.1)],[some (.box [.nils,.nils]),some (.box [.slc 2,.slc 3]),some (sI s.2.2.1),some (.nest (.int .i64) s.2.2.2 0 [])]⟩) (fin := (fun (t23 : Int × (List Int) × (List (List Int))) => ((Exit.exit 0),⟨mkE 43 0 [(4,.ptr 0 0),(6,.ptr 1 0),(7,dI t23.1)],[some (.box [.nils,.nils]),some (.box [.slc 2,.slc 3]),some (sI t23.2.1),some (.nest (.int .i64) t23.2.2 0 [])]⟩))) (by
  rintro t23 f K h
  · exact h) (fun s => link_map (Nuc g s.1 s.2.1 s.2.2.1 s.2.2.2) (Sum.elim (fun (t23 : Int × Int × (List Int) × (List (List Int))) => Sum.inl (t23.1,t23.2.1,t23.2.2.1,t23.2.2.2)) (fun (t23 : Int × (List Int) × (List (List Int))) => Sum.inr t23)) (by
  rintro (t23 | t23)
  · kernel_rfl
  · kernel_rfl)) (0,0,t.1,t.2)) (fun (t23 : Int × (List Int) × (List (List Int))) => (t23.1,t23.2.1,t23.2.2)) (by
  rintro t23 K h
  · exact Eq.mp (by kernel_rfl) h)))) (fun (t23 : Int × (List Int) × (List (List Int))) => (Nte t23.1 t23.2.1 t23.2.2)))) (fun (t : Int × (List Int) × (List (List Int))) => t) (by
  rintro t
  · kernel_rfl) (by
  rintro t f K h
  · exact h)))) (by unfold N24; kernel_rfl) (by
  intro t
  exact ret_mk [.agg [.slc 1,.slc 2],dI t.1] (by kernel_rfl) (by kernel_rfl) (by kernel_rfl) (by kernel_rfl)) h
def Nb8 : Fun := fun avs H =>
  match avs,H with
  | [.agg [.dat (.list (.int .i64)) a,.dat (.list (.list (.int .i64))) b],.dat (.list (.pair (.int .i64) (.pair (.int .i64) (.pair (.int .i64) .unit)))) c],[] => ⟨_,N24 a b c,fun (t : Int × (List Int) × (List (List Int))) => (.tup [.agg [.slc 1,.slc 2],dI t.1],[some (.box [.slc 1,.slc 2]),some (sI t.2.1),some (.nest (.int .i64) t.2.2 0 [])]),[],none⟩
  | _,_ => Ans.no
theorem Nxl : Sound Tryd.prog 14 Nb8 := by
  refine fn_sound' (C := N3d) (c := bodyOf Tryd.f14) (cok_of tys_ok (allc Ngb (allc Ni8 (allc Ns8 alln))) (allc Tryd.call21 (allc Tryd.call22 (allc Tryd.call6 alln))) (by kernel_rfl)) Tryd.func14 (by kernel_rfl) LL N6 ?_
  intro avs H r H' h
  unfold Nb8 at h
  split at h
  · refine Awp.cast ?_ ?_ ?_ (Np4 _ _ _ h) <;> kernel_rfl
  · simp [Ans.no,Ans.run] at h

def Ni : Ann := (.seq (.leaf [1,2,4]) (.seq (.seq (.leaf [1,2,4,19]) (.cond (.seq (.leaf [4,5]) (.leafF [⟨0,4,false,some 0,some (.int .i64)⟩,⟨0,4,true,some 1,some (.int .i64)⟩] [4,5])) (.leaf [1,2,4]))) (.seq (.leaf [1,4,6,7]) (.seq (.seq (.leaf [4,6,7,26,27,28]) (.block (.loop (.seq (.leaf [4,6,7,26,27,28,29]) (.seq (.cond (.leaf [4,6,7,26,27,28]) (.leaf [4,6,7])) (.seq (.block (.seq (.leaf [4,6,7,9,26,27,28]) (.seq (.leaf [4,6,7,10,11,26,27,28]) (.seq (.leaf [4,6,7,10,26,27,28,38]) (.cond (.seq (.leaf [4,6,7,26,27,28]) (.leaf [4,6,7,26,27,28])) (.leaf [4,6,7,26,27,28])))))) (.leaf [4,6,7,26,27,28]))))))) (.seq (.leaf [4,5]) (.leaf [4,5]))))))
noncomputable def N2z : Ctx := ⟨tlook tys,olook [(27,N69),(29,N2e),(9,Nb6)],ioF,0,false,[]⟩
theorem Nwx (a : List Int) (b : List (List Int)) (c : List (Int × Int × Int × Unit)) : Link N2z LL (Code.seq (cq [0] (bodyOf Tryd.f16)) (Code.seq (cq [0,1] (bodyOf Tryd.f16)) (cq [0,1,1] (bodyOf Tryd.f16)))) (Ann.seq (aq [0] Ni) (Ann.seq (aq [0,1] Ni) (aq [0,1,1] Ni))) ⟨mkE 45 0 [(0,.agg [dL a,.dat (.list (.list (.int .i64))) b]),(1,.dat (.list (.pair (.int .i64) (.pair (.int .i64) (.pair (.int .i64) .unit)))) c)],[]⟩ (Nc7 a b c) (Sum.elim (fun (t : (List Int) × (List (List Int))) => (Exit.normal,⟨mkE 45 0 [(1,.dat (.list (.pair (.int .i64) (.pair (.int .i64) (.pair (.int .i64) .unit)))) c),(4,.ptr 0 0),(6,.ptr 1 0),(7,dI 0)],[some (.box [.nils,.nils]),some (.box [.slc 2,.slc 3]),some (sI t.1),some (.nest (.int .i64) t.2 0 [])]⟩)) (fun (t : Int × (List Int) × (List (List Int))) => (Exit.ret,⟨mkE 45 0 [(4,.ptr 0 0),(5,dI t.1)],[some (.box [.slc 1,.slc 2]),some (sI t.2.1),some (.nest (.int .i64) t.2.2 0 [])]⟩))) := .of fun K h => by
  simp only [Nc7,wpW] at h
  exact .of (by kernel_rfl) h
theorem Nm6 (a : List (Int × Int × Int × Unit)) (b : List Int) (c : List (List Int)) : Link N2z LL (cq [0,0,1,1,1] (bodyOf Tryd.f16)) (aq [0,0,1,1,1] Ni) ⟨mkE 45 0 [(1,.dat (.list (.pair (.int .i64) (.pair (.int .i64) (.pair (.int .i64) .unit)))) a),(4,.ptr 0 0),(6,.ptr 1 0),(7,dI 0)],[some (.box [.nils,.nils]),some (.box [.slc 2,.slc 3]),some (sI b),some (.nest (.int .i64) c 0 [])]⟩ (Nep a) (fun (t : Int) => (Exit.normal,⟨mkE 45 0 [(4,.ptr 0 0),(6,.ptr 1 0),(7,dI 0),(26,.dat (.list (.pair (.int .i64) (.pair (.int .i64) (.pair (.int .i64) .unit)))) a),(27,dI t),(28,dI 0)],[some (.box [.nils,.nils]),some (.box [.slc 2,.slc 3]),some (sI b),some (.nest (.int .i64) c 0 [])]⟩)) := .of fun K h => by
  simp only [Nep,wpW] at h
  exact .of (by kernel_rfl) h
theorem Nkk (a : Int) (b : List (Int × Int × Int × Unit)) (c d : Int) (g : List Int) (i : List (List Int)) : Link N2z LL (cq [0,0,1,0,1,1,1] (bodyOf Tryd.f16)) (aq [0,0,1,0,1,1,1] Ni) ⟨mkE 45 0 [(4,.ptr 0 0),(6,.ptr 1 0),(7,dI a),(26,.dat (.list (.pair (.int .i64) (.pair (.int .i64) (.pair (.int .i64) .unit)))) b),(27,dI c),(28,dI d)],[some (.box [.nils,.nils]),some (.box [.slc 2,.slc 3]),some (sI g),some (.nest (.int .i64) i 0 [])]⟩ (Ncv a b c d g i) (Sum.elim (fun (t : Int × Int × (List Int) × (List (List Int))) => (Exit.normal,⟨mkE 45 0 [(4,.ptr 0 0),(6,.ptr 1 0),(7,dI t.1),(26,.dat (.list (.pair (.int .i64) (.pair (.int .i64) (.pair (.int .i64) .unit)))) b),(27,dI c),(28,dI t.2.1)],[some (.box [.nils,.nils]),some (.box [.slc 2,.slc 3]),some (sI t.2.2.1),some (.nest (.int .i64) t.2.2.2 0 [])]⟩)) (fun (t : Int × (List Int) × (List (List Int))) => ((Exit.exit 0),⟨mkE 45 0 [(4,.ptr 0 0),(6,.ptr 1 0),(7,dI t.1)],[some (.box [.nils,.nils]),some (.box [.slc 2,.slc 3]),some (sI t.2.1),some (.nest (.int .i64) t.2.2 0 [])]⟩))) := .of fun K h => by
  simp only [Ncv,wpW] at h
  exact .of (by kernel_rfl) h
theorem Nwv (a : Int) (b : List Int) (c : List (List Int)) : Link N2z LL (cq [1,1,1,1] (bodyOf Tryd.f16)) (aq [1,1,1,1] Ni) ⟨mkE 45 0 [(4,.ptr 0 0),(6,.ptr 1 0),(7,dI a)],[some (.box [.nils,.nils]),some (.box [.slc 2,.slc 3]),some (sI b),some (.nest (.int .i64) c 0 [])]⟩ (Nah a b c) (fun (t : Int × (List Int) × (List (List Int))) => (Exit.ret,⟨mkE 45 0 [(4,.ptr 0 0),(5,dI t.1)],[some (.box [.slc 1,.slc 2]),some (sI t.2.1),some (.nest (.int .i64) t.2.2 0 [])]⟩)) := .of fun K h => by
  simp only [Nah,wpW] at h
  exact .of (by kernel_rfl) h
theorem Nut (b : List Int) (d : List (List Int)) (g : List (Int × Int × Int × Unit)) {r : AV} {H' : Heap} (h : (Ans.mk _ (N3u b d g) (fun (t : Int × (List Int) × (List (List Int))) => (.tup [.agg [.slc 1,.slc 2],dI t.1],[some (.box [.slc 1,.slc 2]),some (sI t.2.1),some (.nest (.int .i64) t.2.2 0 [])])) [] none).run = some (r,H')) : Awp N2z LL (bodyOf Tryd.f16) Ni ⟨mkE 45 0 [(0,.agg [dL b,.dat (.list (.list (.int .i64))) d]),(1,.dat (.list (.pair (.int .i64) (.pair (.int .i64) (.pair (.int .i64) .unit)))) g)],[]⟩ (Ret (tlook tys) Tryd.f16.results.toList r H') :=
  ret_of' (Link.cast (by kernel_rfl) (by kernel_rfl) (link_group (c := (cq [0,1,1] (bodyOf Tryd.f16))) (a := (aq [0,1,1] Ni)) [(cq [0] (bodyOf Tryd.f16)),(cq [0,1] (bodyOf Tryd.f16))] [(aq [0] Ni),(aq [0,1] Ni)] rfl (link_seq2 (Nwx b d g) (fun (t : (List Int) × (List (List Int))) => (link_seq (link_seq (Nm6 g t.1 t.2) (fun (t24 : Int) => (link_block (fin2 := (fun (t6 : Int × (List Int) × (List (List Int))) => (Exit.normal,⟨mkE 45 0 [(4,.ptr 0 0),(6,.ptr 1 0),(7,dI t6.1)],[some (.box [.nils,.nils]),some (.box [.slc 2,.slc 3]),some (sI t6.2.1),some (.nest (.int .i64) t6.2.2 0 [])]⟩))) (id := 0) (link_loop (mk := fun (s : Int × Int × (List Int) × (List (List Int))) => ⟨mkE 45 0 [(4,.ptr 0 0),(6,.ptr 1 0),(7,dI s.1),(26,.dat (.list (.pair (.int .i64) (.pair (.int .i64) (.pair (.int .i64) .unit)))) g),(27,dI t24),(28,dI s.2.1)],[some (.box [.nils,.nils]),some (.box [.slc 2,.slc 3]),some (sI s.2.2.1),some (.nest (.int .i64) s.2.2.2 0 [])]⟩) (fin := (fun (t6 : Int × (List Int) × (List (List Int))) => ((Exit.exit 0),⟨mkE 45 0 [(4,.ptr 0 0),(6,.ptr 1 0),(7,dI t6.1)],[some (.box [.nils,.nils]),some (.box [.slc 2,.slc 3]),some (sI t6.2.1),some (.nest (.int .i64) t6.2.2 0 [])]⟩))) (by
  rintro t6 f K h
  · exact h) (fun s => link_map (Nkk s.1 g t24 s.2.1 s.2.2.1 s.2.2.2) (Sum.elim (fun (t6 : Int × Int × (List Int) × (List (List Int))) => Sum.inl (t6.1,t6.2.1,t6.2.2.1,t6.2.2.2)) (fun (t6 : Int × (List Int) × (List (List Int))) => Sum.inr t6)) (by
  rintro (t6 | t6)
  · kernel_rfl
  · kernel_rfl)) (0,0,t.1,t.2)) (fun (t6 : Int × (List Int) × (List (List Int))) => (t6.1,t6.2.1,t6.2.2)) (by
  rintro t6 K h
  · exact Eq.mp (by kernel_rfl) h)))) (fun (t24 : Int × (List Int) × (List (List Int))) => (Nwv t24.1 t24.2.1 t24.2.2)))) (fun (t : Int × (List Int) × (List (List Int))) => t) (by
  rintro t
  · kernel_rfl) (by
  rintro t f K h
  · exact h)))) (by unfold N3u; kernel_rfl) (by
  intro t
  exact ret_mk [.agg [.slc 1,.slc 2],dI t.1] (by kernel_rfl) (by kernel_rfl) (by kernel_rfl) (by kernel_rfl)) h
def Nbw : Fun := fun avs H =>
  match avs,H with
  | [.agg [.dat (.list (.int .i64)) a,.dat (.list (.list (.int .i64))) b],.dat (.list (.pair (.int .i64) (.pair (.int .i64) (.pair (.int .i64) .unit)))) c],[] => ⟨_,N3u a b c,fun (t : Int × (List Int) × (List (List Int))) => (.tup [.agg [.slc 1,.slc 2],dI t.1],[some (.box [.slc 1,.slc 2]),some (sI t.2.1),some (.nest (.int .i64) t.2.2 0 [])]),[],none⟩
  | _,_ => Ans.no
theorem Nys : Sound Tryd.prog 16 Nbw := by
  refine fn_sound' (C := N2z) (c := bodyOf Tryd.f16) (cok_of tys_ok (allc Nhi (allc N7o (allc Nnj alln))) (allc Tryd.call27 (allc Tryd.call29 (allc Tryd.call9 alln))) (by kernel_rfl)) Tryd.func16 (by kernel_rfl) LL Ni ?_
  intro avs H r H' h
  unfold Nbw at h
  split at h
  · refine Awp.cast ?_ ?_ ?_ (Nut _ _ _ h) <;> kernel_rfl
  · simp [Ans.no,Ans.run] at h

def N9g : Ann := (.seq (.leaf [2,3]) (.seq (.seq (.leaf [2,3,9]) (.cond (.seq (.leaf [4]) (.leaf [4])) (.leaf [2,3]))) (.seq (.seq (.leaf [2,3,14]) (.cond (.seq (.leaf [4]) (.leaf [4])) (.leaf [2,3]))) (.seq (.seq (.leaf [19]) (.cond (.seq (.leaf [4]) (.leaf [4])) (.leaf []))) (.seq (.leaf [4]) (.leaf [4]))))))
noncomputable def Ndf : Ctx := ⟨tlook tys,olook [],ioF,0,false,[]⟩
theorem Nsq (a b c d g i : Int) : Link Ndf LL (bodyOf Tryd.f38) N9g ⟨mkE 20 0 [(0,.agg [dI a,dI b,dI c]),(1,.agg [dI d,dI g,dI i])],[]⟩ (N4z a b c d g i) (fun (t : Bool) => (Exit.ret,⟨mkE 20 0 [(4,dB t)],[]⟩)) := .of fun K h => by
  simp only [N4z,wpW] at h
  exact .of (by kernel_rfl) h
theorem Npm (a b c d g i : Int) {r : AV} {H' : Heap} (h : (Ans.mk _ (N40 a b c d g i) (fun (t : Bool) => (dB t,[])) [] none).run = some (r,H')) : Awp Ndf LL (bodyOf Tryd.f38) N9g ⟨mkE 20 0 [(0,.agg [dI a,dI b,dI c]),(1,.agg [dI d,dI g,dI i])],[]⟩ (Ret (tlook tys) Tryd.f38.results.toList r H') :=
  ret_of' (Nsq a b c d g i) (by unfold N40; kernel_rfl) (by
  intro t
  exact ret_mk [dB t] (by kernel_rfl) (by kernel_rfl) (by kernel_rfl) (by kernel_rfl)) h
def Na4 : Fun := fun avs H =>
  match avs,H with
  | [.agg [.dat (.int .i64) a,.dat (.int .i64) b,.dat (.int .i64) c],.agg [.dat (.int .i64) d,.dat (.int .i64) g,.dat (.int .i64) i]],[] => ⟨_,N40 a b c d g i,fun (t : Bool) => (dB t,[]),[],none⟩
  | _,_ => Ans.no
theorem Nnq : Sound Tryd.prog 38 Na4 := by
  refine fn_sound' (C := Ndf) (c := bodyOf Tryd.f38) (cok_of tys_ok (alln) (alln) (by kernel_rfl)) Tryd.func38 (by kernel_rfl) LL N9g ?_
  intro avs H r H' h
  unfold Na4 at h
  split at h
  · refine Awp.cast ?_ ?_ ?_ (Npm _ _ _ _ _ _ h) <;> kernel_rfl
  · simp [Ans.no,Ans.run] at h

def N18 : Ann := (.seq (.leaf [0,1]) (.seq (.seq (.leaf [0,1,10]) (.cond (.seq (.leaf [4]) (.leaf [4])) (.leaf [0,1]))) (.seq (.seq (.leaf [0,1,5]) (.block (.loop (.seq (.seq (.leaf [0,1,5,14]) (.cond (.leaf [0,1,5]) (.leaf []))) (.seq (.block (.seq (.draw [8] [0,1,2,3,4,5,6,7,8,9] [] [0,1,5,26]) (.cond (.seq (.leaf [4]) (.leaf [4])) (.leaf [0,1,5])))) (.leaf [0,1,5])))))) (.seq (.leaf [4]) (.leaf [4])))))
noncomputable def N2u : Ctx := ⟨tlook tys,olook [(38,Na4)],ioF,0,false,[]⟩
theorem Nu3 (a b : List (Int × Int × Int × Unit)) : Link N2u LL (Code.seq (cq [0] (bodyOf Tryd.f17)) (cq [0,1] (bodyOf Tryd.f17))) (Ann.seq (aq [0] N18) (aq [0,1] N18)) ⟨mkE 27 0 [(0,.dat (.list (.pair (.int .i64) (.pair (.int .i64) (.pair (.int .i64) .unit)))) a),(1,.dat (.list (.pair (.int .i64) (.pair (.int .i64) (.pair (.int .i64) .unit)))) b)],[]⟩ (N5d a b) (Sum.elim (fun (t : Unit) => (Exit.normal,⟨mkE 27 0 [(0,.dat (.list (.pair (.int .i64) (.pair (.int .i64) (.pair (.int .i64) .unit)))) a),(1,.dat (.list (.pair (.int .i64) (.pair (.int .i64) (.pair (.int .i64) .unit)))) b)],[]⟩)) (fun (t : Bool) => (Exit.ret,⟨mkE 27 0 [(4,dB t)],[]⟩))) := .of fun K h => by
  simp only [N5d,wpW] at h
  exact .of (by kernel_rfl) h
theorem Nv3 (a b : List (Int × Int × Int × Unit)) : Link N2u LL (cq [0,0,1,1] (bodyOf Tryd.f17)) (aq [0,0,1,1] N18) ⟨mkE 27 0 [(0,.dat (.list (.pair (.int .i64) (.pair (.int .i64) (.pair (.int .i64) .unit)))) a),(1,.dat (.list (.pair (.int .i64) (.pair (.int .i64) (.pair (.int .i64) .unit)))) b)],[]⟩ (N7x) (fun (t : Unit) => (Exit.normal,⟨mkE 27 0 [(0,.dat (.list (.pair (.int .i64) (.pair (.int .i64) (.pair (.int .i64) .unit)))) a),(1,.dat (.list (.pair (.int .i64) (.pair (.int .i64) (.pair (.int .i64) .unit)))) b),(5,dI 0)],[]⟩)) := .of fun K h => by
  simp only [N7x,wpW] at h
  exact .of (by kernel_rfl) h
theorem Nzy (a b : List (Int × Int × Int × Unit)) (c : Int) : Link N2u LL (cq [0,0,1,0,1,1] (bodyOf Tryd.f17)) (aq [0,0,1,0,1,1] N18) ⟨mkE 27 0 [(0,.dat (.list (.pair (.int .i64) (.pair (.int .i64) (.pair (.int .i64) .unit)))) a),(1,.dat (.list (.pair (.int .i64) (.pair (.int .i64) (.pair (.int .i64) .unit)))) b),(5,dI c)],[]⟩ (N3w a b c) (Sum.elim (fun (t : Int) => (Exit.normal,⟨mkE 27 0 [(0,.dat (.list (.pair (.int .i64) (.pair (.int .i64) (.pair (.int .i64) .unit)))) a),(1,.dat (.list (.pair (.int .i64) (.pair (.int .i64) (.pair (.int .i64) .unit)))) b),(5,dI t)],[]⟩)) (Sum.elim (fun (t : Bool) => (Exit.ret,⟨mkE 27 0 [(4,dB t)],[]⟩)) (fun (t : Unit) => ((Exit.exit 0),⟨mkE 27 0 [],[]⟩)))) := .of fun K h => by
  simp only [N3w,wpW] at h
  exact .of (by kernel_rfl) h
theorem Nzu : Link N2u LL (cq [1,1,1] (bodyOf Tryd.f17)) (aq [1,1,1] N18) ⟨mkE 27 0 [],[]⟩ (N7r) (fun (t : Bool) => (Exit.ret,⟨mkE 27 0 [(4,dB t)],[]⟩)) := .of fun K h => by
  simp only [N7r,wpW] at h
  exact .of (by kernel_rfl) h
theorem Nu1 (b d : List (Int × Int × Int × Unit)) {r : AV} {H' : Heap} (h : (Ans.mk _ (N22 b d) (fun (t : Bool) => (dB t,[])) [] none).run = some (r,H')) : Awp N2u LL (bodyOf Tryd.f17) N18 ⟨mkE 27 0 [(0,.dat (.list (.pair (.int .i64) (.pair (.int .i64) (.pair (.int .i64) .unit)))) b),(1,.dat (.list (.pair (.int .i64) (.pair (.int .i64) (.pair (.int .i64) .unit)))) d)],[]⟩ (Ret (tlook tys) Tryd.f17.results.toList r H') :=
  ret_of' (Link.cast (by kernel_rfl) (by kernel_rfl) (link_group (c := (cq [0,1] (bodyOf Tryd.f17))) (a := (aq [0,1] N18)) [(cq [0] (bodyOf Tryd.f17))] [(aq [0] N18)] rfl (link_seq2 (Nu3 b d) (fun (t : Unit) => (link_seq2 (link_seq (Nv3 b d) (fun (t : Unit) => (link_block (fin2 := (Sum.elim (fun (t : Unit) => (Exit.normal,⟨mkE 27 0 [],[]⟩)) (fun (t : Bool) => (Exit.ret,⟨mkE 27 0 [(4,dB t)],[]⟩)))) (id := 0) (link_loop (mk := fun (s : Int) => ⟨mkE 27 0 [(0,.dat (.list (.pair (.int .i64) (.pair (.int .i64) (.pair (.int .i64) .unit)))) b),(1,.dat (.list (.pair (.int .i64) (.pair (.int .i64) (.pair (.int .i64) .unit)))) d),(5,dI s)],[]⟩) (fin := (Sum.elim (fun (t : Bool) => (Exit.ret,⟨mkE 27 0 [(4,dB t)],[]⟩)) (fun (t : Unit) => ((Exit.exit 0),⟨mkE 27 0 [],[]⟩)))) (by
  rintro (t | t) f K h
  · exact h
  · exact h) (fun s => link_map (Nzy b d s) (Sum.elim (fun (t : Int) => Sum.inl t) (Sum.elim (fun (t : Bool) => Sum.inr (Sum.inl t)) (fun (t : Unit) => Sum.inr (Sum.inr t)))) (by
  rintro (t | t | t)
  · kernel_rfl
  · kernel_rfl
  · kernel_rfl)) 0) (Sum.elim (fun (t : Bool) => (Sum.inr t)) (fun (t : Unit) => (Sum.inl ()))) (by
  rintro (t | t) K h
  · exact Eq.mp (by kernel_rfl) h
  · exact Eq.mp (by kernel_rfl) h)))) (fun (t : Unit) => (Nzu)) (fun (t : Bool) => t) (by
  rintro t
  · kernel_rfl) (by
  rintro t f K h
  · exact h))) (fun (t : Bool) => t) (by
  rintro t
  · kernel_rfl) (by
  rintro t f K h
  · exact h)))) (by unfold N22; kernel_rfl) (by
  intro t
  exact ret_mk [dB t] (by kernel_rfl) (by kernel_rfl) (by kernel_rfl) (by kernel_rfl)) h
def Nad : Fun := fun avs H =>
  match avs,H with
  | [.dat (.list (.pair (.int .i64) (.pair (.int .i64) (.pair (.int .i64) .unit)))) a,.dat (.list (.pair (.int .i64) (.pair (.int .i64) (.pair (.int .i64) .unit)))) b],[] => ⟨_,N22 a b,fun (t : Bool) => (dB t,[]),[],none⟩
  | _,_ => Ans.no
theorem Nq4 : Sound Tryd.prog 17 Nad := by
  refine fn_sound' (C := N2u) (c := bodyOf Tryd.f17) (cok_of tys_ok (allc Nnq alln) (allc Tryd.call38 alln) (by kernel_rfl)) Tryd.func17 (by kernel_rfl) LL N18 ?_
  intro avs H r H' h
  unfold Nad at h
  split at h
  · refine Awp.cast ?_ ?_ ?_ (Nu1 _ _ h) <;> kernel_rfl
  · simp [Ans.no,Ans.run] at h

def N2 : Ann := (.seq (.leaf [0,1]) (.seq (.seq (.leaf [0,1,5]) (.block (.loop (.seq (.seq (.leaf [0,1,5,9]) (.cond (.leaf [0,1,5]) (.leaf [1]))) (.seq (.block (.seq (.leaf [0,1,5]) (.seq (.leaf [0,1,5]) (.seq (.leaf [0,1,5]) (.seq (.leaf [0,1,5]) (.seq (.leaf [0,1,5]) (.leaf [0,1,5]))))))) (.leaf [0,1,5])))))) (.seq (.leaf [4]) (.leaf [4]))))
noncomputable def Np : Ctx := ⟨tlook tys,olook [],ioF,1,false,[]⟩
theorem Nw6 (a : Int) (b : List (Int × Int × Int × Unit)) : Link Np LL (cq [0] (bodyOf Tryd.f18)) (aq [0] N2) ⟨mkE 34 0 [(0,.slc 0),(1,dI a)],[some (.seq (.pair (.int .i64) (.pair (.int .i64) (.pair (.int .i64) .unit))) b)]⟩ (N5g) (fun (t : Unit) => (Exit.normal,⟨mkE 34 0 [(0,.slc 0),(1,dI a)],[some (.seq (.pair (.int .i64) (.pair (.int .i64) (.pair (.int .i64) .unit))) b)]⟩)) := .of fun K h => by
  simp only [N5g,wpW] at h
  exact .of (by kernel_rfl) h
theorem Nkb (a : Int) (b : List (Int × Int × Int × Unit)) : Link Np LL (cq [0,0,1] (bodyOf Tryd.f18)) (aq [0,0,1] N2) ⟨mkE 34 0 [(0,.slc 0),(1,dI a)],[some (.seq (.pair (.int .i64) (.pair (.int .i64) (.pair (.int .i64) .unit))) b)]⟩ (N5e) (fun (t : Unit) => (Exit.normal,⟨mkE 34 0 [(0,.slc 0),(1,dI a),(5,dI 0)],[some (.seq (.pair (.int .i64) (.pair (.int .i64) (.pair (.int .i64) .unit))) b)]⟩)) := .of fun K h => by
  simp only [N5e,wpW] at h
  exact .of (by kernel_rfl) h
theorem Nlc (a b : Int) (c : List (Int × Int × Int × Unit)) : Link Np LL (cq [0,0,0,1,0,1] (bodyOf Tryd.f18)) (aq [0,0,0,1,0,1] N2) ⟨mkE 34 0 [(0,.slc 0),(1,dI a),(5,dI b)],[some (.seq (.pair (.int .i64) (.pair (.int .i64) (.pair (.int .i64) .unit))) c)]⟩ (N3z a b c) (Sum.elim (fun (t : Unit) => (Exit.normal,⟨mkE 34 0 [(0,.slc 0),(1,dI a),(5,dI b)],[some (.seq (.pair (.int .i64) (.pair (.int .i64) (.pair (.int .i64) .unit))) c)]⟩)) (fun (t : Int × (List (Int × Int × Int × Unit))) => ((Exit.exit 0),⟨mkE 34 0 [(1,dI t.1)],[some (.seq (.pair (.int .i64) (.pair (.int .i64) (.pair (.int .i64) .unit))) t.2)]⟩))) := .of fun K h => by
  simp only [N3z,wpW] at h
  exact .of (by kernel_rfl) h
theorem Nkp (a b : Int) (c : List (Int × Int × Int × Unit)) : Link Np LL (Code.seq (cq [0,0,0,1,0,0,1,0,1] (bodyOf Tryd.f18)) (Code.seq (cq [0,1,0,0,1,0,0,1,0,1] (bodyOf Tryd.f18)) (Code.seq (cq [0,1,1,0,0,1,0,0,1,0,1] (bodyOf Tryd.f18)) (cq [0,1,1,1,0,0,1,0,0,1,0,1] (bodyOf Tryd.f18))))) (Ann.seq (aq [0,0,0,1,0,0,1,0,1] N2) (Ann.seq (aq [0,1,0,0,1,0,0,1,0,1] N2) (Ann.seq (aq [0,1,1,0,0,1,0,0,1,0,1] N2) (aq [0,1,1,1,0,0,1,0,0,1,0,1] N2)))) ⟨mkE 34 0 [(0,.slc 0),(1,dI a),(5,dI b)],[some (.seq (.pair (.int .i64) (.pair (.int .i64) (.pair (.int .i64) .unit))) c)]⟩ (N5i a b c) (fun (t : Int × (List (Int × Int × Int × Unit))) => (Exit.normal,⟨mkE 34 0 [(0,.slc 0),(1,dI t.1),(5,dI b)],[some (.seq (.pair (.int .i64) (.pair (.int .i64) (.pair (.int .i64) .unit))) t.2)]⟩)) := .of fun K h => by
  simp only [N5i,wpW] at h
  exact .of (by kernel_rfl) h
theorem N103 (a b : Int) (c : List (Int × Int × Int × Unit)) : Link Np LL (cq [0,1,1,1,1,0,0,1,0,0,1,0,1] (bodyOf Tryd.f18)) (aq [0,1,1,1,1,0,0,1,0,0,1,0,1] N2) ⟨mkE 34 0 [(0,.slc 0),(1,dI a),(5,dI b)],[some (.seq (.pair (.int .i64) (.pair (.int .i64) (.pair (.int .i64) .unit))) c)]⟩ (N58 a b c) (fun (t : (List (Int × Int × Int × Unit))) => (Exit.normal,⟨mkE 34 0 [(0,.slc 0),(1,dI a),(5,dI b)],[some (.seq (.pair (.int .i64) (.pair (.int .i64) (.pair (.int .i64) .unit))) t)]⟩)) := .of fun K h => by
  simp only [N58,wpW] at h
  exact .of (by kernel_rfl) h
theorem Nvg (a b : Int) (c : List (Int × Int × Int × Unit)) : Link Np LL (cq [1,1,1,1,1,0,0,1,0,0,1,0,1] (bodyOf Tryd.f18)) (aq [1,1,1,1,1,0,0,1,0,0,1,0,1] N2) ⟨mkE 34 0 [(0,.slc 0),(1,dI a),(5,dI b)],[some (.seq (.pair (.int .i64) (.pair (.int .i64) (.pair (.int .i64) .unit))) c)]⟩ (N7z a) (fun (t : Int) => (Exit.normal,⟨mkE 34 0 [(0,.slc 0),(1,dI t),(5,dI b)],[some (.seq (.pair (.int .i64) (.pair (.int .i64) (.pair (.int .i64) .unit))) c)]⟩)) := .of fun K h => by
  simp only [N7z,wpW] at h
  exact .of (by kernel_rfl) h
theorem Nns (a b : Int) (c : List (Int × Int × Int × Unit)) : Link Np LL (cq [1,1,0,0,1,0,1] (bodyOf Tryd.f18)) (aq [1,1,0,0,1,0,1] N2) ⟨mkE 34 0 [(0,.slc 0),(1,dI a),(5,dI b)],[some (.seq (.pair (.int .i64) (.pair (.int .i64) (.pair (.int .i64) .unit))) c)]⟩ (N6f b) (fun (t : Int) => (Exit.normal,⟨mkE 34 0 [(0,.slc 0),(1,dI a),(5,dI t)],[some (.seq (.pair (.int .i64) (.pair (.int .i64) (.pair (.int .i64) .unit))) c)]⟩)) := .of fun K h => by
  simp only [N6f,wpW] at h
  exact .of (by kernel_rfl) h
theorem Njp (a : Int) (b : List (Int × Int × Int × Unit)) : Link Np LL (cq [1,1] (bodyOf Tryd.f18)) (aq [1,1] N2) ⟨mkE 34 0 [(1,dI a)],[some (.seq (.pair (.int .i64) (.pair (.int .i64) (.pair (.int .i64) .unit))) b)]⟩ (N5x a b) (fun (t : Int × (List (Int × Int × Int × Unit))) => (Exit.ret,⟨mkE 34 0 [(4,dI t.1)],[some (.seq (.pair (.int .i64) (.pair (.int .i64) (.pair (.int .i64) .unit))) t.2)]⟩)) := .of fun K h => by
  simp only [N5x,wpW] at h
  exact .of (by kernel_rfl) h
theorem Nub (b : Int) (d : List (Int × Int × Int × Unit)) {r : AV} {H' : Heap} (h : (Ans.mk _ (N1y b d) (fun (t : Int × (List (Int × Int × Int × Unit))) => (dI t.1,[some (.seq (.pair (.int .i64) (.pair (.int .i64) (.pair (.int .i64) .unit))) t.2)])) [] none).run = some (r,H')) : Awp Np LL (bodyOf Tryd.f18) N2 ⟨mkE 34 0 [(0,.slc 0),(1,dI b)],[some (.seq (.pair (.int .i64) (.pair (.int .i64) (.pair (.int .i64) .unit))) d)]⟩ (Ret (tlook tys) Tryd.f18.results.toList r H') :=
  ret_of' (Link.cast (by kernel_rfl) (by kernel_rfl) (link_seq (Nw6 b d) (fun (t : Unit) => (link_seq (link_seq (Nkb b d) (fun (t : Unit) => (link_block (fin2 := (fun (t : Int × (List (Int × Int × Int × Unit))) => (Exit.normal,⟨mkE 34 0 [(1,dI t.1)],[some (.seq (.pair (.int .i64) (.pair (.int .i64) (.pair (.int .i64) .unit))) t.2)]⟩))) (id := 0) (link_loop (mk := fun (s : Int × Int × (List (Int × Int × Int × Unit))) => ⟨mkE 34 0 [(0,.slc 0),(1,dI s.1),(5,dI s.2.1)],[some (.seq (.pair (.int .i64) (.pair (.int .i64) (.pair (.int .i64) .unit))) s.2.2)]⟩) (fin := (fun (t : Int × (List (Int × Int × Int × Unit))) => ((Exit.exit 0),⟨mkE 34 0 [(1,dI t.1)],[some (.seq (.pair (.int .i64) (.pair (.int .i64) (.pair (.int .i64) .unit))) t.2)]⟩))) (by
  rintro t f K h
  · exact h) (fun s => link_map (link_seq2 (Nlc s.1 s.2.1 s.2.2) (fun (t : Unit) => (link_map (fin2 := (Sum.elim (fun (t : Int × Int × (List (Int × Int × Int × Unit))) => (Exit.normal,⟨mkE 34 0 [(0,.slc 0),(1,dI t.1),(5,dI t.2.1)],[some (.seq (.pair (.int .i64) (.pair (.int .i64) (.pair (.int .i64) .unit))) t.2.2)]⟩)) (fun (t : Int × (List (Int × Int × Int × Unit))) => ((Exit.exit 0),⟨mkE 34 0 [(1,dI t.1)],[some (.seq (.pair (.int .i64) (.pair (.int .i64) (.pair (.int .i64) .unit))) t.2)]⟩)))) (link_seq (link_block (fin2 := (fun (t : Int × (List (Int × Int × Int × Unit))) => (Exit.normal,⟨mkE 34 0 [(0,.slc 0),(1,dI t.1),(5,dI s.2.1)],[some (.seq (.pair (.int .i64) (.pair (.int .i64) (.pair (.int .i64) .unit))) t.2)]⟩))) (id := 1) (link_group (c := (cq [0,1,1,1,0,0,1,0,0,1,0,1] (bodyOf Tryd.f18))) (a := (aq [0,1,1,1,0,0,1,0,0,1,0,1] N2)) [(cq [0,0,0,1,0,0,1,0,1] (bodyOf Tryd.f18)),(cq [0,1,0,0,1,0,0,1,0,1] (bodyOf Tryd.f18)),(cq [0,1,1,0,0,1,0,0,1,0,1] (bodyOf Tryd.f18))] [(aq [0,0,0,1,0,0,1,0,1] N2),(aq [0,1,0,0,1,0,0,1,0,1] N2),(aq [0,1,1,0,0,1,0,0,1,0,1] N2)] rfl (link_seq (Nkp s.1 s.2.1 s.2.2) (fun (t : Int × (List (Int × Int × Int × Unit))) => (link_seq (N103 t.1 s.2.1 t.2) (fun (t1 : (List (Int × Int × Int × Unit))) => (link_map (fin2 := (fun (t1 : Int × (List (Int × Int × Int × Unit))) => (Exit.normal,⟨mkE 34 0 [(0,.slc 0),(1,dI t1.1),(5,dI s.2.1)],[some (.seq (.pair (.int .i64) (.pair (.int .i64) (.pair (.int .i64) .unit))) t1.2)]⟩))) (Nvg t.1 s.2.1 t1) (fun (u : Int) => (u,t1)) (by
  rintro t1
  · kernel_rfl))))))) (fun (t : Int × (List (Int × Int × Int × Unit))) => (t.1,t.2)) (by
  rintro t K h
  · exact Eq.mp (by kernel_rfl) h)) (fun (t : Int × (List (Int × Int × Int × Unit))) => (link_map (fin2 := (fun (t : Int × Int × (List (Int × Int × Int × Unit))) => (Exit.normal,⟨mkE 34 0 [(0,.slc 0),(1,dI t.1),(5,dI t.2.1)],[some (.seq (.pair (.int .i64) (.pair (.int .i64) (.pair (.int .i64) .unit))) t.2.2)]⟩))) (Nns t.1 s.2.1 t.2) (fun (u : Int) => (t.1,u,t.2)) (by
  rintro t
  · kernel_rfl)))) (fun (t : Int × Int × (List (Int × Int × Int × Unit))) => (Sum.inl (t.1,t.2.1,t.2.2))) (by
  rintro t
  · kernel_rfl))) (fun (t : Int × (List (Int × Int × Int × Unit))) => (Sum.inr t)) (by
  rintro t
  · kernel_rfl) (by
  rintro t f K h
  · exact h)) (Sum.elim (fun (t : Int × Int × (List (Int × Int × Int × Unit))) => Sum.inl (t.1,t.2.1,t.2.2)) (fun (t : Int × (List (Int × Int × Int × Unit))) => Sum.inr t)) (by
  rintro (t | t)
  · kernel_rfl
  · kernel_rfl)) (b,0,d)) (fun (t : Int × (List (Int × Int × Int × Unit))) => (t.1,t.2)) (by
  rintro t K h
  · exact Eq.mp (by kernel_rfl) h)))) (fun (t : Int × (List (Int × Int × Int × Unit))) => (Njp t.1 t.2)))))) (by unfold N1y; kernel_rfl) (by
  intro t
  exact ret_mk [dI t.1] (by kernel_rfl) (by kernel_rfl) (by kernel_rfl) (by kernel_rfl)) h
def N8r : Fun := fun avs H =>
  match avs,H with
  | [.slc 0,.dat (.int .i64) a],[some (.seq (.pair (.int .i64) (.pair (.int .i64) (.pair (.int .i64) .unit))) b)] => ⟨_,N1y a b,fun (t : Int × (List (Int × Int × Int × Unit))) => (dI t.1,[some (.seq (.pair (.int .i64) (.pair (.int .i64) (.pair (.int .i64) .unit))) t.2)]),[],none⟩
  | _,_ => Ans.no
theorem Nw8 : Sound Tryd.prog 18 N8r := by
  refine fn_sound' (C := Np) (c := bodyOf Tryd.f18) (cok_of tys_ok (alln) (alln) (by kernel_rfl)) Tryd.func18 (by kernel_rfl) LL N2 ?_
  intro avs H r H' h
  unfold N8r at h
  split at h
  · refine Awp.cast ?_ ?_ ?_ (Nub _ _ h) <;> kernel_rfl
  · simp [Ans.no,Ans.run] at h

def N0 : Ann := (.seq (.leaf [1,2]) (.seq (.leaf [1,2,5]) (.seq (.leaf [1,2,5]) (.seq (.seq (.leaf [1,2,5,21]) (.cond (.seq (.leaf [4]) (.leaf [4])) (.leaf [1,2,5]))) (.seq (.leaf [1,2,5]) (.seq (.seq (.leaf [1,2,26]) (.cond (.seq (.leaf [4]) (.leaf [4])) (.leaf [1,2]))) (.seq (.leaf [1,2,6,7]) (.seq (.leaf [1,2,6,7,8]) (.seq (.leaf [1,2,6,7,8,9]) (.seq (.leaf [1,2,6,7,8,9,10,11]) (.seq (.seq (.leaf [1,2,6,7,8,9,10,11,53]) (.cond (.seq (.leaf [4]) (.leaf [4])) (.leaf [1,2,6,7,8,9,10,11]))) (.seq (.seq (.draw [2,3] [0,1,2,3,4] [] [1,2,6,7,8,9,10,11,58]) (.cond (.seq (.leaf [4]) (.leaf [4])) (.leaf [1,2,6,7,8,9,10,11]))) (.seq (.seq (.leaf [1,2,6,7,8,9,10,11,63]) (.cond (.seq (.leaf [4]) (.leaf [4])) (.leaf [1,2,6,7,8,9,10,11]))) (.seq (.leaf [1,2,6,7,8,9,10,11,12]) (.seq (.leaf [1,2,6,7,9,10,11,12]) (.seq (.leaf [1,2,6,7,10,11,12]) (.seq (.seq (.leaf [1,2,6,7,10,82]) (.cond (.seq (.leaf [4]) (.leaf [4])) (.leaf [1,2,6,7,10]))) (.seq (.leaf [1,2,6,7,10,13]) (.seq (.leaf [1,2,6,7,10,13]) (.seq (.leaf [1,2,6,7,10,13,14]) (.seq (.leaf [1,2,6,7,10,13,14]) (.seq (.seq (.leaf [1,2,6,7,10,13,14,90]) (.cond (.seq (.leaf [4]) (.leaf [4])) (.leaf [1,2,6,7,10,13,14]))) (.seq (.seq (.leaf [1,2,6,7,10,13,93]) (.cond (.seq (.leaf [4]) (.leaf [4])) (.leaf [1,2,6,7,10,13]))) (.seq (.leaf [6,7,10,13,15,16]) (.seq (.seq (.leaf [10,13,110]) (.cond (.seq (.leaf [4]) (.leaf [4])) (.leaf [10,13]))) (.seq (.leaf [10,13,14]) (.seq (.leaf [13,14]) (.seq (.seq (.leaf [13,14,115]) (.cond (.seq (.leaf [4]) (.leaf [4])) (.leaf [13,14]))) (.seq (.seq (.leaf [118]) (.cond (.seq (.leaf [4]) (.leaf [4])) (.leaf []))) (.seq (.leaf [4]) (.leaf [4])))))))))))))))))))))))))))))))
noncomputable def N7w : Ctx := ⟨tlook tys,olook [(5,Nc4),(13,N8e),(7,Ne7),(15,Neq),(14,Nb8),(16,Nbw),(10,N8v),(17,Nad),(11,Nel),(18,N8r),(12,Ndj)],ioF,0,false,[]⟩
theorem Nv4 (a : List Int) (b : List (List Int)) (c : List (Int × Int × Int × Unit)) : Link N7w LL (Code.seq (cq [0] (bodyOf Tryd.f4)) (Code.seq (cq [0,1] (bodyOf Tryd.f4)) (Code.seq (cq [0,1,1] (bodyOf Tryd.f4)) (Code.seq (cq [0,1,1,1] (bodyOf Tryd.f4)) (Code.seq (cq [0,1,1,1,1] (bodyOf Tryd.f4)) (Code.seq (cq [0,1,1,1,1,1] (bodyOf Tryd.f4)) (Code.seq (cq [0,1,1,1,1,1,1] (bodyOf Tryd.f4)) (Code.seq (cq [0,1,1,1,1,1,1,1] (bodyOf Tryd.f4)) (Code.seq (cq [0,1,1,1,1,1,1,1,1] (bodyOf Tryd.f4)) (Code.seq (cq [0,1,1,1,1,1,1,1,1,1] (bodyOf Tryd.f4)) (Code.seq (cq [0,1,1,1,1,1,1,1,1,1,1] (bodyOf Tryd.f4)) (Code.seq (cq [0,1,1,1,1,1,1,1,1,1,1,1] (bodyOf Tryd.f4)) (Code.seq (cq [0,1,1,1,1,1,1,1,1,1,1,1,1] (bodyOf Tryd.f4)) (Code.seq (cq [0,1,1,1,1,1,1,1,1,1,1,1,1,1] (bodyOf Tryd.f4)) (Code.seq (cq [0,1,1,1,1,1,1,1,1,1,1,1,1,1,1] (bodyOf Tryd.f4)) (Code.seq (cq [0,1,1,1,1,1,1,1,1,1,1,1,1,1,1,1] (bodyOf Tryd.f4)) (Code.seq (cq [0,1,1,1,1,1,1,1,1,1,1,1,1,1,1,1,1] (bodyOf Tryd.f4)) (Code.seq (cq [0,1,1,1,1,1,1,1,1,1,1,1,1,1,1,1,1,1] (bodyOf Tryd.f4)) (Code.seq (cq [0,1,1,1,1,1,1,1,1,1,1,1,1,1,1,1,1,1,1] (bodyOf Tryd.f4)) (Code.seq (cq [0,1,1,1,1,1,1,1,1,1,1,1,1,1,1,1,1,1,1,1] (bodyOf Tryd.f4)) (Code.seq (cq [0,1,1,1,1,1,1,1,1,1,1,1,1,1,1,1,1,1,1,1,1] (bodyOf Tryd.f4)) (Code.seq (cq [0,1,1,1,1,1,1,1,1,1,1,1,1,1,1,1,1,1,1,1,1,1] (bodyOf Tryd.f4)) (Code.seq (cq [0,1,1,1,1,1,1,1,1,1,1,1,1,1,1,1,1,1,1,1,1,1,1] (bodyOf Tryd.f4)) (Code.seq (cq [0,1,1,1,1,1,1,1,1,1,1,1,1,1,1,1,1,1,1,1,1,1,1,1] (bodyOf Tryd.f4)) (Code.seq (cq [0,1,1,1,1,1,1,1,1,1,1,1,1,1,1,1,1,1,1,1,1,1,1,1,1] (bodyOf Tryd.f4)) (Code.seq (cq [0,1,1,1,1,1,1,1,1,1,1,1,1,1,1,1,1,1,1,1,1,1,1,1,1,1] (bodyOf Tryd.f4)) (cq [0,1,1,1,1,1,1,1,1,1,1,1,1,1,1,1,1,1,1,1,1,1,1,1,1,1,1] (bodyOf Tryd.f4)))))))))))))))))))))))))))) (Ann.seq (aq [0] N0) (Ann.seq (aq [0,1] N0) (Ann.seq (aq [0,1,1] N0) (Ann.seq (aq [0,1,1,1] N0) (Ann.seq (aq [0,1,1,1,1] N0) (Ann.seq (aq [0,1,1,1,1,1] N0) (Ann.seq (aq [0,1,1,1,1,1,1] N0) (Ann.seq (aq [0,1,1,1,1,1,1,1] N0) (Ann.seq (aq [0,1,1,1,1,1,1,1,1] N0) (Ann.seq (aq [0,1,1,1,1,1,1,1,1,1] N0) (Ann.seq (aq [0,1,1,1,1,1,1,1,1,1,1] N0) (Ann.seq (aq [0,1,1,1,1,1,1,1,1,1,1,1] N0) (Ann.seq (aq [0,1,1,1,1,1,1,1,1,1,1,1,1] N0) (Ann.seq (aq [0,1,1,1,1,1,1,1,1,1,1,1,1,1] N0) (Ann.seq (aq [0,1,1,1,1,1,1,1,1,1,1,1,1,1,1] N0) (Ann.seq (aq [0,1,1,1,1,1,1,1,1,1,1,1,1,1,1,1] N0) (Ann.seq (aq [0,1,1,1,1,1,1,1,1,1,1,1,1,1,1,1,1] N0) (Ann.seq (aq [0,1,1,1,1,1,1,1,1,1,1,1,1,1,1,1,1,1] N0) (Ann.seq (aq [0,1,1,1,1,1,1,1,1,1,1,1,1,1,1,1,1,1,1] N0) (Ann.seq (aq [0,1,1,1,1,1,1,1,1,1,1,1,1,1,1,1,1,1,1,1] N0) (Ann.seq (aq [0,1,1,1,1,1,1,1,1,1,1,1,1,1,1,1,1,1,1,1,1] N0) (Ann.seq (aq [0,1,1,1,1,1,1,1,1,1,1,1,1,1,1,1,1,1,1,1,1,1] N0) (Ann.seq (aq [0,1,1,1,1,1,1,1,1,1,1,1,1,1,1,1,1,1,1,1,1,1,1] N0) (Ann.seq (aq [0,1,1,1,1,1,1,1,1,1,1,1,1,1,1,1,1,1,1,1,1,1,1,1] N0) (Ann.seq (aq [0,1,1,1,1,1,1,1,1,1,1,1,1,1,1,1,1,1,1,1,1,1,1,1,1] N0) (Ann.seq (aq [0,1,1,1,1,1,1,1,1,1,1,1,1,1,1,1,1,1,1,1,1,1,1,1,1,1] N0) (aq [0,1,1,1,1,1,1,1,1,1,1,1,1,1,1,1,1,1,1,1,1,1,1,1,1,1,1] N0))))))))))))))))))))))))))) ⟨mkE 119 0 [(0,.agg [dL a,.dat (.list (.list (.int .i64))) b]),(1,.dat (.list (.pair (.int .i64) (.pair (.int .i64) (.pair (.int .i64) .unit)))) c)],[]⟩ (N5n a b c) (Sum.elim (fun (t : Int × Int) => (Exit.normal,⟨mkE 119 0 [(13,dI t.1),(14,dI t.2)],[]⟩)) (fun (t : Bool) => (Exit.ret,⟨mkE 119 0 [(4,dB t)],[]⟩))) := .of fun K h => by
  simp only [N5n,wpW] at h
  exact .of (by kernel_rfl) h
theorem Njj (a b : Int) : Link N7w LL (cq [1,1,1,1,1,1,1,1,1,1,1,1,1,1,1,1,1,1,1,1,1,1,1,1,1,1,1] (bodyOf Tryd.f4)) (aq [1,1,1,1,1,1,1,1,1,1,1,1,1,1,1,1,1,1,1,1,1,1,1,1,1,1,1] N0) ⟨mkE 119 0 [(13,dI a),(14,dI b)],[]⟩ (N86 a b) (fun (t : Bool) => (Exit.ret,⟨mkE 119 0 [(4,dB t)],[]⟩)) := .of fun K h => by
  simp only [N86,wpW] at h
  exact .of (by kernel_rfl) h
theorem Nmb (b : List Int) (d : List (List Int)) (g : List (Int × Int × Int × Unit)) {r : AV} {H' : Heap} (h : (Ans.mk _ (N20 b d g) (fun (t : Bool) => (dB t,[])) [] none).run = some (r,H')) : Awp N7w LL (bodyOf Tryd.f4) N0 ⟨mkE 119 0 [(0,.agg [dL b,.dat (.list (.list (.int .i64))) d]),(1,.dat (.list (.pair (.int .i64) (.pair (.int .i64) (.pair (.int .i64) .unit)))) g)],[]⟩ (Ret (tlook tys) Tryd.f4.results.toList r H') :=
  ret_of' (Link.cast (by kernel_rfl) (by kernel_rfl) (link_group (c := (cq [0,1,1,1,1,1,1,1,1,1,1,1,1,1,1,1,1,1,1,1,1,1,1,1,1,1,1] (bodyOf Tryd.f4))) (a := (aq [0,1,1,1,1,1,1,1,1,1,1,1,1,1,1,1,1,1,1,1,1,1,1,1,1,1,1] N0)) [(cq [0] (bodyOf Tryd.f4)),(cq [0,1] (bodyOf Tryd.f4)),(cq [0,1,1] (bodyOf Tryd.f4)),(cq [0,1,1,1] (bodyOf Tryd.f4)),(cq [0,1,1,1,1] (bodyOf Tryd.f4)),(cq [0,1,1,1,1,1] (bodyOf Tryd.f4)),(cq [0,1,1,1,1,1,1] (bodyOf Tryd.f4)),(cq [0,1,1,1,1,1,1,1] (bodyOf Tryd.f4)),(cq [0,1,1,1,1,1,1,1,1] (bodyOf Tryd.f4)),(cq [0,1,1,1,1,1,1,1,1,1] (bodyOf Tryd.f4)),(cq [0,1,1,1,1,1,1,1,1,1,1] (bodyOf Tryd.f4)),(cq [0,1,1,1,1,1,1,1,1,1,1,1] (bodyOf Tryd.f4)),(cq [0,1,1,1,1,1,1,1,1,1,1,1,1] (bodyOf Tryd.f4)),(cq [0,1,1,1,1,1,1,1,1,1,1,1,1,1] (bodyOf Tryd.f4)),(cq [0,1,1,1,1,1,1,1,1,1,1,1,1,1,1] (bodyOf Tryd.f4)),(cq [0,1,1,1,1,1,1,1,1,1,1,1,1,1,1,1] (bodyOf Tryd.f4)),(cq [0,1,1,1,1,1,1,1,1,1,1,1,1,1,1,1,1] (bodyOf Tryd.f4)),(cq [0,1,1,1,1,1,1,1,1,1,1,1,1,1,1,1,1,1] (bodyOf Tryd.f4)),(cq [0,1,1,1,1,1,1,1,1,1,1,1,1,1,1,1,1,1,1] (bodyOf Tryd.f4)),(cq [0,1,1,1,1,1,1,1,1,1,1,1,1,1,1,1,1,1,1,1] (bodyOf Tryd.f4)),(cq [0,1,1,1,1,1,1,1,1,1,1,1,1,1,1,1,1,1,1,1,1] (bodyOf Tryd.f4)),(cq [0,1,1,1,1,1,1,1,1,1,1,1,1,1,1,1,1,1,1,1,1,1] (bodyOf Tryd.f4)),(cq [0,1,1,1,1,1,1,1,1,1,1,1,1,1,1,1,1,1,1,1,1,1,1] (bodyOf Tryd.f4)),(cq [0,1,1,1,1,1,1,1,1,1,1,1,1,1,1,1,1,1,1,1,1,1,1,1] (bodyOf Tryd.f4)),(cq [0,1,1,1,1,1,1,1,1,1,1,1,1,1,1,1,1,1,1,1,1,1,1,1,1] (bodyOf Tryd.f4)),(cq [0,1,1,1,1,1,1,1,1,1,1,1,1,1,1,1,1,1,1,1,1,1,1,1,1,1] (bodyOf Tryd.f4))] [(aq [0] N0),(aq [0,1] N0),(aq [0,1,1] N0),(aq [0,1,1,1] N0),(aq [0,1,1,1,1] N0),(aq [0,1,1,1,1,1] N0),(aq [0,1,1,1,1,1,1] N0),(aq [0,1,1,1,1,1,1,1] N0),(aq [0,1,1,1,1,1,1,1,1] N0),(aq [0,1,1,1,1,1,1,1,1,1] N0),(aq [0,1,1,1,1,1,1,1,1,1,1] N0),(aq [0,1,1,1,1,1,1,1,1,1,1,1] N0),(aq [0,1,1,1,1,1,1,1,1,1,1,1,1] N0),(aq [0,1,1,1,1,1,1,1,1,1,1,1,1,1] N0),(aq [0,1,1,1,1,1,1,1,1,1,1,1,1,1,1] N0),(aq [0,1,1,1,1,1,1,1,1,1,1,1,1,1,1,1] N0),(aq [0,1,1,1,1,1,1,1,1,1,1,1,1,1,1,1,1] N0),(aq [0,1,1,1,1,1,1,1,1,1,1,1,1,1,1,1,1,1] N0),(aq [0,1,1,1,1,1,1,1,1,1,1,1,1,1,1,1,1,1,1] N0),(aq [0,1,1,1,1,1,1,1,1,1,1,1,1,1,1,1,1,1,1,1] N0),(aq [0,1,1,1,1,1,1,1,1,1,1,1,1,1,1,1,1,1,1,1,1] N0),(aq [0,1,1,1,1,1,1,1,1,1,1,1,1,1,1,1,1,1,1,1,1,1] N0),(aq [0,1,1,1,1,1,1,1,1,1,1,1,1,1,1,1,1,1,1,1,1,1,1] N0),(aq [0,1,1,1,1,1,1,1,1,1,1,1,1,1,1,1,1,1,1,1,1,1,1,1] N0),(aq [0,1,1,1,1,1,1,1,1,1,1,1,1,1,1,1,1,1,1,1,1,1,1,1,1] N0),(aq [0,1,1,1,1,1,1,1,1,1,1,1,1,1,1,1,1,1,1,1,1,1,1,1,1,1] N0)] rfl (link_seq2 (Nv4 b d g) (fun (t : Int × Int) => (Njj t.1 t.2)) (fun (t : Bool) => t) (by
  rintro t
  · kernel_rfl) (by
  rintro t f K h
  · exact h)))) (by unfold N20; kernel_rfl) (by
  intro t
  exact ret_mk [dB t] (by kernel_rfl) (by kernel_rfl) (by kernel_rfl) (by kernel_rfl)) h
def Nhu : Fun := fun avs H =>
  match avs,H with
  | [.agg [.dat (.list (.int .i64)) a,.dat (.list (.list (.int .i64))) b],.dat (.list (.pair (.int .i64) (.pair (.int .i64) (.pair (.int .i64) .unit)))) c],[] => ⟨_,N20 a b c,fun (t : Bool) => (dB t,[]),[],none⟩
  | _,_ => Ans.no
theorem Nvj : Sound Tryd.prog 4 Nhu := by
  refine fn_sound' (C := N7w) (c := bodyOf Tryd.f4) (cok_of tys_ok (allc Nom (allc Nlo (allc Nyp (allc Nq9 (allc Nxl (allc Nys (allc Nt2 (allc Nq4 (allc Nvs (allc Nw8 (allc Nwm alln))))))))))) (allc Tryd.call5 (allc Tryd.call13 (allc Tryd.call7 (allc Tryd.call15 (allc Tryd.call14 (allc Tryd.call16 (allc Tryd.call10 (allc Tryd.call17 (allc Tryd.call11 (allc Tryd.call18 (allc Tryd.call12 alln))))))))))) (by kernel_rfl)) Tryd.func4 (by kernel_rfl) LL N0 ?_
  intro avs H r H' h
  unfold Nhu at h
  split at h
  · refine Awp.cast ?_ ?_ ?_ (Nmb _ _ _ h) <;> kernel_rfl
  · simp [Ans.no,Ans.run] at h
end Go.Rv
