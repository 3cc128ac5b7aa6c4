/-
  The checked code answers as the plain functions do; written by program. Conditions: none.
-/
import Derived.Test.YtihgceegapfngacDoorKFnExactDeskRuna
import Derived.Test.YtihgceegapfngacDoorProg
set_option linter.unusedVariables false
set_option linter.unusedSimpArgs false
set_option linter.defProp false
set_option maxRecDepth 100000
namespace Go.Rv
open Go.Proofs
def Nz : Ann := (.seq (.leaf [0,1]) (.seq (.seq (.leaf [0,1,10]) (.cond (.seq (.leaf [4]) (.leaf [4])) (.leaf [0,1]))) (.seq (.seq (.leaf [0,1,5]) (.block (.loop (.seq (.seq (.leaf [0,1,5,14]) (.cond (.leaf [0,1,5]) (.leaf []))) (.seq (.block (.seq (.draw [] [0,1,2,3,4,5,6,7,8] [] [0,1,5,25]) (.cond (.seq (.leaf [4]) (.leaf [4])) (.leaf [0,1,5])))) (.leaf [0,1,5])))))) (.seq (.leaf [4]) (.leaf [4])))))
noncomputable def N3e : Ctx := ⟨tlook tys,olook [],ioF,0,false,[]⟩
theorem Nxu (a b : List Int) : Link N3e LL (Code.seq (cq [0] (bodyOf Tryd.f32)) (cq [0,1] (bodyOf Tryd.f32))) (Ann.seq (aq [0] Nz) (aq [0,1] Nz)) ⟨mkE 26 0 [(0,dL a),(1,dL b)],[]⟩ (N9v a b) (Sum.elim (fun (t : Unit) => (Exit.normal,⟨mkE 26 0 [(0,dL a),(1,dL b)],[]⟩)) (fun (t : Bool) => (Exit.ret,⟨mkE 26 0 [(4,dB t)],[]⟩))) := .of fun K h => by
  simp only [N9v,wpW] at h
  exact .of (by kernel_rfl) h
theorem Non (a b : List Int) : Link N3e LL (cq [0,0,1,1] (bodyOf Tryd.f32)) (aq [0,0,1,1] Nz) ⟨mkE 26 0 [(0,dL a),(1,dL b)],[]⟩ (N6y) (fun (t : Unit) => (Exit.normal,⟨mkE 26 0 [(0,dL a),(1,dL b),(5,dI 0)],[]⟩)) := .of fun K h => by
  simp only [N6y,wpW] at h
  exact .of (by kernel_rfl) h
theorem Nmh (a b : List Int) (c : Int) : Link N3e LL (cq [0,0,1,0,1,1] (bodyOf Tryd.f32)) (aq [0,0,1,0,1,1] Nz) ⟨mkE 26 0 [(0,dL a),(1,dL b),(5,dI c)],[]⟩ (N3n a b c) (Sum.elim (fun (t : Int) => (Exit.normal,⟨mkE 26 0 [(0,dL a),(1,dL b),(5,dI t)],[]⟩)) (Sum.elim (fun (t : Bool) => (Exit.ret,⟨mkE 26 0 [(4,dB t)],[]⟩)) (fun (t : Unit) => ((Exit.exit 0),⟨mkE 26 0 [],[]⟩)))) := .of fun K h => by
  simp only [N3n,wpW] at h
  exact .of (by kernel_rfl) h
theorem Nts : Link N3e LL (cq [1,1,1] (bodyOf Tryd.f32)) (aq [1,1,1] Nz) ⟨mkE 26 0 [],[]⟩ (N7n) (fun (t : Bool) => (Exit.ret,⟨mkE 26 0 [(4,dB t)],[]⟩)) := .of fun K h => by
  simp only [N7n,wpW] at h
  exact .of (by kernel_rfl) h
theorem Nvy (b d : List Int) {r : AV} {H' : Heap} (h : (Ans.mk _ (N2b b d) (fun (t : Bool) => (dB t,[])) [] none).run = some (r,H')) : Awp N3e LL (bodyOf Tryd.f32) Nz ⟨mkE 26 0 [(0,dL b),(1,dL d)],[]⟩ (Ret (tlook tys) Tryd.f32.results.toList r H') :=
  ret_of' (Link.cast (by kernel_rfl) (by kernel_rfl) (link_group (c := (cq [0,1] (bodyOf Tryd.f32))) (a := (aq [0,1] Nz)) [(cq [0] (bodyOf Tryd.f32))] [(aq [0] Nz)] rfl (link_seq2 (Nxu b d) (fun (t : Unit) => (link_seq2 (link_seq (Non b d) (fun (t : Unit) => (link_block (fin2 := (Sum.elim (fun (t : Unit) => (Exit.normal,⟨mkE 26 0 [],[]⟩)) (fun (t : Bool) => (Exit.ret,⟨mkE 26 0 [(4,dB t)],[]⟩)))) (id := 0) (link_loop (mk := fun (s : Int) => ⟨mkE 26 0 [(0,dL b),(1,dL d),(5,dI s)],[]⟩) (fin := (Sum.elim (fun (t : Bool) => (Exit.ret,⟨mkE 26 0 [(4,dB t)],[]⟩)) (fun (t : Unit) => ((Exit.exit 0),⟨mkE 26 0 [],[]⟩)))) (by
  rintro (t | t) f K h
  · exact h
  · exact h) (fun s => link_map (Nmh b d s) (Sum.elim (fun (t : Int) => Sum.inl t) (Sum.elim (fun (t : Bool) => Sum.inr (Sum.inl t)) (fun (t : Unit) => Sum.inr (Sum.inr t)))) (by
  rintro (t | t | t)
  · kernel_rfl
  · kernel_rfl
  · kernel_rfl)) 0) (Sum.elim (fun (t : Bool) => (Sum.inr t)) (fun (t : Unit) => (Sum.inl ()))) (by
  rintro (t | t) K h
  · exact Eq.mp (by kernel_rfl) h
  · exact Eq.mp (by kernel_rfl) h)))) (fun (t : Unit) => (Nts)) (fun (t : Bool) => t) (by
  rintro t
  · kernel_rfl) (by
  rintro t f K h
  · exact h))) (fun (t : Bool) => t) (by
  rintro t
  · kernel_rfl) (by
  rintro t f K h
  · exact h)))) (by unfold N2b; kernel_rfl) (by
  intro t
  exact ret_mk [dB t] (by kernel_rfl) (by kernel_rfl) (by kernel_rfl) (by kernel_rfl)) h
def N6e : Fun := fun avs H =>
  match avs,H with
  | [.dat (.list (.int .i64)) a,.dat (.list (.int .i64)) b],[] => ⟨_,N2b a b,fun (t : Bool) => (dB t,[]),[],none⟩
  | _,_ => Ans.no
theorem Nk4 : Sound Tryd.prog 32 N6e := by
  refine fn_sound' (C := N3e) (c := bodyOf Tryd.f32) (cok_of tys_ok (alln) (alln) (by kernel_rfl)) Tryd.func32 (by kernel_rfl) LL Nz ?_
  intro avs H r H' h
  unfold N6e at h
  split at h
  · refine Awp.cast ?_ ?_ ?_ (Nvy _ _ h) <;> kernel_rfl
  · simp [Ans.no,Ans.run] at h

def N1i : Ann := (.seq (.leaf [0,1]) (.seq (.seq (.leaf [0,1,10]) (.cond (.seq (.leaf [4]) (.leaf [4])) (.leaf [0,1]))) (.seq (.seq (.leaf [0,1,5]) (.block (.loop (.seq (.seq (.leaf [0,1,5,14]) (.cond (.leaf [0,1,5]) (.leaf []))) (.seq (.block (.seq (.draw [8] [0,1,2,3,4,5,6,7,8,9] [] [0,1,5,26]) (.cond (.seq (.leaf [4]) (.leaf [4])) (.leaf [0,1,5])))) (.leaf [0,1,5])))))) (.seq (.leaf [4]) (.leaf [4])))))
noncomputable def N32 : Ctx := ⟨tlook tys,olook [(32,N6e)],ioF,0,false,[]⟩
theorem Nxz (a b : List (List Int)) : Link N32 LL (Code.seq (cq [0] (bodyOf Tryd.f33)) (cq [0,1] (bodyOf Tryd.f33))) (Ann.seq (aq [0] N1i) (aq [0,1] N1i)) ⟨mkE 27 0 [(0,.dat (.list (.list (.int .i64))) a),(1,.dat (.list (.list (.int .i64))) b)],[]⟩ (N8e a b) (Sum.elim (fun (t : Unit) => (Exit.normal,⟨mkE 27 0 [(0,.dat (.list (.list (.int .i64))) a),(1,.dat (.list (.list (.int .i64))) b)],[]⟩)) (fun (t : Bool) => (Exit.ret,⟨mkE 27 0 [(4,dB t)],[]⟩))) := .of fun K h => by
  simp only [N8e,wpW] at h
  exact .of (by kernel_rfl) h
theorem Nxh (a b : List (List Int)) : Link N32 LL (cq [0,0,1,1] (bodyOf Tryd.f33)) (aq [0,0,1,1] N1i) ⟨mkE 27 0 [(0,.dat (.list (.list (.int .i64))) a),(1,.dat (.list (.list (.int .i64))) b)],[]⟩ (N80) (fun (t : Unit) => (Exit.normal,⟨mkE 27 0 [(0,.dat (.list (.list (.int .i64))) a),(1,.dat (.list (.list (.int .i64))) b),(5,dI 0)],[]⟩)) := .of fun K h => by
  simp only [N80,wpW] at h
  exact .of (by kernel_rfl) h
theorem Nwx (a b : List (List Int)) (c : Int) : Link N32 LL (cq [0,0,1,0,1,1] (bodyOf Tryd.f33)) (aq [0,0,1,0,1,1] N1i) ⟨mkE 27 0 [(0,.dat (.list (.list (.int .i64))) a),(1,.dat (.list (.list (.int .i64))) b),(5,dI c)],[]⟩ (N41 a b c) (Sum.elim (fun (t : Int) => (Exit.normal,⟨mkE 27 0 [(0,.dat (.list (.list (.int .i64))) a),(1,.dat (.list (.list (.int .i64))) b),(5,dI t)],[]⟩)) (Sum.elim (fun (t : Bool) => (Exit.ret,⟨mkE 27 0 [(4,dB t)],[]⟩)) (fun (t : Unit) => ((Exit.exit 0),⟨mkE 27 0 [],[]⟩)))) := .of fun K h => by
  simp only [N41,wpW] at h
  exact .of (by kernel_rfl) h
theorem Nnz : Link N32 LL (cq [1,1,1] (bodyOf Tryd.f33)) (aq [1,1,1] N1i) ⟨mkE 27 0 [],[]⟩ (N71) (fun (t : Bool) => (Exit.ret,⟨mkE 27 0 [(4,dB t)],[]⟩)) := .of fun K h => by
  simp only [N71,wpW] at h
  exact .of (by kernel_rfl) h
theorem Nwj (b d : List (List Int)) {r : AV} {H' : Heap} (h : (Ans.mk _ (N2p b d) (fun (t : Bool) => (dB t,[])) [] none).run = some (r,H')) : Awp N32 LL (bodyOf Tryd.f33) N1i ⟨mkE 27 0 [(0,.dat (.list (.list (.int .i64))) b),(1,.dat (.list (.list (.int .i64))) d)],[]⟩ (Ret (tlook tys) Tryd.f33.results.toList r H') :=
  ret_of' (Link.cast (by kernel_rfl) (by kernel_rfl) (link_group (c := (cq [0,1] (bodyOf Tryd.f33))) (a := (aq [0,1] N1i)) [(cq [0] (bodyOf Tryd.f33))] [(aq [0] N1i)] rfl (link_seq2 (Nxz b d) (fun (t : Unit) => (link_seq2 (link_seq (Nxh b d) (fun (t : Unit) => (link_block (fin2 := (Sum.elim (fun (t : Unit) => (Exit.normal,⟨mkE 27 0 [],[]⟩)) (fun (t : Bool) => (Exit.ret,⟨mkE 27 0 [(4,dB t)],[]⟩)))) (id := 0) (link_loop (mk := fun (s : Int) => ⟨mkE 27 0 [(0,.dat (.list (.list (.int .i64))) b),(1,.dat (.list (.list (.int .i64))) d),(5,dI s)],[]⟩) (fin := (Sum.elim (fun (t : Bool) => (Exit.ret,⟨mkE 27 0 [(4,dB t)],[]⟩)) (fun (t : Unit) => ((Exit.exit 0),⟨mkE 27 0 [],[]⟩)))) (by
  rintro (t | t) f K h
  · exact h
  · exact h) (fun s => link_map (Nwx b d s) (Sum.elim (fun (t : Int) => Sum.inl t) (Sum.elim (fun (t : Bool) => Sum.inr (Sum.inl t)) (fun (t : Unit) => Sum.inr (Sum.inr t)))) (by
  rintro (t | t | t)
  · kernel_rfl
  · kernel_rfl
  · kernel_rfl)) 0) (Sum.elim (fun (t : Bool) => (Sum.inr t)) (fun (t : Unit) => (Sum.inl ()))) (by
  rintro (t | t) K h
  · exact Eq.mp (by kernel_rfl) h
  · exact Eq.mp (by kernel_rfl) h)))) (fun (t : Unit) => (Nnz)) (fun (t : Bool) => t) (by
  rintro t
  · kernel_rfl) (by
  rintro t f K h
  · exact h))) (fun (t : Bool) => t) (by
  rintro t
  · kernel_rfl) (by
  rintro t f K h
  · exact h)))) (by unfold N2p; kernel_rfl) (by
  intro t
  exact ret_mk [dB t] (by kernel_rfl) (by kernel_rfl) (by kernel_rfl) (by kernel_rfl)) h
def Nel : Fun := fun avs H =>
  match avs,H with
  | [.dat (.list (.list (.int .i64))) a,.dat (.list (.list (.int .i64))) b],[] => ⟨_,N2p a b,fun (t : Bool) => (dB t,[]),[],none⟩
  | _,_ => Ans.no
theorem Nvt : Sound Tryd.prog 33 Nel := by
  refine fn_sound' (C := N32) (c := bodyOf Tryd.f33) (cok_of tys_ok (allc Nk4 alln) (allc Tryd.call32 alln) (by kernel_rfl)) Tryd.func33 (by kernel_rfl) LL N1i ?_
  intro avs H r H' h
  unfold Nel at h
  split at h
  · refine Awp.cast ?_ ?_ ?_ (Nwj _ _ h) <;> kernel_rfl
  · simp [Ans.no,Ans.run] at h

def Nea : Ann := (.seq (.leaf [2,3]) (.seq (.seq (.leaf [2,3,10]) (.cond (.seq (.leaf [4]) (.leaf [4])) (.leaf [2,3]))) (.seq (.seq (.leaf [16]) (.cond (.seq (.leaf [4]) (.leaf [4])) (.leaf []))) (.seq (.leaf [4]) (.leaf [4])))))
noncomputable def Nbj : Ctx := ⟨tlook tys,olook [(32,N6e),(33,Nel)],ioF,0,false,[]⟩
theorem Nny (a : List Int) (b : List (List Int)) (c : List Int) (d : List (List Int)) : Link Nbj LL (bodyOf Tryd.f10) Nea ⟨mkE 17 0 [(0,.agg [dL a,.dat (.list (.list (.int .i64))) b]),(1,.agg [dL c,.dat (.list (.list (.int .i64))) d])],[]⟩ (N7i a b c d) (fun (t : Bool) => (Exit.ret,⟨mkE 17 0 [(4,dB t)],[]⟩)) := .of fun K h => by
  simp only [N7i,wpW] at h
  exact .of (by kernel_rfl) h
theorem Npe (a : List Int) (b : List (List Int)) (c : List Int) (d : List (List Int)) {r : AV} {H' : Heap} (h : (Ans.mk _ (Nx a b c d) (fun (t : Bool) => (dB t,[])) [] none).run = some (r,H')) : Awp Nbj LL (bodyOf Tryd.f10) Nea ⟨mkE 17 0 [(0,.agg [dL a,.dat (.list (.list (.int .i64))) b]),(1,.agg [dL c,.dat (.list (.list (.int .i64))) d])],[]⟩ (Ret (tlook tys) Tryd.f10.results.toList r H') :=
  ret_of' (Nny a b c d) (by unfold Nx; kernel_rfl) (by
  intro t
  exact ret_mk [dB t] (by kernel_rfl) (by kernel_rfl) (by kernel_rfl) (by kernel_rfl)) h
def Nct : Fun := fun avs H =>
  match avs,H with
  | [.agg [.dat (.list (.int .i64)) a,.dat (.list (.list (.int .i64))) b],.agg [.dat (.list (.int .i64)) c,.dat (.list (.list (.int .i64))) d]],[] => ⟨_,Nx a b c d,fun (t : Bool) => (dB t,[]),[],none⟩
  | _,_ => Ans.no
theorem Nnr : Sound Tryd.prog 10 Nct := by
  refine fn_sound' (C := Nbj) (c := bodyOf Tryd.f10) (cok_of tys_ok (allc Nk4 (allc Nvt alln)) (allc Tryd.call32 (allc Tryd.call33 alln)) (by kernel_rfl)) Tryd.func10 (by kernel_rfl) LL Nea ?_
  intro avs H r H' h
  unfold Nct at h
  split at h
  · refine Awp.cast ?_ ?_ ?_ (Npe _ _ _ _ h) <;> kernel_rfl
  · simp [Ans.no,Ans.run] at h

def N4f : Ann := (.seq (.leaf [0,1]) (.seq (.seq (.leaf [0,1,5]) (.block (.loop (.seq (.seq (.leaf [0,1,5,9]) (.cond (.leaf [0,1,5]) (.leaf [1]))) (.seq (.block (.seq (.leaf [0,1,5]) (.leaf [0,1,5]))) (.leaf [0,1,5])))))) (.seq (.leaf [4]) (.leaf [4]))))
noncomputable def N3p : Ctx := ⟨tlook tys,olook [],ioF,1,false,[]⟩
theorem Nv1 (a : Int) (b : List Int) : Link N3p LL (cq [0] (bodyOf Tryd.f34)) (aq [0] N4f) ⟨mkE 19 0 [(0,.slc 0),(1,dI a)],[some (sI b)]⟩ (Na2) (fun (t : Unit) => (Exit.normal,⟨mkE 19 0 [(0,.slc 0),(1,dI a)],[some (sI b)]⟩)) := .of fun K h => by
  simp only [Na2,wpW] at h
  exact .of (by kernel_rfl) h
theorem Nxb (a : Int) (b : List Int) : Link N3p LL (cq [0,0,1] (bodyOf Tryd.f34)) (aq [0,0,1] N4f) ⟨mkE 19 0 [(0,.slc 0),(1,dI a)],[some (sI b)]⟩ (Na0) (fun (t : Unit) => (Exit.normal,⟨mkE 19 0 [(0,.slc 0),(1,dI a),(5,dI 0)],[some (sI b)]⟩)) := .of fun K h => by
  simp only [Na0,wpW] at h
  exact .of (by kernel_rfl) h
theorem Nms (a b : Int) (c : List Int) : Link N3p LL (cq [0,0,1,0,1] (bodyOf Tryd.f34)) (aq [0,0,1,0,1] N4f) ⟨mkE 19 0 [(0,.slc 0),(1,dI a),(5,dI b)],[some (sI c)]⟩ (N5d a b c) (Sum.elim (fun (t : Int × Int × (List Int)) => (Exit.normal,⟨mkE 19 0 [(0,.slc 0),(1,dI t.1),(5,dI t.2.1)],[some (sI t.2.2)]⟩)) (fun (t : Int × (List Int)) => ((Exit.exit 0),⟨mkE 19 0 [(1,dI t.1)],[some (sI t.2)]⟩))) := .of fun K h => by
  simp only [N5d,wpW] at h
  exact .of (by kernel_rfl) h
theorem Nu7 (a : Int) (b : List Int) : Link N3p LL (cq [1,1] (bodyOf Tryd.f34)) (aq [1,1] N4f) ⟨mkE 19 0 [(1,dI a)],[some (sI b)]⟩ (N89 a b) (fun (t : Int × (List Int)) => (Exit.ret,⟨mkE 19 0 [(4,dI t.1)],[some (sI t.2)]⟩)) := .of fun K h => by
  simp only [N89,wpW] at h
  exact .of (by kernel_rfl) h
theorem Nwz (a : Int) (b : List Int) {r : AV} {H' : Heap} (h : (Ans.mk _ (N1m a b) (fun (t : Int × (List Int)) => (dI t.1,[some (sI t.2)])) [] none).run = some (r,H')) : Awp N3p LL (bodyOf Tryd.f34) N4f ⟨mkE 19 0 [(0,.slc 0),(1,dI a)],[some (sI b)]⟩ (Ret (tlook tys) Tryd.f34.results.toList r H') :=
  ret_of' (Link.cast (by kernel_rfl) (by kernel_rfl) (link_seq (Nv1 a b) (fun (t : Unit) => (link_seq (link_seq (Nxb a b) (fun (t : Unit) => (link_block (fin2 := (fun (t : Int × (List Int)) => (Exit.normal,⟨mkE 19 0 [(1,dI t.1)],[some (sI t.2)]⟩))) (id := 0) (link_loop (mk := fun (s : Int × Int × (List Int)) => ⟨mkE 19 0 [(0,.slc 0),(1,dI s.1),(5,dI s.2.1)],[some (sI s.2.2)]⟩) (fin := (fun (t : Int × (List Int)) => ((Exit.exit 0),⟨mkE 19 0 [(1,dI t.1)],[some (sI t.2)]⟩))) (by
  rintro t f K h
  · exact h) (fun s => link_map (Nms s.1 s.2.1 s.2.2) (Sum.elim (fun (t : Int × Int × (List Int)) => Sum.inl (t.1,t.2.1,t.2.2)) (fun (t : Int × (List Int)) => Sum.inr t)) (by
  rintro (t | t)
  · kernel_rfl
  · kernel_rfl)) (a,0,b)) (fun (t : Int × (List Int)) => (t.1,t.2)) (by
  rintro t K h
  · exact Eq.mp (by kernel_rfl) h)))) (fun (t : Int × (List Int)) => (Nu7 t.1 t.2)))))) (by unfold N1m; kernel_rfl) (by
  intro t
  exact ret_mk [dI t.1] (by kernel_rfl) (by kernel_rfl) (by kernel_rfl) (by kernel_rfl)) h
def N7j : Fun := fun avs H =>
  match avs,H with
  | [.slc 0,.dat (.int .i64) a],[some (.seq (.int .i64) b)] => ⟨_,N1m a b,fun (t : Int × (List Int)) => (dI t.1,[some (sI t.2)]),[],none⟩
  | _,_ => Ans.no
theorem Njd : Sound Tryd.prog 34 N7j := by
  refine fn_sound' (C := N3p) (c := bodyOf Tryd.f34) (cok_of tys_ok (alln) (alln) (by kernel_rfl)) Tryd.func34 (by kernel_rfl) LL N4f ?_
  intro avs H r H' h
  unfold N7j at h
  split at h
  · refine Awp.cast ?_ ?_ ?_ (Nwz _ _ h) <;> kernel_rfl
  · simp [Ans.no,Ans.run] at h

def N34 : Ann := (.seq (.leaf [0,1]) (.seq (.seq (.leaf [0,1,5]) (.block (.loop (.seq (.seq (.leaf [0,1,5,9]) (.cond (.leaf [0,1,5]) (.leaf [1]))) (.seq (.block (.leafF [⟨7,0,true,some 0,none⟩] [0,1,5])) (.leaf [0,1,5])))))) (.seq (.leaf [4]) (.leaf [4]))))
noncomputable def N42 : Ctx := ⟨tlook tys,olook [(34,N7j)],ioF,1,true,[]⟩
theorem Nt5 (a : Int) (b : List (List Int)) : Link N42 LL (cq [0] (bodyOf Tryd.f35)) (aq [0] N34) ⟨mkE 19 0 [(0,.slc 0),(1,dI a)],[some (.nest (.int .i64) b 0 [])]⟩ (N6h) (fun (t : Unit) => (Exit.normal,⟨mkE 19 0 [(0,.slc 0),(1,dI a)],[some (.nest (.int .i64) b 0 [])]⟩)) := .of fun K h => by
  simp only [N6h,wpW] at h
  exact .of (by kernel_rfl) h
theorem Nlm (a : Int) (b : List (List Int)) : Link N42 LL (cq [0,0,1] (bodyOf Tryd.f35)) (aq [0,0,1] N34) ⟨mkE 19 0 [(0,.slc 0),(1,dI a)],[some (.nest (.int .i64) b 0 [])]⟩ (N5w) (fun (t : Unit) => (Exit.normal,⟨mkE 19 0 [(0,.slc 0),(1,dI a),(5,dI 0)],[some (.nest (.int .i64) b 0 [])]⟩)) := .of fun K h => by
  simp only [N5w,wpW] at h
  exact .of (by kernel_rfl) h
theorem Noc (a b : Int) (c : List (List Int)) : Link N42 LL (cq [0,0,1,0,1] (bodyOf Tryd.f35)) (aq [0,0,1,0,1] N34) ⟨mkE 19 0 [(0,.slc 0),(1,dI a),(5,dI b)],[some (.nest (.int .i64) c 0 [])]⟩ (N39 a b c) (Sum.elim (fun (t : Int × Int × (List (List Int))) => (Exit.normal,⟨mkE 19 0 [(0,.slc 0),(1,dI t.1),(5,dI t.2.1)],[some (.nest (.int .i64) t.2.2 0 [])]⟩)) (fun (t : Int × (List (List Int))) => ((Exit.exit 0),⟨mkE 19 0 [(1,dI t.1)],[some (.nest (.int .i64) t.2 0 [])]⟩))) := .of fun K h => by
  simp only [N39,wpW] at h
  exact .of (by kernel_rfl) h
theorem Nx6 (a : Int) (b : List (List Int)) : Link N42 LL (cq [1,1] (bodyOf Tryd.f35)) (aq [1,1] N34) ⟨mkE 19 0 [(1,dI a)],[some (.nest (.int .i64) b 0 [])]⟩ (Na1 a b) (fun (t : Int × (List (List Int))) => (Exit.ret,⟨mkE 19 0 [(4,dI t.1)],[some (.nest (.int .i64) t.2 0 [])]⟩)) := .of fun K h => by
  simp only [Na1,wpW] at h
  exact .of (by kernel_rfl) h
theorem Nyd (a : Int) (b : List (List Int)) {r : AV} {H' : Heap} (h : (Ans.mk _ (N28 a b) (fun (t : Int × (List (List Int))) => (dI t.1,[some (.nest (.int .i64) t.2 0 [])])) [] none).run = some (r,H')) : Awp N42 LL (bodyOf Tryd.f35) N34 ⟨mkE 19 0 [(0,.slc 0),(1,dI a)],[some (.nest (.int .i64) b 0 [])]⟩ (Ret (tlook tys) Tryd.f35.results.toList r H') :=
  ret_of' (Link.cast (by kernel_rfl) (by kernel_rfl) (link_seq (Nt5 a b) (fun (t : Unit) => (link_seq (link_seq (Nlm a b) (fun (t : Unit) => (link_block (fin2 := (fun (t : Int × (List (List Int))) => (Exit.normal,⟨mkE 19 0 [(1,dI t.1)],[some (.nest (.int .i64) t.2 0 [])]⟩))) (id := 0) (link_loop (mk := fun (s : Int × Int × (List (List Int))) => ⟨mkE 19 0 [(0,.slc 0),(1,dI s.1),(5,dI s.2.1)],[some (.nest (.int .i64) s.2.2 0 [])]⟩) (fin := (fun (t : Int × (List (List Int))) => ((Exit.exit 0),⟨mkE 19 0 [(1,dI t.1)],[some (.nest (.int .i64) t.2 0 [])]⟩))) (by
  rintro t f K h
  · exact h) (fun s => link_map (Noc s.1 s.2.1 s.2.2) (Sum.elim (fun (t : Int × Int × (List (List Int))) => Sum.inl (t.1,t.2.1,t.2.2)) (fun (t : Int × (List (List Int))) => Sum.inr t)) (by
  rintro (t | t)
  · kernel_rfl
  · kernel_rfl)) (a,0,b)) (fun (t : Int × (List (List Int))) => (t.1,t.2)) (by
  rintro t K h
  · exact Eq.mp (by kernel_rfl) h)))) (fun (t : Int × (List (List Int))) => (Nx6 t.1 t.2)))))) (by unfold N28; kernel_rfl) (by
  intro t
  exact ret_mk [dI t.1] (by kernel_rfl) (by kernel_rfl) (by kernel_rfl) (by kernel_rfl)) h
def Nbz : Fun := fun avs H =>
  match avs,H with
  | [.slc 0,.dat (.int .i64) a],[some (.nest (.int .i64) b 0 [])] => ⟨_,N28 a b,fun (t : Int × (List (List Int))) => (dI t.1,[some (.nest (.int .i64) t.2 0 [])]),[],none⟩
  | _,_ => Ans.no
theorem Npi : Sound Tryd.prog 35 Nbz := by
  refine fn_sound' (C := N42) (c := bodyOf Tryd.f35) (cok_of tys_ok (allc Njd alln) (allc Tryd.call34 alln) (by kernel_rfl)) Tryd.func35 (by kernel_rfl) LL N34 ?_
  intro avs H r H' h
  unfold Nbz at h
  split at h
  · refine Awp.cast ?_ ?_ ?_ (Nyd _ _ h) <;> kernel_rfl
  · simp [Ans.no,Ans.run] at h

def Nbq : Ann := (.seq (.leaf [1,2]) (.seq (.leaf [1,2]) (.seq (.leaf [1]) (.seq (.leaf [4]) (.leaf [4])))))
noncomputable def Na8 : Ctx := ⟨tlook tys,olook [(34,N7j),(35,Nbz)],ioF,2,true,[]⟩
theorem Nop (a : Int) (b : List Int) (c : List (List Int)) : Link Na8 LL (bodyOf Tryd.f11) Nbq ⟨mkE 14 0 [(0,.agg [.slc 0,.slc 1]),(1,dI a)],[some (sI b),some (.nest (.int .i64) c 0 [])]⟩ (N8r a b c) (fun (t : Int × (List Int) × (List (List Int))) => (Exit.ret,⟨mkE 14 0 [(4,dI t.1)],[some (sI t.2.1),some (.nest (.int .i64) t.2.2 0 [])]⟩)) := .of fun K h => by
  simp only [N8r,wpW] at h
  exact .of (by kernel_rfl) h
theorem Noz (a : Int) (b : List Int) (c : List (List Int)) {r : AV} {H' : Heap} (h : (Ans.mk _ (N2s a b c) (fun (t : Int × (List Int) × (List (List Int))) => (dI t.1,[some (sI t.2.1),some (.nest (.int .i64) t.2.2 0 [])])) [] none).run = some (r,H')) : Awp Na8 LL (bodyOf Tryd.f11) Nbq ⟨mkE 14 0 [(0,.agg [.slc 0,.slc 1]),(1,dI a)],[some (sI b),some (.nest (.int .i64) c 0 [])]⟩ (Ret (tlook tys) Tryd.f11.results.toList r H') :=
  ret_of' (Nop a b c) (by unfold N2s; kernel_rfl) (by
  intro t
  exact ret_mk [dI t.1] (by kernel_rfl) (by kernel_rfl) (by kernel_rfl) (by kernel_rfl)) h
def Naq : Fun := fun avs H =>
  match avs,H with
  | [.agg [.slc 0,.slc 1],.dat (.int .i64) a],[some (.seq (.int .i64) b),some (.nest (.int .i64) c 0 [])] => ⟨_,N2s a b c,fun (t : Int × (List Int) × (List (List Int))) => (dI t.1,[some (sI t.2.1),some (.nest (.int .i64) t.2.2 0 [])]),[],none⟩
  | _,_ => Ans.no
theorem Npw : Sound Tryd.prog 11 Naq := by
  refine fn_sound' (C := Na8) (c := bodyOf Tryd.f11) (cok_of tys_ok (allc Njd (allc Npi alln)) (allc Tryd.call34 (allc Tryd.call35 alln)) (by kernel_rfl)) Tryd.func11 (by kernel_rfl) LL Nbq ?_
  intro avs H r H' h
  unfold Naq at h
  split at h
  · refine Awp.cast ?_ ?_ ?_ (Noz _ _ _ h) <;> kernel_rfl
  · simp [Ans.no,Ans.run] at h

def N3f : Ann := (.seq (.leaf [0,1]) (.seq (.seq (.leaf [0,1,5]) (.block (.loop (.seq (.seq (.leaf [0,1,5,9]) (.cond (.leaf [0,1,5]) (.leaf [1]))) (.seq (.block (.seq (.seq (.leaf [0,1,5,17]) (.cond (.seq (.leaf [4]) (.leaf [4])) (.leaf [0,1,5]))) (.leaf [0,1,5]))) (.leaf [0,1,5])))))) (.seq (.leaf [4]) (.leaf [4]))))
noncomputable def N4p : Ctx := ⟨tlook tys,olook [],ioF,0,false,[]⟩
theorem Nrs (a : List Int) (b : Int) : Link N4p LL (cq [0] (bodyOf Tryd.f36)) (aq [0] N3f) ⟨mkE 21 0 [(0,dL a),(1,dI b)],[]⟩ (N97) (fun (t : Unit) => (Exit.normal,⟨mkE 21 0 [(0,dL a),(1,dI b)],[]⟩)) := .of fun K h => by
  simp only [N97,wpW] at h
  exact .of (by kernel_rfl) h
theorem Ns2 (a : List Int) (b : Int) : Link N4p LL (cq [0,0,1] (bodyOf Tryd.f36)) (aq [0,0,1] N3f) ⟨mkE 21 0 [(0,dL a),(1,dI b)],[]⟩ (N6z) (fun (t : Unit) => (Exit.normal,⟨mkE 21 0 [(0,dL a),(1,dI b),(5,dI 0)],[]⟩)) := .of fun K h => by
  simp only [N6z,wpW] at h
  exact .of (by kernel_rfl) h
theorem Nu5 (a : List Int) (b c : Int) : Link N4p LL (cq [0,0,1,0,1] (bodyOf Tryd.f36)) (aq [0,0,1,0,1] N3f) ⟨mkE 21 0 [(0,dL a),(1,dI b),(5,dI c)],[]⟩ (N5l a b c) (Sum.elim (fun (t : Int × Int) => (Exit.normal,⟨mkE 21 0 [(0,dL a),(1,dI t.1),(5,dI t.2)],[]⟩)) (Sum.elim (fun (t : Int) => (Exit.ret,⟨mkE 21 0 [(4,dI t)],[]⟩)) (fun (t : Int) => ((Exit.exit 0),⟨mkE 21 0 [(1,dI t)],[]⟩)))) := .of fun K h => by
  simp only [N5l,wpW] at h
  exact .of (by kernel_rfl) h
theorem Nvo (a : Int) : Link N4p LL (cq [1,1] (bodyOf Tryd.f36)) (aq [1,1] N3f) ⟨mkE 21 0 [(1,dI a)],[]⟩ (N9h a) (fun (t : Int) => (Exit.ret,⟨mkE 21 0 [(4,dI t)],[]⟩)) := .of fun K h => by
  simp only [N9h,wpW] at h
  exact .of (by kernel_rfl) h
theorem Nr6 (a : List Int) (b : Int) {r : AV} {H' : Heap} (h : (Ans.mk _ (N1r a b) (fun (t : Int) => (dI t,[])) [] none).run = some (r,H')) : Awp N4p LL (bodyOf Tryd.f36) N3f ⟨mkE 21 0 [(0,dL a),(1,dI b)],[]⟩ (Ret (tlook tys) Tryd.f36.results.toList r H') :=
  ret_of' (Link.cast (by kernel_rfl) (by kernel_rfl) (link_seq (Nrs a b) (fun (t : Unit) => (link_seq2 (link_seq (Ns2 a b) (fun (t : Unit) => (link_block (fin2 := (Sum.elim (fun (t : Int) => (Exit.normal,⟨mkE 21 0 [(1,dI t)],[]⟩)) (fun (t : Int) => (Exit.ret,⟨mkE 21 0 [(4,dI t)],[]⟩)))) (id := 0) (link_loop (mk := fun (s : Int × Int) => ⟨mkE 21 0 [(0,dL a),(1,dI s.1),(5,dI s.2)],[]⟩) (fin := (Sum.elim (fun (t : Int) => (Exit.ret,⟨mkE 21 0 [(4,dI t)],[]⟩)) (fun (t : Int) => ((Exit.exit 0),⟨mkE 21 0 [(1,dI t)],[]⟩)))) (by
  rintro (t | t) f K h
  · exact h
  · exact h) (fun s => link_map (Nu5 a s.1 s.2) (Sum.elim (fun (t : Int × Int) => Sum.inl (t.1,t.2)) (Sum.elim (fun (t : Int) => Sum.inr (Sum.inl t)) (fun (t : Int) => Sum.inr (Sum.inr t)))) (by
  rintro (t | t | t)
  · kernel_rfl
  · kernel_rfl
  · kernel_rfl)) (b,0)) (Sum.elim (fun (t : Int) => (Sum.inr t)) (fun (t : Int) => (Sum.inl t))) (by
  rintro (t | t) K h
  · exact Eq.mp (by kernel_rfl) h
  · exact Eq.mp (by kernel_rfl) h)))) (fun (t : Int) => (Nvo t)) (fun (t : Int) => t) (by
  rintro t
  · kernel_rfl) (by
  rintro t f K h
  · exact h))))) (by unfold N1r; kernel_rfl) (by
  intro t
  exact ret_mk [dI t] (by kernel_rfl) (by kernel_rfl) (by kernel_rfl) (by kernel_rfl)) h
def N6w : Fun := fun avs H =>
  match avs,H with
  | [.dat (.list (.int .i64)) a,.dat (.int .i64) b],[] => ⟨_,N1r a b,fun (t : Int) => (dI t,[]),[],none⟩
  | _,_ => Ans.no
theorem Nhc : Sound Tryd.prog 36 N6w := by
  refine fn_sound' (C := N4p) (c := bodyOf Tryd.f36) (cok_of tys_ok (alln) (alln) (by kernel_rfl)) Tryd.func36 (by kernel_rfl) LL N3f ?_
  intro avs H r H' h
  unfold N6w at h
  split at h
  · refine Awp.cast ?_ ?_ ?_ (Nr6 _ _ h) <;> kernel_rfl
  · simp [Ans.no,Ans.run] at h

def N3z : Ann := (.seq (.leaf [0,1]) (.seq (.seq (.leaf [0,1,5]) (.block (.loop (.seq (.seq (.leaf [0,1,5,9]) (.cond (.leaf [0,1,5]) (.leaf [1]))) (.seq (.block (.seq (.leaf [0,1,5]) (.seq (.leaf [0,1,5,19]) (.cond (.seq (.leaf [4]) (.leaf [4])) (.leaf [0,1,5]))))) (.leaf [0,1,5])))))) (.seq (.leaf [4]) (.leaf [4]))))
noncomputable def N36 : Ctx := ⟨tlook tys,olook [(36,N6w)],ioF,0,false,[]⟩
theorem Nr3 (a : List (List Int)) (b : Int) : Link N36 LL (cq [0] (bodyOf Tryd.f37)) (aq [0] N3z) ⟨mkE 21 0 [(0,.dat (.list (.list (.int .i64))) a),(1,dI b)],[]⟩ (N9c) (fun (t : Unit) => (Exit.normal,⟨mkE 21 0 [(0,.dat (.list (.list (.int .i64))) a),(1,dI b)],[]⟩)) := .of fun K h => by
  simp only [N9c,wpW] at h
  exact .of (by kernel_rfl) h
theorem Nla (a : List (List Int)) (b : Int) : Link N36 LL (cq [0,0,1] (bodyOf Tryd.f37)) (aq [0,0,1] N3z) ⟨mkE 21 0 [(0,.dat (.list (.list (.int .i64))) a),(1,dI b)],[]⟩ (N6b) (fun (t : Unit) => (Exit.normal,⟨mkE 21 0 [(0,.dat (.list (.list (.int .i64))) a),(1,dI b),(5,dI 0)],[]⟩)) := .of fun K h => by
  simp only [N6b,wpW] at h
  exact .of (by kernel_rfl) h
theorem Nx5 (a : List (List Int)) (b c : Int) : Link N36 LL (cq [0,0,1,0,1] (bodyOf Tryd.f37)) (aq [0,0,1,0,1] N3z) ⟨mkE 21 0 [(0,.dat (.list (.list (.int .i64))) a),(1,dI b),(5,dI c)],[]⟩ (N3v a b c) (Sum.elim (fun (t : Int × Int) => (Exit.normal,⟨mkE 21 0 [(0,.dat (.list (.list (.int .i64))) a),(1,dI t.1),(5,dI t.2)],[]⟩)) (Sum.elim (fun (t : Int) => (Exit.ret,⟨mkE 21 0 [(4,dI t)],[]⟩)) (fun (t : Int) => ((Exit.exit 0),⟨mkE 21 0 [(1,dI t)],[]⟩)))) := .of fun K h => by
  simp only [N3v,wpW] at h
  exact .of (by kernel_rfl) h
theorem Nkn (a : Int) : Link N36 LL (cq [1,1] (bodyOf Tryd.f37)) (aq [1,1] N3z) ⟨mkE 21 0 [(1,dI a)],[]⟩ (N7q a) (fun (t : Int) => (Exit.ret,⟨mkE 21 0 [(4,dI t)],[]⟩)) := .of fun K h => by
  simp only [N7q,wpW] at h
  exact .of (by kernel_rfl) h
theorem Nqm (a : List (List Int)) (b : Int) {r : AV} {H' : Heap} (h : (Ans.mk _ (N2a a b) (fun (t : Int) => (dI t,[])) [] none).run = some (r,H')) : Awp N36 LL (bodyOf Tryd.f37) N3z ⟨mkE 21 0 [(0,.dat (.list (.list (.int .i64))) a),(1,dI b)],[]⟩ (Ret (tlook tys) Tryd.f37.results.toList r H') :=
  ret_of' (Link.cast (by kernel_rfl) (by kernel_rfl) (link_seq (Nr3 a b) (fun (t : Unit) => (link_seq2 (link_seq (Nla a b) (fun (t : Unit) => (link_block (fin2 := (Sum.elim (fun (t : Int) => (Exit.normal,⟨mkE 21 0 [(1,dI t)],[]⟩)) (fun (t : Int) => (Exit.ret,⟨mkE 21 0 [(4,dI t)],[]⟩)))) (id := 0) (link_loop (mk := fun (s : Int × Int) => ⟨mkE 21 0 [(0,.dat (.list (.list (.int .i64))) a),(1,dI s.1),(5,dI s.2)],[]⟩) (fin := (Sum.elim (fun (t : Int) => (Exit.ret,⟨mkE 21 0 [(4,dI t)],[]⟩)) (fun (t : Int) => ((Exit.exit 0),⟨mkE 21 0 [(1,dI t)],[]⟩)))) (by
  rintro (t | t) f K h
  · exact h
  · exact h) (fun s => link_map (Nx5 a s.1 s.2) (Sum.elim (fun (t : Int × Int) => Sum.inl (t.1,t.2)) (Sum.elim (fun (t : Int) => Sum.inr (Sum.inl t)) (fun (t : Int) => Sum.inr (Sum.inr t)))) (by
  rintro (t | t | t)
  · kernel_rfl
  · kernel_rfl
  · kernel_rfl)) (b,0)) (Sum.elim (fun (t : Int) => (Sum.inr t)) (fun (t : Int) => (Sum.inl t))) (by
  rintro (t | t) K h
  · exact Eq.mp (by kernel_rfl) h
  · exact Eq.mp (by kernel_rfl) h)))) (fun (t : Int) => (Nkn t)) (fun (t : Int) => t) (by
  rintro t
  · kernel_rfl) (by
  rintro t f K h
  · exact h))))) (by unfold N2a; kernel_rfl) (by
  intro t
  exact ret_mk [dI t] (by kernel_rfl) (by kernel_rfl) (by kernel_rfl) (by kernel_rfl)) h
def Ndi : Fun := fun avs H =>
  match avs,H with
  | [.dat (.list (.list (.int .i64))) a,.dat (.int .i64) b],[] => ⟨_,N2a a b,fun (t : Int) => (dI t,[]),[],none⟩
  | _,_ => Ans.no
theorem Nyu : Sound Tryd.prog 37 Ndi := by
  refine fn_sound' (C := N36) (c := bodyOf Tryd.f37) (cok_of tys_ok (allc Nhc alln) (allc Tryd.call36 alln) (by kernel_rfl)) Tryd.func37 (by kernel_rfl) LL N3z ?_
  intro avs H r H' h
  unfold Ndi at h
  split at h
  · refine Awp.cast ?_ ?_ ?_ (Nqm _ _ h) <;> kernel_rfl
  · simp [Ans.no,Ans.run] at h

def Nbf : Ann := (.seq (.leaf [1,2]) (.seq (.leaf [1,2]) (.seq (.seq (.leaf [1,2,10]) (.cond (.seq (.leaf [4]) (.leaf [4])) (.leaf [1,2]))) (.seq (.leaf [1]) (.seq (.seq (.leaf [1,16]) (.cond (.seq (.leaf [4]) (.leaf [4])) (.leaf [1]))) (.seq (.leaf [4]) (.leaf [4])))))))
noncomputable def Nc1 : Ctx := ⟨tlook tys,olook [(36,N6w),(37,Ndi)],ioF,0,false,[]⟩
theorem Nvd (a : List Int) (b : List (List Int)) (c : Int) : Link Nc1 LL (bodyOf Tryd.f12) Nbf ⟨mkE 18 0 [(0,.agg [dL a,.dat (.list (.list (.int .i64))) b]),(1,dI c)],[]⟩ (N8n a b c) (fun (t : Int) => (Exit.ret,⟨mkE 18 0 [(4,dI t)],[]⟩)) := .of fun K h => by
  simp only [N8n,wpW] at h
  exact .of (by kernel_rfl) h
theorem Nm4 (a : List Int) (b : List (List Int)) (c : Int) {r : AV} {H' : Heap} (h : (Ans.mk _ (N2g a b c) (fun (t : Int) => (dI t,[])) [] none).run = some (r,H')) : Awp Nc1 LL (bodyOf Tryd.f12) Nbf ⟨mkE 18 0 [(0,.agg [dL a,.dat (.list (.list (.int .i64))) b]),(1,dI c)],[]⟩ (Ret (tlook tys) Tryd.f12.results.toList r H') :=
  ret_of' (Nvd a b c) (by unfold N2g; kernel_rfl) (by
  intro t
  exact ret_mk [dI t] (by kernel_rfl) (by kernel_rfl) (by kernel_rfl) (by kernel_rfl)) h
def Nch : Fun := fun avs H =>
  match avs,H with
  | [.agg [.dat (.list (.int .i64)) a,.dat (.list (.list (.int .i64))) b],.dat (.int .i64) c],[] => ⟨_,N2g a b c,fun (t : Int) => (dI t,[]),[],none⟩
  | _,_ => Ans.no
theorem Npx : Sound Tryd.prog 12 Nch := by
  refine fn_sound' (C := Nc1) (c := bodyOf Tryd.f12) (cok_of tys_ok (allc Nhc (allc Nyu alln)) (allc Tryd.call36 (allc Tryd.call37 alln)) (by kernel_rfl)) Tryd.func12 (by kernel_rfl) LL Nbf ?_
  intro avs H r H' h
  unfold Nch at h
  split at h
  · refine Awp.cast ?_ ?_ ?_ (Nm4 _ _ _ h) <;> kernel_rfl
  · simp [Ans.no,Ans.run] at h

def Nds : Ann := (.seq (.leaf [0,1]) (.seq (.leaf [1]) (.seq (.seq (.leaf [1,10]) (.cond (.seq (.leaf [4]) (.leaf [4])) (.leaf [1]))) (.seq (.leaf [4]) (.leaf [4])))))
noncomputable def Nbd : Ctx := ⟨tlook tys,olook [],ioF,0,false,[]⟩
theorem Nni (a : List (Int × Int × Int × Unit)) (b : Int) : Link Nbd LL (bodyOf Tryd.f13) Nds ⟨mkE 12 0 [(0,.dat (.list (.pair (.int .i64) (.pair (.int .i64) (.pair (.int .i64) .unit)))) a),(1,dI b)],[]⟩ (N9f a b) (fun (t : Int) => (Exit.ret,⟨mkE 12 0 [(4,dI t)],[]⟩)) := .of fun K h => by
  simp only [N9f,wpW] at h
  exact .of (by kernel_rfl) h
theorem Nw5 (a : List (Int × Int × Int × Unit)) (b : Int) {r : AV} {H' : Heap} (h : (Ans.mk _ (N58 a b) (fun (t : Int) => (dI t,[])) [] none).run = some (r,H')) : Awp Nbd LL (bodyOf Tryd.f13) Nds ⟨mkE 12 0 [(0,.dat (.list (.pair (.int .i64) (.pair (.int .i64) (.pair (.int .i64) .unit)))) a),(1,dI b)],[]⟩ (Ret (tlook tys) Tryd.f13.results.toList r H') :=
  ret_of' (Nni a b) (by unfold N58; kernel_rfl) (by
  intro t
  exact ret_mk [dI t] (by kernel_rfl) (by kernel_rfl) (by kernel_rfl) (by kernel_rfl)) h
def Neq : Fun := fun avs H =>
  match avs,H with
  | [.dat (.list (.pair (.int .i64) (.pair (.int .i64) (.pair (.int .i64) .unit)))) a,.dat (.int .i64) b],[] => ⟨_,N58 a b,fun (t : Int) => (dI t,[]),[],none⟩
  | _,_ => Ans.no
theorem Nqq : Sound Tryd.prog 13 Neq := by
  refine fn_sound' (C := Nbd) (c := bodyOf Tryd.f13) (cok_of tys_ok (alln) (alln) (by kernel_rfl)) Tryd.func13 (by kernel_rfl) LL Nds ?_
  intro avs H r H' h
  unfold Neq at h
  split at h
  · refine Awp.cast ?_ ?_ ?_ (Nw5 _ _ h) <;> kernel_rfl
  · simp [Ans.no,Ans.run] at h

def N1b : Ann := (.seq (.leaf [0]) (.seq (.leaf [0,3]) (.seq (.seq (.leaf [0,3,4]) (.block (.loop (.seq (.seq (.leaf [0,3,4,11]) (.cond (.leaf [0,3,4]) (.leaf [3]))) (.seq (.block (.leaf [0,3,4])) (.leaf [0,3,4])))))) (.seq (.leaf [2]) (.leaf [2])))))
noncomputable def N3r : Ctx := ⟨tlook tys,olook [(8,Ndp)],ioF,0,false,[]⟩
theorem Nxl (a : List (Int × Int × Int × Unit)) : Link N3r LL (Code.seq (cq [0] (bodyOf Tryd.f15)) (cq [0,1] (bodyOf Tryd.f15))) (Ann.seq (aq [0] N1b) (aq [0,1] N1b)) ⟨mkE 23 0 [(0,.dat (.list (.pair (.int .i64) (.pair (.int .i64) (.pair (.int .i64) .unit)))) a)],[]⟩ (N5y a) (fun (t : (List (Int × Int × Int × Unit))) => (Exit.normal,⟨mkE 23 0 [(0,.dat (.list (.pair (.int .i64) (.pair (.int .i64) (.pair (.int .i64) .unit)))) a),(3,.slc 0)],[some (.seq (.pair (.int .i64) (.pair (.int .i64) (.pair (.int .i64) .unit))) t)]⟩)) := .of fun K h => by
  simp only [N5y,wpW] at h
  exact .of (by kernel_rfl) h
theorem Nll (a b : List (Int × Int × Int × Unit)) : Link N3r LL (cq [0,0,1,1] (bodyOf Tryd.f15)) (aq [0,0,1,1] N1b) ⟨mkE 23 0 [(0,.dat (.list (.pair (.int .i64) (.pair (.int .i64) (.pair (.int .i64) .unit)))) a),(3,.slc 0)],[some (.seq (.pair (.int .i64) (.pair (.int .i64) (.pair (.int .i64) .unit))) b)]⟩ (N6d) (fun (t : Unit) => (Exit.normal,⟨mkE 23 0 [(0,.dat (.list (.pair (.int .i64) (.pair (.int .i64) (.pair (.int .i64) .unit)))) a),(3,.slc 0),(4,dI 0)],[some (.seq (.pair (.int .i64) (.pair (.int .i64) (.pair (.int .i64) .unit))) b)]⟩)) := .of fun K h => by
  simp only [N6d,wpW] at h
  exact .of (by kernel_rfl) h
theorem Nt7 (a : List (Int × Int × Int × Unit)) (b : Int) (c : List (Int × Int × Int × Unit)) : Link N3r LL (cq [0,0,1,0,1,1] (bodyOf Tryd.f15)) (aq [0,0,1,0,1,1] N1b) ⟨mkE 23 0 [(0,.dat (.list (.pair (.int .i64) (.pair (.int .i64) (.pair (.int .i64) .unit)))) a),(3,.slc 0),(4,dI b)],[some (.seq (.pair (.int .i64) (.pair (.int .i64) (.pair (.int .i64) .unit))) c)]⟩ (N4y a b c) (Sum.elim (fun (t : Int × (List (Int × Int × Int × Unit))) => (Exit.normal,⟨mkE 23 0 [(0,.dat (.list (.pair (.int .i64) (.pair (.int .i64) (.pair (.int .i64) .unit)))) a),(3,.slc 0),(4,dI t.1)],[some (.seq (.pair (.int .i64) (.pair (.int .i64) (.pair (.int .i64) .unit))) t.2)]⟩)) (fun (t : (List (Int × Int × Int × Unit))) => ((Exit.exit 0),⟨mkE 23 0 [(3,.slc 0)],[some (.seq (.pair (.int .i64) (.pair (.int .i64) (.pair (.int .i64) .unit))) t)]⟩))) := .of fun K h => by
  simp only [N4y,wpW] at h
  exact .of (by kernel_rfl) h
theorem Ntx (a : List (Int × Int × Int × Unit)) : Link N3r LL (cq [1,1,1] (bodyOf Tryd.f15)) (aq [1,1,1] N1b) ⟨mkE 23 0 [(3,.slc 0)],[some (.seq (.pair (.int .i64) (.pair (.int .i64) (.pair (.int .i64) .unit))) a)]⟩ (N77 a) (fun (t : (List (Int × Int × Int × Unit))) => (Exit.ret,⟨mkE 23 0 [(2,.slc 0)],[some (.seq (.pair (.int .i64) (.pair (.int .i64) (.pair (.int .i64) .unit))) t)]⟩)) := .of fun K h => by
  simp only [N77,wpW] at h
  exact .of (by kernel_rfl) h
theorem Np4 (b : List (Int × Int × Int × Unit)) {r : AV} {H' : Heap} (h : (Ans.mk _ (Np b) (fun (t : (List (Int × Int × Int × Unit))) => (.slc 0,[some (.seq (.pair (.int .i64) (.pair (.int .i64) (.pair (.int .i64) .unit))) t)])) [] none).run = some (r,H')) : Awp N3r LL (bodyOf Tryd.f15) N1b ⟨mkE 23 0 [(0,.dat (.list (.pair (.int .i64) (.pair (.int .i64) (.pair (.int .i64) .unit)))) b)],[]⟩ (Ret (tlook tys) Tryd.f15.results.toList r H') :=
  ret_of' (Link.cast (by kernel_rfl) (by kernel_rfl) (link_group (c := (cq [0,1] (bodyOf Tryd.f15))) (a := (aq [0,1] N1b)) [(cq [0] (bodyOf Tryd.f15))] [(aq [0] N1b)] rfl (link_seq (Nxl b) (fun (t : (List (Int × Int × Int × Unit))) => (link_seq (link_seq (Nll b t) (fun (t22 : Unit) => (link_block (fin2 := (fun (t22 : (List (Int × Int × Int × Unit))) => (Exit.normal,⟨mkE 23 0 [(3,.slc 0)],[some (.seq (.pair (.int .i64) (.pair (.int .i64) (.pair (.int .i64) .unit))) t22)]⟩))) (id := 0) (link_loop (mk := fun (s : Int × (List (Int × Int × Int × Unit))) => ⟨mkE 23 0 [(0,.dat (.list (.pair (.int .i64) (.pair (.int .i64) (.pair (.int .i64) .unit)))) b),(3,.slc 0),(4,dI s.1)],[some (.seq (.pair (.int .i64) (.pair (.int .i64) (.pair (.int .i64) .unit))) s.2)]⟩) (fin := (fun (t22 : (List (Int × Int × Int × Unit))) => ((Exit.exit 0),⟨mkE 23 0 [(3,.slc 0)],[some (.seq (.pair (.int .i64) (.pair (.int .i64) (.pair (.int .i64) .unit))) t22)]⟩))) (by
  rintro t22 f K h
  · exact h) (fun s => link_map (Nt7 b s.1 s.2) (Sum.elim (fun (t22 : Int × (List (Int × Int × Int × Unit))) => Sum.inl (t22.1,t22.2)) (fun (t22 : (List (Int × Int × Int × Unit))) => Sum.inr t22)) (by
  rintro (t22 | t22)
  · kernel_rfl
  · kernel_rfl)) (0,t)) (fun (t22 : (List (Int × Int × Int × Unit))) => t22) (by
  rintro t22 K h
  · exact Eq.mp (by kernel_rfl) h)))) (fun (t22 : (List (Int × Int × Int × Unit))) => (Ntx t22))))))) (by unfold Np; kernel_rfl) (by
  intro t
  exact ret_mk [.slc 0] (by kernel_rfl) (by kernel_rfl) (by kernel_rfl) (by kernel_rfl)) h
def Nco : Fun := fun avs H =>
  match avs,H with
  | [.dat (.list (.pair (.int .i64) (.pair (.int .i64) (.pair (.int .i64) .unit)))) a],[] => ⟨_,Np a,fun (t : (List (Int × Int × Int × Unit))) => (.slc 0,[some (.seq (.pair (.int .i64) (.pair (.int .i64) (.pair (.int .i64) .unit))) t)]),[],none⟩
  | _,_ => Ans.no
theorem Nqf : Sound Tryd.prog 15 Nco := by
  refine fn_sound' (C := N3r) (c := bodyOf Tryd.f15) (cok_of tys_ok (allc Nnf alln) (allc Tryd.call8 alln) (by kernel_rfl)) Tryd.func15 (by kernel_rfl) LL N1b ?_
  intro avs H r H' h
  unfold Nco at h
  split at h
  · refine Awp.cast ?_ ?_ ?_ (Np4 _ h) <;> kernel_rfl
  · simp [Ans.no,Ans.run] at h

def N7 : Ann := (.seq (.leaf [1,2,4]) (.seq (.seq (.leaf [1,2,4,18]) (.cond (.seq (.leaf [4,5]) (.leafF [⟨0,4,false,some 0,some (.int .i64)⟩,⟨0,4,true,some 1,some (.int .i64)⟩] [4,5])) (.leaf [1,2,4]))) (.seq (.leaf [1,4,6]) (.seq (.leaf [1,4,6,7]) (.seq (.seq (.leaf [1,4,6,7,8]) (.block (.loop (.seq (.seq (.leaf [1,4,6,7,8,25]) (.cond (.leaf [1,4,6,7,8]) (.leaf [4,6,7]))) (.seq (.block (.seq (.draw [5] [0,1,2,3,4,5,6,7,8,9,10,11] [] [1,4,6,7,8,9,10]) (.seq (.leaf [1,4,6,7,8,9,37]) (.cond (.seq (.leaf [1,4,6,7,8]) (.leaf [1,4,6,7,8])) (.leaf [1,4,6,7,8]))))) (.leaf [1,4,6,7,8])))))) (.seq (.leaf [4,5]) (.leaf [4,5])))))))
noncomputable def N4u : Ctx := ⟨tlook tys,olook [(21,Na7),(22,N81),(6,Nc2)],ioF,0,false,[]⟩
theorem Nml (a : List Int) (b : List (List Int)) (c : List (Int × Int × Int × Unit)) : Link N4u LL (Code.seq (cq [0] (bodyOf Tryd.f14)) (Code.seq (cq [0,1] (bodyOf Tryd.f14)) (Code.seq (cq [0,1,1] (bodyOf Tryd.f14)) (cq [0,1,1,1] (bodyOf Tryd.f14))))) (Ann.seq (aq [0] N7) (Ann.seq (aq [0,1] N7) (Ann.seq (aq [0,1,1] N7) (aq [0,1,1,1] N7)))) ⟨mkE 43 0 [(0,.agg [dL a,.dat (.list (.list (.int .i64))) b]),(1,.dat (.list (.pair (.int .i64) (.pair (.int .i64) (.pair (.int .i64) .unit)))) c)],[]⟩ (N8h a b c) (Sum.elim (fun (t : (List Int) × (List (List Int))) => (Exit.normal,⟨mkE 43 0 [(1,.dat (.list (.pair (.int .i64) (.pair (.int .i64) (.pair (.int .i64) .unit)))) c),(4,.ptr 0 0),(6,.ptr 1 0),(7,dI 0)],[some (.box [.nils,.nils]),some (.box [.slc 2,.slc 3]),some (sI t.1),some (.nest (.int .i64) t.2 0 [])]⟩)) (fun (t : Int × (List Int) × (List (List Int))) => (Exit.ret,⟨mkE 43 0 [(4,.ptr 0 0),(5,dI t.1)],[some (.box [.slc 1,.slc 2]),some (sI t.2.1),some (.nest (.int .i64) t.2.2 0 [])]⟩))) := .of fun K h => by
  simp only [N8h,wpW] at h
  exact .of (by kernel_rfl) h
theorem Nxt (a : List (Int × Int × Int × Unit)) (b : List Int) (c : List (List Int)) : Link N4u LL (cq [0,0,1,1,1,1] (bodyOf Tryd.f14)) (aq [0,0,1,1,1,1] N7) ⟨mkE 43 0 [(1,.dat (.list (.pair (.int .i64) (.pair (.int .i64) (.pair (.int .i64) .unit)))) a),(4,.ptr 0 0),(6,.ptr 1 0),(7,dI 0)],[some (.box [.nils,.nils]),some (.box [.slc 2,.slc 3]),some (sI b),some (.nest (.int .i64) c 0 [])]⟩ (N85) (fun (t : Unit) => (Exit.normal,⟨mkE 43 0 [(1,.dat (.list (.pair (.int .i64) (.pair (.int .i64) (.pair (.int .i64) .unit)))) a),(4,.ptr 0 0),(6,.ptr 1 0),(7,dI 0),(8,dI 0)],[some (.box [.nils,.nils]),some (.box [.slc 2,.slc 3]),some (sI b),some (.nest (.int .i64) c 0 [])]⟩)) := .of fun K h => by
  simp only [N85,wpW] at h
  exact .of (by kernel_rfl) h
theorem Nxn (a : List (Int × Int × Int × Unit)) (b c : Int) (d : List Int) (g : List (List Int)) : Link N4u LL (cq [0,0,1,0,1,1,1,1] (bodyOf Tryd.f14)) (aq [0,0,1,0,1,1,1,1] N7) ⟨mkE 43 0 [(1,.dat (.list (.pair (.int .i64) (.pair (.int .i64) (.pair (.int .i64) .unit)))) a),(4,.ptr 0 0),(6,.ptr 1 0),(7,dI b),(8,dI c)],[some (.box [.nils,.nils]),some (.box [.slc 2,.slc 3]),some (sI d),some (.nest (.int .i64) g 0 [])]⟩ (N3g a b c d g) (Sum.elim (fun (t : Int × Int × (List Int) × (List (List Int))) => (Exit.normal,⟨mkE 43 0 [(1,.dat (.list (.pair (.int .i64) (.pair (.int .i64) (.pair (.int .i64) .unit)))) a),(4,.ptr 0 0),(6,.ptr 1 0),(7,dI t.1),(8,dI t.2.1)],[some (.box [.nils,.nils]),some (.box [.slc 2,.slc 3]),some (sI t.2.2.1),some (.nest (.int .i64) t.2.2.2 0 [])]⟩)) (fun (t : Int × (List Int) × (List (List Int))) => ((Exit.exit 0),⟨mkE 43 0 [(4,.ptr 0 0),(6,.ptr 1 0),(7,dI t.1)],[some (.box [.nils,.nils]),some (.box [.slc 2,.slc 3]),some (sI t.2.1),some (.nest (.int .i64) t.2.2 0 [])]⟩))) := .of fun K h => by
  simp only [N3g,wpW] at h
  exact .of (by kernel_rfl) h
theorem Nsr (a : Int) (b : List Int) (c : List (List Int)) : Link N4u LL (cq [1,1,1,1,1] (bodyOf Tryd.f14)) (aq [1,1,1,1,1] N7) ⟨mkE 43 0 [(4,.ptr 0 0),(6,.ptr 1 0),(7,dI a)],[some (.box [.nils,.nils]),some (.box [.slc 2,.slc 3]),some (sI b),some (.nest (.int .i64) c 0 [])]⟩ (Nbo a b c) (fun (t : Int × (List Int) × (List (List Int))) => (Exit.ret,⟨mkE 43 0 [(4,.ptr 0 0),(5,dI t.1)],[some (.box [.slc 1,.slc 2]),some (sI t.2.1),some (.nest (.int .i64) t.2.2 0 [])]⟩)) := .of fun K h => by
  simp only [Nbo,wpW] at h
  exact .of (by kernel_rfl) h
theorem Nti (b : List Int) (d : List (List Int)) (g : List (Int × Int × Int × Unit)) {r : AV} {H' : Heap} (h : (Ans.mk _ (N2o b d g) (fun (t : Int × (List Int) × (List (List Int))) => (.tup [.agg [.slc 1,.slc 2],dI t.1],[some (.box [.slc 1,.slc 2]),some (sI t.2.1),some (.nest (.int .i64) t.2.2 0 [])])) [] none).run = some (r,H')) : Awp N4u LL (bodyOf Tryd.f14) N7 ⟨mkE 43 0 [(0,.agg [dL b,.dat (.list (.list (.int .i64))) d]),(1,.dat (.list (.pair (.int .i64) (.pair (.int .i64) (.pair (.int .i64) .unit)))) g)],[]⟩ (Ret (tlook tys) Tryd.f14.results.toList r H') :=
  ret_of' (Link.cast (by kernel_rfl) (by kernel_rfl) (link_group (c := (cq [0,1,1,1] (bodyOf Tryd.f14))) (a := (aq [0,1,1,1] N7)) [(cq [0] (bodyOf Tryd.f14)),(cq [0,1] (bodyOf Tryd.f14)),(cq [0,1,1] (bodyOf Tryd.f14))] [(aq [0] N7),(aq [0,1] N7),(aq [0,1,1] N7)] rfl (link_seq2 (Nml b d g) (fun (t : (List Int) × (List (List Int))) => (link_seq (link_seq (Nxt g t.1 t.2) (fun (t23 : Unit) => (link_block (fin2 := (fun (t23 : Int × (List Int) × (List (List Int))) => (Exit.normal,⟨mkE 43 0 [(4,.ptr 0 0),(6,.ptr 1 0),(7,dI t23.1)],[some (.box [.nils,.nils]),some (.box [.slc 2,.slc 3]),some (sI t23.2.1),some (.nest (.int .i64) t23.2.2 0 [])]⟩))) (id := 0) (link_loop (mk := fun (s : Int × Int × (List Int) × (List (List Int))) => ⟨mkE 43 0 [(1,.dat (.list (.pair (.int .i64) (.pair (.int .i64) (.pair (.int .i64) .unit)))) g),(4,.ptr 0 0),(6,.ptr 1 0),(7,dI s.1),(8,dI s.2.1)],[some (.box [.nils,.nils]),some (.box [.slc 2,.slc 3]),some (sI s.2.2.1),some (.nest (.int .i64) s.2.2.2 0 [])]⟩) (fin := (fun (t23 : Int × (List Int) × (List (List Int))) => ((Exit.exit 0),⟨mkE 43 0 [(4,.ptr 0 0),(6,.ptr 1 0),(7,dI t23.1)],[some (.box [.nils,.nils]),some (.box [.slc 2,.slc 3]),some (sI t23.2.1),some (.nest (.int .i64) t23.2.2 0 [])]⟩))) (by
  rintro t23 f K h
  · exact h) (fun s => link_map (Nxn g s.1 s.2.1 s.2.2.1 s.2.2.2) (Sum.elim (fun (t23 : Int × Int × (List Int) × (List (List Int))) => Sum.inl (t23.1,t23.2.1,t23.2.2.1,t23.2.2.2)) (fun (t23 : Int × (List Int) × (List (List Int))) => Sum.inr t23)) (by
  rintro (t23 | t23)
  · kernel_rfl
  · kernel_rfl)) (0,0,t.1,t.2)) (fun (t23 : Int × (List Int) × (List (List Int))) => (t23.1,t23.2.1,t23.2.2)) (by
  rintro t23 K h
  · exact Eq.mp (by kernel_rfl) h)))) (fun (t23 : Int × (List Int) × (List (List Int))) => (Nsr t23.1 t23.2.1 t23.2.2)))) (fun (t : Int × (List Int) × (List (List Int))) => t) (by
  rintro t
  · kernel_rfl) (by
  rintro t f K h
  · exact h)))) (by unfold N2o; kernel_rfl) (by
  intro t
  exact ret_mk [.agg [.slc 1,.slc 2],dI t.1] (by kernel_rfl) (by kernel_rfl) (by kernel_rfl) (by kernel_rfl)) h
def Ndc : Fun := fun avs H =>
  match avs,H with
  | [.agg [.dat (.list (.int .i64)) a,.dat (.list (.list (.int .i64))) b],.dat (.list (.pair (.int .i64) (.pair (.int .i64) (.pair (.int .i64) .unit)))) c],[] => ⟨_,N2o a b c,fun (t : Int × (List Int) × (List (List Int))) => (.tup [.agg [.slc 1,.slc 2],dI t.1],[some (.box [.slc 1,.slc 2]),some (sI t.2.1),some (.nest (.int .i64) t.2.2 0 [])]),[],none⟩
  | _,_ => Ans.no
theorem Nvk : Sound Tryd.prog 14 Ndc := by
  refine fn_sound' (C := N4u) (c := bodyOf Tryd.f14) (cok_of tys_ok (allc Niz (allc Ngi (allc Nqw alln))) (allc Tryd.call21 (allc Tryd.call22 (allc Tryd.call6 alln))) (by kernel_rfl)) Tryd.func14 (by kernel_rfl) LL N7 ?_
  intro avs H r H' h
  unfold Ndc at h
  split at h
  · refine Awp.cast ?_ ?_ ?_ (Nti _ _ _ h) <;> kernel_rfl
  · simp [Ans.no,Ans.run] at h

def Nk : Ann := (.seq (.leaf [1,2,4]) (.seq (.seq (.leaf [1,2,4,19]) (.cond (.seq (.leaf [4,5]) (.leafF [⟨0,4,false,some 0,some (.int .i64)⟩,⟨0,4,true,some 1,some (.int .i64)⟩] [4,5])) (.leaf [1,2,4]))) (.seq (.leaf [1,4,6,7]) (.seq (.seq (.leaf [4,6,7,26,27,28]) (.block (.loop (.seq (.leaf [4,6,7,26,27,28,29]) (.seq (.cond (.leaf [4,6,7,26,27,28]) (.leaf [4,6,7])) (.seq (.block (.seq (.leaf [4,6,7,9,26,27,28]) (.seq (.leaf [4,6,7,10,11,26,27,28]) (.seq (.leaf [4,6,7,10,26,27,28,38]) (.cond (.seq (.leaf [4,6,7,26,27,28]) (.leaf [4,6,7,26,27,28])) (.leaf [4,6,7,26,27,28])))))) (.leaf [4,6,7,26,27,28]))))))) (.seq (.leaf [4,5]) (.leaf [4,5]))))))
noncomputable def N3x : Ctx := ⟨tlook tys,olook [(27,N9j),(29,N4h),(9,Nb1)],ioF,0,false,[]⟩
theorem Nxi (a : List Int) (b : List (List Int)) (c : List (Int × Int × Int × Unit)) : Link N3x LL (Code.seq (cq [0] (bodyOf Tryd.f16)) (Code.seq (cq [0,1] (bodyOf Tryd.f16)) (cq [0,1,1] (bodyOf Tryd.f16)))) (Ann.seq (aq [0] Nk) (Ann.seq (aq [0,1] Nk) (aq [0,1,1] Nk))) ⟨mkE 45 0 [(0,.agg [dL a,.dat (.list (.list (.int .i64))) b]),(1,.dat (.list (.pair (.int .i64) (.pair (.int .i64) (.pair (.int .i64) .unit)))) c)],[]⟩ (N7e a b c) (Sum.elim (fun (t : (List Int) × (List (List Int))) => (Exit.normal,⟨mkE 45 0 [(1,.dat (.list (.pair (.int .i64) (.pair (.int .i64) (.pair (.int .i64) .unit)))) c),(4,.ptr 0 0),(6,.ptr 1 0),(7,dI 0)],[some (.box [.nils,.nils]),some (.box [.slc 2,.slc 3]),some (sI t.1),some (.nest (.int .i64) t.2 0 [])]⟩)) (fun (t : Int × (List Int) × (List (List Int))) => (Exit.ret,⟨mkE 45 0 [(4,.ptr 0 0),(5,dI t.1)],[some (.box [.slc 1,.slc 2]),some (sI t.2.1),some (.nest (.int .i64) t.2.2 0 [])]⟩))) := .of fun K h => by
  simp only [N7e,wpW] at h
  exact .of (by kernel_rfl) h
theorem Nz4 (a : List (Int × Int × Int × Unit)) (b : List Int) (c : List (List Int)) : Link N3x LL (cq [0,0,1,1,1] (bodyOf Tryd.f16)) (aq [0,0,1,1,1] Nk) ⟨mkE 45 0 [(1,.dat (.list (.pair (.int .i64) (.pair (.int .i64) (.pair (.int .i64) .unit)))) a),(4,.ptr 0 0),(6,.ptr 1 0),(7,dI 0)],[some (.box [.nils,.nils]),some (.box [.slc 2,.slc 3]),some (sI b),some (.nest (.int .i64) c 0 [])]⟩ (N62 a) (fun (t : Int) => (Exit.normal,⟨mkE 45 0 [(4,.ptr 0 0),(6,.ptr 1 0),(7,dI 0),(26,.dat (.list (.pair (.int .i64) (.pair (.int .i64) (.pair (.int .i64) .unit)))) a),(27,dI t),(28,dI 0)],[some (.box [.nils,.nils]),some (.box [.slc 2,.slc 3]),some (sI b),some (.nest (.int .i64) c 0 [])]⟩)) := .of fun K h => by
  simp only [N62,wpW] at h
  exact .of (by kernel_rfl) h
theorem Nmk (a : Int) (b : List (Int × Int × Int × Unit)) (c d : Int) (g : List Int) (i : List (List Int)) : Link N3x LL (cq [0,0,1,0,1,1,1] (bodyOf Tryd.f16)) (aq [0,0,1,0,1,1,1] Nk) ⟨mkE 45 0 [(4,.ptr 0 0),(6,.ptr 1 0),(7,dI a),(26,.dat (.list (.pair (.int .i64) (.pair (.int .i64) (.pair (.int .i64) .unit)))) b),(27,dI c),(28,dI d)],[some (.box [.nils,.nils]),some (.box [.slc 2,.slc 3]),some (sI g),some (.nest (.int .i64) i 0 [])]⟩ (N3c a b c d g i) (Sum.elim (fun (t : Int × Int × (List Int) × (List (List Int))) => (Exit.normal,⟨mkE 45 0 [(4,.ptr 0 0),(6,.ptr 1 0),(7,dI t.1),(26,.dat (.list (.pair (.int .i64) (.pair (.int .i64) (.pair (.int .i64) .unit)))) b),(27,dI c),(28,dI t.2.1)],[some (.box [.nils,.nils]),some (.box [.slc 2,.slc 3]),some (sI t.2.2.1),some (.nest (.int .i64) t.2.2.2 0 [])]⟩)) (fun (t : Int × (List Int) × (List (List Int))) => ((Exit.exit 0),⟨mkE 45 0 [(4,.ptr 0 0),(6,.ptr 1 0),(7,dI t.1)],[some (.box [.nils,.nils]),some (.box [.slc 2,.slc 3]),some (sI t.2.1),some (.nest (.int .i64) t.2.2 0 [])]⟩))) := .of fun K h => by
  simp only [N3c,wpW] at h
  exact .of (by kernel_rfl) h
theorem N10l (a : Int) (b : List Int) (c : List (List Int)) : Link N3x LL (cq [1,1,1,1] (bodyOf Tryd.f16)) (aq [1,1,1,1] Nk) ⟨mkE 45 0 [(4,.ptr 0 0),(6,.ptr 1 0),(7,dI a)],[some (.box [.nils,.nils]),some (.box [.slc 2,.slc 3]),some (sI b),some (.nest (.int .i64) c 0 [])]⟩ (N87 a b c) (fun (t : Int × (List Int) × (List (List Int))) => (Exit.ret,⟨mkE 45 0 [(4,.ptr 0 0),(5,dI t.1)],[some (.box [.slc 1,.slc 2]),some (sI t.2.1),some (.nest (.int .i64) t.2.2 0 [])]⟩)) := .of fun K h => by
  simp only [N87,wpW] at h
  exact .of (by kernel_rfl) h
theorem Npk (b : List Int) (d : List (List Int)) (g : List (Int × Int × Int × Unit)) {r : AV} {H' : Heap} (h : (Ans.mk _ (Nv b d g) (fun (t : Int × (List Int) × (List (List Int))) => (.tup [.agg [.slc 1,.slc 2],dI t.1],[some (.box [.slc 1,.slc 2]),some (sI t.2.1),some (.nest (.int .i64) t.2.2 0 [])])) [] none).run = some (r,H')) : Awp N3x LL (bodyOf Tryd.f16) Nk ⟨mkE 45 0 [(0,.agg [dL b,.dat (.list (.list (.int .i64))) d]),(1,.dat (.list (.pair (.int .i64) (.pair (.int .i64) (.pair (.int .i64) .unit)))) g)],[]⟩ (Ret (tlook tys) Tryd.f16.results.toList r H') :=
  ret_of' (Link.cast (by kernel_rfl) (by kernel_rfl) (link_group (c := (cq [0,1,1] (bodyOf Tryd.f16))) (a := (aq [0,1,1] Nk)) [(cq [0] (bodyOf Tryd.f16)),(cq [0,1] (bodyOf Tryd.f16))] [(aq [0] Nk),(aq [0,1] Nk)] rfl (link_seq2 (Nxi b d g) (fun (t : (List Int) × (List (List Int))) => (link_seq (link_seq (Nz4 g t.1 t.2) (fun (t24 : Int) => (link_block (fin2 := (fun (t6 : Int × (List Int) × (List (List Int))) => (Exit.normal,⟨mkE 45 0 [(4,.ptr 0 0),(6,.ptr 1 0),(7,dI t6.1)],[some (.box [.nils,.nils]),some (.box [.slc 2,.slc 3]),some (sI t6.2.1),some (.nest (.int .i64) t6.2.2 0 [])]⟩))) (id := 0) (link_loop (mk := fun (s : Int × Int × (List Int) × (List (List Int))) => ⟨mkE 45 0 [(4,.ptr 0 0),(6,.ptr 1 0),(7,dI s.1),(26,.dat (.list (.pair (.int .i64) (.pair (.int .i64) (.pair (.int .i64) .unit)))) g),(27,dI t24),(28,dI s.2.1)],[some (.box [.nils,.nils]),some (.box [.slc 2,.slc 3]),some (sI s.2.2.1),some (.nest (.int .i64) s.2.2.2 0 [])]⟩) (fin := (fun (t6 : Int × (List Int) × (List (List Int))) => ((Exit.exit 0),⟨mkE 45 0 [(4,.ptr 0 0),(6,.ptr 1 0),(7,dI t6.1)],[some (.box [.nils,.nils]),some (.box [.slc 2,.slc 3]),some (sI t6.2.1),some (.nest (.int .i64) t6.2.2 0 [])]⟩))) (by
  rintro t6 f K h
  · exact h) (fun s => link_map (Nmk s.1 g t24 s.2.1 s.2.2.1 s.2.2.2) (Sum.elim (fun (t6 : Int × Int × (List Int) × (List (List Int))) => Sum.inl (t6.1,t6.2.1,t6.2.2.1,t6.2.2.2)) (fun (t6 : Int × (List Int) × (List (List Int))) => Sum.inr t6)) (by
  rintro (t6 | t6)
  · kernel_rfl
  · kernel_rfl)) (0,0,t.1,t.2)) (fun (t6 : Int × (List Int) × (List (List Int))) => (t6.1,t6.2.1,t6.2.2)) (by
  rintro t6 K h
  · exact Eq.mp (by kernel_rfl) h)))) (fun (t24 : Int × (List Int) × (List (List Int))) => (N10l t24.1 t24.2.1 t24.2.2)))) (fun (t : Int × (List Int) × (List (List Int))) => t) (by
  rintro t
  · kernel_rfl) (by
  rintro t f K h
  · exact h)))) (by unfold Nv; kernel_rfl) (by
  intro t
  exact ret_mk [.agg [.slc 1,.slc 2],dI t.1] (by kernel_rfl) (by kernel_rfl) (by kernel_rfl) (by kernel_rfl)) h
def Nav : Fun := fun avs H =>
  match avs,H with
  | [.agg [.dat (.list (.int .i64)) a,.dat (.list (.list (.int .i64))) b],.dat (.list (.pair (.int .i64) (.pair (.int .i64) (.pair (.int .i64) .unit)))) c],[] => ⟨_,Nv a b c,fun (t : Int × (List Int) × (List (List Int))) => (.tup [.agg [.slc 1,.slc 2],dI t.1],[some (.box [.slc 1,.slc 2]),some (sI t.2.1),some (.nest (.int .i64) t.2.2 0 [])]),[],none⟩
  | _,_ => Ans.no
theorem Nmm : Sound Tryd.prog 16 Nav := by
  refine fn_sound' (C := N3x) (c := bodyOf Tryd.f16) (cok_of tys_ok (allc Ngx (allc N6c (allc Nmq alln))) (allc Tryd.call27 (allc Tryd.call29 (allc Tryd.call9 alln))) (by kernel_rfl)) Tryd.func16 (by kernel_rfl) LL Nk ?_
  intro avs H r H' h
  unfold Nav at h
  split at h
  · refine Awp.cast ?_ ?_ ?_ (Npk _ _ _ h) <;> kernel_rfl
  · simp [Ans.no,Ans.run] at h

def Nay : Ann := (.seq (.leaf [2,3]) (.seq (.seq (.leaf [2,3,9]) (.cond (.seq (.leaf [4]) (.leaf [4])) (.leaf [2,3]))) (.seq (.seq (.leaf [2,3,14]) (.cond (.seq (.leaf [4]) (.leaf [4])) (.leaf [2,3]))) (.seq (.seq (.leaf [19]) (.cond (.seq (.leaf [4]) (.leaf [4])) (.leaf []))) (.seq (.leaf [4]) (.leaf [4]))))))
noncomputable def Ndx : Ctx := ⟨tlook tys,olook [],ioF,0,false,[]⟩
theorem Nzw (a b c d g i : Int) : Link Ndx LL (bodyOf Tryd.f38) Nay ⟨mkE 20 0 [(0,.agg [dI a,dI b,dI c]),(1,.agg [dI d,dI g,dI i])],[]⟩ (N8u a b c d g i) (fun (t : Bool) => (Exit.ret,⟨mkE 20 0 [(4,dB t)],[]⟩)) := .of fun K h => by
  simp only [N8u,wpW] at h
  exact .of (by kernel_rfl) h
theorem Nya (a b c d g i : Int) {r : AV} {H' : Heap} (h : (Ans.mk _ (N5a a b c d g i) (fun (t : Bool) => (dB t,[])) [] none).run = some (r,H')) : Awp Ndx LL (bodyOf Tryd.f38) Nay ⟨mkE 20 0 [(0,.agg [dI a,dI b,dI c]),(1,.agg [dI d,dI g,dI i])],[]⟩ (Ret (tlook tys) Tryd.f38.results.toList r H') :=
  ret_of' (Nzw a b c d g i) (by unfold N5a; kernel_rfl) (by
  intro t
  exact ret_mk [dB t] (by kernel_rfl) (by kernel_rfl) (by kernel_rfl) (by kernel_rfl)) h
def Naf : Fun := fun avs H =>
  match avs,H with
  | [.agg [.dat (.int .i64) a,.dat (.int .i64) b,.dat (.int .i64) c],.agg [.dat (.int .i64) d,.dat (.int .i64) g,.dat (.int .i64) i]],[] => ⟨_,N5a a b c d g i,fun (t : Bool) => (dB t,[]),[],none⟩
  | _,_ => Ans.no
theorem N10b : Sound Tryd.prog 38 Naf := by
  refine fn_sound' (C := Ndx) (c := bodyOf Tryd.f38) (cok_of tys_ok (alln) (alln) (by kernel_rfl)) Tryd.func38 (by kernel_rfl) LL Nay ?_
  intro avs H r H' h
  unfold Naf at h
  split at h
  · refine Awp.cast ?_ ?_ ?_ (Nya _ _ _ _ _ _ h) <;> kernel_rfl
  · simp [Ans.no,Ans.run] at h

def Ny : Ann := (.seq (.leaf [0,1]) (.seq (.seq (.leaf [0,1,10]) (.cond (.seq (.leaf [4]) (.leaf [4])) (.leaf [0,1]))) (.seq (.seq (.leaf [0,1,5]) (.block (.loop (.seq (.seq (.leaf [0,1,5,14]) (.cond (.leaf [0,1,5]) (.leaf []))) (.seq (.block (.seq (.draw [8] [0,1,2,3,4,5,6,7,8,9] [] [0,1,5,26]) (.cond (.seq (.leaf [4]) (.leaf [4])) (.leaf [0,1,5])))) (.leaf [0,1,5])))))) (.seq (.leaf [4]) (.leaf [4])))))
noncomputable def N4s : Ctx := ⟨tlook tys,olook [(38,Naf)],ioF,0,false,[]⟩
theorem Nyw (a b : List (Int × Int × Int × Unit)) : Link N4s LL (Code.seq (cq [0] (bodyOf Tryd.f17)) (cq [0,1] (bodyOf Tryd.f17))) (Ann.seq (aq [0] Ny) (aq [0,1] Ny)) ⟨mkE 27 0 [(0,.dat (.list (.pair (.int .i64) (.pair (.int .i64) (.pair (.int .i64) .unit)))) a),(1,.dat (.list (.pair (.int .i64) (.pair (.int .i64) (.pair (.int .i64) .unit)))) b)],[]⟩ (N68 a b) (Sum.elim (fun (t : Unit) => (Exit.normal,⟨mkE 27 0 [(0,.dat (.list (.pair (.int .i64) (.pair (.int .i64) (.pair (.int .i64) .unit)))) a),(1,.dat (.list (.pair (.int .i64) (.pair (.int .i64) (.pair (.int .i64) .unit)))) b)],[]⟩)) (fun (t : Bool) => (Exit.ret,⟨mkE 27 0 [(4,dB t)],[]⟩))) := .of fun K h => by
  simp only [N68,wpW] at h
  exact .of (by kernel_rfl) h
theorem Nr8 (a b : List (Int × Int × Int × Unit)) : Link N4s LL (cq [0,0,1,1] (bodyOf Tryd.f17)) (aq [0,0,1,1] Ny) ⟨mkE 27 0 [(0,.dat (.list (.pair (.int .i64) (.pair (.int .i64) (.pair (.int .i64) .unit)))) a),(1,.dat (.list (.pair (.int .i64) (.pair (.int .i64) (.pair (.int .i64) .unit)))) b)],[]⟩ (Na5) (fun (t : Unit) => (Exit.normal,⟨mkE 27 0 [(0,.dat (.list (.pair (.int .i64) (.pair (.int .i64) (.pair (.int .i64) .unit)))) a),(1,.dat (.list (.pair (.int .i64) (.pair (.int .i64) (.pair (.int .i64) .unit)))) b),(5,dI 0)],[]⟩)) := .of fun K h => by
  simp only [Na5,wpW] at h
  exact .of (by kernel_rfl) h
theorem Nvv (a b : List (Int × Int × Int × Unit)) (c : Int) : Link N4s LL (cq [0,0,1,0,1,1] (bodyOf Tryd.f17)) (aq [0,0,1,0,1,1] Ny) ⟨mkE 27 0 [(0,.dat (.list (.pair (.int .i64) (.pair (.int .i64) (.pair (.int .i64) .unit)))) a),(1,.dat (.list (.pair (.int .i64) (.pair (.int .i64) (.pair (.int .i64) .unit)))) b),(5,dI c)],[]⟩ (N3t a b c) (Sum.elim (fun (t : Int) => (Exit.normal,⟨mkE 27 0 [(0,.dat (.list (.pair (.int .i64) (.pair (.int .i64) (.pair (.int .i64) .unit)))) a),(1,.dat (.list (.pair (.int .i64) (.pair (.int .i64) (.pair (.int .i64) .unit)))) b),(5,dI t)],[]⟩)) (Sum.elim (fun (t : Bool) => (Exit.ret,⟨mkE 27 0 [(4,dB t)],[]⟩)) (fun (t : Unit) => ((Exit.exit 0),⟨mkE 27 0 [],[]⟩)))) := .of fun K h => by
  simp only [N3t,wpW] at h
  exact .of (by kernel_rfl) h
theorem Nxg : Link N4s LL (cq [1,1,1] (bodyOf Tryd.f17)) (aq [1,1,1] Ny) ⟨mkE 27 0 [],[]⟩ (N8j) (fun (t : Bool) => (Exit.ret,⟨mkE 27 0 [(4,dB t)],[]⟩)) := .of fun K h => by
  simp only [N8j,wpW] at h
  exact .of (by kernel_rfl) h
theorem Nrh (b d : List (Int × Int × Int × Unit)) {r : AV} {H' : Heap} (h : (Ans.mk _ (N2f b d) (fun (t : Bool) => (dB t,[])) [] none).run = some (r,H')) : Awp N4s LL (bodyOf Tryd.f17) Ny ⟨mkE 27 0 [(0,.dat (.list (.pair (.int .i64) (.pair (.int .i64) (.pair (.int .i64) .unit)))) b),(1,.dat (.list (.pair (.int .i64) (.pair (.int .i64) (.pair (.int .i64) .unit)))) d)],[]⟩ (Ret (tlook tys) Tryd.f17.results.toList r H') :=
  ret_of' (Link.cast (by kernel_rfl) (by kernel_rfl) (link_group (c := (cq [0,1] (bodyOf Tryd.f17))) (a := (aq [0,1] Ny)) [(cq [0] (bodyOf Tryd.f17))] [(aq [0] Ny)] rfl (link_seq2 (Nyw b d) (fun (t : Unit) => (link_seq2 (link_seq (Nr8 b d) (fun (t : Unit) => (link_block (fin2 := (Sum.elim (fun (t : Unit) => (Exit.normal,⟨mkE 27 0 [],[]⟩)) (fun (t : Bool) => (Exit.ret,⟨mkE 27 0 [(4,dB t)],[]⟩)))) (id := 0) (link_loop (mk := fun (s : Int) => ⟨mkE 27 0 [(0,.dat (.list (.pair (.int .i64) (.pair (.int .i64) (.pair (.int .i64) .unit)))) b),(1,.dat (.list (.pair (.int .i64) (.pair (.int .i64) (.pair (.int .i64) .unit)))) d),(5,dI s)],[]⟩) (fin := (Sum.elim (fun (t : Bool) => (Exit.ret,⟨mkE 27 0 [(4,dB t)],[]⟩)) (fun (t : Unit) => ((Exit.exit 0),⟨mkE 27 0 [],[]⟩)))) (by
  rintro (t | t) f K h
  · exact h
  · exact h) (fun s => link_map (Nvv b d s) (Sum.elim (fun (t : Int) => Sum.inl t) (Sum.elim (fun (t : Bool) => Sum.inr (Sum.inl t)) (fun (t : Unit) => Sum.inr (Sum.inr t)))) (by
  rintro (t | t | t)
  · kernel_rfl
  · kernel_rfl
  · kernel_rfl)) 0) (Sum.elim (fun (t : Bool) => (Sum.inr t)) (fun (t : Unit) => (Sum.inl ()))) (by
  rintro (t | t) K h
  · exact Eq.mp (by kernel_rfl) h
  · exact Eq.mp (by kernel_rfl) h)))) (fun (t : Unit) => (Nxg)) (fun (t : Bool) => t) (by
  rintro t
  · kernel_rfl) (by
  rintro t f K h
  · exact h))) (fun (t : Bool) => t) (by
  rintro t
  · kernel_rfl) (by
  rintro t f K h
  · exact h)))) (by unfold N2f; kernel_rfl) (by
  intro t
  exact ret_mk [dB t] (by kernel_rfl) (by kernel_rfl) (by kernel_rfl) (by kernel_rfl)) h
def Nc4 : Fun := fun avs H =>
  match avs,H with
  | [.dat (.list (.pair (.int .i64) (.pair (.int .i64) (.pair (.int .i64) .unit)))) a,.dat (.list (.pair (.int .i64) (.pair (.int .i64) (.pair (.int .i64) .unit)))) b],[] => ⟨_,N2f a b,fun (t : Bool) => (dB t,[]),[],none⟩
  | _,_ => Ans.no
theorem Ny2 : Sound Tryd.prog 17 Nc4 := by
  refine fn_sound' (C := N4s) (c := bodyOf Tryd.f17) (cok_of tys_ok (allc N10b alln) (allc Tryd.call38 alln) (by kernel_rfl)) Tryd.func17 (by kernel_rfl) LL Ny ?_
  intro avs H r H' h
  unfold Nc4 at h
  split at h
  · refine Awp.cast ?_ ?_ ?_ (Nrh _ _ h) <;> kernel_rfl
  · simp [Ans.no,Ans.run] at h

def N4 : Ann := (.seq (.leaf [0,1]) (.seq (.seq (.leaf [0,1,5]) (.block (.loop (.seq (.seq (.leaf [0,1,5,9]) (.cond (.leaf [0,1,5]) (.leaf [1]))) (.seq (.block (.seq (.leaf [0,1,5]) (.seq (.leaf [0,1,5]) (.seq (.leaf [0,1,5]) (.seq (.leaf [0,1,5]) (.seq (.leaf [0,1,5]) (.leaf [0,1,5]))))))) (.leaf [0,1,5])))))) (.seq (.leaf [4]) (.leaf [4]))))
noncomputable def Nn : Ctx := ⟨tlook tys,olook [],ioF,1,false,[]⟩
theorem Nuw (a : Int) (b : List (Int × Int × Int × Unit)) : Link Nn LL (cq [0] (bodyOf Tryd.f18)) (aq [0] N4) ⟨mkE 34 0 [(0,.slc 0),(1,dI a)],[some (.seq (.pair (.int .i64) (.pair (.int .i64) (.pair (.int .i64) .unit))) b)]⟩ (N8m) (fun (t : Unit) => (Exit.normal,⟨mkE 34 0 [(0,.slc 0),(1,dI a)],[some (.seq (.pair (.int .i64) (.pair (.int .i64) (.pair (.int .i64) .unit))) b)]⟩)) := .of fun K h => by
  simp only [N8m,wpW] at h
  exact .of (by kernel_rfl) h
theorem Nyt (a : Int) (b : List (Int × Int × Int × Unit)) : Link Nn LL (cq [0,0,1] (bodyOf Tryd.f18)) (aq [0,0,1] N4) ⟨mkE 34 0 [(0,.slc 0),(1,dI a)],[some (.seq (.pair (.int .i64) (.pair (.int .i64) (.pair (.int .i64) .unit))) b)]⟩ (N96) (fun (t : Unit) => (Exit.normal,⟨mkE 34 0 [(0,.slc 0),(1,dI a),(5,dI 0)],[some (.seq (.pair (.int .i64) (.pair (.int .i64) (.pair (.int .i64) .unit))) b)]⟩)) := .of fun K h => by
  simp only [N96,wpW] at h
  exact .of (by kernel_rfl) h
theorem Nkq (a b : Int) (c : List (Int × Int × Int × Unit)) : Link Nn LL (cq [0,0,0,1,0,1] (bodyOf Tryd.f18)) (aq [0,0,0,1,0,1] N4) ⟨mkE 34 0 [(0,.slc 0),(1,dI a),(5,dI b)],[some (.seq (.pair (.int .i64) (.pair (.int .i64) (.pair (.int .i64) .unit))) c)]⟩ (N5g a b c) (Sum.elim (fun (t : Unit) => (Exit.normal,⟨mkE 34 0 [(0,.slc 0),(1,dI a),(5,dI b)],[some (.seq (.pair (.int .i64) (.pair (.int .i64) (.pair (.int .i64) .unit))) c)]⟩)) (fun (t : Int × (List (Int × Int × Int × Unit))) => ((Exit.exit 0),⟨mkE 34 0 [(1,dI t.1)],[some (.seq (.pair (.int .i64) (.pair (.int .i64) (.pair (.int .i64) .unit))) t.2)]⟩))) := .of fun K h => by
  simp only [N5g,wpW] at h
  exact .of (by kernel_rfl) h
theorem Nn3 (a b : Int) (c : List (Int × Int × Int × Unit)) : Link Nn LL (Code.seq (cq [0,0,0,1,0,0,1,0,1] (bodyOf Tryd.f18)) (Code.seq (cq [0,1,0,0,1,0,0,1,0,1] (bodyOf Tryd.f18)) (Code.seq (cq [0,1,1,0,0,1,0,0,1,0,1] (bodyOf Tryd.f18)) (cq [0,1,1,1,0,0,1,0,0,1,0,1] (bodyOf Tryd.f18))))) (Ann.seq (aq [0,0,0,1,0,0,1,0,1] N4) (Ann.seq (aq [0,1,0,0,1,0,0,1,0,1] N4) (Ann.seq (aq [0,1,1,0,0,1,0,0,1,0,1] N4) (aq [0,1,1,1,0,0,1,0,0,1,0,1] N4)))) ⟨mkE 34 0 [(0,.slc 0),(1,dI a),(5,dI b)],[some (.seq (.pair (.int .i64) (.pair (.int .i64) (.pair (.int .i64) .unit))) c)]⟩ (N69 a b c) (fun (t : Int × (List (Int × Int × Int × Unit))) => (Exit.normal,⟨mkE 34 0 [(0,.slc 0),(1,dI t.1),(5,dI b)],[some (.seq (.pair (.int .i64) (.pair (.int .i64) (.pair (.int .i64) .unit))) t.2)]⟩)) := .of fun K h => by
  simp only [N69,wpW] at h
  exact .of (by kernel_rfl) h
theorem Nuu (a b : Int) (c : List (Int × Int × Int × Unit)) : Link Nn LL (cq [0,1,1,1,1,0,0,1,0,0,1,0,1] (bodyOf Tryd.f18)) (aq [0,1,1,1,1,0,0,1,0,0,1,0,1] N4) ⟨mkE 34 0 [(0,.slc 0),(1,dI a),(5,dI b)],[some (.seq (.pair (.int .i64) (.pair (.int .i64) (.pair (.int .i64) .unit))) c)]⟩ (N94 a b c) (fun (t : (List (Int × Int × Int × Unit))) => (Exit.normal,⟨mkE 34 0 [(0,.slc 0),(1,dI a),(5,dI b)],[some (.seq (.pair (.int .i64) (.pair (.int .i64) (.pair (.int .i64) .unit))) t)]⟩)) := .of fun K h => by
  simp only [N94,wpW] at h
  exact .of (by kernel_rfl) h
theorem Nws (a b : Int) (c : List (Int × Int × Int × Unit)) : Link Nn LL (cq [1,1,1,1,1,0,0,1,0,0,1,0,1] (bodyOf Tryd.f18)) (aq [1,1,1,1,1,0,0,1,0,0,1,0,1] N4) ⟨mkE 34 0 [(0,.slc 0),(1,dI a),(5,dI b)],[some (.seq (.pair (.int .i64) (.pair (.int .i64) (.pair (.int .i64) .unit))) c)]⟩ (N9l a) (fun (t : Int) => (Exit.normal,⟨mkE 34 0 [(0,.slc 0),(1,dI t),(5,dI b)],[some (.seq (.pair (.int .i64) (.pair (.int .i64) (.pair (.int .i64) .unit))) c)]⟩)) := .of fun K h => by
  simp only [N9l,wpW] at h
  exact .of (by kernel_rfl) h
theorem N108 (a b : Int) (c : List (Int × Int × Int × Unit)) : Link Nn LL (cq [1,1,0,0,1,0,1] (bodyOf Tryd.f18)) (aq [1,1,0,0,1,0,1] N4) ⟨mkE 34 0 [(0,.slc 0),(1,dI a),(5,dI b)],[some (.seq (.pair (.int .i64) (.pair (.int .i64) (.pair (.int .i64) .unit))) c)]⟩ (N90 b) (fun (t : Int) => (Exit.normal,⟨mkE 34 0 [(0,.slc 0),(1,dI a),(5,dI t)],[some (.seq (.pair (.int .i64) (.pair (.int .i64) (.pair (.int .i64) .unit))) c)]⟩)) := .of fun K h => by
  simp only [N90,wpW] at h
  exact .of (by kernel_rfl) h
theorem Nql (a : Int) (b : List (Int × Int × Int × Unit)) : Link Nn LL (cq [1,1] (bodyOf Tryd.f18)) (aq [1,1] N4) ⟨mkE 34 0 [(1,dI a)],[some (.seq (.pair (.int .i64) (.pair (.int .i64) (.pair (.int .i64) .unit))) b)]⟩ (N9k a b) (fun (t : Int × (List (Int × Int × Int × Unit))) => (Exit.ret,⟨mkE 34 0 [(4,dI t.1)],[some (.seq (.pair (.int .i64) (.pair (.int .i64) (.pair (.int .i64) .unit))) t.2)]⟩)) := .of fun K h => by
  simp only [N9k,wpW] at h
  exact .of (by kernel_rfl) h
theorem Nt6 (b : Int) (d : List (Int × Int × Int × Unit)) {r : AV} {H' : Heap} (h : (Ans.mk _ (N2l b d) (fun (t : Int × (List (Int × Int × Int × Unit))) => (dI t.1,[some (.seq (.pair (.int .i64) (.pair (.int .i64) (.pair (.int .i64) .unit))) t.2)])) [] none).run = some (r,H')) : Awp Nn LL (bodyOf Tryd.f18) N4 ⟨mkE 34 0 [(0,.slc 0),(1,dI b)],[some (.seq (.pair (.int .i64) (.pair (.int .i64) (.pair (.int .i64) .unit))) d)]⟩ (Ret (tlook tys) Tryd.f18.results.toList r H') :=
  ret_of' (Link.cast (by kernel_rfl) (by kernel_rfl) (link_seq (Nuw b d) (fun (t : Unit) => (link_seq (link_seq (Nyt b d) (fun (t : Unit) => (link_block (fin2 := (fun (t : Int × (List (Int × Int × Int × Unit))) => (Exit.normal,⟨mkE 34 0 [(1,dI t.1)],[some (.seq (.pair (.int .i64) (.pair (.int .i64) (.pair (.int .i64) .unit))) t.2)]⟩))) (id := 0) (link_loop (mk := fun (s : Int × Int × (List (Int × Int × Int × Unit))) => ⟨mkE 34 0 [(0,.slc 0),(1,dI s.1),(5,dI s.2.1)],[some (.seq (.pair (.int .i64) (.pair (.int .i64) (.pair (.int .i64) .unit))) s.2.2)]⟩) (fin := (fun (t : Int × (List (Int × Int × Int × Unit))) => ((Exit.exit 0),⟨mkE 34 0 [(1,dI t.1)],[some (.seq (.pair (.int .i64) (.pair (.int .i64) (.pair (.int .i64) .unit))) t.2)]⟩))) (by
  rintro t f K h
  · exact h) (fun s => link_map (link_seq2 (Nkq s.1 s.2.1 s.2.2) (fun (t : Unit) => (link_map (fin2 := (Sum.elim (fun (t : Int × Int × (List (Int × Int × Int × Unit))) => (Exit.normal,⟨mkE 34 0 [(0,.slc 0),(1,dI t.1),(5,dI t.2.1)],[some (.seq (.pair (.int .i64) (.pair (.int .i64) (.pair (.int .i64) .unit))) t.2.2)]⟩)) (fun (t : Int × (List (Int × Int × Int × Unit))) => ((Exit.exit 0),⟨mkE 34 0 [(1,dI t.1)],[some (.seq (.pair (.int .i64) (.pair (.int .i64) (.pair (.int .i64) .unit))) t.2)]⟩)))) (link_seq (link_block (fin2 := (fun (t : Int × (List (Int × Int × Int × Unit))) => (Exit.normal,⟨mkE 34 0 [(0,.slc 0),(1,dI t.1),(5,dI s.2.1)],[some (.seq (.pair (.int .i64) (.pair (.int .i64) (.pair (.int .i64) .unit))) t.2)]⟩))) (id := 1) (link_group (c := (cq [0,1,1,1,0,0,1,0,0,1,0,1] (bodyOf Tryd.f18))) (a := (aq [0,1,1,1,0,0,1,0,0,1,0,1] N4)) [(cq [0,0,0,1,0,0,1,0,1] (bodyOf Tryd.f18)),(cq [0,1,0,0,1,0,0,1,0,1] (bodyOf Tryd.f18)),(cq [0,1,1,0,0,1,0,0,1,0,1] (bodyOf Tryd.f18))] [(aq [0,0,0,1,0,0,1,0,1] N4),(aq [0,1,0,0,1,0,0,1,0,1] N4),(aq [0,1,1,0,0,1,0,0,1,0,1] N4)] rfl (link_seq (Nn3 s.1 s.2.1 s.2.2) (fun (t : Int × (List (Int × Int × Int × Unit))) => (link_seq (Nuu t.1 s.2.1 t.2) (fun (t1 : (List (Int × Int × Int × Unit))) => (link_map (fin2 := (fun (t1 : Int × (List (Int × Int × Int × Unit))) => (Exit.normal,⟨mkE 34 0 [(0,.slc 0),(1,dI t1.1),(5,dI s.2.1)],[some (.seq (.pair (.int .i64) (.pair (.int .i64) (.pair (.int .i64) .unit))) t1.2)]⟩))) (Nws t.1 s.2.1 t1) (fun (u : Int) => (u,t1)) (by
  rintro t1
  · kernel_rfl))))))) (fun (t : Int × (List (Int × Int × Int × Unit))) => (t.1,t.2)) (by
  rintro t K h
  · exact Eq.mp (by kernel_rfl) h)) (fun (t : Int × (List (Int × Int × Int × Unit))) => (link_map (fin2 := (fun (t : Int × Int × (List (Int × Int × Int × Unit))) => (Exit.normal,⟨mkE 34 0 [(0,.slc 0),(1,dI t.1),(5,dI t.2.1)],[some (.seq (.pair (.int .i64) (.pair (.int .i64) (.pair (.int .i64) .unit))) t.2.2)]⟩))) (N108 t.1 s.2.1 t.2) (fun (u : Int) => (t.1,u,t.2)) (by
  rintro t
  · kernel_rfl)))) (fun (t : Int × Int × (List (Int × Int × Int × Unit))) => (Sum.inl (t.1,t.2.1,t.2.2))) (by
  rintro t
  · kernel_rfl))) (fun (t : Int × (List (Int × Int × Int × Unit))) => (Sum.inr t)) (by
  rintro t
  · kernel_rfl) (by
  rintro t f K h
  · exact h)) (Sum.elim (fun (t : Int × Int × (List (Int × Int × Int × Unit))) => Sum.inl (t.1,t.2.1,t.2.2)) (fun (t : Int × (List (Int × Int × Int × Unit))) => Sum.inr t)) (by
  rintro (t | t)
  · kernel_rfl
  · kernel_rfl)) (b,0,d)) (fun (t : Int × (List (Int × Int × Int × Unit))) => (t.1,t.2)) (by
  rintro t K h
  · exact Eq.mp (by kernel_rfl) h)))) (fun (t : Int × (List (Int × Int × Int × Unit))) => (Nql t.1 t.2)))))) (by unfold N2l; kernel_rfl) (by
  intro t
  exact ret_mk [dI t.1] (by kernel_rfl) (by kernel_rfl) (by kernel_rfl) (by kernel_rfl)) h
def Ndn : Fun := fun avs H =>
  match avs,H with
  | [.slc 0,.dat (.int .i64) a],[some (.seq (.pair (.int .i64) (.pair (.int .i64) (.pair (.int .i64) .unit))) b)] => ⟨_,N2l a b,fun (t : Int × (List (Int × Int × Int × Unit))) => (dI t.1,[some (.seq (.pair (.int .i64) (.pair (.int .i64) (.pair (.int .i64) .unit))) t.2)]),[],none⟩
  | _,_ => Ans.no
theorem Nkz : Sound Tryd.prog 18 Ndn := by
  refine fn_sound' (C := Nn) (c := bodyOf Tryd.f18) (cok_of tys_ok (alln) (alln) (by kernel_rfl)) Tryd.func18 (by kernel_rfl) LL N4 ?_
  intro avs H r H' h
  unfold Ndn at h
  split at h
  · refine Awp.cast ?_ ?_ ?_ (Nt6 _ _ h) <;> kernel_rfl
  · simp [Ans.no,Ans.run] at h

def N0 : Ann := (.seq (.leaf [1,2]) (.seq (.leaf [1,2,5]) (.seq (.leaf [1,2,5]) (.seq (.seq (.leaf [1,2,5,21]) (.cond (.seq (.leaf [4]) (.leaf [4])) (.leaf [1,2,5]))) (.seq (.leaf [1,2,5]) (.seq (.seq (.leaf [1,2,26]) (.cond (.seq (.leaf [4]) (.leaf [4])) (.leaf [1,2]))) (.seq (.leaf [1,2,6,7]) (.seq (.leaf [1,2,6,7,8]) (.seq (.leaf [1,2,6,7,8,9]) (.seq (.leaf [1,2,6,7,8,9,10,11]) (.seq (.seq (.leaf [1,2,6,7,8,9,10,11,53]) (.cond (.seq (.leaf [4]) (.leaf [4])) (.leaf [1,2,6,7,8,9,10,11]))) (.seq (.seq (.draw [2,3] [0,1,2,3,4] [] [1,2,6,7,8,9,10,11,58]) (.cond (.seq (.leaf [4]) (.leaf [4])) (.leaf [1,2,6,7,8,9,10,11]))) (.seq (.seq (.leaf [1,2,6,7,8,9,10,11,63]) (.cond (.seq (.leaf [4]) (.leaf [4])) (.leaf [1,2,6,7,8,9,10,11]))) (.seq (.leaf [1,2,6,7,8,9,10,11,12]) (.seq (.leaf [1,2,6,7,9,10,11,12]) (.seq (.leaf [1,2,6,7,10,11,12]) (.seq (.seq (.leaf [1,2,6,7,10,82]) (.cond (.seq (.leaf [4]) (.leaf [4])) (.leaf [1,2,6,7,10]))) (.seq (.leaf [1,2,6,7,10,13]) (.seq (.leaf [1,2,6,7,10,13]) (.seq (.leaf [1,2,6,7,10,13,14]) (.seq (.leaf [1,2,6,7,10,13,14]) (.seq (.seq (.leaf [1,2,6,7,10,13,14,90]) (.cond (.seq (.leaf [4]) (.leaf [4])) (.leaf [1,2,6,7,10,13,14]))) (.seq (.seq (.leaf [1,2,6,7,10,13,93]) (.cond (.seq (.leaf [4]) (.leaf [4])) (.leaf [1,2,6,7,10,13]))) (.seq (.leaf [6,7,10,13,15,16]) (.seq (.seq (.leaf [10,13,110]) (.cond (.seq (.leaf [4]) (.leaf [4])) (.leaf [10,13]))) (.seq (.leaf [10,13,14]) (.seq (.leaf [13,14]) (.seq (.seq (.leaf [13,14,115]) (.cond (.seq (.leaf [4]) (.leaf [4])) (.leaf [13,14]))) (.seq (.seq (.leaf [118]) (.cond (.seq (.leaf [4]) (.leaf [4])) (.leaf []))) (.seq (.leaf [4]) (.leaf [4])))))))))))))))))))))))))))))))
noncomputable def N95 : Ctx := ⟨tlook tys,olook [(5,Nbn),(13,Neq),(7,Nam),(15,Nco),(14,Ndc),(16,Nav),(10,Nct),(17,Nc4),(11,Naq),(18,Ndn),(12,Nch)],ioF,0,false,[]⟩
theorem Nxm (a : List Int) (b : List (List Int)) (c : List (Int × Int × Int × Unit)) : Link N95 LL (Code.seq (cq [0] (bodyOf Tryd.f4)) (Code.seq (cq [0,1] (bodyOf Tryd.f4)) (Code.seq (cq [0,1,1] (bodyOf Tryd.f4)) (Code.seq (cq [0,1,1,1] (bodyOf Tryd.f4)) (Code.seq (cq [0,1,1,1,1] (bodyOf Tryd.f4)) (Code.seq (cq [0,1,1,1,1,1] (bodyOf Tryd.f4)) (Code.seq (cq [0,1,1,1,1,1,1] (bodyOf Tryd.f4)) (Code.seq (cq [0,1,1,1,1,1,1,1] (bodyOf Tryd.f4)) (Code.seq (cq [0,1,1,1,1,1,1,1,1] (bodyOf Tryd.f4)) (Code.seq (cq [0,1,1,1,1,1,1,1,1,1] (bodyOf Tryd.f4)) (Code.seq (cq [0,1,1,1,1,1,1,1,1,1,1] (bodyOf Tryd.f4)) (Code.seq (cq [0,1,1,1,1,1,1,1,1,1,1,1] (bodyOf Tryd.f4)) (Code.seq (cq [0,1,1,1,1,1,1,1,1,1,1,1,1] (bodyOf Tryd.f4)) (Code.seq (cq [0,1,1,1,1,1,1,1,1,1,1,1,1,1] (bodyOf Tryd.f4)) (Code.seq (cq [0,1,1,1,1,1,1,1,1,1,1,1,1,1,1] (bodyOf Tryd.f4)) (Code.seq (cq [0,1,1,1,1,1,1,1,1,1,1,1,1,1,1,1] (bodyOf Tryd.f4)) (Code.seq (cq [0,1,1,1,1,1,1,1,1,1,1,1,1,1,1,1,1] (bodyOf Tryd.f4)) (Code.seq (cq [0,1,1,1,1,1,1,1,1,1,1,1,1,1,1,1,1,1] (bodyOf Tryd.f4)) (Code.seq (cq [0,1,1,1,1,1,1,1,1,1,1,1,1,1,1,1,1,1,1] (bodyOf Tryd.f4)) (Code.seq (cq [0,1,1,1,1,1,1,1,1,1,1,1,1,1,1,1,1,1,1,1] (bodyOf Tryd.f4)) (Code.seq (cq [0,1,1,1,1,1,1,1,1,1,1,1,1,1,1,1,1,1,1,1,1] (bodyOf Tryd.f4)) (Code.seq (cq [0,1,1,1,1,1,1,1,1,1,1,1,1,1,1,1,1,1,1,1,1,1] (bodyOf Tryd.f4)) (Code.seq (cq [0,1,1,1,1,1,1,1,1,1,1,1,1,1,1,1,1,1,1,1,1,1,1] (bodyOf Tryd.f4)) (Code.seq (cq [0,1,1,1,1,1,1,1,1,1,1,1,1,1,1,1,1,1,1,1,1,1,1,1] (bodyOf Tryd.f4)) (Code.seq (cq [0,1,1,1,1,1,1,1,1,1,1,1,1,1,1,1,1,1,1,1,1,1,1,1,1] (bodyOf Tryd.f4)) (Code.seq (cq [0,1,1,1,1,1,1,1,1,1,1,1,1,1,1,1,1,1,1,1,1,1,1,1,1,1] (bodyOf Tryd.f4)) (cq [0,1,1,1,1,1,1,1,1,1,1,1,1,1,1,1,1,1,1,1,1,1,1,1,1,1,1] (bodyOf Tryd.f4)))))))))))))))))))))))))))) (Ann.seq (aq [0] N0) (Ann.seq (aq [0,1] N0) (Ann.seq (aq [0,1,1] N0) (Ann.seq (aq [0,1,1,1] N0) (Ann.seq (aq [0,1,1,1,1] N0) (Ann.seq (aq [0,1,1,1,1,1] N0) (Ann.seq (aq [0,1,1,1,1,1,1] N0) (Ann.seq (aq [0,1,1,1,1,1,1,1] N0) (Ann.seq (aq [0,1,1,1,1,1,1,1,1] N0) (Ann.seq (aq [0,1,1,1,1,1,1,1,1,1] N0) (Ann.seq (aq [0,1,1,1,1,1,1,1,1,1,1] N0) (Ann.seq (aq [0,1,1,1,1,1,1,1,1,1,1,1] N0) (Ann.seq (aq [0,1,1,1,1,1,1,1,1,1,1,1,1] N0) (Ann.seq (aq [0,1,1,1,1,1,1,1,1,1,1,1,1,1] N0) (Ann.seq (aq [0,1,1,1,1,1,1,1,1,1,1,1,1,1,1] N0) (Ann.seq (aq [0,1,1,1,1,1,1,1,1,1,1,1,1,1,1,1] N0) (Ann.seq (aq [0,1,1,1,1,1,1,1,1,1,1,1,1,1,1,1,1] N0) (Ann.seq (aq [0,1,1,1,1,1,1,1,1,1,1,1,1,1,1,1,1,1] N0) (Ann.seq (aq [0,1,1,1,1,1,1,1,1,1,1,1,1,1,1,1,1,1,1] N0) (Ann.seq (aq [0,1,1,1,1,1,1,1,1,1,1,1,1,1,1,1,1,1,1,1] N0) (Ann.seq (aq [0,1,1,1,1,1,1,1,1,1,1,1,1,1,1,1,1,1,1,1,1] N0) (Ann.seq (aq [0,1,1,1,1,1,1,1,1,1,1,1,1,1,1,1,1,1,1,1,1,1] N0) (Ann.seq (aq [0,1,1,1,1,1,1,1,1,1,1,1,1,1,1,1,1,1,1,1,1,1,1] N0) (Ann.seq (aq [0,1,1,1,1,1,1,1,1,1,1,1,1,1,1,1,1,1,1,1,1,1,1,1] N0) (Ann.seq (aq [0,1,1,1,1,1,1,1,1,1,1,1,1,1,1,1,1,1,1,1,1,1,1,1,1] N0) (Ann.seq (aq [0,1,1,1,1,1,1,1,1,1,1,1,1,1,1,1,1,1,1,1,1,1,1,1,1,1] N0) (aq [0,1,1,1,1,1,1,1,1,1,1,1,1,1,1,1,1,1,1,1,1,1,1,1,1,1,1] N0))))))))))))))))))))))))))) ⟨mkE 119 0 [(0,.agg [dL a,.dat (.list (.list (.int .i64))) b]),(1,.dat (.list (.pair (.int .i64) (.pair (.int .i64) (.pair (.int .i64) .unit)))) c)],[]⟩ (N8a a b c) (Sum.elim (fun (t : Int × Int) => (Exit.normal,⟨mkE 119 0 [(13,dI t.1),(14,dI t.2)],[]⟩)) (fun (t : Bool) => (Exit.ret,⟨mkE 119 0 [(4,dB t)],[]⟩))) := .of fun K h => by
  simp only [N8a,wpW] at h
  exact .of (by kernel_rfl) h
theorem Nnc (a b : Int) : Link N95 LL (cq [1,1,1,1,1,1,1,1,1,1,1,1,1,1,1,1,1,1,1,1,1,1,1,1,1,1,1] (bodyOf Tryd.f4)) (aq [1,1,1,1,1,1,1,1,1,1,1,1,1,1,1,1,1,1,1,1,1,1,1,1,1,1,1] N0) ⟨mkE 119 0 [(13,dI a),(14,dI b)],[]⟩ (N7y a b) (fun (t : Bool) => (Exit.ret,⟨mkE 119 0 [(4,dB t)],[]⟩)) := .of fun K h => by
  simp only [N7y,wpW] at h
  exact .of (by kernel_rfl) h
theorem Nlo (b : List Int) (d : List (List Int)) (g : List (Int × Int × Int × Unit)) {r : AV} {H' : Heap} (h : (Ans.mk _ (N1z b d g) (fun (t : Bool) => (dB t,[])) [] none).run = some (r,H')) : Awp N95 LL (bodyOf Tryd.f4) N0 ⟨mkE 119 0 [(0,.agg [dL b,.dat (.list (.list (.int .i64))) d]),(1,.dat (.list (.pair (.int .i64) (.pair (.int .i64) (.pair (.int .i64) .unit)))) g)],[]⟩ (Ret (tlook tys) Tryd.f4.results.toList r H') :=
  ret_of' (Link.cast (by kernel_rfl) (by kernel_rfl) (link_group (c := (cq [0,1,1,1,1,1,1,1,1,1,1,1,1,1,1,1,1,1,1,1,1,1,1,1,1,1,1] (bodyOf Tryd.f4))) (a := (aq [0,1,1,1,1,1,1,1,1,1,1,1,1,1,1,1,1,1,1,1,1,1,1,1,1,1,1] N0)) [(cq [0] (bodyOf Tryd.f4)),(cq [0,1] (bodyOf Tryd.f4)),(cq [0,1,1] (bodyOf Tryd.f4)),(cq [0,1,1,1] (bodyOf Tryd.f4)),(cq [0,1,1,1,1] (bodyOf Tryd.f4)),(cq [0,1,1,1,1,1] (bodyOf Tryd.f4)),(cq [0,1,1,1,1,1,1] (bodyOf Tryd.f4)),(cq [0,1,1,1,1,1,1,1] (bodyOf Tryd.f4)),(cq [0,1,1,1,1,1,1,1,1] (bodyOf Tryd.f4)),(cq [0,1,1,1,1,1,1,1,1,1] (bodyOf Tryd.f4)),(cq [0,1,1,1,1,1,1,1,1,1,1] (bodyOf Tryd.f4)),(cq [0,1,1,1,1,1,1,1,1,1,1,1] (bodyOf Tryd.f4)),(cq [0,1,1,1,1,1,1,1,1,1,1,1,1] (bodyOf Tryd.f4)),(cq [0,1,1,1,1,1,1,1,1,1,1,1,1,1] (bodyOf Tryd.f4)),(cq [0,1,1,1,1,1,1,1,1,1,1,1,1,1,1] (bodyOf Tryd.f4)),(cq [0,1,1,1,1,1,1,1,1,1,1,1,1,1,1,1] (bodyOf Tryd.f4)),(cq [0,1,1,1,1,1,1,1,1,1,1,1,1,1,1,1,1] (bodyOf Tryd.f4)),(cq [0,1,1,1,1,1,1,1,1,1,1,1,1,1,1,1,1,1] (bodyOf Tryd.f4)),(cq [0,1,1,1,1,1,1,1,1,1,1,1,1,1,1,1,1,1,1] (bodyOf Tryd.f4)),(cq [0,1,1,1,1,1,1,1,1,1,1,1,1,1,1,1,1,1,1,1] (bodyOf Tryd.f4)),(cq [0,1,1,1,1,1,1,1,1,1,1,1,1,1,1,1,1,1,1,1,1] (bodyOf Tryd.f4)),(cq [0,1,1,1,1,1,1,1,1,1,1,1,1,1,1,1,1,1,1,1,1,1] (bodyOf Tryd.f4)),(cq [0,1,1,1,1,1,1,1,1,1,1,1,1,1,1,1,1,1,1,1,1,1,1] (bodyOf Tryd.f4)),(cq [0,1,1,1,1,1,1,1,1,1,1,1,1,1,1,1,1,1,1,1,1,1,1,1] (bodyOf Tryd.f4)),(cq [0,1,1,1,1,1,1,1,1,1,1,1,1,1,1,1,1,1,1,1,1,1,1,1,1] (bodyOf Tryd.f4)),(cq [0,1,1,1,1,1,1,1,1,1,1,1,1,1,1,1,1,1,1,1,1,1,1,1,1,1] (bodyOf Tryd.f4))] [(aq [0] N0),(aq [0,1] N0),(aq [0,1,1] N0),(aq [0,1,1,1] N0),(aq [0,1,1,1,1] N0),(aq [0,1,1,1,1,1] N0),(aq [0,1,1,1,1,1,1] N0),(aq [0,1,1,1,1,1,1,1] N0),(aq [0,1,1,1,1,1,1,1,1] N0),(aq [0,1,1,1,1,1,1,1,1,1] N0),(aq [0,1,1,1,1,1,1,1,1,1,1] N0),(aq [0,1,1,1,1,1,1,1,1,1,1,1] N0),(aq [0,1,1,1,1,1,1,1,1,1,1,1,1] N0),(aq [0,1,1,1,1,1,1,1,1,1,1,1,1,1] N0),(aq [0,1,1,1,1,1,1,1,1,1,1,1,1,1,1] N0),(aq [0,1,1,1,1,1,1,1,1,1,1,1,1,1,1,1] N0),(aq [0,1,1,1,1,1,1,1,1,1,1,1,1,1,1,1,1] N0),(aq [0,1,1,1,1,1,1,1,1,1,1,1,1,1,1,1,1,1] N0),(aq [0,1,1,1,1,1,1,1,1,1,1,1,1,1,1,1,1,1,1] N0),(aq [0,1,1,1,1,1,1,1,1,1,1,1,1,1,1,1,1,1,1,1] N0),(aq [0,1,1,1,1,1,1,1,1,1,1,1,1,1,1,1,1,1,1,1,1] N0),(aq [0,1,1,1,1,1,1,1,1,1,1,1,1,1,1,1,1,1,1,1,1,1] N0),(aq [0,1,1,1,1,1,1,1,1,1,1,1,1,1,1,1,1,1,1,1,1,1,1] N0),(aq [0,1,1,1,1,1,1,1,1,1,1,1,1,1,1,1,1,1,1,1,1,1,1,1] N0),(aq [0,1,1,1,1,1,1,1,1,1,1,1,1,1,1,1,1,1,1,1,1,1,1,1,1] N0),(aq [0,1,1,1,1,1,1,1,1,1,1,1,1,1,1,1,1,1,1,1,1,1,1,1,1,1] N0)] rfl (link_seq2 (Nxm b d g) (fun (t : Int × Int) => (Nnc t.1 t.2)) (fun (t : Bool) => t) (by
  rintro t
  · kernel_rfl) (by
  rintro t f K h
  · exact h)))) (by unfold N1z; kernel_rfl) (by
  intro t
  exact ret_mk [dB t] (by kernel_rfl) (by kernel_rfl) (by kernel_rfl) (by kernel_rfl)) h
def Ngd : Fun := fun avs H =>
  match avs,H with
  | [.agg [.dat (.list (.int .i64)) a,.dat (.list (.list (.int .i64))) b],.dat (.list (.pair (.int .i64) (.pair (.int .i64) (.pair (.int .i64) .unit)))) c],[] => ⟨_,N1z a b c,fun (t : Bool) => (dB t,[]),[],none⟩
  | _,_ => Ans.no
theorem Nmo : Sound Tryd.prog 4 Ngd := by
  refine fn_sound' (C := N95) (c := bodyOf Tryd.f4) (cok_of tys_ok (allc Nq8 (allc Nqq (allc Nvf (allc Nqf (allc Nvk (allc Nmm (allc Nnr (allc Ny2 (allc Npw (allc Nkz (allc Npx alln))))))))))) (allc Tryd.call5 (allc Tryd.call13 (allc Tryd.call7 (allc Tryd.call15 (allc Tryd.call14 (allc Tryd.call16 (allc Tryd.call10 (allc Tryd.call17 (allc Tryd.call11 (allc Tryd.call18 (allc Tryd.call12 alln))))))))))) (by kernel_rfl)) Tryd.func4 (by kernel_rfl) LL N0 ?_
  intro avs H r H' h
  unfold Ngd at h
  split at h
  · refine Awp.cast ?_ ?_ ?_ (Nlo _ _ _ h) <;> kernel_rfl
  · simp [Ans.no,Ans.run] at h
end Go.Rv
