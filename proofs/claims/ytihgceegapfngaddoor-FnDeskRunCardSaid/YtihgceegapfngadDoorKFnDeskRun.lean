/-
  The checked code answers as the plain functions do; written by program. Conditions: none.
-/
import Derived.Test.YtihgceegapfngadDoorKFnDeskRuna
import Derived.Test.YtihgceegapfngadDoorProg
set_option linter.unusedVariables false
set_option linter.unusedSimpArgs false
set_option linter.defProp false
set_option maxRecDepth 100000
namespace Go.Rv
open Go.Proofs
def Nag : Ann := (.seq (.leaf [0,1,2]) (.seq (.leaf [0,1,2,7,8]) (.seq (.leaf [0,1,8]) (.seq (.leaf [6]) (.leaf [6])))))
def N38 : Ann := (.seq (.leaf [0,1,2]) (.seq (.seq (.leaf [0,1,10,11,12]) (.block (.loop (.seq (.leaf [0,1,10,11,12,13]) (.seq (.cond (.leaf [0,1,10,11,12]) (.leaf [0])) (.seq (.block (.seq (.leaf [0,1,8,10,11,12]) (.leaf [0,1,10,11,12]))) (.leaf [0,1,10,11,12]))))))) (.seq (.leaf [6]) (.leaf [6]))))
def Nu (n : Nat) : Fun := fun avs H =>
  match avs,H with
  | [.slc 0,.dat (.list (.int .i64)) a,.dat (.int .i64) b],[some (.seq (.int .i64) c)] => ⟨_,Ng n a b c,fun (t : (List Int)) => (.slc 0,[some (sI t)]),[0],none⟩
  | _,_ => Ans.no
def Ns (n : Nat) : Fun := fun avs H =>
  match avs,H with
  | [.slc 0,.dat (.list (.int .i64)) a,.dat (.int .u64) b],[some (.seq (.int .i64) c)] => ⟨_,N1l n a b c,fun (t : (List Int)) => (.slc 0,[some (sI t)]),[0],none⟩
  | _,_ => Ans.no
noncomputable def Ncb (n : Nat) : Ctx := ⟨tlook tys,olook [(85,Ncj),(86,Ns n)],ioF,1,false,[0]⟩
noncomputable def N3z (n : Nat) : Ctx := ⟨tlook tys,olook [(67,Nb3),(81,Nu n)],ioF,1,false,[0]⟩
theorem Nxe (n : Nat) (a : List Int) (b : Int) (c : List Int) : Link (Ncb n) LL (bodyOf Tryd.f81) Nag ⟨mkE 26 0 [(0,.slc 0),(1,dL a),(2,dI b)],[some (sI c)]⟩ (N56 (Ng n) (N1l n) a b c) (fun (t : (List Int)) => (Exit.ret,⟨mkE 26 0 [(6,.slc 0)],[some (sI t)]⟩)) := .of fun K h => by
  simp only [N56,wpW] at h
  exact .of (by kernel_rfl) h
theorem Nwh (n : Nat) (a : List Int) (b : Int) (c : List Int) {r : AV} {H' : Heap} (h : (Ans.mk _ (Ng (n + 1) a b c) (fun (t : (List Int)) => (.slc 0,[some (sI t)])) [0] none).run = some (r,H')) : Awp (Ncb n) LL (bodyOf Tryd.f81) Nag ⟨mkE 26 0 [(0,.slc 0),(1,dL a),(2,dI b)],[some (sI c)]⟩ (Ret (tlook tys) Tryd.f81.results.toList r H') :=
  ret_of' (Nxe n a b c) (by (show _ = _); kernel_rfl) (by
  intro t
  exact ret_mk [.slc 0] (by kernel_rfl) (by kernel_rfl) (by kernel_rfl) (by kernel_rfl)) h
theorem Nwg (n : Nat) (a : List Int) (b : Int) (c : List Int) : Link (N3z n) LL (cq [0] (bodyOf Tryd.f86)) (aq [0] N38) ⟨mkE 22 0 [(0,.slc 0),(1,dL a),(2,dW b)],[some (sI c)]⟩ (N5z (Ng n) (N1l n)) (fun (t : Unit) => (Exit.normal,⟨mkE 22 0 [(0,.slc 0),(1,dL a),(2,dW b)],[some (sI c)]⟩)) := .of fun K h => by
  simp only [N5z,wpW] at h
  exact .of (by kernel_rfl) h
theorem Nnr (n : Nat) (a : List Int) (b : Int) (c : List Int) : Link (N3z n) LL (cq [0,0,1] (bodyOf Tryd.f86)) (aq [0,0,1] N38) ⟨mkE 22 0 [(0,.slc 0),(1,dL a),(2,dW b)],[some (sI c)]⟩ (N6c (Ng n) (N1l n) b) (fun (t : Int × (List Int)) => (Exit.normal,⟨mkE 22 0 [(0,.slc 0),(1,dL a),(10,.slc 1),(11,dI t.1),(12,dI 0)],[some (sI c),some (sI t.2)]⟩)) := .of fun K h => by
  simp only [N6c,wpW] at h
  exact .of (by kernel_rfl) h
theorem Nkp (n : Nat) (a : List Int) (b c : Int) (d g : List Int) : Link (N3z n) LL (cq [0,0,1,0,1] (bodyOf Tryd.f86)) (aq [0,0,1,0,1] N38) ⟨mkE 22 0 [(0,.slc 0),(1,dL a),(10,.slc 1),(11,dI b),(12,dI c)],[some (sI d),some (sI g)]⟩ (N3f (Ng n) (N1l n) a b c d g) (Sum.elim (fun (t : Int × (List Int)) => (Exit.normal,⟨mkE 22 0 [(0,.slc 0),(1,dL a),(10,.slc 1),(11,dI b),(12,dI t.1)],[some (sI t.2),some (sI g)]⟩)) (fun (t : (List Int)) => ((Exit.exit 0),⟨mkE 22 0 [(0,.slc 0)],[some (sI t)]⟩))) := .of fun K h => by
  simp only [N3f,wpW] at h
  exact .of (by kernel_rfl) h
theorem Nuf (n : Nat) (a : List Int) : Link (N3z n) LL (cq [1,1] (bodyOf Tryd.f86)) (aq [1,1] N38) ⟨mkE 22 0 [(0,.slc 0)],[some (sI a)]⟩ (N7t (Ng n) (N1l n) a) (fun (t : (List Int)) => (Exit.ret,⟨mkE 22 0 [(6,.slc 0)],[some (sI t)]⟩)) := .of fun K h => by
  simp only [N7t,wpW] at h
  exact .of (by kernel_rfl) h
theorem Nvn (n : Nat) (a : List Int) (b : Int) (c : List Int) {r : AV} {H' : Heap} (h : (Ans.mk _ (N1l (n + 1) a b c) (fun (t : (List Int)) => (.slc 0,[some (sI t)])) [0] none).run = some (r,H')) : Awp (N3z n) LL (bodyOf Tryd.f86) N38 ⟨mkE 22 0 [(0,.slc 0),(1,dL a),(2,dW b)],[some (sI c)]⟩ (Ret (tlook tys) Tryd.f86.results.toList r H') :=
  ret_of' (Link.cast (by kernel_rfl) (by kernel_rfl) (link_seq (Nwg n a b c) (fun (t : Unit) => (link_seq (link_seq (Nnr n a b c) (fun (t : Int × (List Int)) => (link_block (fin2 := (fun (t5 : (List Int)) => (Exit.normal,⟨mkE 22 0 [(0,.slc 0)],[some (sI t5)]⟩))) (id := 0) (link_loop (mk := fun (s : Int × (List Int)) => ⟨mkE 22 0 [(0,.slc 0),(1,dL a),(10,.slc 1),(11,dI t.1),(12,dI s.1)],[some (sI s.2),some (sI t.2)]⟩) (fin := (fun (t5 : (List Int)) => ((Exit.exit 0),⟨mkE 22 0 [(0,.slc 0)],[some (sI t5)]⟩))) (by
  rintro t5 f K h
  · exact h) (fun s => link_map (Nkp n a t.1 s.1 s.2 t.2) (Sum.elim (fun (t5 : Int × (List Int)) => Sum.inl (t5.1,t5.2)) (fun (t5 : (List Int)) => Sum.inr t5)) (by
  rintro (t5 | t5)
  · kernel_rfl
  · kernel_rfl)) (0,c)) (fun (t5 : (List Int)) => t5) (by
  rintro t5 K h
  · exact Eq.mp (by kernel_rfl) h)))) (fun (t : (List Int)) => (Nuf n t)))))) (by (show _ = _); kernel_rfl) (by
  intro t
  exact ret_mk [.slc 0] (by kernel_rfl) (by kernel_rfl) (by kernel_rfl) (by kernel_rfl)) h
theorem Nli (n : Nat) (h81 : Sound Tryd.prog 81 (Nu n)) (h86 : Sound Tryd.prog 86 (Ns n)) : Sound Tryd.prog 81 (Nu (n + 1)) := by
  refine fn_sound' (C := Ncb n) (c := bodyOf Tryd.f81) (cok_of tys_ok (allc Nw5 (allc h86 alln)) (allc Tryd.call85 (allc Tryd.call86 alln)) (by kernel_rfl)) Tryd.func81 (by kernel_rfl) LL Nag ?_
  intro avs H r H' h
  unfold Nu at h
  split at h
  · refine Awp.cast ?_ ?_ ?_ (Nwh n _ _ _ h) <;> kernel_rfl
  · simp [Ans.no,Ans.run] at h
theorem Nnv : Sound Tryd.prog 81 (Nu 0) := by
  intro avs H r H' h
  unfold Nu at h
  split at h
  · simp [Ng,N2,Ans.run] at h
  · simp [Ans.no,Ans.run] at h
theorem Nmt (n : Nat) (h81 : Sound Tryd.prog 81 (Nu n)) (h86 : Sound Tryd.prog 86 (Ns n)) : Sound Tryd.prog 86 (Ns (n + 1)) := by
  refine fn_sound' (C := N3z n) (c := bodyOf Tryd.f86) (cok_of tys_ok (allc Nvi (allc h81 alln)) (allc Tryd.call67 (allc Tryd.call81 alln)) (by kernel_rfl)) Tryd.func86 (by kernel_rfl) LL N38 ?_
  intro avs H r H' h
  unfold Ns at h
  split at h
  · refine Awp.cast ?_ ?_ ?_ (Nvn n _ _ _ h) <;> kernel_rfl
  · simp [Ans.no,Ans.run] at h
theorem Nrz : Sound Tryd.prog 86 (Ns 0) := by
  intro avs H r H' h
  unfold Ns at h
  split at h
  · simp [N1l,N2,Ans.run] at h
  · simp [Ans.no,Ans.run] at h
theorem Nb6 : ∀ n,Sound Tryd.prog 81 (Nu n) ∧ Sound Tryd.prog 86 (Ns n)
  | 0 => ⟨Nnv,Nrz⟩
  | n + 1 => by
    obtain ⟨h81,h86⟩ := Nb6 n
    exact ⟨Nli n h81 h86,Nmt n h81 h86⟩
def N66 : Fun := fun avs H =>
  match avs,H with
  | [.slc 0,.dat (.list (.int .i64)) a,.dat (.int .i64) b],[some (.seq (.int .i64) c)] => ⟨_,N54 a b c,fun (t : (List Int)) => (.slc 0,[some (sI t)]),[0],none⟩
  | _,_ => Ans.no
theorem Nku : Sound Tryd.prog 81 N66 := by
  have e : N66 = Nu RR := by
    funext avs H
    unfold N66 Nu
    split <;> first | rfl | (simp only [N54])
  rw [e]
  exact (Nb6 RR).1
def Nc9 : Fun := fun avs H =>
  match avs,H with
  | [.slc 0,.dat (.list (.int .i64)) a,.dat (.int .u64) b],[some (.seq (.int .i64) c)] => ⟨_,Ngd a b c,fun (t : (List Int)) => (.slc 0,[some (sI t)]),[0],none⟩
  | _,_ => Ans.no
theorem Nxp : Sound Tryd.prog 86 Nc9 := by
  have e : Nc9 = Ns RR := by
    funext avs H
    unfold Nc9 Ns
    split <;> first | rfl | (simp only [Ngd])
  rw [e]
  exact (Nb6 RR).2

def Ncz : Ann := (.seq (.leaf [0]) (.seq (.seq (.leaf [0,5]) (.cond (.seq (.leaf [2]) (.leaf [2])) (.leaf [0]))) (.seq (.draw [5,100006] [0,1,3,4,5,2,6,7] [] [2]) (.leaf [2]))))
noncomputable def Ne6 : Ctx := ⟨tlook tys,olook [(30,Nt),(55,Nah),(81,N66)],ioF,0,false,[]⟩
theorem Nlm (a : List Int) : Link Ne6 LL (bodyOf Tryd.f72) Ncz ⟨mkE 13 0 [(0,dL a)],[]⟩ (N5a a) (fun (t : (List Int)) => (Exit.ret,⟨mkE 13 0 [(2,.slc 0)],[some (sI t)]⟩)) := .of fun K h => by
  simp only [N5a,wpW] at h
  exact .of (by kernel_rfl) h
theorem Nxg (a : List Int) {r : AV} {H' : Heap} (h : (Ans.mk _ (N2h a) (fun (t : (List Int)) => (.slc 0,[some (sI t)])) [] none).run = some (r,H')) : Awp Ne6 LL (bodyOf Tryd.f72) Ncz ⟨mkE 13 0 [(0,dL a)],[]⟩ (Ret (tlook tys) Tryd.f72.results.toList r H') :=
  ret_of' (Nlm a) (by unfold N2h; kernel_rfl) (by
  intro t
  exact ret_mk [.slc 0] (by kernel_rfl) (by kernel_rfl) (by kernel_rfl) (by kernel_rfl)) h
def Nav : Fun := fun avs H =>
  match avs,H with
  | [.dat (.list (.int .i64)) a],[] => ⟨_,N2h a,fun (t : (List Int)) => (.slc 0,[some (sI t)]),[],none⟩
  | _,_ => Ans.no
theorem Nug : Sound Tryd.prog 72 Nav := by
  refine fn_sound' (C := Ne6) (c := bodyOf Tryd.f72) (cok_of tys_ok (allc N1y (allc Nkh (allc Nku alln))) (allc Tryd.call30 (allc Tryd.call55 (allc Tryd.call81 alln))) (by kernel_rfl)) Tryd.func72 (by kernel_rfl) LL Ncz ?_
  intro avs H r H' h
  unfold Nav at h
  split at h
  · refine Awp.cast ?_ ?_ ?_ (Nxg _ h) <;> kernel_rfl
  · simp [Ans.no,Ans.run] at h

def Nb9 : Ann := (.seq (.leaf [0]) (.seq (.leaf [3]) (.seq (.leaf [2]) (.leaf [2]))))
noncomputable def Ncc : Ctx := ⟨tlook tys,olook [(72,Nav),(70,N9g)],ioF,0,false,[]⟩
theorem Nqd (a : List Int) : Link Ncc LL (bodyOf Tryd.f62) Nb9 ⟨mkE 13 0 [(0,dL a)],[]⟩ (N4n a) (fun (t : (List Int)) => (Exit.ret,⟨mkE 13 0 [(2,.slc 0)],[some (sI t)]⟩)) := .of fun K h => by
  simp only [N4n,wpW] at h
  exact .of (by kernel_rfl) h
theorem Nsy (a : List Int) {r : AV} {H' : Heap} (h : (Ans.mk _ (N2x a) (fun (t : (List Int)) => (.slc 0,[some (sI t)])) [] none).run = some (r,H')) : Awp Ncc LL (bodyOf Tryd.f62) Nb9 ⟨mkE 13 0 [(0,dL a)],[]⟩ (Ret (tlook tys) Tryd.f62.results.toList r H') :=
  ret_of' (Nqd a) (by unfold N2x; kernel_rfl) (by
  intro t
  exact ret_mk [.slc 0] (by kernel_rfl) (by kernel_rfl) (by kernel_rfl) (by kernel_rfl)) h
def Nbx : Fun := fun avs H =>
  match avs,H with
  | [.dat (.list (.int .i64)) a],[] => ⟨_,N2x a,fun (t : (List Int)) => (.slc 0,[some (sI t)]),[],none⟩
  | _,_ => Ans.no
theorem Nk4 : Sound Tryd.prog 62 Nbx := by
  refine fn_sound' (C := Ncc) (c := bodyOf Tryd.f62) (cok_of tys_ok (allc Nug (allc Nhe alln)) (allc Tryd.call72 (allc Tryd.call70 alln)) (by kernel_rfl)) Tryd.func62 (by kernel_rfl) LL Nb9 ?_
  intro avs H r H' h
  unfold Nbx at h
  split at h
  · refine Awp.cast ?_ ?_ ?_ (Nsy _ h) <;> kernel_rfl
  · simp [Ans.no,Ans.run] at h

def Ndj : Ann := (.seq (.leaf [0,3]) (.seq (.seq (.leaf [0,3,7]) (.block (.seq (.leaf [0,3,7,8]) (.cond (.seq (.seq (.leaf [0,3,14]) (.cond (.seq (.leaf [4]) (.leaf [4])) (.leaf [0,3]))) (.seq (.leaf [3,5]) (.seq (.leaf [5]) (.seq (.leaf [4]) (.leaf [4]))))) (.seq (.leaf [0,3,7,25]) (.cond (.seq (.draw [1,4] [0,2,3,4,1,5,6] [] [4]) (.leaf [4])) (.seq (.leaf [0,7,33]) (.cond (.seq (.leaf [4]) (.leaf [4])) (.seq (.leaf [0,7,41]) (.cond (.seq (.leaf [4]) (.leaf [4])) (.seq (.leaf [0,45]) (.cond (.seq (.leaf [4]) (.leaf [4])) (.leaf []))))))))))))) (.seq (.leaf [4]) (.leaf [4]))))
noncomputable def Ndi : Ctx := ⟨tlook tys,olook [(60,Ncl),(42,N9y),(61,Ndl),(62,Nbx)],ioF,0,false,[]⟩
theorem Nqx (a : List Int) (b c d : Int) : Link Ndi LL (bodyOf Tryd.f43) Ndj ⟨mkE 49 0 [(0,dL a),(1,.agg [dI b,dI c,dI d])],[]⟩ (N5k a b c d) (fun (t : (List Int)) => (Exit.ret,⟨mkE 49 0 [(4,.slc 0)],[some (sI t)]⟩)) := .of fun K h => by
  simp only [N5k,wpW] at h
  exact .of (by kernel_rfl) h
theorem Nm0 (a : List Int) (b c d : Int) {r : AV} {H' : Heap} (h : (Ans.mk _ (N2r a b c d) (fun (t : (List Int)) => (.slc 0,[some (sI t)])) [] none).run = some (r,H')) : Awp Ndi LL (bodyOf Tryd.f43) Ndj ⟨mkE 49 0 [(0,dL a),(1,.agg [dI b,dI c,dI d])],[]⟩ (Ret (tlook tys) Tryd.f43.results.toList r H') :=
  ret_of' (Nqx a b c d) (by unfold N2r; kernel_rfl) (by
  intro t
  exact ret_mk [.slc 0] (by kernel_rfl) (by kernel_rfl) (by kernel_rfl) (by kernel_rfl)) h
def Na3 : Fun := fun avs H =>
  match avs,H with
  | [.dat (.list (.int .i64)) a,.agg [.dat (.int .i64) b,.dat (.int .i64) c,.dat (.int .i64) d]],[] => ⟨_,N2r a b c d,fun (t : (List Int)) => (.slc 0,[some (sI t)]),[],none⟩
  | _,_ => Ans.no
theorem Ntw : Sound Tryd.prog 43 Na3 := by
  refine fn_sound' (C := Ndi) (c := bodyOf Tryd.f43) (cok_of tys_ok (allc Nq8 (allc Nhr (allc Njo (allc Nk4 alln)))) (allc Tryd.call60 (allc Tryd.call42 (allc Tryd.call61 (allc Tryd.call62 alln)))) (by kernel_rfl)) Tryd.func43 (by kernel_rfl) LL Ndj ?_
  intro avs H r H' h
  unfold Na3 at h
  split at h
  · refine Awp.cast ?_ ?_ ?_ (Nm0 _ _ _ _ h) <;> kernel_rfl
  · simp [Ans.no,Ans.run] at h

def N1n : Ann := (.seq (.leaf [0,1]) (.seq (.seq (.leaf [0,1,10]) (.cond (.seq (.leaf [4]) (.leaf [4])) (.leaf [0,1]))) (.seq (.seq (.leaf [0,1,12,13]) (.block (.loop (.seq (.leaf [0,1,12,13,14]) (.seq (.cond (.leaf [0,1,12,13]) (.leaf [])) (.seq (.block (.seq (.leaf [0,1,5,12,13]) (.seq (.draw [] [0,1,2,3,4,5,6,7,8] [] [0,1,12,13,24]) (.cond (.seq (.leaf [4]) (.leaf [4])) (.leaf [0,1,12,13]))))) (.leaf [0,1,12,13]))))))) (.seq (.leaf [4]) (.leaf [4])))))
noncomputable def N31 : Ctx := ⟨tlook tys,olook [],ioF,0,false,[]⟩
theorem Nln (a b : List Int) : Link N31 LL (Code.seq (cq [0] (bodyOf Tryd.f44)) (cq [0,1] (bodyOf Tryd.f44))) (Ann.seq (aq [0] N1n) (aq [0,1] N1n)) ⟨mkE 26 0 [(0,dL a),(1,dL b)],[]⟩ (N90 a b) (Sum.elim (fun (t : Unit) => (Exit.normal,⟨mkE 26 0 [(0,dL a),(1,dL b)],[]⟩)) (fun (t : Bool) => (Exit.ret,⟨mkE 26 0 [(4,dB t)],[]⟩))) := .of fun K h => by
  simp only [N90,wpW] at h
  exact .of (by kernel_rfl) h
theorem Nks (a b : List Int) : Link N31 LL (cq [0,0,1,1] (bodyOf Tryd.f44)) (aq [0,0,1,1] N1n) ⟨mkE 26 0 [(0,dL a),(1,dL b)],[]⟩ (N73 a) (fun (t : Int) => (Exit.normal,⟨mkE 26 0 [(0,dL a),(1,dL b),(12,dI t),(13,dI 0)],[]⟩)) := .of fun K h => by
  simp only [N73,wpW] at h
  exact .of (by kernel_rfl) h
theorem Nqh (a b : List Int) (c d : Int) : Link N31 LL (cq [0,0,1,0,1,1] (bodyOf Tryd.f44)) (aq [0,0,1,0,1,1] N1n) ⟨mkE 26 0 [(0,dL a),(1,dL b),(12,dI c),(13,dI d)],[]⟩ (N25 a b c d) (Sum.elim (fun (t : Int) => (Exit.normal,⟨mkE 26 0 [(0,dL a),(1,dL b),(12,dI c),(13,dI t)],[]⟩)) (Sum.elim (fun (t : Bool) => (Exit.ret,⟨mkE 26 0 [(4,dB t)],[]⟩)) (fun (t : Unit) => ((Exit.exit 0),⟨mkE 26 0 [],[]⟩)))) := .of fun K h => by
  simp only [N25,wpW] at h
  exact .of (by kernel_rfl) h
theorem Nqa : Link N31 LL (cq [1,1,1] (bodyOf Tryd.f44)) (aq [1,1,1] N1n) ⟨mkE 26 0 [],[]⟩ (Ncs) (fun (t : Bool) => (Exit.ret,⟨mkE 26 0 [(4,dB t)],[]⟩)) := .of fun K h => by
  simp only [Ncs,wpW] at h
  exact .of (by kernel_rfl) h
theorem Np0 (b d : List Int) {r : AV} {H' : Heap} (h : (Ans.mk _ (N2u b d) (fun (t : Bool) => (dB t,[])) [] none).run = some (r,H')) : Awp N31 LL (bodyOf Tryd.f44) N1n ⟨mkE 26 0 [(0,dL b),(1,dL d)],[]⟩ (Ret (tlook tys) Tryd.f44.results.toList r H') :=
  ret_of' (Link.cast (by kernel_rfl) (by kernel_rfl) (link_group (c := (cq [0,1] (bodyOf Tryd.f44))) (a := (aq [0,1] N1n)) [(cq [0] (bodyOf Tryd.f44))] [(aq [0] N1n)] rfl (link_seq2 (Nln b d) (fun (t : Unit) => (link_seq2 (link_seq (Nks b d) (fun (t : Int) => (link_block (fin2 := (Sum.elim (fun (t6 : Unit) => (Exit.normal,⟨mkE 26 0 [],[]⟩)) (fun (t6 : Bool) => (Exit.ret,⟨mkE 26 0 [(4,dB t6)],[]⟩)))) (id := 0) (link_loop (mk := fun (s : Int) => ⟨mkE 26 0 [(0,dL b),(1,dL d),(12,dI t),(13,dI s)],[]⟩) (fin := (Sum.elim (fun (t6 : Bool) => (Exit.ret,⟨mkE 26 0 [(4,dB t6)],[]⟩)) (fun (t6 : Unit) => ((Exit.exit 0),⟨mkE 26 0 [],[]⟩)))) (by
  rintro (t6 | t6) f K h
  · exact h
  · exact h) (fun s => link_map (Nqh b d t s) (Sum.elim (fun (t6 : Int) => Sum.inl t6) (Sum.elim (fun (t6 : Bool) => Sum.inr (Sum.inl t6)) (fun (t6 : Unit) => Sum.inr (Sum.inr t6)))) (by
  rintro (t6 | t6 | t6)
  · kernel_rfl
  · kernel_rfl
  · kernel_rfl)) 0) (Sum.elim (fun (t6 : Bool) => (Sum.inr t6)) (fun (t6 : Unit) => (Sum.inl ()))) (by
  rintro (t6 | t6) K h
  · exact Eq.mp (by kernel_rfl) h
  · exact Eq.mp (by kernel_rfl) h)))) (fun (t : Unit) => (Nqa)) (fun (t : Bool) => t) (by
  rintro t
  · kernel_rfl) (by
  rintro t f K h
  · exact h))) (fun (t : Bool) => t) (by
  rintro t
  · kernel_rfl) (by
  rintro t f K h
  · exact h)))) (by unfold N2u; kernel_rfl) (by
  intro t
  exact ret_mk [dB t] (by kernel_rfl) (by kernel_rfl) (by kernel_rfl) (by kernel_rfl)) h
def N9u : Fun := fun avs H =>
  match avs,H with
  | [.dat (.list (.int .i64)) a,.dat (.list (.int .i64)) b],[] => ⟨_,N2u a b,fun (t : Bool) => (dB t,[]),[],none⟩
  | _,_ => Ans.no
theorem Nlq : Sound Tryd.prog 44 N9u := by
  refine fn_sound' (C := N31) (c := bodyOf Tryd.f44) (cok_of tys_ok (alln) (alln) (by kernel_rfl)) Tryd.func44 (by kernel_rfl) LL N1n ?_
  intro avs H r H' h
  unfold N9u at h
  split at h
  · refine Awp.cast ?_ ?_ ?_ (Np0 _ _ h) <;> kernel_rfl
  · simp [Ans.no,Ans.run] at h

def ren_slices_Clone_ints_int : Go.Shelf.Ren := ⟨fun | 41 => 45 | n => n,fun | 4 => 4 | 22 => 24 | 23 => 23 | n => n,fun n => n⟩
theorem lay_slices_Clone_ints_int : SlLaysE0.n41 Tryd.prog ren_slices_Clone_ints_int := {
  mixed := by kernel_rfl
  f41 := ⟨Tryd.f45.name,by kernel_rfl,Tryd.func45.trans (congrArg some (by kernel_rfl))⟩
  t4 := Tryd.underlying4
  a4 := Tryd.isAgg4
  z4 := Tryd.sizeOf4
  v4 := Tryd.zeroValue4
  t22 := Tryd.underlying24
  a22 := Tryd.isAgg24
  z22 := Tryd.sizeOf24
  v22 := Tryd.zeroValue24 }
def Neh : Fun := F_cloneD
theorem Np1 : Sound Tryd.prog 45 Neh := cloneD_sound lay_slices_Clone_ints_int (infoOf (Tryd.prog.info? 23)) (.slice none 0 0) 24 (by kernel_rfl) (by kernel_rfl) (by kernel_rfl) (by kernel_rfl) (by kernel_rfl) (by decide) Tryd.sizeOf23

def Nap : Ann := (.seq (.leaf [2,3,4]) (.seq (.leaf [2,4,6]) (.seq (.seq (.leaf [2,4,6,20]) (.cond (.seq (.leaf [4,5]) (.leaf [4,5])) (.leaf [2,4,6]))) (.seq (.draw [2,5] [0,1,3,4,5,2,6,7] [] [4,6,7]) (.seq (.leaf [4,5]) (.leaf [4,5]))))))
noncomputable def Nab : Ctx := ⟨tlook tys,olook [(43,Na3),(30,Nt),(22,N49),(44,N9u),(45,Neh)],ioF,0,true,[]⟩
theorem Njg (a : List Int) (b : List (List Int)) (c d g : Int) : Link Nab LL (bodyOf Tryd.f24) Nap ⟨mkE 41 0 [(0,.agg [dL a,.dat (.list (.list (.int .i64))) b]),(1,.agg [dI c,dI d,dI g])],[]⟩ (N5l a b c d g) (fun (t : Bool × (List Int) × (List (List Int))) => (Exit.ret,⟨mkE 41 0 [(4,.ptr 0 0),(5,dB t.1)],[some (.box [.slc 1,.slc 2]),some (sI t.2.1),some (.nest (.int .i64) t.2.2 0 [])]⟩)) := .of fun K h => by
  simp only [N5l,wpW] at h
  exact .of (by kernel_rfl) h
theorem Ntk (a : List Int) (b : List (List Int)) (c d g : Int) {r : AV} {H' : Heap} (h : (Ans.mk _ (N2d a b c d g) (fun (t : Bool × (List Int) × (List (List Int))) => (.tup [.agg [.slc 1,.slc 2],dB t.1],[some (.box [.slc 1,.slc 2]),some (sI t.2.1),some (.nest (.int .i64) t.2.2 0 [])])) [] none).run = some (r,H')) : Awp Nab LL (bodyOf Tryd.f24) Nap ⟨mkE 41 0 [(0,.agg [dL a,.dat (.list (.list (.int .i64))) b]),(1,.agg [dI c,dI d,dI g])],[]⟩ (Ret (tlook tys) Tryd.f24.results.toList r H') :=
  ret_of' (Njg a b c d g) (by unfold N2d; kernel_rfl) (by
  intro t
  exact ret_mk [.agg [.slc 1,.slc 2],dB t.1] (by kernel_rfl) (by kernel_rfl) (by kernel_rfl) (by kernel_rfl)) h
def Ncv : Fun := fun avs H =>
  match avs,H with
  | [.agg [.dat (.list (.int .i64)) a,.dat (.list (.list (.int .i64))) b],.agg [.dat (.int .i64) c,.dat (.int .i64) d,.dat (.int .i64) g]],[] => ⟨_,N2d a b c d g,fun (t : Bool × (List Int) × (List (List Int))) => (.tup [.agg [.slc 1,.slc 2],dB t.1],[some (.box [.slc 1,.slc 2]),some (sI t.2.1),some (.nest (.int .i64) t.2.2 0 [])]),[],none⟩
  | _,_ => Ans.no
theorem Nty : Sound Tryd.prog 24 Ncv := by
  refine fn_sound' (C := Nab) (c := bodyOf Tryd.f24) (cok_of tys_ok (allc Ntw (allc N1y (allc N63 (allc Nlq (allc Np1 alln))))) (allc Tryd.call43 (allc Tryd.call30 (allc Tryd.call22 (allc Tryd.call44 (allc Tryd.call45 alln))))) (by kernel_rfl)) Tryd.func24 (by kernel_rfl) LL Nap ?_
  intro avs H r H' h
  unfold Ncv at h
  split at h
  · refine Awp.cast ?_ ?_ ?_ (Ntk _ _ _ _ _ h) <;> kernel_rfl
  · simp [Ans.no,Ans.run] at h

def Nbz : Ann := (.seq (.leaf [2,3,4]) (.seq (.seq (.leaf [2,3,4,8]) (.cond (.seq (.leaf [4,5]) (.leafF [⟨0,4,false,some 0,some (.int .i64)⟩,⟨0,4,true,some 1,some (.int .i64)⟩] [4,5])) (.leaf [2,3,4]))) (.seq (.seq (.leaf [2,3,4,12]) (.cond (.seq (.leaf [4,5]) (.leaf [4,5])) (.leaf [2,3,4]))) (.seq (.seq (.leaf [2,3,4,20]) (.cond (.seq (.leaf [4,5]) (.leaf [4,5])) (.leaf [2,3,4]))) (.seq (.leaf [4,5]) (.leaf [4,5]))))))
noncomputable def Ncy : Ctx := ⟨tlook tys,olook [(9,N4s),(21,Ncf),(22,N49),(23,Ne2),(24,Ncv)],ioF,0,true,[]⟩
theorem Nst (a : List Int) (b : List (List Int)) (c d g : Int) : Link Ncy LL (bodyOf Tryd.f6) Nbz ⟨mkE 30 0 [(0,.agg [dL a,.dat (.list (.list (.int .i64))) b]),(1,.agg [dI c,dI d,dI g])],[]⟩ (N55 a b c d g) (fun (t : Bool × (List Int) × (List (List Int))) => (Exit.ret,⟨mkE 30 0 [(4,.ptr 0 0),(5,dB t.1)],[some (.box [.slc 1,.slc 2]),some (sI t.2.1),some (.nest (.int .i64) t.2.2 0 [])]⟩)) := .of fun K h => by
  simp only [N55,wpW] at h
  exact .of (by kernel_rfl) h
theorem Np5 (a : List Int) (b : List (List Int)) (c d g : Int) {r : AV} {H' : Heap} (h : (Ans.mk _ (N1z a b c d g) (fun (t : Bool × (List Int) × (List (List Int))) => (.tup [.agg [.slc 1,.slc 2],dB t.1],[some (.box [.slc 1,.slc 2]),some (sI t.2.1),some (.nest (.int .i64) t.2.2 0 [])])) [] none).run = some (r,H')) : Awp Ncy LL (bodyOf Tryd.f6) Nbz ⟨mkE 30 0 [(0,.agg [dL a,.dat (.list (.list (.int .i64))) b]),(1,.agg [dI c,dI d,dI g])],[]⟩ (Ret (tlook tys) Tryd.f6.results.toList r H') :=
  ret_of' (Nst a b c d g) (by unfold N1z; kernel_rfl) (by
  intro t
  exact ret_mk [.agg [.slc 1,.slc 2],dB t.1] (by kernel_rfl) (by kernel_rfl) (by kernel_rfl) (by kernel_rfl)) h
def N9j : Fun := fun avs H =>
  match avs,H with
  | [.agg [.dat (.list (.int .i64)) a,.dat (.list (.list (.int .i64))) b],.agg [.dat (.int .i64) c,.dat (.int .i64) d,.dat (.int .i64) g]],[] => ⟨_,N1z a b c d g,fun (t : Bool × (List Int) × (List (List Int))) => (.tup [.agg [.slc 1,.slc 2],dB t.1],[some (.box [.slc 1,.slc 2]),some (sI t.2.1),some (.nest (.int .i64) t.2.2 0 [])]),[],none⟩
  | _,_ => Ans.no
theorem Nus : Sound Tryd.prog 6 N9j := by
  refine fn_sound' (C := Ncy) (c := bodyOf Tryd.f6) (cok_of tys_ok (allc N9n (allc Nrr (allc N63 (allc Nu8 (allc Nty alln))))) (allc Tryd.call9 (allc Tryd.call21 (allc Tryd.call22 (allc Tryd.call23 (allc Tryd.call24 alln))))) (by kernel_rfl)) Tryd.func6 (by kernel_rfl) LL Nbz ?_
  intro avs H r H' h
  unfold N9j at h
  split at h
  · refine Awp.cast ?_ ?_ ?_ (Np5 _ _ _ _ _ h) <;> kernel_rfl
  · simp [Ans.no,Ans.run] at h

def N1q : Ann := (.seq (.leaf [0,1]) (.seq (.seq (.leaf [0,1,10]) (.cond (.seq (.leaf [4]) (.leaf [4])) (.leaf [0,1]))) (.seq (.seq (.leaf [0,1,5]) (.block (.loop (.seq (.seq (.leaf [0,1,5,14]) (.cond (.leaf [0,1,5]) (.leaf []))) (.seq (.block (.seq (.draw [] [0,1,2,3,4,5,6,7,8] [] [0,1,5,25]) (.cond (.seq (.leaf [4]) (.leaf [4])) (.leaf [0,1,5])))) (.leaf [0,1,5])))))) (.seq (.leaf [4]) (.leaf [4])))))
noncomputable def N3j : Ctx := ⟨tlook tys,olook [],ioF,0,false,[]⟩
theorem Nr0 (a b : List Int) : Link N3j LL (Code.seq (cq [0] (bodyOf Tryd.f28)) (cq [0,1] (bodyOf Tryd.f28))) (Ann.seq (aq [0] N1q) (aq [0,1] N1q)) ⟨mkE 26 0 [(0,dL a),(1,dL b)],[]⟩ (N7k a b) (Sum.elim (fun (t : Unit) => (Exit.normal,⟨mkE 26 0 [(0,dL a),(1,dL b)],[]⟩)) (fun (t : Bool) => (Exit.ret,⟨mkE 26 0 [(4,dB t)],[]⟩))) := .of fun K h => by
  simp only [N7k,wpW] at h
  exact .of (by kernel_rfl) h
theorem Nrq (a b : List Int) : Link N3j LL (cq [0,0,1,1] (bodyOf Tryd.f28)) (aq [0,0,1,1] N1q) ⟨mkE 26 0 [(0,dL a),(1,dL b)],[]⟩ (N70) (fun (t : Unit) => (Exit.normal,⟨mkE 26 0 [(0,dL a),(1,dL b),(5,dI 0)],[]⟩)) := .of fun K h => by
  simp only [N70,wpW] at h
  exact .of (by kernel_rfl) h
theorem Nji (a b : List Int) (c : Int) : Link N3j LL (cq [0,0,1,0,1,1] (bodyOf Tryd.f28)) (aq [0,0,1,0,1,1] N1q) ⟨mkE 26 0 [(0,dL a),(1,dL b),(5,dI c)],[]⟩ (N32 a b c) (Sum.elim (fun (t : Int) => (Exit.normal,⟨mkE 26 0 [(0,dL a),(1,dL b),(5,dI t)],[]⟩)) (Sum.elim (fun (t : Bool) => (Exit.ret,⟨mkE 26 0 [(4,dB t)],[]⟩)) (fun (t : Unit) => ((Exit.exit 0),⟨mkE 26 0 [],[]⟩)))) := .of fun K h => by
  simp only [N32,wpW] at h
  exact .of (by kernel_rfl) h
theorem Nrp : Link N3j LL (cq [1,1,1] (bodyOf Tryd.f28)) (aq [1,1,1] N1q) ⟨mkE 26 0 [],[]⟩ (N5s) (fun (t : Bool) => (Exit.ret,⟨mkE 26 0 [(4,dB t)],[]⟩)) := .of fun K h => by
  simp only [N5s,wpW] at h
  exact .of (by kernel_rfl) h
theorem Nuh (b d : List Int) {r : AV} {H' : Heap} (h : (Ans.mk _ (N1a b d) (fun (t : Bool) => (dB t,[])) [] none).run = some (r,H')) : Awp N3j LL (bodyOf Tryd.f28) N1q ⟨mkE 26 0 [(0,dL b),(1,dL d)],[]⟩ (Ret (tlook tys) Tryd.f28.results.toList r H') :=
  ret_of' (Link.cast (by kernel_rfl) (by kernel_rfl) (link_group (c := (cq [0,1] (bodyOf Tryd.f28))) (a := (aq [0,1] N1q)) [(cq [0] (bodyOf Tryd.f28))] [(aq [0] N1q)] rfl (link_seq2 (Nr0 b d) (fun (t : Unit) => (link_seq2 (link_seq (Nrq b d) (fun (t : Unit) => (link_block (fin2 := (Sum.elim (fun (t : Unit) => (Exit.normal,⟨mkE 26 0 [],[]⟩)) (fun (t : Bool) => (Exit.ret,⟨mkE 26 0 [(4,dB t)],[]⟩)))) (id := 0) (link_loop (mk := fun (s : Int) => ⟨mkE 26 0 [(0,dL b),(1,dL d),(5,dI s)],[]⟩) (fin := (Sum.elim (fun (t : Bool) => (Exit.ret,⟨mkE 26 0 [(4,dB t)],[]⟩)) (fun (t : Unit) => ((Exit.exit 0),⟨mkE 26 0 [],[]⟩)))) (by
  rintro (t | t) f K h
  · exact h
  · exact h) (fun s => link_map (Nji b d s) (Sum.elim (fun (t : Int) => Sum.inl t) (Sum.elim (fun (t : Bool) => Sum.inr (Sum.inl t)) (fun (t : Unit) => Sum.inr (Sum.inr t)))) (by
  rintro (t | t | t)
  · kernel_rfl
  · kernel_rfl
  · kernel_rfl)) 0) (Sum.elim (fun (t : Bool) => (Sum.inr t)) (fun (t : Unit) => (Sum.inl ()))) (by
  rintro (t | t) K h
  · exact Eq.mp (by kernel_rfl) h
  · exact Eq.mp (by kernel_rfl) h)))) (fun (t : Unit) => (Nrp)) (fun (t : Bool) => t) (by
  rintro t
  · kernel_rfl) (by
  rintro t f K h
  · exact h))) (fun (t : Bool) => t) (by
  rintro t
  · kernel_rfl) (by
  rintro t f K h
  · exact h)))) (by unfold N1a; kernel_rfl) (by
  intro t
  exact ret_mk [dB t] (by kernel_rfl) (by kernel_rfl) (by kernel_rfl) (by kernel_rfl)) h
def N5b : Fun := fun avs H =>
  match avs,H with
  | [.dat (.list (.int .i64)) a,.dat (.list (.int .i64)) b],[] => ⟨_,N1a a b,fun (t : Bool) => (dB t,[]),[],none⟩
  | _,_ => Ans.no
theorem Nin : Sound Tryd.prog 28 N5b := by
  refine fn_sound' (C := N3j) (c := bodyOf Tryd.f28) (cok_of tys_ok (alln) (alln) (by kernel_rfl)) Tryd.func28 (by kernel_rfl) LL N1q ?_
  intro avs H r H' h
  unfold N5b at h
  split at h
  · refine Awp.cast ?_ ?_ ?_ (Nuh _ _ h) <;> kernel_rfl
  · simp [Ans.no,Ans.run] at h

def N1o : Ann := (.seq (.leaf [0,1]) (.seq (.seq (.leaf [0,1,10]) (.cond (.seq (.leaf [4]) (.leaf [4])) (.leaf [0,1]))) (.seq (.seq (.leaf [0,1,5]) (.block (.loop (.seq (.seq (.leaf [0,1,5,14]) (.cond (.leaf [0,1,5]) (.leaf []))) (.seq (.block (.seq (.draw [8] [0,1,2,3,4,5,6,7,8,9] [] [0,1,5,26]) (.cond (.seq (.leaf [4]) (.leaf [4])) (.leaf [0,1,5])))) (.leaf [0,1,5])))))) (.seq (.leaf [4]) (.leaf [4])))))
noncomputable def N3o : Ctx := ⟨tlook tys,olook [(28,N5b)],ioF,0,false,[]⟩
theorem Nk0 (a b : List (List Int)) : Link N3o LL (Code.seq (cq [0] (bodyOf Tryd.f29)) (cq [0,1] (bodyOf Tryd.f29))) (Ann.seq (aq [0] N1o) (aq [0,1] N1o)) ⟨mkE 27 0 [(0,.dat (.list (.list (.int .i64))) a),(1,.dat (.list (.list (.int .i64))) b)],[]⟩ (N61 a b) (Sum.elim (fun (t : Unit) => (Exit.normal,⟨mkE 27 0 [(0,.dat (.list (.list (.int .i64))) a),(1,.dat (.list (.list (.int .i64))) b)],[]⟩)) (fun (t : Bool) => (Exit.ret,⟨mkE 27 0 [(4,dB t)],[]⟩))) := .of fun K h => by
  simp only [N61,wpW] at h
  exact .of (by kernel_rfl) h
theorem Njs (a b : List (List Int)) : Link N3o LL (cq [0,0,1,1] (bodyOf Tryd.f29)) (aq [0,0,1,1] N1o) ⟨mkE 27 0 [(0,.dat (.list (.list (.int .i64))) a),(1,.dat (.list (.list (.int .i64))) b)],[]⟩ (N6q) (fun (t : Unit) => (Exit.normal,⟨mkE 27 0 [(0,.dat (.list (.list (.int .i64))) a),(1,.dat (.list (.list (.int .i64))) b),(5,dI 0)],[]⟩)) := .of fun K h => by
  simp only [N6q,wpW] at h
  exact .of (by kernel_rfl) h
theorem Nog (a b : List (List Int)) (c : Int) : Link N3o LL (cq [0,0,1,0,1,1] (bodyOf Tryd.f29)) (aq [0,0,1,0,1,1] N1o) ⟨mkE 27 0 [(0,.dat (.list (.list (.int .i64))) a),(1,.dat (.list (.list (.int .i64))) b),(5,dI c)],[]⟩ (N4e a b c) (Sum.elim (fun (t : Int) => (Exit.normal,⟨mkE 27 0 [(0,.dat (.list (.list (.int .i64))) a),(1,.dat (.list (.list (.int .i64))) b),(5,dI t)],[]⟩)) (Sum.elim (fun (t : Bool) => (Exit.ret,⟨mkE 27 0 [(4,dB t)],[]⟩)) (fun (t : Unit) => ((Exit.exit 0),⟨mkE 27 0 [],[]⟩)))) := .of fun K h => by
  simp only [N4e,wpW] at h
  exact .of (by kernel_rfl) h
theorem Nw8 : Link N3o LL (cq [1,1,1] (bodyOf Tryd.f29)) (aq [1,1,1] N1o) ⟨mkE 27 0 [],[]⟩ (N7e) (fun (t : Bool) => (Exit.ret,⟨mkE 27 0 [(4,dB t)],[]⟩)) := .of fun K h => by
  simp only [N7e,wpW] at h
  exact .of (by kernel_rfl) h
theorem Ntx (b d : List (List Int)) {r : AV} {H' : Heap} (h : (Ans.mk _ (N1x b d) (fun (t : Bool) => (dB t,[])) [] none).run = some (r,H')) : Awp N3o LL (bodyOf Tryd.f29) N1o ⟨mkE 27 0 [(0,.dat (.list (.list (.int .i64))) b),(1,.dat (.list (.list (.int .i64))) d)],[]⟩ (Ret (tlook tys) Tryd.f29.results.toList r H') :=
  ret_of' (Link.cast (by kernel_rfl) (by kernel_rfl) (link_group (c := (cq [0,1] (bodyOf Tryd.f29))) (a := (aq [0,1] N1o)) [(cq [0] (bodyOf Tryd.f29))] [(aq [0] N1o)] rfl (link_seq2 (Nk0 b d) (fun (t : Unit) => (link_seq2 (link_seq (Njs b d) (fun (t : Unit) => (link_block (fin2 := (Sum.elim (fun (t : Unit) => (Exit.normal,⟨mkE 27 0 [],[]⟩)) (fun (t : Bool) => (Exit.ret,⟨mkE 27 0 [(4,dB t)],[]⟩)))) (id := 0) (link_loop (mk := fun (s : Int) => ⟨mkE 27 0 [(0,.dat (.list (.list (.int .i64))) b),(1,.dat (.list (.list (.int .i64))) d),(5,dI s)],[]⟩) (fin := (Sum.elim (fun (t : Bool) => (Exit.ret,⟨mkE 27 0 [(4,dB t)],[]⟩)) (fun (t : Unit) => ((Exit.exit 0),⟨mkE 27 0 [],[]⟩)))) (by
  rintro (t | t) f K h
  · exact h
  · exact h) (fun s => link_map (Nog b d s) (Sum.elim (fun (t : Int) => Sum.inl t) (Sum.elim (fun (t : Bool) => Sum.inr (Sum.inl t)) (fun (t : Unit) => Sum.inr (Sum.inr t)))) (by
  rintro (t | t | t)
  · kernel_rfl
  · kernel_rfl
  · kernel_rfl)) 0) (Sum.elim (fun (t : Bool) => (Sum.inr t)) (fun (t : Unit) => (Sum.inl ()))) (by
  rintro (t | t) K h
  · exact Eq.mp (by kernel_rfl) h
  · exact Eq.mp (by kernel_rfl) h)))) (fun (t : Unit) => (Nw8)) (fun (t : Bool) => t) (by
  rintro t
  · kernel_rfl) (by
  rintro t f K h
  · exact h))) (fun (t : Bool) => t) (by
  rintro t
  · kernel_rfl) (by
  rintro t f K h
  · exact h)))) (by unfold N1x; kernel_rfl) (by
  intro t
  exact ret_mk [dB t] (by kernel_rfl) (by kernel_rfl) (by kernel_rfl) (by kernel_rfl)) h
def N86 : Fun := fun avs H =>
  match avs,H with
  | [.dat (.list (.list (.int .i64))) a,.dat (.list (.list (.int .i64))) b],[] => ⟨_,N1x a b,fun (t : Bool) => (dB t,[]),[],none⟩
  | _,_ => Ans.no
theorem Nul : Sound Tryd.prog 29 N86 := by
  refine fn_sound' (C := N3o) (c := bodyOf Tryd.f29) (cok_of tys_ok (allc Nin alln) (allc Tryd.call28 alln) (by kernel_rfl)) Tryd.func29 (by kernel_rfl) LL N1o ?_
  intro avs H r H' h
  unfold N86 at h
  split at h
  · refine Awp.cast ?_ ?_ ?_ (Ntx _ _ h) <;> kernel_rfl
  · simp [Ans.no,Ans.run] at h

def Ndp : Ann := (.seq (.leaf [2,3]) (.seq (.leaf [4]) (.leaf [4])))
noncomputable def Nbl : Ctx := ⟨tlook tys,olook [(28,N5b),(29,N86)],ioF,0,false,[]⟩
theorem Nqj (a : List Int) (b : List (List Int)) (c : List Int) (d : List (List Int)) : Link Nbl LL (bodyOf Tryd.f8) Ndp ⟨mkE 17 0 [(0,.agg [dL a,.dat (.list (.list (.int .i64))) b]),(1,.agg [dL c,.dat (.list (.list (.int .i64))) d])],[]⟩ (N7f a b c d) (fun (t : Bool) => (Exit.ret,⟨mkE 17 0 [(4,dB t)],[]⟩)) := .of fun K h => by
  simp only [N7f,wpW] at h
  exact .of (by kernel_rfl) h
theorem Npf (a : List Int) (b : List (List Int)) (c : List Int) (d : List (List Int)) {r : AV} {H' : Heap} (h : (Ans.mk _ (N2j a b c d) (fun (t : Bool) => (dB t,[])) [] none).run = some (r,H')) : Awp Nbl LL (bodyOf Tryd.f8) Ndp ⟨mkE 17 0 [(0,.agg [dL a,.dat (.list (.list (.int .i64))) b]),(1,.agg [dL c,.dat (.list (.list (.int .i64))) d])],[]⟩ (Ret (tlook tys) Tryd.f8.results.toList r H') :=
  ret_of' (Nqj a b c d) (by unfold N2j; kernel_rfl) (by
  intro t
  exact ret_mk [dB t] (by kernel_rfl) (by kernel_rfl) (by kernel_rfl) (by kernel_rfl)) h
def Nhl : Ann := (.seq (.leaf [2,3]) (.seq (.leaf [4]) (.leaf [4])))
noncomputable def Ngi : Ctx := ⟨tlook tys,olook [(28,N5b),(29,N86)],ioF,0,false,[]⟩
theorem Njw (a : List Int) (b : List (List Int)) : Link Ngi LL (bodyOf Tryd.f8) Nhl ⟨mkE 17 0 [(0,.agg [dL a,.dat (.list (.list (.int .i64))) b]),(1,.agg [.nils,.nils])],[]⟩ (N6a a b) (fun (t : Bool) => (Exit.ret,⟨mkE 17 0 [(4,dB t)],[]⟩)) := .of fun K h => by
  simp only [N6a,wpW] at h
  exact .of (by kernel_rfl) h
theorem Nt7 (a : List Int) (b : List (List Int)) {r : AV} {H' : Heap} (h : (Ans.mk _ (N57 a b) (fun (t : Bool) => (dB t,[])) [] none).run = some (r,H')) : Awp Ngi LL (bodyOf Tryd.f8) Nhl ⟨mkE 17 0 [(0,.agg [dL a,.dat (.list (.list (.int .i64))) b]),(1,.agg [.nils,.nils])],[]⟩ (Ret (tlook tys) Tryd.f8.results.toList r H') :=
  ret_of' (Njw a b) (by unfold N57; kernel_rfl) (by
  intro t
  exact ret_mk [dB t] (by kernel_rfl) (by kernel_rfl) (by kernel_rfl) (by kernel_rfl)) h
def N7j : Fun := fun avs H =>
  match avs,H with
  | [.agg [.dat (.list (.int .i64)) a,.dat (.list (.list (.int .i64))) b],.agg [.dat (.list (.int .i64)) c,.dat (.list (.list (.int .i64))) d]],[] => ⟨_,N2j a b c d,fun (t : Bool) => (dB t,[]),[],none⟩
  | [.agg [.dat (.list (.int .i64)) g,.dat (.list (.list (.int .i64))) i],.agg [.nils,.nils]],[] => ⟨_,N57 g i,fun (t : Bool) => (dB t,[]),[],none⟩
  | _,_ => Ans.no
theorem Ng8 : Sound Tryd.prog 8 N7j := by
  refine fn_sound' (C := Nbl) (c := bodyOf Tryd.f8) (cok_of tys_ok (allc Nin (allc Nul alln)) (allc Tryd.call28 (allc Tryd.call29 alln)) (by kernel_rfl)) Tryd.func8 (by kernel_rfl) LL Ndp ?_
  intro avs H r H' h
  unfold N7j at h
  split at h
  · refine Awp.cast ?_ ?_ ?_ (Npf _ _ _ _ h) <;> kernel_rfl
  · refine Awp.cast ?_ ?_ ?_ (Nt7 _ _ h) <;> kernel_rfl
  · simp [Ans.no,Ans.run] at h

def Ne3 : Ann := (.seq (.leaf []) (.seq (.leaf [0]) (.leaf [0])))
noncomputable def Nas : Ctx := ⟨tlook tys,olook [(30,Nt)],ioF,0,false,[]⟩
theorem Nu5 : Link Nas LL (bodyOf Tryd.f10) Ne3 ⟨mkE 8 0 [],[]⟩ (N83) (fun (t : Bool) => (Exit.ret,⟨mkE 8 0 [(0,dB t)],[]⟩)) := .of fun K h => by
  simp only [N83,wpW] at h
  exact .of (by kernel_rfl) h
theorem Npr {r : AV} {H' : Heap} (h : (Ans.mk _ (N20) (fun (t : Bool) => (dB t,[])) [] none).run = some (r,H')) : Awp Nas LL (bodyOf Tryd.f10) Ne3 ⟨mkE 8 0 [],[]⟩ (Ret (tlook tys) Tryd.f10.results.toList r H') :=
  ret_of' (Nu5) (by unfold N20; kernel_rfl) (by
  intro t
  exact ret_mk [dB t] (by kernel_rfl) (by kernel_rfl) (by kernel_rfl) (by kernel_rfl)) h
def Na1 : Fun := fun avs H =>
  match avs,H with
  | [],[] => ⟨_,N20,fun (t : Bool) => (dB t,[]),[],none⟩
  | _,_ => Ans.no
theorem Nlo : Sound Tryd.prog 10 Na1 := by
  refine fn_sound' (C := Nas) (c := bodyOf Tryd.f10) (cok_of tys_ok (allc N1y alln) (allc Tryd.call30 alln) (by kernel_rfl)) Tryd.func10 (by kernel_rfl) LL Ne3 ?_
  intro avs H r H' h
  unfold Na1 at h
  split at h
  · refine Awp.cast ?_ ?_ ?_ (Npr h) <;> kernel_rfl
  · simp [Ans.no,Ans.run] at h

def Nz : Ann := (.seq (.leaf [0,1]) (.seq (.leaf [0,1,5]) (.seq (.seq (.leaf [0,1,5,6]) (.block (.loop (.seq (.seq (.leaf [0,1,5,6,11]) (.cond (.leaf [0,1,5,6]) (.leaf [5]))) (.seq (.block (.leaf [0,1,5,6])) (.leaf [0,1,5,6])))))) (.seq (.leaf [4]) (.leaf [4])))))
noncomputable def N4h : Ctx := ⟨tlook tys,olook [(40,Nj),(20,N8h)],ioF,1,false,[]⟩
theorem Nuv (a b : List Int) (c : Int) : Link N4h LL (Code.seq (cq [0] (bodyOf Tryd.f37)) (cq [0,1] (bodyOf Tryd.f37))) (Ann.seq (aq [0] Nz) (aq [0,1] Nz)) ⟨mkE 21 0 [(0,.ptr 0 0),(1,dL a)],[some (.box [dV b,dI c])]⟩ (N8n) (fun (t : Unit) => (Exit.normal,⟨mkE 21 0 [(0,.ptr 0 0),(1,dL a),(5,.slc 1)],[some (.box [dV b,dI c]),some (.seq (.pair (.int .i64) (.pair (.int .i64) (.pair (.int .i64) .unit))) ([] : List (Int × Int × Int × Unit)))]⟩)) := .of fun K h => by
  simp only [N8n,wpW] at h
  exact .of (by kernel_rfl) h
theorem Npl (a b : List Int) (c : Int) : Link N4h LL (cq [0,0,1,1] (bodyOf Tryd.f37)) (aq [0,0,1,1] Nz) ⟨mkE 21 0 [(0,.ptr 0 0),(1,dL a),(5,.slc 1)],[some (.box [dV b,dI c]),some (.seq (.pair (.int .i64) (.pair (.int .i64) (.pair (.int .i64) .unit))) ([] : List (Int × Int × Int × Unit)))]⟩ (N6e b c) (fun (t : Int × Int) => (Exit.normal,⟨mkE 21 0 [(0,.ptr 0 0),(1,dL a),(5,.slc 1),(6,dI t.1)],[some (.box [dV b,dI t.2]),some (.seq (.pair (.int .i64) (.pair (.int .i64) (.pair (.int .i64) .unit))) ([] : List (Int × Int × Int × Unit)))]⟩)) := .of fun K h => by
  simp only [N6e,wpW] at h
  exact .of (by kernel_rfl) h
theorem Nn8 (a : List Int) (b : Int) (c : List Int) (d : Int) (g : List (Int × Int × Int × Unit)) : Link N4h LL (cq [0,0,1,0,1,1] (bodyOf Tryd.f37)) (aq [0,0,1,0,1,1] Nz) ⟨mkE 21 0 [(0,.ptr 0 0),(1,dL a),(5,.slc 1),(6,dI b)],[some (.box [dV c,dI d]),some (.seq (.pair (.int .i64) (.pair (.int .i64) (.pair (.int .i64) .unit))) g)]⟩ (N5q a b c d g) (Sum.elim (fun (t : Int × Int × (List (Int × Int × Int × Unit))) => (Exit.normal,⟨mkE 21 0 [(0,.ptr 0 0),(1,dL a),(5,.slc 1),(6,dI t.1)],[some (.box [dV c,dI t.2.1]),some (.seq (.pair (.int .i64) (.pair (.int .i64) (.pair (.int .i64) .unit))) t.2.2)]⟩)) (fun (t : Int × (List (Int × Int × Int × Unit))) => ((Exit.exit 0),⟨mkE 21 0 [(5,.slc 1)],[some (.box [dV c,dI t.1]),some (.seq (.pair (.int .i64) (.pair (.int .i64) (.pair (.int .i64) .unit))) t.2)]⟩))) := .of fun K h => by
  simp only [N5q,wpW] at h
  exact .of (by kernel_rfl) h
theorem Nor (a : List Int) (b : Int) (c : List (Int × Int × Int × Unit)) : Link N4h LL (cq [1,1,1] (bodyOf Tryd.f37)) (aq [1,1,1] Nz) ⟨mkE 21 0 [(5,.slc 1)],[some (.box [dV a,dI b]),some (.seq (.pair (.int .i64) (.pair (.int .i64) (.pair (.int .i64) .unit))) c)]⟩ (Ndk b c) (fun (t : Int × (List (Int × Int × Int × Unit))) => (Exit.ret,⟨mkE 21 0 [(4,.slc 1)],[some (.box [dV a,dI t.1]),some (.seq (.pair (.int .i64) (.pair (.int .i64) (.pair (.int .i64) .unit))) t.2)]⟩)) := .of fun K h => by
  simp only [Ndk,wpW] at h
  exact .of (by kernel_rfl) h
theorem Nmb (b d : List Int) (g : Int) {r : AV} {H' : Heap} (h : (Ans.mk _ (N2l b d g) (fun (t : Int × (List (Int × Int × Int × Unit))) => (.slc 1,[some (.box [dV d,dI t.1]),some (.seq (.pair (.int .i64) (.pair (.int .i64) (.pair (.int .i64) .unit))) t.2)])) [] none).run = some (r,H')) : Awp N4h LL (bodyOf Tryd.f37) Nz ⟨mkE 21 0 [(0,.ptr 0 0),(1,dL b)],[some (.box [dV d,dI g])]⟩ (Ret (tlook tys) Tryd.f37.results.toList r H') :=
  ret_of' (Link.cast (by kernel_rfl) (by kernel_rfl) (link_group (c := (cq [0,1] (bodyOf Tryd.f37))) (a := (aq [0,1] Nz)) [(cq [0] (bodyOf Tryd.f37))] [(aq [0] Nz)] rfl (link_seq (Nuv b d g) (fun (t : Unit) => (link_seq (link_seq (Npl b d g) (fun (t : Int × Int) => (link_block (fin2 := (fun (t7 : Int × (List (Int × Int × Int × Unit))) => (Exit.normal,⟨mkE 21 0 [(5,.slc 1)],[some (.box [dV d,dI t7.1]),some (.seq (.pair (.int .i64) (.pair (.int .i64) (.pair (.int .i64) .unit))) t7.2)]⟩))) (id := 0) (link_loop (mk := fun (s : Int × Int × (List (Int × Int × Int × Unit))) => ⟨mkE 21 0 [(0,.ptr 0 0),(1,dL b),(5,.slc 1),(6,dI s.1)],[some (.box [dV d,dI s.2.1]),some (.seq (.pair (.int .i64) (.pair (.int .i64) (.pair (.int .i64) .unit))) s.2.2)]⟩) (fin := (fun (t7 : Int × (List (Int × Int × Int × Unit))) => ((Exit.exit 0),⟨mkE 21 0 [(5,.slc 1)],[some (.box [dV d,dI t7.1]),some (.seq (.pair (.int .i64) (.pair (.int .i64) (.pair (.int .i64) .unit))) t7.2)]⟩))) (by
  rintro t7 f K h
  · exact h) (fun s => link_map (Nn8 b s.1 d s.2.1 s.2.2) (Sum.elim (fun (t7 : Int × Int × (List (Int × Int × Int × Unit))) => Sum.inl (t7.1,t7.2.1,t7.2.2)) (fun (t7 : Int × (List (Int × Int × Int × Unit))) => Sum.inr t7)) (by
  rintro (t7 | t7)
  · kernel_rfl
  · kernel_rfl)) (t.1,t.2,([] : List (Int × Int × Int × Unit)))) (fun (t7 : Int × (List (Int × Int × Int × Unit))) => (t7.1,t7.2)) (by
  rintro t7 K h
  · exact Eq.mp (by kernel_rfl) h)))) (fun (t : Int × (List (Int × Int × Int × Unit))) => (Nor d t.1 t.2))))))) (by unfold N2l; kernel_rfl) (by
  intro t
  exact ret_mk [.slc 1] (by kernel_rfl) (by kernel_rfl) (by kernel_rfl) (by kernel_rfl)) h
def N9z : Fun := fun avs H =>
  match avs,H with
  | [.ptr 0 0,.dat (.list (.int .i64)) a],[some (.box [.dat (.list (.int .u8)) b,.dat (.int .i64) c])] => ⟨_,N2l a b c,fun (t : Int × (List (Int × Int × Int × Unit))) => (.slc 1,[some (.box [dV b,dI t.1]),some (.seq (.pair (.int .i64) (.pair (.int .i64) (.pair (.int .i64) .unit))) t.2)]),[],none⟩
  | _,_ => Ans.no
theorem Nmm : Sound Tryd.prog 37 N9z := by
  refine fn_sound' (C := N4h) (c := bodyOf Tryd.f37) (cok_of tys_ok (allc N18 (allc Nhk alln)) (allc Tryd.call40 (allc Tryd.call20 alln)) (by kernel_rfl)) Tryd.func37 (by kernel_rfl) LL Nz ?_
  intro avs H r H' h
  unfold N9z at h
  split at h
  · refine Awp.cast ?_ ?_ ?_ (Nmb _ _ _ h) <;> kernel_rfl
  · simp [Ans.no,Ans.run] at h

def Nd9 : Ann := (.seq (.leaf [0,2]) (.seq (.leaf [2,4]) (.seq (.leaf [2,4,5]) (.seq (.seq (.leaf [2,4,5,11]) (.cond (.seq (.draw [] [0,2,1,3] [] [2,3]) (.leaf [2,3])) (.leaf [2,4,5]))) (.seq (.draw [200002,300000] [0,1,2,3,4,5,6] [] [2,3]) (.leaf [2,3]))))))
noncomputable def Ndu : Ctx := ⟨tlook tys,olook [(18,Nbd),(19,Nca),(36,N3r),(37,N9z)],ioF,0,false,[]⟩
theorem Nv2 (a : List Int) : Link Ndu LL (bodyOf Tryd.f13) Nd9 ⟨mkE 19 0 [(0,dV a)],[]⟩ (N69 a) (fun (t : (List Int) × (List (Int × Int × Int × Unit)) × (List (List Int))) => (Exit.ret,⟨mkE 19 0 [(2,.ptr 0 0),(3,.slc 1)],[some (.box [dL t.1,.slc 2]),some (.seq (.pair (.int .i64) (.pair (.int .i64) (.pair (.int .i64) .unit))) t.2.1),some (.nest (.int .i64) t.2.2 0 [])]⟩)) := .of fun K h => by
  simp only [N69,wpW] at h
  exact .of (by kernel_rfl) h
theorem No4 (a : List Int) {r : AV} {H' : Heap} (h : (Ans.mk _ (N3b a) (fun (t : (List Int) × (List (Int × Int × Int × Unit)) × (List (List Int))) => (.tup [.agg [dL t.1,.slc 2],.slc 1],[some (.box [dL t.1,.slc 2]),some (.seq (.pair (.int .i64) (.pair (.int .i64) (.pair (.int .i64) .unit))) t.2.1),some (.nest (.int .i64) t.2.2 0 [])])) [] none).run = some (r,H')) : Awp Ndu LL (bodyOf Tryd.f13) Nd9 ⟨mkE 19 0 [(0,dV a)],[]⟩ (Ret (tlook tys) Tryd.f13.results.toList r H') :=
  ret_of' (Nv2 a) (by unfold N3b; kernel_rfl) (by
  intro t
  exact ret_mk [.agg [dL t.1,.slc 2],.slc 1] (by kernel_rfl) (by kernel_rfl) (by kernel_rfl) (by kernel_rfl)) h
def Nd3 : Fun := fun avs H =>
  match avs,H with
  | [.dat (.list (.int .u8)) a],[] => ⟨_,N3b a,fun (t : (List Int) × (List (Int × Int × Int × Unit)) × (List (List Int))) => (.tup [.agg [dL t.1,.slc 2],.slc 1],[some (.box [dL t.1,.slc 2]),some (.seq (.pair (.int .i64) (.pair (.int .i64) (.pair (.int .i64) .unit))) t.2.1),some (.nest (.int .i64) t.2.2 0 [])]),[],none⟩
  | _,_ => Ans.no
theorem Ntl : Sound Tryd.prog 13 Nd3 := by
  refine fn_sound' (C := Ndu) (c := bodyOf Tryd.f13) (cok_of tys_ok (allc Nmw (allc No2 (allc N7v (allc Nmm alln)))) (allc Tryd.call18 (allc Tryd.call19 (allc Tryd.call36 (allc Tryd.call37 alln)))) (by kernel_rfl)) Tryd.func13 (by kernel_rfl) LL Nd9 ?_
  intro avs H r H' h
  unfold Nd3 at h
  split at h
  · refine Awp.cast ?_ ?_ ?_ (No4 _ h) <;> kernel_rfl
  · simp [Ans.no,Ans.run] at h

def Np : Ann := (.seq (.leaf [1,2,4]) (.seq (.seq (.leaf [1,2,4,19]) (.cond (.seq (.leaf [4,5]) (.leafF [⟨0,4,false,some 0,some (.int .i64)⟩,⟨0,4,true,some 1,some (.int .i64)⟩] [4,5])) (.leaf [1,2,4]))) (.seq (.leaf [1,4,6,7]) (.seq (.seq (.leaf [4,6,7,26,27,28]) (.block (.loop (.seq (.leaf [4,6,7,26,27,28,29]) (.seq (.cond (.leaf [4,6,7,26,27,28]) (.leaf [4,6,7])) (.seq (.block (.seq (.leaf [4,6,7,9,26,27,28]) (.seq (.leaf [4,6,7,10,11,26,27,28]) (.seq (.leaf [4,6,7,10,26,27,28,38]) (.cond (.seq (.leaf [4,6,7,26,27,28]) (.leaf [4,6,7,26,27,28])) (.leaf [4,6,7,26,27,28])))))) (.leaf [4,6,7,26,27,28]))))))) (.seq (.leaf [4,5]) (.leaf [4,5]))))))
noncomputable def N43 : Ctx := ⟨tlook tys,olook [(9,N4s),(22,N49),(6,N9j)],ioF,0,false,[]⟩
theorem Nqu (a : List Int) (b : List (List Int)) (c : List (Int × Int × Int × Unit)) : Link N43 LL (Code.seq (cq [0] (bodyOf Tryd.f14)) (Code.seq (cq [0,1] (bodyOf Tryd.f14)) (cq [0,1,1] (bodyOf Tryd.f14)))) (Ann.seq (aq [0] Np) (Ann.seq (aq [0,1] Np) (aq [0,1,1] Np))) ⟨mkE 45 0 [(0,.agg [dL a,.dat (.list (.list (.int .i64))) b]),(1,.dat (.list (.pair (.int .i64) (.pair (.int .i64) (.pair (.int .i64) .unit)))) c)],[]⟩ (N5y a b c) (Sum.elim (fun (t : (List Int) × (List (List Int))) => (Exit.normal,⟨mkE 45 0 [(1,.dat (.list (.pair (.int .i64) (.pair (.int .i64) (.pair (.int .i64) .unit)))) c),(4,.ptr 0 0),(6,.ptr 1 0),(7,dI 0)],[some (.box [.nils,.nils]),some (.box [.slc 2,.slc 3]),some (sI t.1),some (.nest (.int .i64) t.2 0 [])]⟩)) (fun (t : Int × (List Int) × (List (List Int))) => (Exit.ret,⟨mkE 45 0 [(4,.ptr 0 0),(5,dI t.1)],[some (.box [.slc 1,.slc 2]),some (sI t.2.1),some (.nest (.int .i64) t.2.2 0 [])]⟩))) := .of fun K h => by
  simp only [N5y,wpW] at h
  exact .of (by kernel_rfl) h
theorem Nkl (a : List (Int × Int × Int × Unit)) (b : List Int) (c : List (List Int)) : Link N43 LL (cq [0,0,1,1,1] (bodyOf Tryd.f14)) (aq [0,0,1,1,1] Np) ⟨mkE 45 0 [(1,.dat (.list (.pair (.int .i64) (.pair (.int .i64) (.pair (.int .i64) .unit)))) a),(4,.ptr 0 0),(6,.ptr 1 0),(7,dI 0)],[some (.box [.nils,.nils]),some (.box [.slc 2,.slc 3]),some (sI b),some (.nest (.int .i64) c 0 [])]⟩ (N99 a) (fun (t : Int) => (Exit.normal,⟨mkE 45 0 [(4,.ptr 0 0),(6,.ptr 1 0),(7,dI 0),(26,.dat (.list (.pair (.int .i64) (.pair (.int .i64) (.pair (.int .i64) .unit)))) a),(27,dI t),(28,dI 0)],[some (.box [.nils,.nils]),some (.box [.slc 2,.slc 3]),some (sI b),some (.nest (.int .i64) c 0 [])]⟩)) := .of fun K h => by
  simp only [N99,wpW] at h
  exact .of (by kernel_rfl) h
theorem Nx0 (a : Int) (b : List (Int × Int × Int × Unit)) (c d : Int) (g : List Int) (i : List (List Int)) : Link N43 LL (cq [0,0,1,0,1,1,1] (bodyOf Tryd.f14)) (aq [0,0,1,0,1,1,1] Np) ⟨mkE 45 0 [(4,.ptr 0 0),(6,.ptr 1 0),(7,dI a),(26,.dat (.list (.pair (.int .i64) (.pair (.int .i64) (.pair (.int .i64) .unit)))) b),(27,dI c),(28,dI d)],[some (.box [.nils,.nils]),some (.box [.slc 2,.slc 3]),some (sI g),some (.nest (.int .i64) i 0 [])]⟩ (N3y a b c d g i) (Sum.elim (fun (t : Int × Int × (List Int) × (List (List Int))) => (Exit.normal,⟨mkE 45 0 [(4,.ptr 0 0),(6,.ptr 1 0),(7,dI t.1),(26,.dat (.list (.pair (.int .i64) (.pair (.int .i64) (.pair (.int .i64) .unit)))) b),(27,dI c),(28,dI t.2.1)],[some (.box [.nils,.nils]),some (.box [.slc 2,.slc 3]),some (sI t.2.2.1),some (.nest (.int .i64) t.2.2.2 0 [])]⟩)) (fun (t : Int × (List Int) × (List (List Int))) => ((Exit.exit 0),⟨mkE 45 0 [(4,.ptr 0 0),(6,.ptr 1 0),(7,dI t.1)],[some (.box [.nils,.nils]),some (.box [.slc 2,.slc 3]),some (sI t.2.1),some (.nest (.int .i64) t.2.2 0 [])]⟩))) := .of fun K h => by
  simp only [N3y,wpW] at h
  exact .of (by kernel_rfl) h
theorem Nvo (a : Int) (b : List Int) (c : List (List Int)) : Link N43 LL (cq [1,1,1,1] (bodyOf Tryd.f14)) (aq [1,1,1,1] Np) ⟨mkE 45 0 [(4,.ptr 0 0),(6,.ptr 1 0),(7,dI a)],[some (.box [.nils,.nils]),some (.box [.slc 2,.slc 3]),some (sI b),some (.nest (.int .i64) c 0 [])]⟩ (N8g a b c) (fun (t : Int × (List Int) × (List (List Int))) => (Exit.ret,⟨mkE 45 0 [(4,.ptr 0 0),(5,dI t.1)],[some (.box [.slc 1,.slc 2]),some (sI t.2.1),some (.nest (.int .i64) t.2.2 0 [])]⟩)) := .of fun K h => by
  simp only [N8g,wpW] at h
  exact .of (by kernel_rfl) h
theorem Nu0 (b : List Int) (d : List (List Int)) (g : List (Int × Int × Int × Unit)) {r : AV} {H' : Heap} (h : (Ans.mk _ (Nb b d g) (fun (t : Int × (List Int) × (List (List Int))) => (.tup [.agg [.slc 1,.slc 2],dI t.1],[some (.box [.slc 1,.slc 2]),some (sI t.2.1),some (.nest (.int .i64) t.2.2 0 [])])) [] none).run = some (r,H')) : Awp N43 LL (bodyOf Tryd.f14) Np ⟨mkE 45 0 [(0,.agg [dL b,.dat (.list (.list (.int .i64))) d]),(1,.dat (.list (.pair (.int .i64) (.pair (.int .i64) (.pair (.int .i64) .unit)))) g)],[]⟩ (Ret (tlook tys) Tryd.f14.results.toList r H') :=
  ret_of' (Link.cast (by kernel_rfl) (by kernel_rfl) (link_group (c := (cq [0,1,1] (bodyOf Tryd.f14))) (a := (aq [0,1,1] Np)) [(cq [0] (bodyOf Tryd.f14)),(cq [0,1] (bodyOf Tryd.f14))] [(aq [0] Np),(aq [0,1] Np)] rfl (link_seq2 (Nqu b d g) (fun (t : (List Int) × (List (List Int))) => (link_seq (link_seq (Nkl g t.1 t.2) (fun (t23 : Int) => (link_block (fin2 := (fun (t8 : Int × (List Int) × (List (List Int))) => (Exit.normal,⟨mkE 45 0 [(4,.ptr 0 0),(6,.ptr 1 0),(7,dI t8.1)],[some (.box [.nils,.nils]),some (.box [.slc 2,.slc 3]),some (sI t8.2.1),some (.nest (.int .i64) t8.2.2 0 [])]⟩))) (id := 0) (link_loop (mk := fun (s : Int × Int × (List Int) × (List (List Int))) => ⟨mkE 45 0 [(4,.ptr 0 0),(6,.ptr 1 0),(7,dI s.1),(26,.dat (.list (.pair (.int .i64) (.pair (.int .i64) (.pair (.int .i64) .unit)))) g),(27,dI t23),(28,dI s.2.1)],[some (.box [.nils,.nils]),some (.box [.slc 2,.slc 3]),some (sI s.2.2.1),some (.nest (.int .i64) s.2.2.2 0 [])]⟩) (fin := (fun (t8 : Int × (List Int) × (List (List Int))) => ((Exit.exit 0),⟨mkE 45 0 [(4,.ptr 0 0),(6,.ptr 1 0),(7,dI t8.1)],[some (.box [.nils,.nils]),some (.box [.slc 2,.slc 3]),some (sI t8.2.1),some (.nest (.int .i64) t8.2.2 0 [])]⟩))) (by
  rintro t8 f K h
  · exact h) (fun s => link_map (Nx0 s.1 g t23 s.2.1 s.2.2.1 s.2.2.2) (Sum.elim (fun (t8 : Int × Int × (List Int) × (List (List Int))) => Sum.inl (t8.1,t8.2.1,t8.2.2.1,t8.2.2.2)) (fun (t8 : Int × (List Int) × (List (List Int))) => Sum.inr t8)) (by
  rintro (t8 | t8)
  · kernel_rfl
  · kernel_rfl)) (0,0,t.1,t.2)) (fun (t8 : Int × (List Int) × (List (List Int))) => (t8.1,t8.2.1,t8.2.2)) (by
  rintro t8 K h
  · exact Eq.mp (by kernel_rfl) h)))) (fun (t23 : Int × (List Int) × (List (List Int))) => (Nvo t23.1 t23.2.1 t23.2.2)))) (fun (t : Int × (List Int) × (List (List Int))) => t) (by
  rintro t
  · kernel_rfl) (by
  rintro t f K h
  · exact h)))) (by unfold Nb; kernel_rfl) (by
  intro t
  exact ret_mk [.agg [.slc 1,.slc 2],dI t.1] (by kernel_rfl) (by kernel_rfl) (by kernel_rfl) (by kernel_rfl)) h
def Nc3 : Fun := fun avs H =>
  match avs,H with
  | [.agg [.dat (.list (.int .i64)) a,.dat (.list (.list (.int .i64))) b],.dat (.list (.pair (.int .i64) (.pair (.int .i64) (.pair (.int .i64) .unit)))) c],[] => ⟨_,Nb a b c,fun (t : Int × (List Int) × (List (List Int))) => (.tup [.agg [.slc 1,.slc 2],dI t.1],[some (.box [.slc 1,.slc 2]),some (sI t.2.1),some (.nest (.int .i64) t.2.2 0 [])]),[],none⟩
  | _,_ => Ans.no
theorem Nnj : Sound Tryd.prog 14 Nc3 := by
  refine fn_sound' (C := N43) (c := bodyOf Tryd.f14) (cok_of tys_ok (allc N9n (allc N63 (allc Nus alln))) (allc Tryd.call9 (allc Tryd.call22 (allc Tryd.call6 alln))) (by kernel_rfl)) Tryd.func14 (by kernel_rfl) LL Np ?_
  intro avs H r H' h
  unfold Nc3 at h
  split at h
  · refine Awp.cast ?_ ?_ ?_ (Nu0 _ _ _ h) <;> kernel_rfl
  · simp [Ans.no,Ans.run] at h

def Nc : Ann := (.seq (.leaf [1,2,4]) (.seq (.seq (.leaf [1,2,4,18]) (.cond (.seq (.leaf [4,5]) (.leafF [⟨0,4,false,some 0,some (.int .i64)⟩,⟨0,4,true,some 1,some (.int .i64)⟩] [4,5])) (.leaf [1,2,4]))) (.seq (.leaf [1,4,6]) (.seq (.leaf [1,4,6,7]) (.seq (.seq (.leaf [1,4,6,7,8]) (.block (.loop (.seq (.seq (.leaf [1,4,6,7,8,25]) (.cond (.leaf [1,4,6,7,8]) (.leaf [4,6,7]))) (.seq (.block (.seq (.draw [5] [0,1,2,3,4,5,6,7,8,9,10,11] [] [1,4,6,7,8,9,10]) (.seq (.leaf [1,4,6,7,8,9,37]) (.cond (.seq (.leaf [1,4,6,7,8]) (.leaf [1,4,6,7,8])) (.leaf [1,4,6,7,8]))))) (.leaf [1,4,6,7,8])))))) (.seq (.leaf [4,5]) (.leaf [4,5])))))))
noncomputable def N3t : Ctx := ⟨tlook tys,olook [(16,N4r),(25,N96),(7,N7u)],ioF,0,false,[]⟩
theorem No9 (a : List Int) (b : List (List Int)) (c : List (Int × Int × Int × Unit)) : Link N3t LL (Code.seq (cq [0] (bodyOf Tryd.f15)) (Code.seq (cq [0,1] (bodyOf Tryd.f15)) (Code.seq (cq [0,1,1] (bodyOf Tryd.f15)) (cq [0,1,1,1] (bodyOf Tryd.f15))))) (Ann.seq (aq [0] Nc) (Ann.seq (aq [0,1] Nc) (Ann.seq (aq [0,1,1] Nc) (aq [0,1,1,1] Nc)))) ⟨mkE 43 0 [(0,.agg [dL a,.dat (.list (.list (.int .i64))) b]),(1,.dat (.list (.pair (.int .i64) (.pair (.int .i64) (.pair (.int .i64) .unit)))) c)],[]⟩ (N8m a b c) (Sum.elim (fun (t : (List Int) × (List (List Int))) => (Exit.normal,⟨mkE 43 0 [(1,.dat (.list (.pair (.int .i64) (.pair (.int .i64) (.pair (.int .i64) .unit)))) c),(4,.ptr 0 0),(6,.ptr 1 0),(7,dI 0)],[some (.box [.nils,.nils]),some (.box [.slc 2,.slc 3]),some (sI t.1),some (.nest (.int .i64) t.2 0 [])]⟩)) (fun (t : Int × (List Int) × (List (List Int))) => (Exit.ret,⟨mkE 43 0 [(4,.ptr 0 0),(5,dI t.1)],[some (.box [.slc 1,.slc 2]),some (sI t.2.1),some (.nest (.int .i64) t.2.2 0 [])]⟩))) := .of fun K h => by
  simp only [N8m,wpW] at h
  exact .of (by kernel_rfl) h
theorem Nof (a : List (Int × Int × Int × Unit)) (b : List Int) (c : List (List Int)) : Link N3t LL (cq [0,0,1,1,1,1] (bodyOf Tryd.f15)) (aq [0,0,1,1,1,1] Nc) ⟨mkE 43 0 [(1,.dat (.list (.pair (.int .i64) (.pair (.int .i64) (.pair (.int .i64) .unit)))) a),(4,.ptr 0 0),(6,.ptr 1 0),(7,dI 0)],[some (.box [.nils,.nils]),some (.box [.slc 2,.slc 3]),some (sI b),some (.nest (.int .i64) c 0 [])]⟩ (N8i) (fun (t : Unit) => (Exit.normal,⟨mkE 43 0 [(1,.dat (.list (.pair (.int .i64) (.pair (.int .i64) (.pair (.int .i64) .unit)))) a),(4,.ptr 0 0),(6,.ptr 1 0),(7,dI 0),(8,dI 0)],[some (.box [.nils,.nils]),some (.box [.slc 2,.slc 3]),some (sI b),some (.nest (.int .i64) c 0 [])]⟩)) := .of fun K h => by
  simp only [N8i,wpW] at h
  exact .of (by kernel_rfl) h
theorem Nui (a : List (Int × Int × Int × Unit)) (b c : Int) (d : List Int) (g : List (List Int)) : Link N3t LL (cq [0,0,1,0,1,1,1,1] (bodyOf Tryd.f15)) (aq [0,0,1,0,1,1,1,1] Nc) ⟨mkE 43 0 [(1,.dat (.list (.pair (.int .i64) (.pair (.int .i64) (.pair (.int .i64) .unit)))) a),(4,.ptr 0 0),(6,.ptr 1 0),(7,dI b),(8,dI c)],[some (.box [.nils,.nils]),some (.box [.slc 2,.slc 3]),some (sI d),some (.nest (.int .i64) g 0 [])]⟩ (N37 a b c d g) (Sum.elim (fun (t : Int × Int × (List Int) × (List (List Int))) => (Exit.normal,⟨mkE 43 0 [(1,.dat (.list (.pair (.int .i64) (.pair (.int .i64) (.pair (.int .i64) .unit)))) a),(4,.ptr 0 0),(6,.ptr 1 0),(7,dI t.1),(8,dI t.2.1)],[some (.box [.nils,.nils]),some (.box [.slc 2,.slc 3]),some (sI t.2.2.1),some (.nest (.int .i64) t.2.2.2 0 [])]⟩)) (fun (t : Int × (List Int) × (List (List Int))) => ((Exit.exit 0),⟨mkE 43 0 [(4,.ptr 0 0),(6,.ptr 1 0),(7,dI t.1)],[some (.box [.nils,.nils]),some (.box [.slc 2,.slc 3]),some (sI t.2.1),some (.nest (.int .i64) t.2.2 0 [])]⟩))) := .of fun K h => by
  simp only [N37,wpW] at h
  exact .of (by kernel_rfl) h
theorem Noi (a : Int) (b : List Int) (c : List (List Int)) : Link N3t LL (cq [1,1,1,1,1] (bodyOf Tryd.f15)) (aq [1,1,1,1,1] Nc) ⟨mkE 43 0 [(4,.ptr 0 0),(6,.ptr 1 0),(7,dI a)],[some (.box [.nils,.nils]),some (.box [.slc 2,.slc 3]),some (sI b),some (.nest (.int .i64) c 0 [])]⟩ (Nam a b c) (fun (t : Int × (List Int) × (List (List Int))) => (Exit.ret,⟨mkE 43 0 [(4,.ptr 0 0),(5,dI t.1)],[some (.box [.slc 1,.slc 2]),some (sI t.2.1),some (.nest (.int .i64) t.2.2 0 [])]⟩)) := .of fun K h => by
  simp only [Nam,wpW] at h
  exact .of (by kernel_rfl) h
theorem Nx3 (b : List Int) (d : List (List Int)) (g : List (Int × Int × Int × Unit)) {r : AV} {H' : Heap} (h : (Ans.mk _ (N2c b d g) (fun (t : Int × (List Int) × (List (List Int))) => (.tup [.agg [.slc 1,.slc 2],dI t.1],[some (.box [.slc 1,.slc 2]),some (sI t.2.1),some (.nest (.int .i64) t.2.2 0 [])])) [] none).run = some (r,H')) : Awp N3t LL (bodyOf Tryd.f15) Nc ⟨mkE 43 0 [(0,.agg [dL b,.dat (.list (.list (.int .i64))) d]),(1,.dat (.list (.pair (.int .i64) (.pair (.int .i64) (.pair (.int .i64) .unit)))) g)],[]⟩ (Ret (tlook tys) Tryd.f15.results.toList r H') :=
  ret_of' (Link.cast (by kernel_rfl) (by kernel_rfl) (link_group (c := (cq [0,1,1,1] (bodyOf Tryd.f15))) (a := (aq [0,1,1,1] Nc)) [(cq [0] (bodyOf Tryd.f15)),(cq [0,1] (bodyOf Tryd.f15)),(cq [0,1,1] (bodyOf Tryd.f15))] [(aq [0] Nc),(aq [0,1] Nc),(aq [0,1,1] Nc)] rfl (link_seq2 (No9 b d g) (fun (t : (List Int) × (List (List Int))) => (link_seq (link_seq (Nof g t.1 t.2) (fun (t24 : Unit) => (link_block (fin2 := (fun (t24 : Int × (List Int) × (List (List Int))) => (Exit.normal,⟨mkE 43 0 [(4,.ptr 0 0),(6,.ptr 1 0),(7,dI t24.1)],[some (.box [.nils,.nils]),some (.box [.slc 2,.slc 3]),some (sI t24.2.1),some (.nest (.int .i64) t24.2.2 0 [])]⟩))) (id := 0) (link_loop (mk := fun (s : Int × Int × (List Int) × (List (List Int))) => ⟨mkE 43 0 [(1,.dat (.list (.pair (.int .i64) (.pair (.int .i64) (.pair (.int .i64) .unit)))) g),(4,.ptr 0 0),(6,.ptr 1 0),(7,dI s.1),(8,dI s.2.1)],[some (.box [.nils,.nils]),some (.box [.slc 2,.slc 3]),some (sI s.2.2.1),some (.nest (.int .i64) s.2.2.2 0 [])]⟩) (fin := (fun (t24 : Int × (List Int) × (List (List Int))) => ((Exit.exit 0),⟨mkE 43 0 [(4,.ptr 0 0),(6,.ptr 1 0),(7,dI t24.1)],[some (.box [.nils,.nils]),some (.box [.slc 2,.slc 3]),some (sI t24.2.1),some (.nest (.int .i64) t24.2.2 0 [])]⟩))) (by
  rintro t24 f K h
  · exact h) (fun s => link_map (Nui g s.1 s.2.1 s.2.2.1 s.2.2.2) (Sum.elim (fun (t24 : Int × Int × (List Int) × (List (List Int))) => Sum.inl (t24.1,t24.2.1,t24.2.2.1,t24.2.2.2)) (fun (t24 : Int × (List Int) × (List (List Int))) => Sum.inr t24)) (by
  rintro (t24 | t24)
  · kernel_rfl
  · kernel_rfl)) (0,0,t.1,t.2)) (fun (t24 : Int × (List Int) × (List (List Int))) => (t24.1,t24.2.1,t24.2.2)) (by
  rintro t24 K h
  · exact Eq.mp (by kernel_rfl) h)))) (fun (t24 : Int × (List Int) × (List (List Int))) => (Noi t24.1 t24.2.1 t24.2.2)))) (fun (t : Int × (List Int) × (List (List Int))) => t) (by
  rintro t
  · kernel_rfl) (by
  rintro t f K h
  · exact h)))) (by unfold N2c; kernel_rfl) (by
  intro t
  exact ret_mk [.agg [.slc 1,.slc 2],dI t.1] (by kernel_rfl) (by kernel_rfl) (by kernel_rfl) (by kernel_rfl)) h
def Nc7 : Fun := fun avs H =>
  match avs,H with
  | [.agg [.dat (.list (.int .i64)) a,.dat (.list (.list (.int .i64))) b],.dat (.list (.pair (.int .i64) (.pair (.int .i64) (.pair (.int .i64) .unit)))) c],[] => ⟨_,N2c a b c,fun (t : Int × (List Int) × (List (List Int))) => (.tup [.agg [.slc 1,.slc 2],dI t.1],[some (.box [.slc 1,.slc 2]),some (sI t.2.1),some (.nest (.int .i64) t.2.2 0 [])]),[],none⟩
  | _,_ => Ans.no
theorem Nkb : Sound Tryd.prog 15 Nc7 := by
  refine fn_sound' (C := N3t) (c := bodyOf Tryd.f15) (cok_of tys_ok (allc Nd1 (allc Ni4 (allc Nhy alln))) (allc Tryd.call16 (allc Tryd.call25 (allc Tryd.call7 alln))) (by kernel_rfl)) Tryd.func15 (by kernel_rfl) LL Nc ?_
  intro avs H r H' h
  unfold Nc7 at h
  split at h
  · refine Awp.cast ?_ ?_ ?_ (Nx3 _ _ _ h) <;> kernel_rfl
  · simp [Ans.no,Ans.run] at h

def Nbq : Ann := (.seq (.leaf [1]) (.seq (.leaf [2]) (.leaf [2])))
noncomputable def Ndz : Ctx := ⟨tlook tys,olook [(8,N7j)],ioF,0,false,[]⟩
theorem Nou (a : List Int) (b : List (List Int)) : Link Ndz LL (bodyOf Tryd.f17) Nbq ⟨mkE 6 0 [(0,.agg [dL a,.dat (.list (.list (.int .i64))) b])],[]⟩ (N74 a b) (fun (t : Bool) => (Exit.ret,⟨mkE 6 0 [(2,dB t)],[]⟩)) := .of fun K h => by
  simp only [N74,wpW] at h
  exact .of (by kernel_rfl) h
theorem Nls (a : List Int) (b : List (List Int)) {r : AV} {H' : Heap} (h : (Ans.mk _ (N24 a b) (fun (t : Bool) => (dB t,[])) [] none).run = some (r,H')) : Awp Ndz LL (bodyOf Tryd.f17) Nbq ⟨mkE 6 0 [(0,.agg [dL a,.dat (.list (.list (.int .i64))) b])],[]⟩ (Ret (tlook tys) Tryd.f17.results.toList r H') :=
  ret_of' (Nou a b) (by unfold N24; kernel_rfl) (by
  intro t
  exact ret_mk [dB t] (by kernel_rfl) (by kernel_rfl) (by kernel_rfl) (by kernel_rfl)) h
def Ncu : Fun := fun avs H =>
  match avs,H with
  | [.agg [.dat (.list (.int .i64)) a,.dat (.list (.list (.int .i64))) b]],[] => ⟨_,N24 a b,fun (t : Bool) => (dB t,[]),[],none⟩
  | _,_ => Ans.no
theorem Nk8 : Sound Tryd.prog 17 Ncu := by
  refine fn_sound' (C := Ndz) (c := bodyOf Tryd.f17) (cok_of tys_ok (allc Ng8 alln) (allc Tryd.call8 alln) (by kernel_rfl)) Tryd.func17 (by kernel_rfl) LL Nbq ?_
  intro avs H r H' h
  unfold Ncu at h
  split at h
  · refine Awp.cast ?_ ?_ ?_ (Nls _ _ h) <;> kernel_rfl
  · simp [Ans.no,Ans.run] at h

def Naq : Ann := (.seq (.leaf [0]) (.seq (.seq (.leaf [0,16]) (.cond (.seq (.leaf [2]) (.leaf [2])) (.leaf [0]))) (.seq (.leaf [3,4]) (.seq (.leaf [3,4,5,6]) (.seq (.leaf [3,4,5,6,7,8]) (.seq (.seq (.leaf [3,4,5,6,42]) (.cond (.seq (.leaf [2]) (.leaf [2])) (.leaf [3,4,5,6]))) (.seq (.seq (.leaf [3,4,5,6,50]) (.cond (.seq (.leaf [2]) (.leaf [2])) (.leaf [3,4,5,6]))) (.seq (.leaf [3,4,5,6,9]) (.seq (.draw [4] [0,1,2,3,4,5,6,7,8,9,10] [] [4,5,6,9,10,11]) (.seq (.draw [4] [0,1,2,3,4,5,6,7,8,9,10] [] [5,6,11,12,13]) (.seq (.leaf [2]) (.leaf [2]))))))))))))
noncomputable def Ne5 : Ctx := ⟨tlook tys,olook [(13,Nd3),(14,Nc3),(15,Nc7),(8,N7j),(16,N4r),(17,Ncu),(10,Na1),(9,N4s)],ioF,0,false,[]⟩
theorem Nt8 (a : List Int) : Link Ne5 LL (bodyOf Tryd.f4) Naq ⟨mkE 93 0 [(0,dV a)],[]⟩ (N7h a) (fun (t : Bool) => (Exit.ret,⟨mkE 93 0 [(2,dB t)],[]⟩)) := .of fun K h => by
  simp only [N7h,wpW] at h
  exact .of (by kernel_rfl) h
theorem Nv3 (a : List Int) {r : AV} {H' : Heap} (h : (Ans.mk _ (N2v a) (fun (t : Bool) => (dB t,[])) [] none).run = some (r,H')) : Awp Ne5 LL (bodyOf Tryd.f4) Naq ⟨mkE 93 0 [(0,dV a)],[]⟩ (Ret (tlook tys) Tryd.f4.results.toList r H') :=
  ret_of' (Nt8 a) (by unfold N2v; kernel_rfl) (by
  intro t
  exact ret_mk [dB t] (by kernel_rfl) (by kernel_rfl) (by kernel_rfl) (by kernel_rfl)) h
def Nia : Fun := fun avs H =>
  match avs,H with
  | [.dat (.list (.int .u8)) a],[] => ⟨_,N2v a,fun (t : Bool) => (dB t,[]),[],none⟩
  | _,_ => Ans.no
theorem Nka : Sound Tryd.prog 4 Nia := by
  refine fn_sound' (C := Ne5) (c := bodyOf Tryd.f4) (cok_of tys_ok (allc Ntl (allc Nnj (allc Nkb (allc Ng8 (allc Nd1 (allc Nk8 (allc Nlo (allc N9n alln)))))))) (allc Tryd.call13 (allc Tryd.call14 (allc Tryd.call15 (allc Tryd.call8 (allc Tryd.call16 (allc Tryd.call17 (allc Tryd.call10 (allc Tryd.call9 alln)))))))) (by kernel_rfl)) Tryd.func4 (by kernel_rfl) LL Naq ?_
  intro avs H r H' h
  unfold Nia at h
  split at h
  · refine Awp.cast ?_ ?_ ?_ (Nv3 _ h) <;> kernel_rfl
  · simp [Ans.no,Ans.run] at h
end Go.Rv
