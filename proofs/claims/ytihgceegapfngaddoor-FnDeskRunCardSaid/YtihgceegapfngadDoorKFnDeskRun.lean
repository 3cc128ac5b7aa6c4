/-
  The checked code answers as the plain functions do; written by program. Conditions: none.
-/
import Derived.Test.YtihgceegapfngadDoorKFnDeskRuna
import Derived.Test.YtihgceegapfngadDoorProg
set_option linter.unusedVariables false
set_option linter.unusedSimpArgs false
set_option linter.defProp false
set_option maxRecDepth 100000
namespace Go.Rv
open Go.Proofs
def N8i : Ann := (.seq (.leaf [0,1,2]) (.seq (.leaf [0,1,2,7,8]) (.seq (.leaf [0,1,8]) (.seq (.leaf [6]) (.leaf [6])))))
def N3j : Ann := (.seq (.leaf [0,1,2]) (.seq (.seq (.leaf [0,1,10,11,12]) (.block (.loop (.seq (.leaf [0,1,10,11,12,13]) (.seq (.cond (.leaf [0,1,10,11,12]) (.leaf [0])) (.seq (.block (.seq (.leaf [0,1,8,10,11,12]) (.leaf [0,1,10,11,12]))) (.leaf [0,1,10,11,12]))))))) (.seq (.leaf [6]) (.leaf [6]))))
def Nw (n : Nat) : Fun := fun avs H =>
  match avs,H with
  | [.slc 0,.dat (.list (.int .i64)) a,.dat (.int .i64) b],[some (.seq (.int .i64) c)] => ⟨_,N11 n a b c,fun (t : (List Int)) => (.slc 0,[some (sI t)]),[0],none⟩
  | _,_ => Ans.no
def Nt (n : Nat) : Fun := fun avs H =>
  match avs,H with
  | [.slc 0,.dat (.list (.int .i64)) a,.dat (.int .u64) b],[some (.seq (.int .i64) c)] => ⟨_,N19 n a b c,fun (t : (List Int)) => (.slc 0,[some (sI t)]),[0],none⟩
  | _,_ => Ans.no
noncomputable def Naq (n : Nat) : Ctx := ⟨tlook tys,olook [(85,Nd4),(86,Nt n)],ioF,1,false,[0]⟩
noncomputable def N3d (n : Nat) : Ctx := ⟨tlook tys,olook [(67,Ndt),(81,Nw n)],ioF,1,false,[0]⟩
theorem Npo (n : Nat) (a : List Int) (b : Int) (c : List Int) : Link (Naq n) LL (bodyOf Tryd.f81) N8i ⟨mkE 26 0 [(0,.slc 0),(1,dL a),(2,dI b)],[some (sI c)]⟩ (Ndu (N11 n) (N19 n) a b c) (fun (t : (List Int)) => (Exit.ret,⟨mkE 26 0 [(6,.slc 0)],[some (sI t)]⟩)) := .of fun K h => by
  simp only [Ndu,wpW] at h
  exact .of (by kernel_rfl) h
theorem Nll (n : Nat) (a : List Int) (b : Int) (c : List Int) {r : AV} {H' : Heap} (h : (Ans.mk _ (N11 (n + 1) a b c) (fun (t : (List Int)) => (.slc 0,[some (sI t)])) [0] none).run = some (r,H')) : Awp (Naq n) LL (bodyOf Tryd.f81) N8i ⟨mkE 26 0 [(0,.slc 0),(1,dL a),(2,dI b)],[some (sI c)]⟩ (Ret (tlook tys) Tryd.f81.results.toList r H') :=
  ret_of' (Npo n a b c) (by (show _ = _); kernel_rfl) (by
  intro t
  exact ret_mk [.slc 0] (by kernel_rfl) (by kernel_rfl) (by kernel_rfl) (by kernel_rfl)) h
theorem Nru (n : Nat) (a : List Int) (b : Int) (c : List Int) : Link (N3d n) LL (cq [0] (bodyOf Tryd.f86)) (aq [0] N3j) ⟨mkE 22 0 [(0,.slc 0),(1,dL a),(2,dW b)],[some (sI c)]⟩ (N95 (N11 n) (N19 n)) (fun (t : Unit) => (Exit.normal,⟨mkE 22 0 [(0,.slc 0),(1,dL a),(2,dW b)],[some (sI c)]⟩)) := .of fun K h => by
  simp only [N95,wpW] at h
  exact .of (by kernel_rfl) h
theorem Ns9 (n : Nat) (a : List Int) (b : Int) (c : List Int) : Link (N3d n) LL (cq [0,0,1] (bodyOf Tryd.f86)) (aq [0,0,1] N3j) ⟨mkE 22 0 [(0,.slc 0),(1,dL a),(2,dW b)],[some (sI c)]⟩ (N8y (N11 n) (N19 n) b) (fun (t : Int × (List Int)) => (Exit.normal,⟨mkE 22 0 [(0,.slc 0),(1,dL a),(10,.slc 1),(11,dI t.1),(12,dI 0)],[some (sI c),some (sI t.2)]⟩)) := .of fun K h => by
  simp only [N8y,wpW] at h
  exact .of (by kernel_rfl) h
theorem Nsw (n : Nat) (a : List Int) (b c : Int) (d g : List Int) : Link (N3d n) LL (cq [0,0,1,0,1] (bodyOf Tryd.f86)) (aq [0,0,1,0,1] N3j) ⟨mkE 22 0 [(0,.slc 0),(1,dL a),(10,.slc 1),(11,dI b),(12,dI c)],[some (sI d),some (sI g)]⟩ (Nd6 (N11 n) (N19 n) a b c d g) (Sum.elim (fun (t : Int × (List Int)) => (Exit.normal,⟨mkE 22 0 [(0,.slc 0),(1,dL a),(10,.slc 1),(11,dI b),(12,dI t.1)],[some (sI t.2),some (sI g)]⟩)) (fun (t : (List Int)) => ((Exit.exit 0),⟨mkE 22 0 [(0,.slc 0)],[some (sI t)]⟩))) := .of fun K h => by
  simp only [Nd6,wpW] at h
  exact .of (by kernel_rfl) h
theorem Njb (n : Nat) (a : List Int) : Link (N3d n) LL (cq [1,1] (bodyOf Tryd.f86)) (aq [1,1] N3j) ⟨mkE 22 0 [(0,.slc 0)],[some (sI a)]⟩ (N87 (N11 n) (N19 n) a) (fun (t : (List Int)) => (Exit.ret,⟨mkE 22 0 [(6,.slc 0)],[some (sI t)]⟩)) := .of fun K h => by
  simp only [N87,wpW] at h
  exact .of (by kernel_rfl) h
theorem Nob (n : Nat) (a : List Int) (b : Int) (c : List Int) {r : AV} {H' : Heap} (h : (Ans.mk _ (N19 (n + 1) a b c) (fun (t : (List Int)) => (.slc 0,[some (sI t)])) [0] none).run = some (r,H')) : Awp (N3d n) LL (bodyOf Tryd.f86) N3j ⟨mkE 22 0 [(0,.slc 0),(1,dL a),(2,dW b)],[some (sI c)]⟩ (Ret (tlook tys) Tryd.f86.results.toList r H') :=
  ret_of' (Link.cast (by kernel_rfl) (by kernel_rfl) (link_seq (Nru n a b c) (fun (t : Unit) => (link_seq (link_seq (Ns9 n a b c) (fun (t : Int × (List Int)) => (link_block (fin2 := (fun (t5 : (List Int)) => (Exit.normal,⟨mkE 22 0 [(0,.slc 0)],[some (sI t5)]⟩))) (id := 0) (link_loop (mk := fun (s : Int × (List Int)) => ⟨mkE 22 0 [(0,.slc 0),(1,dL a),(10,.slc 1),(11,dI t.1),(12,dI s.1)],[some (sI s.2),some (sI t.2)]⟩) (fin := (fun (t5 : (List Int)) => ((Exit.exit 0),⟨mkE 22 0 [(0,.slc 0)],[some (sI t5)]⟩))) (by
  rintro t5 f K h
  · exact h) (fun s => link_map (Nsw n a t.1 s.1 s.2 t.2) (Sum.elim (fun (t5 : Int × (List Int)) => Sum.inl (t5.1,t5.2)) (fun (t5 : (List Int)) => Sum.inr t5)) (by
  rintro (t5 | t5)
  · kernel_rfl
  · kernel_rfl)) (0,c)) (fun (t5 : (List Int)) => t5) (by
  rintro t5 K h
  · exact Eq.mp (by kernel_rfl) h)))) (fun (t : (List Int)) => (Njb n t)))))) (by (show _ = _); kernel_rfl) (by
  intro t
  exact ret_mk [.slc 0] (by kernel_rfl) (by kernel_rfl) (by kernel_rfl) (by kernel_rfl)) h
theorem Nju (n : Nat) (h81 : Sound Tryd.prog 81 (Nw n)) (h86 : Sound Tryd.prog 86 (Nt n)) : Sound Tryd.prog 81 (Nw (n + 1)) := by
  refine fn_sound' (C := Naq n) (c := bodyOf Tryd.f81) (cok_of tys_ok (allc Nvh (allc h86 alln)) (allc Tryd.call85 (allc Tryd.call86 alln)) (by kernel_rfl)) Tryd.func81 (by kernel_rfl) LL N8i ?_
  intro avs H r H' h
  unfold Nw at h
  split at h
  · refine Awp.cast ?_ ?_ ?_ (Nll n _ _ _ h) <;> kernel_rfl
  · simp [Ans.no,Ans.run] at h
theorem No9 : Sound Tryd.prog 81 (Nw 0) := by
  intro avs H r H' h
  unfold Nw at h
  split at h
  · simp [N11,N1s,Ans.run] at h
  · simp [Ans.no,Ans.run] at h
theorem Njq (n : Nat) (h81 : Sound Tryd.prog 81 (Nw n)) (h86 : Sound Tryd.prog 86 (Nt n)) : Sound Tryd.prog 86 (Nt (n + 1)) := by
  refine fn_sound' (C := N3d n) (c := bodyOf Tryd.f86) (cok_of tys_ok (allc Nnz (allc h81 alln)) (allc Tryd.call67 (allc Tryd.call81 alln)) (by kernel_rfl)) Tryd.func86 (by kernel_rfl) LL N3j ?_
  intro avs H r H' h
  unfold Nt at h
  split at h
  · refine Awp.cast ?_ ?_ ?_ (Nob n _ _ _ h) <;> kernel_rfl
  · simp [Ans.no,Ans.run] at h
theorem Nor : Sound Tryd.prog 86 (Nt 0) := by
  intro avs H r H' h
  unfold Nt at h
  split at h
  · simp [N19,N1s,Ans.run] at h
  · simp [Ans.no,Ans.run] at h
theorem N88 : ∀ n,Sound Tryd.prog 81 (Nw n) ∧ Sound Tryd.prog 86 (Nt n)
  | 0 => ⟨No9,Nor⟩
  | n + 1 => by
    obtain ⟨h81,h86⟩ := N88 n
    exact ⟨Nju n h81 h86,Njq n h81 h86⟩
def N80 : Fun := fun avs H =>
  match avs,H with
  | [.slc 0,.dat (.list (.int .i64)) a,.dat (.int .i64) b],[some (.seq (.int .i64) c)] => ⟨_,N9u a b c,fun (t : (List Int)) => (.slc 0,[some (sI t)]),[0],none⟩
  | _,_ => Ans.no
theorem Nxo : Sound Tryd.prog 81 N80 := by
  have e : N80 = Nw RR := by
    funext avs H
    unfold N80 Nw
    split <;> first | rfl | (simp only [N9u])
  rw [e]
  exact (N88 RR).1
def Ndx : Fun := fun avs H =>
  match avs,H with
  | [.slc 0,.dat (.list (.int .i64)) a,.dat (.int .u64) b],[some (.seq (.int .i64) c)] => ⟨_,Ngn a b c,fun (t : (List Int)) => (.slc 0,[some (sI t)]),[0],none⟩
  | _,_ => Ans.no
theorem Nxp : Sound Tryd.prog 86 Ndx := by
  have e : Ndx = Nt RR := by
    funext avs H
    unfold Ndx Nt
    split <;> first | rfl | (simp only [Ngn])
  rw [e]
  exact (N88 RR).2

def Ncj : Ann := (.seq (.leaf [0]) (.seq (.seq (.leaf [0,5]) (.cond (.seq (.leaf [2]) (.leaf [2])) (.leaf [0]))) (.seq (.draw [5,100006] [0,1,3,4,5,2,6,7] [] [2]) (.leaf [2]))))
noncomputable def Nb2 : Ctx := ⟨tlook tys,olook [(30,Nv),(55,Nb1),(81,N80)],ioF,0,false,[]⟩
theorem Nte (a : List Int) : Link Nb2 LL (bodyOf Tryd.f72) Ncj ⟨mkE 13 0 [(0,dL a)],[]⟩ (Nc7 a) (fun (t : (List Int)) => (Exit.ret,⟨mkE 13 0 [(2,.slc 0)],[some (sI t)]⟩)) := .of fun K h => by
  simp only [Nc7,wpW] at h
  exact .of (by kernel_rfl) h
theorem Ni3 (a : List Int) {r : AV} {H' : Heap} (h : (Ans.mk _ (N6o a) (fun (t : (List Int)) => (.slc 0,[some (sI t)])) [] none).run = some (r,H')) : Awp Nb2 LL (bodyOf Tryd.f72) Ncj ⟨mkE 13 0 [(0,dL a)],[]⟩ (Ret (tlook tys) Tryd.f72.results.toList r H') :=
  ret_of' (Nte a) (by unfold N6o; kernel_rfl) (by
  intro t
  exact ret_mk [.slc 0] (by kernel_rfl) (by kernel_rfl) (by kernel_rfl) (by kernel_rfl)) h
def N82 : Fun := fun avs H =>
  match avs,H with
  | [.dat (.list (.int .i64)) a],[] => ⟨_,N6o a,fun (t : (List Int)) => (.slc 0,[some (sI t)]),[],none⟩
  | _,_ => Ans.no
theorem Nmx : Sound Tryd.prog 72 N82 := by
  refine fn_sound' (C := Nb2) (c := bodyOf Tryd.f72) (cok_of tys_ok (allc N1y (allc Nrl (allc Nxo alln))) (allc Tryd.call30 (allc Tryd.call55 (allc Tryd.call81 alln))) (by kernel_rfl)) Tryd.func72 (by kernel_rfl) LL Ncj ?_
  intro avs H r H' h
  unfold N82 at h
  split at h
  · refine Awp.cast ?_ ?_ ?_ (Ni3 _ h) <;> kernel_rfl
  · simp [Ans.no,Ans.run] at h

def Nc9 : Ann := (.seq (.leaf [0]) (.seq (.leaf [3]) (.seq (.leaf [2]) (.leaf [2]))))
noncomputable def Na4 : Ctx := ⟨tlook tys,olook [(72,N82),(70,N68)],ioF,0,false,[]⟩
theorem Njn (a : List Int) : Link Na4 LL (bodyOf Tryd.f62) Nc9 ⟨mkE 13 0 [(0,dL a)],[]⟩ (Ndp a) (fun (t : (List Int)) => (Exit.ret,⟨mkE 13 0 [(2,.slc 0)],[some (sI t)]⟩)) := .of fun K h => by
  simp only [Ndp,wpW] at h
  exact .of (by kernel_rfl) h
theorem Nq2 (a : List Int) {r : AV} {H' : Heap} (h : (Ans.mk _ (N5z a) (fun (t : (List Int)) => (.slc 0,[some (sI t)])) [] none).run = some (r,H')) : Awp Na4 LL (bodyOf Tryd.f62) Nc9 ⟨mkE 13 0 [(0,dL a)],[]⟩ (Ret (tlook tys) Tryd.f62.results.toList r H') :=
  ret_of' (Njn a) (by unfold N5z; kernel_rfl) (by
  intro t
  exact ret_mk [.slc 0] (by kernel_rfl) (by kernel_rfl) (by kernel_rfl) (by kernel_rfl)) h
def N9s : Fun := fun avs H =>
  match avs,H with
  | [.dat (.list (.int .i64)) a],[] => ⟨_,N5z a,fun (t : (List Int)) => (.slc 0,[some (sI t)]),[],none⟩
  | _,_ => Ans.no
theorem Npg : Sound Tryd.prog 62 N9s := by
  refine fn_sound' (C := Na4) (c := bodyOf Tryd.f62) (cok_of tys_ok (allc Nmx (allc Neb alln)) (allc Tryd.call72 (allc Tryd.call70 alln)) (by kernel_rfl)) Tryd.func62 (by kernel_rfl) LL Nc9 ?_
  intro avs H r H' h
  unfold N9s at h
  split at h
  · refine Awp.cast ?_ ?_ ?_ (Nq2 _ h) <;> kernel_rfl
  · simp [Ans.no,Ans.run] at h

def Naz : Ann := (.seq (.leaf [0,3]) (.seq (.seq (.leaf [0,3,7]) (.block (.seq (.leaf [0,3,7,8]) (.cond (.seq (.seq (.leaf [0,3,14]) (.cond (.seq (.leaf [4]) (.leaf [4])) (.leaf [0,3]))) (.seq (.leaf [3,5]) (.seq (.leaf [5]) (.seq (.leaf [4]) (.leaf [4]))))) (.seq (.leaf [0,3,7,25]) (.cond (.seq (.draw [1,4] [0,2,3,4,1,5,6] [] [4]) (.leaf [4])) (.seq (.leaf [0,7,33]) (.cond (.seq (.leaf [4]) (.leaf [4])) (.seq (.leaf [0,7,41]) (.cond (.seq (.leaf [4]) (.leaf [4])) (.seq (.leaf [0,45]) (.cond (.seq (.leaf [4]) (.leaf [4])) (.leaf []))))))))))))) (.seq (.leaf [4]) (.leaf [4]))))
noncomputable def Nbs : Ctx := ⟨tlook tys,olook [(60,N99),(42,N8n),(61,N9n),(62,N9s)],ioF,0,false,[]⟩
theorem Nsa (a : List Int) (b c d : Int) : Link Nbs LL (bodyOf Tryd.f43) Naz ⟨mkE 49 0 [(0,dL a),(1,.agg [dI b,dI c,dI d])],[]⟩ (N8d a b c d) (fun (t : (List Int)) => (Exit.ret,⟨mkE 49 0 [(4,.slc 0)],[some (sI t)]⟩)) := .of fun K h => by
  simp only [N8d,wpW] at h
  exact .of (by kernel_rfl) h
theorem Nue (a : List Int) (b c d : Int) {r : AV} {H' : Heap} (h : (Ans.mk _ (N6u a b c d) (fun (t : (List Int)) => (.slc 0,[some (sI t)])) [] none).run = some (r,H')) : Awp Nbs LL (bodyOf Tryd.f43) Naz ⟨mkE 49 0 [(0,dL a),(1,.agg [dI b,dI c,dI d])],[]⟩ (Ret (tlook tys) Tryd.f43.results.toList r H') :=
  ret_of' (Nsa a b c d) (by unfold N6u; kernel_rfl) (by
  intro t
  exact ret_mk [.slc 0] (by kernel_rfl) (by kernel_rfl) (by kernel_rfl) (by kernel_rfl)) h
def Nb9 : Fun := fun avs H =>
  match avs,H with
  | [.dat (.list (.int .i64)) a,.agg [.dat (.int .i64) b,.dat (.int .i64) c,.dat (.int .i64) d]],[] => ⟨_,N6u a b c d,fun (t : (List Int)) => (.slc 0,[some (sI t)]),[],none⟩
  | _,_ => Ans.no
theorem Nn1 : Sound Tryd.prog 43 Nb9 := by
  refine fn_sound' (C := Nbs) (c := bodyOf Tryd.f43) (cok_of tys_ok (allc Nv8 (allc Nh4 (allc Nkc (allc Npg alln)))) (allc Tryd.call60 (allc Tryd.call42 (allc Tryd.call61 (allc Tryd.call62 alln)))) (by kernel_rfl)) Tryd.func43 (by kernel_rfl) LL Naz ?_
  intro avs H r H' h
  unfold Nb9 at h
  split at h
  · refine Awp.cast ?_ ?_ ?_ (Nue _ _ _ _ h) <;> kernel_rfl
  · simp [Ans.no,Ans.run] at h

def N13 : Ann := (.seq (.leaf [0,1]) (.seq (.seq (.leaf [0,1,10]) (.cond (.seq (.leaf [4]) (.leaf [4])) (.leaf [0,1]))) (.seq (.seq (.leaf [0,1,12,13]) (.block (.loop (.seq (.leaf [0,1,12,13,14]) (.seq (.cond (.leaf [0,1,12,13]) (.leaf [])) (.seq (.block (.seq (.leaf [0,1,5,12,13]) (.seq (.draw [] [0,1,2,3,4,5,6,7,8] [] [0,1,12,13,24]) (.cond (.seq (.leaf [4]) (.leaf [4])) (.leaf [0,1,12,13]))))) (.leaf [0,1,12,13]))))))) (.seq (.leaf [4]) (.leaf [4])))))
noncomputable def N3q : Ctx := ⟨tlook tys,olook [],ioF,0,false,[]⟩
theorem Nnf (a b : List Int) : Link N3q LL (Code.seq (cq [0] (bodyOf Tryd.f44)) (cq [0,1] (bodyOf Tryd.f44))) (Ann.seq (aq [0] N13) (aq [0,1] N13)) ⟨mkE 26 0 [(0,dL a),(1,dL b)],[]⟩ (Nan a b) (Sum.elim (fun (t : Unit) => (Exit.normal,⟨mkE 26 0 [(0,dL a),(1,dL b)],[]⟩)) (fun (t : Bool) => (Exit.ret,⟨mkE 26 0 [(4,dB t)],[]⟩))) := .of fun K h => by
  simp only [Nan,wpW] at h
  exact .of (by kernel_rfl) h
theorem Nlw (a b : List Int) : Link N3q LL (cq [0,0,1,1] (bodyOf Tryd.f44)) (aq [0,0,1,1] N13) ⟨mkE 26 0 [(0,dL a),(1,dL b)],[]⟩ (Nbf a) (fun (t : Int) => (Exit.normal,⟨mkE 26 0 [(0,dL a),(1,dL b),(12,dI t),(13,dI 0)],[]⟩)) := .of fun K h => by
  simp only [Nbf,wpW] at h
  exact .of (by kernel_rfl) h
theorem Nn8 (a b : List Int) (c d : Int) : Link N3q LL (cq [0,0,1,0,1,1] (bodyOf Tryd.f44)) (aq [0,0,1,0,1,1] N13) ⟨mkE 26 0 [(0,dL a),(1,dL b),(12,dI c),(13,dI d)],[]⟩ (N93 a b c d) (Sum.elim (fun (t : Int) => (Exit.normal,⟨mkE 26 0 [(0,dL a),(1,dL b),(12,dI c),(13,dI t)],[]⟩)) (Sum.elim (fun (t : Bool) => (Exit.ret,⟨mkE 26 0 [(4,dB t)],[]⟩)) (fun (t : Unit) => ((Exit.exit 0),⟨mkE 26 0 [],[]⟩)))) := .of fun K h => by
  simp only [N93,wpW] at h
  exact .of (by kernel_rfl) h
theorem Nkr : Link N3q LL (cq [1,1,1] (bodyOf Tryd.f44)) (aq [1,1,1] N13) ⟨mkE 26 0 [],[]⟩ (Na6) (fun (t : Bool) => (Exit.ret,⟨mkE 26 0 [(4,dB t)],[]⟩)) := .of fun K h => by
  simp only [Na6,wpW] at h
  exact .of (by kernel_rfl) h
theorem Nvr (b d : List Int) {r : AV} {H' : Heap} (h : (Ans.mk _ (N70 b d) (fun (t : Bool) => (dB t,[])) [] none).run = some (r,H')) : Awp N3q LL (bodyOf Tryd.f44) N13 ⟨mkE 26 0 [(0,dL b),(1,dL d)],[]⟩ (Ret (tlook tys) Tryd.f44.results.toList r H') :=
  ret_of' (Link.cast (by kernel_rfl) (by kernel_rfl) (link_group (c := (cq [0,1] (bodyOf Tryd.f44))) (a := (aq [0,1] N13)) [(cq [0] (bodyOf Tryd.f44))] [(aq [0] N13)] rfl (link_seq2 (Nnf b d) (fun (t : Unit) => (link_seq2 (link_seq (Nlw b d) (fun (t : Int) => (link_block (fin2 := (Sum.elim (fun (t6 : Unit) => (Exit.normal,⟨mkE 26 0 [],[]⟩)) (fun (t6 : Bool) => (Exit.ret,⟨mkE 26 0 [(4,dB t6)],[]⟩)))) (id := 0) (link_loop (mk := fun (s : Int) => ⟨mkE 26 0 [(0,dL b),(1,dL d),(12,dI t),(13,dI s)],[]⟩) (fin := (Sum.elim (fun (t6 : Bool) => (Exit.ret,⟨mkE 26 0 [(4,dB t6)],[]⟩)) (fun (t6 : Unit) => ((Exit.exit 0),⟨mkE 26 0 [],[]⟩)))) (by
  rintro (t6 | t6) f K h
  · exact h
  · exact h) (fun s => link_map (Nn8 b d t s) (Sum.elim (fun (t6 : Int) => Sum.inl t6) (Sum.elim (fun (t6 : Bool) => Sum.inr (Sum.inl t6)) (fun (t6 : Unit) => Sum.inr (Sum.inr t6)))) (by
  rintro (t6 | t6 | t6)
  · kernel_rfl
  · kernel_rfl
  · kernel_rfl)) 0) (Sum.elim (fun (t6 : Bool) => (Sum.inr t6)) (fun (t6 : Unit) => (Sum.inl ()))) (by
  rintro (t6 | t6) K h
  · exact Eq.mp (by kernel_rfl) h
  · exact Eq.mp (by kernel_rfl) h)))) (fun (t : Unit) => (Nkr)) (fun (t : Bool) => t) (by
  rintro t
  · kernel_rfl) (by
  rintro t f K h
  · exact h))) (fun (t : Bool) => t) (by
  rintro t
  · kernel_rfl) (by
  rintro t f K h
  · exact h)))) (by unfold N70; kernel_rfl) (by
  intro t
  exact ret_mk [dB t] (by kernel_rfl) (by kernel_rfl) (by kernel_rfl) (by kernel_rfl)) h
def Na2 : Fun := fun avs H =>
  match avs,H with
  | [.dat (.list (.int .i64)) a,.dat (.list (.int .i64)) b],[] => ⟨_,N70 a b,fun (t : Bool) => (dB t,[]),[],none⟩
  | _,_ => Ans.no
theorem Nst : Sound Tryd.prog 44 Na2 := by
  refine fn_sound' (C := N3q) (c := bodyOf Tryd.f44) (cok_of tys_ok (alln) (alln) (by kernel_rfl)) Tryd.func44 (by kernel_rfl) LL N13 ?_
  intro avs H r H' h
  unfold Na2 at h
  split at h
  · refine Awp.cast ?_ ?_ ?_ (Nvr _ _ h) <;> kernel_rfl
  · simp [Ans.no,Ans.run] at h

def ren_slices_Clone_ints_int : Go.Shelf.Ren := ⟨fun | 41 => 45 | n => n,fun | 4 => 4 | 22 => 24 | 23 => 23 | n => n,fun n => n⟩
theorem lay_slices_Clone_ints_int : SlLaysE0.n41 Tryd.prog ren_slices_Clone_ints_int := {
  mixed := by kernel_rfl
  f41 := ⟨Tryd.f45.name,by kernel_rfl,Tryd.func45.trans (congrArg some (by kernel_rfl))⟩
  t4 := Tryd.underlying4
  a4 := Tryd.isAgg4
  z4 := Tryd.sizeOf4
  v4 := Tryd.zeroValue4
  t22 := Tryd.underlying24
  a22 := Tryd.isAgg24
  z22 := Tryd.sizeOf24
  v22 := Tryd.zeroValue24 }
def Nft : Fun := F_cloneD
theorem Nkv : Sound Tryd.prog 45 Nft := cloneD_sound lay_slices_Clone_ints_int (infoOf (Tryd.prog.info? 23)) (.slice none 0 0) 24 (by kernel_rfl) (by kernel_rfl) (by kernel_rfl) (by kernel_rfl) (by kernel_rfl) (by decide) Tryd.sizeOf23

def N96 : Ann := (.seq (.leaf [2,3,4]) (.seq (.leaf [2,4,6]) (.seq (.seq (.leaf [2,4,6,20]) (.cond (.seq (.leaf [4,5]) (.leaf [4,5])) (.leaf [2,4,6]))) (.seq (.draw [2,5] [0,1,3,4,5,2,6,7] [] [4,6,7]) (.seq (.leaf [4,5]) (.leaf [4,5]))))))
noncomputable def Naj : Ctx := ⟨tlook tys,olook [(43,Nb9),(30,Nv),(22,N2l),(44,Na2),(45,Nft)],ioF,0,true,[]⟩
theorem Nku (a : List Int) (b : List (List Int)) (c d g : Int) : Link Naj LL (bodyOf Tryd.f24) N96 ⟨mkE 41 0 [(0,.agg [dL a,.dat (.list (.list (.int .i64))) b]),(1,.agg [dI c,dI d,dI g])],[]⟩ (Ndw a b c d g) (fun (t : Bool × (List Int) × (List (List Int))) => (Exit.ret,⟨mkE 41 0 [(4,.ptr 0 0),(5,dB t.1)],[some (.box [.slc 1,.slc 2]),some (sI t.2.1),some (.nest (.int .i64) t.2.2 0 [])]⟩)) := .of fun K h => by
  simp only [Ndw,wpW] at h
  exact .of (by kernel_rfl) h
theorem Nj2 (a : List Int) (b : List (List Int)) (c d g : Int) {r : AV} {H' : Heap} (h : (Ans.mk _ (N65 a b c d g) (fun (t : Bool × (List Int) × (List (List Int))) => (.tup [.agg [.slc 1,.slc 2],dB t.1],[some (.box [.slc 1,.slc 2]),some (sI t.2.1),some (.nest (.int .i64) t.2.2 0 [])])) [] none).run = some (r,H')) : Awp Naj LL (bodyOf Tryd.f24) N96 ⟨mkE 41 0 [(0,.agg [dL a,.dat (.list (.list (.int .i64))) b]),(1,.agg [dI c,dI d,dI g])],[]⟩ (Ret (tlook tys) Tryd.f24.results.toList r H') :=
  ret_of' (Nku a b c d g) (by unfold N65; kernel_rfl) (by
  intro t
  exact ret_mk [.agg [.slc 1,.slc 2],dB t.1] (by kernel_rfl) (by kernel_rfl) (by kernel_rfl) (by kernel_rfl)) h
def Nam : Fun := fun avs H =>
  match avs,H with
  | [.agg [.dat (.list (.int .i64)) a,.dat (.list (.list (.int .i64))) b],.agg [.dat (.int .i64) c,.dat (.int .i64) d,.dat (.int .i64) g]],[] => ⟨_,N65 a b c d g,fun (t : Bool × (List Int) × (List (List Int))) => (.tup [.agg [.slc 1,.slc 2],dB t.1],[some (.box [.slc 1,.slc 2]),some (sI t.2.1),some (.nest (.int .i64) t.2.2 0 [])]),[],none⟩
  | _,_ => Ans.no
theorem Nqk : Sound Tryd.prog 24 Nam := by
  refine fn_sound' (C := Naj) (c := bodyOf Tryd.f24) (cok_of tys_ok (allc Nn1 (allc N1y (allc N4t (allc Nst (allc Nkv alln))))) (allc Tryd.call43 (allc Tryd.call30 (allc Tryd.call22 (allc Tryd.call44 (allc Tryd.call45 alln))))) (by kernel_rfl)) Tryd.func24 (by kernel_rfl) LL N96 ?_
  intro avs H r H' h
  unfold Nam at h
  split at h
  · refine Awp.cast ?_ ?_ ?_ (Nj2 _ _ _ _ _ h) <;> kernel_rfl
  · simp [Ans.no,Ans.run] at h

def Ndj : Ann := (.seq (.leaf [2,3,4]) (.seq (.seq (.leaf [2,3,4,8]) (.cond (.seq (.leaf [4,5]) (.leafF [⟨0,4,false,some 0,some (.int .i64)⟩,⟨0,4,true,some 1,some (.int .i64)⟩] [4,5])) (.leaf [2,3,4]))) (.seq (.seq (.leaf [2,3,4,12]) (.cond (.seq (.leaf [4,5]) (.leaf [4,5])) (.leaf [2,3,4]))) (.seq (.seq (.leaf [2,3,4,20]) (.cond (.seq (.leaf [4,5]) (.leaf [4,5])) (.leaf [2,3,4]))) (.seq (.leaf [4,5]) (.leaf [4,5]))))))
noncomputable def N8x : Ctx := ⟨tlook tys,olook [(9,N4l),(21,Nah),(22,N2l),(23,N9i),(24,Nam)],ioF,0,true,[]⟩
theorem Nqy (a : List Int) (b : List (List Int)) (c d g : Int) : Link N8x LL (bodyOf Tryd.f6) Ndj ⟨mkE 30 0 [(0,.agg [dL a,.dat (.list (.list (.int .i64))) b]),(1,.agg [dI c,dI d,dI g])],[]⟩ (Nac a b c d g) (fun (t : Bool × (List Int) × (List (List Int))) => (Exit.ret,⟨mkE 30 0 [(4,.ptr 0 0),(5,dB t.1)],[some (.box [.slc 1,.slc 2]),some (sI t.2.1),some (.nest (.int .i64) t.2.2 0 [])]⟩)) := .of fun K h => by
  simp only [Nac,wpW] at h
  exact .of (by kernel_rfl) h
theorem Npj (a : List Int) (b : List (List Int)) (c d g : Int) {r : AV} {H' : Heap} (h : (Ans.mk _ (N63 a b c d g) (fun (t : Bool × (List Int) × (List (List Int))) => (.tup [.agg [.slc 1,.slc 2],dB t.1],[some (.box [.slc 1,.slc 2]),some (sI t.2.1),some (.nest (.int .i64) t.2.2 0 [])])) [] none).run = some (r,H')) : Awp N8x LL (bodyOf Tryd.f6) Ndj ⟨mkE 30 0 [(0,.agg [dL a,.dat (.list (.list (.int .i64))) b]),(1,.agg [dI c,dI d,dI g])],[]⟩ (Ret (tlook tys) Tryd.f6.results.toList r H') :=
  ret_of' (Nqy a b c d g) (by unfold N63; kernel_rfl) (by
  intro t
  exact ret_mk [.agg [.slc 1,.slc 2],dB t.1] (by kernel_rfl) (by kernel_rfl) (by kernel_rfl) (by kernel_rfl)) h
def Ndh : Fun := fun avs H =>
  match avs,H with
  | [.agg [.dat (.list (.int .i64)) a,.dat (.list (.list (.int .i64))) b],.agg [.dat (.int .i64) c,.dat (.int .i64) d,.dat (.int .i64) g]],[] => ⟨_,N63 a b c d g,fun (t : Bool × (List Int) × (List (List Int))) => (.tup [.agg [.slc 1,.slc 2],dB t.1],[some (.box [.slc 1,.slc 2]),some (sI t.2.1),some (.nest (.int .i64) t.2.2 0 [])]),[],none⟩
  | _,_ => Ans.no
theorem Nq6 : Sound Tryd.prog 6 Ndh := by
  refine fn_sound' (C := N8x) (c := bodyOf Tryd.f6) (cok_of tys_ok (allc Nd8 (allc Nwq (allc N4t (allc Np5 (allc Nqk alln))))) (allc Tryd.call9 (allc Tryd.call21 (allc Tryd.call22 (allc Tryd.call23 (allc Tryd.call24 alln))))) (by kernel_rfl)) Tryd.func6 (by kernel_rfl) LL Ndj ?_
  intro avs H r H' h
  unfold Ndh at h
  split at h
  · refine Awp.cast ?_ ?_ ?_ (Npj _ _ _ _ _ h) <;> kernel_rfl
  · simp [Ans.no,Ans.run] at h

def N1j : Ann := (.seq (.leaf [0,1]) (.seq (.seq (.leaf [0,1,10]) (.cond (.seq (.leaf [4]) (.leaf [4])) (.leaf [0,1]))) (.seq (.seq (.leaf [0,1,5]) (.block (.loop (.seq (.seq (.leaf [0,1,5,14]) (.cond (.leaf [0,1,5]) (.leaf []))) (.seq (.block (.seq (.draw [] [0,1,2,3,4,5,6,7,8] [] [0,1,5,25]) (.cond (.seq (.leaf [4]) (.leaf [4])) (.leaf [0,1,5])))) (.leaf [0,1,5])))))) (.seq (.leaf [4]) (.leaf [4])))))
noncomputable def N3f : Ctx := ⟨tlook tys,olook [],ioF,0,false,[]⟩
theorem Nsc (a b : List Int) : Link N3f LL (Code.seq (cq [0] (bodyOf Tryd.f28)) (cq [0,1] (bodyOf Tryd.f28))) (Ann.seq (aq [0] N1j) (aq [0,1] N1j)) ⟨mkE 26 0 [(0,dL a),(1,dL b)],[]⟩ (N7d a b) (Sum.elim (fun (t : Unit) => (Exit.normal,⟨mkE 26 0 [(0,dL a),(1,dL b)],[]⟩)) (fun (t : Bool) => (Exit.ret,⟨mkE 26 0 [(4,dB t)],[]⟩))) := .of fun K h => by
  simp only [N7d,wpW] at h
  exact .of (by kernel_rfl) h
theorem Nq0 (a b : List Int) : Link N3f LL (cq [0,0,1,1] (bodyOf Tryd.f28)) (aq [0,0,1,1] N1j) ⟨mkE 26 0 [(0,dL a),(1,dL b)],[]⟩ (N7a) (fun (t : Unit) => (Exit.normal,⟨mkE 26 0 [(0,dL a),(1,dL b),(5,dI 0)],[]⟩)) := .of fun K h => by
  simp only [N7a,wpW] at h
  exact .of (by kernel_rfl) h
theorem Nmy (a b : List Int) (c : Int) : Link N3f LL (cq [0,0,1,0,1,1] (bodyOf Tryd.f28)) (aq [0,0,1,0,1,1] N1j) ⟨mkE 26 0 [(0,dL a),(1,dL b),(5,dI c)],[]⟩ (N2z a b c) (Sum.elim (fun (t : Int) => (Exit.normal,⟨mkE 26 0 [(0,dL a),(1,dL b),(5,dI t)],[]⟩)) (Sum.elim (fun (t : Bool) => (Exit.ret,⟨mkE 26 0 [(4,dB t)],[]⟩)) (fun (t : Unit) => ((Exit.exit 0),⟨mkE 26 0 [],[]⟩)))) := .of fun K h => by
  simp only [N2z,wpW] at h
  exact .of (by kernel_rfl) h
theorem Njf : Link N3f LL (cq [1,1,1] (bodyOf Tryd.f28)) (aq [1,1,1] N1j) ⟨mkE 26 0 [],[]⟩ (N5g) (fun (t : Bool) => (Exit.ret,⟨mkE 26 0 [(4,dB t)],[]⟩)) := .of fun K h => by
  simp only [N5g,wpW] at h
  exact .of (by kernel_rfl) h
theorem No0 (b d : List Int) {r : AV} {H' : Heap} (h : (Ans.mk _ (N1a b d) (fun (t : Bool) => (dB t,[])) [] none).run = some (r,H')) : Awp N3f LL (bodyOf Tryd.f28) N1j ⟨mkE 26 0 [(0,dL b),(1,dL d)],[]⟩ (Ret (tlook tys) Tryd.f28.results.toList r H') :=
  ret_of' (Link.cast (by kernel_rfl) (by kernel_rfl) (link_group (c := (cq [0,1] (bodyOf Tryd.f28))) (a := (aq [0,1] N1j)) [(cq [0] (bodyOf Tryd.f28))] [(aq [0] N1j)] rfl (link_seq2 (Nsc b d) (fun (t : Unit) => (link_seq2 (link_seq (Nq0 b d) (fun (t : Unit) => (link_block (fin2 := (Sum.elim (fun (t : Unit) => (Exit.normal,⟨mkE 26 0 [],[]⟩)) (fun (t : Bool) => (Exit.ret,⟨mkE 26 0 [(4,dB t)],[]⟩)))) (id := 0) (link_loop (mk := fun (s : Int) => ⟨mkE 26 0 [(0,dL b),(1,dL d),(5,dI s)],[]⟩) (fin := (Sum.elim (fun (t : Bool) => (Exit.ret,⟨mkE 26 0 [(4,dB t)],[]⟩)) (fun (t : Unit) => ((Exit.exit 0),⟨mkE 26 0 [],[]⟩)))) (by
  rintro (t | t) f K h
  · exact h
  · exact h) (fun s => link_map (Nmy b d s) (Sum.elim (fun (t : Int) => Sum.inl t) (Sum.elim (fun (t : Bool) => Sum.inr (Sum.inl t)) (fun (t : Unit) => Sum.inr (Sum.inr t)))) (by
  rintro (t | t | t)
  · kernel_rfl
  · kernel_rfl
  · kernel_rfl)) 0) (Sum.elim (fun (t : Bool) => (Sum.inr t)) (fun (t : Unit) => (Sum.inl ()))) (by
  rintro (t | t) K h
  · exact Eq.mp (by kernel_rfl) h
  · exact Eq.mp (by kernel_rfl) h)))) (fun (t : Unit) => (Njf)) (fun (t : Bool) => t) (by
  rintro t
  · kernel_rfl) (by
  rintro t f K h
  · exact h))) (fun (t : Bool) => t) (by
  rintro t
  · kernel_rfl) (by
  rintro t f K h
  · exact h)))) (by unfold N1a; kernel_rfl) (by
  intro t
  exact ret_mk [dB t] (by kernel_rfl) (by kernel_rfl) (by kernel_rfl) (by kernel_rfl)) h
def N3v : Fun := fun avs H =>
  match avs,H with
  | [.dat (.list (.int .i64)) a,.dat (.list (.int .i64)) b],[] => ⟨_,N1a a b,fun (t : Bool) => (dB t,[]),[],none⟩
  | _,_ => Ans.no
theorem Nea : Sound Tryd.prog 28 N3v := by
  refine fn_sound' (C := N3f) (c := bodyOf Tryd.f28) (cok_of tys_ok (alln) (alln) (by kernel_rfl)) Tryd.func28 (by kernel_rfl) LL N1j ?_
  intro avs H r H' h
  unfold N3v at h
  split at h
  · refine Awp.cast ?_ ?_ ?_ (No0 _ _ h) <;> kernel_rfl
  · simp [Ans.no,Ans.run] at h

def N1p : Ann := (.seq (.leaf [0,1]) (.seq (.seq (.leaf [0,1,10]) (.cond (.seq (.leaf [4]) (.leaf [4])) (.leaf [0,1]))) (.seq (.seq (.leaf [0,1,5]) (.block (.loop (.seq (.seq (.leaf [0,1,5,14]) (.cond (.leaf [0,1,5]) (.leaf []))) (.seq (.block (.seq (.draw [8] [0,1,2,3,4,5,6,7,8,9] [] [0,1,5,26]) (.cond (.seq (.leaf [4]) (.leaf [4])) (.leaf [0,1,5])))) (.leaf [0,1,5])))))) (.seq (.leaf [4]) (.leaf [4])))))
noncomputable def N30 : Ctx := ⟨tlook tys,olook [(28,N3v)],ioF,0,false,[]⟩
theorem Nrr (a b : List (List Int)) : Link N30 LL (Code.seq (cq [0] (bodyOf Tryd.f29)) (cq [0,1] (bodyOf Tryd.f29))) (Ann.seq (aq [0] N1p) (aq [0,1] N1p)) ⟨mkE 27 0 [(0,.dat (.list (.list (.int .i64))) a),(1,.dat (.list (.list (.int .i64))) b)],[]⟩ (N7u a b) (Sum.elim (fun (t : Unit) => (Exit.normal,⟨mkE 27 0 [(0,.dat (.list (.list (.int .i64))) a),(1,.dat (.list (.list (.int .i64))) b)],[]⟩)) (fun (t : Bool) => (Exit.ret,⟨mkE 27 0 [(4,dB t)],[]⟩))) := .of fun K h => by
  simp only [N7u,wpW] at h
  exact .of (by kernel_rfl) h
theorem Npa (a b : List (List Int)) : Link N30 LL (cq [0,0,1,1] (bodyOf Tryd.f29)) (aq [0,0,1,1] N1p) ⟨mkE 27 0 [(0,.dat (.list (.list (.int .i64))) a),(1,.dat (.list (.list (.int .i64))) b)],[]⟩ (N7y) (fun (t : Unit) => (Exit.normal,⟨mkE 27 0 [(0,.dat (.list (.list (.int .i64))) a),(1,.dat (.list (.list (.int .i64))) b),(5,dI 0)],[]⟩)) := .of fun K h => by
  simp only [N7y,wpW] at h
  exact .of (by kernel_rfl) h
theorem Njv (a b : List (List Int)) (c : Int) : Link N30 LL (cq [0,0,1,0,1,1] (bodyOf Tryd.f29)) (aq [0,0,1,0,1,1] N1p) ⟨mkE 27 0 [(0,.dat (.list (.list (.int .i64))) a),(1,.dat (.list (.list (.int .i64))) b),(5,dI c)],[]⟩ (N33 a b c) (Sum.elim (fun (t : Int) => (Exit.normal,⟨mkE 27 0 [(0,.dat (.list (.list (.int .i64))) a),(1,.dat (.list (.list (.int .i64))) b),(5,dI t)],[]⟩)) (Sum.elim (fun (t : Bool) => (Exit.ret,⟨mkE 27 0 [(4,dB t)],[]⟩)) (fun (t : Unit) => ((Exit.exit 0),⟨mkE 27 0 [],[]⟩)))) := .of fun K h => by
  simp only [N33,wpW] at h
  exact .of (by kernel_rfl) h
theorem Nth : Link N30 LL (cq [1,1,1] (bodyOf Tryd.f29)) (aq [1,1,1] N1p) ⟨mkE 27 0 [],[]⟩ (N4s) (fun (t : Bool) => (Exit.ret,⟨mkE 27 0 [(4,dB t)],[]⟩)) := .of fun K h => by
  simp only [N4s,wpW] at h
  exact .of (by kernel_rfl) h
theorem Nlm (b d : List (List Int)) {r : AV} {H' : Heap} (h : (Ans.mk _ (N1w b d) (fun (t : Bool) => (dB t,[])) [] none).run = some (r,H')) : Awp N30 LL (bodyOf Tryd.f29) N1p ⟨mkE 27 0 [(0,.dat (.list (.list (.int .i64))) b),(1,.dat (.list (.list (.int .i64))) d)],[]⟩ (Ret (tlook tys) Tryd.f29.results.toList r H') :=
  ret_of' (Link.cast (by kernel_rfl) (by kernel_rfl) (link_group (c := (cq [0,1] (bodyOf Tryd.f29))) (a := (aq [0,1] N1p)) [(cq [0] (bodyOf Tryd.f29))] [(aq [0] N1p)] rfl (link_seq2 (Nrr b d) (fun (t : Unit) => (link_seq2 (link_seq (Npa b d) (fun (t : Unit) => (link_block (fin2 := (Sum.elim (fun (t : Unit) => (Exit.normal,⟨mkE 27 0 [],[]⟩)) (fun (t : Bool) => (Exit.ret,⟨mkE 27 0 [(4,dB t)],[]⟩)))) (id := 0) (link_loop (mk := fun (s : Int) => ⟨mkE 27 0 [(0,.dat (.list (.list (.int .i64))) b),(1,.dat (.list (.list (.int .i64))) d),(5,dI s)],[]⟩) (fin := (Sum.elim (fun (t : Bool) => (Exit.ret,⟨mkE 27 0 [(4,dB t)],[]⟩)) (fun (t : Unit) => ((Exit.exit 0),⟨mkE 27 0 [],[]⟩)))) (by
  rintro (t | t) f K h
  · exact h
  · exact h) (fun s => link_map (Njv b d s) (Sum.elim (fun (t : Int) => Sum.inl t) (Sum.elim (fun (t : Bool) => Sum.inr (Sum.inl t)) (fun (t : Unit) => Sum.inr (Sum.inr t)))) (by
  rintro (t | t | t)
  · kernel_rfl
  · kernel_rfl
  · kernel_rfl)) 0) (Sum.elim (fun (t : Bool) => (Sum.inr t)) (fun (t : Unit) => (Sum.inl ()))) (by
  rintro (t | t) K h
  · exact Eq.mp (by kernel_rfl) h
  · exact Eq.mp (by kernel_rfl) h)))) (fun (t : Unit) => (Nth)) (fun (t : Bool) => t) (by
  rintro t
  · kernel_rfl) (by
  rintro t f K h
  · exact h))) (fun (t : Bool) => t) (by
  rintro t
  · kernel_rfl) (by
  rintro t f K h
  · exact h)))) (by unfold N1w; kernel_rfl) (by
  intro t
  exact ret_mk [dB t] (by kernel_rfl) (by kernel_rfl) (by kernel_rfl) (by kernel_rfl)) h
def N62 : Fun := fun avs H =>
  match avs,H with
  | [.dat (.list (.list (.int .i64))) a,.dat (.list (.list (.int .i64))) b],[] => ⟨_,N1w a b,fun (t : Bool) => (dB t,[]),[],none⟩
  | _,_ => Ans.no
theorem Nir : Sound Tryd.prog 29 N62 := by
  refine fn_sound' (C := N30) (c := bodyOf Tryd.f29) (cok_of tys_ok (allc Nea alln) (allc Tryd.call28 alln) (by kernel_rfl)) Tryd.func29 (by kernel_rfl) LL N1p ?_
  intro avs H r H' h
  unfold N62 at h
  split at h
  · refine Awp.cast ?_ ?_ ?_ (Nlm _ _ h) <;> kernel_rfl
  · simp [Ans.no,Ans.run] at h

def Nai : Ann := (.seq (.leaf [2,3]) (.seq (.leaf [4]) (.leaf [4])))
noncomputable def N8z : Ctx := ⟨tlook tys,olook [(28,N3v),(29,N62)],ioF,0,false,[]⟩
theorem Nmb (a : List Int) (b : List (List Int)) (c : List Int) (d : List (List Int)) : Link N8z LL (bodyOf Tryd.f8) Nai ⟨mkE 17 0 [(0,.agg [dL a,.dat (.list (.list (.int .i64))) b]),(1,.agg [dL c,.dat (.list (.list (.int .i64))) d])],[]⟩ (N61 a b c d) (fun (t : Bool) => (Exit.ret,⟨mkE 17 0 [(4,dB t)],[]⟩)) := .of fun K h => by
  simp only [N61,wpW] at h
  exact .of (by kernel_rfl) h
theorem Nic (a : List Int) (b : List (List Int)) (c : List Int) (d : List (List Int)) {r : AV} {H' : Heap} (h : (Ans.mk _ (N2b a b c d) (fun (t : Bool) => (dB t,[])) [] none).run = some (r,H')) : Awp N8z LL (bodyOf Tryd.f8) Nai ⟨mkE 17 0 [(0,.agg [dL a,.dat (.list (.list (.int .i64))) b]),(1,.agg [dL c,.dat (.list (.list (.int .i64))) d])],[]⟩ (Ret (tlook tys) Tryd.f8.results.toList r H') :=
  ret_of' (Nmb a b c d) (by unfold N2b; kernel_rfl) (by
  intro t
  exact ret_mk [dB t] (by kernel_rfl) (by kernel_rfl) (by kernel_rfl) (by kernel_rfl)) h
def Neq : Ann := (.seq (.leaf [2,3]) (.seq (.leaf [4]) (.leaf [4])))
noncomputable def Neo : Ctx := ⟨tlook tys,olook [(28,N3v),(29,N62)],ioF,0,false,[]⟩
theorem Nvt (a : List Int) (b : List (List Int)) : Link Neo LL (bodyOf Tryd.f8) Neq ⟨mkE 17 0 [(0,.agg [dL a,.dat (.list (.list (.int .i64))) b]),(1,.agg [.nils,.nils])],[]⟩ (N5q a b) (fun (t : Bool) => (Exit.ret,⟨mkE 17 0 [(4,dB t)],[]⟩)) := .of fun K h => by
  simp only [N5q,wpW] at h
  exact .of (by kernel_rfl) h
theorem Nq3 (a : List Int) (b : List (List Int)) {r : AV} {H' : Heap} (h : (Ans.mk _ (N4k a b) (fun (t : Bool) => (dB t,[])) [] none).run = some (r,H')) : Awp Neo LL (bodyOf Tryd.f8) Neq ⟨mkE 17 0 [(0,.agg [dL a,.dat (.list (.list (.int .i64))) b]),(1,.agg [.nils,.nils])],[]⟩ (Ret (tlook tys) Tryd.f8.results.toList r H') :=
  ret_of' (Nvt a b) (by unfold N4k; kernel_rfl) (by
  intro t
  exact ret_mk [dB t] (by kernel_rfl) (by kernel_rfl) (by kernel_rfl) (by kernel_rfl)) h
def N5a : Fun := fun avs H =>
  match avs,H with
  | [.agg [.dat (.list (.int .i64)) a,.dat (.list (.list (.int .i64))) b],.agg [.dat (.list (.int .i64)) c,.dat (.list (.list (.int .i64))) d]],[] => ⟨_,N2b a b c d,fun (t : Bool) => (dB t,[]),[],none⟩
  | [.agg [.dat (.list (.int .i64)) g,.dat (.list (.list (.int .i64))) i],.agg [.nils,.nils]],[] => ⟨_,N4k g i,fun (t : Bool) => (dB t,[]),[],none⟩
  | _,_ => Ans.no
theorem Nfq : Sound Tryd.prog 8 N5a := by
  refine fn_sound' (C := N8z) (c := bodyOf Tryd.f8) (cok_of tys_ok (allc Nea (allc Nir alln)) (allc Tryd.call28 (allc Tryd.call29 alln)) (by kernel_rfl)) Tryd.func8 (by kernel_rfl) LL Nai ?_
  intro avs H r H' h
  unfold N5a at h
  split at h
  · refine Awp.cast ?_ ?_ ?_ (Nic _ _ _ _ h) <;> kernel_rfl
  · refine Awp.cast ?_ ?_ ?_ (Nq3 _ _ h) <;> kernel_rfl
  · simp [Ans.no,Ans.run] at h

def Nck : Ann := (.seq (.leaf []) (.seq (.leaf [0]) (.leaf [0])))
noncomputable def Ncd : Ctx := ⟨tlook tys,olook [(30,Nv)],ioF,0,false,[]⟩
theorem Nvg : Link Ncd LL (bodyOf Tryd.f10) Nck ⟨mkE 8 0 [],[]⟩ (N5v) (fun (t : Bool) => (Exit.ret,⟨mkE 8 0 [(0,dB t)],[]⟩)) := .of fun K h => by
  simp only [N5v,wpW] at h
  exact .of (by kernel_rfl) h
theorem Nwf {r : AV} {H' : Heap} (h : (Ans.mk _ (N1z) (fun (t : Bool) => (dB t,[])) [] none).run = some (r,H')) : Awp Ncd LL (bodyOf Tryd.f10) Nck ⟨mkE 8 0 [],[]⟩ (Ret (tlook tys) Tryd.f10.results.toList r H') :=
  ret_of' (Nvg) (by unfold N1z; kernel_rfl) (by
  intro t
  exact ret_mk [dB t] (by kernel_rfl) (by kernel_rfl) (by kernel_rfl) (by kernel_rfl)) h
def Ndm : Fun := fun avs H =>
  match avs,H with
  | [],[] => ⟨_,N1z,fun (t : Bool) => (dB t,[]),[],none⟩
  | _,_ => Ans.no
theorem Nkh : Sound Tryd.prog 10 Ndm := by
  refine fn_sound' (C := Ncd) (c := bodyOf Tryd.f10) (cok_of tys_ok (allc N1y alln) (allc Tryd.call30 alln) (by kernel_rfl)) Tryd.func10 (by kernel_rfl) LL Nck ?_
  intro avs H r H' h
  unfold Ndm at h
  split at h
  · refine Awp.cast ?_ ?_ ?_ (Nwf h) <;> kernel_rfl
  · simp [Ans.no,Ans.run] at h

def N1n : Ann := (.seq (.leaf [0,1]) (.seq (.leaf [0,1,5]) (.seq (.seq (.leaf [0,1,5,6]) (.block (.loop (.seq (.seq (.leaf [0,1,5,6,11]) (.cond (.leaf [0,1,5,6]) (.leaf [5]))) (.seq (.block (.leaf [0,1,5,6])) (.leaf [0,1,5,6])))))) (.seq (.leaf [4]) (.leaf [4])))))
noncomputable def N2v : Ctx := ⟨tlook tys,olook [(40,Nm),(20,N5f)],ioF,1,false,[]⟩
theorem Npf (a b : List Int) (c : Int) : Link N2v LL (Code.seq (cq [0] (bodyOf Tryd.f37)) (cq [0,1] (bodyOf Tryd.f37))) (Ann.seq (aq [0] N1n) (aq [0,1] N1n)) ⟨mkE 21 0 [(0,.ptr 0 0),(1,dL a)],[some (.box [dV b,dI c])]⟩ (N7q) (fun (t : Unit) => (Exit.normal,⟨mkE 21 0 [(0,.ptr 0 0),(1,dL a),(5,.slc 1)],[some (.box [dV b,dI c]),some (.seq (.pair (.int .i64) (.pair (.int .i64) (.pair (.int .i64) .unit))) ([] : List (Int × Int × Int × Unit)))]⟩)) := .of fun K h => by
  simp only [N7q,wpW] at h
  exact .of (by kernel_rfl) h
theorem Nnr (a b : List Int) (c : Int) : Link N2v LL (cq [0,0,1,1] (bodyOf Tryd.f37)) (aq [0,0,1,1] N1n) ⟨mkE 21 0 [(0,.ptr 0 0),(1,dL a),(5,.slc 1)],[some (.box [dV b,dI c]),some (.seq (.pair (.int .i64) (.pair (.int .i64) (.pair (.int .i64) .unit))) ([] : List (Int × Int × Int × Unit)))]⟩ (N4v b c) (fun (t : Int × Int) => (Exit.normal,⟨mkE 21 0 [(0,.ptr 0 0),(1,dL a),(5,.slc 1),(6,dI t.1)],[some (.box [dV b,dI t.2]),some (.seq (.pair (.int .i64) (.pair (.int .i64) (.pair (.int .i64) .unit))) ([] : List (Int × Int × Int × Unit)))]⟩)) := .of fun K h => by
  simp only [N4v,wpW] at h
  exact .of (by kernel_rfl) h
theorem Nvs (a : List Int) (b : Int) (c : List Int) (d : Int) (g : List (Int × Int × Int × Unit)) : Link N2v LL (cq [0,0,1,0,1,1] (bodyOf Tryd.f37)) (aq [0,0,1,0,1,1] N1n) ⟨mkE 21 0 [(0,.ptr 0 0),(1,dL a),(5,.slc 1),(6,dI b)],[some (.box [dV c,dI d]),some (.seq (.pair (.int .i64) (.pair (.int .i64) (.pair (.int .i64) .unit))) g)]⟩ (N46 a b c d g) (Sum.elim (fun (t : Int × Int × (List (Int × Int × Int × Unit))) => (Exit.normal,⟨mkE 21 0 [(0,.ptr 0 0),(1,dL a),(5,.slc 1),(6,dI t.1)],[some (.box [dV c,dI t.2.1]),some (.seq (.pair (.int .i64) (.pair (.int .i64) (.pair (.int .i64) .unit))) t.2.2)]⟩)) (fun (t : Int × (List (Int × Int × Int × Unit))) => ((Exit.exit 0),⟨mkE 21 0 [(5,.slc 1)],[some (.box [dV c,dI t.1]),some (.seq (.pair (.int .i64) (.pair (.int .i64) (.pair (.int .i64) .unit))) t.2)]⟩))) := .of fun K h => by
  simp only [N46,wpW] at h
  exact .of (by kernel_rfl) h
theorem Nja (a : List Int) (b : Int) (c : List (Int × Int × Int × Unit)) : Link N2v LL (cq [1,1,1] (bodyOf Tryd.f37)) (aq [1,1,1] N1n) ⟨mkE 21 0 [(5,.slc 1)],[some (.box [dV a,dI b]),some (.seq (.pair (.int .i64) (.pair (.int .i64) (.pair (.int .i64) .unit))) c)]⟩ (Ndo b c) (fun (t : Int × (List (Int × Int × Int × Unit))) => (Exit.ret,⟨mkE 21 0 [(4,.slc 1)],[some (.box [dV a,dI t.1]),some (.seq (.pair (.int .i64) (.pair (.int .i64) (.pair (.int .i64) .unit))) t.2)]⟩)) := .of fun K h => by
  simp only [Ndo,wpW] at h
  exact .of (by kernel_rfl) h
theorem Nk8 (b d : List Int) (g : Int) {r : AV} {H' : Heap} (h : (Ans.mk _ (N2c b d g) (fun (t : Int × (List (Int × Int × Int × Unit))) => (.slc 1,[some (.box [dV d,dI t.1]),some (.seq (.pair (.int .i64) (.pair (.int .i64) (.pair (.int .i64) .unit))) t.2)])) [] none).run = some (r,H')) : Awp N2v LL (bodyOf Tryd.f37) N1n ⟨mkE 21 0 [(0,.ptr 0 0),(1,dL b)],[some (.box [dV d,dI g])]⟩ (Ret (tlook tys) Tryd.f37.results.toList r H') :=
  ret_of' (Link.cast (by kernel_rfl) (by kernel_rfl) (link_group (c := (cq [0,1] (bodyOf Tryd.f37))) (a := (aq [0,1] N1n)) [(cq [0] (bodyOf Tryd.f37))] [(aq [0] N1n)] rfl (link_seq (Npf b d g) (fun (t : Unit) => (link_seq (link_seq (Nnr b d g) (fun (t : Int × Int) => (link_block (fin2 := (fun (t7 : Int × (List (Int × Int × Int × Unit))) => (Exit.normal,⟨mkE 21 0 [(5,.slc 1)],[some (.box [dV d,dI t7.1]),some (.seq (.pair (.int .i64) (.pair (.int .i64) (.pair (.int .i64) .unit))) t7.2)]⟩))) (id := 0) (link_loop (mk := fun (s : Int × Int × (List (Int × Int × Int × Unit))) => ⟨mkE 21 0 [(0,.ptr 0 0),(1,dL b),(5,.slc 1),(6,dI s.1)],[some (.box [dV d,dI s.2.1]),some (.seq (.pair (.int .i64) (.pair (.int .i64) (.pair (.int .i64) .unit))) s.2.2)]⟩) (fin := (fun (t7 : Int × (List (Int × Int × Int × Unit))) => ((Exit.exit 0),⟨mkE 21 0 [(5,.slc 1)],[some (.box [dV d,dI t7.1]),some (.seq (.pair (.int .i64) (.pair (.int .i64) (.pair (.int .i64) .unit))) t7.2)]⟩))) (by
  rintro t7 f K h
  · exact h) (fun s => link_map (Nvs b s.1 d s.2.1 s.2.2) (Sum.elim (fun (t7 : Int × Int × (List (Int × Int × Int × Unit))) => Sum.inl (t7.1,t7.2.1,t7.2.2)) (fun (t7 : Int × (List (Int × Int × Int × Unit))) => Sum.inr t7)) (by
  rintro (t7 | t7)
  · kernel_rfl
  · kernel_rfl)) (t.1,t.2,([] : List (Int × Int × Int × Unit)))) (fun (t7 : Int × (List (Int × Int × Int × Unit))) => (t7.1,t7.2)) (by
  rintro t7 K h
  · exact Eq.mp (by kernel_rfl) h)))) (fun (t : Int × (List (Int × Int × Int × Unit))) => (Nja d t.1 t.2))))))) (by unfold N2c; kernel_rfl) (by
  intro t
  exact ret_mk [.slc 1] (by kernel_rfl) (by kernel_rfl) (by kernel_rfl) (by kernel_rfl)) h
def N9w : Fun := fun avs H =>
  match avs,H with
  | [.ptr 0 0,.dat (.list (.int .i64)) a],[some (.box [.dat (.list (.int .u8)) b,.dat (.int .i64) c])] => ⟨_,N2c a b c,fun (t : Int × (List (Int × Int × Int × Unit))) => (.slc 1,[some (.box [dV b,dI t.1]),some (.seq (.pair (.int .i64) (.pair (.int .i64) (.pair (.int .i64) .unit))) t.2)]),[],none⟩
  | _,_ => Ans.no
theorem Nmh : Sound Tryd.prog 37 N9w := by
  refine fn_sound' (C := N2v) (c := bodyOf Tryd.f37) (cok_of tys_ok (allc N1f (allc New alln)) (allc Tryd.call40 (allc Tryd.call20 alln)) (by kernel_rfl)) Tryd.func37 (by kernel_rfl) LL N1n ?_
  intro avs H r H' h
  unfold N9w at h
  split at h
  · refine Awp.cast ?_ ?_ ?_ (Nk8 _ _ _ h) <;> kernel_rfl
  · simp [Ans.no,Ans.run] at h

def Nb7 : Ann := (.seq (.leaf [0,2]) (.seq (.leaf [2,4]) (.seq (.leaf [2,4,5]) (.seq (.seq (.leaf [2,4,5,11]) (.cond (.seq (.draw [] [0,2,1,3] [] [2,3]) (.leaf [2,3])) (.leaf [2,4,5]))) (.seq (.draw [200002,300000] [0,1,2,3,4,5,6] [] [2,3]) (.leaf [2,3]))))))
noncomputable def Na7 : Ctx := ⟨tlook tys,olook [(18,Ncz),(19,Nbi),(36,N2y),(37,N9w)],ioF,0,false,[]⟩
theorem Nt0 (a : List Int) : Link Na7 LL (bodyOf Tryd.f13) Nb7 ⟨mkE 19 0 [(0,dV a)],[]⟩ (N6l a) (fun (t : (List Int) × (List (Int × Int × Int × Unit)) × (List (List Int))) => (Exit.ret,⟨mkE 19 0 [(2,.ptr 0 0),(3,.slc 1)],[some (.box [dL t.1,.slc 2]),some (.seq (.pair (.int .i64) (.pair (.int .i64) (.pair (.int .i64) .unit))) t.2.1),some (.nest (.int .i64) t.2.2 0 [])]⟩)) := .of fun K h => by
  simp only [N6l,wpW] at h
  exact .of (by kernel_rfl) h
theorem Nt9 (a : List Int) {r : AV} {H' : Heap} (h : (Ans.mk _ (N3a a) (fun (t : (List Int) × (List (Int × Int × Int × Unit)) × (List (List Int))) => (.tup [.agg [dL t.1,.slc 2],.slc 1],[some (.box [dL t.1,.slc 2]),some (.seq (.pair (.int .i64) (.pair (.int .i64) (.pair (.int .i64) .unit))) t.2.1),some (.nest (.int .i64) t.2.2 0 [])])) [] none).run = some (r,H')) : Awp Na7 LL (bodyOf Tryd.f13) Nb7 ⟨mkE 19 0 [(0,dV a)],[]⟩ (Ret (tlook tys) Tryd.f13.results.toList r H') :=
  ret_of' (Nt0 a) (by unfold N3a; kernel_rfl) (by
  intro t
  exact ret_mk [.agg [dL t.1,.slc 2],.slc 1] (by kernel_rfl) (by kernel_rfl) (by kernel_rfl) (by kernel_rfl)) h
def N8p : Fun := fun avs H =>
  match avs,H with
  | [.dat (.list (.int .u8)) a],[] => ⟨_,N3a a,fun (t : (List Int) × (List (Int × Int × Int × Unit)) × (List (List Int))) => (.tup [.agg [dL t.1,.slc 2],.slc 1],[some (.box [dL t.1,.slc 2]),some (.seq (.pair (.int .i64) (.pair (.int .i64) (.pair (.int .i64) .unit))) t.2.1),some (.nest (.int .i64) t.2.2 0 [])]),[],none⟩
  | _,_ => Ans.no
theorem No1 : Sound Tryd.prog 13 N8p := by
  refine fn_sound' (C := Na7) (c := bodyOf Tryd.f13) (cok_of tys_ok (allc Nta (allc Nt2 (allc N66 (allc Nmh alln)))) (allc Tryd.call18 (allc Tryd.call19 (allc Tryd.call36 (allc Tryd.call37 alln)))) (by kernel_rfl)) Tryd.func13 (by kernel_rfl) LL Nb7 ?_
  intro avs H r H' h
  unfold N8p at h
  split at h
  · refine Awp.cast ?_ ?_ ?_ (Nt9 _ h) <;> kernel_rfl
  · simp [Ans.no,Ans.run] at h

def Ng : Ann := (.seq (.leaf [1,2,4]) (.seq (.seq (.leaf [1,2,4,19]) (.cond (.seq (.leaf [4,5]) (.leafF [⟨0,4,false,some 0,some (.int .i64)⟩,⟨0,4,true,some 1,some (.int .i64)⟩] [4,5])) (.leaf [1,2,4]))) (.seq (.leaf [1,4,6,7]) (.seq (.seq (.leaf [4,6,7,26,27,28]) (.block (.loop (.seq (.leaf [4,6,7,26,27,28,29]) (.seq (.cond (.leaf [4,6,7,26,27,28]) (.leaf [4,6,7])) (.seq (.block (.seq (.leaf [4,6,7,9,26,27,28]) (.seq (.leaf [4,6,7,10,11,26,27,28]) (.seq (.leaf [4,6,7,10,26,27,28,38]) (.cond (.seq (.leaf [4,6,7,26,27,28]) (.leaf [4,6,7,26,27,28])) (.leaf [4,6,7,26,27,28])))))) (.leaf [4,6,7,26,27,28]))))))) (.seq (.leaf [4,5]) (.leaf [4,5]))))))
noncomputable def N3p : Ctx := ⟨tlook tys,olook [(9,N4l),(22,N2l),(6,Ndh)],ioF,0,false,[]⟩
theorem Nsd (a : List Int) (b : List (List Int)) (c : List (Int × Int × Int × Unit)) : Link N3p LL (Code.seq (cq [0] (bodyOf Tryd.f14)) (Code.seq (cq [0,1] (bodyOf Tryd.f14)) (cq [0,1,1] (bodyOf Tryd.f14)))) (Ann.seq (aq [0] Ng) (Ann.seq (aq [0,1] Ng) (aq [0,1,1] Ng))) ⟨mkE 45 0 [(0,.agg [dL a,.dat (.list (.list (.int .i64))) b]),(1,.dat (.list (.pair (.int .i64) (.pair (.int .i64) (.pair (.int .i64) .unit)))) c)],[]⟩ (Nb5 a b c) (Sum.elim (fun (t : (List Int) × (List (List Int))) => (Exit.normal,⟨mkE 45 0 [(1,.dat (.list (.pair (.int .i64) (.pair (.int .i64) (.pair (.int .i64) .unit)))) c),(4,.ptr 0 0),(6,.ptr 1 0),(7,dI 0)],[some (.box [.nils,.nils]),some (.box [.slc 2,.slc 3]),some (sI t.1),some (.nest (.int .i64) t.2 0 [])]⟩)) (fun (t : Int × (List Int) × (List (List Int))) => (Exit.ret,⟨mkE 45 0 [(4,.ptr 0 0),(5,dI t.1)],[some (.box [.slc 1,.slc 2]),some (sI t.2.1),some (.nest (.int .i64) t.2.2 0 [])]⟩))) := .of fun K h => by
  simp only [Nb5,wpW] at h
  exact .of (by kernel_rfl) h
theorem Nqr (a : List (Int × Int × Int × Unit)) (b : List Int) (c : List (List Int)) : Link N3p LL (cq [0,0,1,1,1] (bodyOf Tryd.f14)) (aq [0,0,1,1,1] Ng) ⟨mkE 45 0 [(1,.dat (.list (.pair (.int .i64) (.pair (.int .i64) (.pair (.int .i64) .unit)))) a),(4,.ptr 0 0),(6,.ptr 1 0),(7,dI 0)],[some (.box [.nils,.nils]),some (.box [.slc 2,.slc 3]),some (sI b),some (.nest (.int .i64) c 0 [])]⟩ (N8q a) (fun (t : Int) => (Exit.normal,⟨mkE 45 0 [(4,.ptr 0 0),(6,.ptr 1 0),(7,dI 0),(26,.dat (.list (.pair (.int .i64) (.pair (.int .i64) (.pair (.int .i64) .unit)))) a),(27,dI t),(28,dI 0)],[some (.box [.nils,.nils]),some (.box [.slc 2,.slc 3]),some (sI b),some (.nest (.int .i64) c 0 [])]⟩)) := .of fun K h => by
  simp only [N8q,wpW] at h
  exact .of (by kernel_rfl) h
theorem Nqx (a : Int) (b : List (Int × Int × Int × Unit)) (c d : Int) (g : List Int) (i : List (List Int)) : Link N3p LL (cq [0,0,1,0,1,1,1] (bodyOf Tryd.f14)) (aq [0,0,1,0,1,1,1] Ng) ⟨mkE 45 0 [(4,.ptr 0 0),(6,.ptr 1 0),(7,dI a),(26,.dat (.list (.pair (.int .i64) (.pair (.int .i64) (.pair (.int .i64) .unit)))) b),(27,dI c),(28,dI d)],[some (.box [.nils,.nils]),some (.box [.slc 2,.slc 3]),some (sI g),some (.nest (.int .i64) i 0 [])]⟩ (N83 a b c d g i) (Sum.elim (fun (t : Int × Int × (List Int) × (List (List Int))) => (Exit.normal,⟨mkE 45 0 [(4,.ptr 0 0),(6,.ptr 1 0),(7,dI t.1),(26,.dat (.list (.pair (.int .i64) (.pair (.int .i64) (.pair (.int .i64) .unit)))) b),(27,dI c),(28,dI t.2.1)],[some (.box [.nils,.nils]),some (.box [.slc 2,.slc 3]),some (sI t.2.2.1),some (.nest (.int .i64) t.2.2.2 0 [])]⟩)) (fun (t : Int × (List Int) × (List (List Int))) => ((Exit.exit 0),⟨mkE 45 0 [(4,.ptr 0 0),(6,.ptr 1 0),(7,dI t.1)],[some (.box [.nils,.nils]),some (.box [.slc 2,.slc 3]),some (sI t.2.1),some (.nest (.int .i64) t.2.2 0 [])]⟩))) := .of fun K h => by
  simp only [N83,wpW] at h
  exact .of (by kernel_rfl) h
theorem No3 (a : Int) (b : List Int) (c : List (List Int)) : Link N3p LL (cq [1,1,1,1] (bodyOf Tryd.f14)) (aq [1,1,1,1] Ng) ⟨mkE 45 0 [(4,.ptr 0 0),(6,.ptr 1 0),(7,dI a)],[some (.box [.nils,.nils]),some (.box [.slc 2,.slc 3]),some (sI b),some (.nest (.int .i64) c 0 [])]⟩ (Nbr a b c) (fun (t : Int × (List Int) × (List (List Int))) => (Exit.ret,⟨mkE 45 0 [(4,.ptr 0 0),(5,dI t.1)],[some (.box [.slc 1,.slc 2]),some (sI t.2.1),some (.nest (.int .i64) t.2.2 0 [])]⟩)) := .of fun K h => by
  simp only [Nbr,wpW] at h
  exact .of (by kernel_rfl) h
theorem Nia (b : List Int) (d : List (List Int)) (g : List (Int × Int × Int × Unit)) {r : AV} {H' : Heap} (h : (Ans.mk _ (Nr b d g) (fun (t : Int × (List Int) × (List (List Int))) => (.tup [.agg [.slc 1,.slc 2],dI t.1],[some (.box [.slc 1,.slc 2]),some (sI t.2.1),some (.nest (.int .i64) t.2.2 0 [])])) [] none).run = some (r,H')) : Awp N3p LL (bodyOf Tryd.f14) Ng ⟨mkE 45 0 [(0,.agg [dL b,.dat (.list (.list (.int .i64))) d]),(1,.dat (.list (.pair (.int .i64) (.pair (.int .i64) (.pair (.int .i64) .unit)))) g)],[]⟩ (Ret (tlook tys) Tryd.f14.results.toList r H') :=
  ret_of' (Link.cast (by kernel_rfl) (by kernel_rfl) (link_group (c := (cq [0,1,1] (bodyOf Tryd.f14))) (a := (aq [0,1,1] Ng)) [(cq [0] (bodyOf Tryd.f14)),(cq [0,1] (bodyOf Tryd.f14))] [(aq [0] Ng),(aq [0,1] Ng)] rfl (link_seq2 (Nsd b d g) (fun (t : (List Int) × (List (List Int))) => (link_seq (link_seq (Nqr g t.1 t.2) (fun (t23 : Int) => (link_block (fin2 := (fun (t8 : Int × (List Int) × (List (List Int))) => (Exit.normal,⟨mkE 45 0 [(4,.ptr 0 0),(6,.ptr 1 0),(7,dI t8.1)],[some (.box [.nils,.nils]),some (.box [.slc 2,.slc 3]),some (sI t8.2.1),some (.nest (.int .i64) t8.2.2 0 [])]⟩))) (id := 0) (link_loop (mk := fun (s : Int × Int × (List Int) × (List (List Int))) => ⟨mkE 45 0 [(4,.ptr 0 0),(6,.ptr 1 0),(7,dI s.1),(26,.dat (.list (.pair (.int .i64) (.pair (.int .i64) (.pair (.int .i64) .unit)))) g),(27,dI t23),(28,dI s.2.1)],[some (.box [.nils,.nils]),some (.box [.slc 2,.slc 3]),some (sI s.2.2.1),some (.nest (.int .i64) s.2.2.2 0 [])]⟩) (fin := (fun (t8 : Int × (List Int) × (List (List Int))) => ((Exit.exit 0),⟨mkE 45 0 [(4,.ptr 0 0),(6,.ptr 1 0),(7,dI t8.1)],[some (.box [.nils,.nils]),some (.box [.slc 2,.slc 3]),some (sI t8.2.1),some (.nest (.int .i64) t8.2.2 0 [])]⟩))) (by
  rintro t8 f K h
  · exact h) (fun s => link_map (Nqx s.1 g t23 s.2.1 s.2.2.1 s.2.2.2) (Sum.elim (fun (t8 : Int × Int × (List Int) × (List (List Int))) => Sum.inl (t8.1,t8.2.1,t8.2.2.1,t8.2.2.2)) (fun (t8 : Int × (List Int) × (List (List Int))) => Sum.inr t8)) (by
  rintro (t8 | t8)
  · kernel_rfl
  · kernel_rfl)) (0,0,t.1,t.2)) (fun (t8 : Int × (List Int) × (List (List Int))) => (t8.1,t8.2.1,t8.2.2)) (by
  rintro t8 K h
  · exact Eq.mp (by kernel_rfl) h)))) (fun (t23 : Int × (List Int) × (List (List Int))) => (No3 t23.1 t23.2.1 t23.2.2)))) (fun (t : Int × (List Int) × (List (List Int))) => t) (by
  rintro t
  · kernel_rfl) (by
  rintro t f K h
  · exact h)))) (by unfold Nr; kernel_rfl) (by
  intro t
  exact ret_mk [.agg [.slc 1,.slc 2],dI t.1] (by kernel_rfl) (by kernel_rfl) (by kernel_rfl) (by kernel_rfl)) h
def Nd2 : Fun := fun avs H =>
  match avs,H with
  | [.agg [.dat (.list (.int .i64)) a,.dat (.list (.list (.int .i64))) b],.dat (.list (.pair (.int .i64) (.pair (.int .i64) (.pair (.int .i64) .unit)))) c],[] => ⟨_,Nr a b c,fun (t : Int × (List Int) × (List (List Int))) => (.tup [.agg [.slc 1,.slc 2],dI t.1],[some (.box [.slc 1,.slc 2]),some (sI t.2.1),some (.nest (.int .i64) t.2.2 0 [])]),[],none⟩
  | _,_ => Ans.no
theorem Nml : Sound Tryd.prog 14 Nd2 := by
  refine fn_sound' (C := N3p) (c := bodyOf Tryd.f14) (cok_of tys_ok (allc Nd8 (allc N4t (allc Nq6 alln))) (allc Tryd.call9 (allc Tryd.call22 (allc Tryd.call6 alln))) (by kernel_rfl)) Tryd.func14 (by kernel_rfl) LL Ng ?_
  intro avs H r H' h
  unfold Nd2 at h
  split at h
  · refine Awp.cast ?_ ?_ ?_ (Nia _ _ _ h) <;> kernel_rfl
  · simp [Ans.no,Ans.run] at h

def N9 : Ann := (.seq (.leaf [1,2,4]) (.seq (.seq (.leaf [1,2,4,18]) (.cond (.seq (.leaf [4,5]) (.leafF [⟨0,4,false,some 0,some (.int .i64)⟩,⟨0,4,true,some 1,some (.int .i64)⟩] [4,5])) (.leaf [1,2,4]))) (.seq (.leaf [1,4,6]) (.seq (.leaf [1,4,6,7]) (.seq (.seq (.leaf [1,4,6,7,8]) (.block (.loop (.seq (.seq (.leaf [1,4,6,7,8,25]) (.cond (.leaf [1,4,6,7,8]) (.leaf [4,6,7]))) (.seq (.block (.seq (.draw [5] [0,1,2,3,4,5,6,7,8,9,10,11] [] [1,4,6,7,8,9,10]) (.seq (.leaf [1,4,6,7,8,9,37]) (.cond (.seq (.leaf [1,4,6,7,8]) (.leaf [1,4,6,7,8])) (.leaf [1,4,6,7,8]))))) (.leaf [1,4,6,7,8])))))) (.seq (.leaf [4,5]) (.leaf [4,5])))))))
noncomputable def N36 : Ctx := ⟨tlook tys,olook [(16,N3y),(25,N5x),(7,N4u)],ioF,0,false,[]⟩
theorem Nu2 (a : List Int) (b : List (List Int)) (c : List (Int × Int × Int × Unit)) : Link N36 LL (Code.seq (cq [0] (bodyOf Tryd.f15)) (Code.seq (cq [0,1] (bodyOf Tryd.f15)) (Code.seq (cq [0,1,1] (bodyOf Tryd.f15)) (cq [0,1,1,1] (bodyOf Tryd.f15))))) (Ann.seq (aq [0] N9) (Ann.seq (aq [0,1] N9) (Ann.seq (aq [0,1,1] N9) (aq [0,1,1,1] N9)))) ⟨mkE 43 0 [(0,.agg [dL a,.dat (.list (.list (.int .i64))) b]),(1,.dat (.list (.pair (.int .i64) (.pair (.int .i64) (.pair (.int .i64) .unit)))) c)],[]⟩ (N4q a b c) (Sum.elim (fun (t : (List Int) × (List (List Int))) => (Exit.normal,⟨mkE 43 0 [(1,.dat (.list (.pair (.int .i64) (.pair (.int .i64) (.pair (.int .i64) .unit)))) c),(4,.ptr 0 0),(6,.ptr 1 0),(7,dI 0)],[some (.box [.nils,.nils]),some (.box [.slc 2,.slc 3]),some (sI t.1),some (.nest (.int .i64) t.2 0 [])]⟩)) (fun (t : Int × (List Int) × (List (List Int))) => (Exit.ret,⟨mkE 43 0 [(4,.ptr 0 0),(5,dI t.1)],[some (.box [.slc 1,.slc 2]),some (sI t.2.1),some (.nest (.int .i64) t.2.2 0 [])]⟩))) := .of fun K h => by
  simp only [N4q,wpW] at h
  exact .of (by kernel_rfl) h
theorem Nn4 (a : List (Int × Int × Int × Unit)) (b : List Int) (c : List (List Int)) : Link N36 LL (cq [0,0,1,1,1,1] (bodyOf Tryd.f15)) (aq [0,0,1,1,1,1] N9) ⟨mkE 43 0 [(1,.dat (.list (.pair (.int .i64) (.pair (.int .i64) (.pair (.int .i64) .unit)))) a),(4,.ptr 0 0),(6,.ptr 1 0),(7,dI 0)],[some (.box [.nils,.nils]),some (.box [.slc 2,.slc 3]),some (sI b),some (.nest (.int .i64) c 0 [])]⟩ (N6s) (fun (t : Unit) => (Exit.normal,⟨mkE 43 0 [(1,.dat (.list (.pair (.int .i64) (.pair (.int .i64) (.pair (.int .i64) .unit)))) a),(4,.ptr 0 0),(6,.ptr 1 0),(7,dI 0),(8,dI 0)],[some (.box [.nils,.nils]),some (.box [.slc 2,.slc 3]),some (sI b),some (.nest (.int .i64) c 0 [])]⟩)) := .of fun K h => by
  simp only [N6s,wpW] at h
  exact .of (by kernel_rfl) h
theorem Noi (a : List (Int × Int × Int × Unit)) (b c : Int) (d : List Int) (g : List (List Int)) : Link N36 LL (cq [0,0,1,0,1,1,1,1] (bodyOf Tryd.f15)) (aq [0,0,1,0,1,1,1,1] N9) ⟨mkE 43 0 [(1,.dat (.list (.pair (.int .i64) (.pair (.int .i64) (.pair (.int .i64) .unit)))) a),(4,.ptr 0 0),(6,.ptr 1 0),(7,dI b),(8,dI c)],[some (.box [.nils,.nils]),some (.box [.slc 2,.slc 3]),some (sI d),some (.nest (.int .i64) g 0 [])]⟩ (N37 a b c d g) (Sum.elim (fun (t : Int × Int × (List Int) × (List (List Int))) => (Exit.normal,⟨mkE 43 0 [(1,.dat (.list (.pair (.int .i64) (.pair (.int .i64) (.pair (.int .i64) .unit)))) a),(4,.ptr 0 0),(6,.ptr 1 0),(7,dI t.1),(8,dI t.2.1)],[some (.box [.nils,.nils]),some (.box [.slc 2,.slc 3]),some (sI t.2.2.1),some (.nest (.int .i64) t.2.2.2 0 [])]⟩)) (fun (t : Int × (List Int) × (List (List Int))) => ((Exit.exit 0),⟨mkE 43 0 [(4,.ptr 0 0),(6,.ptr 1 0),(7,dI t.1)],[some (.box [.nils,.nils]),some (.box [.slc 2,.slc 3]),some (sI t.2.1),some (.nest (.int .i64) t.2.2 0 [])]⟩))) := .of fun K h => by
  simp only [N37,wpW] at h
  exact .of (by kernel_rfl) h
theorem Nij (a : Int) (b : List Int) (c : List (List Int)) : Link N36 LL (cq [1,1,1,1,1] (bodyOf Tryd.f15)) (aq [1,1,1,1,1] N9) ⟨mkE 43 0 [(4,.ptr 0 0),(6,.ptr 1 0),(7,dI a)],[some (.box [.nils,.nils]),some (.box [.slc 2,.slc 3]),some (sI b),some (.nest (.int .i64) c 0 [])]⟩ (Ncp a b c) (fun (t : Int × (List Int) × (List (List Int))) => (Exit.ret,⟨mkE 43 0 [(4,.ptr 0 0),(5,dI t.1)],[some (.box [.slc 1,.slc 2]),some (sI t.2.1),some (.nest (.int .i64) t.2.2 0 [])]⟩)) := .of fun K h => by
  simp only [Ncp,wpW] at h
  exact .of (by kernel_rfl) h
theorem Nmo (b : List Int) (d : List (List Int)) (g : List (Int × Int × Int × Unit)) {r : AV} {H' : Heap} (h : (Ans.mk _ (N2h b d g) (fun (t : Int × (List Int) × (List (List Int))) => (.tup [.agg [.slc 1,.slc 2],dI t.1],[some (.box [.slc 1,.slc 2]),some (sI t.2.1),some (.nest (.int .i64) t.2.2 0 [])])) [] none).run = some (r,H')) : Awp N36 LL (bodyOf Tryd.f15) N9 ⟨mkE 43 0 [(0,.agg [dL b,.dat (.list (.list (.int .i64))) d]),(1,.dat (.list (.pair (.int .i64) (.pair (.int .i64) (.pair (.int .i64) .unit)))) g)],[]⟩ (Ret (tlook tys) Tryd.f15.results.toList r H') :=
  ret_of' (Link.cast (by kernel_rfl) (by kernel_rfl) (link_group (c := (cq [0,1,1,1] (bodyOf Tryd.f15))) (a := (aq [0,1,1,1] N9)) [(cq [0] (bodyOf Tryd.f15)),(cq [0,1] (bodyOf Tryd.f15)),(cq [0,1,1] (bodyOf Tryd.f15))] [(aq [0] N9),(aq [0,1] N9),(aq [0,1,1] N9)] rfl (link_seq2 (Nu2 b d g) (fun (t : (List Int) × (List (List Int))) => (link_seq (link_seq (Nn4 g t.1 t.2) (fun (t24 : Unit) => (link_block (fin2 := (fun (t24 : Int × (List Int) × (List (List Int))) => (Exit.normal,⟨mkE 43 0 [(4,.ptr 0 0),(6,.ptr 1 0),(7,dI t24.1)],[some (.box [.nils,.nils]),some (.box [.slc 2,.slc 3]),some (sI t24.2.1),some (.nest (.int .i64) t24.2.2 0 [])]⟩))) (id := 0) (link_loop (mk := fun (s : Int × Int × (List Int) × (List (List Int))) => ⟨mkE 43 0 [(1,.dat (.list (.pair (.int .i64) (.pair (.int .i64) (.pair (.int .i64) .unit)))) g),(4,.ptr 0 0),(6,.ptr 1 0),(7,dI s.1),(8,dI s.2.1)],[some (.box [.nils,.nils]),some (.box [.slc 2,.slc 3]),some (sI s.2.2.1),some (.nest (.int .i64) s.2.2.2 0 [])]⟩) (fin := (fun (t24 : Int × (List Int) × (List (List Int))) => ((Exit.exit 0),⟨mkE 43 0 [(4,.ptr 0 0),(6,.ptr 1 0),(7,dI t24.1)],[some (.box [.nils,.nils]),some (.box [.slc 2,.slc 3]),some (sI t24.2.1),some (.nest (.int .i64) t24.2.2 0 [])]⟩))) (by
  rintro t24 f K h
  · exact h) (fun s => link_map (Noi g s.1 s.2.1 s.2.2.1 s.2.2.2) (Sum.elim (fun (t24 : Int × Int × (List Int) × (List (List Int))) => Sum.inl (t24.1,t24.2.1,t24.2.2.1,t24.2.2.2)) (fun (t24 : Int × (List Int) × (List (List Int))) => Sum.inr t24)) (by
  rintro (t24 | t24)
  · kernel_rfl
  · kernel_rfl)) (0,0,t.1,t.2)) (fun (t24 : Int × (List Int) × (List (List Int))) => (t24.1,t24.2.1,t24.2.2)) (by
  rintro t24 K h
  · exact Eq.mp (by kernel_rfl) h)))) (fun (t24 : Int × (List Int) × (List (List Int))) => (Nij t24.1 t24.2.1 t24.2.2)))) (fun (t : Int × (List Int) × (List (List Int))) => t) (by
  rintro t
  · kernel_rfl) (by
  rintro t f K h
  · exact h)))) (by unfold N2h; kernel_rfl) (by
  intro t
  exact ret_mk [.agg [.slc 1,.slc 2],dI t.1] (by kernel_rfl) (by kernel_rfl) (by kernel_rfl) (by kernel_rfl)) h
def Ncv : Fun := fun avs H =>
  match avs,H with
  | [.agg [.dat (.list (.int .i64)) a,.dat (.list (.list (.int .i64))) b],.dat (.list (.pair (.int .i64) (.pair (.int .i64) (.pair (.int .i64) .unit)))) c],[] => ⟨_,N2h a b c,fun (t : Int × (List Int) × (List (List Int))) => (.tup [.agg [.slc 1,.slc 2],dI t.1],[some (.box [.slc 1,.slc 2]),some (sI t.2.1),some (.nest (.int .i64) t.2.2 0 [])]),[],none⟩
  | _,_ => Ans.no
theorem Nvj : Sound Tryd.prog 15 Ncv := by
  refine fn_sound' (C := N36) (c := bodyOf Tryd.f15) (cok_of tys_ok (allc N9c (allc Ng3 (allc Nf2 alln))) (allc Tryd.call16 (allc Tryd.call25 (allc Tryd.call7 alln))) (by kernel_rfl)) Tryd.func15 (by kernel_rfl) LL N9 ?_
  intro avs H r H' h
  unfold Ncv at h
  split at h
  · refine Awp.cast ?_ ?_ ?_ (Nmo _ _ _ h) <;> kernel_rfl
  · simp [Ans.no,Ans.run] at h

def N8m : Ann := (.seq (.leaf [1]) (.seq (.leaf [2]) (.leaf [2])))
noncomputable def Nbg : Ctx := ⟨tlook tys,olook [(8,N5a)],ioF,0,false,[]⟩
theorem Nlh (a : List Int) (b : List (List Int)) : Link Nbg LL (bodyOf Tryd.f17) N8m ⟨mkE 6 0 [(0,.agg [dL a,.dat (.list (.list (.int .i64))) b])],[]⟩ (N7r a b) (fun (t : Bool) => (Exit.ret,⟨mkE 6 0 [(2,dB t)],[]⟩)) := .of fun K h => by
  simp only [N7r,wpW] at h
  exact .of (by kernel_rfl) h
theorem Nlo (a : List Int) (b : List (List Int)) {r : AV} {H' : Heap} (h : (Ans.mk _ (N29 a b) (fun (t : Bool) => (dB t,[])) [] none).run = some (r,H')) : Awp Nbg LL (bodyOf Tryd.f17) N8m ⟨mkE 6 0 [(0,.agg [dL a,.dat (.list (.list (.int .i64))) b])],[]⟩ (Ret (tlook tys) Tryd.f17.results.toList r H') :=
  ret_of' (Nlh a b) (by unfold N29; kernel_rfl) (by
  intro t
  exact ret_mk [dB t] (by kernel_rfl) (by kernel_rfl) (by kernel_rfl) (by kernel_rfl)) h
def Nbk : Fun := fun avs H =>
  match avs,H with
  | [.agg [.dat (.list (.int .i64)) a,.dat (.list (.list (.int .i64))) b]],[] => ⟨_,N29 a b,fun (t : Bool) => (dB t,[]),[],none⟩
  | _,_ => Ans.no
theorem Nuj : Sound Tryd.prog 17 Nbk := by
  refine fn_sound' (C := Nbg) (c := bodyOf Tryd.f17) (cok_of tys_ok (allc Nfq alln) (allc Tryd.call8 alln) (by kernel_rfl)) Tryd.func17 (by kernel_rfl) LL N8m ?_
  intro avs H r H' h
  unfold Nbk at h
  split at h
  · refine Awp.cast ?_ ?_ ?_ (Nlo _ _ h) <;> kernel_rfl
  · simp [Ans.no,Ans.run] at h

def Na5 : Ann := (.seq (.leaf [0]) (.seq (.seq (.leaf [0,16]) (.cond (.seq (.leaf [2]) (.leaf [2])) (.leaf [0]))) (.seq (.leaf [3,4]) (.seq (.leaf [3,4,5,6]) (.seq (.leaf [3,4,5,6,7,8]) (.seq (.seq (.leaf [3,4,5,6,42]) (.cond (.seq (.leaf [2]) (.leaf [2])) (.leaf [3,4,5,6]))) (.seq (.seq (.leaf [3,4,5,6,50]) (.cond (.seq (.leaf [2]) (.leaf [2])) (.leaf [3,4,5,6]))) (.seq (.leaf [3,4,5,6,9]) (.seq (.draw [4] [0,1,2,3,4,5,6,7,8,9,10] [] [4,5,6,9,10,11]) (.seq (.draw [4] [0,1,2,3,4,5,6,7,8,9,10] [] [5,6,11,12,13]) (.seq (.leaf [2]) (.leaf [2]))))))))))))
noncomputable def Nb3 : Ctx := ⟨tlook tys,olook [(13,N8p),(14,Nd2),(15,Ncv),(8,N5a),(16,N3y),(17,Nbk),(10,Ndm),(9,N4l)],ioF,0,false,[]⟩
theorem Nqi (a : List Int) : Link Nb3 LL (bodyOf Tryd.f4) Na5 ⟨mkE 93 0 [(0,dV a)],[]⟩ (N7g a) (fun (t : Bool) => (Exit.ret,⟨mkE 93 0 [(2,dB t)],[]⟩)) := .of fun K h => by
  simp only [N7g,wpW] at h
  exact .of (by kernel_rfl) h
theorem Nnb (a : List Int) {r : AV} {H' : Heap} (h : (Ans.mk _ (N20 a) (fun (t : Bool) => (dB t,[])) [] none).run = some (r,H')) : Awp Nb3 LL (bodyOf Tryd.f4) Na5 ⟨mkE 93 0 [(0,dV a)],[]⟩ (Ret (tlook tys) Tryd.f4.results.toList r H') :=
  ret_of' (Nqi a) (by unfold N20; kernel_rfl) (by
  intro t
  exact ret_mk [dB t] (by kernel_rfl) (by kernel_rfl) (by kernel_rfl) (by kernel_rfl)) h
def Nej : Fun := fun avs H =>
  match avs,H with
  | [.dat (.list (.int .u8)) a],[] => ⟨_,N20 a,fun (t : Bool) => (dB t,[]),[],none⟩
  | _,_ => Ans.no
theorem Nx0 : Sound Tryd.prog 4 Nej := by
  refine fn_sound' (C := Nb3) (c := bodyOf Tryd.f4) (cok_of tys_ok (allc No1 (allc Nml (allc Nvj (allc Nfq (allc N9c (allc Nuj (allc Nkh (allc Nd8 alln)))))))) (allc Tryd.call13 (allc Tryd.call14 (allc Tryd.call15 (allc Tryd.call8 (allc Tryd.call16 (allc Tryd.call17 (allc Tryd.call10 (allc Tryd.call9 alln)))))))) (by kernel_rfl)) Tryd.func4 (by kernel_rfl) LL Na5 ?_
  intro avs H r H' h
  unfold Nej at h
  split at h
  · refine Awp.cast ?_ ?_ ?_ (Nnb _ h) <;> kernel_rfl
  · simp [Ans.no,Ans.run] at h
end Go.Rv
