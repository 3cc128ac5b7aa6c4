/-
  The checked code answers as the plain functions do; written by program. Conditions: none.
-/
import Derived.Test.YtihgceegapfngadDoorKFnDeskDoa
import Derived.Test.YtihgceegapfngadDoorProg
set_option linter.unusedVariables false
set_option linter.unusedSimpArgs false
set_option linter.defProp false
set_option maxRecDepth 100000
namespace Go.Rv
open Go.Proofs
def Ndr : Ann := (.seq (.leaf [0,1,2]) (.seq (.leaf [0,1,2,7,8]) (.seq (.leaf [0,1,8]) (.seq (.leaf [6]) (.leaf [6])))))
def N3j : Ann := (.seq (.leaf [0,1,2]) (.seq (.seq (.leaf [0,1,10,11,12]) (.block (.loop (.seq (.leaf [0,1,10,11,12,13]) (.seq (.cond (.leaf [0,1,10,11,12]) (.leaf [0])) (.seq (.block (.seq (.leaf [0,1,8,10,11,12]) (.leaf [0,1,10,11,12]))) (.leaf [0,1,10,11,12]))))))) (.seq (.leaf [6]) (.leaf [6]))))
def Ns (n : Nat) : Fun := fun avs H =>
  match avs,H with
  | [.slc 0,.dat (.list (.int .i64)) a,.dat (.int .i64) b],[some (.seq (.int .i64) c)] => ⟨_,Ni n a b c,fun (t : (List Int)) => (.slc 0,[some (sI t)]),[0],none⟩
  | _,_ => Ans.no
def Nr (n : Nat) : Fun := fun avs H =>
  match avs,H with
  | [.slc 0,.dat (.list (.int .i64)) a,.dat (.int .u64) b],[some (.seq (.int .i64) c)] => ⟨_,N1i n a b c,fun (t : (List Int)) => (.slc 0,[some (sI t)]),[0],none⟩
  | _,_ => Ans.no
noncomputable def Nd7 (n : Nat) : Ctx := ⟨tlook tys,olook [(85,Nce),(86,Nr n)],ioF,1,false,[0]⟩
noncomputable def N3u (n : Nat) : Ctx := ⟨tlook tys,olook [(67,N8n),(81,Ns n)],ioF,1,false,[0]⟩
theorem Nwi (n : Nat) (a : List Int) (b : Int) (c : List Int) : Link (Nd7 n) LL (bodyOf Tryd.f81) Ndr ⟨mkE 26 0 [(0,.slc 0),(1,dL a),(2,dI b)],[some (sI c)]⟩ (N59 (Ni n) (N1i n) a b c) (fun (t : (List Int)) => (Exit.ret,⟨mkE 26 0 [(6,.slc 0)],[some (sI t)]⟩)) := .of fun K h => by
  simp only [N59,wpW] at h
  exact .of (by kernel_rfl) h
theorem Nxj (n : Nat) (a : List Int) (b : Int) (c : List Int) {r : AV} {H' : Heap} (h : (Ans.mk _ (Ni (n + 1) a b c) (fun (t : (List Int)) => (.slc 0,[some (sI t)])) [0] none).run = some (r,H')) : Awp (Nd7 n) LL (bodyOf Tryd.f81) Ndr ⟨mkE 26 0 [(0,.slc 0),(1,dL a),(2,dI b)],[some (sI c)]⟩ (Ret (tlook tys) Tryd.f81.results.toList r H') :=
  ret_of' (Nwi n a b c) (by (show _ = _); kernel_rfl) (by
  intro t
  exact ret_mk [.slc 0] (by kernel_rfl) (by kernel_rfl) (by kernel_rfl) (by kernel_rfl)) h
theorem Nlw (n : Nat) (a : List Int) (b : Int) (c : List Int) : Link (N3u n) LL (cq [0] (bodyOf Tryd.f86)) (aq [0] N3j) ⟨mkE 22 0 [(0,.slc 0),(1,dL a),(2,dW b)],[some (sI c)]⟩ (N9w (Ni n) (N1i n)) (fun (t : Unit) => (Exit.normal,⟨mkE 22 0 [(0,.slc 0),(1,dL a),(2,dW b)],[some (sI c)]⟩)) := .of fun K h => by
  simp only [N9w,wpW] at h
  exact .of (by kernel_rfl) h
theorem Ny5 (n : Nat) (a : List Int) (b : Int) (c : List Int) : Link (N3u n) LL (cq [0,0,1] (bodyOf Tryd.f86)) (aq [0,0,1] N3j) ⟨mkE 22 0 [(0,.slc 0),(1,dL a),(2,dW b)],[some (sI c)]⟩ (N9h (Ni n) (N1i n) b) (fun (t : Int × (List Int)) => (Exit.normal,⟨mkE 22 0 [(0,.slc 0),(1,dL a),(10,.slc 1),(11,dI t.1),(12,dI 0)],[some (sI c),some (sI t.2)]⟩)) := .of fun K h => by
  simp only [N9h,wpW] at h
  exact .of (by kernel_rfl) h
theorem Nxa (n : Nat) (a : List Int) (b c : Int) (d g : List Int) : Link (N3u n) LL (cq [0,0,1,0,1] (bodyOf Tryd.f86)) (aq [0,0,1,0,1] N3j) ⟨mkE 22 0 [(0,.slc 0),(1,dL a),(10,.slc 1),(11,dI b),(12,dI c)],[some (sI d),some (sI g)]⟩ (N4l (Ni n) (N1i n) a b c d g) (Sum.elim (fun (t : Int × (List Int)) => (Exit.normal,⟨mkE 22 0 [(0,.slc 0),(1,dL a),(10,.slc 1),(11,dI b),(12,dI t.1)],[some (sI t.2),some (sI g)]⟩)) (fun (t : (List Int)) => ((Exit.exit 0),⟨mkE 22 0 [(0,.slc 0)],[some (sI t)]⟩))) := .of fun K h => by
  simp only [N4l,wpW] at h
  exact .of (by kernel_rfl) h
theorem Nxs (n : Nat) (a : List Int) : Link (N3u n) LL (cq [1,1] (bodyOf Tryd.f86)) (aq [1,1] N3j) ⟨mkE 22 0 [(0,.slc 0)],[some (sI a)]⟩ (N99 (Ni n) (N1i n) a) (fun (t : (List Int)) => (Exit.ret,⟨mkE 22 0 [(6,.slc 0)],[some (sI t)]⟩)) := .of fun K h => by
  simp only [N99,wpW] at h
  exact .of (by kernel_rfl) h
theorem Nxn (n : Nat) (a : List Int) (b : Int) (c : List Int) {r : AV} {H' : Heap} (h : (Ans.mk _ (N1i (n + 1) a b c) (fun (t : (List Int)) => (.slc 0,[some (sI t)])) [0] none).run = some (r,H')) : Awp (N3u n) LL (bodyOf Tryd.f86) N3j ⟨mkE 22 0 [(0,.slc 0),(1,dL a),(2,dW b)],[some (sI c)]⟩ (Ret (tlook tys) Tryd.f86.results.toList r H') :=
  ret_of' (Link.cast (by kernel_rfl) (by kernel_rfl) (link_seq (Nlw n a b c) (fun (t : Unit) => (link_seq (link_seq (Ny5 n a b c) (fun (t : Int × (List Int)) => (link_block (fin2 := (fun (t5 : (List Int)) => (Exit.normal,⟨mkE 22 0 [(0,.slc 0)],[some (sI t5)]⟩))) (id := 0) (link_loop (mk := fun (s : Int × (List Int)) => ⟨mkE 22 0 [(0,.slc 0),(1,dL a),(10,.slc 1),(11,dI t.1),(12,dI s.1)],[some (sI s.2),some (sI t.2)]⟩) (fin := (fun (t5 : (List Int)) => ((Exit.exit 0),⟨mkE 22 0 [(0,.slc 0)],[some (sI t5)]⟩))) (by
  rintro t5 f K h
  · exact h) (fun s => link_map (Nxa n a t.1 s.1 s.2 t.2) (Sum.elim (fun (t5 : Int × (List Int)) => Sum.inl (t5.1,t5.2)) (fun (t5 : (List Int)) => Sum.inr t5)) (by
  rintro (t5 | t5)
  · kernel_rfl
  · kernel_rfl)) (0,c)) (fun (t5 : (List Int)) => t5) (by
  rintro t5 K h
  · exact Eq.mp (by kernel_rfl) h)))) (fun (t : (List Int)) => (Nxs n t)))))) (by (show _ = _); kernel_rfl) (by
  intro t
  exact ret_mk [.slc 0] (by kernel_rfl) (by kernel_rfl) (by kernel_rfl) (by kernel_rfl)) h
theorem Nts (n : Nat) (h81 : Sound Tryd.prog 81 (Ns n)) (h86 : Sound Tryd.prog 86 (Nr n)) : Sound Tryd.prog 81 (Ns (n + 1)) := by
  refine fn_sound' (C := Nd7 n) (c := bodyOf Tryd.f81) (cok_of tys_ok (allc Ns9 (allc h86 alln)) (allc Tryd.call85 (allc Tryd.call86 alln)) (by kernel_rfl)) Tryd.func81 (by kernel_rfl) LL Ndr ?_
  intro avs H r H' h
  unfold Ns at h
  split at h
  · refine Awp.cast ?_ ?_ ?_ (Nxj n _ _ _ h) <;> kernel_rfl
  · simp [Ans.no,Ans.run] at h
theorem Nl9 : Sound Tryd.prog 81 (Ns 0) := by
  intro avs H r H' h
  unfold Ns at h
  split at h
  · simp [Ni,N4,Ans.run] at h
  · simp [Ans.no,Ans.run] at h
theorem Npw (n : Nat) (h81 : Sound Tryd.prog 81 (Ns n)) (h86 : Sound Tryd.prog 86 (Nr n)) : Sound Tryd.prog 86 (Nr (n + 1)) := by
  refine fn_sound' (C := N3u n) (c := bodyOf Tryd.f86) (cok_of tys_ok (allc Nfy (allc h81 alln)) (allc Tryd.call67 (allc Tryd.call81 alln)) (by kernel_rfl)) Tryd.func86 (by kernel_rfl) LL N3j ?_
  intro avs H r H' h
  unfold Nr at h
  split at h
  · refine Awp.cast ?_ ?_ ?_ (Nxn n _ _ _ h) <;> kernel_rfl
  · simp [Ans.no,Ans.run] at h
theorem Nmr : Sound Tryd.prog 86 (Nr 0) := by
  intro avs H r H' h
  unfold Nr at h
  split at h
  · simp [N1i,N4,Ans.run] at h
  · simp [Ans.no,Ans.run] at h
theorem Nal : ∀ n,Sound Tryd.prog 81 (Ns n) ∧ Sound Tryd.prog 86 (Nr n)
  | 0 => ⟨Nl9,Nmr⟩
  | n + 1 => by
    obtain ⟨h81,h86⟩ := Nal n
    exact ⟨Nts n h81 h86,Npw n h81 h86⟩
def N9b : Fun := fun avs H =>
  match avs,H with
  | [.slc 0,.dat (.list (.int .i64)) a,.dat (.int .i64) b],[some (.seq (.int .i64) c)] => ⟨_,N5i a b c,fun (t : (List Int)) => (.slc 0,[some (sI t)]),[0],none⟩
  | _,_ => Ans.no
theorem Nm7 : Sound Tryd.prog 81 N9b := by
  have e : N9b = Ns RR := by
    funext avs H
    unfold N9b Ns
    split <;> first | rfl | (simp only [N5i])
  rw [e]
  exact (Nal RR).1
def Naq : Fun := fun avs H =>
  match avs,H with
  | [.slc 0,.dat (.list (.int .i64)) a,.dat (.int .u64) b],[some (.seq (.int .i64) c)] => ⟨_,Nhi a b c,fun (t : (List Int)) => (.slc 0,[some (sI t)]),[0],none⟩
  | _,_ => Ans.no
theorem N10i : Sound Tryd.prog 86 Naq := by
  have e : Naq = Nr RR := by
    funext avs H
    unfold Naq Nr
    split <;> first | rfl | (simp only [Nhi])
  rw [e]
  exact (Nal RR).2

def Nc9 : Ann := (.seq (.leaf [0]) (.seq (.seq (.leaf [0,5]) (.cond (.seq (.leaf [2]) (.leaf [2])) (.leaf [0]))) (.seq (.draw [5,100006] [0,1,3,4,5,2,6,7] [] [2]) (.leaf [2]))))
noncomputable def Nag : Ctx := ⟨tlook tys,olook [(30,Nh),(55,N8x),(81,N9b)],ioF,0,false,[]⟩
theorem Ns5 (a : List Int) : Link Nag LL (bodyOf Tryd.f72) Nc9 ⟨mkE 13 0 [(0,dL a)],[]⟩ (N5l a) (fun (t : (List Int)) => (Exit.ret,⟨mkE 13 0 [(2,.slc 0)],[some (sI t)]⟩)) := .of fun K h => by
  simp only [N5l,wpW] at h
  exact .of (by kernel_rfl) h
theorem Nwl (a : List Int) {r : AV} {H' : Heap} (h : (Ans.mk _ (N33 a) (fun (t : (List Int)) => (.slc 0,[some (sI t)])) [] none).run = some (r,H')) : Awp Nag LL (bodyOf Tryd.f72) Nc9 ⟨mkE 13 0 [(0,dL a)],[]⟩ (Ret (tlook tys) Tryd.f72.results.toList r H') :=
  ret_of' (Ns5 a) (by unfold N33; kernel_rfl) (by
  intro t
  exact ret_mk [.slc 0] (by kernel_rfl) (by kernel_rfl) (by kernel_rfl) (by kernel_rfl)) h
def Nd9 : Fun := fun avs H =>
  match avs,H with
  | [.dat (.list (.int .i64)) a],[] => ⟨_,N33 a,fun (t : (List Int)) => (.slc 0,[some (sI t)]),[],none⟩
  | _,_ => Ans.no
theorem Np5 : Sound Tryd.prog 72 Nd9 := by
  refine fn_sound' (C := Nag) (c := bodyOf Tryd.f72) (cok_of tys_ok (allc Nv (allc Nj0 (allc Nm7 alln))) (allc Tryd.call30 (allc Tryd.call55 (allc Tryd.call81 alln))) (by kernel_rfl)) Tryd.func72 (by kernel_rfl) LL Nc9 ?_
  intro avs H r H' h
  unfold Nd9 at h
  split at h
  · refine Awp.cast ?_ ?_ ?_ (Nwl _ h) <;> kernel_rfl
  · simp [Ans.no,Ans.run] at h

def Nb6 : Ann := (.seq (.leaf [0]) (.seq (.leaf [3]) (.seq (.leaf [2]) (.leaf [2]))))
noncomputable def Nab : Ctx := ⟨tlook tys,olook [(72,Nd9),(70,N9p)],ioF,0,false,[]⟩
theorem Not (a : List Int) : Link Nab LL (bodyOf Tryd.f62) Nb6 ⟨mkE 13 0 [(0,dL a)],[]⟩ (N5f a) (fun (t : (List Int)) => (Exit.ret,⟨mkE 13 0 [(2,.slc 0)],[some (sI t)]⟩)) := .of fun K h => by
  simp only [N5f,wpW] at h
  exact .of (by kernel_rfl) h
theorem Nwx (a : List Int) {r : AV} {H' : Heap} (h : (Ans.mk _ (N2j a) (fun (t : (List Int)) => (.slc 0,[some (sI t)])) [] none).run = some (r,H')) : Awp Nab LL (bodyOf Tryd.f62) Nb6 ⟨mkE 13 0 [(0,dL a)],[]⟩ (Ret (tlook tys) Tryd.f62.results.toList r H') :=
  ret_of' (Not a) (by unfold N2j; kernel_rfl) (by
  intro t
  exact ret_mk [.slc 0] (by kernel_rfl) (by kernel_rfl) (by kernel_rfl) (by kernel_rfl)) h
def Nb1 : Fun := fun avs H =>
  match avs,H with
  | [.dat (.list (.int .i64)) a],[] => ⟨_,N2j a,fun (t : (List Int)) => (.slc 0,[some (sI t)]),[],none⟩
  | _,_ => Ans.no
theorem Nzf : Sound Tryd.prog 62 Nb1 := by
  refine fn_sound' (C := Nab) (c := bodyOf Tryd.f62) (cok_of tys_ok (allc Np5 (allc Nhy alln)) (allc Tryd.call72 (allc Tryd.call70 alln)) (by kernel_rfl)) Tryd.func62 (by kernel_rfl) LL Nb6 ?_
  intro avs H r H' h
  unfold Nb1 at h
  split at h
  · refine Awp.cast ?_ ?_ ?_ (Nwx _ h) <;> kernel_rfl
  · simp [Ans.no,Ans.run] at h

def Ndo : Ann := (.seq (.leaf [0,3]) (.seq (.seq (.leaf [0,3,7]) (.block (.seq (.leaf [0,3,7,8]) (.cond (.seq (.seq (.leaf [0,3,14]) (.cond (.seq (.leaf [4]) (.leaf [4])) (.leaf [0,3]))) (.seq (.leaf [3,5]) (.seq (.leaf [5]) (.seq (.leaf [4]) (.leaf [4]))))) (.seq (.leaf [0,3,7,25]) (.cond (.seq (.draw [1,4] [0,2,3,4,1,5,6] [] [4]) (.leaf [4])) (.seq (.leaf [0,7,33]) (.cond (.seq (.leaf [4]) (.leaf [4])) (.seq (.leaf [0,7,41]) (.cond (.seq (.leaf [4]) (.leaf [4])) (.seq (.leaf [0,45]) (.cond (.seq (.leaf [4]) (.leaf [4])) (.leaf []))))))))))))) (.seq (.leaf [4]) (.leaf [4]))))
noncomputable def Nc0 : Ctx := ⟨tlook tys,olook [(60,Nff),(42,Ndu),(61,Ndv),(62,Nb1)],ioF,0,false,[]⟩
theorem Nv5 (a : List Int) (b c d : Int) : Link Nc0 LL (bodyOf Tryd.f43) Ndo ⟨mkE 49 0 [(0,dL a),(1,.agg [dI b,dI c,dI d])],[]⟩ (N55 a b c d) (fun (t : (List Int)) => (Exit.ret,⟨mkE 49 0 [(4,.slc 0)],[some (sI t)]⟩)) := .of fun K h => by
  simp only [N55,wpW] at h
  exact .of (by kernel_rfl) h
theorem Nny (a : List Int) (b c d : Int) {r : AV} {H' : Heap} (h : (Ans.mk _ (N2l a b c d) (fun (t : (List Int)) => (.slc 0,[some (sI t)])) [] none).run = some (r,H')) : Awp Nc0 LL (bodyOf Tryd.f43) Ndo ⟨mkE 49 0 [(0,dL a),(1,.agg [dI b,dI c,dI d])],[]⟩ (Ret (tlook tys) Tryd.f43.results.toList r H') :=
  ret_of' (Nv5 a b c d) (by unfold N2l; kernel_rfl) (by
  intro t
  exact ret_mk [.slc 0] (by kernel_rfl) (by kernel_rfl) (by kernel_rfl) (by kernel_rfl)) h
def Nbh : Fun := fun avs H =>
  match avs,H with
  | [.dat (.list (.int .i64)) a,.agg [.dat (.int .i64) b,.dat (.int .i64) c,.dat (.int .i64) d]],[] => ⟨_,N2l a b c d,fun (t : (List Int)) => (.slc 0,[some (sI t)]),[],none⟩
  | _,_ => Ans.no
theorem Nyu : Sound Tryd.prog 43 Nbh := by
  refine fn_sound' (C := Nc0) (c := bodyOf Tryd.f43) (cok_of tys_ok (allc Nxi (allc Nhl (allc Nrc (allc Nzf alln)))) (allc Tryd.call60 (allc Tryd.call42 (allc Tryd.call61 (allc Tryd.call62 alln)))) (by kernel_rfl)) Tryd.func43 (by kernel_rfl) LL Ndo ?_
  intro avs H r H' h
  unfold Nbh at h
  split at h
  · refine Awp.cast ?_ ?_ ?_ (Nny _ _ _ _ h) <;> kernel_rfl
  · simp [Ans.no,Ans.run] at h

def N1w : Ann := (.seq (.leaf [0,1]) (.seq (.seq (.leaf [0,1,10]) (.cond (.seq (.leaf [4]) (.leaf [4])) (.leaf [0,1]))) (.seq (.seq (.leaf [0,1,12,13]) (.block (.loop (.seq (.leaf [0,1,12,13,14]) (.seq (.cond (.leaf [0,1,12,13]) (.leaf [])) (.seq (.block (.seq (.leaf [0,1,5,12,13]) (.seq (.draw [] [0,1,2,3,4,5,6,7,8] [] [0,1,12,13,24]) (.cond (.seq (.leaf [4]) (.leaf [4])) (.leaf [0,1,12,13]))))) (.leaf [0,1,12,13]))))))) (.seq (.leaf [4]) (.leaf [4])))))
noncomputable def N4m : Ctx := ⟨tlook tys,olook [],ioF,0,false,[]⟩
theorem No5 (a b : List Int) : Link N4m LL (Code.seq (cq [0] (bodyOf Tryd.f44)) (cq [0,1] (bodyOf Tryd.f44))) (Ann.seq (aq [0] N1w) (aq [0,1] N1w)) ⟨mkE 26 0 [(0,dL a),(1,dL b)],[]⟩ (N8a a b) (Sum.elim (fun (t : Unit) => (Exit.normal,⟨mkE 26 0 [(0,dL a),(1,dL b)],[]⟩)) (fun (t : Bool) => (Exit.ret,⟨mkE 26 0 [(4,dB t)],[]⟩))) := .of fun K h => by
  simp only [N8a,wpW] at h
  exact .of (by kernel_rfl) h
theorem Nn9 (a b : List Int) : Link N4m LL (cq [0,0,1,1] (bodyOf Tryd.f44)) (aq [0,0,1,1] N1w) ⟨mkE 26 0 [(0,dL a),(1,dL b)],[]⟩ (N8o a) (fun (t : Int) => (Exit.normal,⟨mkE 26 0 [(0,dL a),(1,dL b),(12,dI t),(13,dI 0)],[]⟩)) := .of fun K h => by
  simp only [N8o,wpW] at h
  exact .of (by kernel_rfl) h
theorem Nzh (a b : List Int) (c d : Int) : Link N4m LL (cq [0,0,1,0,1,1] (bodyOf Tryd.f44)) (aq [0,0,1,0,1,1] N1w) ⟨mkE 26 0 [(0,dL a),(1,dL b),(12,dI c),(13,dI d)],[]⟩ (N2g a b c d) (Sum.elim (fun (t : Int) => (Exit.normal,⟨mkE 26 0 [(0,dL a),(1,dL b),(12,dI c),(13,dI t)],[]⟩)) (Sum.elim (fun (t : Bool) => (Exit.ret,⟨mkE 26 0 [(4,dB t)],[]⟩)) (fun (t : Unit) => ((Exit.exit 0),⟨mkE 26 0 [],[]⟩)))) := .of fun K h => by
  simp only [N2g,wpW] at h
  exact .of (by kernel_rfl) h
theorem Ns7 : Link N4m LL (cq [1,1,1] (bodyOf Tryd.f44)) (aq [1,1,1] N1w) ⟨mkE 26 0 [],[]⟩ (Neo) (fun (t : Bool) => (Exit.ret,⟨mkE 26 0 [(4,dB t)],[]⟩)) := .of fun K h => by
  simp only [Neo,wpW] at h
  exact .of (by kernel_rfl) h
theorem Npf (b d : List Int) {r : AV} {H' : Heap} (h : (Ans.mk _ (N39 b d) (fun (t : Bool) => (dB t,[])) [] none).run = some (r,H')) : Awp N4m LL (bodyOf Tryd.f44) N1w ⟨mkE 26 0 [(0,dL b),(1,dL d)],[]⟩ (Ret (tlook tys) Tryd.f44.results.toList r H') :=
  ret_of' (Link.cast (by kernel_rfl) (by kernel_rfl) (link_group (c := (cq [0,1] (bodyOf Tryd.f44))) (a := (aq [0,1] N1w)) [(cq [0] (bodyOf Tryd.f44))] [(aq [0] N1w)] rfl (link_seq2 (No5 b d) (fun (t : Unit) => (link_seq2 (link_seq (Nn9 b d) (fun (t : Int) => (link_block (fin2 := (Sum.elim (fun (t6 : Unit) => (Exit.normal,⟨mkE 26 0 [],[]⟩)) (fun (t6 : Bool) => (Exit.ret,⟨mkE 26 0 [(4,dB t6)],[]⟩)))) (id := 0) (link_loop (mk := fun (s : Int) => ⟨mkE 26 0 [(0,dL b),(1,dL d),(12,dI t),(13,dI s)],[]⟩) (fin := (Sum.elim (fun (t6 : Bool) => (Exit.ret,⟨mkE 26 0 [(4,dB t6)],[]⟩)) (fun (t6 : Unit) => ((Exit.exit 0),⟨mkE 26 0 [],[]⟩)))) (by
  rintro (t6 | t6) f K h
  · exact h
  · exact h) (fun s => link_map (Nzh b d t s) (Sum.elim (fun (t6 : Int) => Sum.inl t6) (Sum.elim (fun (t6 : Bool) => Sum.inr (Sum.inl t6)) (fun (t6 : Unit) => Sum.inr (Sum.inr t6)))) (by
  rintro (t6 | t6 | t6)
  · kernel_rfl
  · kernel_rfl
  · kernel_rfl)) 0) (Sum.elim (fun (t6 : Bool) => (Sum.inr t6)) (fun (t6 : Unit) => (Sum.inl ()))) (by
  rintro (t6 | t6) K h
  · exact Eq.mp (by kernel_rfl) h
  · exact Eq.mp (by kernel_rfl) h)))) (fun (t : Unit) => (Ns7)) (fun (t : Bool) => t) (by
  rintro t
  · kernel_rfl) (by
  rintro t f K h
  · exact h))) (fun (t : Bool) => t) (by
  rintro t
  · kernel_rfl) (by
  rintro t f K h
  · exact h)))) (by unfold N39; kernel_rfl) (by
  intro t
  exact ret_mk [dB t] (by kernel_rfl) (by kernel_rfl) (by kernel_rfl) (by kernel_rfl)) h
def Nfb : Fun := fun avs H =>
  match avs,H with
  | [.dat (.list (.int .i64)) a,.dat (.list (.int .i64)) b],[] => ⟨_,N39 a b,fun (t : Bool) => (dB t,[]),[],none⟩
  | _,_ => Ans.no
theorem Nrf : Sound Tryd.prog 44 Nfb := by
  refine fn_sound' (C := N4m) (c := bodyOf Tryd.f44) (cok_of tys_ok (alln) (alln) (by kernel_rfl)) Tryd.func44 (by kernel_rfl) LL N1w ?_
  intro avs H r H' h
  unfold Nfb at h
  split at h
  · refine Awp.cast ?_ ?_ ?_ (Npf _ _ h) <;> kernel_rfl
  · simp [Ans.no,Ans.run] at h

def ren_slices_Clone_ints_int : Go.Shelf.Ren := ⟨fun | 41 => 45 | n => n,fun | 4 => 4 | 22 => 24 | 23 => 23 | n => n,fun n => n⟩
theorem lay_slices_Clone_ints_int : SlLaysE0.n41 Tryd.prog ren_slices_Clone_ints_int := {
  mixed := by kernel_rfl
  f41 := ⟨Tryd.f45.name,by kernel_rfl,Tryd.func45.trans (congrArg some (by kernel_rfl))⟩
  t4 := Tryd.underlying4
  a4 := Tryd.isAgg4
  z4 := Tryd.sizeOf4
  v4 := Tryd.zeroValue4
  t22 := Tryd.underlying24
  a22 := Tryd.isAgg24
  z22 := Tryd.sizeOf24
  v22 := Tryd.zeroValue24 }
def Niq : Fun := F_cloneD
theorem No7 : Sound Tryd.prog 45 Niq := cloneD_sound lay_slices_Clone_ints_int (infoOf (Tryd.prog.info? 23)) (.slice none 0 0) 24 (by kernel_rfl) (by kernel_rfl) (by kernel_rfl) (by kernel_rfl) (by kernel_rfl) (by decide) Tryd.sizeOf23

def Ncc : Ann := (.seq (.leaf [2,3,4]) (.seq (.leaf [2,4,6]) (.seq (.seq (.leaf [2,4,6,20]) (.cond (.seq (.leaf [4,5]) (.leaf [4,5])) (.leaf [2,4,6]))) (.seq (.draw [2,5] [0,1,3,4,5,2,6,7] [] [4,6,7]) (.seq (.leaf [4,5]) (.leaf [4,5]))))))
noncomputable def Nax : Ctx := ⟨tlook tys,olook [(43,Nbh),(30,Nh),(22,N5s),(44,Nfb),(45,Niq)],ioF,0,true,[]⟩
theorem Nz9 (a : List Int) (b : List (List Int)) (c d g : Int) : Link Nax LL (bodyOf Tryd.f24) Ncc ⟨mkE 41 0 [(0,.agg [dL a,.dat (.list (.list (.int .i64))) b]),(1,.agg [dI c,dI d,dI g])],[]⟩ (N5n a b c d g) (fun (t : Bool × (List Int) × (List (List Int))) => (Exit.ret,⟨mkE 41 0 [(4,.ptr 0 0),(5,dB t.1)],[some (.box [.slc 1,.slc 2]),some (sI t.2.1),some (.nest (.int .i64) t.2.2 0 [])]⟩)) := .of fun K h => by
  simp only [N5n,wpW] at h
  exact .of (by kernel_rfl) h
theorem Npi (a : List Int) (b : List (List Int)) (c d g : Int) {r : AV} {H' : Heap} (h : (Ans.mk _ (N2t a b c d g) (fun (t : Bool × (List Int) × (List (List Int))) => (.tup [.agg [.slc 1,.slc 2],dB t.1],[some (.box [.slc 1,.slc 2]),some (sI t.2.1),some (.nest (.int .i64) t.2.2 0 [])])) [] none).run = some (r,H')) : Awp Nax LL (bodyOf Tryd.f24) Ncc ⟨mkE 41 0 [(0,.agg [dL a,.dat (.list (.list (.int .i64))) b]),(1,.agg [dI c,dI d,dI g])],[]⟩ (Ret (tlook tys) Tryd.f24.results.toList r H') :=
  ret_of' (Nz9 a b c d g) (by unfold N2t; kernel_rfl) (by
  intro t
  exact ret_mk [.agg [.slc 1,.slc 2],dB t.1] (by kernel_rfl) (by kernel_rfl) (by kernel_rfl) (by kernel_rfl)) h
def Nam : Fun := fun avs H =>
  match avs,H with
  | [.agg [.dat (.list (.int .i64)) a,.dat (.list (.list (.int .i64))) b],.agg [.dat (.int .i64) c,.dat (.int .i64) d,.dat (.int .i64) g]],[] => ⟨_,N2t a b c d g,fun (t : Bool × (List Int) × (List (List Int))) => (.tup [.agg [.slc 1,.slc 2],dB t.1],[some (.box [.slc 1,.slc 2]),some (sI t.2.1),some (.nest (.int .i64) t.2.2 0 [])]),[],none⟩
  | _,_ => Ans.no
theorem Nqm : Sound Tryd.prog 24 Nam := by
  refine fn_sound' (C := Nax) (c := bodyOf Tryd.f24) (cok_of tys_ok (allc Nyu (allc Nv (allc Nco (allc Nrf (allc No7 alln))))) (allc Tryd.call43 (allc Tryd.call30 (allc Tryd.call22 (allc Tryd.call44 (allc Tryd.call45 alln))))) (by kernel_rfl)) Tryd.func24 (by kernel_rfl) LL Ncc ?_
  intro avs H r H' h
  unfold Nam at h
  split at h
  · refine Awp.cast ?_ ?_ ?_ (Npi _ _ _ _ _ h) <;> kernel_rfl
  · simp [Ans.no,Ans.run] at h

def Nds : Ann := (.seq (.leaf [2,3,4]) (.seq (.seq (.leaf [2,3,4,8]) (.cond (.seq (.leaf [4,5]) (.leafF [⟨0,4,false,some 0,some (.int .i64)⟩,⟨0,4,true,some 1,some (.int .i64)⟩] [4,5])) (.leaf [2,3,4]))) (.seq (.seq (.leaf [2,3,4,12]) (.cond (.seq (.leaf [4,5]) (.leaf [4,5])) (.leaf [2,3,4]))) (.seq (.seq (.leaf [2,3,4,20]) (.cond (.seq (.leaf [4,5]) (.leaf [4,5])) (.leaf [2,3,4]))) (.seq (.leaf [4,5]) (.leaf [4,5]))))))
noncomputable def Nc2 : Ctx := ⟨tlook tys,olook [(9,N7h),(21,Nad),(22,N5s),(23,Nf2),(24,Nam)],ioF,0,true,[]⟩
theorem Nul (a : List Int) (b : List (List Int)) (c d g : Int) : Link Nc2 LL (bodyOf Tryd.f6) Nds ⟨mkE 30 0 [(0,.agg [dL a,.dat (.list (.list (.int .i64))) b]),(1,.agg [dI c,dI d,dI g])],[]⟩ (N5o a b c d g) (fun (t : Bool × (List Int) × (List (List Int))) => (Exit.ret,⟨mkE 30 0 [(4,.ptr 0 0),(5,dB t.1)],[some (.box [.slc 1,.slc 2]),some (sI t.2.1),some (.nest (.int .i64) t.2.2 0 [])]⟩)) := .of fun K h => by
  simp only [N5o,wpW] at h
  exact .of (by kernel_rfl) h
theorem Nwf (a : List Int) (b : List (List Int)) (c d g : Int) {r : AV} {H' : Heap} (h : (Ans.mk _ (N1v a b c d g) (fun (t : Bool × (List Int) × (List (List Int))) => (.tup [.agg [.slc 1,.slc 2],dB t.1],[some (.box [.slc 1,.slc 2]),some (sI t.2.1),some (.nest (.int .i64) t.2.2 0 [])])) [] none).run = some (r,H')) : Awp Nc2 LL (bodyOf Tryd.f6) Nds ⟨mkE 30 0 [(0,.agg [dL a,.dat (.list (.list (.int .i64))) b]),(1,.agg [dI c,dI d,dI g])],[]⟩ (Ret (tlook tys) Tryd.f6.results.toList r H') :=
  ret_of' (Nul a b c d g) (by unfold N1v; kernel_rfl) (by
  intro t
  exact ret_mk [.agg [.slc 1,.slc 2],dB t.1] (by kernel_rfl) (by kernel_rfl) (by kernel_rfl) (by kernel_rfl)) h
def Nbj : Fun := fun avs H =>
  match avs,H with
  | [.agg [.dat (.list (.int .i64)) a,.dat (.list (.list (.int .i64))) b],.agg [.dat (.int .i64) c,.dat (.int .i64) d,.dat (.int .i64) g]],[] => ⟨_,N1v a b c d g,fun (t : Bool × (List Int) × (List (List Int))) => (.tup [.agg [.slc 1,.slc 2],dB t.1],[some (.box [.slc 1,.slc 2]),some (sI t.2.1),some (.nest (.int .i64) t.2.2 0 [])]),[],none⟩
  | _,_ => Ans.no
theorem Nui : Sound Tryd.prog 6 Nbj := by
  refine fn_sound' (C := Nc2) (c := bodyOf Tryd.f6) (cok_of tys_ok (allc Nka (allc Ntz (allc Nco (allc Nvs (allc Nqm alln))))) (allc Tryd.call9 (allc Tryd.call21 (allc Tryd.call22 (allc Tryd.call23 (allc Tryd.call24 alln))))) (by kernel_rfl)) Tryd.func6 (by kernel_rfl) LL Nds ?_
  intro avs H r H' h
  unfold Nbj at h
  split at h
  · refine Awp.cast ?_ ?_ ?_ (Nwf _ _ _ _ _ h) <;> kernel_rfl
  · simp [Ans.no,Ans.run] at h

def N1r : Ann := (.seq (.leaf [0,1]) (.seq (.seq (.leaf [0,1,10]) (.cond (.seq (.leaf [4]) (.leaf [4])) (.leaf [0,1]))) (.seq (.seq (.leaf [0,1,5]) (.block (.loop (.seq (.seq (.leaf [0,1,5,14]) (.cond (.leaf [0,1,5]) (.leaf []))) (.seq (.block (.seq (.draw [] [0,1,2,3,4,5,6,7,8] [] [0,1,5,25]) (.cond (.seq (.leaf [4]) (.leaf [4])) (.leaf [0,1,5])))) (.leaf [0,1,5])))))) (.seq (.leaf [4]) (.leaf [4])))))
noncomputable def N4a : Ctx := ⟨tlook tys,olook [],ioF,0,false,[]⟩
theorem Nmi (a b : List Int) : Link N4a LL (Code.seq (cq [0] (bodyOf Tryd.f28)) (cq [0,1] (bodyOf Tryd.f28))) (Ann.seq (aq [0] N1r) (aq [0,1] N1r)) ⟨mkE 26 0 [(0,dL a),(1,dL b)],[]⟩ (N6h a b) (Sum.elim (fun (t : Unit) => (Exit.normal,⟨mkE 26 0 [(0,dL a),(1,dL b)],[]⟩)) (fun (t : Bool) => (Exit.ret,⟨mkE 26 0 [(4,dB t)],[]⟩))) := .of fun K h => by
  simp only [N6h,wpW] at h
  exact .of (by kernel_rfl) h
theorem Np6 (a b : List Int) : Link N4a LL (cq [0,0,1,1] (bodyOf Tryd.f28)) (aq [0,0,1,1] N1r) ⟨mkE 26 0 [(0,dL a),(1,dL b)],[]⟩ (N74) (fun (t : Unit) => (Exit.normal,⟨mkE 26 0 [(0,dL a),(1,dL b),(5,dI 0)],[]⟩)) := .of fun K h => by
  simp only [N74,wpW] at h
  exact .of (by kernel_rfl) h
theorem Nxc (a b : List Int) (c : Int) : Link N4a LL (cq [0,0,1,0,1,1] (bodyOf Tryd.f28)) (aq [0,0,1,0,1,1] N1r) ⟨mkE 26 0 [(0,dL a),(1,dL b),(5,dI c)],[]⟩ (N47 a b c) (Sum.elim (fun (t : Int) => (Exit.normal,⟨mkE 26 0 [(0,dL a),(1,dL b),(5,dI t)],[]⟩)) (Sum.elim (fun (t : Bool) => (Exit.ret,⟨mkE 26 0 [(4,dB t)],[]⟩)) (fun (t : Unit) => ((Exit.exit 0),⟨mkE 26 0 [],[]⟩)))) := .of fun K h => by
  simp only [N47,wpW] at h
  exact .of (by kernel_rfl) h
theorem Nzt : Link N4a LL (cq [1,1,1] (bodyOf Tryd.f28)) (aq [1,1,1] N1r) ⟨mkE 26 0 [],[]⟩ (N75) (fun (t : Bool) => (Exit.ret,⟨mkE 26 0 [(4,dB t)],[]⟩)) := .of fun K h => by
  simp only [N75,wpW] at h
  exact .of (by kernel_rfl) h
theorem Nvr (b d : List Int) {r : AV} {H' : Heap} (h : (Ans.mk _ (N1d b d) (fun (t : Bool) => (dB t,[])) [] none).run = some (r,H')) : Awp N4a LL (bodyOf Tryd.f28) N1r ⟨mkE 26 0 [(0,dL b),(1,dL d)],[]⟩ (Ret (tlook tys) Tryd.f28.results.toList r H') :=
  ret_of' (Link.cast (by kernel_rfl) (by kernel_rfl) (link_group (c := (cq [0,1] (bodyOf Tryd.f28))) (a := (aq [0,1] N1r)) [(cq [0] (bodyOf Tryd.f28))] [(aq [0] N1r)] rfl (link_seq2 (Nmi b d) (fun (t : Unit) => (link_seq2 (link_seq (Np6 b d) (fun (t : Unit) => (link_block (fin2 := (Sum.elim (fun (t : Unit) => (Exit.normal,⟨mkE 26 0 [],[]⟩)) (fun (t : Bool) => (Exit.ret,⟨mkE 26 0 [(4,dB t)],[]⟩)))) (id := 0) (link_loop (mk := fun (s : Int) => ⟨mkE 26 0 [(0,dL b),(1,dL d),(5,dI s)],[]⟩) (fin := (Sum.elim (fun (t : Bool) => (Exit.ret,⟨mkE 26 0 [(4,dB t)],[]⟩)) (fun (t : Unit) => ((Exit.exit 0),⟨mkE 26 0 [],[]⟩)))) (by
  rintro (t | t) f K h
  · exact h
  · exact h) (fun s => link_map (Nxc b d s) (Sum.elim (fun (t : Int) => Sum.inl t) (Sum.elim (fun (t : Bool) => Sum.inr (Sum.inl t)) (fun (t : Unit) => Sum.inr (Sum.inr t)))) (by
  rintro (t | t | t)
  · kernel_rfl
  · kernel_rfl
  · kernel_rfl)) 0) (Sum.elim (fun (t : Bool) => (Sum.inr t)) (fun (t : Unit) => (Sum.inl ()))) (by
  rintro (t | t) K h
  · exact Eq.mp (by kernel_rfl) h
  · exact Eq.mp (by kernel_rfl) h)))) (fun (t : Unit) => (Nzt)) (fun (t : Bool) => t) (by
  rintro t
  · kernel_rfl) (by
  rintro t f K h
  · exact h))) (fun (t : Bool) => t) (by
  rintro t
  · kernel_rfl) (by
  rintro t f K h
  · exact h)))) (by unfold N1d; kernel_rfl) (by
  intro t
  exact ret_mk [dB t] (by kernel_rfl) (by kernel_rfl) (by kernel_rfl) (by kernel_rfl)) h
def N58 : Fun := fun avs H =>
  match avs,H with
  | [.dat (.list (.int .i64)) a,.dat (.list (.int .i64)) b],[] => ⟨_,N1d a b,fun (t : Bool) => (dB t,[]),[],none⟩
  | _,_ => Ans.no
theorem Ni6 : Sound Tryd.prog 28 N58 := by
  refine fn_sound' (C := N4a) (c := bodyOf Tryd.f28) (cok_of tys_ok (alln) (alln) (by kernel_rfl)) Tryd.func28 (by kernel_rfl) LL N1r ?_
  intro avs H r H' h
  unfold N58 at h
  split at h
  · refine Awp.cast ?_ ?_ ?_ (Nvr _ _ h) <;> kernel_rfl
  · simp [Ans.no,Ans.run] at h

def N12 : Ann := (.seq (.leaf [0,1]) (.seq (.seq (.leaf [0,1,10]) (.cond (.seq (.leaf [4]) (.leaf [4])) (.leaf [0,1]))) (.seq (.seq (.leaf [0,1,5]) (.block (.loop (.seq (.seq (.leaf [0,1,5,14]) (.cond (.leaf [0,1,5]) (.leaf []))) (.seq (.block (.seq (.draw [8] [0,1,2,3,4,5,6,7,8,9] [] [0,1,5,26]) (.cond (.seq (.leaf [4]) (.leaf [4])) (.leaf [0,1,5])))) (.leaf [0,1,5])))))) (.seq (.leaf [4]) (.leaf [4])))))
noncomputable def N3s : Ctx := ⟨tlook tys,olook [(28,N58)],ioF,0,false,[]⟩
theorem N10b (a b : List (List Int)) : Link N3s LL (Code.seq (cq [0] (bodyOf Tryd.f29)) (cq [0,1] (bodyOf Tryd.f29))) (Ann.seq (aq [0] N12) (aq [0,1] N12)) ⟨mkE 27 0 [(0,.dat (.list (.list (.int .i64))) a),(1,.dat (.list (.list (.int .i64))) b)],[]⟩ (N72 a b) (Sum.elim (fun (t : Unit) => (Exit.normal,⟨mkE 27 0 [(0,.dat (.list (.list (.int .i64))) a),(1,.dat (.list (.list (.int .i64))) b)],[]⟩)) (fun (t : Bool) => (Exit.ret,⟨mkE 27 0 [(4,dB t)],[]⟩))) := .of fun K h => by
  simp only [N72,wpW] at h
  exact .of (by kernel_rfl) h
theorem N103 (a b : List (List Int)) : Link N3s LL (cq [0,0,1,1] (bodyOf Tryd.f29)) (aq [0,0,1,1] N12) ⟨mkE 27 0 [(0,.dat (.list (.list (.int .i64))) a),(1,.dat (.list (.list (.int .i64))) b)],[]⟩ (N84) (fun (t : Unit) => (Exit.normal,⟨mkE 27 0 [(0,.dat (.list (.list (.int .i64))) a),(1,.dat (.list (.list (.int .i64))) b),(5,dI 0)],[]⟩)) := .of fun K h => by
  simp only [N84,wpW] at h
  exact .of (by kernel_rfl) h
theorem Nky (a b : List (List Int)) (c : Int) : Link N3s LL (cq [0,0,1,0,1,1] (bodyOf Tryd.f29)) (aq [0,0,1,0,1,1] N12) ⟨mkE 27 0 [(0,.dat (.list (.list (.int .i64))) a),(1,.dat (.list (.list (.int .i64))) b),(5,dI c)],[]⟩ (N4b a b c) (Sum.elim (fun (t : Int) => (Exit.normal,⟨mkE 27 0 [(0,.dat (.list (.list (.int .i64))) a),(1,.dat (.list (.list (.int .i64))) b),(5,dI t)],[]⟩)) (Sum.elim (fun (t : Bool) => (Exit.ret,⟨mkE 27 0 [(4,dB t)],[]⟩)) (fun (t : Unit) => ((Exit.exit 0),⟨mkE 27 0 [],[]⟩)))) := .of fun K h => by
  simp only [N4b,wpW] at h
  exact .of (by kernel_rfl) h
theorem Nyd : Link N3s LL (cq [1,1,1] (bodyOf Tryd.f29)) (aq [1,1,1] N12) ⟨mkE 27 0 [],[]⟩ (N7j) (fun (t : Bool) => (Exit.ret,⟨mkE 27 0 [(4,dB t)],[]⟩)) := .of fun K h => by
  simp only [N7j,wpW] at h
  exact .of (by kernel_rfl) h
theorem Nt1 (b d : List (List Int)) {r : AV} {H' : Heap} (h : (Ans.mk _ (N26 b d) (fun (t : Bool) => (dB t,[])) [] none).run = some (r,H')) : Awp N3s LL (bodyOf Tryd.f29) N12 ⟨mkE 27 0 [(0,.dat (.list (.list (.int .i64))) b),(1,.dat (.list (.list (.int .i64))) d)],[]⟩ (Ret (tlook tys) Tryd.f29.results.toList r H') :=
  ret_of' (Link.cast (by kernel_rfl) (by kernel_rfl) (link_group (c := (cq [0,1] (bodyOf Tryd.f29))) (a := (aq [0,1] N12)) [(cq [0] (bodyOf Tryd.f29))] [(aq [0] N12)] rfl (link_seq2 (N10b b d) (fun (t : Unit) => (link_seq2 (link_seq (N103 b d) (fun (t : Unit) => (link_block (fin2 := (Sum.elim (fun (t : Unit) => (Exit.normal,⟨mkE 27 0 [],[]⟩)) (fun (t : Bool) => (Exit.ret,⟨mkE 27 0 [(4,dB t)],[]⟩)))) (id := 0) (link_loop (mk := fun (s : Int) => ⟨mkE 27 0 [(0,.dat (.list (.list (.int .i64))) b),(1,.dat (.list (.list (.int .i64))) d),(5,dI s)],[]⟩) (fin := (Sum.elim (fun (t : Bool) => (Exit.ret,⟨mkE 27 0 [(4,dB t)],[]⟩)) (fun (t : Unit) => ((Exit.exit 0),⟨mkE 27 0 [],[]⟩)))) (by
  rintro (t | t) f K h
  · exact h
  · exact h) (fun s => link_map (Nky b d s) (Sum.elim (fun (t : Int) => Sum.inl t) (Sum.elim (fun (t : Bool) => Sum.inr (Sum.inl t)) (fun (t : Unit) => Sum.inr (Sum.inr t)))) (by
  rintro (t | t | t)
  · kernel_rfl
  · kernel_rfl
  · kernel_rfl)) 0) (Sum.elim (fun (t : Bool) => (Sum.inr t)) (fun (t : Unit) => (Sum.inl ()))) (by
  rintro (t | t) K h
  · exact Eq.mp (by kernel_rfl) h
  · exact Eq.mp (by kernel_rfl) h)))) (fun (t : Unit) => (Nyd)) (fun (t : Bool) => t) (by
  rintro t
  · kernel_rfl) (by
  rintro t f K h
  · exact h))) (fun (t : Bool) => t) (by
  rintro t
  · kernel_rfl) (by
  rintro t f K h
  · exact h)))) (by unfold N26; kernel_rfl) (by
  intro t
  exact ret_mk [dB t] (by kernel_rfl) (by kernel_rfl) (by kernel_rfl) (by kernel_rfl)) h
def N80 : Fun := fun avs H =>
  match avs,H with
  | [.dat (.list (.list (.int .i64))) a,.dat (.list (.list (.int .i64))) b],[] => ⟨_,N26 a b,fun (t : Bool) => (dB t,[]),[],none⟩
  | _,_ => Ans.no
theorem Nvi : Sound Tryd.prog 29 N80 := by
  refine fn_sound' (C := N3s) (c := bodyOf Tryd.f29) (cok_of tys_ok (allc Ni6 alln) (allc Tryd.call28 alln) (by kernel_rfl)) Tryd.func29 (by kernel_rfl) LL N12 ?_
  intro avs H r H' h
  unfold N80 at h
  split at h
  · refine Awp.cast ?_ ?_ ?_ (Nt1 _ _ h) <;> kernel_rfl
  · simp [Ans.no,Ans.run] at h

def Ncw : Ann := (.seq (.leaf [2,3]) (.seq (.leaf [4]) (.leaf [4])))
noncomputable def Nbb : Ctx := ⟨tlook tys,olook [(28,N58),(29,N80)],ioF,0,false,[]⟩
theorem Nu3 (a : List Int) (b : List (List Int)) (c : List Int) (d : List (List Int)) : Link Nbb LL (bodyOf Tryd.f8) Ncw ⟨mkE 17 0 [(0,.agg [dL a,.dat (.list (.list (.int .i64))) b]),(1,.agg [dL c,.dat (.list (.list (.int .i64))) d])],[]⟩ (N91 a b c d) (fun (t : Bool) => (Exit.ret,⟨mkE 17 0 [(4,dB t)],[]⟩)) := .of fun K h => by
  simp only [N91,wpW] at h
  exact .of (by kernel_rfl) h
theorem Nzv (a : List Int) (b : List (List Int)) (c : List Int) (d : List (List Int)) {r : AV} {H' : Heap} (h : (Ans.mk _ (N25 a b c d) (fun (t : Bool) => (dB t,[])) [] none).run = some (r,H')) : Awp Nbb LL (bodyOf Tryd.f8) Ncw ⟨mkE 17 0 [(0,.agg [dL a,.dat (.list (.list (.int .i64))) b]),(1,.agg [dL c,.dat (.list (.list (.int .i64))) d])],[]⟩ (Ret (tlook tys) Tryd.f8.results.toList r H') :=
  ret_of' (Nu3 a b c d) (by unfold N25; kernel_rfl) (by
  intro t
  exact ret_mk [dB t] (by kernel_rfl) (by kernel_rfl) (by kernel_rfl) (by kernel_rfl)) h
def Njf : Ann := (.seq (.leaf [2,3]) (.seq (.leaf [4]) (.leaf [4])))
noncomputable def Nkd : Ctx := ⟨tlook tys,olook [(28,N58),(29,N80)],ioF,0,false,[]⟩
theorem N10g (a : List Int) (b : List (List Int)) : Link Nkd LL (bodyOf Tryd.f8) Njf ⟨mkE 17 0 [(0,.agg [dL a,.dat (.list (.list (.int .i64))) b]),(1,.agg [.nils,.nils])],[]⟩ (New a b) (fun (t : Bool) => (Exit.ret,⟨mkE 17 0 [(4,dB t)],[]⟩)) := .of fun K h => by
  simp only [New,wpW] at h
  exact .of (by kernel_rfl) h
theorem Nz4 (a : List Int) (b : List (List Int)) {r : AV} {H' : Heap} (h : (Ans.mk _ (Nci a b) (fun (t : Bool) => (dB t,[])) [] none).run = some (r,H')) : Awp Nkd LL (bodyOf Tryd.f8) Njf ⟨mkE 17 0 [(0,.agg [dL a,.dat (.list (.list (.int .i64))) b]),(1,.agg [.nils,.nils])],[]⟩ (Ret (tlook tys) Tryd.f8.results.toList r H') :=
  ret_of' (N10g a b) (by unfold Nci; kernel_rfl) (by
  intro t
  exact ret_mk [dB t] (by kernel_rfl) (by kernel_rfl) (by kernel_rfl) (by kernel_rfl)) h
def Neg : Fun := fun avs H =>
  match avs,H with
  | [.agg [.dat (.list (.int .i64)) a,.dat (.list (.list (.int .i64))) b],.agg [.dat (.list (.int .i64)) c,.dat (.list (.list (.int .i64))) d]],[] => ⟨_,N25 a b c d,fun (t : Bool) => (dB t,[]),[],none⟩
  | [.agg [.dat (.list (.int .i64)) g,.dat (.list (.list (.int .i64))) i],.agg [.nils,.nils]],[] => ⟨_,Nci g i,fun (t : Bool) => (dB t,[]),[],none⟩
  | _,_ => Ans.no
theorem Nx6 : Sound Tryd.prog 8 Neg := by
  refine fn_sound' (C := Nbb) (c := bodyOf Tryd.f8) (cok_of tys_ok (allc Ni6 (allc Nvi alln)) (allc Tryd.call28 (allc Tryd.call29 alln)) (by kernel_rfl)) Tryd.func8 (by kernel_rfl) LL Ncw ?_
  intro avs H r H' h
  unfold Neg at h
  split at h
  · refine Awp.cast ?_ ?_ ?_ (Nzv _ _ _ _ h) <;> kernel_rfl
  · refine Awp.cast ?_ ?_ ?_ (Nz4 _ _ h) <;> kernel_rfl
  · simp [Ans.no,Ans.run] at h

def Nfh : Ann := (.seq (.leaf []) (.seq (.leaf [0]) (.leaf [0])))
noncomputable def Ndc : Ctx := ⟨tlook tys,olook [(30,Nh)],ioF,0,false,[]⟩
theorem Nnf : Link Ndc LL (bodyOf Tryd.f10) Nfh ⟨mkE 8 0 [],[]⟩ (Na1) (fun (t : Bool) => (Exit.ret,⟨mkE 8 0 [(0,dB t)],[]⟩)) := .of fun K h => by
  simp only [Na1,wpW] at h
  exact .of (by kernel_rfl) h
theorem Nqh {r : AV} {H' : Heap} (h : (Ans.mk _ (N2e) (fun (t : Bool) => (dB t,[])) [] none).run = some (r,H')) : Awp Ndc LL (bodyOf Tryd.f10) Nfh ⟨mkE 8 0 [],[]⟩ (Ret (tlook tys) Tryd.f10.results.toList r H') :=
  ret_of' (Nnf) (by unfold N2e; kernel_rfl) (by
  intro t
  exact ret_mk [dB t] (by kernel_rfl) (by kernel_rfl) (by kernel_rfl) (by kernel_rfl)) h
def Nbm : Fun := fun avs H =>
  match avs,H with
  | [],[] => ⟨_,N2e,fun (t : Bool) => (dB t,[]),[],none⟩
  | _,_ => Ans.no
theorem Nnu : Sound Tryd.prog 10 Nbm := by
  refine fn_sound' (C := Ndc) (c := bodyOf Tryd.f10) (cok_of tys_ok (allc Nv alln) (allc Tryd.call30 alln) (by kernel_rfl)) Tryd.func10 (by kernel_rfl) LL Nfh ?_
  intro avs H r H' h
  unfold Nbm at h
  split at h
  · refine Awp.cast ?_ ?_ ?_ (Nqh h) <;> kernel_rfl
  · simp [Ans.no,Ans.run] at h

def Ne9 : Ann := (.seq (.leaf [0,1,4]) (.seq (.seq (.leaf [0,1,4,16]) (.cond (.seq (.leaf [4,5]) (.leaf [4,5])) (.leaf [0,1,4]))) (.seq (.leaf [4,5]) (.leaf [4,5]))))
noncomputable def Nf5 : Ctx := ⟨tlook tys,olook [],ioF,0,false,[]⟩
theorem Nnz (a b : Int) : Link Nf5 LL (bodyOf Tryd.f51) Ne9 ⟨mkE 25 0 [(0,dI a),(1,dI b)],[]⟩ (N9i a b) (fun (t : Bool × Int × Int) => (Exit.ret,⟨mkE 25 0 [(4,.ptr 0 0),(5,dB t.1)],[some (.box [dI t.2.1,dI t.2.2])]⟩)) := .of fun K h => by
  simp only [N9i,wpW] at h
  exact .of (by kernel_rfl) h
theorem Nvw (a b : Int) {r : AV} {H' : Heap} (h : (Ans.mk _ (N3y a b) (fun (t : Bool × Int × Int) => (.tup [.agg [dI t.2.1,dI t.2.2],dB t.1],[some (.box [dI t.2.1,dI t.2.2])])) [] none).run = some (r,H')) : Awp Nf5 LL (bodyOf Tryd.f51) Ne9 ⟨mkE 25 0 [(0,dI a),(1,dI b)],[]⟩ (Ret (tlook tys) Tryd.f51.results.toList r H') :=
  ret_of' (Nnz a b) (by unfold N3y; kernel_rfl) (by
  intro t
  exact ret_mk [.agg [dI t.2.1,dI t.2.2],dB t.1] (by kernel_rfl) (by kernel_rfl) (by kernel_rfl) (by kernel_rfl)) h
def Nb5 : Fun := fun avs H =>
  match avs,H with
  | [.dat (.int .i64) a,.dat (.int .i64) b],[] => ⟨_,N3y a b,fun (t : Bool × Int × Int) => (.tup [.agg [dI t.2.1,dI t.2.2],dB t.1],[some (.box [dI t.2.1,dI t.2.2])]),[],none⟩
  | _,_ => Ans.no
theorem Nrg : Sound Tryd.prog 51 Nb5 := by
  refine fn_sound' (C := Nf5) (c := bodyOf Tryd.f51) (cok_of tys_ok (alln) (alln) (by kernel_rfl)) Tryd.func51 (by kernel_rfl) LL Ne9 ?_
  intro avs H r H' h
  unfold Nb5 at h
  split at h
  · refine Awp.cast ?_ ?_ ?_ (Nvw _ _ h) <;> kernel_rfl
  · simp [Ans.no,Ans.run] at h

def N1m : Ann := (.seq (.leaf [0]) (.seq (.leaf [0,3]) (.seq (.seq (.leaf [3,11,12,13]) (.block (.loop (.seq (.leaf [3,11,12,13,14]) (.seq (.cond (.leaf [3,11,12,13]) (.leaf [3])) (.seq (.block (.seq (.leaf [3,4,5,11,12,13]) (.seq (.leaf [3,6,7,11,12,13]) (.seq (.leaf [3,6,11,12,13,25]) (.cond (.leaf [3,11,12,13]) (.leaf [3,11,12,13])))))) (.leaf [3,11,12,13]))))))) (.seq (.leaf [2]) (.leaf [2])))))
noncomputable def N3c : Ctx := ⟨tlook tys,olook [(51,Nb5)],ioF,0,false,[]⟩
theorem Nwd (a : List Int) : Link N3c LL (Code.seq (cq [0] (bodyOf Tryd.f32)) (cq [0,1] (bodyOf Tryd.f32))) (Ann.seq (aq [0] N1m) (aq [0,1] N1m)) ⟨mkE 32 0 [(0,dL a)],[]⟩ (N9n a) (fun (t : (List (Int × Int × Unit))) => (Exit.normal,⟨mkE 32 0 [(0,dL a),(3,.slc 0)],[some (.seq (.pair (.int .i64) (.pair (.int .i64) .unit)) t)]⟩)) := .of fun K h => by
  simp only [N9n,wpW] at h
  exact .of (by kernel_rfl) h
theorem Nzi (a : List Int) (b : List (Int × Int × Unit)) : Link N3c LL (cq [0,0,1,1] (bodyOf Tryd.f32)) (aq [0,0,1,1] N1m) ⟨mkE 32 0 [(0,dL a),(3,.slc 0)],[some (.seq (.pair (.int .i64) (.pair (.int .i64) .unit)) b)]⟩ (N9q a) (fun (t : Int) => (Exit.normal,⟨mkE 32 0 [(3,.slc 0),(11,dL a),(12,dI t),(13,dI 0)],[some (.seq (.pair (.int .i64) (.pair (.int .i64) .unit)) b)]⟩)) := .of fun K h => by
  simp only [N9q,wpW] at h
  exact .of (by kernel_rfl) h
theorem Nxh (a : List Int) (b c : Int) (d : List (Int × Int × Unit)) : Link N3c LL (cq [0,0,1,0,1,1] (bodyOf Tryd.f32)) (aq [0,0,1,0,1,1] N1m) ⟨mkE 32 0 [(3,.slc 0),(11,dL a),(12,dI b),(13,dI c)],[some (.seq (.pair (.int .i64) (.pair (.int .i64) .unit)) d)]⟩ (N4g a b c d) (Sum.elim (fun (t : Int × (List (Int × Int × Unit))) => (Exit.normal,⟨mkE 32 0 [(3,.slc 0),(11,dL a),(12,dI b),(13,dI t.1)],[some (.seq (.pair (.int .i64) (.pair (.int .i64) .unit)) t.2)]⟩)) (fun (t : (List (Int × Int × Unit))) => ((Exit.exit 0),⟨mkE 32 0 [(3,.slc 0)],[some (.seq (.pair (.int .i64) (.pair (.int .i64) .unit)) t)]⟩))) := .of fun K h => by
  simp only [N4g,wpW] at h
  exact .of (by kernel_rfl) h
theorem Ntk (a : List (Int × Int × Unit)) : Link N3c LL (cq [1,1,1] (bodyOf Tryd.f32)) (aq [1,1,1] N1m) ⟨mkE 32 0 [(3,.slc 0)],[some (.seq (.pair (.int .i64) (.pair (.int .i64) .unit)) a)]⟩ (N8c a) (fun (t : (List (Int × Int × Unit))) => (Exit.ret,⟨mkE 32 0 [(2,.slc 0)],[some (.seq (.pair (.int .i64) (.pair (.int .i64) .unit)) t)]⟩)) := .of fun K h => by
  simp only [N8c,wpW] at h
  exact .of (by kernel_rfl) h
theorem Nla (b : List Int) {r : AV} {H' : Heap} (h : (Ans.mk _ (N2r b) (fun (t : (List (Int × Int × Unit))) => (.slc 0,[some (.seq (.pair (.int .i64) (.pair (.int .i64) .unit)) t)])) [] none).run = some (r,H')) : Awp N3c LL (bodyOf Tryd.f32) N1m ⟨mkE 32 0 [(0,dL b)],[]⟩ (Ret (tlook tys) Tryd.f32.results.toList r H') :=
  ret_of' (Link.cast (by kernel_rfl) (by kernel_rfl) (link_group (c := (cq [0,1] (bodyOf Tryd.f32))) (a := (aq [0,1] N1m)) [(cq [0] (bodyOf Tryd.f32))] [(aq [0] N1m)] rfl (link_seq (Nwd b) (fun (t : (List (Int × Int × Unit))) => (link_seq (link_seq (Nzi b t) (fun (t26 : Int) => (link_block (fin2 := (fun (t7 : (List (Int × Int × Unit))) => (Exit.normal,⟨mkE 32 0 [(3,.slc 0)],[some (.seq (.pair (.int .i64) (.pair (.int .i64) .unit)) t7)]⟩))) (id := 0) (link_loop (mk := fun (s : Int × (List (Int × Int × Unit))) => ⟨mkE 32 0 [(3,.slc 0),(11,dL b),(12,dI t26),(13,dI s.1)],[some (.seq (.pair (.int .i64) (.pair (.int .i64) .unit)) s.2)]⟩) (fin := (fun (t7 : (List (Int × Int × Unit))) => ((Exit.exit 0),⟨mkE 32 0 [(3,.slc 0)],[some (.seq (.pair (.int .i64) (.pair (.int .i64) .unit)) t7)]⟩))) (by
  rintro t7 f K h
  · exact h) (fun s => link_map (Nxh b t26 s.1 s.2) (Sum.elim (fun (t7 : Int × (List (Int × Int × Unit))) => Sum.inl (t7.1,t7.2)) (fun (t7 : (List (Int × Int × Unit))) => Sum.inr t7)) (by
  rintro (t7 | t7)
  · kernel_rfl
  · kernel_rfl)) (0,t)) (fun (t7 : (List (Int × Int × Unit))) => t7) (by
  rintro t7 K h
  · exact Eq.mp (by kernel_rfl) h)))) (fun (t26 : (List (Int × Int × Unit))) => (Ntk t26))))))) (by unfold N2r; kernel_rfl) (by
  intro t
  exact ret_mk [.slc 0] (by kernel_rfl) (by kernel_rfl) (by kernel_rfl) (by kernel_rfl)) h
def Ndk : Fun := fun avs H =>
  match avs,H with
  | [.dat (.list (.int .i64)) a],[] => ⟨_,N2r a,fun (t : (List (Int × Int × Unit))) => (.slc 0,[some (.seq (.pair (.int .i64) (.pair (.int .i64) .unit)) t)]),[],none⟩
  | _,_ => Ans.no
theorem Nqo : Sound Tryd.prog 32 Ndk := by
  refine fn_sound' (C := N3c) (c := bodyOf Tryd.f32) (cok_of tys_ok (allc Nrg alln) (allc Tryd.call51 alln) (by kernel_rfl)) Tryd.func32 (by kernel_rfl) LL N1m ?_
  intro avs H r H' h
  unfold Ndk at h
  split at h
  · refine Awp.cast ?_ ?_ ?_ (Nla _ h) <;> kernel_rfl
  · simp [Ans.no,Ans.run] at h

def Na7 : Ann := (.seq (.leaf [1,2]) (.seq (.leaf [4]) (.leaf [4])))
noncomputable def Naw : Ctx := ⟨tlook tys,olook [],ioF,0,false,[]⟩
theorem Npp (a b c : Int) : Link Naw LL (bodyOf Tryd.f52) Na7 ⟨mkE 15 0 [(0,.agg [dI a,dI b]),(1,dI c)],[]⟩ (N67 a b c) (fun (t : Bool) => (Exit.ret,⟨mkE 15 0 [(4,dB t)],[]⟩)) := .of fun K h => by
  simp only [N67,wpW] at h
  exact .of (by kernel_rfl) h
theorem Nyo (a b c : Int) {r : AV} {H' : Heap} (h : (Ans.mk _ (N28 a b c) (fun (t : Bool) => (dB t,[])) [] none).run = some (r,H')) : Awp Naw LL (bodyOf Tryd.f52) Na7 ⟨mkE 15 0 [(0,.agg [dI a,dI b]),(1,dI c)],[]⟩ (Ret (tlook tys) Tryd.f52.results.toList r H') :=
  ret_of' (Npp a b c) (by unfold N28; kernel_rfl) (by
  intro t
  exact ret_mk [dB t] (by kernel_rfl) (by kernel_rfl) (by kernel_rfl) (by kernel_rfl)) h
def Ncr : Fun := fun avs H =>
  match avs,H with
  | [.agg [.dat (.int .i64) a,.dat (.int .i64) b],.dat (.int .i64) c],[] => ⟨_,N28 a b c,fun (t : Bool) => (dB t,[]),[],none⟩
  | _,_ => Ans.no
theorem Nlm : Sound Tryd.prog 52 Ncr := by
  refine fn_sound' (C := Naw) (c := bodyOf Tryd.f52) (cok_of tys_ok (alln) (alln) (by kernel_rfl)) Tryd.func52 (by kernel_rfl) LL Na7 ?_
  intro avs H r H' h
  unfold Ncr at h
  split at h
  · refine Awp.cast ?_ ?_ ?_ (Nyo _ _ _ h) <;> kernel_rfl
  · simp [Ans.no,Ans.run] at h

def Nc5 : Ann := (.seq (.leaf [1,2]) (.seq (.leaf [4]) (.leaf [4])))
noncomputable def Nf8 : Ctx := ⟨tlook tys,olook [],ioF,0,false,[]⟩
theorem Nmt (a b c : Int) : Link Nf8 LL (bodyOf Tryd.f53) Nc5 ⟨mkE 15 0 [(0,.agg [dI a,dI b]),(1,dI c)],[]⟩ (N81 a b c) (fun (t : Bool) => (Exit.ret,⟨mkE 15 0 [(4,dB t)],[]⟩)) := .of fun K h => by
  simp only [N81,wpW] at h
  exact .of (by kernel_rfl) h
theorem Ntc (a b c : Int) {r : AV} {H' : Heap} (h : (Ans.mk _ (N1z a b c) (fun (t : Bool) => (dB t,[])) [] none).run = some (r,H')) : Awp Nf8 LL (bodyOf Tryd.f53) Nc5 ⟨mkE 15 0 [(0,.agg [dI a,dI b]),(1,dI c)],[]⟩ (Ret (tlook tys) Tryd.f53.results.toList r H') :=
  ret_of' (Nmt a b c) (by unfold N1z; kernel_rfl) (by
  intro t
  exact ret_mk [dB t] (by kernel_rfl) (by kernel_rfl) (by kernel_rfl) (by kernel_rfl)) h
def Nex : Fun := fun avs H =>
  match avs,H with
  | [.agg [.dat (.int .i64) a,.dat (.int .i64) b],.dat (.int .i64) c],[] => ⟨_,N1z a b c,fun (t : Bool) => (dB t,[]),[],none⟩
  | _,_ => Ans.no
theorem Nrm : Sound Tryd.prog 53 Nex := by
  refine fn_sound' (C := Nf8) (c := bodyOf Tryd.f53) (cok_of tys_ok (alln) (alln) (by kernel_rfl)) Tryd.func53 (by kernel_rfl) LL Nc5 ?_
  intro avs H r H' h
  unfold Nex at h
  split at h
  · refine Awp.cast ?_ ?_ ?_ (Ntc _ _ _ h) <;> kernel_rfl
  · simp [Ans.no,Ans.run] at h

def Nfi : Ann := (.seq (.leaf [2,3]) (.seq (.leaf [4]) (.leaf [4])))
noncomputable def Nas : Ctx := ⟨tlook tys,olook [(52,Ncr),(53,Nex)],ioF,0,false,[]⟩
theorem Ny3 (a b c d : Int) : Link Nas LL (bodyOf Tryd.f33) Nfi ⟨mkE 27 0 [(0,.agg [dI a,dI b]),(1,.agg [dI c,dI d])],[]⟩ (N6z a b c d) (fun (t : Bool) => (Exit.ret,⟨mkE 27 0 [(4,dB t)],[]⟩)) := .of fun K h => by
  simp only [N6z,wpW] at h
  exact .of (by kernel_rfl) h
theorem Nxz (a b c d : Int) {r : AV} {H' : Heap} (h : (Ans.mk _ (N3i a b c d) (fun (t : Bool) => (dB t,[])) [] none).run = some (r,H')) : Awp Nas LL (bodyOf Tryd.f33) Nfi ⟨mkE 27 0 [(0,.agg [dI a,dI b]),(1,.agg [dI c,dI d])],[]⟩ (Ret (tlook tys) Tryd.f33.results.toList r H') :=
  ret_of' (Ny3 a b c d) (by unfold N3i; kernel_rfl) (by
  intro t
  exact ret_mk [dB t] (by kernel_rfl) (by kernel_rfl) (by kernel_rfl) (by kernel_rfl)) h
def Nbe : Fun := fun avs H =>
  match avs,H with
  | [.agg [.dat (.int .i64) a,.dat (.int .i64) b],.agg [.dat (.int .i64) c,.dat (.int .i64) d]],[] => ⟨_,N3i a b c d,fun (t : Bool) => (dB t,[]),[],none⟩
  | _,_ => Ans.no
theorem N10c : Sound Tryd.prog 33 Nbe := by
  refine fn_sound' (C := Nas) (c := bodyOf Tryd.f33) (cok_of tys_ok (allc Nlm (allc Nrm alln)) (allc Tryd.call52 (allc Tryd.call53 alln)) (by kernel_rfl)) Tryd.func33 (by kernel_rfl) LL Nfi ?_
  intro avs H r H' h
  unfold Nbe at h
  split at h
  · refine Awp.cast ?_ ?_ ?_ (Nxz _ _ _ _ h) <;> kernel_rfl
  · simp [Ans.no,Ans.run] at h

def N3 : Ann := (.seq (.leaf [0,1]) (.seq (.leaf [0,1,5]) (.seq (.seq (.leaf [0,1,5,10,11,12]) (.block (.loop (.seq (.leaf [0,1,5,10,11,12,13]) (.seq (.cond (.leaf [0,1,5,10,11,12]) (.leaf [5])) (.seq (.block (.seq (.leaf [0,1,5,6,7,10,11,12]) (.seq (.leaf [0,1,5,7,10,11,12,20,21,22]) (.block (.loop (.seq (.leaf [0,1,5,7,10,11,12,20,21,22,23]) (.seq (.cond (.leaf [0,1,5,7,10,11,12,20,21,22]) (.leaf [0,1,5,10,11,12])) (.seq (.block (.seq (.leaf [0,1,5,7,9,10,11,12,20,21,22]) (.seq (.leaf [0,1,5,7,10,11,12,20,21,22,29]) (.cond (.leaf [0,1,5,7,10,11,12,20,21,22]) (.leaf [0,1,5,7,10,11,12,20,21,22]))))) (.leaf [0,1,5,7,10,11,12,20,21,22]))))))))) (.leaf [0,1,5,10,11,12]))))))) (.seq (.leaf [4]) (.leaf [4])))))
noncomputable def N16 : Ctx := ⟨tlook tys,olook [(33,Nbe)],ioF,0,false,[]⟩
theorem Nno (a : List (Int × Int × Unit)) : Link N16 LL (Code.seq (cq [0] (bodyOf Tryd.f31)) (cq [0,1] (bodyOf Tryd.f31))) (Ann.seq (aq [0] N3) (aq [0,1] N3)) ⟨mkE 35 0 [(0,.dat (.list (.pair (.int .i64) (.pair (.int .i64) .unit))) a),(1,.fn 33 [] [])],[]⟩ (N6t) (fun (t : Unit) => (Exit.normal,⟨mkE 35 0 [(0,.dat (.list (.pair (.int .i64) (.pair (.int .i64) .unit))) a),(1,.fn 33 [] []),(5,dI 0)],[]⟩)) := .of fun K h => by
  simp only [N6t,wpW] at h
  exact .of (by kernel_rfl) h
theorem Nnc (a : List (Int × Int × Unit)) : Link N16 LL (cq [0,0,1,1] (bodyOf Tryd.f31)) (aq [0,0,1,1] N3) ⟨mkE 35 0 [(0,.dat (.list (.pair (.int .i64) (.pair (.int .i64) .unit))) a),(1,.fn 33 [] []),(5,dI 0)],[]⟩ (N9f a) (fun (t : Int) => (Exit.normal,⟨mkE 35 0 [(0,.dat (.list (.pair (.int .i64) (.pair (.int .i64) .unit))) a),(1,.fn 33 [] []),(5,dI 0),(10,.dat (.list (.pair (.int .i64) (.pair (.int .i64) .unit))) a),(11,dI t),(12,dI 0)],[]⟩)) := .of fun K h => by
  simp only [N9f,wpW] at h
  exact .of (by kernel_rfl) h
theorem N10d (a : List (Int × Int × Unit)) (b c d : Int) : Link N16 LL (Code.seq (cq [0,0,0,1,0,1,1] (bodyOf Tryd.f31)) (cq [0,1,0,0,1,0,1,1] (bodyOf Tryd.f31))) (Ann.seq (aq [0,0,0,1,0,1,1] N3) (aq [0,1,0,0,1,0,1,1] N3)) ⟨mkE 35 0 [(0,.dat (.list (.pair (.int .i64) (.pair (.int .i64) .unit))) a),(1,.fn 33 [] []),(5,dI b),(10,.dat (.list (.pair (.int .i64) (.pair (.int .i64) .unit))) a),(11,dI c),(12,dI d)],[]⟩ (N8f b c d) (Sum.elim (fun (t : Unit) => (Exit.normal,⟨mkE 35 0 [(0,.dat (.list (.pair (.int .i64) (.pair (.int .i64) .unit))) a),(1,.fn 33 [] []),(5,dI b),(10,.dat (.list (.pair (.int .i64) (.pair (.int .i64) .unit))) a),(11,dI c),(12,dI d)],[]⟩)) (fun (t : Int) => ((Exit.exit 0),⟨mkE 35 0 [(5,dI t)],[]⟩))) := .of fun K h => by
  simp only [N8f,wpW] at h
  exact .of (by kernel_rfl) h
theorem Nt0 (a : List (Int × Int × Unit)) (b c d : Int) : Link N16 LL (Code.seq (cq [0,0,0,1,1,0,0,1,0,1,1] (bodyOf Tryd.f31)) (cq [0,1,0,0,1,1,0,0,1,0,1,1] (bodyOf Tryd.f31))) (Ann.seq (aq [0,0,0,1,1,0,0,1,0,1,1] N3) (aq [0,1,0,0,1,1,0,0,1,0,1,1] N3)) ⟨mkE 35 0 [(0,.dat (.list (.pair (.int .i64) (.pair (.int .i64) .unit))) a),(1,.fn 33 [] []),(5,dI b),(10,.dat (.list (.pair (.int .i64) (.pair (.int .i64) .unit))) a),(11,dI c),(12,dI d)],[]⟩ (N7l a d) (fun (t : (List (Int × Int × Unit)) × Int × Int × Int) => (Exit.normal,⟨mkE 35 0 [(0,.dat (.list (.pair (.int .i64) (.pair (.int .i64) .unit))) a),(1,.fn 33 [] []),(5,dI b),(7,.ptr 0 0),(10,.dat (.list (.pair (.int .i64) (.pair (.int .i64) .unit))) a),(11,dI c),(12,dI d),(20,.dat (.list (.pair (.int .i64) (.pair (.int .i64) .unit))) t.1),(21,dI t.2.1),(22,dI 0)],[some (.box [dI t.2.2.1,dI t.2.2.2])]⟩)) := .of fun K h => by
  simp only [N7l,wpW] at h
  exact .of (by kernel_rfl) h
theorem Nut (a : List (Int × Int × Unit)) (b c d : Int) (g : List (Int × Int × Unit)) (i j k l : Int) : Link N16 LL (cq [0,0,1,1,0,0,1,1,0,0,1,0,1,1] (bodyOf Tryd.f31)) (aq [0,0,1,1,0,0,1,1,0,0,1,0,1,1] N3) ⟨mkE 35 0 [(0,.dat (.list (.pair (.int .i64) (.pair (.int .i64) .unit))) a),(1,.fn 33 [] []),(5,dI b),(7,.ptr 0 0),(10,.dat (.list (.pair (.int .i64) (.pair (.int .i64) .unit))) a),(11,dI c),(12,dI d),(20,.dat (.list (.pair (.int .i64) (.pair (.int .i64) .unit))) g),(21,dI i),(22,dI j)],[some (.box [dI k,dI l])]⟩ (N3w b g i j k l) (Sum.elim (fun (t : Int × Int) => (Exit.normal,⟨mkE 35 0 [(0,.dat (.list (.pair (.int .i64) (.pair (.int .i64) .unit))) a),(1,.fn 33 [] []),(5,dI t.1),(7,.ptr 0 0),(10,.dat (.list (.pair (.int .i64) (.pair (.int .i64) .unit))) a),(11,dI c),(12,dI d),(20,.dat (.list (.pair (.int .i64) (.pair (.int .i64) .unit))) g),(21,dI i),(22,dI t.2)],[some (.box [dI k,dI l])]⟩)) (fun (t : Int) => ((Exit.exit 2),⟨mkE 35 0 [(0,.dat (.list (.pair (.int .i64) (.pair (.int .i64) .unit))) a),(1,.fn 33 [] []),(5,dI t),(10,.dat (.list (.pair (.int .i64) (.pair (.int .i64) .unit))) a),(11,dI c),(12,dI d)],[]⟩))) := .of fun K h => by
  simp only [N3w,wpW] at h
  exact .of (by kernel_rfl) h
theorem Npt (a : List (Int × Int × Unit)) (b c d : Int) : Link N16 LL (cq [1,1,1,0,0,1,0,1,1] (bodyOf Tryd.f31)) (aq [1,1,1,0,0,1,0,1,1] N3) ⟨mkE 35 0 [(0,.dat (.list (.pair (.int .i64) (.pair (.int .i64) .unit))) a),(1,.fn 33 [] []),(5,dI b),(10,.dat (.list (.pair (.int .i64) (.pair (.int .i64) .unit))) a),(11,dI c),(12,dI d)],[]⟩ (N7z d) (fun (t : Int) => (Exit.normal,⟨mkE 35 0 [(0,.dat (.list (.pair (.int .i64) (.pair (.int .i64) .unit))) a),(1,.fn 33 [] []),(5,dI b),(10,.dat (.list (.pair (.int .i64) (.pair (.int .i64) .unit))) a),(11,dI c),(12,dI t)],[]⟩)) := .of fun K h => by
  simp only [N7z,wpW] at h
  exact .of (by kernel_rfl) h
theorem Nzd (a : Int) : Link N16 LL (cq [1,1,1] (bodyOf Tryd.f31)) (aq [1,1,1] N3) ⟨mkE 35 0 [(5,dI a)],[]⟩ (N70 a) (fun (t : Int) => (Exit.ret,⟨mkE 35 0 [(4,dI t)],[]⟩)) := .of fun K h => by
  simp only [N70,wpW] at h
  exact .of (by kernel_rfl) h
theorem Ns0 (b : List (Int × Int × Unit)) {r : AV} {H' : Heap} (h : (Ans.mk _ (N2m b) (fun (t : Int) => (dI t,[])) [] none).run = some (r,H')) : Awp N16 LL (bodyOf Tryd.f31) N3 ⟨mkE 35 0 [(0,.dat (.list (.pair (.int .i64) (.pair (.int .i64) .unit))) b),(1,.fn 33 [] [])],[]⟩ (Ret (tlook tys) Tryd.f31.results.toList r H') :=
  ret_of' (Link.cast (by kernel_rfl) (by kernel_rfl) (link_group (c := (cq [0,1] (bodyOf Tryd.f31))) (a := (aq [0,1] N3)) [(cq [0] (bodyOf Tryd.f31))] [(aq [0] N3)] rfl (link_seq (Nno b) (fun (t : Unit) => (link_seq (link_seq (Nnc b) (fun (t : Int) => (link_block (fin2 := (fun (t46 : Int) => (Exit.normal,⟨mkE 35 0 [(5,dI t46)],[]⟩))) (id := 0) (link_loop (mk := fun (s : Int × Int) => ⟨mkE 35 0 [(0,.dat (.list (.pair (.int .i64) (.pair (.int .i64) .unit))) b),(1,.fn 33 [] []),(5,dI s.1),(10,.dat (.list (.pair (.int .i64) (.pair (.int .i64) .unit))) b),(11,dI t),(12,dI s.2)],[]⟩) (fin := (fun (t46 : Int) => ((Exit.exit 0),⟨mkE 35 0 [(5,dI t46)],[]⟩))) (by
  rintro t46 f K h
  · exact h) (fun s => link_map (link_group (c := (cq [0,1,0,0,1,0,1,1] (bodyOf Tryd.f31))) (a := (aq [0,1,0,0,1,0,1,1] N3)) [(cq [0,0,0,1,0,1,1] (bodyOf Tryd.f31))] [(aq [0,0,0,1,0,1,1] N3)] rfl (link_seq2 (N10d b s.1 t s.2) (fun (t46 : Unit) => (link_map (fin2 := (Sum.elim (fun (t46 : Int × Int) => (Exit.normal,⟨mkE 35 0 [(0,.dat (.list (.pair (.int .i64) (.pair (.int .i64) .unit))) b),(1,.fn 33 [] []),(5,dI t46.1),(10,.dat (.list (.pair (.int .i64) (.pair (.int .i64) .unit))) b),(11,dI t),(12,dI t46.2)],[]⟩)) (fun (t46 : Int) => ((Exit.exit 0),⟨mkE 35 0 [(5,dI t46)],[]⟩)))) (link_seq (link_block (fin2 := (fun (t46 : Int) => (Exit.normal,⟨mkE 35 0 [(0,.dat (.list (.pair (.int .i64) (.pair (.int .i64) .unit))) b),(1,.fn 33 [] []),(5,dI t46),(10,.dat (.list (.pair (.int .i64) (.pair (.int .i64) .unit))) b),(11,dI t),(12,dI s.2)],[]⟩))) (id := 1) (link_group (c := (cq [0,1,0,0,1,1,0,0,1,0,1,1] (bodyOf Tryd.f31))) (a := (aq [0,1,0,0,1,1,0,0,1,0,1,1] N3)) [(cq [0,0,0,1,1,0,0,1,0,1,1] (bodyOf Tryd.f31))] [(aq [0,0,0,1,1,0,0,1,0,1,1] N3)] rfl (link_seq (Nt0 b s.1 t s.2) (fun (t46 : (List (Int × Int × Unit)) × Int × Int × Int) => (link_block (fin2 := (fun (t8 : Int) => (Exit.normal,⟨mkE 35 0 [(0,.dat (.list (.pair (.int .i64) (.pair (.int .i64) .unit))) b),(1,.fn 33 [] []),(5,dI t8),(10,.dat (.list (.pair (.int .i64) (.pair (.int .i64) .unit))) b),(11,dI t),(12,dI s.2)],[]⟩))) (id := 2) (link_loop (mk := fun (s27 : Int × Int) => ⟨mkE 35 0 [(0,.dat (.list (.pair (.int .i64) (.pair (.int .i64) .unit))) b),(1,.fn 33 [] []),(5,dI s27.1),(7,.ptr 0 0),(10,.dat (.list (.pair (.int .i64) (.pair (.int .i64) .unit))) b),(11,dI t),(12,dI s.2),(20,.dat (.list (.pair (.int .i64) (.pair (.int .i64) .unit))) t46.1),(21,dI t46.2.1),(22,dI s27.2)],[some (.box [dI t46.2.2.1,dI t46.2.2.2])]⟩) (fin := (fun (t8 : Int) => ((Exit.exit 2),⟨mkE 35 0 [(0,.dat (.list (.pair (.int .i64) (.pair (.int .i64) .unit))) b),(1,.fn 33 [] []),(5,dI t8),(10,.dat (.list (.pair (.int .i64) (.pair (.int .i64) .unit))) b),(11,dI t),(12,dI s.2)],[]⟩))) (by
  rintro t8 f K h
  · exact h) (fun s27 => link_map (Nut b s27.1 t s.2 t46.1 t46.2.1 s27.2 t46.2.2.1 t46.2.2.2) (Sum.elim (fun (t8 : Int × Int) => Sum.inl (t8.1,t8.2)) (fun (t8 : Int) => Sum.inr t8)) (by
  rintro (t8 | t8)
  · kernel_rfl
  · kernel_rfl)) (s.1,0)) (fun (t8 : Int) => t8) (by
  rintro t8 K h
  · exact Eq.mp (by kernel_rfl) h))))) (fun (t46 : Int) => t46) (by
  rintro t46 K h
  · exact Eq.mp (by kernel_rfl) h)) (fun (t46 : Int) => (link_map (fin2 := (fun (t46 : Int × Int) => (Exit.normal,⟨mkE 35 0 [(0,.dat (.list (.pair (.int .i64) (.pair (.int .i64) .unit))) b),(1,.fn 33 [] []),(5,dI t46.1),(10,.dat (.list (.pair (.int .i64) (.pair (.int .i64) .unit))) b),(11,dI t),(12,dI t46.2)],[]⟩))) (Npt b t46 t s.2) (fun (u : Int) => (t46,u)) (by
  rintro t46
  · kernel_rfl)))) (fun (t46 : Int × Int) => (Sum.inl (t46.1,t46.2))) (by
  rintro t46
  · kernel_rfl))) (fun (t46 : Int) => (Sum.inr t46)) (by
  rintro t46
  · kernel_rfl) (by
  rintro t46 f K h
  · exact h))) (Sum.elim (fun (t46 : Int × Int) => Sum.inl (t46.1,t46.2)) (fun (t46 : Int) => Sum.inr t46)) (by
  rintro (t46 | t46)
  · kernel_rfl
  · kernel_rfl)) (0,0)) (fun (t46 : Int) => t46) (by
  rintro t46 K h
  · exact Eq.mp (by kernel_rfl) h)))) (fun (t : Int) => (Nzd t))))))) (by unfold N2m; kernel_rfl) (by
  intro t
  exact ret_mk [dI t] (by kernel_rfl) (by kernel_rfl) (by kernel_rfl) (by kernel_rfl)) h
def Ndh : Fun := fun avs H =>
  match avs,H with
  | [.dat (.list (.pair (.int .i64) (.pair (.int .i64) .unit))) a,.fn 33 [] []],[] => ⟨_,N2m a,fun (t : Int) => (dI t,[]),[],none⟩
  | _,_ => Ans.no
theorem Nox : Sound Tryd.prog 31 Ndh := by
  refine fn_sound' (C := N16) (c := bodyOf Tryd.f31) (cok_of tys_ok (allc N10c alln) (allc Tryd.call33 alln) (by kernel_rfl)) Tryd.func31 (by kernel_rfl) LL N3 ?_
  intro avs H r H' h
  unfold Ndh at h
  split at h
  · refine Awp.cast ?_ ?_ ?_ (Ns0 _ h) <;> kernel_rfl
  · simp [Ans.no,Ans.run] at h

def Nau : Ann := (.seq (.leaf [0]) (.seq (.seq (.leaf [0,5]) (.cond (.seq (.leaf [2]) (.leaf [2])) (.leaf [0]))) (.seq (.leaf [2]) (.leaf [2]))))
noncomputable def Ncj : Ctx := ⟨tlook tys,olook [(30,Nh),(32,Ndk),(31,Ndh)],ioF,0,false,[]⟩
theorem Nxq (a : List Int) : Link Ncj LL (bodyOf Tryd.f11) Nau ⟨mkE 9 0 [(0,dL a)],[]⟩ (N4y a) (fun (t : Int) => (Exit.ret,⟨mkE 9 0 [(2,dI t)],[]⟩)) := .of fun K h => by
  simp only [N4y,wpW] at h
  exact .of (by kernel_rfl) h
theorem Nvb (a : List Int) {r : AV} {H' : Heap} (h : (Ans.mk _ (N17 a) (fun (t : Int) => (dI t,[])) [] none).run = some (r,H')) : Awp Ncj LL (bodyOf Tryd.f11) Nau ⟨mkE 9 0 [(0,dL a)],[]⟩ (Ret (tlook tys) Tryd.f11.results.toList r H') :=
  ret_of' (Nxq a) (by unfold N17; kernel_rfl) (by
  intro t
  exact ret_mk [dI t] (by kernel_rfl) (by kernel_rfl) (by kernel_rfl) (by kernel_rfl)) h
def Nc3 : Fun := fun avs H =>
  match avs,H with
  | [.dat (.list (.int .i64)) a],[] => ⟨_,N17 a,fun (t : Int) => (dI t,[]),[],none⟩
  | _,_ => Ans.no
theorem N108 : Sound Tryd.prog 11 Nc3 := by
  refine fn_sound' (C := Ncj) (c := bodyOf Tryd.f11) (cok_of tys_ok (allc Nv (allc Nqo (allc Nox alln))) (allc Tryd.call30 (allc Tryd.call32 (allc Tryd.call31 alln))) (by kernel_rfl)) Tryd.func11 (by kernel_rfl) LL Nau ?_
  intro avs H r H' h
  unfold Nc3 at h
  split at h
  · refine Awp.cast ?_ ?_ ?_ (Nvb _ h) <;> kernel_rfl
  · simp [Ans.no,Ans.run] at h

def N15 : Ann := (.seq (.leaf [0,1,2]) (.seq (.leaf [0,1,2,7]) (.seq (.seq (.leaf [0,1,2,7,15,16,17]) (.block (.loop (.seq (.leaf [0,1,2,7,15,16,17,18]) (.seq (.cond (.leaf [0,1,2,7,15,16,17]) (.leaf [0,2,7])) (.seq (.block (.seq (.leaf [0,1,2,7,9,15,16,17]) (.leaf [0,1,2,7,15,16,17]))) (.leaf [0,1,2,7,15,16,17]))))))) (.seq (.leaf [7]) (.seq (.leaf [6]) (.leaf [6]))))))
def N1j (n : Nat) : Fun := fun avs H =>
  match avs,H with
  | [.slc 0,.dat (.list (.int .i64)) a,.dat (.int .i64) b],[some (.seq (.int .u64) c)] => ⟨_,N1e n a b c,fun (t : Int × (List Int)) => (dW t.1,[some (.seq (.int .u64) t.2)]),[],none⟩
  | _,_ => Ans.no
noncomputable def N46 (n : Nat) : Ctx := ⟨tlook tys,olook [(65,N5a),(66,N7y),(67,N8n),(54,N1j n)],ioF,1,false,[]⟩
theorem Nlc (n : Nat) (a : List Int) (b : Int) (c : List Int) : Link (N46 n) LL (Code.seq (cq [0] (bodyOf Tryd.f54)) (cq [0,1] (bodyOf Tryd.f54))) (Ann.seq (aq [0] N15) (aq [0,1] N15)) ⟨mkE 34 0 [(0,.slc 0),(1,dL a),(2,dI b)],[some (.seq (.int .u64) c)]⟩ (N8h (N1e n) b) (fun (t : Int) => (Exit.normal,⟨mkE 34 0 [(0,.slc 0),(1,dL a),(2,dI b),(7,dW t)],[some (.seq (.int .u64) c)]⟩)) := .of fun K h => by
  simp only [N8h,wpW] at h
  exact .of (by kernel_rfl) h
theorem Nzk (n : Nat) (a : List Int) (b c : Int) (d : List Int) : Link (N46 n) LL (cq [0,0,1,1] (bodyOf Tryd.f54)) (aq [0,0,1,1] N15) ⟨mkE 34 0 [(0,.slc 0),(1,dL a),(2,dI b),(7,dW c)],[some (.seq (.int .u64) d)]⟩ (N7k (N1e n) a b) (fun (t : Int × (List Int)) => (Exit.normal,⟨mkE 34 0 [(0,.slc 0),(1,dL a),(2,dI b),(7,dW c),(15,.slc 1),(16,dI t.1),(17,dI 0)],[some (.seq (.int .u64) d),some (sI t.2)]⟩)) := .of fun K h => by
  simp only [N7k,wpW] at h
  exact .of (by kernel_rfl) h
theorem Nx9 (n : Nat) (a : List Int) (b c d g : Int) (i j : List Int) : Link (N46 n) LL (cq [0,0,1,0,1,1] (bodyOf Tryd.f54)) (aq [0,0,1,0,1,1] N15) ⟨mkE 34 0 [(0,.slc 0),(1,dL a),(2,dI b),(7,dW c),(15,.slc 1),(16,dI d),(17,dI g)],[some (.seq (.int .u64) i),some (sI j)]⟩ (N2x (N1e n) a c d g i j) (Sum.elim (fun (t : Int × Int × (List Int)) => (Exit.normal,⟨mkE 34 0 [(0,.slc 0),(1,dL a),(2,dI b),(7,dW t.1),(15,.slc 1),(16,dI d),(17,dI t.2.1)],[some (.seq (.int .u64) t.2.2),some (sI j)]⟩)) (fun (t : Int × (List Int)) => ((Exit.exit 0),⟨mkE 34 0 [(0,.slc 0),(2,dI b),(7,dW t.1)],[some (.seq (.int .u64) t.2)]⟩))) := .of fun K h => by
  simp only [N2x,wpW] at h
  exact .of (by kernel_rfl) h
theorem Nqe (n : Nat) (a b : Int) (c : List Int) : Link (N46 n) LL (cq [1,1,1] (bodyOf Tryd.f54)) (aq [1,1,1] N15) ⟨mkE 34 0 [(0,.slc 0),(2,dI a),(7,dW b)],[some (.seq (.int .u64) c)]⟩ (N93 (N1e n) a b c) (fun (t : Int × (List Int)) => (Exit.ret,⟨mkE 34 0 [(6,dW t.1)],[some (.seq (.int .u64) t.2)]⟩)) := .of fun K h => by
  simp only [N93,wpW] at h
  exact .of (by kernel_rfl) h
theorem Nyf (n : Nat) (b : List Int) (d : Int) (g : List Int) {r : AV} {H' : Heap} (h : (Ans.mk _ (N1e (n + 1) b d g) (fun (t : Int × (List Int)) => (dW t.1,[some (.seq (.int .u64) t.2)])) [] none).run = some (r,H')) : Awp (N46 n) LL (bodyOf Tryd.f54) N15 ⟨mkE 34 0 [(0,.slc 0),(1,dL b),(2,dI d)],[some (.seq (.int .u64) g)]⟩ (Ret (tlook tys) Tryd.f54.results.toList r H') :=
  ret_of' (Link.cast (by kernel_rfl) (by kernel_rfl) (link_group (c := (cq [0,1] (bodyOf Tryd.f54))) (a := (aq [0,1] N15)) [(cq [0] (bodyOf Tryd.f54))] [(aq [0] N15)] rfl (link_seq (Nlc n b d g) (fun (t : Int) => (link_seq (link_seq (Nzk n b d t g) (fun (t28 : Int × (List Int)) => (link_block (fin2 := (fun (t10 : Int × (List Int)) => (Exit.normal,⟨mkE 34 0 [(0,.slc 0),(2,dI d),(7,dW t10.1)],[some (.seq (.int .u64) t10.2)]⟩))) (id := 0) (link_loop (mk := fun (s : Int × Int × (List Int)) => ⟨mkE 34 0 [(0,.slc 0),(1,dL b),(2,dI d),(7,dW s.1),(15,.slc 1),(16,dI t28.1),(17,dI s.2.1)],[some (.seq (.int .u64) s.2.2),some (sI t28.2)]⟩) (fin := (fun (t10 : Int × (List Int)) => ((Exit.exit 0),⟨mkE 34 0 [(0,.slc 0),(2,dI d),(7,dW t10.1)],[some (.seq (.int .u64) t10.2)]⟩))) (by
  rintro t10 f K h
  · exact h) (fun s => link_map (Nx9 n b d s.1 t28.1 s.2.1 s.2.2 t28.2) (Sum.elim (fun (t10 : Int × Int × (List Int)) => Sum.inl (t10.1,t10.2.1,t10.2.2)) (fun (t10 : Int × (List Int)) => Sum.inr t10)) (by
  rintro (t10 | t10)
  · kernel_rfl
  · kernel_rfl)) (t,0,g)) (fun (t10 : Int × (List Int)) => (t10.1,t10.2)) (by
  rintro t10 K h
  · exact Eq.mp (by kernel_rfl) h)))) (fun (t28 : Int × (List Int)) => (Nqe n d t28.1 t28.2))))))) (by (show _ = _); kernel_rfl) (by
  intro t
  exact ret_mk [dW t.1] (by kernel_rfl) (by kernel_rfl) (by kernel_rfl) (by kernel_rfl)) h
theorem Np4 (n : Nat) (h54 : Sound Tryd.prog 54 (N1j n)) : Sound Tryd.prog 54 (N1j (n + 1)) := by
  refine fn_sound' (C := N46 n) (c := bodyOf Tryd.f54) (cok_of tys_ok (allc Nfc (allc Nia (allc Nfy (allc h54 alln)))) (allc Tryd.call65 (allc Tryd.call66 (allc Tryd.call67 (allc Tryd.call54 alln)))) (by kernel_rfl)) Tryd.func54 (by kernel_rfl) LL N15 ?_
  intro avs H r H' h
  unfold N1j at h
  split at h
  · refine Awp.cast ?_ ?_ ?_ (Nyf n _ _ _ h) <;> kernel_rfl
  · simp [Ans.no,Ans.run] at h
theorem Nv2 : Sound Tryd.prog 54 (N1j 0) := by
  intro avs H r H' h
  unfold N1j at h
  split at h
  · simp [N1e,N21,Ans.run] at h
  · simp [Ans.no,Ans.run] at h
theorem Ngh : ∀ n,Sound Tryd.prog 54 (N1j n)
  | 0 => Nv2
  | n + 1 => by
    have h54 := Ngh n
    exact Np4 n h54
def N8v : Fun := fun avs H =>
  match avs,H with
  | [.slc 0,.dat (.list (.int .i64)) a,.dat (.int .i64) b],[some (.seq (.int .u64) c)] => ⟨_,N5y a b c,fun (t : Int × (List Int)) => (dW t.1,[some (.seq (.int .u64) t.2)]),[],none⟩
  | _,_ => Ans.no
theorem Nvc : Sound Tryd.prog 54 N8v := by
  have e : N8v = N1j RR := by
    funext avs H
    unfold N8v N1j
    split <;> first | rfl | (simp only [N5y])
  rw [e]
  exact (Ngh RR)

def Nah : Ann := (.seq (.leaf [0]) (.seq (.leaf [0,3]) (.seq (.leaf [3]) (.seq (.leaf [2]) (.leaf [2])))))
noncomputable def Ne8 : Ctx := ⟨tlook tys,olook [(55,N8x),(54,N8v)],ioF,0,false,[]⟩
theorem Nn7 (a : List Int) : Link Ne8 LL (bodyOf Tryd.f34) Nah ⟨mkE 13 0 [(0,dL a)],[]⟩ (N62 a) (fun (t : (List Int)) => (Exit.ret,⟨mkE 13 0 [(2,.slc 0)],[some (.seq (.int .u64) t)]⟩)) := .of fun K h => by
  simp only [N62,wpW] at h
  exact .of (by kernel_rfl) h
theorem Nsk (a : List Int) {r : AV} {H' : Heap} (h : (Ans.mk _ (N2i a) (fun (t : (List Int)) => (.slc 0,[some (.seq (.int .u64) t)])) [] none).run = some (r,H')) : Awp Ne8 LL (bodyOf Tryd.f34) Nah ⟨mkE 13 0 [(0,dL a)],[]⟩ (Ret (tlook tys) Tryd.f34.results.toList r H') :=
  ret_of' (Nn7 a) (by unfold N2i; kernel_rfl) (by
  intro t
  exact ret_mk [.slc 0] (by kernel_rfl) (by kernel_rfl) (by kernel_rfl) (by kernel_rfl)) h
def Nda : Fun := fun avs H =>
  match avs,H with
  | [.dat (.list (.int .i64)) a],[] => ⟨_,N2i a,fun (t : (List Int)) => (.slc 0,[some (.seq (.int .u64) t)]),[],none⟩
  | _,_ => Ans.no
theorem Npl : Sound Tryd.prog 34 Nda := by
  refine fn_sound' (C := Ne8) (c := bodyOf Tryd.f34) (cok_of tys_ok (allc Nj0 (allc Nvc alln)) (allc Tryd.call55 (allc Tryd.call54 alln)) (by kernel_rfl)) Tryd.func34 (by kernel_rfl) LL Nah ?_
  intro avs H r H' h
  unfold Nda at h
  split at h
  · refine Awp.cast ?_ ?_ ?_ (Nsk _ h) <;> kernel_rfl
  · simp [Ans.no,Ans.run] at h

def Nb0 : Ann := (.seq (.leaf [0]) (.seq (.leaf [0,3]) (.seq (.leaf [2]) (.leaf [2]))))
noncomputable def Na8 : Ctx := ⟨tlook tys,olook [],ioF,0,false,[]⟩
theorem Nu6 (a : Int) : Link Na8 LL (bodyOf Tryd.f35) Nb0 ⟨mkE 14 0 [(0,dW a)],[]⟩ (Nd0 a) (fun (t : Bool) => (Exit.ret,⟨mkE 14 0 [(2,dB t)],[]⟩)) := .of fun K h => by
  simp only [Nd0,wpW] at h
  exact .of (by kernel_rfl) h
theorem Nvx (a : Int) {r : AV} {H' : Heap} (h : (Ans.mk _ (N3e a) (fun (t : Bool) => (dB t,[])) [] none).run = some (r,H')) : Awp Na8 LL (bodyOf Tryd.f35) Nb0 ⟨mkE 14 0 [(0,dW a)],[]⟩ (Ret (tlook tys) Tryd.f35.results.toList r H') :=
  ret_of' (Nu6 a) (by unfold N3e; kernel_rfl) (by
  intro t
  exact ret_mk [dB t] (by kernel_rfl) (by kernel_rfl) (by kernel_rfl) (by kernel_rfl)) h
def Ncy : Fun := fun avs H =>
  match avs,H with
  | [.dat (.int .u64) a],[] => ⟨_,N3e a,fun (t : Bool) => (dB t,[]),[],none⟩
  | _,_ => Ans.no
theorem Nyb : Sound Tryd.prog 35 Ncy := by
  refine fn_sound' (C := Na8) (c := bodyOf Tryd.f35) (cok_of tys_ok (alln) (alln) (by kernel_rfl)) Tryd.func35 (by kernel_rfl) LL Nb0 ?_
  intro avs H r H' h
  unfold Ncy at h
  split at h
  · refine Awp.cast ?_ ?_ ?_ (Nvx _ h) <;> kernel_rfl
  · simp [Ans.no,Ans.run] at h

def Nz : Ann := (.seq (.leaf [0]) (.seq (.seq (.leaf [0,7]) (.cond (.seq (.leaf [2]) (.leaf [2])) (.leaf [0]))) (.seq (.seq (.leaf [9,10,11]) (.block (.loop (.seq (.leaf [9,10,11,12]) (.seq (.cond (.leaf [9,10,11]) (.leaf [])) (.seq (.block (.seq (.leaf [4,9,10,11]) (.seq (.leaf [9,10,11,17]) (.cond (.seq (.leaf [2]) (.leaf [2])) (.leaf [9,10,11]))))) (.leaf [9,10,11]))))))) (.seq (.leaf [2]) (.leaf [2])))))
noncomputable def N4u : Ctx := ⟨tlook tys,olook [(30,Nh),(34,Nda),(35,Ncy)],ioF,0,false,[]⟩
theorem Nnr (a : List Int) : Link N4u LL (Code.seq (cq [0] (bodyOf Tryd.f12)) (cq [0,1] (bodyOf Tryd.f12))) (Ann.seq (aq [0] Nz) (aq [0,1] Nz)) ⟨mkE 19 0 [(0,dL a)],[]⟩ (N6v a) (Sum.elim (fun (t : Unit) => (Exit.normal,⟨mkE 19 0 [(0,dL a)],[]⟩)) (fun (t : Bool) => (Exit.ret,⟨mkE 19 0 [(2,dB t)],[]⟩))) := .of fun K h => by
  simp only [N6v,wpW] at h
  exact .of (by kernel_rfl) h
theorem Nqd (a : List Int) : Link N4u LL (cq [0,0,1,1] (bodyOf Tryd.f12)) (aq [0,0,1,1] Nz) ⟨mkE 19 0 [(0,dL a)],[]⟩ (N6d a) (fun (t : Int × (List Int)) => (Exit.normal,⟨mkE 19 0 [(9,.slc 0),(10,dI t.1),(11,dI 0)],[some (.seq (.int .u64) t.2)]⟩)) := .of fun K h => by
  simp only [N6d,wpW] at h
  exact .of (by kernel_rfl) h
theorem Ntt (a b : Int) (c : List Int) : Link N4u LL (cq [0,0,1,0,1,1] (bodyOf Tryd.f12)) (aq [0,0,1,0,1,1] Nz) ⟨mkE 19 0 [(9,.slc 0),(10,dI a),(11,dI b)],[some (.seq (.int .u64) c)]⟩ (N2c a b c) (Sum.elim (fun (t : Int) => (Exit.normal,⟨mkE 19 0 [(9,.slc 0),(10,dI a),(11,dI t)],[some (.seq (.int .u64) c)]⟩)) (Sum.elim (fun (t : Bool) => (Exit.ret,⟨mkE 19 0 [(2,dB t)],[]⟩)) (fun (t : Unit) => ((Exit.exit 0),⟨mkE 19 0 [],[]⟩)))) := .of fun K h => by
  simp only [N2c,wpW] at h
  exact .of (by kernel_rfl) h
theorem Npn : Link N4u LL (cq [1,1,1] (bodyOf Tryd.f12)) (aq [1,1,1] Nz) ⟨mkE 19 0 [],[]⟩ (N8j) (fun (t : Bool) => (Exit.ret,⟨mkE 19 0 [(2,dB t)],[]⟩)) := .of fun K h => by
  simp only [N8j,wpW] at h
  exact .of (by kernel_rfl) h
theorem Nwo (b : List Int) {r : AV} {H' : Heap} (h : (Ans.mk _ (Nq b) (fun (t : Bool) => (dB t,[])) [] none).run = some (r,H')) : Awp N4u LL (bodyOf Tryd.f12) Nz ⟨mkE 19 0 [(0,dL b)],[]⟩ (Ret (tlook tys) Tryd.f12.results.toList r H') :=
  ret_of' (Link.cast (by kernel_rfl) (by kernel_rfl) (link_group (c := (cq [0,1] (bodyOf Tryd.f12))) (a := (aq [0,1] Nz)) [(cq [0] (bodyOf Tryd.f12))] [(aq [0] Nz)] rfl (link_seq2 (Nnr b) (fun (t : Unit) => (link_seq2 (link_seq (Nqd b) (fun (t : Int × (List Int)) => (link_block (fin2 := (Sum.elim (fun (t11 : Unit) => (Exit.normal,⟨mkE 19 0 [],[]⟩)) (fun (t11 : Bool) => (Exit.ret,⟨mkE 19 0 [(2,dB t11)],[]⟩)))) (id := 0) (link_loop (mk := fun (s : Int) => ⟨mkE 19 0 [(9,.slc 0),(10,dI t.1),(11,dI s)],[some (.seq (.int .u64) t.2)]⟩) (fin := (Sum.elim (fun (t11 : Bool) => (Exit.ret,⟨mkE 19 0 [(2,dB t11)],[]⟩)) (fun (t11 : Unit) => ((Exit.exit 0),⟨mkE 19 0 [],[]⟩)))) (by
  rintro (t11 | t11) f K h
  · exact h
  · exact h) (fun s => link_map (Ntt t.1 s t.2) (Sum.elim (fun (t11 : Int) => Sum.inl t11) (Sum.elim (fun (t11 : Bool) => Sum.inr (Sum.inl t11)) (fun (t11 : Unit) => Sum.inr (Sum.inr t11)))) (by
  rintro (t11 | t11 | t11)
  · kernel_rfl
  · kernel_rfl
  · kernel_rfl)) 0) (Sum.elim (fun (t11 : Bool) => (Sum.inr t11)) (fun (t11 : Unit) => (Sum.inl ()))) (by
  rintro (t11 | t11) K h
  · exact Eq.mp (by kernel_rfl) h
  · exact Eq.mp (by kernel_rfl) h)))) (fun (t : Unit) => (Npn)) (fun (t : Bool) => t) (by
  rintro t
  · kernel_rfl) (by
  rintro t f K h
  · exact h))) (fun (t : Bool) => t) (by
  rintro t
  · kernel_rfl) (by
  rintro t f K h
  · exact h)))) (by unfold Nq; kernel_rfl) (by
  intro t
  exact ret_mk [dB t] (by kernel_rfl) (by kernel_rfl) (by kernel_rfl) (by kernel_rfl)) h
def Nbu : Fun := fun avs H =>
  match avs,H with
  | [.dat (.list (.int .i64)) a],[] => ⟨_,Nq a,fun (t : Bool) => (dB t,[]),[],none⟩
  | _,_ => Ans.no
theorem Nuj : Sound Tryd.prog 12 Nbu := by
  refine fn_sound' (C := N4u) (c := bodyOf Tryd.f12) (cok_of tys_ok (allc Nv (allc Npl (allc Nyb alln))) (allc Tryd.call30 (allc Tryd.call34 (allc Tryd.call35 alln))) (by kernel_rfl)) Tryd.func12 (by kernel_rfl) LL Nz ?_
  intro avs H r H' h
  unfold Nbu at h
  split at h
  · refine Awp.cast ?_ ?_ ?_ (Nwo _ h) <;> kernel_rfl
  · simp [Ans.no,Ans.run] at h

def N2 : Ann := (.seq (.leaf [0]) (.seq (.seq (.leaf [0,14]) (.cond (.seq (.leaf [2]) (.leaf [2])) (.leaf [0]))) (.seq (.leaf [3,4]) (.seq (.leaf [3,4,5,6]) (.seq (.leaf [3,4,5,6,7,8]) (.seq (.seq (.leaf [3,4,5,6,40]) (.cond (.seq (.leaf [2]) (.leaf [2])) (.leaf [3,4,5,6]))) (.seq (.seq (.leaf [3,4,5,42]) (.cond (.seq (.leaf [2]) (.leaf [2])) (.leaf [3,4,5]))) (.seq (.leaf [3,4,5,9,10]) (.seq (.draw [6,9] [0,1,2,3,4,5,7,8,6,9,10,11,12] [] [3,4,5,9,10,11]) (.seq (.leaf [2]) (.leaf [2])))))))))))
noncomputable def N7f : Ctx := ⟨tlook tys,olook [(5,Ncd),(6,Nbj),(7,N9v),(8,Neg),(10,Nbm),(9,N7h),(11,Nc3),(12,Nbu)],ioF,0,true,[]⟩
theorem Nyz (a : List Int) : Link N7f LL (Code.seq (cq [0] (bodyOf Tryd.f3)) (Code.seq (cq [0,1] (bodyOf Tryd.f3)) (Code.seq (cq [0,1,1] (bodyOf Tryd.f3)) (Code.seq (cq [0,1,1,1] (bodyOf Tryd.f3)) (Code.seq (cq [0,1,1,1,1] (bodyOf Tryd.f3)) (Code.seq (cq [0,1,1,1,1,1] (bodyOf Tryd.f3)) (Code.seq (cq [0,1,1,1,1,1,1] (bodyOf Tryd.f3)) (Code.seq (cq [0,1,1,1,1,1,1,1] (bodyOf Tryd.f3)) (cq [0,1,1,1,1,1,1,1,1] (bodyOf Tryd.f3)))))))))) (Ann.seq (aq [0] N2) (Ann.seq (aq [0,1] N2) (Ann.seq (aq [0,1,1] N2) (Ann.seq (aq [0,1,1,1] N2) (Ann.seq (aq [0,1,1,1,1] N2) (Ann.seq (aq [0,1,1,1,1,1] N2) (Ann.seq (aq [0,1,1,1,1,1,1] N2) (Ann.seq (aq [0,1,1,1,1,1,1,1] N2) (aq [0,1,1,1,1,1,1,1,1] N2))))))))) ⟨mkE 106 0 [(0,dV a)],[]⟩ (N98 a) (Sum.elim (fun (t : Bool × Bool × (List Int) × Int × Int × Int × (List (List Int)) × (List Int) × (List (List Int)) × (List Int) × (List (List Int))) => (Exit.normal,⟨mkE 106 0 [(3,.ptr 0 0),(4,.ptr 1 0),(5,.ptr 2 0),(9,.ptr 3 0),(10,dB t.1),(11,dB t.2.1)],[some (.box [dL t.2.2.1,.slc 4]),some (.box [dI t.2.2.2.1,dI t.2.2.2.2.1,dI t.2.2.2.2.2.1]),some (.box [.slc 5,.slc 6]),some (.box [.slc 7,.slc 8]),some (.nest (.int .i64) t.2.2.2.2.2.2.1 0 []),some (sI t.2.2.2.2.2.2.2.1),some (.nest (.int .i64) t.2.2.2.2.2.2.2.2.1 0 []),some (sI t.2.2.2.2.2.2.2.2.2.1),some (.nest (.int .i64) t.2.2.2.2.2.2.2.2.2.2 0 [])]⟩)) (fun (t : Bool) => (Exit.ret,⟨mkE 106 0 [(2,dB t)],[]⟩))) := .of fun K h => by
  simp only [N98,wpW] at h
  exact .of (by kernel_rfl) h
theorem Nwy (a b : Bool) (c : List Int) (d g i : Int) (j : List (List Int)) (k : List Int) (l : List (List Int)) (m : List Int) (o : List (List Int)) : Link N7f LL (cq [1,1,1,1,1,1,1,1,1] (bodyOf Tryd.f3)) (aq [1,1,1,1,1,1,1,1,1] N2) ⟨mkE 106 0 [(3,.ptr 0 0),(4,.ptr 1 0),(5,.ptr 2 0),(9,.ptr 3 0),(10,dB a),(11,dB b)],[some (.box [dL c,.slc 4]),some (.box [dI d,dI g,dI i]),some (.box [.slc 5,.slc 6]),some (.box [.slc 7,.slc 8]),some (.nest (.int .i64) j 0 []),some (sI k),some (.nest (.int .i64) l 0 []),some (sI m),some (.nest (.int .i64) o 0 [])]⟩ (N5t a b c d j k l m o) (fun (t : Bool) => (Exit.ret,⟨mkE 106 0 [(2,dB t)],[]⟩)) := .of fun K h => by
  simp only [N5t,wpW] at h
  exact .of (by kernel_rfl) h
theorem Npe (b : List Int) {r : AV} {H' : Heap} (h : (Ans.mk _ (N2w b) (fun (t : Bool) => (dB t,[])) [] none).run = some (r,H')) : Awp N7f LL (bodyOf Tryd.f3) N2 ⟨mkE 106 0 [(0,dV b)],[]⟩ (Ret (tlook tys) Tryd.f3.results.toList r H') :=
  ret_of' (Link.cast (by kernel_rfl) (by kernel_rfl) (link_group (c := (cq [0,1,1,1,1,1,1,1,1] (bodyOf Tryd.f3))) (a := (aq [0,1,1,1,1,1,1,1,1] N2)) [(cq [0] (bodyOf Tryd.f3)),(cq [0,1] (bodyOf Tryd.f3)),(cq [0,1,1] (bodyOf Tryd.f3)),(cq [0,1,1,1] (bodyOf Tryd.f3)),(cq [0,1,1,1,1] (bodyOf Tryd.f3)),(cq [0,1,1,1,1,1] (bodyOf Tryd.f3)),(cq [0,1,1,1,1,1,1] (bodyOf Tryd.f3)),(cq [0,1,1,1,1,1,1,1] (bodyOf Tryd.f3))] [(aq [0] N2),(aq [0,1] N2),(aq [0,1,1] N2),(aq [0,1,1,1] N2),(aq [0,1,1,1,1] N2),(aq [0,1,1,1,1,1] N2),(aq [0,1,1,1,1,1,1] N2),(aq [0,1,1,1,1,1,1,1] N2)] rfl (link_seq2 (Nyz b) (fun (t : Bool × Bool × (List Int) × Int × Int × Int × (List (List Int)) × (List Int) × (List (List Int)) × (List Int) × (List (List Int))) => (Nwy t.1 t.2.1 t.2.2.1 t.2.2.2.1 t.2.2.2.2.1 t.2.2.2.2.2.1 t.2.2.2.2.2.2.1 t.2.2.2.2.2.2.2.1 t.2.2.2.2.2.2.2.2.1 t.2.2.2.2.2.2.2.2.2.1 t.2.2.2.2.2.2.2.2.2.2)) (fun (t : Bool) => t) (by
  rintro t
  · kernel_rfl) (by
  rintro t f K h
  · exact h)))) (by unfold N2w; kernel_rfl) (by
  intro t
  exact ret_mk [dB t] (by kernel_rfl) (by kernel_rfl) (by kernel_rfl) (by kernel_rfl)) h
def Nkf : Fun := fun avs H =>
  match avs,H with
  | [.dat (.list (.int .u8)) a],[] => ⟨_,N2w a,fun (t : Bool) => (dB t,[]),[],none⟩
  | _,_ => Ans.no
theorem Nt2 : Sound Tryd.prog 3 Nkf := by
  refine fn_sound' (C := N7f) (c := bodyOf Tryd.f3) (cok_of tys_ok (allc Nyi (allc Nui (allc Nhs (allc Nx6 (allc Nnu (allc Nka (allc N108 (allc Nuj alln)))))))) (allc Tryd.call5 (allc Tryd.call6 (allc Tryd.call7 (allc Tryd.call8 (allc Tryd.call10 (allc Tryd.call9 (allc Tryd.call11 (allc Tryd.call12 alln)))))))) (by kernel_rfl)) Tryd.func3 (by kernel_rfl) LL N2 ?_
  intro avs H r H' h
  unfold Nkf at h
  split at h
  · refine Awp.cast ?_ ?_ ?_ (Npe _ h) <;> kernel_rfl
  · simp [Ans.no,Ans.run] at h

end Go.Rv
