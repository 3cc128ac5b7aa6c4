/-
  The checked code answers as the plain functions do; written by program. Conditions: none.
-/
import Derived.Test.YtihgceegapfngadGreatDoorKFnReadJournala
import Derived.Test.YtihgceegapfngadGreatDoorFB
import Derived.Test.YtihgceegapfngadGreatDoorFB
import Derived.Test.YtihgceegapfngadGreatDoorProg
set_option linter.unusedVariables false
set_option linter.unusedSimpArgs false
set_option linter.defProp false
set_option maxRecDepth 100000
namespace Go.Rv
open Go.Proofs
def Ndf:Ann:=(.seq (.leaf [0,3]) (.seq (.leaf [0,3,5]) (.seq (.block (.seq (.leaf [0,3,5,9]) (.cond (.seq (.leaf [5]) (.seq (.leaf [4]) (.leafF [⟨0,4,true,none,none⟩] [4]))) (.seq (.leaf [0,3,5,28]) (.cond (.seq (.leaf [4]) (.leafF [⟨0,4,true,none,none⟩] [4])) (.seq (.leaf [0,3,5,39]) (.cond (.seq (.leaf [4]) (.leaf [4])) (.seq (.leaf [0,3,48]) (.cond (.seq (.leaf [4]) (.leafF [⟨0,4,true,none,none⟩] [4])) (.seq (.leaf [0,54]) (.cond (.seq (.leaf [4]) (.leafF [⟨0,4,true,none,none⟩] [4])) (.leaf [])))))))))))) (.seq (.leaf [4]) (.leafF [⟨0,4,true,none,none⟩] [4])))))
noncomputable def Ne5:Ctx:=⟨tlook tys,olook [(51,N36),(113,Nfq),(114,Nf5)],ioF,0,false,[]⟩
theorem N110 (a:List Int) (b c d:Int):Link Ne5 LL (bodyOf Tryz.f73) Ndf ⟨mkE 61 0 [(0,dL a),(1,.agg [dI b,dI c,dI d])],[]⟩ (N6o a b c d) (fun(t:Nat×(List Int))=>(Exit.ret,⟨mkE 61 0 [(4,.win 0 0 t.1)],[some (sI t.2)]⟩)):= .of fun K h=>by
 simp only[N6o,wpW] at h
 exact .of (by kernel_rfl) h
theorem Nsf (a:List Int) (b c d:Int) {r:AV} {H':Heap} (h:(Ans.mk _ (N1s a b c d) (fun(t:Nat×(List Int))=>(.win 0 0 t.1,[some (sI t.2)])) [] none).run=some (r,H')):Awp Ne5 LL (bodyOf Tryz.f73) Ndf ⟨mkE 61 0 [(0,dL a),(1,.agg [dI b,dI c,dI d])],[]⟩ (Ret (tlook tys) Tryz.f73.results.toList r H'):=
 ret_of' (N110 a b c d) (by unfold N1s;kernel_rfl) (by
 intro t
 exact ret_mk [.win 0 0 t.1] (by kernel_rfl) (by kernel_rfl) (by kernel_rfl) (by kernel_rfl)) h
def Ni4:Fun:=fun avs H=>
 match avs,H with
 |[.dat (.list (.int .i64)) a,.agg [.dat (.int .i64) b,.dat (.int .i64) c,.dat (.int .i64) d]],[]=>⟨_,N1s a b c d,fun(t:Nat×(List Int))=>(.win 0 0 t.1,[some (sI t.2)]),[],none⟩
 |_,_=>Ans.no
theorem N147:Sound Tryz.prog 73 Ni4:=by
 refine fn_sound' (C:=Ne5) (c:=bodyOf Tryz.f73) (cok_of tys_ok (allc N78 (allc Nro (allc N116 alln))) (allc Tryz.call51 (allc Tryz.call113 (allc Tryz.call114 alln))) (by kernel_rfl)) Tryz.func73 (by kernel_rfl) LL Ndf ?_
 intro avs H r H' h
 unfold Ni4 at h
 split at h
 ·refine Awp.cast ?_ ?_ ?_ (Nsf _ _ _ _ h)<;>kernel_rfl
 ·simp[Ans.no,Ans.run] at h
def N6:Ann:=(.seq (.leaf [2,3,4]) (.seq (.seq (.leaf [2,3,4,13]) (.cond (.seq (.leaf [4,5]) (.leafF [⟨0,4,false,some 0,some (.int .i64)⟩,⟨0,4,true,some 1,some (.int .i64)⟩] [4,5])) (.leaf [2,3,4]))) (.seq (.leaf [2,3,4,6]) (.seq (.seq (.leaf [2,3,4,6,25]) (.cond (.seq (.leaf [4,6,7]) (.seq (.leaf [4,6,7]) (.seq (.leaf [4,6]) (.seq (.leaf [4,5]) (.leaf [4,5]))))) (.leaf [2,3,4,6]))) (.seq (.leaf [2,4,6,8]) (.seq (.leaf [2,4,6,8,9]) (.seq (.seq (.leaf [2,4,6,8,9,10]) (.block (.loop (.seq (.seq (.leaf [2,4,6,8,9,10,58]) (.cond (.leaf [2,4,6,8,10]) (.leaf [4,6,8,9]))) (.seq (.block (.draw [] [0,1,2,3,4,5,6,7,8,9,10] [] [2,4,6,8,9,10])) (.leaf [2,4,6,8,9,10])))))) (.seq (.seq (.leaf [4,6,8,76]) (.cond (.seq (.leaf [4,5]) (.leaf [4,5])) (.leaf [4,6,8]))) (.seq (.leaf [4,6,8]) (.seq (.seq (.leaf [4,6,8,88]) (.cond (.leaf [4,6,8]) (.leaf [4,6,8]))) (.seq (.leaf [4,6]) (.seq (.leaf [4,5]) (.leaf [4,5])))))))))))))
noncomputable def N4m:Ctx:=⟨tlook tys,olook [(9,Nae),(72,Nij),(73,Ni4),(27,N16)],ioF,0,true,[]⟩
theorem Nr8 (a:List Int) (b:List (List Int)) (c d g:Int):Link N4m LL (Code.seq (cq [0] (bodyOf Tryz.f49)) (Code.seq (cq [0,1] (bodyOf Tryz.f49)) (Code.seq (cq [0,1,1] (bodyOf Tryz.f49)) (Code.seq (cq [0,1,1,1] (bodyOf Tryz.f49)) (Code.seq (cq [0,1,1,1,1] (bodyOf Tryz.f49)) (cq [0,1,1,1,1,1] (bodyOf Tryz.f49))))))) (Ann.seq (aq [0] N6) (Ann.seq (aq [0,1] N6) (Ann.seq (aq [0,1,1] N6) (Ann.seq (aq [0,1,1,1] N6) (Ann.seq (aq [0,1,1,1,1] N6) (aq [0,1,1,1,1,1] N6)))))) ⟨mkE 98 0 [(0,.agg [dL a,.dat (.list (.list (.int .i64))) b]),(1,.agg [dI c,dI d,dI g])],[]⟩ (Ncf a b c d g) (Sum.elim (fun(t:Nat×Bool×(List Int)×(List Int)×(List (List Int)))=>(Exit.normal,⟨mkE 98 0 [(2,.ptr 0 0),(4,.ptr 1 0),(6,.ptr 2 0),(8,.win 3 0 t.1),(9,dB t.2.1)],[some (.box [dL a,.dat (.list (.list (.int .i64))) b]),some (.box [.nils,.nils]),some (.box [.slc 4,.slc 5]),some (sI t.2.2.1),some (sI t.2.2.2.1),some (.nest (.int .i64) t.2.2.2.2 0 [])]⟩)) (fun(t:Bool×(List Int)×(List (List Int)))=>(Exit.ret,⟨mkE 98 0 [(4,.ptr 0 0),(5,dB t.1)],[some (.box [.slc 1,.slc 2]),some (sI t.2.1),some (.nest (.int .i64) t.2.2 0 [])]⟩))):= .of fun K h=>by
 simp only[Ncf,wpW] at h
 exact .of (by kernel_rfl) h
theorem Nrr (a:Nat) (b:Bool) (c:List Int) (d:List (List Int)) (g i:List Int) (j:List (List Int)):Link N4m LL (cq [0,0,1,1,1,1,1,1] (bodyOf Tryz.f49)) (aq [0,0,1,1,1,1,1,1] N6) ⟨mkE 98 0 [(2,.ptr 0 0),(4,.ptr 1 0),(6,.ptr 2 0),(8,.win 3 0 a),(9,dB b)],[some (.box [dL c,.dat (.list (.list (.int .i64))) d]),some (.box [.nils,.nils]),some (.box [.slc 4,.slc 5]),some (sI g),some (sI i),some (.nest (.int .i64) j 0 [])]⟩ (N83) (fun(t:Unit)=>(Exit.normal,⟨mkE 98 0 [(2,.ptr 0 0),(4,.ptr 1 0),(6,.ptr 2 0),(8,.win 3 0 a),(9,dB b),(10,dI 0)],[some (.box [dL c,.dat (.list (.list (.int .i64))) d]),some (.box [.nils,.nils]),some (.box [.slc 4,.slc 5]),some (sI g),some (sI i),some (.nest (.int .i64) j 0 [])]⟩)):= .of fun K h=>by
 simp only[N83,wpW] at h
 exact .of (by kernel_rfl) h
theorem Nqd (a:Nat) (b:Bool) (c:Int) (d:List Int) (g:List (List Int)) (i j:List Int) (k:List (List Int)):Link N4m LL (cq [0,0,1,0,1,1,1,1,1,1] (bodyOf Tryz.f49)) (aq [0,0,1,0,1,1,1,1,1,1] N6) ⟨mkE 98 0 [(2,.ptr 0 0),(4,.ptr 1 0),(6,.ptr 2 0),(8,.win 3 0 a),(9,dB b),(10,dI c)],[some (.box [dL d,.dat (.list (.list (.int .i64))) g]),some (.box [.nils,.nils]),some (.box [.slc 4,.slc 5]),some (sI i),some (sI j),some (.nest (.int .i64) k 0 [])]⟩ (N2z a b c d i) (Sum.elim (fun(t:Bool×Int)=>(Exit.normal,⟨mkE 98 0 [(2,.ptr 0 0),(4,.ptr 1 0),(6,.ptr 2 0),(8,.win 3 0 a),(9,dB t.1),(10,dI t.2)],[some (.box [dL d,.dat (.list (.list (.int .i64))) g]),some (.box [.nils,.nils]),some (.box [.slc 4,.slc 5]),some (sI i),some (sI j),some (.nest (.int .i64) k 0 [])]⟩)) (fun(t:Bool)=>((Exit.exit 0),⟨mkE 98 0 [(4,.ptr 0 0),(6,.ptr 1 0),(8,.win 2 0 a),(9,dB t)],[some (.box [.nils,.nils]),some (.box [.slc 3,.slc 4]),some (sI i),some (sI j),some (.nest (.int .i64) k 0 [])]⟩))):= .of fun K h=>by
 simp only[N2z,wpW] at h
 exact .of (by kernel_rfl) h
theorem N18g (a:Nat) (b:Bool) (c d:List Int) (g:List (List Int)):Link N4m LL (cq [1,1,1,1,1,1,1] (bodyOf Tryz.f49)) (aq [1,1,1,1,1,1,1] N6) ⟨mkE 98 0 [(4,.ptr 0 0),(6,.ptr 1 0),(8,.win 2 0 a),(9,dB b)],[some (.box [.nils,.nils]),some (.box [.slc 3,.slc 4]),some (sI c),some (sI d),some (.nest (.int .i64) g 0 [])]⟩ (N8i a b c d g) (fun(t:Bool×(List Int)×(List (List Int)))=>(Exit.ret,⟨mkE 98 0 [(4,.ptr 0 0),(5,dB t.1)],[some (.box [.slc 1,.slc 2]),some (sI t.2.1),some (.nest (.int .i64) t.2.2 0 [])]⟩)):= .of fun K h=>by
 simp only[N8i,wpW] at h
 exact .of (by kernel_rfl) h
theorem N127 (b:List Int) (d:List (List Int)) (g i j:Int) {r:AV} {H':Heap} (h:(Ans.mk _ (N3v b d g i j) (fun(t:Bool×(List Int)×(List (List Int)))=>(.tup [.agg [.slc 1,.slc 2],dB t.1],[some (.box [.slc 1,.slc 2]),some (sI t.2.1),some (.nest (.int .i64) t.2.2 0 [])])) [] none).run=some (r,H')):Awp N4m LL (bodyOf Tryz.f49) N6 ⟨mkE 98 0 [(0,.agg [dL b,.dat (.list (.list (.int .i64))) d]),(1,.agg [dI g,dI i,dI j])],[]⟩ (Ret (tlook tys) Tryz.f49.results.toList r H'):=
 ret_of' (Link.cast (by kernel_rfl) (by kernel_rfl) (link_group (c:=(cq [0,1,1,1,1,1] (bodyOf Tryz.f49))) (a:=(aq [0,1,1,1,1,1] N6)) [(cq [0] (bodyOf Tryz.f49)),(cq [0,1] (bodyOf Tryz.f49)),(cq [0,1,1] (bodyOf Tryz.f49)),(cq [0,1,1,1] (bodyOf Tryz.f49)),(cq [0,1,1,1,1] (bodyOf Tryz.f49))] [(aq [0] N6),(aq [0,1] N6),(aq [0,1,1] N6),(aq [0,1,1,1] N6),(aq [0,1,1,1,1] N6)] rfl (link_seq2 (Nr8 b d g i j) (fun(t:Nat×Bool×(List Int)×(List Int)×(List (List Int)))=>(link_seq (link_seq (Nrr t.1 t.2.1 b d t.2.2.1 t.2.2.2.1 t.2.2.2.2) (fun(t30:Unit)=>(link_block (fin2:=(fun(t30:Bool)=>(Exit.normal,⟨mkE 98 0 [(4,.ptr 0 0),(6,.ptr 1 0),(8,.win 2 0 t.1),(9,dB t30)],[some (.box [.nils,.nils]),some (.box [.slc 3,.slc 4]),some (sI t.2.2.1),some (sI t.2.2.2.1),some (.nest (.int .i64) t.2.2.2.2 0 [])]⟩))) (id:=0) (link_loop (mk:=fun(s:Bool×Int)=>⟨mkE 98 0 [(2,.ptr 0 0),(4,.ptr 1 0),(6,.ptr 2 0),(8,.win 3 0 t.1),(9,dB s.1),(10,dI s.2)],[some (.box [dL b,.dat (.list (.list (.int .i64))) d]),some (.box [.nils,.nils]),some (.box [.slc 4,.slc 5]),some (sI t.2.2.1),some (sI t.2.2.2.1),some (.nest (.int .i64) t.2.2.2.2 0 [])]⟩) (fin:=(fun(t30:Bool)=>((Exit.exit 0),⟨mkE 98 0 [(4,.ptr 0 0),(6,.ptr 1 0),(8,.win 2 0 t.1),(9,dB t30)],[some (.box [.nils,.nils]),some (.box [.slc 3,.slc 4]),some (sI t.2.2.1),some (sI t.2.2.2.1),some (.nest (.int .i64) t.2.2.2.2 0 [])]⟩))) (by
 rintro t30 f K h
 ·exact h) (fun s=>link_map (Nqd t.1 s.1 s.2 b d t.2.2.1 t.2.2.2.1 t.2.2.2.2) (Sum.elim (fun(t30:Bool×Int)=>Sum.inl (t30.1,t30.2)) (fun(t30:Bool)=>Sum.inr t30)) (by
 rintro(t30|t30)
 ·kernel_rfl
 ·kernel_rfl)) (t.2.1,0)) (fun(t30:Bool)=>t30) (by
 rintro t30 K h
 ·exact Eq.mp (by kernel_rfl) h)))) (fun(t30:Bool)=>(N18g t.1 t30 t.2.2.1 t.2.2.2.1 t.2.2.2.2)))) (fun(t:Bool×(List Int)×(List (List Int)))=>t) (by
 rintro t
 ·kernel_rfl) (by
 rintro t f K h
 ·exact h)))) (by unfold N3v;kernel_rfl) (by
 intro t
 exact ret_mk [.agg [.slc 1,.slc 2],dB t.1] (by kernel_rfl) (by kernel_rfl) (by kernel_rfl) (by kernel_rfl)) h
def Nfr:Fun:=fun avs H=>
 match avs,H with
 |[.agg [.dat (.list (.int .i64)) a,.dat (.list (.list (.int .i64))) b],.agg [.dat (.int .i64) c,.dat (.int .i64) d,.dat (.int .i64) g]],[]=>⟨_,N3v a b c d g,fun(t:Bool×(List Int)×(List (List Int)))=>(.tup [.agg [.slc 1,.slc 2],dB t.1],[some (.box [.slc 1,.slc 2]),some (sI t.2.1),some (.nest (.int .i64) t.2.2 0 [])]),[],none⟩
 |_,_=>Ans.no
theorem Nr5:Sound Tryz.prog 49 Nfr:=by
 refine fn_sound' (C:=N4m) (c:=bodyOf Tryz.f49) (cok_of tys_ok (allc Nly (allc Nyv (allc N147 (allc N2f alln)))) (allc Tryz.call9 (allc Tryz.call72 (allc Tryz.call73 (allc Tryz.call27 alln)))) (by kernel_rfl)) Tryz.func49 (by kernel_rfl) LL N6 ?_
 intro avs H r H' h
 unfold Nfr at h
 split at h
 ·refine Awp.cast ?_ ?_ ?_ (N127 _ _ _ _ _ h)<;>kernel_rfl
 ·simp[Ans.no,Ans.run] at h
def N23:Ann:=(.seq (.leaf [0,1,4]) (.seq (.leaf [0,1,4,5]) (.seq (.seq (.leafF [⟨3,5,false,some 0,none⟩,⟨3,5,true,some 1,some (.int .i64)⟩] [0,1,4,5,7]) (.block (.loop (.seq (.seq (.leaf [0,1,4,5,7,19]) (.cond (.leafF [⟨0,5,false,some 0,none⟩] [0,1,4,5,7]) (.leaf [0,1,4,5]))) (.seq (.block (.seq (.draw [5,200002,300000] [0,1,2,3,4,5,6,7,8,9,10,11] [] [0,1,4,5,7,8,9]) (.seq (.leaf [0,1,4,5,7,8,31]) (.cond (.leaf [0,1,4,5,7]) (.leaf [0,1,4,5,7]))))) (.leafF [⟨3,5,false,some 0,none⟩,⟨3,5,true,some 1,some (.int .i64)⟩] [0,1,4,5,7])))))) (.seq (.seq (.leaf [0,4,5,35]) (.cond (.seq (.leaf [4,5,37]) (.block (.seq (.leaf [4,5,37,39]) (.cond (.leaf [4,5]) (.seq (.leaf [4,5,43]) (.cond (.leaf [4,5]) (.seq (.leaf [4]) (.leafF [⟨0,4,false,some 0,some (.int .i64)⟩,⟨0,4,false,some 0,none⟩,⟨0,4,true,some 1,some (.int .i64)⟩] [4])))))))) (.leaf [4,5]))) (.seq (.leaf [4]) (.leafF [⟨0,4,false,some 0,none⟩] [4]))))))
noncomputable def N48:Ctx:=⟨tlook tys,olook [(41,Nc8),(48,Ne3),(19,Nk),(50,Nb0),(49,Nfr),(25,N60)],ioF,1,true,[]⟩
theorem Nud (a:Int) (b:List Int) (c:Int):Link N48 LL (Code.seq (cq [0] (bodyOf Tryz.f24)) (cq [0,1] (bodyOf Tryz.f24))) (Ann.seq (aq [0] N23) (aq [0,1] N23)) ⟨mkE 52 0 [(0,.ptr 0 0),(1,dI a)],[some (.box [dV b,dI c])]⟩ (Nbp b c) (fun(t:Int×(List Int))=>(Exit.normal,⟨mkE 52 0 [(0,.ptr 0 0),(1,dI a),(4,.ptr 1 0),(5,.ptr 2 0)],[some (.box [dV b,dI t.1]),some (.box [.nils,.nils]),some (.box [.slc 3,.nils]),some (sI t.2)]⟩)):= .of fun K h=>by
 simp only[Nbp,wpW] at h
 exact .of (by kernel_rfl) h
theorem Nr2 (a:Int) (b:List Int) (c:Int) (d:List Int):Link N48 LL (cq [0,0,1,1] (bodyOf Tryz.f24)) (aq [0,0,1,1] N23) ⟨mkE 52 0 [(0,.ptr 0 0),(1,dI a),(4,.ptr 1 0),(5,.ptr 2 0)],[some (.box [dV b,dI c]),some (.box [.nils,.nils]),some (.box [.slc 3,.nils]),some (sI d)]⟩ (Nao b c) (fun(t:Int×Int)=>(Exit.normal,⟨mkE 52 0 [(0,.ptr 0 0),(1,dI a),(4,.ptr 1 0),(5,.ptr 2 0),(7,dI t.1)],[some (.box [dV b,dI t.2]),some (.box [.nils,.nils]),some (.box [dL d,.slc 3]),some (.nest (.int .i64) ([]:List (List Int)) 0 [])]⟩)):= .of fun K h=>by
 simp only[Nao,wpW] at h
 exact .of (by kernel_rfl) h
theorem Nvz (a b:Int) (c:List Int) (d:Int) (g:List Int) (i:List (List Int)):Link N48 LL (cq [0,0,1,0,1,1] (bodyOf Tryz.f24)) (aq [0,0,1,0,1,1] N23) ⟨mkE 52 0 [(0,.ptr 0 0),(1,dI a),(4,.ptr 1 0),(5,.ptr 2 0),(7,dI b)],[some (.box [dV c,dI d]),some (.box [.nils,.nils]),some (.box [dL g,.slc 3]),some (.nest (.int .i64) i 0 [])]⟩ (N6q b c d g i) (Sum.elim (fun(t:Int×Int×(List Int)×(List (List Int)))=>(Exit.normal,⟨mkE 52 0 [(0,.ptr 0 0),(1,dI a),(4,.ptr 1 0),(5,.ptr 2 0),(7,dI t.1)],[some (.box [dV c,dI t.2.1]),some (.box [.nils,.nils]),some (.box [dL t.2.2.1,.slc 3]),some (.nest (.int .i64) t.2.2.2 0 [])]⟩)) (fun(t:Int×(List Int)×(List (List Int)))=>((Exit.exit 0),⟨mkE 52 0 [(0,.ptr 0 0),(1,dI a),(4,.ptr 1 0),(5,.ptr 2 0)],[some (.box [dV c,dI t.1]),some (.box [.nils,.nils]),some (.box [dL t.2.1,.slc 3]),some (.nest (.int .i64) t.2.2 0 [])]⟩))):= .of fun K h=>by
 simp only[N6q,wpW] at h
 exact .of (by kernel_rfl) h
theorem N12u (a:Int) (b:List Int) (c:Int) (d:List Int) (g:List (List Int)):Link N48 LL (cq [1,1,1] (bodyOf Tryz.f24)) (aq [1,1,1] N23) ⟨mkE 52 0 [(0,.ptr 0 0),(1,dI a),(4,.ptr 1 0),(5,.ptr 2 0)],[some (.box [dV b,dI c]),some (.box [.nils,.nils]),some (.box [dL d,.slc 3]),some (.nest (.int .i64) g 0 [])]⟩ (Nai a b c d g) (fun(t:Int×(List Int)×(List (List Int)))=>(Exit.ret,⟨mkE 52 0 [(4,.ptr 1 0)],[some (.box [dV b,dI t.1]),some (.box [dL t.2.1,.slc 2]),some (.nest (.int .i64) t.2.2 0 [])]⟩)):= .of fun K h=>by
 simp only[Nai,wpW] at h
 exact .of (by kernel_rfl) h
theorem N15x (b:Int) (d:List Int) (g:Int) {r:AV} {H':Heap} (h:(Ans.mk _ (N44 b d g) (fun(t:Int×(List Int)×(List (List Int)))=>(.agg [dL t.2.1,.slc 2],[some (.box [dV d,dI t.1]),some (.box [dL t.2.1,.slc 2]),some (.nest (.int .i64) t.2.2 0 [])])) [] none).run=some (r,H')):Awp N48 LL (bodyOf Tryz.f24) N23 ⟨mkE 52 0 [(0,.ptr 0 0),(1,dI b)],[some (.box [dV d,dI g])]⟩ (Ret (tlook tys) Tryz.f24.results.toList r H'):=
 ret_of' (Link.cast (by kernel_rfl) (by kernel_rfl) (link_group (c:=(cq [0,1] (bodyOf Tryz.f24))) (a:=(aq [0,1] N23)) [(cq [0] (bodyOf Tryz.f24))] [(aq [0] N23)] rfl (link_seq (Nud b d g) (fun(t:Int×(List Int))=>(link_seq (link_seq (Nr2 b d t.1 t.2) (fun(t31:Int×Int)=>(link_block (fin2:=(fun(t8:Int×(List Int)×(List (List Int)))=>(Exit.normal,⟨mkE 52 0 [(0,.ptr 0 0),(1,dI b),(4,.ptr 1 0),(5,.ptr 2 0)],[some (.box [dV d,dI t8.1]),some (.box [.nils,.nils]),some (.box [dL t8.2.1,.slc 3]),some (.nest (.int .i64) t8.2.2 0 [])]⟩))) (id:=0) (link_loop (mk:=fun(s:Int×Int×(List Int)×(List (List Int)))=>⟨mkE 52 0 [(0,.ptr 0 0),(1,dI b),(4,.ptr 1 0),(5,.ptr 2 0),(7,dI s.1)],[some (.box [dV d,dI s.2.1]),some (.box [.nils,.nils]),some (.box [dL s.2.2.1,.slc 3]),some (.nest (.int .i64) s.2.2.2 0 [])]⟩) (fin:=(fun(t8:Int×(List Int)×(List (List Int)))=>((Exit.exit 0),⟨mkE 52 0 [(0,.ptr 0 0),(1,dI b),(4,.ptr 1 0),(5,.ptr 2 0)],[some (.box [dV d,dI t8.1]),some (.box [.nils,.nils]),some (.box [dL t8.2.1,.slc 3]),some (.nest (.int .i64) t8.2.2 0 [])]⟩))) (by
 rintro t8 f K h
 ·exact h) (fun s=>link_map (Nvz b s.1 d s.2.1 s.2.2.1 s.2.2.2) (Sum.elim (fun(t8:Int×Int×(List Int)×(List (List Int)))=>Sum.inl (t8.1,t8.2.1,t8.2.2.1,t8.2.2.2)) (fun(t8:Int×(List Int)×(List (List Int)))=>Sum.inr t8)) (by
 rintro(t8|t8)
 ·kernel_rfl
 ·kernel_rfl)) (t31.1,t31.2,t.2,([]:List (List Int)))) (fun(t8:Int×(List Int)×(List (List Int)))=>(t8.1,t8.2.1,t8.2.2)) (by
 rintro t8 K h
 ·exact Eq.mp (by kernel_rfl) h)))) (fun(t31:Int×(List Int)×(List (List Int)))=>(N12u b d t31.1 t31.2.1 t31.2.2))))))) (by unfold N44;kernel_rfl) (by
 intro t
 exact ret_mk [.agg [dL t.2.1,.slc 2]] (by kernel_rfl) (by kernel_rfl) (by kernel_rfl) (by kernel_rfl)) h
def Ngk:Fun:=fun avs H=>
 match avs,H with
 |[.ptr 0 0,.dat (.int .i64) a],[some (.box [.dat (.list (.int .u8)) b,.dat (.int .i64) c])]=>⟨_,N44 a b c,fun(t:Int×(List Int)×(List (List Int)))=>(.agg [dL t.2.1,.slc 2],[some (.box [dV b,dI t.1]),some (.box [dL t.2.1,.slc 2]),some (.nest (.int .i64) t.2.2 0 [])]),[],none⟩
 |_,_=>Ans.no
theorem Nvm:Sound Tryz.prog 24 Ngk:=by
 refine fn_sound' (C:=N48) (c:=bodyOf Tryz.f24) (cok_of tys_ok (allc Npg (allc N139 (allc Nt (allc Nmv (allc Nr5 (allc N8e alln)))))) (allc Tryz.call41 (allc Tryz.call48 (allc Tryz.call19 (allc Tryz.call50 (allc Tryz.call49 (allc Tryz.call25 alln)))))) (by kernel_rfl)) Tryz.func24 (by kernel_rfl) LL N23 ?_
 intro avs H r H' h
 unfold Ngk at h
 split at h
 ·refine Awp.cast ?_ ?_ ?_ (N15x _ _ _ h)<;>kernel_rfl
 ·simp[Ans.no,Ans.run] at h
def Ne7:Ann:=(.seq (.leaf [0,2]) (.seq (.leaf [2,4]) (.seq (.leaf [2,4,5]) (.seq (.seq (.leaf [2,4,5,11]) (.cond (.seq (.draw [] [0,2,1,3] [] [2,3]) (.leaf [2,3])) (.leaf [2,4,5]))) (.seq (.draw [200002,300000] [0,1,2,3,4,5,6] [] [2,3]) (.leaf [2,3]))))))
noncomputable def Ngj:Ctx:=⟨tlook tys,olook [(16,Nb6),(24,Ngk),(25,N60),(26,Naa)],ioF,0,true,[]⟩
theorem Nzk (a:List Int):Link Ngj LL (bodyOf Tryz.f8) Ne7 ⟨mkE 19 0 [(0,dV a)],[]⟩ (Nam a) (fun(t:(List Int)×(List (Int×Int×Int×Unit))×(List (List Int)))=>(Exit.ret,⟨mkE 19 0 [(2,.ptr 0 0),(3,.slc 1)],[some (.box [dL t.1,.slc 2]),some (.seq (.pair (.int .i64) (.pair (.int .i64) (.pair (.int .i64) .unit))) t.2.1),some (.nest (.int .i64) t.2.2 0 [])]⟩)):= .of fun K h=>by
 simp only[Nam,wpW] at h
 exact .of (by kernel_rfl) h
theorem N13r (a:List Int) {r:AV} {H':Heap} (h:(Ans.mk _ (N5f a) (fun(t:(List Int)×(List (Int×Int×Int×Unit))×(List (List Int)))=>(.tup [.agg [dL t.1,.slc 2],.slc 1],[some (.box [dL t.1,.slc 2]),some (.seq (.pair (.int .i64) (.pair (.int .i64) (.pair (.int .i64) .unit))) t.2.1),some (.nest (.int .i64) t.2.2 0 [])])) [] none).run=some (r,H')):Awp Ngj LL (bodyOf Tryz.f8) Ne7 ⟨mkE 19 0 [(0,dV a)],[]⟩ (Ret (tlook tys) Tryz.f8.results.toList r H'):=
 ret_of' (Nzk a) (by unfold N5f;kernel_rfl) (by
 intro t
 exact ret_mk [.agg [dL t.1,.slc 2],.slc 1] (by kernel_rfl) (by kernel_rfl) (by kernel_rfl) (by kernel_rfl)) h
def Nf1:Fun:=fun avs H=>
 match avs,H with
 |[.dat (.list (.int .u8)) a],[]=>⟨_,N5f a,fun(t:(List Int)×(List (Int×Int×Int×Unit))×(List (List Int)))=>(.tup [.agg [dL t.1,.slc 2],.slc 1],[some (.box [dL t.1,.slc 2]),some (.seq (.pair (.int .i64) (.pair (.int .i64) (.pair (.int .i64) .unit))) t.2.1),some (.nest (.int .i64) t.2.2 0 [])]),[],none⟩
 |_,_=>Ans.no
theorem N177:Sound Tryz.prog 8 Nf1:=by
 refine fn_sound' (C:=Ngj) (c:=bodyOf Tryz.f8) (cok_of tys_ok (allc Noh (allc Nvm (allc N8e (allc Nmr alln)))) (allc Tryz.call16 (allc Tryz.call24 (allc Tryz.call25 (allc Tryz.call26 alln)))) (by kernel_rfl)) Tryz.func8 (by kernel_rfl) LL Ne7 ?_
 intro avs H r H' h
 unfold Nf1 at h
 split at h
 ·refine Awp.cast ?_ ?_ ?_ (N13r _ h)<;>kernel_rfl
 ·simp[Ans.no,Ans.run] at h
def N1p:Ann:=(.seq (.leaf [0]) (.seq (.leaf [0,3]) (.seq (.seq (.leaf [0,3,6,7,8]) (.block (.loop (.seq (.leaf [0,3,6,7,8,9]) (.seq (.cond (.leaf [0,3,6,7,8]) (.leaf [3])) (.seq (.block (.seq (.leaf [0,3,5,6,7,8]) (.seq (.seq (.leaf [0,3,5,6,7,8,19]) (.cond (.seq (.leaf [2]) (.leaf [2])) (.leaf [0,3,5,6,7,8]))) (.seq (.leaf [0,3,6,7,8,21]) (.cond (.leaf [0,3,6,7,8]) (.leaf [0,3,6,7,8])))))) (.leaf [0,3,6,7,8]))))))) (.seq (.leaf [2]) (.leaf [2])))))
noncomputable def N57:Ctx:=⟨tlook tys,olook [],ioF,0,false,[]⟩
theorem N14n (a:List Int):Link N57 LL (Code.seq (cq [0] (bodyOf Tryz.f61)) (cq [0,1] (bodyOf Tryz.f61))) (Ann.seq (aq [0] N1p) (aq [0,1] N1p)) ⟨mkE 27 0 [(0,dL a)],[]⟩ (Nba) (fun(t:Unit)=>(Exit.normal,⟨mkE 27 0 [(0,dL a),(3,dI 0)],[]⟩)):= .of fun K h=>by
 simp only[Nba,wpW] at h
 exact .of (by kernel_rfl) h
theorem Nwz (a:List Int):Link N57 LL (cq [0,0,1,1] (bodyOf Tryz.f61)) (aq [0,0,1,1] N1p) ⟨mkE 27 0 [(0,dL a),(3,dI 0)],[]⟩ (N9t a) (fun(t:Int)=>(Exit.normal,⟨mkE 27 0 [(0,dL a),(3,dI 0),(6,dL a),(7,dI t),(8,dI 0)],[]⟩)):= .of fun K h=>by
 simp only[N9t,wpW] at h
 exact .of (by kernel_rfl) h
theorem N14h (a:List Int) (b c d:Int):Link N57 LL (cq [0,0,1,0,1,1] (bodyOf Tryz.f61)) (aq [0,0,1,0,1,1] N1p) ⟨mkE 27 0 [(0,dL a),(3,dI b),(6,dL a),(7,dI c),(8,dI d)],[]⟩ (N4k a b c d) (Sum.elim (fun(t:Int×Int)=>(Exit.normal,⟨mkE 27 0 [(0,dL a),(3,dI t.1),(6,dL a),(7,dI c),(8,dI t.2)],[]⟩)) (Sum.elim (fun(t:Bool)=>(Exit.ret,⟨mkE 27 0 [(2,dB t)],[]⟩)) (fun(t:Int)=>((Exit.exit 0),⟨mkE 27 0 [(3,dI t)],[]⟩)))):= .of fun K h=>by
 simp only[N4k,wpW] at h
 exact .of (by kernel_rfl) h
theorem Ns3 (a:Int):Link N57 LL (cq [1,1,1] (bodyOf Tryz.f61)) (aq [1,1,1] N1p) ⟨mkE 27 0 [(3,dI a)],[]⟩ (N8r a) (fun(t:Bool)=>(Exit.ret,⟨mkE 27 0 [(2,dB t)],[]⟩)):= .of fun K h=>by
 simp only[N8r,wpW] at h
 exact .of (by kernel_rfl) h
theorem Nxg (b:List Int) {r:AV} {H':Heap} (h:(Ans.mk _ (N5w b) (fun(t:Bool)=>(dB t,[])) [] none).run=some (r,H')):Awp N57 LL (bodyOf Tryz.f61) N1p ⟨mkE 27 0 [(0,dL b)],[]⟩ (Ret (tlook tys) Tryz.f61.results.toList r H'):=
 ret_of' (Link.cast (by kernel_rfl) (by kernel_rfl) (link_group (c:=(cq [0,1] (bodyOf Tryz.f61))) (a:=(aq [0,1] N1p)) [(cq [0] (bodyOf Tryz.f61))] [(aq [0] N1p)] rfl (link_seq (N14n b) (fun(t:Unit)=>(link_seq2 (link_seq (Nwz b) (fun(t:Int)=>(link_block (fin2:=(Sum.elim (fun(t9:Int)=>(Exit.normal,⟨mkE 27 0 [(3,dI t9)],[]⟩)) (fun(t9:Bool)=>(Exit.ret,⟨mkE 27 0 [(2,dB t9)],[]⟩)))) (id:=0) (link_loop (mk:=fun(s:Int×Int)=>⟨mkE 27 0 [(0,dL b),(3,dI s.1),(6,dL b),(7,dI t),(8,dI s.2)],[]⟩) (fin:=(Sum.elim (fun(t9:Bool)=>(Exit.ret,⟨mkE 27 0 [(2,dB t9)],[]⟩)) (fun(t9:Int)=>((Exit.exit 0),⟨mkE 27 0 [(3,dI t9)],[]⟩)))) (by
 rintro(t9|t9) f K h
 ·exact h
 ·exact h) (fun s=>link_map (N14h b s.1 t s.2) (Sum.elim (fun(t9:Int×Int)=>Sum.inl (t9.1,t9.2)) (Sum.elim (fun(t9:Bool)=>Sum.inr (Sum.inl t9)) (fun(t9:Int)=>Sum.inr (Sum.inr t9)))) (by
 rintro(t9|t9|t9)
 ·kernel_rfl
 ·kernel_rfl
 ·kernel_rfl)) (0,0)) (Sum.elim (fun(t9:Bool)=>(Sum.inr t9)) (fun(t9:Int)=>(Sum.inl t9))) (by
 rintro(t9|t9) K h
 ·exact Eq.mp (by kernel_rfl) h
 ·exact Eq.mp (by kernel_rfl) h)))) (fun(t:Int)=>(Ns3 t)) (fun(t:Bool)=>t) (by
 rintro t
 ·kernel_rfl) (by
 rintro t f K h
 ·exact h)))))) (by unfold N5w;kernel_rfl) (by
 intro t
 exact ret_mk [dB t] (by kernel_rfl) (by kernel_rfl) (by kernel_rfl) (by kernel_rfl)) h
def Nf6:Fun:=fun avs H=>
 match avs,H with
 |[.dat (.list (.int .i64)) a],[]=>⟨_,N5w a,fun(t:Bool)=>(dB t,[]),[],none⟩
 |_,_=>Ans.no
theorem N12s:Sound Tryz.prog 61 Nf6:=by
 refine fn_sound' (C:=N57) (c:=bodyOf Tryz.f61) (cok_of tys_ok (alln) (alln) (by kernel_rfl)) Tryz.func61 (by kernel_rfl) LL N1p ?_
 intro avs H r H' h
 unfold Nf6 at h
 split at h
 ·refine Awp.cast ?_ ?_ ?_ (Nxg _ h)<;>kernel_rfl
 ·simp[Ans.no,Ans.run] at h
def Nft:Ann:=(.seq (.leaf [0]) (.seq (.draw [] [0,1,2,3,4,5,6,7,8,9,10,11] [] [0,3]) (.seq (.seq (.leaf [0,3,16]) (.cond (.seq (.leaf [2]) (.leaf [2])) (.leaf [0,3]))) (.seq (.leaf [0]) (.seq (.leaf []) (.seq (.leaf [2]) (.leaf [2])))))))
noncomputable def Nda:Ctx:=⟨tlook tys,olook [],ioF,1,false,[]⟩
theorem Nyg (a:List Int) (b c:Int):Link Nda LL (bodyOf Tryz.f98) Nft ⟨mkE 28 0 [(0,.ptr 0 0)],[some (.box [dL a,dI b,dI c])]⟩ (Nay a b c) (fun(t:Bool×Int×Int)=>(Exit.ret,⟨mkE 28 0 [(2,dB t.1)],[some (.box [dL a,dI t.2.1,dI t.2.2])]⟩)):= .of fun K h=>by
 simp only[Nay,wpW] at h
 exact .of (by kernel_rfl) h
theorem Nty (a:List Int) (b c:Int) {r:AV} {H':Heap} (h:(Ans.mk _ (N3r a b c) (fun(t:Bool×Int×Int)=>(dB t.1,[some (.box [dL a,dI t.2.1,dI t.2.2])])) [] none).run=some (r,H')):Awp Nda LL (bodyOf Tryz.f98) Nft ⟨mkE 28 0 [(0,.ptr 0 0)],[some (.box [dL a,dI b,dI c])]⟩ (Ret (tlook tys) Tryz.f98.results.toList r H'):=
 ret_of' (Nyg a b c) (by unfold N3r;kernel_rfl) (by
 intro t
 exact ret_mk [dB t.1] (by kernel_rfl) (by kernel_rfl) (by kernel_rfl) (by kernel_rfl)) h
def Nb5:Fun:=fun avs H=>
 match avs,H with
 |[.ptr 0 0],[some (.box [.dat (.list (.int .i64)) a,.dat (.int .i64) b,.dat (.int .i64) c])]=>⟨_,N3r a b c,fun(t:Bool×Int×Int)=>(dB t.1,[some (.box [dL a,dI t.2.1,dI t.2.2])]),[],none⟩
 |_,_=>Ans.no
theorem Nln:Sound Tryz.prog 98 Nb5:=by
 refine fn_sound' (C:=Nda) (c:=bodyOf Tryz.f98) (cok_of tys_ok (alln) (alln) (by kernel_rfl)) Tryz.func98 (by kernel_rfl) LL Nft ?_
 intro avs H r H' h
 unfold Nb5 at h
 split at h
 ·refine Awp.cast ?_ ?_ ?_ (Nty _ _ _ h)<;>kernel_rfl
 ·simp[Ans.no,Ans.run] at h
def N2i:Ann:=(.seq (.leaf [0,1]) (.seq (.leaf [0,6]) (.seq (.block (.loop (.seq (.seq (.leaf [0,6,10]) (.cond (.leaf [0,6]) (.leaf [6]))) (.block (.seq (.leaf [0,6,15]) (.cond (.seq (.leaf [4,5]) (.leaf [4,5])) (.leaf [0,6]))))))) (.seq (.leaf [4,5]) (.leaf [4,5])))))
noncomputable def N75:Ctx:=⟨tlook tys,olook [(98,Nb5)],ioF,0,false,[]⟩
theorem N16g (a:List Int) (b:Int):Link N75 LL (Code.seq (cq [0] (bodyOf Tryz.f62)) (cq [0,1] (bodyOf Tryz.f62))) (Ann.seq (aq [0] N2i) (aq [0,1] N2i)) ⟨mkE 18 0 [(0,dL a),(1,dI b)],[]⟩ (Nbe) (fun(t:Unit)=>(Exit.normal,⟨mkE 18 0 [(0,dL a),(6,.ptr 0 0)],[some (.box [dL a,dI b,dI 0])]⟩)):= .of fun K h=>by
 simp only[Nbe,wpW] at h
 exact .of (by kernel_rfl) h
theorem N17x (a:List Int) (b c:Int):Link N75 LL (cq [0,0,0,1,1] (bodyOf Tryz.f62)) (aq [0,0,0,1,1] N2i) ⟨mkE 18 0 [(0,dL a),(6,.ptr 0 0)],[some (.box [dL a,dI b,dI c])]⟩ (N6e a b c) (Sum.elim (fun(t:Int×Int)=>(Exit.normal,⟨mkE 18 0 [(0,dL a),(6,.ptr 0 0)],[some (.box [dL a,dI t.1,dI t.2])]⟩)) (Sum.elim (fun(t:Int×Bool)=>(Exit.ret,⟨mkE 18 0 [(4,dI t.1),(5,dB t.2)],[]⟩)) (fun(t:Int×Int)=>((Exit.exit 0),⟨mkE 18 0 [(6,.ptr 0 0)],[some (.box [dL a,dI t.1,dI t.2])]⟩)))):= .of fun K h=>by
 simp only[N6e,wpW] at h
 exact .of (by kernel_rfl) h
theorem Nxr (a:List Int) (b c:Int):Link N75 LL (cq [1,1,1] (bodyOf Tryz.f62)) (aq [1,1,1] N2i) ⟨mkE 18 0 [(6,.ptr 0 0)],[some (.box [dL a,dI b,dI c])]⟩ (Nch c) (fun(t:Int×Bool)=>(Exit.ret,⟨mkE 18 0 [(4,dI t.1),(5,dB t.2)],[]⟩)):= .of fun K h=>by
 simp only[Nch,wpW] at h
 exact .of (by kernel_rfl) h
theorem Nwf (b:List Int) (d:Int) {r:AV} {H':Heap} (h:(Ans.mk _ (N59 b d) (fun(t:Int×Bool)=>(.tup [dI t.1,dB t.2],[])) [] none).run=some (r,H')):Awp N75 LL (bodyOf Tryz.f62) N2i ⟨mkE 18 0 [(0,dL b),(1,dI d)],[]⟩ (Ret (tlook tys) Tryz.f62.results.toList r H'):=
 ret_of' (Link.cast (by kernel_rfl) (by kernel_rfl) (link_group (c:=(cq [0,1] (bodyOf Tryz.f62))) (a:=(aq [0,1] N2i)) [(cq [0] (bodyOf Tryz.f62))] [(aq [0] N2i)] rfl (link_seq (N16g b d) (fun(t:Unit)=>(link_seq2 (link_block (fin2:=(Sum.elim (fun(t:Int×Int)=>(Exit.normal,⟨mkE 18 0 [(6,.ptr 0 0)],[some (.box [dL b,dI t.1,dI t.2])]⟩)) (fun(t:Int×Bool)=>(Exit.ret,⟨mkE 18 0 [(4,dI t.1),(5,dB t.2)],[]⟩)))) (id:=0) (link_loop (mk:=fun(s:Int×Int)=>⟨mkE 18 0 [(0,dL b),(6,.ptr 0 0)],[some (.box [dL b,dI s.1,dI s.2])]⟩) (fin:=(Sum.elim (fun(t:Int×Bool)=>(Exit.ret,⟨mkE 18 0 [(4,dI t.1),(5,dB t.2)],[]⟩)) (fun(t:Int×Int)=>((Exit.exit 0),⟨mkE 18 0 [(6,.ptr 0 0)],[some (.box [dL b,dI t.1,dI t.2])]⟩)))) (by
 rintro(t|t) f K h
 ·exact h
 ·exact h) (fun s=>link_map (N17x b s.1 s.2) (Sum.elim (fun(t:Int×Int)=>Sum.inl (t.1,t.2)) (Sum.elim (fun(t:Int×Bool)=>Sum.inr (Sum.inl t)) (fun(t:Int×Int)=>Sum.inr (Sum.inr t)))) (by
 rintro(t|t|t)
 ·kernel_rfl
 ·kernel_rfl
 ·kernel_rfl)) (d,0)) (Sum.elim (fun(t:Int×Bool)=>(Sum.inr t)) (fun(t:Int×Int)=>(Sum.inl (t.1,t.2)))) (by
 rintro(t|t) K h
 ·exact Eq.mp (by kernel_rfl) h
 ·exact Eq.mp (by kernel_rfl) h)) (fun(t:Int×Int)=>(Nxr b t.1 t.2)) (fun(t:Int×Bool)=>t) (by
 rintro t
 ·kernel_rfl) (by
 rintro t f K h
 ·exact h)))))) (by unfold N59;kernel_rfl) (by
 intro t
 exact ret_mk [dI t.1,dB t.2] (by kernel_rfl) (by kernel_rfl) (by kernel_rfl) (by kernel_rfl)) h
def Ndn:Fun:=fun avs H=>
 match avs,H with
 |[.dat (.list (.int .i64)) a,.dat (.int .i64) b],[]=>⟨_,N59 a b,fun(t:Int×Bool)=>(.tup [dI t.1,dB t.2],[]),[],none⟩
 |_,_=>Ans.no
theorem N17u:Sound Tryz.prog 62 Ndn:=by
 refine fn_sound' (C:=N75) (c:=bodyOf Tryz.f62) (cok_of tys_ok (allc Nln alln) (allc Tryz.call98 alln) (by kernel_rfl)) Tryz.func62 (by kernel_rfl) LL N2i ?_
 intro avs H r H' h
 unfold Ndn at h
 split at h
 ·refine Awp.cast ?_ ?_ ?_ (Nwf _ _ h)<;>kernel_rfl
 ·simp[Ans.no,Ans.run] at h
def N1q:Ann:=(.seq (.leaf [0]) (.seq (.seq (.leaf [0,18]) (.cond (.seq (.leaf [2]) (.leaf [2])) (.leaf [0]))) (.seq (.seq (.leaf [0,20,21]) (.block (.loop (.seq (.leaf [0,20,21,22]) (.seq (.cond (.leaf [0,20,21]) (.leaf [])) (.seq (.block (.seq (.leaf [0,3,20,21]) (.seq (.leaf [0,5,20,21]) (.seq (.leaf [0,20,21,32]) (.cond (.seq (.leaf [2]) (.leaf [2])) (.leaf [0,20,21])))))) (.leaf [0,20,21]))))))) (.seq (.leaf [2]) (.leaf [2])))))
noncomputable def N61:Ctx:=⟨tlook tys,olook [(61,Nf6),(62,Ndn)],ioF,0,false,[]⟩
theorem Nso (a:List Int):Link N61 LL (Code.seq (cq [0] (bodyOf Tryz.f39)) (cq [0,1] (bodyOf Tryz.f39))) (Ann.seq (aq [0] N1q) (aq [0,1] N1q)) ⟨mkE 34 0 [(0,dL a)],[]⟩ (Na4 a) (Sum.elim (fun(t:Unit)=>(Exit.normal,⟨mkE 34 0 [(0,dL a)],[]⟩)) (fun(t:Bool)=>(Exit.ret,⟨mkE 34 0 [(2,dB t)],[]⟩))):= .of fun K h=>by
 simp only[Na4,wpW] at h
 exact .of (by kernel_rfl) h
theorem Nsl (a:List Int):Link N61 LL (cq [0,0,1,1] (bodyOf Tryz.f39)) (aq [0,0,1,1] N1q) ⟨mkE 34 0 [(0,dL a)],[]⟩ (N7y a) (fun(t:Int)=>(Exit.normal,⟨mkE 34 0 [(0,dL a),(20,dI t),(21,dI 0)],[]⟩)):= .of fun K h=>by
 simp only[N7y,wpW] at h
 exact .of (by kernel_rfl) h
theorem Nrp (a:List Int) (b c:Int):Link N61 LL (cq [0,0,1,0,1,1] (bodyOf Tryz.f39)) (aq [0,0,1,0,1,1] N1q) ⟨mkE 34 0 [(0,dL a),(20,dI b),(21,dI c)],[]⟩ (N55 a b c) (Sum.elim (fun(t:Int)=>(Exit.normal,⟨mkE 34 0 [(0,dL a),(20,dI b),(21,dI t)],[]⟩)) (Sum.elim (fun(t:Bool)=>(Exit.ret,⟨mkE 34 0 [(2,dB t)],[]⟩)) (fun(t:Unit)=>((Exit.exit 0),⟨mkE 34 0 [],[]⟩)))):= .of fun K h=>by
 simp only[N55,wpW] at h
 exact .of (by kernel_rfl) h
theorem Nyy:Link N61 LL (cq [1,1,1] (bodyOf Tryz.f39)) (aq [1,1,1] N1q) ⟨mkE 34 0 [],[]⟩ (Nfj) (fun(t:Bool)=>(Exit.ret,⟨mkE 34 0 [(2,dB t)],[]⟩)):= .of fun K h=>by
 simp only[Nfj,wpW] at h
 exact .of (by kernel_rfl) h
theorem Nz7 (b:List Int) {r:AV} {H':Heap} (h:(Ans.mk _ (Nb b) (fun(t:Bool)=>(dB t,[])) [] none).run=some (r,H')):Awp N61 LL (bodyOf Tryz.f39) N1q ⟨mkE 34 0 [(0,dL b)],[]⟩ (Ret (tlook tys) Tryz.f39.results.toList r H'):=
 ret_of' (Link.cast (by kernel_rfl) (by kernel_rfl) (link_group (c:=(cq [0,1] (bodyOf Tryz.f39))) (a:=(aq [0,1] N1q)) [(cq [0] (bodyOf Tryz.f39))] [(aq [0] N1q)] rfl (link_seq2 (Nso b) (fun(t:Unit)=>(link_seq2 (link_seq (Nsl b) (fun(t:Int)=>(link_block (fin2:=(Sum.elim (fun(t10:Unit)=>(Exit.normal,⟨mkE 34 0 [],[]⟩)) (fun(t10:Bool)=>(Exit.ret,⟨mkE 34 0 [(2,dB t10)],[]⟩)))) (id:=0) (link_loop (mk:=fun(s:Int)=>⟨mkE 34 0 [(0,dL b),(20,dI t),(21,dI s)],[]⟩) (fin:=(Sum.elim (fun(t10:Bool)=>(Exit.ret,⟨mkE 34 0 [(2,dB t10)],[]⟩)) (fun(t10:Unit)=>((Exit.exit 0),⟨mkE 34 0 [],[]⟩)))) (by
 rintro(t10|t10) f K h
 ·exact h
 ·exact h) (fun s=>link_map (Nrp b t s) (Sum.elim (fun(t10:Int)=>Sum.inl t10) (Sum.elim (fun(t10:Bool)=>Sum.inr (Sum.inl t10)) (fun(t10:Unit)=>Sum.inr (Sum.inr t10)))) (by
 rintro(t10|t10|t10)
 ·kernel_rfl
 ·kernel_rfl
 ·kernel_rfl)) 0) (Sum.elim (fun(t10:Bool)=>(Sum.inr t10)) (fun(t10:Unit)=>(Sum.inl ()))) (by
 rintro(t10|t10) K h
 ·exact Eq.mp (by kernel_rfl) h
 ·exact Eq.mp (by kernel_rfl) h)))) (fun(t:Unit)=>(Nyy)) (fun(t:Bool)=>t) (by
 rintro t
 ·kernel_rfl) (by
 rintro t f K h
 ·exact h))) (fun(t:Bool)=>t) (by
 rintro t
 ·kernel_rfl) (by
 rintro t f K h
 ·exact h)))) (by unfold Nb;kernel_rfl) (by
 intro t
 exact ret_mk [dB t] (by kernel_rfl) (by kernel_rfl) (by kernel_rfl) (by kernel_rfl)) h
def N19:Fun:=fun avs H=>
 match avs,H with
 |[.dat (.list (.int .i64)) a],[]=>⟨_,Nb a,fun(t:Bool)=>(dB t,[]),[],none⟩
 |_,_=>Ans.no
theorem N2k:Sound Tryz.prog 39 N19:=by
 refine fn_sound' (C:=N61) (c:=bodyOf Tryz.f39) (cok_of tys_ok (allc N12s (allc N17u alln)) (allc Tryz.call61 (allc Tryz.call62 alln)) (by kernel_rfl)) Tryz.func39 (by kernel_rfl) LL N1q ?_
 intro avs H r H' h
 unfold N19 at h
 split at h
 ·refine Awp.cast ?_ ?_ ?_ (Nz7 _ h)<;>kernel_rfl
 ·simp[Ans.no,Ans.run] at h
def N2b:Ann:=(.seq (.leaf [1]) (.seq (.seq (.leaf [1,14]) (.cond (.seq (.leaf [2]) (.leaf [2])) (.leaf [1]))) (.seq (.seq (.leaf [16,17,18]) (.block (.loop (.seq (.leaf [16,17,18,19]) (.seq (.cond (.leaf [16,17,18]) (.leaf [])) (.seq (.block (.seq (.leaf [4,16,17,18]) (.seq (.leaf [16,17,18,24]) (.cond (.seq (.leaf [2]) (.leaf [2])) (.leaf [16,17,18]))))) (.leaf [16,17,18]))))))) (.seq (.leaf [2]) (.leaf [2])))))
noncomputable def N5b:Ctx:=⟨tlook tys,olook [(39,N19)],ioF,0,false,[]⟩
theorem Nrs (a:List Int) (b:List (List Int)):Link N5b LL (Code.seq (cq [0] (bodyOf Tryz.f28)) (cq [0,1] (bodyOf Tryz.f28))) (Ann.seq (aq [0] N2b) (aq [0,1] N2b)) ⟨mkE 26 0 [(0,.agg [dL a,.dat (.list (.list (.int .i64))) b])],[]⟩ (N8q a b) (Sum.elim (fun(t:Unit)=>(Exit.normal,⟨mkE 26 0 [(1,.ptr 0 0)],[some (.box [dL a,.dat (.list (.list (.int .i64))) b])]⟩)) (fun(t:Bool)=>(Exit.ret,⟨mkE 26 0 [(2,dB t)],[]⟩))):= .of fun K h=>by
 simp only[N8q,wpW] at h
 exact .of (by kernel_rfl) h
theorem N15g (a:List Int) (b:List (List Int)):Link N5b LL (cq [0,0,1,1] (bodyOf Tryz.f28)) (aq [0,0,1,1] N2b) ⟨mkE 26 0 [(1,.ptr 0 0)],[some (.box [dL a,.dat (.list (.list (.int .i64))) b])]⟩ (Nbd b) (fun(t:Int)=>(Exit.normal,⟨mkE 26 0 [(16,.dat (.list (.list (.int .i64))) b),(17,dI t),(18,dI 0)],[]⟩)):= .of fun K h=>by
 simp only[Nbd,wpW] at h
 exact .of (by kernel_rfl) h
theorem N10v (a:List (List Int)) (b c:Int):Link N5b LL (cq [0,0,1,0,1,1] (bodyOf Tryz.f28)) (aq [0,0,1,0,1,1] N2b) ⟨mkE 26 0 [(16,.dat (.list (.list (.int .i64))) a),(17,dI b),(18,dI c)],[]⟩ (N2x a b c) (Sum.elim (fun(t:Int)=>(Exit.normal,⟨mkE 26 0 [(16,.dat (.list (.list (.int .i64))) a),(17,dI b),(18,dI t)],[]⟩)) (Sum.elim (fun(t:Bool)=>(Exit.ret,⟨mkE 26 0 [(2,dB t)],[]⟩)) (fun(t:Unit)=>((Exit.exit 0),⟨mkE 26 0 [],[]⟩)))):= .of fun K h=>by
 simp only[N2x,wpW] at h
 exact .of (by kernel_rfl) h
theorem N12q:Link N5b LL (cq [1,1,1] (bodyOf Tryz.f28)) (aq [1,1,1] N2b) ⟨mkE 26 0 [],[]⟩ (Ngz) (fun(t:Bool)=>(Exit.ret,⟨mkE 26 0 [(2,dB t)],[]⟩)):= .of fun K h=>by
 simp only[Ngz,wpW] at h
 exact .of (by kernel_rfl) h
theorem N132 (b:List Int) (d:List (List Int)) {r:AV} {H':Heap} (h:(Ans.mk _ (N1y b d) (fun(t:Bool)=>(dB t,[])) [] none).run=some (r,H')):Awp N5b LL (bodyOf Tryz.f28) N2b ⟨mkE 26 0 [(0,.agg [dL b,.dat (.list (.list (.int .i64))) d])],[]⟩ (Ret (tlook tys) Tryz.f28.results.toList r H'):=
 ret_of' (Link.cast (by kernel_rfl) (by kernel_rfl) (link_group (c:=(cq [0,1] (bodyOf Tryz.f28))) (a:=(aq [0,1] N2b)) [(cq [0] (bodyOf Tryz.f28))] [(aq [0] N2b)] rfl (link_seq2 (Nrs b d) (fun(t:Unit)=>(link_seq2 (link_seq (N15g b d) (fun(t:Int)=>(link_block (fin2:=(Sum.elim (fun(t11:Unit)=>(Exit.normal,⟨mkE 26 0 [],[]⟩)) (fun(t11:Bool)=>(Exit.ret,⟨mkE 26 0 [(2,dB t11)],[]⟩)))) (id:=0) (link_loop (mk:=fun(s:Int)=>⟨mkE 26 0 [(16,.dat (.list (.list (.int .i64))) d),(17,dI t),(18,dI s)],[]⟩) (fin:=(Sum.elim (fun(t11:Bool)=>(Exit.ret,⟨mkE 26 0 [(2,dB t11)],[]⟩)) (fun(t11:Unit)=>((Exit.exit 0),⟨mkE 26 0 [],[]⟩)))) (by
 rintro(t11|t11) f K h
 ·exact h
 ·exact h) (fun s=>link_map (N10v d t s) (Sum.elim (fun(t11:Int)=>Sum.inl t11) (Sum.elim (fun(t11:Bool)=>Sum.inr (Sum.inl t11)) (fun(t11:Unit)=>Sum.inr (Sum.inr t11)))) (by
 rintro(t11|t11|t11)
 ·kernel_rfl
 ·kernel_rfl
 ·kernel_rfl)) 0) (Sum.elim (fun(t11:Bool)=>(Sum.inr t11)) (fun(t11:Unit)=>(Sum.inl ()))) (by
 rintro(t11|t11) K h
 ·exact Eq.mp (by kernel_rfl) h
 ·exact Eq.mp (by kernel_rfl) h)))) (fun(t:Unit)=>(N12q)) (fun(t:Bool)=>t) (by
 rintro t
 ·kernel_rfl) (by
 rintro t f K h
 ·exact h))) (fun(t:Bool)=>t) (by
 rintro t
 ·kernel_rfl) (by
 rintro t f K h
 ·exact h)))) (by unfold N1y;kernel_rfl) (by
 intro t
 exact ret_mk [dB t] (by kernel_rfl) (by kernel_rfl) (by kernel_rfl) (by kernel_rfl)) h
def N7h:Fun:=fun avs H=>
 match avs,H with
 |[.agg [.dat (.list (.int .i64)) a,.dat (.list (.list (.int .i64))) b]],[]=>⟨_,N1y a b,fun(t:Bool)=>(dB t,[]),[],none⟩
 |_,_=>Ans.no
theorem Niw:Sound Tryz.prog 28 N7h:=by
 refine fn_sound' (C:=N5b) (c:=bodyOf Tryz.f28) (cok_of tys_ok (allc N2k alln) (allc Tryz.call39 alln) (by kernel_rfl)) Tryz.func28 (by kernel_rfl) LL N2b ?_
 intro avs H r H' h
 unfold N7h at h
 split at h
 ·refine Awp.cast ?_ ?_ ?_ (N132 _ _ h)<;>kernel_rfl
 ·simp[Ans.no,Ans.run] at h
def ren_slices_Clone_int_int:Go.Shelf.Ren:=⟨fun|41=>52|n=>n,fun|4=>4|22=>28|23=>3|n=>n,fun n=>n⟩
theorem lay_slices_Clone_int_int:SlLaysE0.n41 Tryz.prog ren_slices_Clone_int_int:={
 mixed:=by kernel_rfl
 f41:=⟨Tryz.f52.name,by kernel_rfl,Tryz.func52.trans (congrArg some (by kernel_rfl))⟩
 t4:=Tryz.underlying4
 a4:=Tryz.isAgg4
 z4:=Tryz.sizeOf4
 v4:=Tryz.zeroValue4
 t22:=Tryz.underlying28
 a22:=Tryz.isAgg28
 z22:=Tryz.sizeOf28
 v22:=Tryz.zeroValue28}
def Nd6:Fun:=F_cloneD
theorem Nm1:Sound Tryz.prog 52 Nd6:=cloneD_sound lay_slices_Clone_int_int (infoOf (Tryz.prog.info? 3)) (.int .i64 0) 8 (by kernel_rfl) (by kernel_rfl) (by kernel_rfl) (by kernel_rfl) (by kernel_rfl) (by decide) Tryz.sizeOf3
def N1k:Ann:=(.seq (.leaf [0,1,4]) (.seq (.leaf [1,4,5]) (.seq (.seq (.leafF [⟨3,5,true,some 1,some (.int .i64)⟩] [4,5,11,12,13]) (.block (.loop (.seq (.leaf [4,5,11,12,13,14]) (.seq (.cond (.leaf [4,5,11,12,13]) (.leaf [4,5])) (.seq (.block (.seq (.leaf [4,5,7,11,12,13]) (.draw [3,100005] [0,1,2,3,4,5,6,7] [] [4,5,11,12,13]))) (.leaf [4,5,11,12,13]))))))) (.seq (.leaf [4]) (.leaf [4])))))
noncomputable def N4x:Ctx:=⟨tlook tys,olook [(52,Nd6)],ioF,0,true,[]⟩
theorem Nwg (a:List Int) (b:List (List Int)):Link N4x LL (Code.seq (cq [0] (bodyOf Tryz.f29)) (cq [0,1] (bodyOf Tryz.f29))) (Ann.seq (aq [0] N1k) (aq [0,1] N1k)) ⟨mkE 26 0 [(0,dL a),(1,.dat (.list (.list (.int .i64))) b)],[]⟩ (Nbk a) (fun(t:(List Int))=>(Exit.normal,⟨mkE 26 0 [(1,.dat (.list (.list (.int .i64))) b),(4,.ptr 0 0),(5,.ptr 1 0)],[some (.box [.nils,.nils]),some (.box [.slc 2,.nils]),some (sI t)]⟩)):= .of fun K h=>by
 simp only[Nbk,wpW] at h
 exact .of (by kernel_rfl) h
theorem N168 (a:List (List Int)) (b:List Int):Link N4x LL (cq [0,0,1,1] (bodyOf Tryz.f29)) (aq [0,0,1,1] N1k) ⟨mkE 26 0 [(1,.dat (.list (.list (.int .i64))) a),(4,.ptr 0 0),(5,.ptr 1 0)],[some (.box [.nils,.nils]),some (.box [.slc 2,.nils]),some (sI b)]⟩ (N8f a) (fun(t:Int)=>(Exit.normal,⟨mkE 26 0 [(4,.ptr 0 0),(5,.ptr 1 0),(11,.dat (.list (.list (.int .i64))) a),(12,dI t),(13,dI 0)],[some (.box [.nils,.nils]),some (.box [.slc 2,.slc 3]),some (sI b),some (.nest (.int .i64) ([]:List (List Int)) 0 [])]⟩)):= .of fun K h=>by
 simp only[N8f,wpW] at h
 exact .of (by kernel_rfl) h
theorem Nvd (a:List (List Int)) (b c:Int) (d:List Int) (g:List (List Int)):Link N4x LL (cq [0,0,1,0,1,1] (bodyOf Tryz.f29)) (aq [0,0,1,0,1,1] N1k) ⟨mkE 26 0 [(4,.ptr 0 0),(5,.ptr 1 0),(11,.dat (.list (.list (.int .i64))) a),(12,dI b),(13,dI c)],[some (.box [.nils,.nils]),some (.box [.slc 2,.slc 3]),some (sI d),some (.nest (.int .i64) g 0 [])]⟩ (N4s a b c g) (Sum.elim (fun(t:Int×(List (List Int)))=>(Exit.normal,⟨mkE 26 0 [(4,.ptr 0 0),(5,.ptr 1 0),(11,.dat (.list (.list (.int .i64))) a),(12,dI b),(13,dI t.1)],[some (.box [.nils,.nils]),some (.box [.slc 2,.slc 3]),some (sI d),some (.nest (.int .i64) t.2 0 [])]⟩)) (fun(t:(List (List Int)))=>((Exit.exit 0),⟨mkE 26 0 [(4,.ptr 0 0),(5,.ptr 1 0)],[some (.box [.nils,.nils]),some (.box [.slc 2,.slc 3]),some (sI d),some (.nest (.int .i64) t 0 [])]⟩))):= .of fun K h=>by
 simp only[N4s,wpW] at h
 exact .of (by kernel_rfl) h
theorem N17i (a:List Int) (b:List (List Int)):Link N4x LL (cq [1,1,1] (bodyOf Tryz.f29)) (aq [1,1,1] N1k) ⟨mkE 26 0 [(4,.ptr 0 0),(5,.ptr 1 0)],[some (.box [.nils,.nils]),some (.box [.slc 2,.slc 3]),some (sI a),some (.nest (.int .i64) b 0 [])]⟩ (Nal a b) (fun(t:(List Int)×(List (List Int)))=>(Exit.ret,⟨mkE 26 0 [(4,.ptr 0 0)],[some (.box [.slc 1,.slc 2]),some (sI t.1),some (.nest (.int .i64) t.2 0 [])]⟩)):= .of fun K h=>by
 simp only[Nal,wpW] at h
 exact .of (by kernel_rfl) h
theorem Nrd (b:List Int) (d:List (List Int)) {r:AV} {H':Heap} (h:(Ans.mk _ (Nf b d) (fun(t:(List Int)×(List (List Int)))=>(.agg [.slc 1,.slc 2],[some (.box [.slc 1,.slc 2]),some (sI t.1),some (.nest (.int .i64) t.2 0 [])])) [] none).run=some (r,H')):Awp N4x LL (bodyOf Tryz.f29) N1k ⟨mkE 26 0 [(0,dL b),(1,.dat (.list (.list (.int .i64))) d)],[]⟩ (Ret (tlook tys) Tryz.f29.results.toList r H'):=
 ret_of' (Link.cast (by kernel_rfl) (by kernel_rfl) (link_group (c:=(cq [0,1] (bodyOf Tryz.f29))) (a:=(aq [0,1] N1k)) [(cq [0] (bodyOf Tryz.f29))] [(aq [0] N1k)] rfl (link_seq (Nwg b d) (fun(t:(List Int))=>(link_seq (link_seq (N168 d t) (fun(t32:Int)=>(link_block (fin2:=(fun(t12:(List (List Int)))=>(Exit.normal,⟨mkE 26 0 [(4,.ptr 0 0),(5,.ptr 1 0)],[some (.box [.nils,.nils]),some (.box [.slc 2,.slc 3]),some (sI t),some (.nest (.int .i64) t12 0 [])]⟩))) (id:=0) (link_loop (mk:=fun(s:Int×(List (List Int)))=>⟨mkE 26 0 [(4,.ptr 0 0),(5,.ptr 1 0),(11,.dat (.list (.list (.int .i64))) d),(12,dI t32),(13,dI s.1)],[some (.box [.nils,.nils]),some (.box [.slc 2,.slc 3]),some (sI t),some (.nest (.int .i64) s.2 0 [])]⟩) (fin:=(fun(t12:(List (List Int)))=>((Exit.exit 0),⟨mkE 26 0 [(4,.ptr 0 0),(5,.ptr 1 0)],[some (.box [.nils,.nils]),some (.box [.slc 2,.slc 3]),some (sI t),some (.nest (.int .i64) t12 0 [])]⟩))) (by
 rintro t12 f K h
 ·exact h) (fun s=>link_map (Nvd d t32 s.1 t s.2) (Sum.elim (fun(t12:Int×(List (List Int)))=>Sum.inl (t12.1,t12.2)) (fun(t12:(List (List Int)))=>Sum.inr t12)) (by
 rintro(t12|t12)
 ·kernel_rfl
 ·kernel_rfl)) (0,([]:List (List Int)))) (fun(t12:(List (List Int)))=>t12) (by
 rintro t12 K h
 ·exact Eq.mp (by kernel_rfl) h)))) (fun(t32:(List (List Int)))=>(N17i t t32))))))) (by unfold Nf;kernel_rfl) (by
 intro t
 exact ret_mk [.agg [.slc 1,.slc 2]] (by kernel_rfl) (by kernel_rfl) (by kernel_rfl) (by kernel_rfl)) h
def N3n:Fun:=fun avs H=>
 match avs,H with
 |[.dat (.list (.int .i64)) a,.dat (.list (.list (.int .i64))) b],[]=>⟨_,Nf a b,fun(t:(List Int)×(List (List Int)))=>(.agg [.slc 1,.slc 2],[some (.box [.slc 1,.slc 2]),some (sI t.1),some (.nest (.int .i64) t.2 0 [])]),[],none⟩
 |_,_=>Ans.no
theorem N6x:Sound Tryz.prog 29 N3n:=by
 refine fn_sound' (C:=N4x) (c:=bodyOf Tryz.f29) (cok_of tys_ok (allc Nm1 alln) (allc Tryz.call52 alln) (by kernel_rfl)) Tryz.func29 (by kernel_rfl) LL N1k ?_
 intro avs H r H' h
 unfold N3n at h
 split at h
 ·refine Awp.cast ?_ ?_ ?_ (Nrd _ _ h)<;>kernel_rfl
 ·simp[Ans.no,Ans.run] at h
def Ndq:Ann:=(.seq (.leaf [1,2]) (.seq (.leaf [1,2,4]) (.seq (.seq (.leaf [1,2,4,10]) (.cond (.seq (.leaf [2,3]) (.leaf [2,3])) (.leaf [1,2,4]))) (.seq (.draw [9] [0,1,2,3,4,5,6,7,8,9,10,11] [] [2,3]) (.leaf [2,3])))))
noncomputable def Nib:Ctx:=⟨tlook tys,olook [(29,N3n)],ioF,0,true,[]⟩
theorem Npn (a:List Int) (b:List (List Int)):Link Nib LL (bodyOf Tryz.f57) Ndq ⟨mkE 24 0 [(0,.agg [dL a,.dat (.list (.list (.int .i64))) b])],[]⟩ (N6s a b) (fun(t:Bool×(List Int)×(List (List Int)))=>(Exit.ret,⟨mkE 24 0 [(2,.ptr 0 0),(3,dB t.1)],[some (.box [.slc 1,.slc 2]),some (sI t.2.1),some (.nest (.int .i64) t.2.2 0 [])]⟩)):= .of fun K h=>by
 simp only[N6s,wpW] at h
 exact .of (by kernel_rfl) h
theorem N17d (a:List Int) (b:List (List Int)) {r:AV} {H':Heap} (h:(Ans.mk _ (N3w a b) (fun(t:Bool×(List Int)×(List (List Int)))=>(.tup [.agg [.slc 1,.slc 2],dB t.1],[some (.box [.slc 1,.slc 2]),some (sI t.2.1),some (.nest (.int .i64) t.2.2 0 [])])) [] none).run=some (r,H')):Awp Nib LL (bodyOf Tryz.f57) Ndq ⟨mkE 24 0 [(0,.agg [dL a,.dat (.list (.list (.int .i64))) b])],[]⟩ (Ret (tlook tys) Tryz.f57.results.toList r H'):=
 ret_of' (Npn a b) (by unfold N3w;kernel_rfl) (by
 intro t
 exact ret_mk [.agg [.slc 1,.slc 2],dB t.1] (by kernel_rfl) (by kernel_rfl) (by kernel_rfl) (by kernel_rfl)) h
def New:Fun:=fun avs H=>
 match avs,H with
 |[.agg [.dat (.list (.int .i64)) a,.dat (.list (.list (.int .i64))) b]],[]=>⟨_,N3w a b,fun(t:Bool×(List Int)×(List (List Int)))=>(.tup [.agg [.slc 1,.slc 2],dB t.1],[some (.box [.slc 1,.slc 2]),some (sI t.2.1),some (.nest (.int .i64) t.2.2 0 [])]),[],none⟩
 |_,_=>Ans.no
theorem Nyb:Sound Tryz.prog 57 New:=by
 refine fn_sound' (C:=Nib) (c:=bodyOf Tryz.f57) (cok_of tys_ok (allc N6x alln) (allc Tryz.call29 alln) (by kernel_rfl)) Tryz.func57 (by kernel_rfl) LL Ndq ?_
 intro avs H r H' h
 unfold New at h
 split at h
 ·refine Awp.cast ?_ ?_ ?_ (N17d _ _ h)<;>kernel_rfl
 ·simp[Ans.no,Ans.run] at h
def Ndw:Ann:=(.seq (.leaf [0,1]) (.seq (.leaf [4]) (.leaf [4])))
noncomputable def Ni9:Ctx:=⟨tlook tys,olook [(39,N19)],ioF,0,false,[]⟩
theorem N157 (a:List Int) (b:Int):Link Ni9 LL (bodyOf Tryz.f132) Ndw ⟨mkE 17 0 [(0,dL a),(1,dI b)],[]⟩ (N7n a b) (fun(t:Bool)=>(Exit.ret,⟨mkE 17 0 [(4,dB t)],[]⟩)):= .of fun K h=>by
 simp only[N7n,wpW] at h
 exact .of (by kernel_rfl) h
theorem Nwm (a:List Int) (b:Int) {r:AV} {H':Heap} (h:(Ans.mk _ (N3g a b) (fun(t:Bool)=>(dB t,[])) [] none).run=some (r,H')):Awp Ni9 LL (bodyOf Tryz.f132) Ndw ⟨mkE 17 0 [(0,dL a),(1,dI b)],[]⟩ (Ret (tlook tys) Tryz.f132.results.toList r H'):=
 ret_of' (N157 a b) (by unfold N3g;kernel_rfl) (by
 intro t
 exact ret_mk [dB t] (by kernel_rfl) (by kernel_rfl) (by kernel_rfl) (by kernel_rfl)) h
def Nfg:Fun:=fun avs H=>
 match avs,H with
 |[.dat (.list (.int .i64)) a,.dat (.int .i64) b],[]=>⟨_,N3g a b,fun(t:Bool)=>(dB t,[]),[],none⟩
 |_,_=>Ans.no
theorem Ny6:Sound Tryz.prog 132 Nfg:=by
 refine fn_sound' (C:=Ni9) (c:=bodyOf Tryz.f132) (cok_of tys_ok (allc N2k alln) (allc Tryz.call39 alln) (by kernel_rfl)) Tryz.func132 (by kernel_rfl) LL Ndw ?_
 intro avs H r H' h
 unfold Nfg at h
 split at h
 ·refine Awp.cast ?_ ?_ ?_ (Nwm _ _ h)<;>kernel_rfl
 ·simp[Ans.no,Ans.run] at h
def N28:Ann:=(.seq (.leaf [0]) (.seq (.leaf [0,3]) (.seq (.seq (.leaf [0,3,8,9]) (.block (.loop (.seq (.leaf [0,3,8,9,10]) (.seq (.cond (.leaf [0,3,8,9]) (.leaf [3])) (.seq (.block (.seq (.leaf [0,3,4,8,9]) (.leaf [0,3,8,9]))) (.leaf [0,3,8,9]))))))) (.seq (.leaf [2]) (.leaf [2])))))
noncomputable def N5g:Ctx:=⟨tlook tys,olook [],ioF,0,false,[]⟩
theorem N11b (a:Int):Link N5g LL (Code.seq (cq [0] (bodyOf Tryz.f177)) (cq [0,1] (bodyOf Tryz.f177))) (Ann.seq (aq [0] N28) (aq [0,1] N28)) ⟨mkE 20 0 [(0,dI a)],[]⟩ (Naf a) (fun(t:(List Int))=>(Exit.normal,⟨mkE 20 0 [(0,dI a),(3,.slc 0)],[some (sI t)]⟩)):= .of fun K h=>by
 simp only[Naf,wpW] at h
 exact .of (by kernel_rfl) h
theorem Nqm (a:Int) (b:List Int):Link N5g LL (cq [0,0,1,1] (bodyOf Tryz.f177)) (aq [0,0,1,1] N28) ⟨mkE 20 0 [(0,dI a),(3,.slc 0)],[some (sI b)]⟩ (Na6 b) (fun(t:Int)=>(Exit.normal,⟨mkE 20 0 [(0,dI a),(3,.slc 0),(8,dI t),(9,dI 0)],[some (sI b)]⟩)):= .of fun K h=>by
 simp only[Na6,wpW] at h
 exact .of (by kernel_rfl) h
theorem Nrz (a b c:Int) (d:List Int):Link N5g LL (cq [0,0,1,0,1,1] (bodyOf Tryz.f177)) (aq [0,0,1,0,1,1] N28) ⟨mkE 20 0 [(0,dI a),(3,.slc 0),(8,dI b),(9,dI c)],[some (sI d)]⟩ (N4g a b c d) (Sum.elim (fun(t:Int×(List Int))=>(Exit.normal,⟨mkE 20 0 [(0,dI a),(3,.slc 0),(8,dI b),(9,dI t.1)],[some (sI t.2)]⟩)) (fun(t:(List Int))=>((Exit.exit 0),⟨mkE 20 0 [(3,.slc 0)],[some (sI t)]⟩))):= .of fun K h=>by
 simp only[N4g,wpW] at h
 exact .of (by kernel_rfl) h
theorem Nqs (a:List Int):Link N5g LL (cq [1,1,1] (bodyOf Tryz.f177)) (aq [1,1,1] N28) ⟨mkE 20 0 [(3,.slc 0)],[some (sI a)]⟩ (Na9 a) (fun(t:(List Int))=>(Exit.ret,⟨mkE 20 0 [(2,.slc 0)],[some (sI t)]⟩)):= .of fun K h=>by
 simp only[Na9,wpW] at h
 exact .of (by kernel_rfl) h
theorem Nxc (b:Int) {r:AV} {H':Heap} (h:(Ans.mk _ (N3e b) (fun(t:(List Int))=>(.slc 0,[some (sI t)])) [] none).run=some (r,H')):Awp N5g LL (bodyOf Tryz.f177) N28 ⟨mkE 20 0 [(0,dI b)],[]⟩ (Ret (tlook tys) Tryz.f177.results.toList r H'):=
 ret_of' (Link.cast (by kernel_rfl) (by kernel_rfl) (link_group (c:=(cq [0,1] (bodyOf Tryz.f177))) (a:=(aq [0,1] N28)) [(cq [0] (bodyOf Tryz.f177))] [(aq [0] N28)] rfl (link_seq (N11b b) (fun(t:(List Int))=>(link_seq (link_seq (Nqm b t) (fun(t33:Int)=>(link_block (fin2:=(fun(t13:(List Int))=>(Exit.normal,⟨mkE 20 0 [(3,.slc 0)],[some (sI t13)]⟩))) (id:=0) (link_loop (mk:=fun(s:Int×(List Int))=>⟨mkE 20 0 [(0,dI b),(3,.slc 0),(8,dI t33),(9,dI s.1)],[some (sI s.2)]⟩) (fin:=(fun(t13:(List Int))=>((Exit.exit 0),⟨mkE 20 0 [(3,.slc 0)],[some (sI t13)]⟩))) (by
 rintro t13 f K h
 ·exact h) (fun s=>link_map (Nrz b t33 s.1 s.2) (Sum.elim (fun(t13:Int×(List Int))=>Sum.inl (t13.1,t13.2)) (fun(t13:(List Int))=>Sum.inr t13)) (by
 rintro(t13|t13)
 ·kernel_rfl
 ·kernel_rfl)) (0,t)) (fun(t13:(List Int))=>t13) (by
 rintro t13 K h
 ·exact Eq.mp (by kernel_rfl) h)))) (fun(t33:(List Int))=>(Nqs t33))))))) (by unfold N3e;kernel_rfl) (by
 intro t
 exact ret_mk [.slc 0] (by kernel_rfl) (by kernel_rfl) (by kernel_rfl) (by kernel_rfl)) h
def Nek:Fun:=fun avs H=>
 match avs,H with
 |[.dat (.int .i64) a],[]=>⟨_,N3e a,fun(t:(List Int))=>(.slc 0,[some (sI t)]),[],none⟩
 |_,_=>Ans.no
theorem Nxn:Sound Tryz.prog 177 Nek:=by
 refine fn_sound' (C:=N5g) (c:=bodyOf Tryz.f177) (cok_of tys_ok (alln) (alln) (by kernel_rfl)) Tryz.func177 (by kernel_rfl) LL N28 ?_
 intro avs H r H' h
 unfold Nek at h
 split at h
 ·refine Awp.cast ?_ ?_ ?_ (Nxc _ h)<;>kernel_rfl
 ·simp[Ans.no,Ans.run] at h
def Nw:Ann:=(.seq (.leaf [0,1]) (.seq (.seq (.leaf [0,1,19]) (.cond (.seq (.leaf [4]) (.leaf [4])) (.leaf [0,1]))) (.seq (.leaf [0,1,5]) (.seq (.seq (.leaf [1,5,20,21,22]) (.block (.loop (.seq (.leaf [1,5,20,21,22,23]) (.seq (.cond (.leaf [1,5,20,21,22]) (.leaf [])) (.seq (.block (.seq (.leaf [1,5,7,20,21,22]) (.seq (.seq (.leaf [1,5,7,20,21,22,37]) (.cond (.seq (.leaf [4]) (.leaf [4])) (.leaf [1,5,7,20,21,22]))) (.leaf [1,5,20,21,22])))) (.leaf [1,5,20,21,22]))))))) (.seq (.leaf [4]) (.leaf [4]))))))
noncomputable def N4f:Ctx:=⟨tlook tys,olook [],ioF,0,false,[]⟩
theorem N17g (a:List Int) (b:Int):Link N4f LL (Code.seq (cq [0] (bodyOf Tryz.f193)) (Code.seq (cq [0,1] (bodyOf Tryz.f193)) (cq [0,1,1] (bodyOf Tryz.f193)))) (Ann.seq (aq [0] Nw) (Ann.seq (aq [0,1] Nw) (aq [0,1,1] Nw))) ⟨mkE 41 0 [(0,dL a),(1,dI b)],[]⟩ (N7s a b) (Sum.elim (fun(t:Unit)=>(Exit.normal,⟨mkE 41 0 [(0,dL a),(1,dI b),(5,.ptr 0 0)],[some (.seq .bool (List.replicate 9 false))]⟩)) (fun(t:Bool)=>(Exit.ret,⟨mkE 41 0 [(4,dB t)],[]⟩))):= .of fun K h=>by
 simp only[N7s,wpW] at h
 exact .of (by kernel_rfl) h
theorem Nxy (a:List Int) (b:Int):Link N4f LL (cq [0,0,1,1,1] (bodyOf Tryz.f193)) (aq [0,0,1,1,1] Nw) ⟨mkE 41 0 [(0,dL a),(1,dI b),(5,.ptr 0 0)],[some (.seq .bool (List.replicate 9 false))]⟩ (N8y a) (fun(t:Int)=>(Exit.normal,⟨mkE 41 0 [(1,dI b),(5,.ptr 0 0),(20,dL a),(21,dI t),(22,dI 0)],[some (.seq .bool (List.replicate 9 false))]⟩)):= .of fun K h=>by
 simp only[N8y,wpW] at h
 exact .of (by kernel_rfl) h
theorem Nt8 (a:Int) (b:List Int) (c d:Int) (g:List Bool):Link N4f LL (cq [0,0,1,0,1,1,1] (bodyOf Tryz.f193)) (aq [0,0,1,0,1,1,1] Nw) ⟨mkE 41 0 [(1,dI a),(5,.ptr 0 0),(20,dL b),(21,dI c),(22,dI d)],[some (.seq .bool g)]⟩ (N6m a b c d g) (Sum.elim (fun(t:Int×(List Bool))=>(Exit.normal,⟨mkE 41 0 [(1,dI a),(5,.ptr 0 0),(20,dL b),(21,dI c),(22,dI t.1)],[some (.seq .bool t.2)]⟩)) (Sum.elim (fun(t:Bool)=>(Exit.ret,⟨mkE 41 0 [(4,dB t)],[]⟩)) (fun(t:Unit)=>((Exit.exit 0),⟨mkE 41 0 [],[]⟩)))):= .of fun K h=>by
 simp only[N6m,wpW] at h
 exact .of (by kernel_rfl) h
theorem Nsq:Link N4f LL (cq [1,1,1,1] (bodyOf Tryz.f193)) (aq [1,1,1,1] Nw) ⟨mkE 41 0 [],[]⟩ (Nby) (fun(t:Bool)=>(Exit.ret,⟨mkE 41 0 [(4,dB t)],[]⟩)):= .of fun K h=>by
 simp only[Nby,wpW] at h
 exact .of (by kernel_rfl) h
theorem Ns7 (b:List Int) (d:Int) {r:AV} {H':Heap} (h:(Ans.mk _ (N5v b d) (fun(t:Bool)=>(dB t,[])) [] none).run=some (r,H')):Awp N4f LL (bodyOf Tryz.f193) Nw ⟨mkE 41 0 [(0,dL b),(1,dI d)],[]⟩ (Ret (tlook tys) Tryz.f193.results.toList r H'):=
 ret_of' (Link.cast (by kernel_rfl) (by kernel_rfl) (link_group (c:=(cq [0,1,1] (bodyOf Tryz.f193))) (a:=(aq [0,1,1] Nw)) [(cq [0] (bodyOf Tryz.f193)),(cq [0,1] (bodyOf Tryz.f193))] [(aq [0] Nw),(aq [0,1] Nw)] rfl (link_seq2 (N17g b d) (fun(t:Unit)=>(link_seq2 (link_seq (Nxy b d) (fun(t:Int)=>(link_block (fin2:=(Sum.elim (fun(t14:Unit)=>(Exit.normal,⟨mkE 41 0 [],[]⟩)) (fun(t14:Bool)=>(Exit.ret,⟨mkE 41 0 [(4,dB t14)],[]⟩)))) (id:=0) (link_loop (mk:=fun(s:Int×(List Bool))=>⟨mkE 41 0 [(1,dI d),(5,.ptr 0 0),(20,dL b),(21,dI t),(22,dI s.1)],[some (.seq .bool s.2)]⟩) (fin:=(Sum.elim (fun(t14:Bool)=>(Exit.ret,⟨mkE 41 0 [(4,dB t14)],[]⟩)) (fun(t14:Unit)=>((Exit.exit 0),⟨mkE 41 0 [],[]⟩)))) (by
 rintro(t14|t14) f K h
 ·exact h
 ·exact h) (fun s=>link_map (Nt8 d b t s.1 s.2) (Sum.elim (fun(t14:Int×(List Bool))=>Sum.inl (t14.1,t14.2)) (Sum.elim (fun(t14:Bool)=>Sum.inr (Sum.inl t14)) (fun(t14:Unit)=>Sum.inr (Sum.inr t14)))) (by
 rintro(t14|t14|t14)
 ·kernel_rfl
 ·kernel_rfl
 ·kernel_rfl)) (0,(List.replicate 9 false))) (Sum.elim (fun(t14:Bool)=>(Sum.inr t14)) (fun(t14:Unit)=>(Sum.inl ()))) (by
 rintro(t14|t14) K h
 ·exact Eq.mp (by kernel_rfl) h
 ·exact Eq.mp (by kernel_rfl) h)))) (fun(t:Unit)=>(Nsq)) (fun(t:Bool)=>t) (by
 rintro t
 ·kernel_rfl) (by
 rintro t f K h
 ·exact h))) (fun(t:Bool)=>t) (by
 rintro t
 ·kernel_rfl) (by
 rintro t f K h
 ·exact h)))) (by unfold N5v;kernel_rfl) (by
 intro t
 exact ret_mk [dB t] (by kernel_rfl) (by kernel_rfl) (by kernel_rfl) (by kernel_rfl)) h
def Neh:Fun:=fun avs H=>
 match avs,H with
 |[.dat (.list (.int .i64)) a,.dat (.int .i64) b],[]=>⟨_,N5v a b,fun(t:Bool)=>(dB t,[]),[],none⟩
 |_,_=>Ans.no
theorem Nz2:Sound Tryz.prog 193 Neh:=by
 refine fn_sound' (C:=N4f) (c:=bodyOf Tryz.f193) (cok_of tys_ok (alln) (alln) (by kernel_rfl)) Tryz.func193 (by kernel_rfl) LL Nw ?_
 intro avs H r H' h
 unfold Neh at h
 split at h
 ·refine Awp.cast ?_ ?_ ?_ (Ns7 _ _ h)<;>kernel_rfl
 ·simp[Ans.no,Ans.run] at h
def N1r:Ann:=(.seq (.leaf [0]) (.seq (.leaf [0,3]) (.seq (.seq (.leaf [3,10,11,12]) (.block (.loop (.seq (.leaf [3,10,11,12,13]) (.seq (.cond (.leaf [3,10,11,12]) (.leaf [3])) (.seq (.block (.seq (.leaf [3,4,5,10,11,12]) (.leaf [3,10,11,12]))) (.leaf [3,10,11,12]))))))) (.seq (.leaf [2]) (.leaf [2])))))
noncomputable def N5k:Ctx:=⟨tlook tys,olook [],ioF,0,false,[]⟩
theorem N11x (a:List Int):Link N5k LL (Code.seq (cq [0] (bodyOf Tryz.f223)) (cq [0,1] (bodyOf Tryz.f223))) (Ann.seq (aq [0] N1r) (aq [0,1] N1r)) ⟨mkE 24 0 [(0,dL a)],[]⟩ (Nci a) (fun(t:(List Int))=>(Exit.normal,⟨mkE 24 0 [(0,dL a),(3,.slc 0)],[some (sI t)]⟩)):= .of fun K h=>by
 simp only[Nci,wpW] at h
 exact .of (by kernel_rfl) h
theorem N10e (a b:List Int):Link N5k LL (cq [0,0,1,1] (bodyOf Tryz.f223)) (aq [0,0,1,1] N1r) ⟨mkE 24 0 [(0,dL a),(3,.slc 0)],[some (sI b)]⟩ (Ncl a) (fun(t:Int)=>(Exit.normal,⟨mkE 24 0 [(3,.slc 0),(10,dL a),(11,dI t),(12,dI 0)],[some (sI b)]⟩)):= .of fun K h=>by
 simp only[Ncl,wpW] at h
 exact .of (by kernel_rfl) h
theorem Nxz (a:List Int) (b c:Int) (d:List Int):Link N5k LL (cq [0,0,1,0,1,1] (bodyOf Tryz.f223)) (aq [0,0,1,0,1,1] N1r) ⟨mkE 24 0 [(3,.slc 0),(10,dL a),(11,dI b),(12,dI c)],[some (sI d)]⟩ (N68 a b c d) (Sum.elim (fun(t:Int×(List Int))=>(Exit.normal,⟨mkE 24 0 [(3,.slc 0),(10,dL a),(11,dI b),(12,dI t.1)],[some (sI t.2)]⟩)) (fun(t:(List Int))=>((Exit.exit 0),⟨mkE 24 0 [(3,.slc 0)],[some (sI t)]⟩))):= .of fun K h=>by
 simp only[N68,wpW] at h
 exact .of (by kernel_rfl) h
theorem Nz5 (a:List Int):Link N5k LL (cq [1,1,1] (bodyOf Tryz.f223)) (aq [1,1,1] N1r) ⟨mkE 24 0 [(3,.slc 0)],[some (sI a)]⟩ (N8b a) (fun(t:(List Int))=>(Exit.ret,⟨mkE 24 0 [(2,.slc 0)],[some (sI t)]⟩)):= .of fun K h=>by
 simp only[N8b,wpW] at h
 exact .of (by kernel_rfl) h
theorem Nux (b:List Int) {r:AV} {H':Heap} (h:(Ans.mk _ (N5c b) (fun(t:(List Int))=>(.slc 0,[some (sI t)])) [] none).run=some (r,H')):Awp N5k LL (bodyOf Tryz.f223) N1r ⟨mkE 24 0 [(0,dL b)],[]⟩ (Ret (tlook tys) Tryz.f223.results.toList r H'):=
 ret_of' (Link.cast (by kernel_rfl) (by kernel_rfl) (link_group (c:=(cq [0,1] (bodyOf Tryz.f223))) (a:=(aq [0,1] N1r)) [(cq [0] (bodyOf Tryz.f223))] [(aq [0] N1r)] rfl (link_seq (N11x b) (fun(t:(List Int))=>(link_seq (link_seq (N10e b t) (fun(t34:Int)=>(link_block (fin2:=(fun(t15:(List Int))=>(Exit.normal,⟨mkE 24 0 [(3,.slc 0)],[some (sI t15)]⟩))) (id:=0) (link_loop (mk:=fun(s:Int×(List Int))=>⟨mkE 24 0 [(3,.slc 0),(10,dL b),(11,dI t34),(12,dI s.1)],[some (sI s.2)]⟩) (fin:=(fun(t15:(List Int))=>((Exit.exit 0),⟨mkE 24 0 [(3,.slc 0)],[some (sI t15)]⟩))) (by
 rintro t15 f K h
 ·exact h) (fun s=>link_map (Nxz b t34 s.1 s.2) (Sum.elim (fun(t15:Int×(List Int))=>Sum.inl (t15.1,t15.2)) (fun(t15:(List Int))=>Sum.inr t15)) (by
 rintro(t15|t15)
 ·kernel_rfl
 ·kernel_rfl)) (0,t)) (fun(t15:(List Int))=>t15) (by
 rintro t15 K h
 ·exact Eq.mp (by kernel_rfl) h)))) (fun(t34:(List Int))=>(Nz5 t34))))))) (by unfold N5c;kernel_rfl) (by
 intro t
 exact ret_mk [.slc 0] (by kernel_rfl) (by kernel_rfl) (by kernel_rfl) (by kernel_rfl)) h
def Nfk:Fun:=fun avs H=>
 match avs,H with
 |[.dat (.list (.int .i64)) a],[]=>⟨_,N5c a,fun(t:(List Int))=>(.slc 0,[some (sI t)]),[],none⟩
 |_,_=>Ans.no
theorem N14a:Sound Tryz.prog 223 Nfk:=by
 refine fn_sound' (C:=N5k) (c:=bodyOf Tryz.f223) (cok_of tys_ok (alln) (alln) (by kernel_rfl)) Tryz.func223 (by kernel_rfl) LL N1r ?_
 intro avs H r H' h
 unfold Nfk at h
 split at h
 ·refine Awp.cast ?_ ?_ ?_ (Nux _ h)<;>kernel_rfl
 ·simp[Ans.no,Ans.run] at h
def Nfz:Ann:=(.seq (.leaf [0,1]) (.seq (.leaf [3]) (.leaf [3])))
noncomputable def Nip:Ctx:=⟨tlook tys,olook [],ioF,2,false,[]⟩
theorem N10f (a:Int) (b:List Int):Link Nip LL (bodyOf Tryz.f225) Nfz ⟨mkE 8 0 [(0,dI a),(1,.ptr 0 0)],[some (.box [.slc 1]),some (sI b)]⟩ (N9e a b) (fun(t:Int)=>(Exit.ret,⟨mkE 8 0 [(3,dI t)],[some (.box [.slc 1]),some (sI b)]⟩)):= .of fun K h=>by
 simp only[N9e,wpW] at h
 exact .of (by kernel_rfl) h
theorem N12g (a:Int) (b:List Int) {r:AV} {H':Heap} (h:(Ans.mk _ (N4a a b) (fun(t:Int)=>(dI t,[some (.box [.slc 1]),some (sI b)])) [] none).run=some (r,H')):Awp Nip LL (bodyOf Tryz.f225) Nfz ⟨mkE 8 0 [(0,dI a),(1,.ptr 0 0)],[some (.box [.slc 1]),some (sI b)]⟩ (Ret (tlook tys) Tryz.f225.results.toList r H'):=
 ret_of' (N10f a b) (by unfold N4a;kernel_rfl) (by
 intro t
 exact ret_mk [dI t] (by kernel_rfl) (by kernel_rfl) (by kernel_rfl) (by kernel_rfl)) h
def Ng3:Fun:=fun avs H=>
 match avs,H with
 |[.dat (.int .i64) a,.ptr 0 0],[some (.box [.slc 1]),some (.seq (.int .i64) b)]=>⟨_,N4a a b,fun(t:Int)=>(dI t,[some (.box [.slc 1]),some (sI b)]),[],none⟩
 |_,_=>Ans.no
theorem N16j:Sound Tryz.prog 225 Ng3:=by
 refine fn_sound' (C:=Nip) (c:=bodyOf Tryz.f225) (cok_of tys_ok (alln) (alln) (by kernel_rfl)) Tryz.func225 (by kernel_rfl) LL Nfz ?_
 intro avs H r H' h
 unfold Ng3 at h
 split at h
 ·refine Awp.cast ?_ ?_ ?_ (N12g _ _ h)<;>kernel_rfl
 ·simp[Ans.no,Ans.run] at h
def N27:Ann:=(.seq (.leaf [0,1,2]) (.seq (.leaf [0,1,2,7]) (.seq (.seq (.leaf [0,2,7,13,14,15]) (.block (.loop (.seq (.leaf [0,2,7,13,14,15,16]) (.seq (.cond (.leaf [0,2,7,13,14,15]) (.leaf [7])) (.seq (.block (.seq (.leaf [0,2,7,8,9,13,14,15]) (.leaf [0,2,7,13,14,15]))) (.leaf [0,2,7,13,14,15]))))))) (.seq (.leaf [6]) (.leaf [6])))))
noncomputable def N5y:Ctx:=⟨tlook tys,olook [(225,Ng3)],ioF,2,false,[]⟩
theorem N10g (a b c:List Int):Link N5y LL (Code.seq (cq [0] (bodyOf Tryz.f224)) (cq [0,1] (bodyOf Tryz.f224))) (Ann.seq (aq [0] N27) (aq [0,1] N27)) ⟨mkE 32 0 [(0,dL a),(1,dL b),(2,.fn 225 [] [.ptr 0 0])],[some (.box [.slc 1]),some (sI c)]⟩ (N8s b) (fun(t:(List Int))=>(Exit.normal,⟨mkE 32 0 [(0,dL a),(1,dL b),(2,.fn 225 [] [.ptr 0 0]),(7,.slc 2)],[some (.box [.slc 1]),some (sI c),some (sI t)]⟩)):= .of fun K h=>by
 simp only[N8s,wpW] at h
 exact .of (by kernel_rfl) h
theorem Nvo (a b c d:List Int):Link N5y LL (cq [0,0,1,1] (bodyOf Tryz.f224)) (aq [0,0,1,1] N27) ⟨mkE 32 0 [(0,dL a),(1,dL b),(2,.fn 225 [] [.ptr 0 0]),(7,.slc 2)],[some (.box [.slc 1]),some (sI c),some (sI d)]⟩ (N9o b) (fun(t:Int)=>(Exit.normal,⟨mkE 32 0 [(0,dL a),(2,.fn 225 [] [.ptr 0 0]),(7,.slc 2),(13,dL b),(14,dI t),(15,dI 0)],[some (.box [.slc 1]),some (sI c),some (sI d)]⟩)):= .of fun K h=>by
 simp only[N9o,wpW] at h
 exact .of (by kernel_rfl) h
theorem Nrc (a b:List Int) (c d:Int) (g i:List Int):Link N5y LL (cq [0,0,1,0,1,1] (bodyOf Tryz.f224)) (aq [0,0,1,0,1,1] N27) ⟨mkE 32 0 [(0,dL a),(2,.fn 225 [] [.ptr 0 0]),(7,.slc 2),(13,dL b),(14,dI c),(15,dI d)],[some (.box [.slc 1]),some (sI g),some (sI i)]⟩ (N7m a b c d g i) (Sum.elim (fun(t:Int×(List Int))=>(Exit.normal,⟨mkE 32 0 [(0,dL a),(2,.fn 225 [] [.ptr 0 0]),(7,.slc 2),(13,dL b),(14,dI c),(15,dI t.1)],[some (.box [.slc 1]),some (sI g),some (sI t.2)]⟩)) (fun(t:(List Int))=>((Exit.exit 0),⟨mkE 32 0 [(7,.slc 2)],[some (.box [.slc 1]),some (sI g),some (sI t)]⟩))):= .of fun K h=>by
 simp only[N7m,wpW] at h
 exact .of (by kernel_rfl) h
theorem Nv7 (a b:List Int):Link N5y LL (cq [1,1,1] (bodyOf Tryz.f224)) (aq [1,1,1] N27) ⟨mkE 32 0 [(7,.slc 2)],[some (.box [.slc 1]),some (sI a),some (sI b)]⟩ (N9d b) (fun(t:(List Int))=>(Exit.ret,⟨mkE 32 0 [(6,.slc 2)],[some (.box [.slc 1]),some (sI a),some (sI t)]⟩)):= .of fun K h=>by
 simp only[N9d,wpW] at h
 exact .of (by kernel_rfl) h
theorem Nuh (b d g:List Int) {r:AV} {H':Heap} (h:(Ans.mk _ (N79 b d g) (fun(t:(List Int))=>(.slc 2,[some (.box [.slc 1]),some (sI g),some (sI t)])) [] none).run=some (r,H')):Awp N5y LL (bodyOf Tryz.f224) N27 ⟨mkE 32 0 [(0,dL b),(1,dL d),(2,.fn 225 [] [.ptr 0 0])],[some (.box [.slc 1]),some (sI g)]⟩ (Ret (tlook tys) Tryz.f224.results.toList r H'):=
 ret_of' (Link.cast (by kernel_rfl) (by kernel_rfl) (link_group (c:=(cq [0,1] (bodyOf Tryz.f224))) (a:=(aq [0,1] N27)) [(cq [0] (bodyOf Tryz.f224))] [(aq [0] N27)] rfl (link_seq (N10g b d g) (fun(t:(List Int))=>(link_seq (link_seq (Nvo b d g t) (fun(t35:Int)=>(link_block (fin2:=(fun(t16:(List Int))=>(Exit.normal,⟨mkE 32 0 [(7,.slc 2)],[some (.box [.slc 1]),some (sI g),some (sI t16)]⟩))) (id:=0) (link_loop (mk:=fun(s:Int×(List Int))=>⟨mkE 32 0 [(0,dL b),(2,.fn 225 [] [.ptr 0 0]),(7,.slc 2),(13,dL d),(14,dI t35),(15,dI s.1)],[some (.box [.slc 1]),some (sI g),some (sI s.2)]⟩) (fin:=(fun(t16:(List Int))=>((Exit.exit 0),⟨mkE 32 0 [(7,.slc 2)],[some (.box [.slc 1]),some (sI g),some (sI t16)]⟩))) (by
 rintro t16 f K h
 ·exact h) (fun s=>link_map (Nrc b d t35 s.1 g s.2) (Sum.elim (fun(t16:Int×(List Int))=>Sum.inl (t16.1,t16.2)) (fun(t16:(List Int))=>Sum.inr t16)) (by
 rintro(t16|t16)
 ·kernel_rfl
 ·kernel_rfl)) (0,t)) (fun(t16:(List Int))=>t16) (by
 rintro t16 K h
 ·exact Eq.mp (by kernel_rfl) h)))) (fun(t35:(List Int))=>(Nv7 g t35))))))) (by unfold N79;kernel_rfl) (by
 intro t
 exact ret_mk [.slc 2] (by kernel_rfl) (by kernel_rfl) (by kernel_rfl) (by kernel_rfl)) h
def Nhh:Fun:=fun avs H=>
 match avs,H with
 |[.dat (.list (.int .i64)) a,.dat (.list (.int .i64)) b,.fn 225 [] [.ptr 0 0]],[some (.box [.slc 1]),some (.seq (.int .i64) c)]=>⟨_,N79 a b c,fun(t:(List Int))=>(.slc 2,[some (.box [.slc 1]),some (sI c),some (sI t)]),[],none⟩
 |_,_=>Ans.no
theorem N13v:Sound Tryz.prog 224 Nhh:=by
 refine fn_sound' (C:=N5y) (c:=bodyOf Tryz.f224) (cok_of tys_ok (allc N16j alln) (allc Tryz.call225 alln) (by kernel_rfl)) Tryz.func224 (by kernel_rfl) LL N27 ?_
 intro avs H r H' h
 unfold Nhh at h
 split at h
 ·refine Awp.cast ?_ ?_ ?_ (Nuh _ _ _ h)<;>kernel_rfl
 ·simp[Ans.no,Ans.run] at h
def Nee:Ann:=(.seq (.leaf [0,1]) (.seq (.seq (.leaf [0,1,16]) (.cond (.seq (.leaf [4,5]) (.leaf [4,5])) (.leaf [0,1]))) (.seq (.leaf [0,1,6]) (.seq (.leaf [4,5]) (.leaf [4,5])))))
noncomputable def Ng2:Ctx:=⟨tlook tys,olook [(39,N19),(193,Neh),(223,Nfk),(224,Nhh)],ioF,0,false,[]⟩
theorem N124 (a b:List Int):Link Ng2 LL (bodyOf Tryz.f176) Nee ⟨mkE 23 0 [(0,dL a),(1,dL b)],[]⟩ (Nbs a b) (fun(t:Bool×(List Int))=>(Exit.ret,⟨mkE 23 0 [(4,.slc 0),(5,dB t.1)],[some (sI t.2)]⟩)):= .of fun K h=>by
 simp only[Nbs,wpW] at h
 exact .of (by kernel_rfl) h
theorem N16l (a b:List Int) {r:AV} {H':Heap} (h:(Ans.mk _ (N3d a b) (fun(t:Bool×(List Int))=>(.tup [.slc 0,dB t.1],[some (sI t.2)])) [] none).run=some (r,H')):Awp Ng2 LL (bodyOf Tryz.f176) Nee ⟨mkE 23 0 [(0,dL a),(1,dL b)],[]⟩ (Ret (tlook tys) Tryz.f176.results.toList r H'):=
 ret_of' (N124 a b) (by unfold N3d;kernel_rfl) (by
 intro t
 exact ret_mk [.slc 0,dB t.1] (by kernel_rfl) (by kernel_rfl) (by kernel_rfl) (by kernel_rfl)) h
def Nca:Fun:=fun avs H=>
 match avs,H with
 |[.dat (.list (.int .i64)) a,.dat (.list (.int .i64)) b],[]=>⟨_,N3d a b,fun(t:Bool×(List Int))=>(.tup [.slc 0,dB t.1],[some (sI t.2)]),[],none⟩
 |_,_=>Ans.no
theorem Njl:Sound Tryz.prog 176 Nca:=by
 refine fn_sound' (C:=Ng2) (c:=bodyOf Tryz.f176) (cok_of tys_ok (allc N2k (allc Nz2 (allc N14a (allc N13v alln)))) (allc Tryz.call39 (allc Tryz.call193 (allc Tryz.call223 (allc Tryz.call224 alln)))) (by kernel_rfl)) Tryz.func176 (by kernel_rfl) LL Nee ?_
 intro avs H r H' h
 unfold Nca at h
 split at h
 ·refine Awp.cast ?_ ?_ ?_ (N16l _ _ h)<;>kernel_rfl
 ·simp[Ans.no,Ans.run] at h
def Nhs:Ann:=(.seq (.leaf [0]) (.seq (.seq (.leaf [0,7]) (.cond (.seq (.leaf [2]) (.leaf [2])) (.leaf [0]))) (.seq (.leaf [3]) (.seq (.leaf [2]) (.leaf [2])))))
noncomputable def Nht:Ctx:=⟨tlook tys,olook [(39,N19),(177,Nek),(176,Nca)],ioF,0,false,[]⟩
theorem N10j (a:List Int):Link Nht LL (bodyOf Tryz.f135) Nhs ⟨mkE 17 0 [(0,dL a)],[]⟩ (N73 a) (fun(t:(List Int))=>(Exit.ret,⟨mkE 17 0 [(2,.slc 0)],[some (sI t)]⟩)):= .of fun K h=>by
 simp only[N73,wpW] at h
 exact .of (by kernel_rfl) h
theorem Ntt (a:List Int) {r:AV} {H':Heap} (h:(Ans.mk _ (N37 a) (fun(t:(List Int))=>(.slc 0,[some (sI t)])) [] none).run=some (r,H')):Awp Nht LL (bodyOf Tryz.f135) Nhs ⟨mkE 17 0 [(0,dL a)],[]⟩ (Ret (tlook tys) Tryz.f135.results.toList r H'):=
 ret_of' (N10j a) (by unfold N37;kernel_rfl) (by
 intro t
 exact ret_mk [.slc 0] (by kernel_rfl) (by kernel_rfl) (by kernel_rfl) (by kernel_rfl)) h
def Nfu:Fun:=fun avs H=>
 match avs,H with
 |[.dat (.list (.int .i64)) a],[]=>⟨_,N37 a,fun(t:(List Int))=>(.slc 0,[some (sI t)]),[],none⟩
 |_,_=>Ans.no
theorem N12a:Sound Tryz.prog 135 Nfu:=by
 refine fn_sound' (C:=Nht) (c:=bodyOf Tryz.f135) (cok_of tys_ok (allc N2k (allc Nxn (allc Njl alln))) (allc Tryz.call39 (allc Tryz.call177 (allc Tryz.call176 alln))) (by kernel_rfl)) Tryz.func135 (by kernel_rfl) LL Nhs ?_
 intro avs H r H' h
 unfold Nfu at h
 split at h
 ·refine Awp.cast ?_ ?_ ?_ (Ntt _ h)<;>kernel_rfl
 ·simp[Ans.no,Ans.run] at h
def N17:Ann:=(.seq (.leaf [0]) (.seq (.seq (.leaf [0,6]) (.cond (.seq (.leaf [2]) (.leaf [2])) (.leaf [0]))) (.seq (.leaf [3]) (.seq (.block (.loop (.seq (.seq (.leaf [3,9]) (.cond (.leaf [3]) (.leaf [3]))) (.block (.leaf [3]))))) (.seq (.leaf [2]) (.leaf [2]))))))
noncomputable def N69:Ctx:=⟨tlook tys,olook [(39,N19),(98,Nb5)],ioF,0,false,[]⟩
theorem Npv (a:List Int):Link N69 LL (Code.seq (cq [0] (bodyOf Tryz.f117)) (Code.seq (cq [0,1] (bodyOf Tryz.f117)) (cq [0,1,1] (bodyOf Tryz.f117)))) (Ann.seq (aq [0] N17) (Ann.seq (aq [0,1] N17) (aq [0,1,1] N17))) ⟨mkE 12 0 [(0,dL a)],[]⟩ (N8w a) (Sum.elim (fun(t:Unit)=>(Exit.normal,⟨mkE 12 0 [(3,.ptr 0 0)],[some (.box [dL a,dI 1,dI 0])]⟩)) (fun(t:Int)=>(Exit.ret,⟨mkE 12 0 [(2,dI t)],[]⟩))):= .of fun K h=>by
 simp only[N8w,wpW] at h
 exact .of (by kernel_rfl) h
theorem Npu (a:List Int) (b c:Int):Link N69 LL (cq [0,0,0,1,1,1] (bodyOf Tryz.f117)) (aq [0,0,0,1,1,1] N17) ⟨mkE 12 0 [(3,.ptr 0 0)],[some (.box [dL a,dI b,dI c])]⟩ (N6f a b c) (Sum.elim (fun(t:Int×Int)=>(Exit.normal,⟨mkE 12 0 [(3,.ptr 0 0)],[some (.box [dL a,dI t.1,dI t.2])]⟩)) (fun(t:Int×Int)=>((Exit.exit 0),⟨mkE 12 0 [(3,.ptr 0 0)],[some (.box [dL a,dI t.1,dI t.2])]⟩))):= .of fun K h=>by
 simp only[N6f,wpW] at h
 exact .of (by kernel_rfl) h
theorem N182 (a:List Int) (b c:Int):Link N69 LL (cq [1,1,1,1] (bodyOf Tryz.f117)) (aq [1,1,1,1] N17) ⟨mkE 12 0 [(3,.ptr 0 0)],[some (.box [dL a,dI b,dI c])]⟩ (Nbr b) (fun(t:Int)=>(Exit.ret,⟨mkE 12 0 [(2,dI t)],[]⟩)):= .of fun K h=>by
 simp only[Nbr,wpW] at h
 exact .of (by kernel_rfl) h
theorem Nsv (b:List Int) {r:AV} {H':Heap} (h:(Ans.mk _ (N62 b) (fun(t:Int)=>(dI t,[])) [] none).run=some (r,H')):Awp N69 LL (bodyOf Tryz.f117) N17 ⟨mkE 12 0 [(0,dL b)],[]⟩ (Ret (tlook tys) Tryz.f117.results.toList r H'):=
 ret_of' (Link.cast (by kernel_rfl) (by kernel_rfl) (link_group (c:=(cq [0,1,1] (bodyOf Tryz.f117))) (a:=(aq [0,1,1] N17)) [(cq [0] (bodyOf Tryz.f117)),(cq [0,1] (bodyOf Tryz.f117))] [(aq [0] N17),(aq [0,1] N17)] rfl (link_seq2 (Npv b) (fun(t:Unit)=>(link_seq (link_block (fin2:=(fun(t:Int×Int)=>(Exit.normal,⟨mkE 12 0 [(3,.ptr 0 0)],[some (.box [dL b,dI t.1,dI t.2])]⟩))) (id:=0) (link_loop (mk:=fun(s:Int×Int)=>⟨mkE 12 0 [(3,.ptr 0 0)],[some (.box [dL b,dI s.1,dI s.2])]⟩) (fin:=(fun(t:Int×Int)=>((Exit.exit 0),⟨mkE 12 0 [(3,.ptr 0 0)],[some (.box [dL b,dI t.1,dI t.2])]⟩))) (by
 rintro t f K h
 ·exact h) (fun s=>link_map (Npu b s.1 s.2) (Sum.elim (fun(t:Int×Int)=>Sum.inl (t.1,t.2)) (fun(t:Int×Int)=>Sum.inr t)) (by
 rintro(t|t)
 ·kernel_rfl
 ·kernel_rfl)) (1,0)) (fun(t:Int×Int)=>(t.1,t.2)) (by
 rintro t K h
 ·exact Eq.mp (by kernel_rfl) h)) (fun(t:Int×Int)=>(N182 b t.1 t.2)))) (fun(t:Int)=>t) (by
 rintro t
 ·kernel_rfl) (by
 rintro t f K h
 ·exact h)))) (by unfold N62;kernel_rfl) (by
 intro t
 exact ret_mk [dI t] (by kernel_rfl) (by kernel_rfl) (by kernel_rfl) (by kernel_rfl)) h
def Nfc:Fun:=fun avs H=>
 match avs,H with
 |[.dat (.list (.int .i64)) a],[]=>⟨_,N62 a,fun(t:Int)=>(dI t,[]),[],none⟩
 |_,_=>Ans.no
theorem N102:Sound Tryz.prog 117 Nfc:=by
 refine fn_sound' (C:=N69) (c:=bodyOf Tryz.f117) (cok_of tys_ok (allc N2k (allc Nln alln)) (allc Tryz.call39 (allc Tryz.call98 alln)) (by kernel_rfl)) Tryz.func117 (by kernel_rfl) LL N17 ?_
 intro avs H r H' h
 unfold Nfc at h
 split at h
 ·refine Awp.cast ?_ ?_ ?_ (Nsv _ h)<;>kernel_rfl
 ·simp[Ans.no,Ans.run] at h
def Ney:Ann:=(.seq (.leaf [0]) (.seq (.leaf [2]) (.leaf [2])))
noncomputable def Nf8:Ctx:=⟨tlook tys,olook [],ioF,0,false,[]⟩
theorem N13q (a:Int):Link Nf8 LL (bodyOf Tryz.f219) Ney ⟨mkE 6 0 [(0,dI a)],[]⟩ (Nfm a) (fun(t:Int)=>(Exit.ret,⟨mkE 6 0 [(2,dW t)],[]⟩)):= .of fun K h=>by
 simp only[Nfm,wpW] at h
 exact .of (by kernel_rfl) h
theorem N131 (a:Int) {r:AV} {H':Heap} (h:(Ans.mk _ (N35 a) (fun(t:Int)=>(dW t,[])) [] none).run=some (r,H')):Awp Nf8 LL (bodyOf Tryz.f219) Ney ⟨mkE 6 0 [(0,dI a)],[]⟩ (Ret (tlook tys) Tryz.f219.results.toList r H'):=
 ret_of' (N13q a) (by unfold N35;kernel_rfl) (by
 intro t
 exact ret_mk [dW t] (by kernel_rfl) (by kernel_rfl) (by kernel_rfl) (by kernel_rfl)) h
def N8a:Fun:=fun avs H=>
 match avs,H with
 |[.dat (.int .i64) a],[]=>⟨_,N35 a,fun(t:Int)=>(dW t,[]),[],none⟩
 |_,_=>Ans.no
theorem Nnd:Sound Tryz.prog 219 N8a:=by
 refine fn_sound' (C:=Nf8) (c:=bodyOf Tryz.f219) (cok_of tys_ok (alln) (alln) (by kernel_rfl)) Tryz.func219 (by kernel_rfl) LL Ney ?_
 intro avs H r H' h
 unfold N8a at h
 split at h
 ·refine Awp.cast ?_ ?_ ?_ (N131 _ h)<;>kernel_rfl
 ·simp[Ans.no,Ans.run] at h
def N1i:Ann:=(.seq (.leaf [0,1]) (.seq (.leaf [0,1,5]) (.seq (.seq (.leaf [0,1,5,8,9]) (.block (.loop (.seq (.leaf [0,1,5,8,9,10]) (.seq (.cond (.leaf [0,1,5,8,9]) (.leaf [5])) (.seq (.block (.seq (.leaf [0,1,5,6,8,9]) (.seq (.leaf [0,1,5,6,8,9,17]) (.cond (.leaf [0,1,5,8,9]) (.leaf [0,1,5,8,9]))))) (.leaf [0,1,5,8,9]))))))) (.seq (.leaf [4]) (.leaf [4])))))
noncomputable def N4r:Ctx:=⟨tlook tys,olook [(219,N8a)],ioF,0,false,[]⟩
theorem Nwh (a:List Int) (b:Int):Link N4r LL (Code.seq (cq [0] (bodyOf Tryz.f196)) (cq [0,1] (bodyOf Tryz.f196))) (Ann.seq (aq [0] N1i) (aq [0,1] N1i)) ⟨mkE 25 0 [(0,dL a),(1,dI b)],[]⟩ (Nah) (fun(t:Unit)=>(Exit.normal,⟨mkE 25 0 [(0,dL a),(1,dI b),(5,dW 0)],[]⟩)):= .of fun K h=>by
 simp only[Nah,wpW] at h
 exact .of (by kernel_rfl) h
theorem Nr4 (a:List Int) (b:Int):Link N4r LL (cq [0,0,1,1] (bodyOf Tryz.f196)) (aq [0,0,1,1] N1i) ⟨mkE 25 0 [(0,dL a),(1,dI b),(5,dW 0)],[]⟩ (N8m a) (fun(t:Int)=>(Exit.normal,⟨mkE 25 0 [(0,dL a),(1,dI b),(5,dW 0),(8,dI t),(9,dI 0)],[]⟩)):= .of fun K h=>by
 simp only[N8m,wpW] at h
 exact .of (by kernel_rfl) h
theorem N13l (a:List Int) (b c d g:Int):Link N4r LL (cq [0,0,1,0,1,1] (bodyOf Tryz.f196)) (aq [0,0,1,0,1,1] N1i) ⟨mkE 25 0 [(0,dL a),(1,dI b),(5,dW c),(8,dI d),(9,dI g)],[]⟩ (N4o a b c d g) (Sum.elim (fun(t:Int×Int)=>(Exit.normal,⟨mkE 25 0 [(0,dL a),(1,dI b),(5,dW t.1),(8,dI d),(9,dI t.2)],[]⟩)) (fun(t:Int)=>((Exit.exit 0),⟨mkE 25 0 [(5,dW t)],[]⟩))):= .of fun K h=>by
 simp only[N4o,wpW] at h
 exact .of (by kernel_rfl) h
theorem N11n (a:Int):Link N4r LL (cq [1,1,1] (bodyOf Tryz.f196)) (aq [1,1,1] N1i) ⟨mkE 25 0 [(5,dW a)],[]⟩ (Ng7 a) (fun(t:Int)=>(Exit.ret,⟨mkE 25 0 [(4,dW t)],[]⟩)):= .of fun K h=>by
 simp only[Ng7,wpW] at h
 exact .of (by kernel_rfl) h
theorem N13e (b:List Int) (d:Int) {r:AV} {H':Heap} (h:(Ans.mk _ (N45 b d) (fun(t:Int)=>(dW t,[])) [] none).run=some (r,H')):Awp N4r LL (bodyOf Tryz.f196) N1i ⟨mkE 25 0 [(0,dL b),(1,dI d)],[]⟩ (Ret (tlook tys) Tryz.f196.results.toList r H'):=
 ret_of' (Link.cast (by kernel_rfl) (by kernel_rfl) (link_group (c:=(cq [0,1] (bodyOf Tryz.f196))) (a:=(aq [0,1] N1i)) [(cq [0] (bodyOf Tryz.f196))] [(aq [0] N1i)] rfl (link_seq (Nwh b d) (fun(t:Unit)=>(link_seq (link_seq (Nr4 b d) (fun(t:Int)=>(link_block (fin2:=(fun(t17:Int)=>(Exit.normal,⟨mkE 25 0 [(5,dW t17)],[]⟩))) (id:=0) (link_loop (mk:=fun(s:Int×Int)=>⟨mkE 25 0 [(0,dL b),(1,dI d),(5,dW s.1),(8,dI t),(9,dI s.2)],[]⟩) (fin:=(fun(t17:Int)=>((Exit.exit 0),⟨mkE 25 0 [(5,dW t17)],[]⟩))) (by
 rintro t17 f K h
 ·exact h) (fun s=>link_map (N13l b d s.1 t s.2) (Sum.elim (fun(t17:Int×Int)=>Sum.inl (t17.1,t17.2)) (fun(t17:Int)=>Sum.inr t17)) (by
 rintro(t17|t17)
 ·kernel_rfl
 ·kernel_rfl)) (0,0)) (fun(t17:Int)=>t17) (by
 rintro t17 K h
 ·exact Eq.mp (by kernel_rfl) h)))) (fun(t:Int)=>(N11n t))))))) (by unfold N45;kernel_rfl) (by
 intro t
 exact ret_mk [dW t] (by kernel_rfl) (by kernel_rfl) (by kernel_rfl) (by kernel_rfl)) h
def Nif:Fun:=fun avs H=>
 match avs,H with
 |[.dat (.list (.int .i64)) a,.dat (.int .i64) b],[]=>⟨_,N45 a b,fun(t:Int)=>(dW t,[]),[],none⟩
 |_,_=>Ans.no
theorem Nrt:Sound Tryz.prog 196 Nif:=by
 refine fn_sound' (C:=N4r) (c:=bodyOf Tryz.f196) (cok_of tys_ok (allc Nnd alln) (allc Tryz.call219 alln) (by kernel_rfl)) Tryz.func196 (by kernel_rfl) LL N1i ?_
 intro avs H r H' h
 unfold Nif at h
 split at h
 ·refine Awp.cast ?_ ?_ ?_ (N13e _ _ h)<;>kernel_rfl
 ·simp[Ans.no,Ans.run] at h
def Neg:Ann:=(.seq (.leaf [0]) (.seq (.leaf [2]) (.leaf [2])))
noncomputable def Nct:Ctx:=⟨tlook tys,olook [(219,N8a)],ioF,0,false,[]⟩
theorem Ntz (a:Int):Link Nct LL (bodyOf Tryz.f226) Neg ⟨mkE 6 0 [(0,dI a)],[]⟩ (Ngm a) (fun(t:Int)=>(Exit.ret,⟨mkE 6 0 [(2,dW t)],[]⟩)):= .of fun K h=>by
 simp only[Ngm,wpW] at h
 exact .of (by kernel_rfl) h
theorem Nva (a:Int) {r:AV} {H':Heap} (h:(Ans.mk _ (N2y a) (fun(t:Int)=>(dW t,[])) [] none).run=some (r,H')):Awp Nct LL (bodyOf Tryz.f226) Neg ⟨mkE 6 0 [(0,dI a)],[]⟩ (Ret (tlook tys) Tryz.f226.results.toList r H'):=
 ret_of' (Ntz a) (by unfold N2y;kernel_rfl) (by
 intro t
 exact ret_mk [dW t] (by kernel_rfl) (by kernel_rfl) (by kernel_rfl) (by kernel_rfl)) h
def Ned:Fun:=fun avs H=>
 match avs,H with
 |[.dat (.int .i64) a],[]=>⟨_,N2y a,fun(t:Int)=>(dW t,[]),[],none⟩
 |_,_=>Ans.no
theorem Nua:Sound Tryz.prog 226 Ned:=by
 refine fn_sound' (C:=Nct) (c:=bodyOf Tryz.f226) (cok_of tys_ok (allc Nnd alln) (allc Tryz.call219 alln) (by kernel_rfl)) Tryz.func226 (by kernel_rfl) LL Neg ?_
 intro avs H r H' h
 unfold Ned at h
 split at h
 ·refine Awp.cast ?_ ?_ ?_ (Nva _ h)<;>kernel_rfl
 ·simp[Ans.no,Ans.run] at h
def Ni3:Ann:=(.seq (.leaf [0,1]) (.seq (.leaf [1,6]) (.seq (.leaf [4,5]) (.leaf [4,5]))))
noncomputable def Nh2:Ctx:=⟨tlook tys,olook [(196,Nif),(226,Ned)],ioF,0,false,[]⟩
theorem N121 (a:List Int) (b:Int):Link Nh2 LL (bodyOf Tryz.f187) Ni3 ⟨mkE 18 0 [(0,dL a),(1,dI b)],[]⟩ (N6r a b) (fun(t:Int×Int)=>(Exit.ret,⟨mkE 18 0 [(4,dW t.1),(5,dW t.2)],[]⟩)):= .of fun K h=>by
 simp only[N6r,wpW] at h
 exact .of (by kernel_rfl) h
theorem Nuo (a:List Int) (b:Int) {r:AV} {H':Heap} (h:(Ans.mk _ (N3i a b) (fun(t:Int×Int)=>(.tup [dW t.1,dW t.2],[])) [] none).run=some (r,H')):Awp Nh2 LL (bodyOf Tryz.f187) Ni3 ⟨mkE 18 0 [(0,dL a),(1,dI b)],[]⟩ (Ret (tlook tys) Tryz.f187.results.toList r H'):=
 ret_of' (N121 a b) (by unfold N3i;kernel_rfl) (by
 intro t
 exact ret_mk [dW t.1,dW t.2] (by kernel_rfl) (by kernel_rfl) (by kernel_rfl) (by kernel_rfl)) h
def Nea:Fun:=fun avs H=>
 match avs,H with
 |[.dat (.list (.int .i64)) a,.dat (.int .i64) b],[]=>⟨_,N3i a b,fun(t:Int×Int)=>(.tup [dW t.1,dW t.2],[]),[],none⟩
 |_,_=>Ans.no
theorem N175:Sound Tryz.prog 187 Nea:=by
 refine fn_sound' (C:=Nh2) (c:=bodyOf Tryz.f187) (cok_of tys_ok (allc Nrt (allc Nua alln)) (allc Tryz.call196 (allc Tryz.call226 alln)) (by kernel_rfl)) Tryz.func187 (by kernel_rfl) LL Ni3 ?_
 intro avs H r H' h
 unfold Nea at h
 split at h
 ·refine Awp.cast ?_ ?_ ?_ (Nuo _ _ h)<;>kernel_rfl
 ·simp[Ans.no,Ans.run] at h
def Ni:Ann:=(.seq (.leaf [0]) (.seq (.leaf [0]) (.seq (.leaf [0]) (.seq (.leaf [0]) (.seq (.leaf [0]) (.seq (.leaf [0]) (.seq (.leaf [0]) (.seq (.leaf [2]) (.leaf [2])))))))))
noncomputable def N1a:Ctx:=⟨tlook tys,olook [],ioF,0,false,[]⟩
theorem Nzh (a:Int):Link N1a LL (Code.seq (cq [0] (bodyOf Tryz.f238)) (cq [0,1] (bodyOf Tryz.f238))) (Ann.seq (aq [0] Ni) (aq [0,1] Ni)) ⟨mkE 35 0 [(0,dW a)],[]⟩ (Niu a) (fun(t:Int)=>(Exit.normal,⟨mkE 35 0 [(0,dW t)],[]⟩)):= .of fun K h=>by
 simp only[Niu,wpW] at h
 exact .of (by kernel_rfl) h
theorem Nto (a:Int):Link N1a LL (cq [0,1,1] (bodyOf Tryz.f238)) (aq [0,1,1] Ni) ⟨mkE 35 0 [(0,dW a)],[]⟩ (Nds a) (fun(t:Int)=>(Exit.normal,⟨mkE 35 0 [(0,dW t)],[]⟩)):= .of fun K h=>by
 simp only[Nds,wpW] at h
 exact .of (by kernel_rfl) h
theorem Nwq (a:Int):Link N1a LL (cq [0,1,1,1] (bodyOf Tryz.f238)) (aq [0,1,1,1] Ni) ⟨mkE 35 0 [(0,dW a)],[]⟩ (Nhc a) (fun(t:Int)=>(Exit.normal,⟨mkE 35 0 [(0,dW t)],[]⟩)):= .of fun K h=>by
 simp only[Nhc,wpW] at h
 exact .of (by kernel_rfl) h
theorem N14y (a:Int):Link N1a LL (cq [0,1,1,1,1] (bodyOf Tryz.f238)) (aq [0,1,1,1,1] Ni) ⟨mkE 35 0 [(0,dW a)],[]⟩ (Net a) (fun(t:Int)=>(Exit.normal,⟨mkE 35 0 [(0,dW t)],[]⟩)):= .of fun K h=>by
 simp only[Net,wpW] at h
 exact .of (by kernel_rfl) h
theorem N16f (a:Int):Link N1a LL (cq [0,1,1,1,1,1] (bodyOf Tryz.f238)) (aq [0,1,1,1,1,1] Ni) ⟨mkE 35 0 [(0,dW a)],[]⟩ (Ncu a) (fun(t:Int)=>(Exit.normal,⟨mkE 35 0 [(0,dW t)],[]⟩)):= .of fun K h=>by
 simp only[Ncu,wpW] at h
 exact .of (by kernel_rfl) h
theorem N13g (a:Int):Link N1a LL (cq [0,1,1,1,1,1,1] (bodyOf Tryz.f238)) (aq [0,1,1,1,1,1,1] Ni) ⟨mkE 35 0 [(0,dW a)],[]⟩ (Nf0 a) (fun(t:Int)=>(Exit.normal,⟨mkE 35 0 [(0,dW t)],[]⟩)):= .of fun K h=>by
 simp only[Nf0,wpW] at h
 exact .of (by kernel_rfl) h
theorem N10k (a:Int):Link N1a LL (cq [0,1,1,1,1,1,1,1] (bodyOf Tryz.f238)) (aq [0,1,1,1,1,1,1,1] Ni) ⟨mkE 35 0 [(0,dW a)],[]⟩ (Nh0 a) (fun(t:Int)=>(Exit.normal,⟨mkE 35 0 [(2,dI t)],[]⟩)):= .of fun K h=>by
 simp only[Nh0,wpW] at h
 exact .of (by kernel_rfl) h
theorem N18e (a:Int):Link N1a LL (cq [1,1,1,1,1,1,1,1] (bodyOf Tryz.f238)) (aq [1,1,1,1,1,1,1,1] Ni) ⟨mkE 35 0 [(2,dI a)],[]⟩ (Ni8 a) (fun(t:Int)=>(Exit.ret,⟨mkE 35 0 [(2,dI t)],[]⟩)):= .of fun K h=>by
 simp only[Ni8,wpW] at h
 exact .of (by kernel_rfl) h
theorem N11l (b:Int) {r:AV} {H':Heap} (h:(Ans.mk _ (Nb8 b) (fun(t:Int)=>(dI t,[])) [] none).run=some (r,H')):Awp N1a LL (bodyOf Tryz.f238) Ni ⟨mkE 35 0 [(0,dW b)],[]⟩ (Ret (tlook tys) Tryz.f238.results.toList r H'):=
 ret_of' (Link.cast (by kernel_rfl) (by kernel_rfl) (link_group (c:=(cq [0,1] (bodyOf Tryz.f238))) (a:=(aq [0,1] Ni)) [(cq [0] (bodyOf Tryz.f238))] [(aq [0] Ni)] rfl (link_seq (Nzh b) (fun(t:Int)=>(link_seq (Nto t) (fun(t18:Int)=>(link_seq (Nwq t18) (fun(t3:Int)=>(link_seq (N14y t3) (fun(t:Int)=>(link_seq (N16f t) (fun(t2:Int)=>(link_seq (N13g t2) (fun(t:Int)=>(link_seq (N10k t) (fun(t1:Int)=>(N18e t1))))))))))))))))) (by unfold Nb8;kernel_rfl) (by
 intro t
 exact ret_mk [dI t] (by kernel_rfl) (by kernel_rfl) (by kernel_rfl) (by kernel_rfl)) h
def Ne8:Fun:=fun avs H=>
 match avs,H with
 |[.dat (.int .u64) a],[]=>⟨_,Nb8 a,fun(t:Int)=>(dI t,[]),[],none⟩
 |_,_=>Ans.no
theorem Ntf:Sound Tryz.prog 238 Ne8:=by
 refine fn_sound' (C:=N1a) (c:=bodyOf Tryz.f238) (cok_of tys_ok (alln) (alln) (by kernel_rfl)) Tryz.func238 (by kernel_rfl) LL Ni ?_
 intro avs H r H' h
 unfold Ne8 at h
 split at h
 ·refine Awp.cast ?_ ?_ ?_ (N11l _ h)<;>kernel_rfl
 ·simp[Ans.no,Ans.run] at h
def Nfi:Ann:=(.seq (.leaf [0]) (.seq (.cond (.seq (.leaf [2]) (.leaf [2])) (.leaf [0])) (.seq (.leaf [2]) (.leaf [2]))))
noncomputable def Ngb:Ctx:=⟨tlook tys,olook [(238,Ne8)],ioF,0,false,[]⟩
theorem Nqw (a:Int):Link Ngb LL (bodyOf Tryz.f220) Nfi ⟨mkE 8 0 [(0,dW a)],[]⟩ (Ndu a) (fun(t:Int)=>(Exit.ret,⟨mkE 8 0 [(2,dI t)],[]⟩)):= .of fun K h=>by
 simp only[Ndu,wpW] at h
 exact .of (by kernel_rfl) h
theorem Nzu (a:Int) {r:AV} {H':Heap} (h:(Ans.mk _ (N8u a) (fun(t:Int)=>(dI t,[])) [] none).run=some (r,H')):Awp Ngb LL (bodyOf Tryz.f220) Nfi ⟨mkE 8 0 [(0,dW a)],[]⟩ (Ret (tlook tys) Tryz.f220.results.toList r H'):=
 ret_of' (Nqw a) (by unfold N8u;kernel_rfl) (by
 intro t
 exact ret_mk [dI t] (by kernel_rfl) (by kernel_rfl) (by kernel_rfl) (by kernel_rfl)) h
def Ne2:Fun:=fun avs H=>
 match avs,H with
 |[.dat (.int .u64) a],[]=>⟨_,N8u a,fun(t:Int)=>(dI t,[]),[],none⟩
 |_,_=>Ans.no
theorem Ny5:Sound Tryz.prog 220 Ne2:=by
 refine fn_sound' (C:=Ngb) (c:=bodyOf Tryz.f220) (cok_of tys_ok (allc Ntf alln) (allc Tryz.call238 alln) (by kernel_rfl)) Tryz.func220 (by kernel_rfl) LL Nfi ?_
 intro avs H r H' h
 unfold Ne2 at h
 split at h
 ·refine Awp.cast ?_ ?_ ?_ (Nzu _ h)<;>kernel_rfl
 ·simp[Ans.no,Ans.run] at h
def Nic:Ann:=(.seq (.leaf [0]) (.seq (.leaf [2]) (.leaf [2])))
noncomputable def Ndm:Ctx:=⟨tlook tys,olook [(220,Ne2)],ioF,0,false,[]⟩
theorem N10n (a:Int):Link Ndm LL (bodyOf Tryz.f174) Nic ⟨mkE 5 0 [(0,dW a)],[]⟩ (Nix a) (fun(t:Int)=>(Exit.ret,⟨mkE 5 0 [(2,dI t)],[]⟩)):= .of fun K h=>by
 simp only[Nix,wpW] at h
 exact .of (by kernel_rfl) h
theorem Nv8 (a:Int) {r:AV} {H':Heap} (h:(Ans.mk _ (N8h a) (fun(t:Int)=>(dI t,[])) [] none).run=some (r,H')):Awp Ndm LL (bodyOf Tryz.f174) Nic ⟨mkE 5 0 [(0,dW a)],[]⟩ (Ret (tlook tys) Tryz.f174.results.toList r H'):=
 ret_of' (N10n a) (by unfold N8h;kernel_rfl) (by
 intro t
 exact ret_mk [dI t] (by kernel_rfl) (by kernel_rfl) (by kernel_rfl) (by kernel_rfl)) h
def Nh4:Fun:=fun avs H=>
 match avs,H with
 |[.dat (.int .u64) a],[]=>⟨_,N8h a,fun(t:Int)=>(dI t,[]),[],none⟩
 |_,_=>Ans.no
theorem Nqp:Sound Tryz.prog 174 Nh4:=by
 refine fn_sound' (C:=Ndm) (c:=bodyOf Tryz.f174) (cok_of tys_ok (allc Ny5 alln) (allc Tryz.call220 alln) (by kernel_rfl)) Tryz.func174 (by kernel_rfl) LL Nic ?_
 intro avs H r H' h
 unfold Nh4 at h
 split at h
 ·refine Awp.cast ?_ ?_ ?_ (Nv8 _ h)<;>kernel_rfl
 ·simp[Ans.no,Ans.run] at h
def Nh9:Ann:=(.seq (.leaf [0]) (.seq (.seq (.leaf [0,4]) (.cond (.seq (.leaf [2]) (.leaf [2])) (.leaf [0]))) (.seq (.leaf [2]) (.leaf [2]))))
noncomputable def Nd8:Ctx:=⟨tlook tys,olook [],ioF,0,false,[]⟩
theorem Nxw (a:Int):Link Nd8 LL (bodyOf Tryz.f222) Nh9 ⟨mkE 14 0 [(0,dW a)],[]⟩ (Ncy a) (fun(t:Int)=>(Exit.ret,⟨mkE 14 0 [(2,dI t)],[]⟩)):= .of fun K h=>by
 simp only[Ncy,wpW] at h
 exact .of (by kernel_rfl) h
theorem N17z (a:Int) {r:AV} {H':Heap} (h:(Ans.mk _ (N9r a) (fun(t:Int)=>(dI t,[])) [] none).run=some (r,H')):Awp Nd8 LL (bodyOf Tryz.f222) Nh9 ⟨mkE 14 0 [(0,dW a)],[]⟩ (Ret (tlook tys) Tryz.f222.results.toList r H'):=
 ret_of' (Nxw a) (by unfold N9r;kernel_rfl) (by
 intro t
 exact ret_mk [dI t] (by kernel_rfl) (by kernel_rfl) (by kernel_rfl) (by kernel_rfl)) h
def Ncv:Fun:=fun avs H=>
 match avs,H with
 |[.dat (.int .u64) a],[]=>⟨_,N9r a,fun(t:Int)=>(dI t,[]),[],none⟩
 |_,_=>Ans.no
theorem N10q:Sound Tryz.prog 222 Ncv:=by
 refine fn_sound' (C:=Nd8) (c:=bodyOf Tryz.f222) (cok_of tys_ok (alln) (alln) (by kernel_rfl)) Tryz.func222 (by kernel_rfl) LL Nh9 ?_
 intro avs H r H' h
 unfold Ncv at h
 split at h
 ·refine Awp.cast ?_ ?_ ?_ (N17z _ h)<;>kernel_rfl
 ·simp[Ans.no,Ans.run] at h
def Ndl:Ann:=(.seq (.leaf [0]) (.seq (.cond (.seq (.leaf [2]) (.leaf [2])) (.leaf [0])) (.seq (.leaf [2]) (.leaf [2]))))
noncomputable def Ndk:Ctx:=⟨tlook tys,olook [(222,Ncv)],ioF,0,false,[]⟩
theorem N17r (a:Int):Link Ndk LL (bodyOf Tryz.f175) Ndl ⟨mkE 8 0 [(0,dW a)],[]⟩ (Nid a) (fun(t:Int)=>(Exit.ret,⟨mkE 8 0 [(2,dI t)],[]⟩)):= .of fun K h=>by
 simp only[Nid,wpW] at h
 exact .of (by kernel_rfl) h
theorem N11g (a:Int) {r:AV} {H':Heap} (h:(Ans.mk _ (Nb7 a) (fun(t:Int)=>(dI t,[])) [] none).run=some (r,H')):Awp Ndk LL (bodyOf Tryz.f175) Ndl ⟨mkE 8 0 [(0,dW a)],[]⟩ (Ret (tlook tys) Tryz.f175.results.toList r H'):=
 ret_of' (N17r a) (by unfold Nb7;kernel_rfl) (by
 intro t
 exact ret_mk [dI t] (by kernel_rfl) (by kernel_rfl) (by kernel_rfl) (by kernel_rfl)) h
def Nfs:Fun:=fun avs H=>
 match avs,H with
 |[.dat (.int .u64) a],[]=>⟨_,Nb7 a,fun(t:Int)=>(dI t,[]),[],none⟩
 |_,_=>Ans.no
theorem Nr1:Sound Tryz.prog 175 Nfs:=by
 refine fn_sound' (C:=Ndk) (c:=bodyOf Tryz.f175) (cok_of tys_ok (allc N10q alln) (allc Tryz.call222 alln) (by kernel_rfl)) Tryz.func175 (by kernel_rfl) LL Ndl ?_
 intro avs H r H' h
 unfold Nfs at h
 split at h
 ·refine Awp.cast ?_ ?_ ?_ (N11g _ h)<;>kernel_rfl
 ·simp[Ans.no,Ans.run] at h
def N1f:Ann:=(.seq (.leaf [0]) (.seq (.leaf [0,3]) (.seq (.seq (.leaf [3,4]) (.block (.loop (.seq (.seq (.leaf [3,4,10]) (.cond (.leaf [3,4]) (.leaf [3]))) (.seq (.block (.leaf [3,4])) (.leaf [3,4])))))) (.seq (.leaf [2]) (.leaf [2])))))
noncomputable def N47:Ctx:=⟨tlook tys,olook [(174,Nh4),(175,Nfs)],ioF,0,false,[]⟩
theorem N13u (a:Int):Link N47 LL (Code.seq (cq [0] (bodyOf Tryz.f134)) (cq [0,1] (bodyOf Tryz.f134))) (Ann.seq (aq [0] N1f) (aq [0,1] N1f)) ⟨mkE 22 0 [(0,dW a)],[]⟩ (Nec a) (fun(t:(List Int))=>(Exit.normal,⟨mkE 22 0 [(0,dW a),(3,.slc 0)],[some (sI t)]⟩)):= .of fun K h=>by
 simp only[Nec,wpW] at h
 exact .of (by kernel_rfl) h
theorem Nwk (a:Int) (b:List Int):Link N47 LL (cq [0,0,1,1] (bodyOf Tryz.f134)) (aq [0,0,1,1] N1f) ⟨mkE 22 0 [(0,dW a),(3,.slc 0)],[some (sI b)]⟩ (Ni0) (fun(t:Unit)=>(Exit.normal,⟨mkE 22 0 [(3,.slc 0),(4,dW a)],[some (sI b)]⟩)):= .of fun K h=>by
 simp only[Ni0,wpW] at h
 exact .of (by kernel_rfl) h
theorem Ntv (a:Int) (b:List Int):Link N47 LL (cq [0,0,1,0,1,1] (bodyOf Tryz.f134)) (aq [0,0,1,0,1,1] N1f) ⟨mkE 22 0 [(3,.slc 0),(4,dW a)],[some (sI b)]⟩ (Nh8 a b) (Sum.elim (fun(t:Int×(List Int))=>(Exit.normal,⟨mkE 22 0 [(3,.slc 0),(4,dW t.1)],[some (sI t.2)]⟩)) (fun(t:(List Int))=>((Exit.exit 0),⟨mkE 22 0 [(3,.slc 0)],[some (sI t)]⟩))):= .of fun K h=>by
 simp only[Nh8,wpW] at h
 exact .of (by kernel_rfl) h
theorem Nu2 (a:List Int):Link N47 LL (cq [1,1,1] (bodyOf Tryz.f134)) (aq [1,1,1] N1f) ⟨mkE 22 0 [(3,.slc 0)],[some (sI a)]⟩ (Nf7 a) (fun(t:(List Int))=>(Exit.ret,⟨mkE 22 0 [(2,.slc 0)],[some (sI t)]⟩)):= .of fun K h=>by
 simp only[Nf7,wpW] at h
 exact .of (by kernel_rfl) h
theorem Nyp (b:Int) {r:AV} {H':Heap} (h:(Ans.mk _ (N4t b) (fun(t:(List Int))=>(.slc 0,[some (sI t)])) [] none).run=some (r,H')):Awp N47 LL (bodyOf Tryz.f134) N1f ⟨mkE 22 0 [(0,dW b)],[]⟩ (Ret (tlook tys) Tryz.f134.results.toList r H'):=
 ret_of' (Link.cast (by kernel_rfl) (by kernel_rfl) (link_group (c:=(cq [0,1] (bodyOf Tryz.f134))) (a:=(aq [0,1] N1f)) [(cq [0] (bodyOf Tryz.f134))] [(aq [0] N1f)] rfl (link_seq (N13u b) (fun(t:(List Int))=>(link_seq (link_seq (Nwk b t) (fun(t36:Unit)=>(link_block (fin2:=(fun(t36:(List Int))=>(Exit.normal,⟨mkE 22 0 [(3,.slc 0)],[some (sI t36)]⟩))) (id:=0) (link_loop (mk:=fun(s:Int×(List Int))=>⟨mkE 22 0 [(3,.slc 0),(4,dW s.1)],[some (sI s.2)]⟩) (fin:=(fun(t36:(List Int))=>((Exit.exit 0),⟨mkE 22 0 [(3,.slc 0)],[some (sI t36)]⟩))) (by
 rintro t36 f K h
 ·exact h) (fun s=>link_map (Ntv s.1 s.2) (Sum.elim (fun(t36:Int×(List Int))=>Sum.inl (t36.1,t36.2)) (fun(t36:(List Int))=>Sum.inr t36)) (by
 rintro(t36|t36)
 ·kernel_rfl
 ·kernel_rfl)) (b,t)) (fun(t36:(List Int))=>t36) (by
 rintro t36 K h
 ·exact Eq.mp (by kernel_rfl) h)))) (fun(t36:(List Int))=>(Nu2 t36))))))) (by unfold N4t;kernel_rfl) (by
 intro t
 exact ret_mk [.slc 0] (by kernel_rfl) (by kernel_rfl) (by kernel_rfl) (by kernel_rfl)) h
def Nhv:Fun:=fun avs H=>
 match avs,H with
 |[.dat (.int .u64) a],[]=>⟨_,N4t a,fun(t:(List Int))=>(.slc 0,[some (sI t)]),[],none⟩
 |_,_=>Ans.no
theorem Nvc:Sound Tryz.prog 134 Nhv:=by
 refine fn_sound' (C:=N47) (c:=bodyOf Tryz.f134) (cok_of tys_ok (allc Nqp (allc Nr1 alln)) (allc Tryz.call174 (allc Tryz.call175 alln)) (by kernel_rfl)) Tryz.func134 (by kernel_rfl) LL N1f ?_
 intro avs H r H' h
 unfold Nhv at h
 split at h
 ·refine Awp.cast ?_ ?_ ?_ (Nyp _ h)<;>kernel_rfl
 ·simp[Ans.no,Ans.run] at h
def Nhd:Ann:=(.seq (.leaf [0,1,2]) (.seq (.leaf [0,1,2,7,8]) (.seq (.leaf [0,1,8]) (.seq (.leaf [6]) (.leaf [6])))))
def N4v:Ann:=(.seq (.leaf [0,1,2]) (.seq (.seq (.leaf [0,1,10,11,12]) (.block (.loop (.seq (.leaf [0,1,10,11,12,13]) (.seq (.cond (.leaf [0,1,10,11,12]) (.leaf [0])) (.seq (.block (.seq (.leaf [0,1,8,10,11,12]) (.leaf [0,1,10,11,12]))) (.leaf [0,1,10,11,12]))))))) (.seq (.leaf [6]) (.leaf [6]))))
def N1b (n:Nat):Fun:=fun avs H=>
 match avs,H with
 |[.slc 0,.dat (.list (.int .i64)) a,.dat (.int .i64) b],[some (.seq (.int .i64) c)]=>⟨_,Nq n a b c,fun(t:(List Int))=>(.slc 0,[some (sI t)]),[0],none⟩
 |_,_=>Ans.no
def N1c (n:Nat):Fun:=fun avs H=>
 match avs,H with
 |[.slc 0,.dat (.list (.int .i64)) a,.dat (.int .u64) b],[some (.seq (.int .i64) c)]=>⟨_,N26 n a b c,fun(t:(List Int))=>(.slc 0,[some (sI t)]),[0],none⟩
 |_,_=>Ans.no
noncomputable def Nhp (n:Nat):Ctx:=⟨tlook tys,olook [(187,Nea),(188,N1c n)],ioF,1,false,[0]⟩
noncomputable def N4l (n:Nat):Ctx:=⟨tlook tys,olook [(134,Nhv),(150,N1b n)],ioF,1,false,[0]⟩
theorem Npy (n:Nat) (a:List Int) (b:Int) (c:List Int):Link (Nhp n) LL (bodyOf Tryz.f150) Nhd ⟨mkE 26 0 [(0,.slc 0),(1,dL a),(2,dI b)],[some (sI c)]⟩ (N6h (Nq n) (N26 n) a b c) (fun(t:(List Int))=>(Exit.ret,⟨mkE 26 0 [(6,.slc 0)],[some (sI t)]⟩)):= .of fun K h=>by
 simp only[N6h,wpW] at h
 exact .of (by kernel_rfl) h
theorem N10p (n:Nat) (a:List Int) (b:Int) (c:List Int) {r:AV} {H':Heap} (h:(Ans.mk _ (Nq (n+1) a b c) (fun(t:(List Int))=>(.slc 0,[some (sI t)])) [0] none).run=some (r,H')):Awp (Nhp n) LL (bodyOf Tryz.f150) Nhd ⟨mkE 26 0 [(0,.slc 0),(1,dL a),(2,dI b)],[some (sI c)]⟩ (Ret (tlook tys) Tryz.f150.results.toList r H'):=
 ret_of' (Npy n a b c) (by(show _=_);kernel_rfl) (by
 intro t
 exact ret_mk [.slc 0] (by kernel_rfl) (by kernel_rfl) (by kernel_rfl) (by kernel_rfl)) h
theorem Nw8 (n:Nat) (a:List Int) (b:Int) (c:List Int):Link (N4l n) LL (cq [0] (bodyOf Tryz.f188)) (aq [0] N4v) ⟨mkE 22 0 [(0,.slc 0),(1,dL a),(2,dW b)],[some (sI c)]⟩ (Nbq (Nq n) (N26 n)) (fun(t:Unit)=>(Exit.normal,⟨mkE 22 0 [(0,.slc 0),(1,dL a),(2,dW b)],[some (sI c)]⟩)):= .of fun K h=>by
 simp only[Nbq,wpW] at h
 exact .of (by kernel_rfl) h
theorem N13t (n:Nat) (a:List Int) (b:Int) (c:List Int):Link (N4l n) LL (cq [0,0,1] (bodyOf Tryz.f188)) (aq [0,0,1] N4v) ⟨mkE 22 0 [(0,.slc 0),(1,dL a),(2,dW b)],[some (sI c)]⟩ (N9w (Nq n) (N26 n) b) (fun(t:Int×(List Int))=>(Exit.normal,⟨mkE 22 0 [(0,.slc 0),(1,dL a),(10,.slc 1),(11,dI t.1),(12,dI 0)],[some (sI c),some (sI t.2)]⟩)):= .of fun K h=>by
 simp only[N9w,wpW] at h
 exact .of (by kernel_rfl) h
theorem N158 (n:Nat) (a:List Int) (b c:Int) (d g:List Int):Link (N4l n) LL (cq [0,0,1,0,1] (bodyOf Tryz.f188)) (aq [0,0,1,0,1] N4v) ⟨mkE 22 0 [(0,.slc 0),(1,dL a),(10,.slc 1),(11,dI b),(12,dI c)],[some (sI d),some (sI g)]⟩ (N63 (Nq n) (N26 n) a b c d g) (Sum.elim (fun(t:Int×(List Int))=>(Exit.normal,⟨mkE 22 0 [(0,.slc 0),(1,dL a),(10,.slc 1),(11,dI b),(12,dI t.1)],[some (sI t.2),some (sI g)]⟩)) (fun(t:(List Int))=>((Exit.exit 0),⟨mkE 22 0 [(0,.slc 0)],[some (sI t)]⟩))):= .of fun K h=>by
 simp only[N63,wpW] at h
 exact .of (by kernel_rfl) h
theorem Nzw (n:Nat) (a:List Int):Link (N4l n) LL (cq [1,1] (bodyOf Tryz.f188)) (aq [1,1] N4v) ⟨mkE 22 0 [(0,.slc 0)],[some (sI a)]⟩ (Nbt (Nq n) (N26 n) a) (fun(t:(List Int))=>(Exit.ret,⟨mkE 22 0 [(6,.slc 0)],[some (sI t)]⟩)):= .of fun K h=>by
 simp only[Nbt,wpW] at h
 exact .of (by kernel_rfl) h
theorem Ns9 (n:Nat) (a:List Int) (b:Int) (c:List Int) {r:AV} {H':Heap} (h:(Ans.mk _ (N26 (n+1) a b c) (fun(t:(List Int))=>(.slc 0,[some (sI t)])) [0] none).run=some (r,H')):Awp (N4l n) LL (bodyOf Tryz.f188) N4v ⟨mkE 22 0 [(0,.slc 0),(1,dL a),(2,dW b)],[some (sI c)]⟩ (Ret (tlook tys) Tryz.f188.results.toList r H'):=
 ret_of' (Link.cast (by kernel_rfl) (by kernel_rfl) (link_seq (Nw8 n a b c) (fun(t:Unit)=>(link_seq (link_seq (N13t n a b c) (fun(t:Int×(List Int))=>(link_block (fin2:=(fun(t19:(List Int))=>(Exit.normal,⟨mkE 22 0 [(0,.slc 0)],[some (sI t19)]⟩))) (id:=0) (link_loop (mk:=fun(s:Int×(List Int))=>⟨mkE 22 0 [(0,.slc 0),(1,dL a),(10,.slc 1),(11,dI t.1),(12,dI s.1)],[some (sI s.2),some (sI t.2)]⟩) (fin:=(fun(t19:(List Int))=>((Exit.exit 0),⟨mkE 22 0 [(0,.slc 0)],[some (sI t19)]⟩))) (by
 rintro t19 f K h
 ·exact h) (fun s=>link_map (N158 n a t.1 s.1 s.2 t.2) (Sum.elim (fun(t19:Int×(List Int))=>Sum.inl (t19.1,t19.2)) (fun(t19:(List Int))=>Sum.inr t19)) (by
 rintro(t19|t19)
 ·kernel_rfl
 ·kernel_rfl)) (0,c)) (fun(t19:(List Int))=>t19) (by
 rintro t19 K h
 ·exact Eq.mp (by kernel_rfl) h)))) (fun(t:(List Int))=>(Nzw n t)))))) (by(show _=_);kernel_rfl) (by
 intro t
 exact ret_mk [.slc 0] (by kernel_rfl) (by kernel_rfl) (by kernel_rfl) (by kernel_rfl)) h
theorem N117 (n:Nat) (h150:Sound Tryz.prog 150 (N1b n)) (h188:Sound Tryz.prog 188 (N1c n)):Sound Tryz.prog 150 (N1b (n+1)):=by
 refine fn_sound' (C:=Nhp n) (c:=bodyOf Tryz.f150) (cok_of tys_ok (allc N175 (allc h188 alln)) (allc Tryz.call187 (allc Tryz.call188 alln)) (by kernel_rfl)) Tryz.func150 (by kernel_rfl) LL Nhd ?_
 intro avs H r H' h
 unfold N1b at h
 split at h
 ·refine Awp.cast ?_ ?_ ?_ (N10p n _ _ _ h)<;>kernel_rfl
 ·simp[Ans.no,Ans.run] at h
theorem Nrm:Sound Tryz.prog 150 (N1b 0):=by
 intro avs H r H' h
 unfold N1b at h
 split at h
 ·simp[Nq,N5,Ans.run] at h
 ·simp[Ans.no,Ans.run] at h
theorem Nyu (n:Nat) (h150:Sound Tryz.prog 150 (N1b n)) (h188:Sound Tryz.prog 188 (N1c n)):Sound Tryz.prog 188 (N1c (n+1)):=by
 refine fn_sound' (C:=N4l n) (c:=bodyOf Tryz.f188) (cok_of tys_ok (allc Nvc (allc h150 alln)) (allc Tryz.call134 (allc Tryz.call150 alln)) (by kernel_rfl)) Tryz.func188 (by kernel_rfl) LL N4v ?_
 intro avs H r H' h
 unfold N1c at h
 split at h
 ·refine Awp.cast ?_ ?_ ?_ (Ns9 n _ _ _ h)<;>kernel_rfl
 ·simp[Ans.no,Ans.run] at h
theorem N12j:Sound Tryz.prog 188 (N1c 0):=by
 intro avs H r H' h
 unfold N1c at h
 split at h
 ·simp[N26,N5,Ans.run] at h
 ·simp[Ans.no,Ans.run] at h
theorem Niq: ∀n,Sound Tryz.prog 150 (N1b n)∧Sound Tryz.prog 188 (N1c n)
 |0=>⟨Nrm,N12j⟩
 |n+1=>by
  obtain⟨h150,h188⟩:=Niq n
  exact⟨N117 n h150 h188,Nyu n h150 h188⟩
def N9k:Fun:=fun avs H=>
 match avs,H with
 |[.slc 0,.dat (.list (.int .i64)) a,.dat (.int .i64) b],[some (.seq (.int .i64) c)]=>⟨_,N6v a b c,fun(t:(List Int))=>(.slc 0,[some (sI t)]),[0],none⟩
 |_,_=>Ans.no
theorem Nx4:Sound Tryz.prog 150 N9k:=by
 have e:N9k=N1b RR:=by
  funext avs H
  unfold N9k N1b
  split<;>first|rfl|(simp only[N6v])
 rw[e]
 exact(Niq RR).1
def Ni1:Fun:=fun avs H=>
 match avs,H with
 |[.slc 0,.dat (.list (.int .i64)) a,.dat (.int .u64) b],[some (.seq (.int .i64) c)]=>⟨_,Nkh a b c,fun(t:(List Int))=>(.slc 0,[some (sI t)]),[0],none⟩
 |_,_=>Ans.no
theorem N18l:Sound Tryz.prog 188 Ni1:=by
 have e:Ni1=N1c RR:=by
  funext avs H
  unfold Ni1 N1c
  split<;>first|rfl|(simp only[Nkh])
 rw[e]
 exact(Niq RR).2
def Ncx:Ann:=(.seq (.leaf [0]) (.seq (.seq (.leaf [0,5]) (.cond (.seq (.leaf [2]) (.leaf [2])) (.leaf [0]))) (.seq (.draw [5,100006] [0,1,3,4,5,2,6,7] [] [2]) (.leaf [2]))))
noncomputable def Ner:Ctx:=⟨tlook tys,olook [(39,N19),(117,Nfc),(150,N9k)],ioF,0,false,[]⟩
theorem N16a (a:List Int):Link Ner LL (bodyOf Tryz.f116) Ncx ⟨mkE 13 0 [(0,dL a)],[]⟩ (N6y a) (fun(t:(List Int))=>(Exit.ret,⟨mkE 13 0 [(2,.slc 0)],[some (sI t)]⟩)):= .of fun K h=>by
 simp only[N6y,wpW] at h
 exact .of (by kernel_rfl) h
theorem N15e (a:List Int) {r:AV} {H':Heap} (h:(Ans.mk _ (N3s a) (fun(t:(List Int))=>(.slc 0,[some (sI t)])) [] none).run=some (r,H')):Awp Ner LL (bodyOf Tryz.f116) Ncx ⟨mkE 13 0 [(0,dL a)],[]⟩ (Ret (tlook tys) Tryz.f116.results.toList r H'):=
 ret_of' (N16a a) (by unfold N3s;kernel_rfl) (by
 intro t
 exact ret_mk [.slc 0] (by kernel_rfl) (by kernel_rfl) (by kernel_rfl) (by kernel_rfl)) h
def Ngq:Fun:=fun avs H=>
 match avs,H with
 |[.dat (.list (.int .i64)) a],[]=>⟨_,N3s a,fun(t:(List Int))=>(.slc 0,[some (sI t)]),[],none⟩
 |_,_=>Ans.no
theorem Nte:Sound Tryz.prog 116 Ngq:=by
 refine fn_sound' (C:=Ner) (c:=bodyOf Tryz.f116) (cok_of tys_ok (allc N2k (allc N102 (allc Nx4 alln))) (allc Tryz.call39 (allc Tryz.call117 (allc Tryz.call150 alln))) (by kernel_rfl)) Tryz.func116 (by kernel_rfl) LL Ncx ?_
 intro avs H r H' h
 unfold Ngq at h
 split at h
 ·refine Awp.cast ?_ ?_ ?_ (N15e _ h)<;>kernel_rfl
 ·simp[Ans.no,Ans.run] at h
def Nir:Ann:=(.seq (.leaf [0]) (.seq (.leaf [3]) (.seq (.leaf [2]) (.leaf [2]))))
noncomputable def Nfb:Ctx:=⟨tlook tys,olook [(116,Ngq),(176,Nca)],ioF,0,false,[]⟩
theorem N16e (a:List Int):Link Nfb LL (bodyOf Tryz.f136) Nir ⟨mkE 13 0 [(0,dL a)],[]⟩ (N7k a) (fun(t:(List Int))=>(Exit.ret,⟨mkE 13 0 [(2,.slc 0)],[some (sI t)]⟩)):= .of fun K h=>by
 simp only[N7k,wpW] at h
 exact .of (by kernel_rfl) h
theorem Nw9 (a:List Int) {r:AV} {H':Heap} (h:(Ans.mk _ (N3z a) (fun(t:(List Int))=>(.slc 0,[some (sI t)])) [] none).run=some (r,H')):Awp Nfb LL (bodyOf Tryz.f136) Nir ⟨mkE 13 0 [(0,dL a)],[]⟩ (Ret (tlook tys) Tryz.f136.results.toList r H'):=
 ret_of' (N16e a) (by unfold N3z;kernel_rfl) (by
 intro t
 exact ret_mk [.slc 0] (by kernel_rfl) (by kernel_rfl) (by kernel_rfl) (by kernel_rfl)) h
def Nhe:Fun:=fun avs H=>
 match avs,H with
 |[.dat (.list (.int .i64)) a],[]=>⟨_,N3z a,fun(t:(List Int))=>(.slc 0,[some (sI t)]),[],none⟩
 |_,_=>Ans.no
theorem N16h:Sound Tryz.prog 136 Nhe:=by
 refine fn_sound' (C:=Nfb) (c:=bodyOf Tryz.f136) (cok_of tys_ok (allc Nte (allc Njl alln)) (allc Tryz.call116 (allc Tryz.call176 alln)) (by kernel_rfl)) Tryz.func136 (by kernel_rfl) LL Nir ?_
 intro avs H r H' h
 unfold Nhe at h
 split at h
 ·refine Awp.cast ?_ ?_ ?_ (Nw9 _ h)<;>kernel_rfl
 ·simp[Ans.no,Ans.run] at h
def Nhj:Ann:=(.seq (.leaf [0,3]) (.seq (.seq (.leaf [0,3,7]) (.block (.seq (.leaf [0,3,7,8]) (.cond (.seq (.seq (.leaf [0,3,14]) (.cond (.seq (.leaf [4]) (.leaf [4])) (.leaf [0,3]))) (.seq (.leaf [3,5]) (.seq (.leaf [5]) (.seq (.leaf [4]) (.leaf [4]))))) (.seq (.leaf [0,3,7,25]) (.cond (.seq (.draw [1,4] [0,2,3,4,1,5,6] [] [4]) (.leaf [4])) (.seq (.leaf [0,7,33]) (.cond (.seq (.leaf [4]) (.leaf [4])) (.seq (.leaf [0,7,41]) (.cond (.seq (.leaf [4]) (.leaf [4])) (.seq (.leaf [0,45]) (.cond (.seq (.leaf [4]) (.leaf [4])) (.leaf []))))))))))))) (.seq (.leaf [4]) (.leaf [4]))))
noncomputable def Nh1:Ctx:=⟨tlook tys,olook [(132,Nfg),(52,Nd6),(135,Nfu),(136,Nhe)],ioF,0,false,[]⟩
theorem Nyz (a:List Int) (b c d:Int):Link Nh1 LL (bodyOf Tryz.f93) Nhj ⟨mkE 49 0 [(0,dL a),(1,.agg [dI b,dI c,dI d])],[]⟩ (N6n a b c d) (fun(t:(List Int))=>(Exit.ret,⟨mkE 49 0 [(4,.slc 0)],[some (sI t)]⟩)):= .of fun K h=>by
 simp only[N6n,wpW] at h
 exact .of (by kernel_rfl) h
theorem N11w (a:List Int) (b c d:Int) {r:AV} {H':Heap} (h:(Ans.mk _ (N32 a b c d) (fun(t:(List Int))=>(.slc 0,[some (sI t)])) [] none).run=some (r,H')):Awp Nh1 LL (bodyOf Tryz.f93) Nhj ⟨mkE 49 0 [(0,dL a),(1,.agg [dI b,dI c,dI d])],[]⟩ (Ret (tlook tys) Tryz.f93.results.toList r H'):=
 ret_of' (Nyz a b c d) (by unfold N32;kernel_rfl) (by
 intro t
 exact ret_mk [.slc 0] (by kernel_rfl) (by kernel_rfl) (by kernel_rfl) (by kernel_rfl)) h
def Nhf:Fun:=fun avs H=>
 match avs,H with
 |[.dat (.list (.int .i64)) a,.agg [.dat (.int .i64) b,.dat (.int .i64) c,.dat (.int .i64) d]],[]=>⟨_,N32 a b c d,fun(t:(List Int))=>(.slc 0,[some (sI t)]),[],none⟩
 |_,_=>Ans.no
theorem Nq4:Sound Tryz.prog 93 Nhf:=by
 refine fn_sound' (C:=Nh1) (c:=bodyOf Tryz.f93) (cok_of tys_ok (allc Ny6 (allc Nm1 (allc N12a (allc N16h alln)))) (allc Tryz.call132 (allc Tryz.call52 (allc Tryz.call135 (allc Tryz.call136 alln)))) (by kernel_rfl)) Tryz.func93 (by kernel_rfl) LL Nhj ?_
 intro avs H r H' h
 unfold Nhf at h
 split at h
 ·refine Awp.cast ?_ ?_ ?_ (N11w _ _ _ _ h)<;>kernel_rfl
 ·simp[Ans.no,Ans.run] at h
def N24:Ann:=(.seq (.leaf [0,1]) (.seq (.seq (.leaf [0,1,10]) (.cond (.seq (.leaf [4]) (.leaf [4])) (.leaf [0,1]))) (.seq (.seq (.leaf [0,1,12,13]) (.block (.loop (.seq (.leaf [0,1,12,13,14]) (.seq (.cond (.leaf [0,1,12,13]) (.leaf [])) (.seq (.block (.seq (.leaf [0,1,5,12,13]) (.seq (.draw [] [0,1,2,3,4,5,6,7,8] [] [0,1,12,13,24]) (.cond (.seq (.leaf [4]) (.leaf [4])) (.leaf [0,1,12,13]))))) (.leaf [0,1,12,13]))))))) (.seq (.leaf [4]) (.leaf [4])))))
noncomputable def N4e:Ctx:=⟨tlook tys,olook [],ioF,0,false,[]⟩
theorem Nvs (a b:List Int):Link N4e LL (Code.seq (cq [0] (bodyOf Tryz.f94)) (cq [0,1] (bodyOf Tryz.f94))) (Ann.seq (aq [0] N24) (aq [0,1] N24)) ⟨mkE 26 0 [(0,dL a),(1,dL b)],[]⟩ (N8z a b) (Sum.elim (fun(t:Unit)=>(Exit.normal,⟨mkE 26 0 [(0,dL a),(1,dL b)],[]⟩)) (fun(t:Bool)=>(Exit.ret,⟨mkE 26 0 [(4,dB t)],[]⟩))):= .of fun K h=>by
 simp only[N8z,wpW] at h
 exact .of (by kernel_rfl) h
theorem N11c (a b:List Int):Link N4e LL (cq [0,0,1,1] (bodyOf Tryz.f94)) (aq [0,0,1,1] N24) ⟨mkE 26 0 [(0,dL a),(1,dL b)],[]⟩ (N9y a) (fun(t:Int)=>(Exit.normal,⟨mkE 26 0 [(0,dL a),(1,dL b),(12,dI t),(13,dI 0)],[]⟩)):= .of fun K h=>by
 simp only[N9y,wpW] at h
 exact .of (by kernel_rfl) h
theorem N15f (a b:List Int) (c d:Int):Link N4e LL (cq [0,0,1,0,1,1] (bodyOf Tryz.f94)) (aq [0,0,1,0,1,1] N24) ⟨mkE 26 0 [(0,dL a),(1,dL b),(12,dI c),(13,dI d)],[]⟩ (N39 a b c d) (Sum.elim (fun(t:Int)=>(Exit.normal,⟨mkE 26 0 [(0,dL a),(1,dL b),(12,dI c),(13,dI t)],[]⟩)) (Sum.elim (fun(t:Bool)=>(Exit.ret,⟨mkE 26 0 [(4,dB t)],[]⟩)) (fun(t:Unit)=>((Exit.exit 0),⟨mkE 26 0 [],[]⟩)))):= .of fun K h=>by
 simp only[N39,wpW] at h
 exact .of (by kernel_rfl) h
theorem Ntp:Link N4e LL (cq [1,1,1] (bodyOf Tryz.f94)) (aq [1,1,1] N24) ⟨mkE 26 0 [],[]⟩ (Ndy) (fun(t:Bool)=>(Exit.ret,⟨mkE 26 0 [(4,dB t)],[]⟩)):= .of fun K h=>by
 simp only[Ndy,wpW] at h
 exact .of (by kernel_rfl) h
theorem Nue (b d:List Int) {r:AV} {H':Heap} (h:(Ans.mk _ (N3o b d) (fun(t:Bool)=>(dB t,[])) [] none).run=some (r,H')):Awp N4e LL (bodyOf Tryz.f94) N24 ⟨mkE 26 0 [(0,dL b),(1,dL d)],[]⟩ (Ret (tlook tys) Tryz.f94.results.toList r H'):=
 ret_of' (Link.cast (by kernel_rfl) (by kernel_rfl) (link_group (c:=(cq [0,1] (bodyOf Tryz.f94))) (a:=(aq [0,1] N24)) [(cq [0] (bodyOf Tryz.f94))] [(aq [0] N24)] rfl (link_seq2 (Nvs b d) (fun(t:Unit)=>(link_seq2 (link_seq (N11c b d) (fun(t:Int)=>(link_block (fin2:=(Sum.elim (fun(t20:Unit)=>(Exit.normal,⟨mkE 26 0 [],[]⟩)) (fun(t20:Bool)=>(Exit.ret,⟨mkE 26 0 [(4,dB t20)],[]⟩)))) (id:=0) (link_loop (mk:=fun(s:Int)=>⟨mkE 26 0 [(0,dL b),(1,dL d),(12,dI t),(13,dI s)],[]⟩) (fin:=(Sum.elim (fun(t20:Bool)=>(Exit.ret,⟨mkE 26 0 [(4,dB t20)],[]⟩)) (fun(t20:Unit)=>((Exit.exit 0),⟨mkE 26 0 [],[]⟩)))) (by
 rintro(t20|t20) f K h
 ·exact h
 ·exact h) (fun s=>link_map (N15f b d t s) (Sum.elim (fun(t20:Int)=>Sum.inl t20) (Sum.elim (fun(t20:Bool)=>Sum.inr (Sum.inl t20)) (fun(t20:Unit)=>Sum.inr (Sum.inr t20)))) (by
 rintro(t20|t20|t20)
 ·kernel_rfl
 ·kernel_rfl
 ·kernel_rfl)) 0) (Sum.elim (fun(t20:Bool)=>(Sum.inr t20)) (fun(t20:Unit)=>(Sum.inl ()))) (by
 rintro(t20|t20) K h
 ·exact Eq.mp (by kernel_rfl) h
 ·exact Eq.mp (by kernel_rfl) h)))) (fun(t:Unit)=>(Ntp)) (fun(t:Bool)=>t) (by
 rintro t
 ·kernel_rfl) (by
 rintro t f K h
 ·exact h))) (fun(t:Bool)=>t) (by
 rintro t
 ·kernel_rfl) (by
 rintro t f K h
 ·exact h)))) (by unfold N3o;kernel_rfl) (by
 intro t
 exact ret_mk [dB t] (by kernel_rfl) (by kernel_rfl) (by kernel_rfl) (by kernel_rfl)) h
def Ndi:Fun:=fun avs H=>
 match avs,H with
 |[.dat (.list (.int .i64)) a,.dat (.list (.int .i64)) b],[]=>⟨_,N3o a b,fun(t:Bool)=>(dB t,[]),[],none⟩
 |_,_=>Ans.no
theorem Nyq:Sound Tryz.prog 94 Ndi:=by
 refine fn_sound' (C:=N4e) (c:=bodyOf Tryz.f94) (cok_of tys_ok (alln) (alln) (by kernel_rfl)) Tryz.func94 (by kernel_rfl) LL N24 ?_
 intro avs H r H' h
 unfold Ndi at h
 split at h
 ·refine Awp.cast ?_ ?_ ?_ (Nue _ _ h)<;>kernel_rfl
 ·simp[Ans.no,Ans.run] at h
def ren_slices_Clone_ints_int:Go.Shelf.Ren:=⟨fun|41=>95|n=>n,fun|4=>4|22=>29|23=>28|n=>n,fun n=>n⟩
theorem lay_slices_Clone_ints_int:SlLaysE0.n41 Tryz.prog ren_slices_Clone_ints_int:={
 mixed:=by kernel_rfl
 f41:=⟨Tryz.f95.name,by kernel_rfl,Tryz.func95.trans (congrArg some (by kernel_rfl))⟩
 t4:=Tryz.underlying4
 a4:=Tryz.isAgg4
 z4:=Tryz.sizeOf4
 v4:=Tryz.zeroValue4
 t22:=Tryz.underlying29
 a22:=Tryz.isAgg29
 z22:=Tryz.sizeOf29
 v22:=Tryz.zeroValue29}
def Nn6:Fun:=F_cloneD
theorem N172:Sound Tryz.prog 95 Nn6:=cloneD_sound lay_slices_Clone_ints_int (infoOf (Tryz.prog.info? 28)) (.slice none 0 0) 24 (by kernel_rfl) (by kernel_rfl) (by kernel_rfl) (by kernel_rfl) (by kernel_rfl) (by decide) Tryz.sizeOf28
def Nga:Ann:=(.seq (.leaf [2,3,4]) (.seq (.leaf [2,4,6]) (.seq (.seq (.leaf [2,4,6,20]) (.cond (.seq (.leaf [4,5]) (.leaf [4,5])) (.leaf [2,4,6]))) (.seq (.draw [2,5] [0,1,3,4,5,2,6,7] [] [4,6,7]) (.seq (.leaf [4,5]) (.leaf [4,5]))))))
noncomputable def Ne6:Ctx:=⟨tlook tys,olook [(93,Nhf),(39,N19),(29,N3n),(94,Ndi),(95,Nn6)],ioF,0,true,[]⟩
theorem N16u (a:List Int) (b:List (List Int)) (c d g:Int):Link Ne6 LL (bodyOf Tryz.f58) Nga ⟨mkE 41 0 [(0,.agg [dL a,.dat (.list (.list (.int .i64))) b]),(1,.agg [dI c,dI d,dI g])],[]⟩ (N7a a b c d g) (fun(t:Bool×(List Int)×(List (List Int)))=>(Exit.ret,⟨mkE 41 0 [(4,.ptr 0 0),(5,dB t.1)],[some (.box [.slc 1,.slc 2]),some (sI t.2.1),some (.nest (.int .i64) t.2.2 0 [])]⟩)):= .of fun K h=>by
 simp only[N7a,wpW] at h
 exact .of (by kernel_rfl) h
theorem Nrh (a:List Int) (b:List (List Int)) (c d g:Int) {r:AV} {H':Heap} (h:(Ans.mk _ (N3l a b c d g) (fun(t:Bool×(List Int)×(List (List Int)))=>(.tup [.agg [.slc 1,.slc 2],dB t.1],[some (.box [.slc 1,.slc 2]),some (sI t.2.1),some (.nest (.int .i64) t.2.2 0 [])])) [] none).run=some (r,H')):Awp Ne6 LL (bodyOf Tryz.f58) Nga ⟨mkE 41 0 [(0,.agg [dL a,.dat (.list (.list (.int .i64))) b]),(1,.agg [dI c,dI d,dI g])],[]⟩ (Ret (tlook tys) Tryz.f58.results.toList r H'):=
 ret_of' (N16u a b c d g) (by unfold N3l;kernel_rfl) (by
 intro t
 exact ret_mk [.agg [.slc 1,.slc 2],dB t.1] (by kernel_rfl) (by kernel_rfl) (by kernel_rfl) (by kernel_rfl)) h
def Nfh:Fun:=fun avs H=>
 match avs,H with
 |[.agg [.dat (.list (.int .i64)) a,.dat (.list (.list (.int .i64))) b],.agg [.dat (.int .i64) c,.dat (.int .i64) d,.dat (.int .i64) g]],[]=>⟨_,N3l a b c d g,fun(t:Bool×(List Int)×(List (List Int)))=>(.tup [.agg [.slc 1,.slc 2],dB t.1],[some (.box [.slc 1,.slc 2]),some (sI t.2.1),some (.nest (.int .i64) t.2.2 0 [])]),[],none⟩
 |_,_=>Ans.no
theorem Nqt:Sound Tryz.prog 58 Nfh:=by
 refine fn_sound' (C:=Ne6) (c:=bodyOf Tryz.f58) (cok_of tys_ok (allc Nq4 (allc N2k (allc N6x (allc Nyq (allc N172 alln))))) (allc Tryz.call93 (allc Tryz.call39 (allc Tryz.call29 (allc Tryz.call94 (allc Tryz.call95 alln))))) (by kernel_rfl)) Tryz.func58 (by kernel_rfl) LL Nga ?_
 intro avs H r H' h
 unfold Nfh at h
 split at h
 ·refine Awp.cast ?_ ?_ ?_ (Nrh _ _ _ _ _ h)<;>kernel_rfl
 ·simp[Ans.no,Ans.run] at h
def Nha:Ann:=(.seq (.leaf [2,3,4]) (.seq (.seq (.leaf [2,3,4,8]) (.cond (.seq (.leaf [4,5]) (.leafF [⟨0,4,false,some 0,some (.int .i64)⟩,⟨0,4,true,some 1,some (.int .i64)⟩] [4,5])) (.leaf [2,3,4]))) (.seq (.seq (.leaf [2,3,4,12]) (.cond (.seq (.leaf [4,5]) (.leaf [4,5])) (.leaf [2,3,4]))) (.seq (.seq (.leaf [2,3,4,20]) (.cond (.seq (.leaf [4,5]) (.leaf [4,5])) (.leaf [2,3,4]))) (.seq (.leaf [4,5]) (.leaf [4,5]))))))
noncomputable def Ndg:Ctx:=⟨tlook tys,olook [(28,N7h),(56,Nbw),(29,N3n),(57,New),(58,Nfh)],ioF,0,true,[]⟩
theorem N133 (a:List Int) (b:List (List Int)) (c d g:Int):Link Ndg LL (bodyOf Tryz.f31) Nha ⟨mkE 30 0 [(0,.agg [dL a,.dat (.list (.list (.int .i64))) b]),(1,.agg [dI c,dI d,dI g])],[]⟩ (N6l a b c d g) (fun(t:Bool×(List Int)×(List (List Int)))=>(Exit.ret,⟨mkE 30 0 [(4,.ptr 0 0),(5,dB t.1)],[some (.box [.slc 1,.slc 2]),some (sI t.2.1),some (.nest (.int .i64) t.2.2 0 [])]⟩)):= .of fun K h=>by
 simp only[N6l,wpW] at h
 exact .of (by kernel_rfl) h
theorem Nx1 (a:List Int) (b:List (List Int)) (c d g:Int) {r:AV} {H':Heap} (h:(Ans.mk _ (N2q a b c d g) (fun(t:Bool×(List Int)×(List (List Int)))=>(.tup [.agg [.slc 1,.slc 2],dB t.1],[some (.box [.slc 1,.slc 2]),some (sI t.2.1),some (.nest (.int .i64) t.2.2 0 [])])) [] none).run=some (r,H')):Awp Ndg LL (bodyOf Tryz.f31) Nha ⟨mkE 30 0 [(0,.agg [dL a,.dat (.list (.list (.int .i64))) b]),(1,.agg [dI c,dI d,dI g])],[]⟩ (Ret (tlook tys) Tryz.f31.results.toList r H'):=
 ret_of' (N133 a b c d g) (by unfold N2q;kernel_rfl) (by
 intro t
 exact ret_mk [.agg [.slc 1,.slc 2],dB t.1] (by kernel_rfl) (by kernel_rfl) (by kernel_rfl) (by kernel_rfl)) h
def N9s:Fun:=fun avs H=>
 match avs,H with
 |[.agg [.dat (.list (.int .i64)) a,.dat (.list (.list (.int .i64))) b],.agg [.dat (.int .i64) c,.dat (.int .i64) d,.dat (.int .i64) g]],[]=>⟨_,N2q a b c d g,fun(t:Bool×(List Int)×(List (List Int)))=>(.tup [.agg [.slc 1,.slc 2],dB t.1],[some (.box [.slc 1,.slc 2]),some (sI t.2.1),some (.nest (.int .i64) t.2.2 0 [])]),[],none⟩
 |_,_=>Ans.no
theorem Nmb:Sound Tryz.prog 31 N9s:=by
 refine fn_sound' (C:=Ndg) (c:=bodyOf Tryz.f31) (cok_of tys_ok (allc Niw (allc Nlt (allc N6x (allc Nyb (allc Nqt alln))))) (allc Tryz.call28 (allc Tryz.call56 (allc Tryz.call29 (allc Tryz.call57 (allc Tryz.call58 alln))))) (by kernel_rfl)) Tryz.func31 (by kernel_rfl) LL Nha ?_
 intro avs H r H' h
 unfold N9s at h
 split at h
 ·refine Awp.cast ?_ ?_ ?_ (Nx1 _ _ _ _ _ h)<;>kernel_rfl
 ·simp[Ans.no,Ans.run] at h
def Nfn:Ann:=(.seq (.leaf [1,2,4]) (.seq (.seq (.leaf [1,2,4,12]) (.cond (.seq (.leaf [4,5]) (.leafF [⟨0,4,false,some 0,some (.int .i64)⟩,⟨0,4,true,some 1,some (.int .i64)⟩] [4,5])) (.leaf [1,2,4]))) (.seq (.leaf [1,2,4,6,7]) (.seq (.seq (.leaf [1,2,4,6,20]) (.cond (.seq (.draw [4,7] [0,1,2,3,5,6,4,7,8,9] [] [4,5]) (.leaf [4,5])) (.leaf [2,4,6]))) (.seq (.leaf [4,8,9]) (.seq (.seq (.leaf [4,8,36]) (.cond (.seq (.leaf [4,5]) (.leaf [4,5])) (.leaf [4,8]))) (.seq (.leaf [4,5]) (.leaf [4,5]))))))))
noncomputable def Nev:Ctx:=⟨tlook tys,olook [(28,N7h),(22,Ncm),(29,N3n),(31,N9s)],ioF,0,true,[]⟩
theorem Ns5 (a:List Int) (b:List (List Int)) (c:ByteArray):Link Nev LL (bodyOf Tryz.f10) Nfn ⟨mkE 39 0 [(0,.agg [dL a,.dat (.list (.list (.int .i64))) b]),(1,dS c)],[]⟩ (N72 a b c) (fun(t:ByteArray×(List Int)×(List (List Int)))=>(Exit.ret,⟨mkE 39 0 [(4,.ptr 0 0),(5,dS t.1)],[some (.box [.slc 1,.slc 2]),some (sI t.2.1),some (.nest (.int .i64) t.2.2 0 [])]⟩)):= .of fun K h=>by
 simp only[N72,wpW,wpO_none] at h
 exact .of (by kernel_rfl) h
theorem Nvp (a:List Int) (b:List (List Int)) (c:ByteArray) {r:AV} {H':Heap} (h:(Ans.mk _ (N1v a b c) (fun(t:ByteArray×(List Int)×(List (List Int)))=>(.tup [.agg [.slc 1,.slc 2],dS t.1],[some (.box [.slc 1,.slc 2]),some (sI t.2.1),some (.nest (.int .i64) t.2.2 0 [])])) [] none).run=some (r,H')):Awp Nev LL (bodyOf Tryz.f10) Nfn ⟨mkE 39 0 [(0,.agg [dL a,.dat (.list (.list (.int .i64))) b]),(1,dS c)],[]⟩ (Ret (tlook tys) Tryz.f10.results.toList r H'):=
 ret_of' (Ns5 a b c) (by unfold N1v;kernel_rfl) (by
 intro t
 exact ret_mk [.agg [.slc 1,.slc 2],dS t.1] (by kernel_rfl) (by kernel_rfl) (by kernel_rfl) (by kernel_rfl)) h
def Ndb:Fun:=fun avs H=>
 match avs,H with
 |[.agg [.dat (.list (.int .i64)) a,.dat (.list (.list (.int .i64))) b],.dat .str c],[]=>⟨_,N1v a b c,fun(t:ByteArray×(List Int)×(List (List Int)))=>(.tup [.agg [.slc 1,.slc 2],dS t.1],[some (.box [.slc 1,.slc 2]),some (sI t.2.1),some (.nest (.int .i64) t.2.2 0 [])]),[],none⟩
 |_,_=>Ans.no
theorem Nrn:Sound Tryz.prog 10 Ndb:=by
 refine fn_sound' (C:=Nev) (c:=bodyOf Tryz.f10) (cok_of tys_ok (allc Niw (allc Noz (allc N6x (allc Nmb alln)))) (allc Tryz.call28 (allc Tryz.call22 (allc Tryz.call29 (allc Tryz.call31 alln)))) (by kernel_rfl)) Tryz.func10 (by kernel_rfl) LL Nfn ?_
 intro avs H r H' h
 unfold Ndb at h
 split at h
 ·refine Awp.cast ?_ ?_ ?_ (Nvp _ _ _ h)<;>kernel_rfl
 ·simp[Ans.no,Ans.run] at h
def Nv:Ann:=(.seq (.leaf [1,2,4]) (.seq (.seq (.leaf [1,2,4,19]) (.cond (.seq (.leaf [4,5]) (.leafF [⟨0,4,false,some 0,some (.int .i64)⟩,⟨0,4,true,some 1,some (.int .i64)⟩] [4,5])) (.leaf [1,2,4]))) (.seq (.leaf [1,4,6,7]) (.seq (.seq (.leaf [4,6,7,26,27,28]) (.block (.loop (.seq (.leaf [4,6,7,26,27,28,29]) (.seq (.cond (.leaf [4,6,7,26,27,28]) (.leaf [4,6,7])) (.seq (.block (.seq (.leaf [4,6,7,9,26,27,28]) (.seq (.leaf [4,6,7,10,11,26,27,28]) (.seq (.leaf [4,6,7,10,26,27,28,38]) (.cond (.seq (.leaf [4,6,7,26,27,28]) (.leaf [4,6,7,26,27,28])) (.leaf [4,6,7,26,27,28])))))) (.leaf [4,6,7,26,27,28]))))))) (.seq (.leaf [4,5]) (.leaf [4,5]))))))
noncomputable def N5j:Ctx:=⟨tlook tys,olook [(28,N7h),(29,N3n),(31,N9s)],ioF,0,true,[]⟩
theorem N17e (a:List Int) (b:List (List Int)) (c:List (Int×Int×Int×Unit)):Link N5j LL (Code.seq (cq [0] (bodyOf Tryz.f12)) (Code.seq (cq [0,1] (bodyOf Tryz.f12)) (cq [0,1,1] (bodyOf Tryz.f12)))) (Ann.seq (aq [0] Nv) (Ann.seq (aq [0,1] Nv) (aq [0,1,1] Nv))) ⟨mkE 45 0 [(0,.agg [dL a,.dat (.list (.list (.int .i64))) b]),(1,.dat (.list (.pair (.int .i64) (.pair (.int .i64) (.pair (.int .i64) .unit)))) c)],[]⟩ (Nc3 a b c) (Sum.elim (fun(t:(List Int)×(List (List Int)))=>(Exit.normal,⟨mkE 45 0 [(1,.dat (.list (.pair (.int .i64) (.pair (.int .i64) (.pair (.int .i64) .unit)))) c),(4,.ptr 0 0),(6,.ptr 1 0),(7,dI 0)],[some (.box [.nils,.nils]),some (.box [.slc 2,.slc 3]),some (sI t.1),some (.nest (.int .i64) t.2 0 [])]⟩)) (fun(t:Int×(List Int)×(List (List Int)))=>(Exit.ret,⟨mkE 45 0 [(4,.ptr 0 0),(5,dI t.1)],[some (.box [.slc 1,.slc 2]),some (sI t.2.1),some (.nest (.int .i64) t.2.2 0 [])]⟩))):= .of fun K h=>by
 simp only[Nc3,wpW] at h
 exact .of (by kernel_rfl) h
theorem N134 (a:List (Int×Int×Int×Unit)) (b:List Int) (c:List (List Int)):Link N5j LL (cq [0,0,1,1,1] (bodyOf Tryz.f12)) (aq [0,0,1,1,1] Nv) ⟨mkE 45 0 [(1,.dat (.list (.pair (.int .i64) (.pair (.int .i64) (.pair (.int .i64) .unit)))) a),(4,.ptr 0 0),(6,.ptr 1 0),(7,dI 0)],[some (.box [.nils,.nils]),some (.box [.slc 2,.slc 3]),some (sI b),some (.nest (.int .i64) c 0 [])]⟩ (N9j a) (fun(t:Int)=>(Exit.normal,⟨mkE 45 0 [(4,.ptr 0 0),(6,.ptr 1 0),(7,dI 0),(26,.dat (.list (.pair (.int .i64) (.pair (.int .i64) (.pair (.int .i64) .unit)))) a),(27,dI t),(28,dI 0)],[some (.box [.nils,.nils]),some (.box [.slc 2,.slc 3]),some (sI b),some (.nest (.int .i64) c 0 [])]⟩)):= .of fun K h=>by
 simp only[N9j,wpW] at h
 exact .of (by kernel_rfl) h
theorem N11v (a:Int) (b:List (Int×Int×Int×Unit)) (c d:Int) (g:List Int) (i:List (List Int)):Link N5j LL (cq [0,0,1,0,1,1,1] (bodyOf Tryz.f12)) (aq [0,0,1,0,1,1,1] Nv) ⟨mkE 45 0 [(4,.ptr 0 0),(6,.ptr 1 0),(7,dI a),(26,.dat (.list (.pair (.int .i64) (.pair (.int .i64) (.pair (.int .i64) .unit)))) b),(27,dI c),(28,dI d)],[some (.box [.nils,.nils]),some (.box [.slc 2,.slc 3]),some (sI g),some (.nest (.int .i64) i 0 [])]⟩ (N4d a b c d g i) (Sum.elim (fun(t:Int×Int×(List Int)×(List (List Int)))=>(Exit.normal,⟨mkE 45 0 [(4,.ptr 0 0),(6,.ptr 1 0),(7,dI t.1),(26,.dat (.list (.pair (.int .i64) (.pair (.int .i64) (.pair (.int .i64) .unit)))) b),(27,dI c),(28,dI t.2.1)],[some (.box [.nils,.nils]),some (.box [.slc 2,.slc 3]),some (sI t.2.2.1),some (.nest (.int .i64) t.2.2.2 0 [])]⟩)) (fun(t:Int×(List Int)×(List (List Int)))=>((Exit.exit 0),⟨mkE 45 0 [(4,.ptr 0 0),(6,.ptr 1 0),(7,dI t.1)],[some (.box [.nils,.nils]),some (.box [.slc 2,.slc 3]),some (sI t.2.1),some (.nest (.int .i64) t.2.2 0 [])]⟩))):= .of fun K h=>by
 simp only[N4d,wpW] at h
 exact .of (by kernel_rfl) h
theorem N189 (a:Int) (b:List Int) (c:List (List Int)):Link N5j LL (cq [1,1,1,1] (bodyOf Tryz.f12)) (aq [1,1,1,1] Nv) ⟨mkE 45 0 [(4,.ptr 0 0),(6,.ptr 1 0),(7,dI a)],[some (.box [.nils,.nils]),some (.box [.slc 2,.slc 3]),some (sI b),some (.nest (.int .i64) c 0 [])]⟩ (N9v a b c) (fun(t:Int×(List Int)×(List (List Int)))=>(Exit.ret,⟨mkE 45 0 [(4,.ptr 0 0),(5,dI t.1)],[some (.box [.slc 1,.slc 2]),some (sI t.2.1),some (.nest (.int .i64) t.2.2 0 [])]⟩)):= .of fun K h=>by
 simp only[N9v,wpW] at h
 exact .of (by kernel_rfl) h
theorem Nz1 (b:List Int) (d:List (List Int)) (g:List (Int×Int×Int×Unit)) {r:AV} {H':Heap} (h:(Ans.mk _ (N29 b d g) (fun(t:Int×(List Int)×(List (List Int)))=>(.tup [.agg [.slc 1,.slc 2],dI t.1],[some (.box [.slc 1,.slc 2]),some (sI t.2.1),some (.nest (.int .i64) t.2.2 0 [])])) [] none).run=some (r,H')):Awp N5j LL (bodyOf Tryz.f12) Nv ⟨mkE 45 0 [(0,.agg [dL b,.dat (.list (.list (.int .i64))) d]),(1,.dat (.list (.pair (.int .i64) (.pair (.int .i64) (.pair (.int .i64) .unit)))) g)],[]⟩ (Ret (tlook tys) Tryz.f12.results.toList r H'):=
 ret_of' (Link.cast (by kernel_rfl) (by kernel_rfl) (link_group (c:=(cq [0,1,1] (bodyOf Tryz.f12))) (a:=(aq [0,1,1] Nv)) [(cq [0] (bodyOf Tryz.f12)),(cq [0,1] (bodyOf Tryz.f12))] [(aq [0] Nv),(aq [0,1] Nv)] rfl (link_seq2 (N17e b d g) (fun(t:(List Int)×(List (List Int)))=>(link_seq (link_seq (N134 g t.1 t.2) (fun(t37:Int)=>(link_block (fin2:=(fun(t21:Int×(List Int)×(List (List Int)))=>(Exit.normal,⟨mkE 45 0 [(4,.ptr 0 0),(6,.ptr 1 0),(7,dI t21.1)],[some (.box [.nils,.nils]),some (.box [.slc 2,.slc 3]),some (sI t21.2.1),some (.nest (.int .i64) t21.2.2 0 [])]⟩))) (id:=0) (link_loop (mk:=fun(s:Int×Int×(List Int)×(List (List Int)))=>⟨mkE 45 0 [(4,.ptr 0 0),(6,.ptr 1 0),(7,dI s.1),(26,.dat (.list (.pair (.int .i64) (.pair (.int .i64) (.pair (.int .i64) .unit)))) g),(27,dI t37),(28,dI s.2.1)],[some (.box [.nils,.nils]),some (.box [.slc 2,.slc 3]),some (sI s.2.2.1),some (.nest (.int .i64) s.2.2.2 0 [])]⟩) (fin:=(fun(t21:Int×(List Int)×(List (List Int)))=>((Exit.exit 0),⟨mkE 45 0 [(4,.ptr 0 0),(6,.ptr 1 0),(7,dI t21.1)],[some (.box [.nils,.nils]),some (.box [.slc 2,.slc 3]),some (sI t21.2.1),some (.nest (.int .i64) t21.2.2 0 [])]⟩))) (by
 rintro t21 f K h
 ·exact h) (fun s=>link_map (N11v s.1 g t37 s.2.1 s.2.2.1 s.2.2.2) (Sum.elim (fun(t21:Int×Int×(List Int)×(List (List Int)))=>Sum.inl (t21.1,t21.2.1,t21.2.2.1,t21.2.2.2)) (fun(t21:Int×(List Int)×(List (List Int)))=>Sum.inr t21)) (by
 rintro(t21|t21)
 ·kernel_rfl
 ·kernel_rfl)) (0,0,t.1,t.2)) (fun(t21:Int×(List Int)×(List (List Int)))=>(t21.1,t21.2.1,t21.2.2)) (by
 rintro t21 K h
 ·exact Eq.mp (by kernel_rfl) h)))) (fun(t37:Int×(List Int)×(List (List Int)))=>(N189 t37.1 t37.2.1 t37.2.2)))) (fun(t:Int×(List Int)×(List (List Int)))=>t) (by
 rintro t
 ·kernel_rfl) (by
 rintro t f K h
 ·exact h)))) (by unfold N29;kernel_rfl) (by
 intro t
 exact ret_mk [.agg [.slc 1,.slc 2],dI t.1] (by kernel_rfl) (by kernel_rfl) (by kernel_rfl) (by kernel_rfl)) h
def Ngc:Fun:=fun avs H=>
 match avs,H with
 |[.agg [.dat (.list (.int .i64)) a,.dat (.list (.list (.int .i64))) b],.dat (.list (.pair (.int .i64) (.pair (.int .i64) (.pair (.int .i64) .unit)))) c],[]=>⟨_,N29 a b c,fun(t:Int×(List Int)×(List (List Int)))=>(.tup [.agg [.slc 1,.slc 2],dI t.1],[some (.box [.slc 1,.slc 2]),some (sI t.2.1),some (.nest (.int .i64) t.2.2 0 [])]),[],none⟩
 |_,_=>Ans.no
theorem Nyi:Sound Tryz.prog 12 Ngc:=by
 refine fn_sound' (C:=N5j) (c:=bodyOf Tryz.f12) (cok_of tys_ok (allc Niw (allc N6x (allc Nmb alln))) (allc Tryz.call28 (allc Tryz.call29 (allc Tryz.call31 alln))) (by kernel_rfl)) Tryz.func12 (by kernel_rfl) LL Nv ?_
 intro avs H r H' h
 unfold Ngc at h
 split at h
 ·refine Awp.cast ?_ ?_ ?_ (Nz1 _ _ _ h)<;>kernel_rfl
 ·simp[Ans.no,Ans.run] at h
def ren_impl_JournalText:Go.Shelf.Ren:=⟨fun|166=>35|169=>36|240=>60|276=>97|n=>n,fun|0=>0|3=>3|4=>4|5=>5|9=>9|20=>20|37=>22|70=>65|72=>67|75=>69|80=>72|127=>94|164=>108|n=>n,fun|n=>n⟩
theorem lay_impl_JournalText_w:Lays.n166 Tryz.prog ren_impl_JournalText:={
 mixed:=by kernel_rfl
 f166:=Tryz.func35.trans (congrArg some (by kernel_rfl))
 f240:=Tryz.func60.trans (congrArg some (by kernel_rfl))
 f276:=Tryz.func97.trans (congrArg some (by kernel_rfl))
 t0:=Tryz.underlying0
 a0:=Tryz.isAgg0
 z0:=Tryz.sizeOf0
 v0:=Tryz.zeroValue0
 t3:=Tryz.underlying3
 a3:=Tryz.isAgg3
 z3:=Tryz.sizeOf3
 v3:=Tryz.zeroValue3
 t4:=Tryz.underlying4
 a4:=Tryz.isAgg4
 z4:=Tryz.sizeOf4
 v4:=Tryz.zeroValue4
 t9:=Tryz.underlying9
 a9:=Tryz.isAgg9
 z9:=Tryz.sizeOf9
 v9:=Tryz.zeroValue9
 t20:=Tryz.underlying20
 a20:=Tryz.isAgg20
 z20:=Tryz.sizeOf20
 v20:=Tryz.zeroValue20
 t37:=Tryz.underlying22
 a37:=Tryz.isAgg22
 z37:=Tryz.sizeOf22
 v37:=Tryz.zeroValue22
 t70:=Tryz.underlying65
 a70:=Tryz.isAgg65
 z70:=Tryz.sizeOf65
 v70:=Tryz.zeroValue65
 t72:=Tryz.underlying67
 a72:=Tryz.isAgg67
 z72:=Tryz.sizeOf67
 v72:=Tryz.zeroValue67
 t75:=Tryz.underlying69
 a75:=Tryz.isAgg69
 z75:=Tryz.sizeOf69
 v75:=Tryz.zeroValue69
 t164:=Tryz.underlying108
 a164:=Tryz.isAgg108
 z164:=Tryz.sizeOf108
 v164:=Tryz.zeroValue108}
theorem lay_impl_JournalText_s:Lays.n169 Tryz.prog ren_impl_JournalText:={
 mixed:=by kernel_rfl
 f169:=Tryz.func36.trans (congrArg some (by kernel_rfl))
 t0:=Tryz.underlying0
 a0:=Tryz.isAgg0
 z0:=Tryz.sizeOf0
 v0:=Tryz.zeroValue0
 t3:=Tryz.underlying3
 a3:=Tryz.isAgg3
 z3:=Tryz.sizeOf3
 v3:=Tryz.zeroValue3
 t9:=Tryz.underlying9
 a9:=Tryz.isAgg9
 z9:=Tryz.sizeOf9
 v9:=Tryz.zeroValue9
 t37:=Tryz.underlying22
 a37:=Tryz.isAgg22
 z37:=Tryz.sizeOf22
 v37:=Tryz.zeroValue22
 t70:=Tryz.underlying65
 a70:=Tryz.isAgg65
 z70:=Tryz.sizeOf65
 v70:=Tryz.zeroValue65
 t72:=Tryz.underlying67
 a72:=Tryz.isAgg67
 z72:=Tryz.sizeOf67
 v72:=Tryz.zeroValue67
 t127:=Tryz.underlying94
 a127:=Tryz.isAgg94
 z127:=Tryz.sizeOf94
 v127:=Tryz.zeroValue94}
theorem lay_impl_JournalText_x:Builder.Extra Tryz.prog ren_impl_JournalText:={
 sizeBuilder:=by kernel_rfl
 liesBuilder:=by kernel_rfl
 t5:=Tryz.underlying5
 a5:=Tryz.isAgg5
 z5:=Tryz.sizeOf5
 v5:=Tryz.zeroValue5
 infoByte:=by kernel_rfl
 cellsByte:=by kernel_rfl
 sizeByte:=by kernel_rfl
 neB5:=by decide}
set_option maxRecDepth 100000 in
theorem Ns8 (xs:List DeedV) (a:Option Addr) (cap:Nat) (t:ByteArray) (w:World)
  (hD0: ∀(d:DeedV) (s:ByteArray) (w':World),(fun d:DeedV=>N3 d.1 d.2.1 d.2.2.1) d=some s→Go.RowKit.Below w.heap.size w w'→Calls Tryz.prog 11 #[deedVal d] w' fun e w''=>e= .returned (.string s)∧Go.RowKit.Below w'.heap.size w' w'')
  (hc0:DeedCells w a xs) (hn:xs.length≤1099511627776) (hcap:xs.length≤cap) (ht0:jtext (fun d:DeedV=>N3 d.1 d.2.1 d.2.2.1) xs ByteArray.empty=some t):
  Calls Tryz.prog 13 #[.slice a xs.length cap] w fun e w'=>e= .returned (.string t)∧Go.RowKit.Below w.heap.size w w':=by
 generalize (fun d:DeedV=>N3 d.1 d.2.1 d.2.2.1)=g at hD0 ht0
 have HC:Go.RowKit.Hid (DeedCells w a xs):=hc0
 have HD:Go.RowKit.Hid (∀(d:DeedV) (s:ByteArray) (w':World),g d=some s→Go.RowKit.Below w.heap.size w w'→Calls Tryz.prog 11 #[deedVal d] w' fun e w''=>e= .returned (.string s)∧Go.RowKit.Below w'.heap.size w' w''):=hD0
 have HT:Go.RowKit.Hid (jtext g xs ByteArray.empty=some t):=ht0
 clear hc0 hD0 ht0
 go_enter Tryz.func13,Tryz.ntmps13
 go_wp2_with fail
 go_loopw [9] (fun i wr=> ∃k:Nat,k≤xs.length∧i= .int .i64 k∧Go.RowKit.Hid (∃acc,jtext g (xs.drop k) acc=some t∧Lib.IsBuilderF 67 5 w.heap.size w.heap.size (Lib.byteCells acc.data.toList) wr)∧Go.RowKit.Hid (Go.RowKit.Below w.heap.size w wr)) (fun i _=>xs.length-(Go.RowKit.intOf i).toNat)
 case atStart=>exact⟨0,Nat.zero_le _,rfl,⟨ByteArray.empty,HT.out,bld_new w⟩,(Go.RowKit.Below.refl _ _).alloc (Nat.le_refl _) _⟩
 case round=>
  obtain⟨k,hk,rfl,HA,HW⟩:=hrel
  by_cases hkn:k<xs.length
  ·obtain⟨acc,hj,hB⟩:=HA.out
   have hd:xs[k]? =some xs[k]:=List.getElem?_eq_getElem hkn
   obtain⟨b,o,rfl,hb,c0,c1,c2⟩:=HC.out k _ hd
   rw[←HW.out.cell (p:=⟨b,_,none⟩) hb] at c0 c1 c2
   rw[List.drop_eq_getElem_cons hkn,jtext] at hj
   generalize xs[k]=d at hd c0 c1 c2 hj
   obtain⟨s,hs,hj⟩:=Option.bind_eq_some_iff.1 hj
   have Hj:=(show Go.RowKit.Hid _ from hj)
   clear hj
   go_wp2_with fail
   refine Calls.mono (HD.out d s _ hs (HW.out.alloc HW.out.size _)) ?_
   rintro e w1 ⟨rfl,hb1⟩
   have HB1:Go.RowKit.Hid (Lib.IsBuilderF 67 5 w.heap.size w.heap.size (Lib.byteCells acc.data.toList) w1):=bld_keep hB (fun q hq=>(hb1.block q (by simp;omega)).trans (Go.RowKit.Below.heap_alloc _ _ _ hq))
   have HW1:Go.RowKit.Hid (Go.RowKit.Below w.heap.size w w1):=(HW.out.alloc HW.out.size _).trans (hb1.mono (by have:=HW.out.size;simp;omega))
   clear hb1
   by_cases hse:s=ByteArray.empty
   ·subst hse
    have ht:t=ByteArray.empty:=by
     have:=Hj.out
     rw[if_pos rfl] at this
     exact(Option.some.inj this).symm
    subst ht
    go_wp2_with fail
    go_ret
    exact⟨rfl,HW1.out⟩
   ·have hj:=Hj.out
    rw[if_neg hse] at hj
    split at hj
    ·rename_i hsz
     have hemp:s.toList.isEmpty=false:=by
      rw[Bool.eq_false_iff]
      intro h
      rw[List.isEmpty_iff,Lib.toList_data] at h
      exact hse (ByteArray.ext (Array.toList_inj.mp h))
     have hle: ¬9223372036854775807<s.size+1:=by omega
     have hal:(Lib.byteCells acc.data.toList).length=acc.size:=by rw[Lib.byteCells_length,Lib.size_eq]
     have cW:=Any.Builder_WriteString_k lay_impl_JournalText_w lay_impl_JournalText_x w.heap.size w.heap.size (Lib.byteCells acc.data.toList) (s++ByteArray.mk #[10]) w1 HB1.out (by rw[hal,ByteArray.size_append];exact hsz.2) HW1.out.size
     have hnext:Lib.byteCells acc.data.toList++Lib.strCells (s++ByteArray.mk #[10])=Lib.byteCells (acc++(s++ByteArray.mk #[10])).data.toList:=by
      rw[Lib.strCells_eq,←Lib.byteCells_append,show(acc++(s++ByteArray.mk #[10])).data=acc.data++(s++ByteArray.mk #[10]).data from ByteArray.data_append,Array.toList_append]
     rw[hnext] at cW
     have Hj2:=(show Go.RowKit.Hid _ from hj)
     have HCW:=(show Go.RowKit.Hid _ from cW)
     clear hj cW hnext hal
     go_wp2_with fail
     refine Calls.mono HCW.out ?_
     rintro e w2 ⟨rfl,h2,hb2,_⟩
     have HB2:=(show Go.RowKit.Hid _ from h2)
     have HW2:=(show Go.RowKit.Hid _ from HW1.out.trans hb2)
     clear h2 hb2
     go_wp2
     go_roundw
     case rel=>exact⟨k+1,by omega,by go_num,⟨⟨_,Hj2.out,.inr HB2.out⟩,HW2⟩⟩
     case measure=>simp[Go.RowKit.intOf];omega
    ·cases hj
  ·have hke:k=xs.length:=by omega
   subst hke
   obtain⟨acc,hj,hB⟩:=HA.out
   rw[List.drop_eq_nil_of_le (Nat.le_refl _),jtext] at hj
   obtain rfl:=Option.some.inj hj
   have HCS:=(show Go.RowKit.Hid _ from Any.Builder_String_any_k lay_impl_JournalText_s lay_impl_JournalText_x w.heap.size w.heap.size acc.data.toList wr hB HW.out.size)
   clear hj
   go_wp2_with fail
   refine Calls.mono HCS.out ?_
   rintro e w2 ⟨rfl,_,hb2,_⟩
   have HW2:=(show Go.RowKit.Hid _ from HW.out.trans hb2)
   go_wp2
   go_ret
   exact⟨rfl,HW2.out⟩
def Nkr:Fun:=F_jtext (fun d:DeedV=>N3 d.1 d.2.1 d.2.2.1)
theorem N174:Sound Tryz.prog 13 Nkr:=jtext_sound (g:=(fun d:DeedV=>N3 d.1 d.2.1 d.2.2.1)) (fun _=>rfl) Ne1 Ns8
def Nho:Ann:=(.seq (.leaf []) (.seq (.leaf [0]) (.leaf [0])))
noncomputable def Ndt:Ctx:=⟨tlook tys,olook [(39,N19)],ioF,0,false,[]⟩
theorem Nsp:Link Ndt LL (bodyOf Tryz.f15) Nho ⟨mkE 8 0 [],[]⟩ (N8p) (fun(t:Bool)=>(Exit.ret,⟨mkE 8 0 [(0,dB t)],[]⟩)):= .of fun K h=>by
 simp only[N8p,wpW] at h
 exact .of (by kernel_rfl) h
theorem Npl {r:AV} {H':Heap} (h:(Ans.mk _ (N2p) (fun(t:Bool)=>(dB t,[])) [] none).run=some (r,H')):Awp Ndt LL (bodyOf Tryz.f15) Nho ⟨mkE 8 0 [],[]⟩ (Ret (tlook tys) Tryz.f15.results.toList r H'):=
 ret_of' (Nsp) (by unfold N2p;kernel_rfl) (by
 intro t
 exact ret_mk [dB t] (by kernel_rfl) (by kernel_rfl) (by kernel_rfl) (by kernel_rfl)) h
def Ndr:Fun:=fun avs H=>
 match avs,H with
 |[],[]=>⟨_,N2p,fun(t:Bool)=>(dB t,[]),[],none⟩
 |_,_=>Ans.no
theorem N18i:Sound Tryz.prog 15 Ndr:=by
 refine fn_sound' (C:=Ndt) (c:=bodyOf Tryz.f15) (cok_of tys_ok (allc N2k alln) (allc Tryz.call39 alln) (by kernel_rfl)) Tryz.func15 (by kernel_rfl) LL Nho ?_
 intro avs H r H' h
 unfold Ndr at h
 split at h
 ·refine Awp.cast ?_ ?_ ?_ (Npl h)<;>kernel_rfl
 ·simp[Ans.no,Ans.run] at h
def N1u:Ann:=(.seq (.leaf [0,1]) (.seq (.seq (.leaf [0,1,10]) (.cond (.seq (.leaf [4]) (.leaf [4])) (.leaf [0,1]))) (.seq (.seq (.leaf [0,1,5]) (.block (.loop (.seq (.seq (.leaf [0,1,5,14]) (.cond (.leaf [0,1,5]) (.leaf []))) (.seq (.block (.seq (.draw [] [0,1,2,3,4,5,6,7,8] [] [0,1,5,25]) (.cond (.seq (.leaf [4]) (.leaf [4])) (.leaf [0,1,5])))) (.leaf [0,1,5])))))) (.seq (.leaf [4]) (.leaf [4])))))
noncomputable def N66:Ctx:=⟨tlook tys,olook [],ioF,0,false,[]⟩
theorem N16d (a b:List Int):Link N66 LL (Code.seq (cq [0] (bodyOf Tryz.f37)) (cq [0,1] (bodyOf Tryz.f37))) (Ann.seq (aq [0] N1u) (aq [0,1] N1u)) ⟨mkE 26 0 [(0,dL a),(1,dL b)],[]⟩ (N8c a b) (Sum.elim (fun(t:Unit)=>(Exit.normal,⟨mkE 26 0 [(0,dL a),(1,dL b)],[]⟩)) (fun(t:Bool)=>(Exit.ret,⟨mkE 26 0 [(4,dB t)],[]⟩))):= .of fun K h=>by
 simp only[N8c,wpW] at h
 exact .of (by kernel_rfl) h
theorem N13n (a b:List Int):Link N66 LL (cq [0,0,1,1] (bodyOf Tryz.f37)) (aq [0,0,1,1] N1u) ⟨mkE 26 0 [(0,dL a),(1,dL b)],[]⟩ (Ncg) (fun(t:Unit)=>(Exit.normal,⟨mkE 26 0 [(0,dL a),(1,dL b),(5,dI 0)],[]⟩)):= .of fun K h=>by
 simp only[Ncg,wpW] at h
 exact .of (by kernel_rfl) h
theorem Nps (a b:List Int) (c:Int):Link N66 LL (cq [0,0,1,0,1,1] (bodyOf Tryz.f37)) (aq [0,0,1,0,1,1] N1u) ⟨mkE 26 0 [(0,dL a),(1,dL b),(5,dI c)],[]⟩ (N4p a b c) (Sum.elim (fun(t:Int)=>(Exit.normal,⟨mkE 26 0 [(0,dL a),(1,dL b),(5,dI t)],[]⟩)) (Sum.elim (fun(t:Bool)=>(Exit.ret,⟨mkE 26 0 [(4,dB t)],[]⟩)) (fun(t:Unit)=>((Exit.exit 0),⟨mkE 26 0 [],[]⟩)))):= .of fun K h=>by
 simp only[N4p,wpW] at h
 exact .of (by kernel_rfl) h
theorem N18b:Link N66 LL (cq [1,1,1] (bodyOf Tryz.f37)) (aq [1,1,1] N1u) ⟨mkE 26 0 [],[]⟩ (N96) (fun(t:Bool)=>(Exit.ret,⟨mkE 26 0 [(4,dB t)],[]⟩)):= .of fun K h=>by
 simp only[N96,wpW] at h
 exact .of (by kernel_rfl) h
theorem N156 (b d:List Int) {r:AV} {H':Heap} (h:(Ans.mk _ (N2s b d) (fun(t:Bool)=>(dB t,[])) [] none).run=some (r,H')):Awp N66 LL (bodyOf Tryz.f37) N1u ⟨mkE 26 0 [(0,dL b),(1,dL d)],[]⟩ (Ret (tlook tys) Tryz.f37.results.toList r H'):=
 ret_of' (Link.cast (by kernel_rfl) (by kernel_rfl) (link_group (c:=(cq [0,1] (bodyOf Tryz.f37))) (a:=(aq [0,1] N1u)) [(cq [0] (bodyOf Tryz.f37))] [(aq [0] N1u)] rfl (link_seq2 (N16d b d) (fun(t:Unit)=>(link_seq2 (link_seq (N13n b d) (fun(t:Unit)=>(link_block (fin2:=(Sum.elim (fun(t:Unit)=>(Exit.normal,⟨mkE 26 0 [],[]⟩)) (fun(t:Bool)=>(Exit.ret,⟨mkE 26 0 [(4,dB t)],[]⟩)))) (id:=0) (link_loop (mk:=fun(s:Int)=>⟨mkE 26 0 [(0,dL b),(1,dL d),(5,dI s)],[]⟩) (fin:=(Sum.elim (fun(t:Bool)=>(Exit.ret,⟨mkE 26 0 [(4,dB t)],[]⟩)) (fun(t:Unit)=>((Exit.exit 0),⟨mkE 26 0 [],[]⟩)))) (by
 rintro(t|t) f K h
 ·exact h
 ·exact h) (fun s=>link_map (Nps b d s) (Sum.elim (fun(t:Int)=>Sum.inl t) (Sum.elim (fun(t:Bool)=>Sum.inr (Sum.inl t)) (fun(t:Unit)=>Sum.inr (Sum.inr t)))) (by
 rintro(t|t|t)
 ·kernel_rfl
 ·kernel_rfl
 ·kernel_rfl)) 0) (Sum.elim (fun(t:Bool)=>(Sum.inr t)) (fun(t:Unit)=>(Sum.inl ()))) (by
 rintro(t|t) K h
 ·exact Eq.mp (by kernel_rfl) h
 ·exact Eq.mp (by kernel_rfl) h)))) (fun(t:Unit)=>(N18b)) (fun(t:Bool)=>t) (by
 rintro t
 ·kernel_rfl) (by
 rintro t f K h
 ·exact h))) (fun(t:Bool)=>t) (by
 rintro t
 ·kernel_rfl) (by
 rintro t f K h
 ·exact h)))) (by unfold N2s;kernel_rfl) (by
 intro t
 exact ret_mk [dB t] (by kernel_rfl) (by kernel_rfl) (by kernel_rfl) (by kernel_rfl)) h
def N9l:Fun:=fun avs H=>
 match avs,H with
 |[.dat (.list (.int .i64)) a,.dat (.list (.int .i64)) b],[]=>⟨_,N2s a b,fun(t:Bool)=>(dB t,[]),[],none⟩
 |_,_=>Ans.no
theorem Nms:Sound Tryz.prog 37 N9l:=by
 refine fn_sound' (C:=N66) (c:=bodyOf Tryz.f37) (cok_of tys_ok (alln) (alln) (by kernel_rfl)) Tryz.func37 (by kernel_rfl) LL N1u ?_
 intro avs H r H' h
 unfold N9l at h
 split at h
 ·refine Awp.cast ?_ ?_ ?_ (N156 _ _ h)<;>kernel_rfl
 ·simp[Ans.no,Ans.run] at h
def N1n:Ann:=(.seq (.leaf [0,1]) (.seq (.seq (.leaf [0,1,10]) (.cond (.seq (.leaf [4]) (.leaf [4])) (.leaf [0,1]))) (.seq (.seq (.leaf [0,1,5]) (.block (.loop (.seq (.seq (.leaf [0,1,5,14]) (.cond (.leaf [0,1,5]) (.leaf []))) (.seq (.block (.seq (.draw [8] [0,1,2,3,4,5,6,7,8,9] [] [0,1,5,26]) (.cond (.seq (.leaf [4]) (.leaf [4])) (.leaf [0,1,5])))) (.leaf [0,1,5])))))) (.seq (.leaf [4]) (.leaf [4])))))
noncomputable def N58:Ctx:=⟨tlook tys,olook [(37,N9l)],ioF,0,false,[]⟩
theorem N11e (a b:List (List Int)):Link N58 LL (Code.seq (cq [0] (bodyOf Tryz.f38)) (cq [0,1] (bodyOf Tryz.f38))) (Ann.seq (aq [0] N1n) (aq [0,1] N1n)) ⟨mkE 27 0 [(0,.dat (.list (.list (.int .i64))) a),(1,.dat (.list (.list (.int .i64))) b)],[]⟩ (N9p a b) (Sum.elim (fun(t:Unit)=>(Exit.normal,⟨mkE 27 0 [(0,.dat (.list (.list (.int .i64))) a),(1,.dat (.list (.list (.int .i64))) b)],[]⟩)) (fun(t:Bool)=>(Exit.ret,⟨mkE 27 0 [(4,dB t)],[]⟩))):= .of fun K h=>by
 simp only[N9p,wpW] at h
 exact .of (by kernel_rfl) h
theorem Nzr (a b:List (List Int)):Link N58 LL (cq [0,0,1,1] (bodyOf Tryz.f38)) (aq [0,0,1,1] N1n) ⟨mkE 27 0 [(0,.dat (.list (.list (.int .i64))) a),(1,.dat (.list (.list (.int .i64))) b)],[]⟩ (Nc4) (fun(t:Unit)=>(Exit.normal,⟨mkE 27 0 [(0,.dat (.list (.list (.int .i64))) a),(1,.dat (.list (.list (.int .i64))) b),(5,dI 0)],[]⟩)):= .of fun K h=>by
 simp only[Nc4,wpW] at h
 exact .of (by kernel_rfl) h
theorem N13z (a b:List (List Int)) (c:Int):Link N58 LL (cq [0,0,1,0,1,1] (bodyOf Tryz.f38)) (aq [0,0,1,0,1,1] N1n) ⟨mkE 27 0 [(0,.dat (.list (.list (.int .i64))) a),(1,.dat (.list (.list (.int .i64))) b),(5,dI c)],[]⟩ (N5p a b c) (Sum.elim (fun(t:Int)=>(Exit.normal,⟨mkE 27 0 [(0,.dat (.list (.list (.int .i64))) a),(1,.dat (.list (.list (.int .i64))) b),(5,dI t)],[]⟩)) (Sum.elim (fun(t:Bool)=>(Exit.ret,⟨mkE 27 0 [(4,dB t)],[]⟩)) (fun(t:Unit)=>((Exit.exit 0),⟨mkE 27 0 [],[]⟩)))):= .of fun K h=>by
 simp only[N5p,wpW] at h
 exact .of (by kernel_rfl) h
theorem N188:Link N58 LL (cq [1,1,1] (bodyOf Tryz.f38)) (aq [1,1,1] N1n) ⟨mkE 27 0 [],[]⟩ (N7x) (fun(t:Bool)=>(Exit.ret,⟨mkE 27 0 [(4,dB t)],[]⟩)):= .of fun K h=>by
 simp only[N7x,wpW] at h
 exact .of (by kernel_rfl) h
theorem N14m (b d:List (List Int)) {r:AV} {H':Heap} (h:(Ans.mk _ (N3f b d) (fun(t:Bool)=>(dB t,[])) [] none).run=some (r,H')):Awp N58 LL (bodyOf Tryz.f38) N1n ⟨mkE 27 0 [(0,.dat (.list (.list (.int .i64))) b),(1,.dat (.list (.list (.int .i64))) d)],[]⟩ (Ret (tlook tys) Tryz.f38.results.toList r H'):=
 ret_of' (Link.cast (by kernel_rfl) (by kernel_rfl) (link_group (c:=(cq [0,1] (bodyOf Tryz.f38))) (a:=(aq [0,1] N1n)) [(cq [0] (bodyOf Tryz.f38))] [(aq [0] N1n)] rfl (link_seq2 (N11e b d) (fun(t:Unit)=>(link_seq2 (link_seq (Nzr b d) (fun(t:Unit)=>(link_block (fin2:=(Sum.elim (fun(t:Unit)=>(Exit.normal,⟨mkE 27 0 [],[]⟩)) (fun(t:Bool)=>(Exit.ret,⟨mkE 27 0 [(4,dB t)],[]⟩)))) (id:=0) (link_loop (mk:=fun(s:Int)=>⟨mkE 27 0 [(0,.dat (.list (.list (.int .i64))) b),(1,.dat (.list (.list (.int .i64))) d),(5,dI s)],[]⟩) (fin:=(Sum.elim (fun(t:Bool)=>(Exit.ret,⟨mkE 27 0 [(4,dB t)],[]⟩)) (fun(t:Unit)=>((Exit.exit 0),⟨mkE 27 0 [],[]⟩)))) (by
 rintro(t|t) f K h
 ·exact h
 ·exact h) (fun s=>link_map (N13z b d s) (Sum.elim (fun(t:Int)=>Sum.inl t) (Sum.elim (fun(t:Bool)=>Sum.inr (Sum.inl t)) (fun(t:Unit)=>Sum.inr (Sum.inr t)))) (by
 rintro(t|t|t)
 ·kernel_rfl
 ·kernel_rfl
 ·kernel_rfl)) 0) (Sum.elim (fun(t:Bool)=>(Sum.inr t)) (fun(t:Unit)=>(Sum.inl ()))) (by
 rintro(t|t) K h
 ·exact Eq.mp (by kernel_rfl) h
 ·exact Eq.mp (by kernel_rfl) h)))) (fun(t:Unit)=>(N188)) (fun(t:Bool)=>t) (by
 rintro t
 ·kernel_rfl) (by
 rintro t f K h
 ·exact h))) (fun(t:Bool)=>t) (by
 rintro t
 ·kernel_rfl) (by
 rintro t f K h
 ·exact h)))) (by unfold N3f;kernel_rfl) (by
 intro t
 exact ret_mk [dB t] (by kernel_rfl) (by kernel_rfl) (by kernel_rfl) (by kernel_rfl)) h
def Nhu:Fun:=fun avs H=>
 match avs,H with
 |[.dat (.list (.list (.int .i64))) a,.dat (.list (.list (.int .i64))) b],[]=>⟨_,N3f a b,fun(t:Bool)=>(dB t,[]),[],none⟩
 |_,_=>Ans.no
theorem Nt3:Sound Tryz.prog 38 Nhu:=by
 refine fn_sound' (C:=N58) (c:=bodyOf Tryz.f38) (cok_of tys_ok (allc Nms alln) (allc Tryz.call37 alln) (by kernel_rfl)) Tryz.func38 (by kernel_rfl) LL N1n ?_
 intro avs H r H' h
 unfold Nhu at h
 split at h
 ·refine Awp.cast ?_ ?_ ?_ (N14m _ _ h)<;>kernel_rfl
 ·simp[Ans.no,Ans.run] at h
def Ndj:Ann:=(.seq (.leaf [2,3]) (.seq (.leaf [4]) (.leaf [4])))
noncomputable def Neb:Ctx:=⟨tlook tys,olook [(37,N9l),(38,Nhu)],ioF,0,false,[]⟩
theorem Nwl (a:List Int) (b:List (List Int)) (c:List Int) (d:List (List Int)):Link Neb LL (bodyOf Tryz.f14) Ndj ⟨mkE 17 0 [(0,.agg [dL a,.dat (.list (.list (.int .i64))) b]),(1,.agg [dL c,.dat (.list (.list (.int .i64))) d])],[]⟩ (N9a a b c d) (fun(t:Bool)=>(Exit.ret,⟨mkE 17 0 [(4,dB t)],[]⟩)):= .of fun K h=>by
 simp only[N9a,wpW] at h
 exact .of (by kernel_rfl) h
theorem Nqv (a:List Int) (b:List (List Int)) (c:List Int) (d:List (List Int)) {r:AV} {H':Heap} (h:(Ans.mk _ (N5n a b c d) (fun(t:Bool)=>(dB t,[])) [] none).run=some (r,H')):Awp Neb LL (bodyOf Tryz.f14) Ndj ⟨mkE 17 0 [(0,.agg [dL a,.dat (.list (.list (.int .i64))) b]),(1,.agg [dL c,.dat (.list (.list (.int .i64))) d])],[]⟩ (Ret (tlook tys) Tryz.f14.results.toList r H'):=
 ret_of' (Nwl a b c d) (by unfold N5n;kernel_rfl) (by
 intro t
 exact ret_mk [dB t] (by kernel_rfl) (by kernel_rfl) (by kernel_rfl) (by kernel_rfl)) h
def Nhl:Fun:=fun avs H=>
 match avs,H with
 |[.agg [.dat (.list (.int .i64)) a,.dat (.list (.list (.int .i64))) b],.agg [.dat (.list (.int .i64)) c,.dat (.list (.list (.int .i64))) d]],[]=>⟨_,N5n a b c d,fun(t:Bool)=>(dB t,[]),[],none⟩
 |_,_=>Ans.no
theorem Nre:Sound Tryz.prog 14 Nhl:=by
 refine fn_sound' (C:=Neb) (c:=bodyOf Tryz.f14) (cok_of tys_ok (allc Nms (allc Nt3 alln)) (allc Tryz.call37 (allc Tryz.call38 alln)) (by kernel_rfl)) Tryz.func14 (by kernel_rfl) LL Ndj ?_
 intro avs H r H' h
 unfold Nhl at h
 split at h
 ·refine Awp.cast ?_ ?_ ?_ (Nqv _ _ _ _ h)<;>kernel_rfl
 ·simp[Ans.no,Ans.run] at h
def N2:Ann:=(.seq (.leaf [0,1]) (.seq (.seq (.leaf [0,1,28]) (.cond (.seq (.leaf [4]) (.leaf [4])) (.leaf [0,1]))) (.seq (.leaf [1,5]) (.seq (.leaf [1,5,6,7]) (.seq (.leaf [1,5,6,7,8,9]) (.seq (.seq (.leaf [1,5,6,7,49]) (.cond (.seq (.leaf [4]) (.leaf [4])) (.leaf [1,5,6,7]))) (.seq (.seq (.leaf [1,5,6,7,10]) (.block (.loop (.seq (.seq (.leaf [1,5,6,7,10,53]) (.cond (.leaf [1,5,6,7,10]) (.leaf [1,5,6,7]))) (.seq (.block (.seq (.leaf [1,5,6,7,10,11,12]) (.seq (.leaf [1,5,6,7,10,84]) (.cond (.seq (.leaf [4]) (.leaf [4])) (.leaf [1,5,6,7,10]))))) (.leaf [1,5,6,7,10])))))) (.seq (.leaf [5,6,7,13]) (.seq (.leaf [5,6,7,13,15]) (.seq (.seq (.leafF [⟨1,15,false,some 1,none⟩] [5,6,7,13,15,16]) (.block (.loop (.seq (.seq (.leaf [5,6,7,13,15,16,98]) (.cond (.leaf [5,6,7,13,15,16]) (.leaf [5,6,7,13,15]))) (.seq (.block (.seq (.draw [5,6] [0,1,2,3,4,5,6,7,8,9,10,11,12] [] [5,6,7,13,15,16,17,18]) (.seq (.seq (.leaf [5,6,7,13,15,16,17,116]) (.cond (.seq (.leaf [4]) (.leaf [4])) (.leaf [5,6,7,13,15,16,17]))) (.leaf [5,6,7,13,15,16])))) (.leafF [⟨3,15,false,some 0,none⟩,⟨3,15,false,some 1,none⟩] [5,6,7,13,15,16])))))) (.seq (.leaf [5,6,7,13,15,19]) (.seq (.draw [6,14,24,28] [0,1,2,3,4,5,7,8,9,6,10,11,12,13,14,15,16,17,18,19,20,21,22,23,24,25,26,27,28,29,30] [] [4]) (.leaf [4])))))))))))))
noncomputable def N1g:Ctx:=⟨tlook tys,olook [(4,Nh7),(5,Nef),(6,Nf3),(7,Nhx),(8,Nf1),(9,Nae),(11,Ncn),(10,Ndb),(12,Ngc),(13,Nkr),(15,Ndr),(14,Nhl)],ioF,0,true,[]⟩
theorem Nv4 (a b:List Int):Link N1g LL (Code.seq (cq [0] (bodyOf Tryz.f3)) (Code.seq (cq [0,1] (bodyOf Tryz.f3)) (Code.seq (cq [0,1,1] (bodyOf Tryz.f3)) (Code.seq (cq [0,1,1,1] (bodyOf Tryz.f3)) (Code.seq (cq [0,1,1,1,1] (bodyOf Tryz.f3)) (cq [0,1,1,1,1,1] (bodyOf Tryz.f3))))))) (Ann.seq (aq [0] N2) (Ann.seq (aq [0,1] N2) (Ann.seq (aq [0,1,1] N2) (Ann.seq (aq [0,1,1,1] N2) (Ann.seq (aq [0,1,1,1,1] N2) (aq [0,1,1,1,1,1] N2)))))) ⟨mkE 154 0 [(0,dV a),(1,dV b)],[]⟩ (N9b a b) (Sum.elim (fun(t:ByteArray×Int×(List (Int×Int×Int×Unit)))=>(Exit.normal,⟨mkE 154 0 [(1,dV b),(5,dS t.1),(6,.slc 0),(7,dI t.2.1)],[some (.seq (.pair (.int .i64) (.pair (.int .i64) (.pair (.int .i64) .unit))) t.2.2)]⟩)) (fun(t:Bool)=>(Exit.ret,⟨mkE 154 0 [(4,dB t)],[]⟩))):= .of fun K h=>by
 simp only[N9b,wpW] at h
 exact .of (by kernel_rfl) h
theorem Nw6 (a:List Int) (b:ByteArray) (c:Int) (d:List (Int×Int×Int×Unit)):Link N1g LL (cq [0,0,1,1,1,1,1,1] (bodyOf Tryz.f3)) (aq [0,0,1,1,1,1,1,1] N2) ⟨mkE 154 0 [(1,dV a),(5,dS b),(6,.slc 0),(7,dI c)],[some (.seq (.pair (.int .i64) (.pair (.int .i64) (.pair (.int .i64) .unit))) d)]⟩ (N7z) (fun(t:Unit)=>(Exit.normal,⟨mkE 154 0 [(1,dV a),(5,dS b),(6,.slc 0),(7,dI c),(10,dI 0)],[some (.seq (.pair (.int .i64) (.pair (.int .i64) (.pair (.int .i64) .unit))) d)]⟩)):= .of fun K h=>by
 simp only[N7z,wpW] at h
 exact .of (by kernel_rfl) h
theorem N10z (a:List Int) (b:ByteArray) (c d:Int) (g:List (Int×Int×Int×Unit)):Link N1g LL (cq [0,0,1,0,1,1,1,1,1,1] (bodyOf Tryz.f3)) (aq [0,0,1,0,1,1,1,1,1,1] N2) ⟨mkE 154 0 [(1,dV a),(5,dS b),(6,.slc 0),(7,dI c),(10,dI d)],[some (.seq (.pair (.int .i64) (.pair (.int .i64) (.pair (.int .i64) .unit))) g)]⟩ (N5d b d g) (Sum.elim (fun(t:Int)=>(Exit.normal,⟨mkE 154 0 [(1,dV a),(5,dS b),(6,.slc 0),(7,dI c),(10,dI t)],[some (.seq (.pair (.int .i64) (.pair (.int .i64) (.pair (.int .i64) .unit))) g)]⟩)) (Sum.elim (fun(t:Bool)=>(Exit.ret,⟨mkE 154 0 [(4,dB t)],[]⟩)) (fun(t:Unit)=>((Exit.exit 0),⟨mkE 154 0 [(1,dV a),(5,dS b),(6,.slc 0),(7,dI c)],[some (.seq (.pair (.int .i64) (.pair (.int .i64) (.pair (.int .i64) .unit))) g)]⟩)))):= .of fun K h=>by
 simp only[N5d,wpW] at h
 exact .of (by kernel_rfl) h
theorem N12f (a:List Int) (b:ByteArray) (c:Int) (d:List (Int×Int×Int×Unit)):Link N1g LL (Code.seq (cq [0,1,1,1,1,1,1,1] (bodyOf Tryz.f3)) (cq [0,1,1,1,1,1,1,1,1] (bodyOf Tryz.f3))) (Ann.seq (aq [0,1,1,1,1,1,1,1] N2) (aq [0,1,1,1,1,1,1,1,1] N2)) ⟨mkE 154 0 [(1,dV a),(5,dS b),(6,.slc 0),(7,dI c)],[some (.seq (.pair (.int .i64) (.pair (.int .i64) (.pair (.int .i64) .unit))) d)]⟩ (N9q a) (fun(t:(List Int)×(List (List Int)))=>(Exit.normal,⟨mkE 154 0 [(5,dS b),(6,.slc 0),(7,dI c),(13,.ptr 1 0),(15,.ptr 2 0)],[some (.seq (.pair (.int .i64) (.pair (.int .i64) (.pair (.int .i64) .unit))) d),some (.box [dL t.1,.slc 3]),some (.box [dL t.1,.slc 3]),some (.nest (.int .i64) t.2 0 [])]⟩)):= .of fun K h=>by
 simp only[N9q,wpW] at h
 exact .of (by kernel_rfl) h
theorem Nyl (a:ByteArray) (b:Int) (c:List (Int×Int×Int×Unit)) (d:List Int) (g:List (List Int)):Link N1g LL (cq [0,0,1,1,1,1,1,1,1,1,1] (bodyOf Tryz.f3)) (aq [0,0,1,1,1,1,1,1,1,1,1] N2) ⟨mkE 154 0 [(5,dS a),(6,.slc 0),(7,dI b),(13,.ptr 1 0),(15,.ptr 2 0)],[some (.seq (.pair (.int .i64) (.pair (.int .i64) (.pair (.int .i64) .unit))) c),some (.box [dL d,.slc 3]),some (.box [dL d,.slc 3]),some (.nest (.int .i64) g 0 [])]⟩ (N9u) (fun(t:Unit)=>(Exit.normal,⟨mkE 154 0 [(5,dS a),(6,.slc 0),(7,dI b),(13,.ptr 1 0),(15,.ptr 2 0),(16,dI 0)],[some (.seq (.pair (.int .i64) (.pair (.int .i64) (.pair (.int .i64) .unit))) c),some (.box [dL d,.dat (.list (.list (.int .i64))) g]),some (.box [dL d,.dat (.list (.list (.int .i64))) g])]⟩)):= .of fun K h=>by
 simp only[N9u,wpW] at h
 exact .of (by kernel_rfl) h
theorem N14w (a:ByteArray) (b c:Int) (d:List (Int×Int×Int×Unit)) (g:List Int) (i:List (List Int)) (j:List Int) (k:List (List Int)):Link N1g LL (cq [0,0,1,0,1,1,1,1,1,1,1,1,1] (bodyOf Tryz.f3)) (aq [0,0,1,0,1,1,1,1,1,1,1,1,1] N2) ⟨mkE 154 0 [(5,dS a),(6,.slc 0),(7,dI b),(13,.ptr 1 0),(15,.ptr 2 0),(16,dI c)],[some (.seq (.pair (.int .i64) (.pair (.int .i64) (.pair (.int .i64) .unit))) d),some (.box [dL g,.dat (.list (.list (.int .i64))) i]),some (.box [dL j,.dat (.list (.list (.int .i64))) k])]⟩ (N2n c d g i j k) (Sum.elim (fun(t:Int×(List Int)×(List (List Int)))=>(Exit.normal,⟨mkE 154 0 [(5,dS a),(6,.slc 0),(7,dI b),(13,.ptr 1 0),(15,.ptr 2 0),(16,dI t.1)],[some (.seq (.pair (.int .i64) (.pair (.int .i64) (.pair (.int .i64) .unit))) d),some (.box [dL g,.dat (.list (.list (.int .i64))) i]),some (.box [dL t.2.1,.dat (.list (.list (.int .i64))) t.2.2])]⟩)) (Sum.elim (fun(t:Bool)=>(Exit.ret,⟨mkE 154 0 [(4,dB t)],[]⟩)) (fun(t:(List Int)×(List (List Int)))=>((Exit.exit 2),⟨mkE 154 0 [(5,dS a),(6,.slc 0),(7,dI b),(13,.ptr 1 0),(15,.ptr 2 0)],[some (.seq (.pair (.int .i64) (.pair (.int .i64) (.pair (.int .i64) .unit))) d),some (.box [dL g,.dat (.list (.list (.int .i64))) i]),some (.box [dL t.1,.dat (.list (.list (.int .i64))) t.2])]⟩)))):= .of fun K h=>by
 simp only[N2n,wpW] at h
 exact .of (by kernel_rfl) h
theorem Nzs (a:ByteArray) (b:Int) (c:List (Int×Int×Int×Unit)) (d:List Int) (g:List (List Int)) (i:List Int) (j:List (List Int)):Link N1g LL (cq [1,1,1,1,1,1,1,1,1,1] (bodyOf Tryz.f3)) (aq [1,1,1,1,1,1,1,1,1,1] N2) ⟨mkE 154 0 [(5,dS a),(6,.slc 0),(7,dI b),(13,.ptr 1 0),(15,.ptr 2 0)],[some (.seq (.pair (.int .i64) (.pair (.int .i64) (.pair (.int .i64) .unit))) c),some (.box [dL d,.dat (.list (.list (.int .i64))) g]),some (.box [dL i,.dat (.list (.list (.int .i64))) j])]⟩ (N7v a b c d g i j) (fun(t:Bool)=>(Exit.ret,⟨mkE 154 0 [(4,dB t)],[]⟩)):= .of fun K h=>by
 simp only[N7v,wpW] at h
 exact .of (by kernel_rfl) h
theorem Nvi (b d:List Int) {r:AV} {H':Heap} (h:(Ans.mk _ (N2u b d) (fun(t:Bool)=>(dB t,[])) [] none).run=some (r,H')):Awp N1g LL (bodyOf Tryz.f3) N2 ⟨mkE 154 0 [(0,dV b),(1,dV d)],[]⟩ (Ret (tlook tys) Tryz.f3.results.toList r H'):=
 ret_of' (Link.cast (by kernel_rfl) (by kernel_rfl) (link_group (c:=(cq [0,1,1,1,1,1] (bodyOf Tryz.f3))) (a:=(aq [0,1,1,1,1,1] N2)) [(cq [0] (bodyOf Tryz.f3)),(cq [0,1] (bodyOf Tryz.f3)),(cq [0,1,1] (bodyOf Tryz.f3)),(cq [0,1,1,1] (bodyOf Tryz.f3)),(cq [0,1,1,1,1] (bodyOf Tryz.f3))] [(aq [0] N2),(aq [0,1] N2),(aq [0,1,1] N2),(aq [0,1,1,1] N2),(aq [0,1,1,1,1] N2)] rfl (link_seq2 (Nv4 b d) (fun(t:ByteArray×Int×(List (Int×Int×Int×Unit)))=>(link_seq2 (link_seq (Nw6 d t.1 t.2.1 t.2.2) (fun(t39:Unit)=>(link_block (fin2:=(Sum.elim (fun(t39:Unit)=>(Exit.normal,⟨mkE 154 0 [(1,dV d),(5,dS t.1),(6,.slc 0),(7,dI t.2.1)],[some (.seq (.pair (.int .i64) (.pair (.int .i64) (.pair (.int .i64) .unit))) t.2.2)]⟩)) (fun(t39:Bool)=>(Exit.ret,⟨mkE 154 0 [(4,dB t39)],[]⟩)))) (id:=0) (link_loop (mk:=fun(s:Int)=>⟨mkE 154 0 [(1,dV d),(5,dS t.1),(6,.slc 0),(7,dI t.2.1),(10,dI s)],[some (.seq (.pair (.int .i64) (.pair (.int .i64) (.pair (.int .i64) .unit))) t.2.2)]⟩) (fin:=(Sum.elim (fun(t39:Bool)=>(Exit.ret,⟨mkE 154 0 [(4,dB t39)],[]⟩)) (fun(t39:Unit)=>((Exit.exit 0),⟨mkE 154 0 [(1,dV d),(5,dS t.1),(6,.slc 0),(7,dI t.2.1)],[some (.seq (.pair (.int .i64) (.pair (.int .i64) (.pair (.int .i64) .unit))) t.2.2)]⟩)))) (by
 rintro(t39|t39) f K h
 ·exact h
 ·exact h) (fun s=>link_map (N10z d t.1 t.2.1 s t.2.2) (Sum.elim (fun(t39:Int)=>Sum.inl t39) (Sum.elim (fun(t39:Bool)=>Sum.inr (Sum.inl t39)) (fun(t39:Unit)=>Sum.inr (Sum.inr t39)))) (by
 rintro(t39|t39|t39)
 ·kernel_rfl
 ·kernel_rfl
 ·kernel_rfl)) 0) (Sum.elim (fun(t39:Bool)=>(Sum.inr t39)) (fun(t39:Unit)=>(Sum.inl ()))) (by
 rintro(t39|t39) K h
 ·exact Eq.mp (by kernel_rfl) h
 ·exact Eq.mp (by kernel_rfl) h)))) (fun(t39:Unit)=>(link_group (c:=(cq [0,1,1,1,1,1,1,1,1] (bodyOf Tryz.f3))) (a:=(aq [0,1,1,1,1,1,1,1,1] N2)) [(cq [0,1,1,1,1,1,1,1] (bodyOf Tryz.f3))] [(aq [0,1,1,1,1,1,1,1] N2)] rfl (link_seq (N12f d t.1 t.2.1 t.2.2) (fun(t52:(List Int)×(List (List Int)))=>(link_seq2 (link_seq (Nyl t.1 t.2.1 t.2.2 t52.1 t52.2) (fun(t38:Unit)=>(link_block (fin2:=(Sum.elim (fun(t38:(List Int)×(List (List Int)))=>(Exit.normal,⟨mkE 154 0 [(5,dS t.1),(6,.slc 0),(7,dI t.2.1),(13,.ptr 1 0),(15,.ptr 2 0)],[some (.seq (.pair (.int .i64) (.pair (.int .i64) (.pair (.int .i64) .unit))) t.2.2),some (.box [dL t52.1,.dat (.list (.list (.int .i64))) t52.2]),some (.box [dL t38.1,.dat (.list (.list (.int .i64))) t38.2])]⟩)) (fun(t38:Bool)=>(Exit.ret,⟨mkE 154 0 [(4,dB t38)],[]⟩)))) (id:=2) (link_loop (mk:=fun(s:Int×(List Int)×(List (List Int)))=>⟨mkE 154 0 [(5,dS t.1),(6,.slc 0),(7,dI t.2.1),(13,.ptr 1 0),(15,.ptr 2 0),(16,dI s.1)],[some (.seq (.pair (.int .i64) (.pair (.int .i64) (.pair (.int .i64) .unit))) t.2.2),some (.box [dL t52.1,.dat (.list (.list (.int .i64))) t52.2]),some (.box [dL s.2.1,.dat (.list (.list (.int .i64))) s.2.2])]⟩) (fin:=(Sum.elim (fun(t38:Bool)=>(Exit.ret,⟨mkE 154 0 [(4,dB t38)],[]⟩)) (fun(t38:(List Int)×(List (List Int)))=>((Exit.exit 2),⟨mkE 154 0 [(5,dS t.1),(6,.slc 0),(7,dI t.2.1),(13,.ptr 1 0),(15,.ptr 2 0)],[some (.seq (.pair (.int .i64) (.pair (.int .i64) (.pair (.int .i64) .unit))) t.2.2),some (.box [dL t52.1,.dat (.list (.list (.int .i64))) t52.2]),some (.box [dL t38.1,.dat (.list (.list (.int .i64))) t38.2])]⟩)))) (by
 rintro(t38|t38) f K h
 ·exact h
 ·exact h) (fun s=>link_map (N14w t.1 t.2.1 s.1 t.2.2 t52.1 t52.2 s.2.1 s.2.2) (Sum.elim (fun(t38:Int×(List Int)×(List (List Int)))=>Sum.inl (t38.1,t38.2.1,t38.2.2)) (Sum.elim (fun(t38:Bool)=>Sum.inr (Sum.inl t38)) (fun(t38:(List Int)×(List (List Int)))=>Sum.inr (Sum.inr t38)))) (by
 rintro(t38|t38|t38)
 ·kernel_rfl
 ·kernel_rfl
 ·kernel_rfl)) (0,t52.1,t52.2)) (Sum.elim (fun(t38:Bool)=>(Sum.inr t38)) (fun(t38:(List Int)×(List (List Int)))=>(Sum.inl (t38.1,t38.2)))) (by
 rintro(t38|t38) K h
 ·exact Eq.mp (by kernel_rfl) h
 ·exact Eq.mp (by kernel_rfl) h)))) (fun(t38:(List Int)×(List (List Int)))=>(Nzs t.1 t.2.1 t.2.2 t52.1 t52.2 t38.1 t38.2)) (fun(t38:Bool)=>t38) (by
 rintro t38
 ·kernel_rfl) (by
 rintro t38 f K h
 ·exact h)))))) (fun(t39:Bool)=>t39) (by
 rintro t39
 ·kernel_rfl) (by
 rintro t39 f K h
 ·exact h))) (fun(t:Bool)=>t) (by
 rintro t
 ·kernel_rfl) (by
 rintro t f K h
 ·exact h)))) (by unfold N2u;kernel_rfl) (by
 intro t
 exact ret_mk [dB t] (by kernel_rfl) (by kernel_rfl) (by kernel_rfl) (by kernel_rfl)) h
def Nmw:Fun:=fun avs H=>
 match avs,H with
 |[.dat (.list (.int .u8)) a,.dat (.list (.int .u8)) b],[]=>⟨_,N2u a b,fun(t:Bool)=>(dB t,[]),[],none⟩
 |_,_=>Ans.no
theorem N15h:Sound Tryz.prog 3 Nmw:=by
 refine fn_sound' (C:=N1g) (c:=bodyOf Tryz.f3) (cok_of tys_ok (allc N148 (allc Nvu (allc N14p (allc N146 (allc N177 (allc Nly (allc Ne1 (allc Nrn (allc Nyi (allc N174 (allc N18i (allc Nre alln)))))))))))) (allc Tryz.call4 (allc Tryz.call5 (allc Tryz.call6 (allc Tryz.call7 (allc Tryz.call8 (allc Tryz.call9 (allc Tryz.call11 (allc Tryz.call10 (allc Tryz.call12 (allc Tryz.call13 (allc Tryz.call15 (allc Tryz.call14 alln)))))))))))) (by kernel_rfl)) Tryz.func3 (by kernel_rfl) LL N2 ?_
 intro avs H r H' h
 unfold Nmw at h
 split at h
 ·refine Awp.cast ?_ ?_ ?_ (Nvi _ _ h)<;>kernel_rfl
 ·simp[Ans.no,Ans.run] at h
end Go.Rv
