/-
  The checked code answers as the plain functions do; written by program. Conditions: none.
-/
import Derived.Test.YtihgceegapfngadGreatDoorKFnReadJournala
import Derived.Test.YtihgceegapfngadGreatDoorFB
import Derived.Test.YtihgceegapfngadGreatDoorFB
import Derived.Test.YtihgceegapfngadGreatDoorProg
set_option linter.unusedVariables false
set_option linter.unusedSimpArgs false
set_option linter.defProp false
set_option maxRecDepth 100000
namespace Go.Rv
open Go.Proofs
def Neg:Ann:=(.seq (.leaf [0,3]) (.seq (.leaf [0,3,5]) (.seq (.block (.seq (.leaf [0,3,5,9]) (.cond (.seq (.leaf [5]) (.seq (.leaf [4]) (.leafF [⟨0,4,true,none,none⟩] [4]))) (.seq (.leaf [0,3,5,28]) (.cond (.seq (.leaf [4]) (.leafF [⟨0,4,true,none,none⟩] [4])) (.seq (.leaf [0,3,5,39]) (.cond (.seq (.leaf [4]) (.leaf [4])) (.seq (.leaf [0,3,48]) (.cond (.seq (.leaf [4]) (.leafF [⟨0,4,true,none,none⟩] [4])) (.seq (.leaf [0,54]) (.cond (.seq (.leaf [4]) (.leafF [⟨0,4,true,none,none⟩] [4])) (.leaf [])))))))))))) (.seq (.leaf [4]) (.leafF [⟨0,4,true,none,none⟩] [4])))))
noncomputable def Ndp:Ctx:=⟨tlook tys,olook [(51,N2v),(113,Ni1),(114,Nhf)],ioF,0,false,[]⟩
theorem Nut (a:List Int) (b c d:Int):Link Ndp LL (bodyOf Tryz.f73) Neg ⟨mkE 61 0 [(0,dL a),(1,.agg [dI b,dI c,dI d])],[]⟩ (N7o a b c d) (fun(t:Nat×(List Int))=>(Exit.ret,⟨mkE 61 0 [(4,.win 0 0 t.1)],[some (sI t.2)]⟩)):= .of fun K h=>by
 simp only[N7o,wpW] at h
 exact .of (by kernel_rfl) h
theorem N11v (a:List Int) (b c d:Int) {r:AV} {H':Heap} (h:(Ans.mk _ (N1n a b c d) (fun(t:Nat×(List Int))=>(.win 0 0 t.1,[some (sI t.2)])) [] none).run=some (r,H')):Awp Ndp LL (bodyOf Tryz.f73) Neg ⟨mkE 61 0 [(0,dL a),(1,.agg [dI b,dI c,dI d])],[]⟩ (Ret (tlook tys) Tryz.f73.results.toList r H'):=
 ret_of' (Nut a b c d) (by unfold N1n;kernel_rfl) (by
 intro t
 exact ret_mk [.win 0 0 t.1] (by kernel_rfl) (by kernel_rfl) (by kernel_rfl) (by kernel_rfl)) h
def Nd0:Fun:=fun avs H=>
 match avs,H with
 |[.dat (.list (.int .i64)) a,.agg [.dat (.int .i64) b,.dat (.int .i64) c,.dat (.int .i64) d]],[]=>⟨_,N1n a b c d,fun(t:Nat×(List Int))=>(.win 0 0 t.1,[some (sI t.2)]),[],none⟩
 |_,_=>Ans.no
theorem N14f:Sound Tryz.prog 73 Nd0:=by
 refine fn_sound' (C:=Ndp) (c:=bodyOf Tryz.f73) (cok_of tys_ok (allc N77 (allc N12z (allc N11g alln))) (allc Tryz.call51 (allc Tryz.call113 (allc Tryz.call114 alln))) (by kernel_rfl)) Tryz.func73 (by kernel_rfl) LL Neg ?_
 intro avs H r H' h
 unfold Nd0 at h
 split at h
 ·refine Awp.cast ?_ ?_ ?_ (N11v _ _ _ _ h)<;>kernel_rfl
 ·simp[Ans.no,Ans.run] at h
def N6:Ann:=(.seq (.leaf [2,3,4]) (.seq (.seq (.leaf [2,3,4,13]) (.cond (.seq (.leaf [4,5]) (.leafF [⟨0,4,false,some 0,some (.int .i64)⟩,⟨0,4,true,some 1,some (.int .i64)⟩] [4,5])) (.leaf [2,3,4]))) (.seq (.leaf [2,3,4,6]) (.seq (.seq (.leaf [2,3,4,6,25]) (.cond (.seq (.leaf [4,6,7]) (.seq (.leaf [4,6,7]) (.seq (.leaf [4,6]) (.seq (.leaf [4,5]) (.leaf [4,5]))))) (.leaf [2,3,4,6]))) (.seq (.leaf [2,4,6,8]) (.seq (.leaf [2,4,6,8,9]) (.seq (.seq (.leaf [2,4,6,8,9,10]) (.block (.loop (.seq (.seq (.leaf [2,4,6,8,9,10,58]) (.cond (.leaf [2,4,6,8,10]) (.leaf [4,6,8,9]))) (.seq (.block (.draw [] [0,1,2,3,4,5,6,7,8,9,10] [] [2,4,6,8,9,10])) (.leaf [2,4,6,8,9,10])))))) (.seq (.seq (.leaf [4,6,8,76]) (.cond (.seq (.leaf [4,5]) (.leaf [4,5])) (.leaf [4,6,8]))) (.seq (.leaf [4,6,8]) (.seq (.seq (.leaf [4,6,8,88]) (.cond (.leaf [4,6,8]) (.leaf [4,6,8]))) (.seq (.leaf [4,6]) (.seq (.leaf [4,5]) (.leaf [4,5])))))))))))))
noncomputable def N4e:Ctx:=⟨tlook tys,olook [(9,N9w),(72,Ne9),(73,Nd0),(27,N19)],ioF,0,true,[]⟩
theorem Nqy (a:List Int) (b:List (List Int)) (c d g:Int):Link N4e LL (Code.seq (cq [0] (bodyOf Tryz.f49)) (Code.seq (cq [0,1] (bodyOf Tryz.f49)) (Code.seq (cq [0,1,1] (bodyOf Tryz.f49)) (Code.seq (cq [0,1,1,1] (bodyOf Tryz.f49)) (Code.seq (cq [0,1,1,1,1] (bodyOf Tryz.f49)) (cq [0,1,1,1,1,1] (bodyOf Tryz.f49))))))) (Ann.seq (aq [0] N6) (Ann.seq (aq [0,1] N6) (Ann.seq (aq [0,1,1] N6) (Ann.seq (aq [0,1,1,1] N6) (Ann.seq (aq [0,1,1,1,1] N6) (aq [0,1,1,1,1,1] N6)))))) ⟨mkE 98 0 [(0,.agg [dL a,.dat (.list (.list (.int .i64))) b]),(1,.agg [dI c,dI d,dI g])],[]⟩ (Naz a b c d g) (Sum.elim (fun(t:Nat×Bool×(List Int)×(List Int)×(List (List Int)))=>(Exit.normal,⟨mkE 98 0 [(2,.ptr 0 0),(4,.ptr 1 0),(6,.ptr 2 0),(8,.win 3 0 t.1),(9,dB t.2.1)],[some (.box [dL a,.dat (.list (.list (.int .i64))) b]),some (.box [.nils,.nils]),some (.box [.slc 4,.slc 5]),some (sI t.2.2.1),some (sI t.2.2.2.1),some (.nest (.int .i64) t.2.2.2.2 0 [])]⟩)) (fun(t:Bool×(List Int)×(List (List Int)))=>(Exit.ret,⟨mkE 98 0 [(4,.ptr 0 0),(5,dB t.1)],[some (.box [.slc 1,.slc 2]),some (sI t.2.1),some (.nest (.int .i64) t.2.2 0 [])]⟩))):= .of fun K h=>by
 simp only[Naz,wpW] at h
 exact .of (by kernel_rfl) h
theorem Nx3 (a:Nat) (b:Bool) (c:List Int) (d:List (List Int)) (g i:List Int) (j:List (List Int)):Link N4e LL (cq [0,0,1,1,1,1,1,1] (bodyOf Tryz.f49)) (aq [0,0,1,1,1,1,1,1] N6) ⟨mkE 98 0 [(2,.ptr 0 0),(4,.ptr 1 0),(6,.ptr 2 0),(8,.win 3 0 a),(9,dB b)],[some (.box [dL c,.dat (.list (.list (.int .i64))) d]),some (.box [.nils,.nils]),some (.box [.slc 4,.slc 5]),some (sI g),some (sI i),some (.nest (.int .i64) j 0 [])]⟩ (Nb7) (fun(t:Unit)=>(Exit.normal,⟨mkE 98 0 [(2,.ptr 0 0),(4,.ptr 1 0),(6,.ptr 2 0),(8,.win 3 0 a),(9,dB b),(10,dI 0)],[some (.box [dL c,.dat (.list (.list (.int .i64))) d]),some (.box [.nils,.nils]),some (.box [.slc 4,.slc 5]),some (sI g),some (sI i),some (.nest (.int .i64) j 0 [])]⟩)):= .of fun K h=>by
 simp only[Nb7,wpW] at h
 exact .of (by kernel_rfl) h
theorem Nw5 (a:Nat) (b:Bool) (c:Int) (d:List Int) (g:List (List Int)) (i j:List Int) (k:List (List Int)):Link N4e LL (cq [0,0,1,0,1,1,1,1,1,1] (bodyOf Tryz.f49)) (aq [0,0,1,0,1,1,1,1,1,1] N6) ⟨mkE 98 0 [(2,.ptr 0 0),(4,.ptr 1 0),(6,.ptr 2 0),(8,.win 3 0 a),(9,dB b),(10,dI c)],[some (.box [dL d,.dat (.list (.list (.int .i64))) g]),some (.box [.nils,.nils]),some (.box [.slc 4,.slc 5]),some (sI i),some (sI j),some (.nest (.int .i64) k 0 [])]⟩ (N30 a b c d i) (Sum.elim (fun(t:Bool×Int)=>(Exit.normal,⟨mkE 98 0 [(2,.ptr 0 0),(4,.ptr 1 0),(6,.ptr 2 0),(8,.win 3 0 a),(9,dB t.1),(10,dI t.2)],[some (.box [dL d,.dat (.list (.list (.int .i64))) g]),some (.box [.nils,.nils]),some (.box [.slc 4,.slc 5]),some (sI i),some (sI j),some (.nest (.int .i64) k 0 [])]⟩)) (fun(t:Bool)=>((Exit.exit 0),⟨mkE 98 0 [(4,.ptr 0 0),(6,.ptr 1 0),(8,.win 2 0 a),(9,dB t)],[some (.box [.nils,.nils]),some (.box [.slc 3,.slc 4]),some (sI i),some (sI j),some (.nest (.int .i64) k 0 [])]⟩))):= .of fun K h=>by
 simp only[N30,wpW] at h
 exact .of (by kernel_rfl) h
theorem Nvd (a:Nat) (b:Bool) (c d:List Int) (g:List (List Int)):Link N4e LL (cq [1,1,1,1,1,1,1] (bodyOf Tryz.f49)) (aq [1,1,1,1,1,1,1] N6) ⟨mkE 98 0 [(4,.ptr 0 0),(6,.ptr 1 0),(8,.win 2 0 a),(9,dB b)],[some (.box [.nils,.nils]),some (.box [.slc 3,.slc 4]),some (sI c),some (sI d),some (.nest (.int .i64) g 0 [])]⟩ (Naa a b c d g) (fun(t:Bool×(List Int)×(List (List Int)))=>(Exit.ret,⟨mkE 98 0 [(4,.ptr 0 0),(5,dB t.1)],[some (.box [.slc 1,.slc 2]),some (sI t.2.1),some (.nest (.int .i64) t.2.2 0 [])]⟩)):= .of fun K h=>by
 simp only[Naa,wpW] at h
 exact .of (by kernel_rfl) h
theorem N16k (b:List Int) (d:List (List Int)) (g i j:Int) {r:AV} {H':Heap} (h:(Ans.mk _ (N3f b d g i j) (fun(t:Bool×(List Int)×(List (List Int)))=>(.tup [.agg [.slc 1,.slc 2],dB t.1],[some (.box [.slc 1,.slc 2]),some (sI t.2.1),some (.nest (.int .i64) t.2.2 0 [])])) [] none).run=some (r,H')):Awp N4e LL (bodyOf Tryz.f49) N6 ⟨mkE 98 0 [(0,.agg [dL b,.dat (.list (.list (.int .i64))) d]),(1,.agg [dI g,dI i,dI j])],[]⟩ (Ret (tlook tys) Tryz.f49.results.toList r H'):=
 ret_of' (Link.cast (by kernel_rfl) (by kernel_rfl) (link_group (c:=(cq [0,1,1,1,1,1] (bodyOf Tryz.f49))) (a:=(aq [0,1,1,1,1,1] N6)) [(cq [0] (bodyOf Tryz.f49)),(cq [0,1] (bodyOf Tryz.f49)),(cq [0,1,1] (bodyOf Tryz.f49)),(cq [0,1,1,1] (bodyOf Tryz.f49)),(cq [0,1,1,1,1] (bodyOf Tryz.f49))] [(aq [0] N6),(aq [0,1] N6),(aq [0,1,1] N6),(aq [0,1,1,1] N6),(aq [0,1,1,1,1] N6)] rfl (link_seq2 (Nqy b d g i j) (fun(t:Nat×Bool×(List Int)×(List Int)×(List (List Int)))=>(link_seq (link_seq (Nx3 t.1 t.2.1 b d t.2.2.1 t.2.2.2.1 t.2.2.2.2) (fun(t30:Unit)=>(link_block (fin2:=(fun(t30:Bool)=>(Exit.normal,⟨mkE 98 0 [(4,.ptr 0 0),(6,.ptr 1 0),(8,.win 2 0 t.1),(9,dB t30)],[some (.box [.nils,.nils]),some (.box [.slc 3,.slc 4]),some (sI t.2.2.1),some (sI t.2.2.2.1),some (.nest (.int .i64) t.2.2.2.2 0 [])]⟩))) (id:=0) (link_loop (mk:=fun(s:Bool×Int)=>⟨mkE 98 0 [(2,.ptr 0 0),(4,.ptr 1 0),(6,.ptr 2 0),(8,.win 3 0 t.1),(9,dB s.1),(10,dI s.2)],[some (.box [dL b,.dat (.list (.list (.int .i64))) d]),some (.box [.nils,.nils]),some (.box [.slc 4,.slc 5]),some (sI t.2.2.1),some (sI t.2.2.2.1),some (.nest (.int .i64) t.2.2.2.2 0 [])]⟩) (fin:=(fun(t30:Bool)=>((Exit.exit 0),⟨mkE 98 0 [(4,.ptr 0 0),(6,.ptr 1 0),(8,.win 2 0 t.1),(9,dB t30)],[some (.box [.nils,.nils]),some (.box [.slc 3,.slc 4]),some (sI t.2.2.1),some (sI t.2.2.2.1),some (.nest (.int .i64) t.2.2.2.2 0 [])]⟩))) (by
 rintro t30 f K h
 ·exact h) (fun s=>link_map (Nw5 t.1 s.1 s.2 b d t.2.2.1 t.2.2.2.1 t.2.2.2.2) (Sum.elim (fun(t30:Bool×Int)=>Sum.inl (t30.1,t30.2)) (fun(t30:Bool)=>Sum.inr t30)) (by
 rintro(t30|t30)
 ·kernel_rfl
 ·kernel_rfl)) (t.2.1,0)) (fun(t30:Bool)=>t30) (by
 rintro t30 K h
 ·exact Eq.mp (by kernel_rfl) h)))) (fun(t30:Bool)=>(Nvd t.1 t30 t.2.2.1 t.2.2.2.1 t.2.2.2.2)))) (fun(t:Bool×(List Int)×(List (List Int)))=>t) (by
 rintro t
 ·kernel_rfl) (by
 rintro t f K h
 ·exact h)))) (by unfold N3f;kernel_rfl) (by
 intro t
 exact ret_mk [.agg [.slc 1,.slc 2],dB t.1] (by kernel_rfl) (by kernel_rfl) (by kernel_rfl) (by kernel_rfl)) h
def Ng3:Fun:=fun avs H=>
 match avs,H with
 |[.agg [.dat (.list (.int .i64)) a,.dat (.list (.list (.int .i64))) b],.agg [.dat (.int .i64) c,.dat (.int .i64) d,.dat (.int .i64) g]],[]=>⟨_,N3f a b c d g,fun(t:Bool×(List Int)×(List (List Int)))=>(.tup [.agg [.slc 1,.slc 2],dB t.1],[some (.box [.slc 1,.slc 2]),some (sI t.2.1),some (.nest (.int .i64) t.2.2 0 [])]),[],none⟩
 |_,_=>Ans.no
theorem N170:Sound Tryz.prog 49 Ng3:=by
 refine fn_sound' (C:=N4e) (c:=bodyOf Tryz.f49) (cok_of tys_ok (allc Nlj (allc N14r (allc N14f (allc N2j alln)))) (allc Tryz.call9 (allc Tryz.call72 (allc Tryz.call73 (allc Tryz.call27 alln)))) (by kernel_rfl)) Tryz.func49 (by kernel_rfl) LL N6 ?_
 intro avs H r H' h
 unfold Ng3 at h
 split at h
 ·refine Awp.cast ?_ ?_ ?_ (N16k _ _ _ _ _ h)<;>kernel_rfl
 ·simp[Ans.no,Ans.run] at h
def N25:Ann:=(.seq (.leaf [0,1,4]) (.seq (.leaf [0,1,4,5]) (.seq (.seq (.leafF [⟨3,5,false,some 0,none⟩,⟨3,5,true,some 1,some (.int .i64)⟩] [0,1,4,5,7]) (.block (.loop (.seq (.seq (.leaf [0,1,4,5,7,19]) (.cond (.leafF [⟨0,5,false,some 0,none⟩] [0,1,4,5,7]) (.leaf [0,1,4,5]))) (.seq (.block (.seq (.draw [5,200002,300000] [0,1,2,3,4,5,6,7,8,9,10,11] [] [0,1,4,5,7,8,9]) (.seq (.leaf [0,1,4,5,7,8,31]) (.cond (.leaf [0,1,4,5,7]) (.leaf [0,1,4,5,7]))))) (.leafF [⟨3,5,false,some 0,none⟩,⟨3,5,true,some 1,some (.int .i64)⟩] [0,1,4,5,7])))))) (.seq (.seq (.leaf [0,4,5,35]) (.cond (.seq (.leaf [4,5,37]) (.block (.seq (.leaf [4,5,37,39]) (.cond (.leaf [4,5]) (.seq (.leaf [4,5,43]) (.cond (.leaf [4,5]) (.seq (.leaf [4]) (.leafF [⟨0,4,false,some 0,some (.int .i64)⟩,⟨0,4,false,some 0,none⟩,⟨0,4,true,some 1,some (.int .i64)⟩] [4])))))))) (.leaf [4,5]))) (.seq (.leaf [4]) (.leafF [⟨0,4,false,some 0,none⟩] [4]))))))
noncomputable def N4h:Ctx:=⟨tlook tys,olook [(41,Nan),(48,Nd2),(19,Ni),(50,N8a),(49,Ng3),(25,N5p)],ioF,1,true,[]⟩
theorem N148 (a:Int) (b:List Int) (c:Int):Link N4h LL (Code.seq (cq [0] (bodyOf Tryz.f24)) (cq [0,1] (bodyOf Tryz.f24))) (Ann.seq (aq [0] N25) (aq [0,1] N25)) ⟨mkE 52 0 [(0,.ptr 0 0),(1,dI a)],[some (.box [dV b,dI c])]⟩ (N95 b c) (fun(t:Int×(List Int))=>(Exit.normal,⟨mkE 52 0 [(0,.ptr 0 0),(1,dI a),(4,.ptr 1 0),(5,.ptr 2 0)],[some (.box [dV b,dI t.1]),some (.box [.nils,.nils]),some (.box [.slc 3,.nils]),some (sI t.2)]⟩)):= .of fun K h=>by
 simp only[N95,wpW] at h
 exact .of (by kernel_rfl) h
theorem Nzm (a:Int) (b:List Int) (c:Int) (d:List Int):Link N4h LL (cq [0,0,1,1] (bodyOf Tryz.f24)) (aq [0,0,1,1] N25) ⟨mkE 52 0 [(0,.ptr 0 0),(1,dI a),(4,.ptr 1 0),(5,.ptr 2 0)],[some (.box [dV b,dI c]),some (.box [.nils,.nils]),some (.box [.slc 3,.nils]),some (sI d)]⟩ (Nal b c) (fun(t:Int×Int)=>(Exit.normal,⟨mkE 52 0 [(0,.ptr 0 0),(1,dI a),(4,.ptr 1 0),(5,.ptr 2 0),(7,dI t.1)],[some (.box [dV b,dI t.2]),some (.box [.nils,.nils]),some (.box [dL d,.slc 3]),some (.nest (.int .i64) ([]:List (List Int)) 0 [])]⟩)):= .of fun K h=>by
 simp only[Nal,wpW] at h
 exact .of (by kernel_rfl) h
theorem Nrh (a b:Int) (c:List Int) (d:Int) (g:List Int) (i:List (List Int)):Link N4h LL (cq [0,0,1,0,1,1] (bodyOf Tryz.f24)) (aq [0,0,1,0,1,1] N25) ⟨mkE 52 0 [(0,.ptr 0 0),(1,dI a),(4,.ptr 1 0),(5,.ptr 2 0),(7,dI b)],[some (.box [dV c,dI d]),some (.box [.nils,.nils]),some (.box [dL g,.slc 3]),some (.nest (.int .i64) i 0 [])]⟩ (N7m b c d g i) (Sum.elim (fun(t:Int×Int×(List Int)×(List (List Int)))=>(Exit.normal,⟨mkE 52 0 [(0,.ptr 0 0),(1,dI a),(4,.ptr 1 0),(5,.ptr 2 0),(7,dI t.1)],[some (.box [dV c,dI t.2.1]),some (.box [.nils,.nils]),some (.box [dL t.2.2.1,.slc 3]),some (.nest (.int .i64) t.2.2.2 0 [])]⟩)) (fun(t:Int×(List Int)×(List (List Int)))=>((Exit.exit 0),⟨mkE 52 0 [(0,.ptr 0 0),(1,dI a),(4,.ptr 1 0),(5,.ptr 2 0)],[some (.box [dV c,dI t.1]),some (.box [.nils,.nils]),some (.box [dL t.2.1,.slc 3]),some (.nest (.int .i64) t.2.2 0 [])]⟩))):= .of fun K h=>by
 simp only[N7m,wpW] at h
 exact .of (by kernel_rfl) h
theorem N10c (a:Int) (b:List Int) (c:Int) (d:List Int) (g:List (List Int)):Link N4h LL (cq [1,1,1] (bodyOf Tryz.f24)) (aq [1,1,1] N25) ⟨mkE 52 0 [(0,.ptr 0 0),(1,dI a),(4,.ptr 1 0),(5,.ptr 2 0)],[some (.box [dV b,dI c]),some (.box [.nils,.nils]),some (.box [dL d,.slc 3]),some (.nest (.int .i64) g 0 [])]⟩ (N91 a b c d g) (fun(t:Int×(List Int)×(List (List Int)))=>(Exit.ret,⟨mkE 52 0 [(4,.ptr 1 0)],[some (.box [dV b,dI t.1]),some (.box [dL t.2.1,.slc 2]),some (.nest (.int .i64) t.2.2 0 [])]⟩)):= .of fun K h=>by
 simp only[N91,wpW] at h
 exact .of (by kernel_rfl) h
theorem N15e (b:Int) (d:List Int) (g:Int) {r:AV} {H':Heap} (h:(Ans.mk _ (N2w b d g) (fun(t:Int×(List Int)×(List (List Int)))=>(.agg [dL t.2.1,.slc 2],[some (.box [dV d,dI t.1]),some (.box [dL t.2.1,.slc 2]),some (.nest (.int .i64) t.2.2 0 [])])) [] none).run=some (r,H')):Awp N4h LL (bodyOf Tryz.f24) N25 ⟨mkE 52 0 [(0,.ptr 0 0),(1,dI b)],[some (.box [dV d,dI g])]⟩ (Ret (tlook tys) Tryz.f24.results.toList r H'):=
 ret_of' (Link.cast (by kernel_rfl) (by kernel_rfl) (link_group (c:=(cq [0,1] (bodyOf Tryz.f24))) (a:=(aq [0,1] N25)) [(cq [0] (bodyOf Tryz.f24))] [(aq [0] N25)] rfl (link_seq (N148 b d g) (fun(t:Int×(List Int))=>(link_seq (link_seq (Nzm b d t.1 t.2) (fun(t31:Int×Int)=>(link_block (fin2:=(fun(t8:Int×(List Int)×(List (List Int)))=>(Exit.normal,⟨mkE 52 0 [(0,.ptr 0 0),(1,dI b),(4,.ptr 1 0),(5,.ptr 2 0)],[some (.box [dV d,dI t8.1]),some (.box [.nils,.nils]),some (.box [dL t8.2.1,.slc 3]),some (.nest (.int .i64) t8.2.2 0 [])]⟩))) (id:=0) (link_loop (mk:=fun(s:Int×Int×(List Int)×(List (List Int)))=>⟨mkE 52 0 [(0,.ptr 0 0),(1,dI b),(4,.ptr 1 0),(5,.ptr 2 0),(7,dI s.1)],[some (.box [dV d,dI s.2.1]),some (.box [.nils,.nils]),some (.box [dL s.2.2.1,.slc 3]),some (.nest (.int .i64) s.2.2.2 0 [])]⟩) (fin:=(fun(t8:Int×(List Int)×(List (List Int)))=>((Exit.exit 0),⟨mkE 52 0 [(0,.ptr 0 0),(1,dI b),(4,.ptr 1 0),(5,.ptr 2 0)],[some (.box [dV d,dI t8.1]),some (.box [.nils,.nils]),some (.box [dL t8.2.1,.slc 3]),some (.nest (.int .i64) t8.2.2 0 [])]⟩))) (by
 rintro t8 f K h
 ·exact h) (fun s=>link_map (Nrh b s.1 d s.2.1 s.2.2.1 s.2.2.2) (Sum.elim (fun(t8:Int×Int×(List Int)×(List (List Int)))=>Sum.inl (t8.1,t8.2.1,t8.2.2.1,t8.2.2.2)) (fun(t8:Int×(List Int)×(List (List Int)))=>Sum.inr t8)) (by
 rintro(t8|t8)
 ·kernel_rfl
 ·kernel_rfl)) (t31.1,t31.2,t.2,([]:List (List Int)))) (fun(t8:Int×(List Int)×(List (List Int)))=>(t8.1,t8.2.1,t8.2.2)) (by
 rintro t8 K h
 ·exact Eq.mp (by kernel_rfl) h)))) (fun(t31:Int×(List Int)×(List (List Int)))=>(N10c b d t31.1 t31.2.1 t31.2.2))))))) (by unfold N2w;kernel_rfl) (by
 intro t
 exact ret_mk [.agg [dL t.2.1,.slc 2]] (by kernel_rfl) (by kernel_rfl) (by kernel_rfl) (by kernel_rfl)) h
def Nfl:Fun:=fun avs H=>
 match avs,H with
 |[.ptr 0 0,.dat (.int .i64) a],[some (.box [.dat (.list (.int .u8)) b,.dat (.int .i64) c])]=>⟨_,N2w a b c,fun(t:Int×(List Int)×(List (List Int)))=>(.agg [dL t.2.1,.slc 2],[some (.box [dV b,dI t.1]),some (.box [dL t.2.1,.slc 2]),some (.nest (.int .i64) t.2.2 0 [])]),[],none⟩
 |_,_=>Ans.no
theorem Nzk:Sound Tryz.prog 24 Nfl:=by
 refine fn_sound' (C:=N4h) (c:=bodyOf Tryz.f24) (cok_of tys_ok (allc Nj7 (allc N16w (allc Nz (allc Nn7 (allc N170 (allc Nae alln)))))) (allc Tryz.call41 (allc Tryz.call48 (allc Tryz.call19 (allc Tryz.call50 (allc Tryz.call49 (allc Tryz.call25 alln)))))) (by kernel_rfl)) Tryz.func24 (by kernel_rfl) LL N25 ?_
 intro avs H r H' h
 unfold Nfl at h
 split at h
 ·refine Awp.cast ?_ ?_ ?_ (N15e _ _ _ h)<;>kernel_rfl
 ·simp[Ans.no,Ans.run] at h
def Nfr:Ann:=(.seq (.leaf [0,2]) (.seq (.leaf [2,4]) (.seq (.leaf [2,4,5]) (.seq (.seq (.leaf [2,4,5,11]) (.cond (.seq (.draw [] [0,2,1,3] [] [2,3]) (.leaf [2,3])) (.leaf [2,4,5]))) (.seq (.draw [200002,300000] [0,1,2,3,4,5,6] [] [2,3]) (.leaf [2,3]))))))
noncomputable def Nhi:Ctx:=⟨tlook tys,olook [(16,N8x),(24,Nfl),(25,N5p),(26,Nbb)],ioF,0,true,[]⟩
theorem Nwn (a:List Int):Link Nhi LL (bodyOf Tryz.f8) Nfr ⟨mkE 19 0 [(0,dV a)],[]⟩ (N9e a) (fun(t:(List Int)×(List (Int×Int×Int×Unit))×(List (List Int)))=>(Exit.ret,⟨mkE 19 0 [(2,.ptr 0 0),(3,.slc 1)],[some (.box [dL t.1,.slc 2]),some (.seq (.pair (.int .i64) (.pair (.int .i64) (.pair (.int .i64) .unit))) t.2.1),some (.nest (.int .i64) t.2.2 0 [])]⟩)):= .of fun K h=>by
 simp only[N9e,wpW] at h
 exact .of (by kernel_rfl) h
theorem N18d (a:List Int) {r:AV} {H':Heap} (h:(Ans.mk _ (N4w a) (fun(t:(List Int)×(List (Int×Int×Int×Unit))×(List (List Int)))=>(.tup [.agg [dL t.1,.slc 2],.slc 1],[some (.box [dL t.1,.slc 2]),some (.seq (.pair (.int .i64) (.pair (.int .i64) (.pair (.int .i64) .unit))) t.2.1),some (.nest (.int .i64) t.2.2 0 [])])) [] none).run=some (r,H')):Awp Nhi LL (bodyOf Tryz.f8) Nfr ⟨mkE 19 0 [(0,dV a)],[]⟩ (Ret (tlook tys) Tryz.f8.results.toList r H'):=
 ret_of' (Nwn a) (by unfold N4w;kernel_rfl) (by
 intro t
 exact ret_mk [.agg [dL t.1,.slc 2],.slc 1] (by kernel_rfl) (by kernel_rfl) (by kernel_rfl) (by kernel_rfl)) h
def Ndt:Fun:=fun avs H=>
 match avs,H with
 |[.dat (.list (.int .u8)) a],[]=>⟨_,N4w a,fun(t:(List Int)×(List (Int×Int×Int×Unit))×(List (List Int)))=>(.tup [.agg [dL t.1,.slc 2],.slc 1],[some (.box [dL t.1,.slc 2]),some (.seq (.pair (.int .i64) (.pair (.int .i64) (.pair (.int .i64) .unit))) t.2.1),some (.nest (.int .i64) t.2.2 0 [])]),[],none⟩
 |_,_=>Ans.no
theorem N18c:Sound Tryz.prog 8 Ndt:=by
 refine fn_sound' (C:=Nhi) (c:=bodyOf Tryz.f8) (cok_of tys_ok (allc Nn6 (allc Nzk (allc Nae (allc Nlx alln)))) (allc Tryz.call16 (allc Tryz.call24 (allc Tryz.call25 (allc Tryz.call26 alln)))) (by kernel_rfl)) Tryz.func8 (by kernel_rfl) LL Nfr ?_
 intro avs H r H' h
 unfold Ndt at h
 split at h
 ·refine Awp.cast ?_ ?_ ?_ (N18d _ h)<;>kernel_rfl
 ·simp[Ans.no,Ans.run] at h
def N21:Ann:=(.seq (.leaf [0]) (.seq (.leaf [0,3]) (.seq (.seq (.leaf [0,3,6,7,8]) (.block (.loop (.seq (.leaf [0,3,6,7,8,9]) (.seq (.cond (.leaf [0,3,6,7,8]) (.leaf [3])) (.seq (.block (.seq (.leaf [0,3,5,6,7,8]) (.seq (.seq (.leaf [0,3,5,6,7,8,19]) (.cond (.seq (.leaf [2]) (.leaf [2])) (.leaf [0,3,5,6,7,8]))) (.seq (.leaf [0,3,6,7,8,21]) (.cond (.leaf [0,3,6,7,8]) (.leaf [0,3,6,7,8])))))) (.leaf [0,3,6,7,8]))))))) (.seq (.leaf [2]) (.leaf [2])))))
noncomputable def N55:Ctx:=⟨tlook tys,olook [],ioF,0,false,[]⟩
theorem Nuj (a:List Int):Link N55 LL (Code.seq (cq [0] (bodyOf Tryz.f61)) (cq [0,1] (bodyOf Tryz.f61))) (Ann.seq (aq [0] N21) (aq [0,1] N21)) ⟨mkE 27 0 [(0,dL a)],[]⟩ (N94) (fun(t:Unit)=>(Exit.normal,⟨mkE 27 0 [(0,dL a),(3,dI 0)],[]⟩)):= .of fun K h=>by
 simp only[N94,wpW] at h
 exact .of (by kernel_rfl) h
theorem N130 (a:List Int):Link N55 LL (cq [0,0,1,1] (bodyOf Tryz.f61)) (aq [0,0,1,1] N21) ⟨mkE 27 0 [(0,dL a),(3,dI 0)],[]⟩ (N7r a) (fun(t:Int)=>(Exit.normal,⟨mkE 27 0 [(0,dL a),(3,dI 0),(6,dL a),(7,dI t),(8,dI 0)],[]⟩)):= .of fun K h=>by
 simp only[N7r,wpW] at h
 exact .of (by kernel_rfl) h
theorem N17v (a:List Int) (b c d:Int):Link N55 LL (cq [0,0,1,0,1,1] (bodyOf Tryz.f61)) (aq [0,0,1,0,1,1] N21) ⟨mkE 27 0 [(0,dL a),(3,dI b),(6,dL a),(7,dI c),(8,dI d)],[]⟩ (N5i a b c d) (Sum.elim (fun(t:Int×Int)=>(Exit.normal,⟨mkE 27 0 [(0,dL a),(3,dI t.1),(6,dL a),(7,dI c),(8,dI t.2)],[]⟩)) (Sum.elim (fun(t:Bool)=>(Exit.ret,⟨mkE 27 0 [(2,dB t)],[]⟩)) (fun(t:Int)=>((Exit.exit 0),⟨mkE 27 0 [(3,dI t)],[]⟩)))):= .of fun K h=>by
 simp only[N5i,wpW] at h
 exact .of (by kernel_rfl) h
theorem N11a (a:Int):Link N55 LL (cq [1,1,1] (bodyOf Tryz.f61)) (aq [1,1,1] N21) ⟨mkE 27 0 [(3,dI a)],[]⟩ (Nc7 a) (fun(t:Bool)=>(Exit.ret,⟨mkE 27 0 [(2,dB t)],[]⟩)):= .of fun K h=>by
 simp only[Nc7,wpW] at h
 exact .of (by kernel_rfl) h
theorem N12c (b:List Int) {r:AV} {H':Heap} (h:(Ans.mk _ (N5j b) (fun(t:Bool)=>(dB t,[])) [] none).run=some (r,H')):Awp N55 LL (bodyOf Tryz.f61) N21 ⟨mkE 27 0 [(0,dL b)],[]⟩ (Ret (tlook tys) Tryz.f61.results.toList r H'):=
 ret_of' (Link.cast (by kernel_rfl) (by kernel_rfl) (link_group (c:=(cq [0,1] (bodyOf Tryz.f61))) (a:=(aq [0,1] N21)) [(cq [0] (bodyOf Tryz.f61))] [(aq [0] N21)] rfl (link_seq (Nuj b) (fun(t:Unit)=>(link_seq2 (link_seq (N130 b) (fun(t:Int)=>(link_block (fin2:=(Sum.elim (fun(t9:Int)=>(Exit.normal,⟨mkE 27 0 [(3,dI t9)],[]⟩)) (fun(t9:Bool)=>(Exit.ret,⟨mkE 27 0 [(2,dB t9)],[]⟩)))) (id:=0) (link_loop (mk:=fun(s:Int×Int)=>⟨mkE 27 0 [(0,dL b),(3,dI s.1),(6,dL b),(7,dI t),(8,dI s.2)],[]⟩) (fin:=(Sum.elim (fun(t9:Bool)=>(Exit.ret,⟨mkE 27 0 [(2,dB t9)],[]⟩)) (fun(t9:Int)=>((Exit.exit 0),⟨mkE 27 0 [(3,dI t9)],[]⟩)))) (by
 rintro(t9|t9) f K h
 ·exact h
 ·exact h) (fun s=>link_map (N17v b s.1 t s.2) (Sum.elim (fun(t9:Int×Int)=>Sum.inl (t9.1,t9.2)) (Sum.elim (fun(t9:Bool)=>Sum.inr (Sum.inl t9)) (fun(t9:Int)=>Sum.inr (Sum.inr t9)))) (by
 rintro(t9|t9|t9)
 ·kernel_rfl
 ·kernel_rfl
 ·kernel_rfl)) (0,0)) (Sum.elim (fun(t9:Bool)=>(Sum.inr t9)) (fun(t9:Int)=>(Sum.inl t9))) (by
 rintro(t9|t9) K h
 ·exact Eq.mp (by kernel_rfl) h
 ·exact Eq.mp (by kernel_rfl) h)))) (fun(t:Int)=>(N11a t)) (fun(t:Bool)=>t) (by
 rintro t
 ·kernel_rfl) (by
 rintro t f K h
 ·exact h)))))) (by unfold N5j;kernel_rfl) (by
 intro t
 exact ret_mk [dB t] (by kernel_rfl) (by kernel_rfl) (by kernel_rfl) (by kernel_rfl)) h
def Ndv:Fun:=fun avs H=>
 match avs,H with
 |[.dat (.list (.int .i64)) a],[]=>⟨_,N5j a,fun(t:Bool)=>(dB t,[]),[],none⟩
 |_,_=>Ans.no
theorem Nv3:Sound Tryz.prog 61 Ndv:=by
 refine fn_sound' (C:=N55) (c:=bodyOf Tryz.f61) (cok_of tys_ok (alln) (alln) (by kernel_rfl)) Tryz.func61 (by kernel_rfl) LL N21 ?_
 intro avs H r H' h
 unfold Ndv at h
 split at h
 ·refine Awp.cast ?_ ?_ ?_ (N12c _ h)<;>kernel_rfl
 ·simp[Ans.no,Ans.run] at h
def Ndh:Ann:=(.seq (.leaf [0]) (.seq (.draw [] [0,1,2,3,4,5,6,7,8,9,10,11] [] [0,3]) (.seq (.seq (.leaf [0,3,16]) (.cond (.seq (.leaf [2]) (.leaf [2])) (.leaf [0,3]))) (.seq (.leaf [0]) (.seq (.leaf []) (.seq (.leaf [2]) (.leaf [2])))))))
noncomputable def Nex:Ctx:=⟨tlook tys,olook [],ioF,1,false,[]⟩
theorem Nwg (a:List Int) (b c:Int):Link Nex LL (bodyOf Tryz.f98) Ndh ⟨mkE 28 0 [(0,.ptr 0 0)],[some (.box [dL a,dI b,dI c])]⟩ (N89 a b c) (fun(t:Bool×Int×Int)=>(Exit.ret,⟨mkE 28 0 [(2,dB t.1)],[some (.box [dL a,dI t.2.1,dI t.2.2])]⟩)):= .of fun K h=>by
 simp only[N89,wpW] at h
 exact .of (by kernel_rfl) h
theorem Nwc (a:List Int) (b c:Int) {r:AV} {H':Heap} (h:(Ans.mk _ (N43 a b c) (fun(t:Bool×Int×Int)=>(dB t.1,[some (.box [dL a,dI t.2.1,dI t.2.2])])) [] none).run=some (r,H')):Awp Nex LL (bodyOf Tryz.f98) Ndh ⟨mkE 28 0 [(0,.ptr 0 0)],[some (.box [dL a,dI b,dI c])]⟩ (Ret (tlook tys) Tryz.f98.results.toList r H'):=
 ret_of' (Nwg a b c) (by unfold N43;kernel_rfl) (by
 intro t
 exact ret_mk [dB t.1] (by kernel_rfl) (by kernel_rfl) (by kernel_rfl) (by kernel_rfl)) h
def Na8:Fun:=fun avs H=>
 match avs,H with
 |[.ptr 0 0],[some (.box [.dat (.list (.int .i64)) a,.dat (.int .i64) b,.dat (.int .i64) c])]=>⟨_,N43 a b c,fun(t:Bool×Int×Int)=>(dB t.1,[some (.box [dL a,dI t.2.1,dI t.2.2])]),[],none⟩
 |_,_=>Ans.no
theorem Njn:Sound Tryz.prog 98 Na8:=by
 refine fn_sound' (C:=Nex) (c:=bodyOf Tryz.f98) (cok_of tys_ok (alln) (alln) (by kernel_rfl)) Tryz.func98 (by kernel_rfl) LL Ndh ?_
 intro avs H r H' h
 unfold Na8 at h
 split at h
 ·refine Awp.cast ?_ ?_ ?_ (Nwc _ _ _ h)<;>kernel_rfl
 ·simp[Ans.no,Ans.run] at h
def N2r:Ann:=(.seq (.leaf [0,1]) (.seq (.leaf [0,6]) (.seq (.block (.loop (.seq (.seq (.leaf [0,6,10]) (.cond (.leaf [0,6]) (.leaf [6]))) (.block (.seq (.leaf [0,6,15]) (.cond (.seq (.leaf [4,5]) (.leaf [4,5])) (.leaf [0,6]))))))) (.seq (.leaf [4,5]) (.leaf [4,5])))))
noncomputable def N7b:Ctx:=⟨tlook tys,olook [(98,Na8)],ioF,0,false,[]⟩
theorem N17h (a:List Int) (b:Int):Link N7b LL (Code.seq (cq [0] (bodyOf Tryz.f62)) (cq [0,1] (bodyOf Tryz.f62))) (Ann.seq (aq [0] N2r) (aq [0,1] N2r)) ⟨mkE 18 0 [(0,dL a),(1,dI b)],[]⟩ (Nb5) (fun(t:Unit)=>(Exit.normal,⟨mkE 18 0 [(0,dL a),(6,.ptr 0 0)],[some (.box [dL a,dI b,dI 0])]⟩)):= .of fun K h=>by
 simp only[Nb5,wpW] at h
 exact .of (by kernel_rfl) h
theorem N10n (a:List Int) (b c:Int):Link N7b LL (cq [0,0,0,1,1] (bodyOf Tryz.f62)) (aq [0,0,0,1,1] N2r) ⟨mkE 18 0 [(0,dL a),(6,.ptr 0 0)],[some (.box [dL a,dI b,dI c])]⟩ (N6q a b c) (Sum.elim (fun(t:Int×Int)=>(Exit.normal,⟨mkE 18 0 [(0,dL a),(6,.ptr 0 0)],[some (.box [dL a,dI t.1,dI t.2])]⟩)) (Sum.elim (fun(t:Int×Bool)=>(Exit.ret,⟨mkE 18 0 [(4,dI t.1),(5,dB t.2)],[]⟩)) (fun(t:Int×Int)=>((Exit.exit 0),⟨mkE 18 0 [(6,.ptr 0 0)],[some (.box [dL a,dI t.1,dI t.2])]⟩)))):= .of fun K h=>by
 simp only[N6q,wpW] at h
 exact .of (by kernel_rfl) h
theorem N117 (a:List Int) (b c:Int):Link N7b LL (cq [1,1,1] (bodyOf Tryz.f62)) (aq [1,1,1] N2r) ⟨mkE 18 0 [(6,.ptr 0 0)],[some (.box [dL a,dI b,dI c])]⟩ (Nac c) (fun(t:Int×Bool)=>(Exit.ret,⟨mkE 18 0 [(4,dI t.1),(5,dB t.2)],[]⟩)):= .of fun K h=>by
 simp only[Nac,wpW] at h
 exact .of (by kernel_rfl) h
theorem N139 (b:List Int) (d:Int) {r:AV} {H':Heap} (h:(Ans.mk _ (N4q b d) (fun(t:Int×Bool)=>(.tup [dI t.1,dB t.2],[])) [] none).run=some (r,H')):Awp N7b LL (bodyOf Tryz.f62) N2r ⟨mkE 18 0 [(0,dL b),(1,dI d)],[]⟩ (Ret (tlook tys) Tryz.f62.results.toList r H'):=
 ret_of' (Link.cast (by kernel_rfl) (by kernel_rfl) (link_group (c:=(cq [0,1] (bodyOf Tryz.f62))) (a:=(aq [0,1] N2r)) [(cq [0] (bodyOf Tryz.f62))] [(aq [0] N2r)] rfl (link_seq (N17h b d) (fun(t:Unit)=>(link_seq2 (link_block (fin2:=(Sum.elim (fun(t:Int×Int)=>(Exit.normal,⟨mkE 18 0 [(6,.ptr 0 0)],[some (.box [dL b,dI t.1,dI t.2])]⟩)) (fun(t:Int×Bool)=>(Exit.ret,⟨mkE 18 0 [(4,dI t.1),(5,dB t.2)],[]⟩)))) (id:=0) (link_loop (mk:=fun(s:Int×Int)=>⟨mkE 18 0 [(0,dL b),(6,.ptr 0 0)],[some (.box [dL b,dI s.1,dI s.2])]⟩) (fin:=(Sum.elim (fun(t:Int×Bool)=>(Exit.ret,⟨mkE 18 0 [(4,dI t.1),(5,dB t.2)],[]⟩)) (fun(t:Int×Int)=>((Exit.exit 0),⟨mkE 18 0 [(6,.ptr 0 0)],[some (.box [dL b,dI t.1,dI t.2])]⟩)))) (by
 rintro(t|t) f K h
 ·exact h
 ·exact h) (fun s=>link_map (N10n b s.1 s.2) (Sum.elim (fun(t:Int×Int)=>Sum.inl (t.1,t.2)) (Sum.elim (fun(t:Int×Bool)=>Sum.inr (Sum.inl t)) (fun(t:Int×Int)=>Sum.inr (Sum.inr t)))) (by
 rintro(t|t|t)
 ·kernel_rfl
 ·kernel_rfl
 ·kernel_rfl)) (d,0)) (Sum.elim (fun(t:Int×Bool)=>(Sum.inr t)) (fun(t:Int×Int)=>(Sum.inl (t.1,t.2)))) (by
 rintro(t|t) K h
 ·exact Eq.mp (by kernel_rfl) h
 ·exact Eq.mp (by kernel_rfl) h)) (fun(t:Int×Int)=>(N117 b t.1 t.2)) (fun(t:Int×Bool)=>t) (by
 rintro t
 ·kernel_rfl) (by
 rintro t f K h
 ·exact h)))))) (by unfold N4q;kernel_rfl) (by
 intro t
 exact ret_mk [dI t.1,dB t.2] (by kernel_rfl) (by kernel_rfl) (by kernel_rfl) (by kernel_rfl)) h
def Nha:Fun:=fun avs H=>
 match avs,H with
 |[.dat (.list (.int .i64)) a,.dat (.int .i64) b],[]=>⟨_,N4q a b,fun(t:Int×Bool)=>(.tup [dI t.1,dB t.2],[]),[],none⟩
 |_,_=>Ans.no
theorem Nxy:Sound Tryz.prog 62 Nha:=by
 refine fn_sound' (C:=N7b) (c:=bodyOf Tryz.f62) (cok_of tys_ok (allc Njn alln) (allc Tryz.call98 alln) (by kernel_rfl)) Tryz.func62 (by kernel_rfl) LL N2r ?_
 intro avs H r H' h
 unfold Nha at h
 split at h
 ·refine Awp.cast ?_ ?_ ?_ (N139 _ _ h)<;>kernel_rfl
 ·simp[Ans.no,Ans.run] at h
def N1k:Ann:=(.seq (.leaf [0]) (.seq (.seq (.leaf [0,18]) (.cond (.seq (.leaf [2]) (.leaf [2])) (.leaf [0]))) (.seq (.seq (.leaf [0,20,21]) (.block (.loop (.seq (.leaf [0,20,21,22]) (.seq (.cond (.leaf [0,20,21]) (.leaf [])) (.seq (.block (.seq (.leaf [0,3,20,21]) (.seq (.leaf [0,5,20,21]) (.seq (.leaf [0,20,21,32]) (.cond (.seq (.leaf [2]) (.leaf [2])) (.leaf [0,20,21])))))) (.leaf [0,20,21]))))))) (.seq (.leaf [2]) (.leaf [2])))))
noncomputable def N68:Ctx:=⟨tlook tys,olook [(61,Ndv),(62,Nha)],ioF,0,false,[]⟩
theorem N13l (a:List Int):Link N68 LL (Code.seq (cq [0] (bodyOf Tryz.f39)) (cq [0,1] (bodyOf Tryz.f39))) (Ann.seq (aq [0] N1k) (aq [0,1] N1k)) ⟨mkE 34 0 [(0,dL a)],[]⟩ (Naf a) (Sum.elim (fun(t:Unit)=>(Exit.normal,⟨mkE 34 0 [(0,dL a)],[]⟩)) (fun(t:Bool)=>(Exit.ret,⟨mkE 34 0 [(2,dB t)],[]⟩))):= .of fun K h=>by
 simp only[Naf,wpW] at h
 exact .of (by kernel_rfl) h
theorem N11b (a:List Int):Link N68 LL (cq [0,0,1,1] (bodyOf Tryz.f39)) (aq [0,0,1,1] N1k) ⟨mkE 34 0 [(0,dL a)],[]⟩ (Naj a) (fun(t:Int)=>(Exit.normal,⟨mkE 34 0 [(0,dL a),(20,dI t),(21,dI 0)],[]⟩)):= .of fun K h=>by
 simp only[Naj,wpW] at h
 exact .of (by kernel_rfl) h
theorem Ntq (a:List Int) (b c:Int):Link N68 LL (cq [0,0,1,0,1,1] (bodyOf Tryz.f39)) (aq [0,0,1,0,1,1] N1k) ⟨mkE 34 0 [(0,dL a),(20,dI b),(21,dI c)],[]⟩ (N4t a b c) (Sum.elim (fun(t:Int)=>(Exit.normal,⟨mkE 34 0 [(0,dL a),(20,dI b),(21,dI t)],[]⟩)) (Sum.elim (fun(t:Bool)=>(Exit.ret,⟨mkE 34 0 [(2,dB t)],[]⟩)) (fun(t:Unit)=>((Exit.exit 0),⟨mkE 34 0 [],[]⟩)))):= .of fun K h=>by
 simp only[N4t,wpW] at h
 exact .of (by kernel_rfl) h
theorem N16a:Link N68 LL (cq [1,1,1] (bodyOf Tryz.f39)) (aq [1,1,1] N1k) ⟨mkE 34 0 [],[]⟩ (Ngj) (fun(t:Bool)=>(Exit.ret,⟨mkE 34 0 [(2,dB t)],[]⟩)):= .of fun K h=>by
 simp only[Ngj,wpW] at h
 exact .of (by kernel_rfl) h
theorem N165 (b:List Int) {r:AV} {H':Heap} (h:(Ans.mk _ (Na b) (fun(t:Bool)=>(dB t,[])) [] none).run=some (r,H')):Awp N68 LL (bodyOf Tryz.f39) N1k ⟨mkE 34 0 [(0,dL b)],[]⟩ (Ret (tlook tys) Tryz.f39.results.toList r H'):=
 ret_of' (Link.cast (by kernel_rfl) (by kernel_rfl) (link_group (c:=(cq [0,1] (bodyOf Tryz.f39))) (a:=(aq [0,1] N1k)) [(cq [0] (bodyOf Tryz.f39))] [(aq [0] N1k)] rfl (link_seq2 (N13l b) (fun(t:Unit)=>(link_seq2 (link_seq (N11b b) (fun(t:Int)=>(link_block (fin2:=(Sum.elim (fun(t10:Unit)=>(Exit.normal,⟨mkE 34 0 [],[]⟩)) (fun(t10:Bool)=>(Exit.ret,⟨mkE 34 0 [(2,dB t10)],[]⟩)))) (id:=0) (link_loop (mk:=fun(s:Int)=>⟨mkE 34 0 [(0,dL b),(20,dI t),(21,dI s)],[]⟩) (fin:=(Sum.elim (fun(t10:Bool)=>(Exit.ret,⟨mkE 34 0 [(2,dB t10)],[]⟩)) (fun(t10:Unit)=>((Exit.exit 0),⟨mkE 34 0 [],[]⟩)))) (by
 rintro(t10|t10) f K h
 ·exact h
 ·exact h) (fun s=>link_map (Ntq b t s) (Sum.elim (fun(t10:Int)=>Sum.inl t10) (Sum.elim (fun(t10:Bool)=>Sum.inr (Sum.inl t10)) (fun(t10:Unit)=>Sum.inr (Sum.inr t10)))) (by
 rintro(t10|t10|t10)
 ·kernel_rfl
 ·kernel_rfl
 ·kernel_rfl)) 0) (Sum.elim (fun(t10:Bool)=>(Sum.inr t10)) (fun(t10:Unit)=>(Sum.inl ()))) (by
 rintro(t10|t10) K h
 ·exact Eq.mp (by kernel_rfl) h
 ·exact Eq.mp (by kernel_rfl) h)))) (fun(t:Unit)=>(N16a)) (fun(t:Bool)=>t) (by
 rintro t
 ·kernel_rfl) (by
 rintro t f K h
 ·exact h))) (fun(t:Bool)=>t) (by
 rintro t
 ·kernel_rfl) (by
 rintro t f K h
 ·exact h)))) (by unfold Na;kernel_rfl) (by
 intro t
 exact ret_mk [dB t] (by kernel_rfl) (by kernel_rfl) (by kernel_rfl) (by kernel_rfl)) h
def N18:Fun:=fun avs H=>
 match avs,H with
 |[.dat (.list (.int .i64)) a],[]=>⟨_,Na a,fun(t:Bool)=>(dB t,[]),[],none⟩
 |_,_=>Ans.no
theorem N2e:Sound Tryz.prog 39 N18:=by
 refine fn_sound' (C:=N68) (c:=bodyOf Tryz.f39) (cok_of tys_ok (allc Nv3 (allc Nxy alln)) (allc Tryz.call61 (allc Tryz.call62 alln)) (by kernel_rfl)) Tryz.func39 (by kernel_rfl) LL N1k ?_
 intro avs H r H' h
 unfold N18 at h
 split at h
 ·refine Awp.cast ?_ ?_ ?_ (N165 _ h)<;>kernel_rfl
 ·simp[Ans.no,Ans.run] at h
def N1p:Ann:=(.seq (.leaf [1]) (.seq (.seq (.leaf [1,14]) (.cond (.seq (.leaf [2]) (.leaf [2])) (.leaf [1]))) (.seq (.seq (.leaf [16,17,18]) (.block (.loop (.seq (.leaf [16,17,18,19]) (.seq (.cond (.leaf [16,17,18]) (.leaf [])) (.seq (.block (.seq (.leaf [4,16,17,18]) (.seq (.leaf [16,17,18,24]) (.cond (.seq (.leaf [2]) (.leaf [2])) (.leaf [16,17,18]))))) (.leaf [16,17,18]))))))) (.seq (.leaf [2]) (.leaf [2])))))
noncomputable def N53:Ctx:=⟨tlook tys,olook [(39,N18)],ioF,0,false,[]⟩
theorem Nsw (a:List Int) (b:List (List Int)):Link N53 LL (Code.seq (cq [0] (bodyOf Tryz.f28)) (cq [0,1] (bodyOf Tryz.f28))) (Ann.seq (aq [0] N1p) (aq [0,1] N1p)) ⟨mkE 26 0 [(0,.agg [dL a,.dat (.list (.list (.int .i64))) b])],[]⟩ (N9y a b) (Sum.elim (fun(t:Unit)=>(Exit.normal,⟨mkE 26 0 [(1,.ptr 0 0)],[some (.box [dL a,.dat (.list (.list (.int .i64))) b])]⟩)) (fun(t:Bool)=>(Exit.ret,⟨mkE 26 0 [(2,dB t)],[]⟩))):= .of fun K h=>by
 simp only[N9y,wpW] at h
 exact .of (by kernel_rfl) h
theorem Nxa (a:List Int) (b:List (List Int)):Link N53 LL (cq [0,0,1,1] (bodyOf Tryz.f28)) (aq [0,0,1,1] N1p) ⟨mkE 26 0 [(1,.ptr 0 0)],[some (.box [dL a,.dat (.list (.list (.int .i64))) b])]⟩ (Nam b) (fun(t:Int)=>(Exit.normal,⟨mkE 26 0 [(16,.dat (.list (.list (.int .i64))) b),(17,dI t),(18,dI 0)],[]⟩)):= .of fun K h=>by
 simp only[Nam,wpW] at h
 exact .of (by kernel_rfl) h
theorem N16q (a:List (List Int)) (b c:Int):Link N53 LL (cq [0,0,1,0,1,1] (bodyOf Tryz.f28)) (aq [0,0,1,0,1,1] N1p) ⟨mkE 26 0 [(16,.dat (.list (.list (.int .i64))) a),(17,dI b),(18,dI c)],[]⟩ (N44 a b c) (Sum.elim (fun(t:Int)=>(Exit.normal,⟨mkE 26 0 [(16,.dat (.list (.list (.int .i64))) a),(17,dI b),(18,dI t)],[]⟩)) (Sum.elim (fun(t:Bool)=>(Exit.ret,⟨mkE 26 0 [(2,dB t)],[]⟩)) (fun(t:Unit)=>((Exit.exit 0),⟨mkE 26 0 [],[]⟩)))):= .of fun K h=>by
 simp only[N44,wpW] at h
 exact .of (by kernel_rfl) h
theorem N15q:Link N53 LL (cq [1,1,1] (bodyOf Tryz.f28)) (aq [1,1,1] N1p) ⟨mkE 26 0 [],[]⟩ (Ngr) (fun(t:Bool)=>(Exit.ret,⟨mkE 26 0 [(2,dB t)],[]⟩)):= .of fun K h=>by
 simp only[Ngr,wpW] at h
 exact .of (by kernel_rfl) h
theorem Nq1 (b:List Int) (d:List (List Int)) {r:AV} {H':Heap} (h:(Ans.mk _ (N27 b d) (fun(t:Bool)=>(dB t,[])) [] none).run=some (r,H')):Awp N53 LL (bodyOf Tryz.f28) N1p ⟨mkE 26 0 [(0,.agg [dL b,.dat (.list (.list (.int .i64))) d])],[]⟩ (Ret (tlook tys) Tryz.f28.results.toList r H'):=
 ret_of' (Link.cast (by kernel_rfl) (by kernel_rfl) (link_group (c:=(cq [0,1] (bodyOf Tryz.f28))) (a:=(aq [0,1] N1p)) [(cq [0] (bodyOf Tryz.f28))] [(aq [0] N1p)] rfl (link_seq2 (Nsw b d) (fun(t:Unit)=>(link_seq2 (link_seq (Nxa b d) (fun(t:Int)=>(link_block (fin2:=(Sum.elim (fun(t11:Unit)=>(Exit.normal,⟨mkE 26 0 [],[]⟩)) (fun(t11:Bool)=>(Exit.ret,⟨mkE 26 0 [(2,dB t11)],[]⟩)))) (id:=0) (link_loop (mk:=fun(s:Int)=>⟨mkE 26 0 [(16,.dat (.list (.list (.int .i64))) d),(17,dI t),(18,dI s)],[]⟩) (fin:=(Sum.elim (fun(t11:Bool)=>(Exit.ret,⟨mkE 26 0 [(2,dB t11)],[]⟩)) (fun(t11:Unit)=>((Exit.exit 0),⟨mkE 26 0 [],[]⟩)))) (by
 rintro(t11|t11) f K h
 ·exact h
 ·exact h) (fun s=>link_map (N16q d t s) (Sum.elim (fun(t11:Int)=>Sum.inl t11) (Sum.elim (fun(t11:Bool)=>Sum.inr (Sum.inl t11)) (fun(t11:Unit)=>Sum.inr (Sum.inr t11)))) (by
 rintro(t11|t11|t11)
 ·kernel_rfl
 ·kernel_rfl
 ·kernel_rfl)) 0) (Sum.elim (fun(t11:Bool)=>(Sum.inr t11)) (fun(t11:Unit)=>(Sum.inl ()))) (by
 rintro(t11|t11) K h
 ·exact Eq.mp (by kernel_rfl) h
 ·exact Eq.mp (by kernel_rfl) h)))) (fun(t:Unit)=>(N15q)) (fun(t:Bool)=>t) (by
 rintro t
 ·kernel_rfl) (by
 rintro t f K h
 ·exact h))) (fun(t:Bool)=>t) (by
 rintro t
 ·kernel_rfl) (by
 rintro t f K h
 ·exact h)))) (by unfold N27;kernel_rfl) (by
 intro t
 exact ret_mk [dB t] (by kernel_rfl) (by kernel_rfl) (by kernel_rfl) (by kernel_rfl)) h
def N6t:Fun:=fun avs H=>
 match avs,H with
 |[.agg [.dat (.list (.int .i64)) a,.dat (.list (.list (.int .i64))) b]],[]=>⟨_,N27 a b,fun(t:Bool)=>(dB t,[]),[],none⟩
 |_,_=>Ans.no
theorem Nd3:Sound Tryz.prog 28 N6t:=by
 refine fn_sound' (C:=N53) (c:=bodyOf Tryz.f28) (cok_of tys_ok (allc N2e alln) (allc Tryz.call39 alln) (by kernel_rfl)) Tryz.func28 (by kernel_rfl) LL N1p ?_
 intro avs H r H' h
 unfold N6t at h
 split at h
 ·refine Awp.cast ?_ ?_ ?_ (Nq1 _ _ h)<;>kernel_rfl
 ·simp[Ans.no,Ans.run] at h
def ren_slices_Clone_int_int:Go.Shelf.Ren:=⟨fun|41=>52|n=>n,fun|4=>4|22=>28|23=>3|n=>n,fun n=>n⟩
theorem lay_slices_Clone_int_int:SlLaysE0.n41 Tryz.prog ren_slices_Clone_int_int:={
 mixed:=by kernel_rfl
 f41:=⟨Tryz.f52.name,by kernel_rfl,Tryz.func52.trans (congrArg some (by kernel_rfl))⟩
 t4:=Tryz.underlying4
 a4:=Tryz.isAgg4
 z4:=Tryz.sizeOf4
 v4:=Tryz.zeroValue4
 t22:=Tryz.underlying28
 a22:=Tryz.isAgg28
 z22:=Tryz.sizeOf28
 v22:=Tryz.zeroValue28}
def Nhb:Fun:=F_cloneD
theorem Njz:Sound Tryz.prog 52 Nhb:=cloneD_sound lay_slices_Clone_int_int (infoOf (Tryz.prog.info? 3)) (.int .i64 0) 8 (by kernel_rfl) (by kernel_rfl) (by kernel_rfl) (by kernel_rfl) (by kernel_rfl) (by decide) Tryz.sizeOf3
def N2c:Ann:=(.seq (.leaf [0,1,4]) (.seq (.leaf [1,4,5]) (.seq (.seq (.leafF [⟨3,5,true,some 1,some (.int .i64)⟩] [4,5,11,12,13]) (.block (.loop (.seq (.leaf [4,5,11,12,13,14]) (.seq (.cond (.leaf [4,5,11,12,13]) (.leaf [4,5])) (.seq (.block (.seq (.leaf [4,5,7,11,12,13]) (.draw [3,100005] [0,1,2,3,4,5,6,7] [] [4,5,11,12,13]))) (.leaf [4,5,11,12,13]))))))) (.seq (.leaf [4]) (.leaf [4])))))
noncomputable def N4o:Ctx:=⟨tlook tys,olook [(52,Nhb)],ioF,0,true,[]⟩
theorem Nvn (a:List Int) (b:List (List Int)):Link N4o LL (Code.seq (cq [0] (bodyOf Tryz.f29)) (cq [0,1] (bodyOf Tryz.f29))) (Ann.seq (aq [0] N2c) (aq [0,1] N2c)) ⟨mkE 26 0 [(0,dL a),(1,.dat (.list (.list (.int .i64))) b)],[]⟩ (Nak a) (fun(t:(List Int))=>(Exit.normal,⟨mkE 26 0 [(1,.dat (.list (.list (.int .i64))) b),(4,.ptr 0 0),(5,.ptr 1 0)],[some (.box [.nils,.nils]),some (.box [.slc 2,.nils]),some (sI t)]⟩)):= .of fun K h=>by
 simp only[Nak,wpW] at h
 exact .of (by kernel_rfl) h
theorem Nzo (a:List (List Int)) (b:List Int):Link N4o LL (cq [0,0,1,1] (bodyOf Tryz.f29)) (aq [0,0,1,1] N2c) ⟨mkE 26 0 [(1,.dat (.list (.list (.int .i64))) a),(4,.ptr 0 0),(5,.ptr 1 0)],[some (.box [.nils,.nils]),some (.box [.slc 2,.nils]),some (sI b)]⟩ (N8p a) (fun(t:Int)=>(Exit.normal,⟨mkE 26 0 [(4,.ptr 0 0),(5,.ptr 1 0),(11,.dat (.list (.list (.int .i64))) a),(12,dI t),(13,dI 0)],[some (.box [.nils,.nils]),some (.box [.slc 2,.slc 3]),some (sI b),some (.nest (.int .i64) ([]:List (List Int)) 0 [])]⟩)):= .of fun K h=>by
 simp only[N8p,wpW] at h
 exact .of (by kernel_rfl) h
theorem Ny6 (a:List (List Int)) (b c:Int) (d:List Int) (g:List (List Int)):Link N4o LL (cq [0,0,1,0,1,1] (bodyOf Tryz.f29)) (aq [0,0,1,0,1,1] N2c) ⟨mkE 26 0 [(4,.ptr 0 0),(5,.ptr 1 0),(11,.dat (.list (.list (.int .i64))) a),(12,dI b),(13,dI c)],[some (.box [.nils,.nils]),some (.box [.slc 2,.slc 3]),some (sI d),some (.nest (.int .i64) g 0 [])]⟩ (N66 a b c g) (Sum.elim (fun(t:Int×(List (List Int)))=>(Exit.normal,⟨mkE 26 0 [(4,.ptr 0 0),(5,.ptr 1 0),(11,.dat (.list (.list (.int .i64))) a),(12,dI b),(13,dI t.1)],[some (.box [.nils,.nils]),some (.box [.slc 2,.slc 3]),some (sI d),some (.nest (.int .i64) t.2 0 [])]⟩)) (fun(t:(List (List Int)))=>((Exit.exit 0),⟨mkE 26 0 [(4,.ptr 0 0),(5,.ptr 1 0)],[some (.box [.nils,.nils]),some (.box [.slc 2,.slc 3]),some (sI d),some (.nest (.int .i64) t 0 [])]⟩))):= .of fun K h=>by
 simp only[N66,wpW] at h
 exact .of (by kernel_rfl) h
theorem N169 (a:List Int) (b:List (List Int)):Link N4o LL (cq [1,1,1] (bodyOf Tryz.f29)) (aq [1,1,1] N2c) ⟨mkE 26 0 [(4,.ptr 0 0),(5,.ptr 1 0)],[some (.box [.nils,.nils]),some (.box [.slc 2,.slc 3]),some (sI a),some (.nest (.int .i64) b 0 [])]⟩ (Nab a b) (fun(t:(List Int)×(List (List Int)))=>(Exit.ret,⟨mkE 26 0 [(4,.ptr 0 0)],[some (.box [.slc 1,.slc 2]),some (sI t.1),some (.nest (.int .i64) t.2 0 [])]⟩)):= .of fun K h=>by
 simp only[Nab,wpW] at h
 exact .of (by kernel_rfl) h
theorem Nw0 (b:List Int) (d:List (List Int)) {r:AV} {H':Heap} (h:(Ans.mk _ (Nc b d) (fun(t:(List Int)×(List (List Int)))=>(.agg [.slc 1,.slc 2],[some (.box [.slc 1,.slc 2]),some (sI t.1),some (.nest (.int .i64) t.2 0 [])])) [] none).run=some (r,H')):Awp N4o LL (bodyOf Tryz.f29) N2c ⟨mkE 26 0 [(0,dL b),(1,.dat (.list (.list (.int .i64))) d)],[]⟩ (Ret (tlook tys) Tryz.f29.results.toList r H'):=
 ret_of' (Link.cast (by kernel_rfl) (by kernel_rfl) (link_group (c:=(cq [0,1] (bodyOf Tryz.f29))) (a:=(aq [0,1] N2c)) [(cq [0] (bodyOf Tryz.f29))] [(aq [0] N2c)] rfl (link_seq (Nvn b d) (fun(t:(List Int))=>(link_seq (link_seq (Nzo d t) (fun(t32:Int)=>(link_block (fin2:=(fun(t12:(List (List Int)))=>(Exit.normal,⟨mkE 26 0 [(4,.ptr 0 0),(5,.ptr 1 0)],[some (.box [.nils,.nils]),some (.box [.slc 2,.slc 3]),some (sI t),some (.nest (.int .i64) t12 0 [])]⟩))) (id:=0) (link_loop (mk:=fun(s:Int×(List (List Int)))=>⟨mkE 26 0 [(4,.ptr 0 0),(5,.ptr 1 0),(11,.dat (.list (.list (.int .i64))) d),(12,dI t32),(13,dI s.1)],[some (.box [.nils,.nils]),some (.box [.slc 2,.slc 3]),some (sI t),some (.nest (.int .i64) s.2 0 [])]⟩) (fin:=(fun(t12:(List (List Int)))=>((Exit.exit 0),⟨mkE 26 0 [(4,.ptr 0 0),(5,.ptr 1 0)],[some (.box [.nils,.nils]),some (.box [.slc 2,.slc 3]),some (sI t),some (.nest (.int .i64) t12 0 [])]⟩))) (by
 rintro t12 f K h
 ·exact h) (fun s=>link_map (Ny6 d t32 s.1 t s.2) (Sum.elim (fun(t12:Int×(List (List Int)))=>Sum.inl (t12.1,t12.2)) (fun(t12:(List (List Int)))=>Sum.inr t12)) (by
 rintro(t12|t12)
 ·kernel_rfl
 ·kernel_rfl)) (0,([]:List (List Int)))) (fun(t12:(List (List Int)))=>t12) (by
 rintro t12 K h
 ·exact Eq.mp (by kernel_rfl) h)))) (fun(t32:(List (List Int)))=>(N169 t t32))))))) (by unfold Nc;kernel_rfl) (by
 intro t
 exact ret_mk [.agg [.slc 1,.slc 2]] (by kernel_rfl) (by kernel_rfl) (by kernel_rfl) (by kernel_rfl)) h
def N3s:Fun:=fun avs H=>
 match avs,H with
 |[.dat (.list (.int .i64)) a,.dat (.list (.list (.int .i64))) b],[]=>⟨_,Nc a b,fun(t:(List Int)×(List (List Int)))=>(.agg [.slc 1,.slc 2],[some (.box [.slc 1,.slc 2]),some (sI t.1),some (.nest (.int .i64) t.2 0 [])]),[],none⟩
 |_,_=>Ans.no
theorem N6l:Sound Tryz.prog 29 N3s:=by
 refine fn_sound' (C:=N4o) (c:=bodyOf Tryz.f29) (cok_of tys_ok (allc Njz alln) (allc Tryz.call52 alln) (by kernel_rfl)) Tryz.func29 (by kernel_rfl) LL N2c ?_
 intro avs H r H' h
 unfold N3s at h
 split at h
 ·refine Awp.cast ?_ ?_ ?_ (Nw0 _ _ h)<;>kernel_rfl
 ·simp[Ans.no,Ans.run] at h
def Nhj:Ann:=(.seq (.leaf [1,2]) (.seq (.leaf [1,2,4]) (.seq (.seq (.leaf [1,2,4,10]) (.cond (.seq (.leaf [2,3]) (.leaf [2,3])) (.leaf [1,2,4]))) (.seq (.draw [9] [0,1,2,3,4,5,6,7,8,9,10,11] [] [2,3]) (.leaf [2,3])))))
noncomputable def Nip:Ctx:=⟨tlook tys,olook [(29,N3s)],ioF,0,true,[]⟩
theorem Nvm (a:List Int) (b:List (List Int)):Link Nip LL (bodyOf Tryz.f57) Nhj ⟨mkE 24 0 [(0,.agg [dL a,.dat (.list (.list (.int .i64))) b])],[]⟩ (N6r a b) (fun(t:Bool×(List Int)×(List (List Int)))=>(Exit.ret,⟨mkE 24 0 [(2,.ptr 0 0),(3,dB t.1)],[some (.box [.slc 1,.slc 2]),some (sI t.2.1),some (.nest (.int .i64) t.2.2 0 [])]⟩)):= .of fun K h=>by
 simp only[N6r,wpW] at h
 exact .of (by kernel_rfl) h
theorem Nrl (a:List Int) (b:List (List Int)) {r:AV} {H':Heap} (h:(Ans.mk _ (N3z a b) (fun(t:Bool×(List Int)×(List (List Int)))=>(.tup [.agg [.slc 1,.slc 2],dB t.1],[some (.box [.slc 1,.slc 2]),some (sI t.2.1),some (.nest (.int .i64) t.2.2 0 [])])) [] none).run=some (r,H')):Awp Nip LL (bodyOf Tryz.f57) Nhj ⟨mkE 24 0 [(0,.agg [dL a,.dat (.list (.list (.int .i64))) b])],[]⟩ (Ret (tlook tys) Tryz.f57.results.toList r H'):=
 ret_of' (Nvm a b) (by unfold N3z;kernel_rfl) (by
 intro t
 exact ret_mk [.agg [.slc 1,.slc 2],dB t.1] (by kernel_rfl) (by kernel_rfl) (by kernel_rfl) (by kernel_rfl)) h
def Nez:Fun:=fun avs H=>
 match avs,H with
 |[.agg [.dat (.list (.int .i64)) a,.dat (.list (.list (.int .i64))) b]],[]=>⟨_,N3z a b,fun(t:Bool×(List Int)×(List (List Int)))=>(.tup [.agg [.slc 1,.slc 2],dB t.1],[some (.box [.slc 1,.slc 2]),some (sI t.2.1),some (.nest (.int .i64) t.2.2 0 [])]),[],none⟩
 |_,_=>Ans.no
theorem Npx:Sound Tryz.prog 57 Nez:=by
 refine fn_sound' (C:=Nip) (c:=bodyOf Tryz.f57) (cok_of tys_ok (allc N6l alln) (allc Tryz.call29 alln) (by kernel_rfl)) Tryz.func57 (by kernel_rfl) LL Nhj ?_
 intro avs H r H' h
 unfold Nez at h
 split at h
 ·refine Awp.cast ?_ ?_ ?_ (Nrl _ _ h)<;>kernel_rfl
 ·simp[Ans.no,Ans.run] at h
def Nhh:Ann:=(.seq (.leaf [0,1]) (.seq (.leaf [4]) (.leaf [4])))
noncomputable def Nhd:Ctx:=⟨tlook tys,olook [(39,N18)],ioF,0,false,[]⟩
theorem Nzp (a:List Int) (b:Int):Link Nhd LL (bodyOf Tryz.f132) Nhh ⟨mkE 17 0 [(0,dL a),(1,dI b)],[]⟩ (N7g a b) (fun(t:Bool)=>(Exit.ret,⟨mkE 17 0 [(4,dB t)],[]⟩)):= .of fun K h=>by
 simp only[N7g,wpW] at h
 exact .of (by kernel_rfl) h
theorem N17c (a:List Int) (b:Int) {r:AV} {H':Heap} (h:(Ans.mk _ (N40 a b) (fun(t:Bool)=>(dB t,[])) [] none).run=some (r,H')):Awp Nhd LL (bodyOf Tryz.f132) Nhh ⟨mkE 17 0 [(0,dL a),(1,dI b)],[]⟩ (Ret (tlook tys) Tryz.f132.results.toList r H'):=
 ret_of' (Nzp a b) (by unfold N40;kernel_rfl) (by
 intro t
 exact ret_mk [dB t] (by kernel_rfl) (by kernel_rfl) (by kernel_rfl) (by kernel_rfl)) h
def Ndq:Fun:=fun avs H=>
 match avs,H with
 |[.dat (.list (.int .i64)) a,.dat (.int .i64) b],[]=>⟨_,N40 a b,fun(t:Bool)=>(dB t,[]),[],none⟩
 |_,_=>Ans.no
theorem Nxz:Sound Tryz.prog 132 Ndq:=by
 refine fn_sound' (C:=Nhd) (c:=bodyOf Tryz.f132) (cok_of tys_ok (allc N2e alln) (allc Tryz.call39 alln) (by kernel_rfl)) Tryz.func132 (by kernel_rfl) LL Nhh ?_
 intro avs H r H' h
 unfold Ndq at h
 split at h
 ·refine Awp.cast ?_ ?_ ?_ (N17c _ _ h)<;>kernel_rfl
 ·simp[Ans.no,Ans.run] at h
def N1o:Ann:=(.seq (.leaf [0]) (.seq (.leaf [0,3]) (.seq (.seq (.leaf [0,3,8,9]) (.block (.loop (.seq (.leaf [0,3,8,9,10]) (.seq (.cond (.leaf [0,3,8,9]) (.leaf [3])) (.seq (.block (.seq (.leaf [0,3,4,8,9]) (.leaf [0,3,8,9]))) (.leaf [0,3,8,9]))))))) (.seq (.leaf [2]) (.leaf [2])))))
noncomputable def N51:Ctx:=⟨tlook tys,olook [],ioF,0,false,[]⟩
theorem Nur (a:Int):Link N51 LL (Code.seq (cq [0] (bodyOf Tryz.f177)) (cq [0,1] (bodyOf Tryz.f177))) (Ann.seq (aq [0] N1o) (aq [0,1] N1o)) ⟨mkE 20 0 [(0,dI a)],[]⟩ (Nah a) (fun(t:(List Int))=>(Exit.normal,⟨mkE 20 0 [(0,dI a),(3,.slc 0)],[some (sI t)]⟩)):= .of fun K h=>by
 simp only[Nah,wpW] at h
 exact .of (by kernel_rfl) h
theorem Nvf (a:Int) (b:List Int):Link N51 LL (cq [0,0,1,1] (bodyOf Tryz.f177)) (aq [0,0,1,1] N1o) ⟨mkE 20 0 [(0,dI a),(3,.slc 0)],[some (sI b)]⟩ (N9k b) (fun(t:Int)=>(Exit.normal,⟨mkE 20 0 [(0,dI a),(3,.slc 0),(8,dI t),(9,dI 0)],[some (sI b)]⟩)):= .of fun K h=>by
 simp only[N9k,wpW] at h
 exact .of (by kernel_rfl) h
theorem N153 (a b c:Int) (d:List Int):Link N51 LL (cq [0,0,1,0,1,1] (bodyOf Tryz.f177)) (aq [0,0,1,0,1,1] N1o) ⟨mkE 20 0 [(0,dI a),(3,.slc 0),(8,dI b),(9,dI c)],[some (sI d)]⟩ (N61 a b c d) (Sum.elim (fun(t:Int×(List Int))=>(Exit.normal,⟨mkE 20 0 [(0,dI a),(3,.slc 0),(8,dI b),(9,dI t.1)],[some (sI t.2)]⟩)) (fun(t:(List Int))=>((Exit.exit 0),⟨mkE 20 0 [(3,.slc 0)],[some (sI t)]⟩))):= .of fun K h=>by
 simp only[N61,wpW] at h
 exact .of (by kernel_rfl) h
theorem Nzi (a:List Int):Link N51 LL (cq [1,1,1] (bodyOf Tryz.f177)) (aq [1,1,1] N1o) ⟨mkE 20 0 [(3,.slc 0)],[some (sI a)]⟩ (N9m a) (fun(t:(List Int))=>(Exit.ret,⟨mkE 20 0 [(2,.slc 0)],[some (sI t)]⟩)):= .of fun K h=>by
 simp only[N9m,wpW] at h
 exact .of (by kernel_rfl) h
theorem N16f (b:Int) {r:AV} {H':Heap} (h:(Ans.mk _ (N3p b) (fun(t:(List Int))=>(.slc 0,[some (sI t)])) [] none).run=some (r,H')):Awp N51 LL (bodyOf Tryz.f177) N1o ⟨mkE 20 0 [(0,dI b)],[]⟩ (Ret (tlook tys) Tryz.f177.results.toList r H'):=
 ret_of' (Link.cast (by kernel_rfl) (by kernel_rfl) (link_group (c:=(cq [0,1] (bodyOf Tryz.f177))) (a:=(aq [0,1] N1o)) [(cq [0] (bodyOf Tryz.f177))] [(aq [0] N1o)] rfl (link_seq (Nur b) (fun(t:(List Int))=>(link_seq (link_seq (Nvf b t) (fun(t33:Int)=>(link_block (fin2:=(fun(t13:(List Int))=>(Exit.normal,⟨mkE 20 0 [(3,.slc 0)],[some (sI t13)]⟩))) (id:=0) (link_loop (mk:=fun(s:Int×(List Int))=>⟨mkE 20 0 [(0,dI b),(3,.slc 0),(8,dI t33),(9,dI s.1)],[some (sI s.2)]⟩) (fin:=(fun(t13:(List Int))=>((Exit.exit 0),⟨mkE 20 0 [(3,.slc 0)],[some (sI t13)]⟩))) (by
 rintro t13 f K h
 ·exact h) (fun s=>link_map (N153 b t33 s.1 s.2) (Sum.elim (fun(t13:Int×(List Int))=>Sum.inl (t13.1,t13.2)) (fun(t13:(List Int))=>Sum.inr t13)) (by
 rintro(t13|t13)
 ·kernel_rfl
 ·kernel_rfl)) (0,t)) (fun(t13:(List Int))=>t13) (by
 rintro t13 K h
 ·exact Eq.mp (by kernel_rfl) h)))) (fun(t33:(List Int))=>(Nzi t33))))))) (by unfold N3p;kernel_rfl) (by
 intro t
 exact ret_mk [.slc 0] (by kernel_rfl) (by kernel_rfl) (by kernel_rfl) (by kernel_rfl)) h
def Nik:Fun:=fun avs H=>
 match avs,H with
 |[.dat (.int .i64) a],[]=>⟨_,N3p a,fun(t:(List Int))=>(.slc 0,[some (sI t)]),[],none⟩
 |_,_=>Ans.no
theorem Nwb:Sound Tryz.prog 177 Nik:=by
 refine fn_sound' (C:=N51) (c:=bodyOf Tryz.f177) (cok_of tys_ok (alln) (alln) (by kernel_rfl)) Tryz.func177 (by kernel_rfl) LL N1o ?_
 intro avs H r H' h
 unfold Nik at h
 split at h
 ·refine Awp.cast ?_ ?_ ?_ (N16f _ h)<;>kernel_rfl
 ·simp[Ans.no,Ans.run] at h
def N12:Ann:=(.seq (.leaf [0,1]) (.seq (.seq (.leaf [0,1,19]) (.cond (.seq (.leaf [4]) (.leaf [4])) (.leaf [0,1]))) (.seq (.leaf [0,1,5]) (.seq (.seq (.leaf [1,5,20,21,22]) (.block (.loop (.seq (.leaf [1,5,20,21,22,23]) (.seq (.cond (.leaf [1,5,20,21,22]) (.leaf [])) (.seq (.block (.seq (.leaf [1,5,7,20,21,22]) (.seq (.seq (.leaf [1,5,7,20,21,22,37]) (.cond (.seq (.leaf [4]) (.leaf [4])) (.leaf [1,5,7,20,21,22]))) (.leaf [1,5,20,21,22])))) (.leaf [1,5,20,21,22]))))))) (.seq (.leaf [4]) (.leaf [4]))))))
noncomputable def N4a:Ctx:=⟨tlook tys,olook [],ioF,0,false,[]⟩
theorem Nqf (a:List Int) (b:Int):Link N4a LL (Code.seq (cq [0] (bodyOf Tryz.f193)) (Code.seq (cq [0,1] (bodyOf Tryz.f193)) (cq [0,1,1] (bodyOf Tryz.f193)))) (Ann.seq (aq [0] N12) (Ann.seq (aq [0,1] N12) (aq [0,1,1] N12))) ⟨mkE 41 0 [(0,dL a),(1,dI b)],[]⟩ (N9d a b) (Sum.elim (fun(t:Unit)=>(Exit.normal,⟨mkE 41 0 [(0,dL a),(1,dI b),(5,.ptr 0 0)],[some (.seq .bool (List.replicate 9 false))]⟩)) (fun(t:Bool)=>(Exit.ret,⟨mkE 41 0 [(4,dB t)],[]⟩))):= .of fun K h=>by
 simp only[N9d,wpW] at h
 exact .of (by kernel_rfl) h
theorem Nqa (a:List Int) (b:Int):Link N4a LL (cq [0,0,1,1,1] (bodyOf Tryz.f193)) (aq [0,0,1,1,1] N12) ⟨mkE 41 0 [(0,dL a),(1,dI b),(5,.ptr 0 0)],[some (.seq .bool (List.replicate 9 false))]⟩ (Nbn a) (fun(t:Int)=>(Exit.normal,⟨mkE 41 0 [(1,dI b),(5,.ptr 0 0),(20,dL a),(21,dI t),(22,dI 0)],[some (.seq .bool (List.replicate 9 false))]⟩)):= .of fun K h=>by
 simp only[Nbn,wpW] at h
 exact .of (by kernel_rfl) h
theorem N15w (a:Int) (b:List Int) (c d:Int) (g:List Bool):Link N4a LL (cq [0,0,1,0,1,1,1] (bodyOf Tryz.f193)) (aq [0,0,1,0,1,1,1] N12) ⟨mkE 41 0 [(1,dI a),(5,.ptr 0 0),(20,dL b),(21,dI c),(22,dI d)],[some (.seq .bool g)]⟩ (N6u a b c d g) (Sum.elim (fun(t:Int×(List Bool))=>(Exit.normal,⟨mkE 41 0 [(1,dI a),(5,.ptr 0 0),(20,dL b),(21,dI c),(22,dI t.1)],[some (.seq .bool t.2)]⟩)) (Sum.elim (fun(t:Bool)=>(Exit.ret,⟨mkE 41 0 [(4,dB t)],[]⟩)) (fun(t:Unit)=>((Exit.exit 0),⟨mkE 41 0 [],[]⟩)))):= .of fun K h=>by
 simp only[N6u,wpW] at h
 exact .of (by kernel_rfl) h
theorem Nyr:Link N4a LL (cq [1,1,1,1] (bodyOf Tryz.f193)) (aq [1,1,1,1] N12) ⟨mkE 41 0 [],[]⟩ (Nc4) (fun(t:Bool)=>(Exit.ret,⟨mkE 41 0 [(4,dB t)],[]⟩)):= .of fun K h=>by
 simp only[Nc4,wpW] at h
 exact .of (by kernel_rfl) h
theorem N121 (b:List Int) (d:Int) {r:AV} {H':Heap} (h:(Ans.mk _ (N60 b d) (fun(t:Bool)=>(dB t,[])) [] none).run=some (r,H')):Awp N4a LL (bodyOf Tryz.f193) N12 ⟨mkE 41 0 [(0,dL b),(1,dI d)],[]⟩ (Ret (tlook tys) Tryz.f193.results.toList r H'):=
 ret_of' (Link.cast (by kernel_rfl) (by kernel_rfl) (link_group (c:=(cq [0,1,1] (bodyOf Tryz.f193))) (a:=(aq [0,1,1] N12)) [(cq [0] (bodyOf Tryz.f193)),(cq [0,1] (bodyOf Tryz.f193))] [(aq [0] N12),(aq [0,1] N12)] rfl (link_seq2 (Nqf b d) (fun(t:Unit)=>(link_seq2 (link_seq (Nqa b d) (fun(t:Int)=>(link_block (fin2:=(Sum.elim (fun(t14:Unit)=>(Exit.normal,⟨mkE 41 0 [],[]⟩)) (fun(t14:Bool)=>(Exit.ret,⟨mkE 41 0 [(4,dB t14)],[]⟩)))) (id:=0) (link_loop (mk:=fun(s:Int×(List Bool))=>⟨mkE 41 0 [(1,dI d),(5,.ptr 0 0),(20,dL b),(21,dI t),(22,dI s.1)],[some (.seq .bool s.2)]⟩) (fin:=(Sum.elim (fun(t14:Bool)=>(Exit.ret,⟨mkE 41 0 [(4,dB t14)],[]⟩)) (fun(t14:Unit)=>((Exit.exit 0),⟨mkE 41 0 [],[]⟩)))) (by
 rintro(t14|t14) f K h
 ·exact h
 ·exact h) (fun s=>link_map (N15w d b t s.1 s.2) (Sum.elim (fun(t14:Int×(List Bool))=>Sum.inl (t14.1,t14.2)) (Sum.elim (fun(t14:Bool)=>Sum.inr (Sum.inl t14)) (fun(t14:Unit)=>Sum.inr (Sum.inr t14)))) (by
 rintro(t14|t14|t14)
 ·kernel_rfl
 ·kernel_rfl
 ·kernel_rfl)) (0,(List.replicate 9 false))) (Sum.elim (fun(t14:Bool)=>(Sum.inr t14)) (fun(t14:Unit)=>(Sum.inl ()))) (by
 rintro(t14|t14) K h
 ·exact Eq.mp (by kernel_rfl) h
 ·exact Eq.mp (by kernel_rfl) h)))) (fun(t:Unit)=>(Nyr)) (fun(t:Bool)=>t) (by
 rintro t
 ·kernel_rfl) (by
 rintro t f K h
 ·exact h))) (fun(t:Bool)=>t) (by
 rintro t
 ·kernel_rfl) (by
 rintro t f K h
 ·exact h)))) (by unfold N60;kernel_rfl) (by
 intro t
 exact ret_mk [dB t] (by kernel_rfl) (by kernel_rfl) (by kernel_rfl) (by kernel_rfl)) h
def Nfb:Fun:=fun avs H=>
 match avs,H with
 |[.dat (.list (.int .i64)) a,.dat (.int .i64) b],[]=>⟨_,N60 a b,fun(t:Bool)=>(dB t,[]),[],none⟩
 |_,_=>Ans.no
theorem N16z:Sound Tryz.prog 193 Nfb:=by
 refine fn_sound' (C:=N4a) (c:=bodyOf Tryz.f193) (cok_of tys_ok (alln) (alln) (by kernel_rfl)) Tryz.func193 (by kernel_rfl) LL N12 ?_
 intro avs H r H' h
 unfold Nfb at h
 split at h
 ·refine Awp.cast ?_ ?_ ?_ (N121 _ _ h)<;>kernel_rfl
 ·simp[Ans.no,Ans.run] at h
def N1h:Ann:=(.seq (.leaf [0]) (.seq (.leaf [0,3]) (.seq (.seq (.leaf [3,10,11,12]) (.block (.loop (.seq (.leaf [3,10,11,12,13]) (.seq (.cond (.leaf [3,10,11,12]) (.leaf [3])) (.seq (.block (.seq (.leaf [3,4,5,10,11,12]) (.leaf [3,10,11,12]))) (.leaf [3,10,11,12]))))))) (.seq (.leaf [2]) (.leaf [2])))))
noncomputable def N4i:Ctx:=⟨tlook tys,olook [],ioF,0,false,[]⟩
theorem Nzz (a:List Int):Link N4i LL (Code.seq (cq [0] (bodyOf Tryz.f223)) (cq [0,1] (bodyOf Tryz.f223))) (Ann.seq (aq [0] N1h) (aq [0,1] N1h)) ⟨mkE 24 0 [(0,dL a)],[]⟩ (Nay a) (fun(t:(List Int))=>(Exit.normal,⟨mkE 24 0 [(0,dL a),(3,.slc 0)],[some (sI t)]⟩)):= .of fun K h=>by
 simp only[Nay,wpW] at h
 exact .of (by kernel_rfl) h
theorem N16c (a b:List Int):Link N4i LL (cq [0,0,1,1] (bodyOf Tryz.f223)) (aq [0,0,1,1] N1h) ⟨mkE 24 0 [(0,dL a),(3,.slc 0)],[some (sI b)]⟩ (Nc1 a) (fun(t:Int)=>(Exit.normal,⟨mkE 24 0 [(3,.slc 0),(10,dL a),(11,dI t),(12,dI 0)],[some (sI b)]⟩)):= .of fun K h=>by
 simp only[Nc1,wpW] at h
 exact .of (by kernel_rfl) h
theorem N12u (a:List Int) (b c:Int) (d:List Int):Link N4i LL (cq [0,0,1,0,1,1] (bodyOf Tryz.f223)) (aq [0,0,1,0,1,1] N1h) ⟨mkE 24 0 [(3,.slc 0),(10,dL a),(11,dI b),(12,dI c)],[some (sI d)]⟩ (N56 a b c d) (Sum.elim (fun(t:Int×(List Int))=>(Exit.normal,⟨mkE 24 0 [(3,.slc 0),(10,dL a),(11,dI b),(12,dI t.1)],[some (sI t.2)]⟩)) (fun(t:(List Int))=>((Exit.exit 0),⟨mkE 24 0 [(3,.slc 0)],[some (sI t)]⟩))):= .of fun K h=>by
 simp only[N56,wpW] at h
 exact .of (by kernel_rfl) h
theorem N13v (a:List Int):Link N4i LL (cq [1,1,1] (bodyOf Tryz.f223)) (aq [1,1,1] N1h) ⟨mkE 24 0 [(3,.slc 0)],[some (sI a)]⟩ (N8w a) (fun(t:(List Int))=>(Exit.ret,⟨mkE 24 0 [(2,.slc 0)],[some (sI t)]⟩)):= .of fun K h=>by
 simp only[N8w,wpW] at h
 exact .of (by kernel_rfl) h
theorem N11m (b:List Int) {r:AV} {H':Heap} (h:(Ans.mk _ (N5v b) (fun(t:(List Int))=>(.slc 0,[some (sI t)])) [] none).run=some (r,H')):Awp N4i LL (bodyOf Tryz.f223) N1h ⟨mkE 24 0 [(0,dL b)],[]⟩ (Ret (tlook tys) Tryz.f223.results.toList r H'):=
 ret_of' (Link.cast (by kernel_rfl) (by kernel_rfl) (link_group (c:=(cq [0,1] (bodyOf Tryz.f223))) (a:=(aq [0,1] N1h)) [(cq [0] (bodyOf Tryz.f223))] [(aq [0] N1h)] rfl (link_seq (Nzz b) (fun(t:(List Int))=>(link_seq (link_seq (N16c b t) (fun(t34:Int)=>(link_block (fin2:=(fun(t15:(List Int))=>(Exit.normal,⟨mkE 24 0 [(3,.slc 0)],[some (sI t15)]⟩))) (id:=0) (link_loop (mk:=fun(s:Int×(List Int))=>⟨mkE 24 0 [(3,.slc 0),(10,dL b),(11,dI t34),(12,dI s.1)],[some (sI s.2)]⟩) (fin:=(fun(t15:(List Int))=>((Exit.exit 0),⟨mkE 24 0 [(3,.slc 0)],[some (sI t15)]⟩))) (by
 rintro t15 f K h
 ·exact h) (fun s=>link_map (N12u b t34 s.1 s.2) (Sum.elim (fun(t15:Int×(List Int))=>Sum.inl (t15.1,t15.2)) (fun(t15:(List Int))=>Sum.inr t15)) (by
 rintro(t15|t15)
 ·kernel_rfl
 ·kernel_rfl)) (0,t)) (fun(t15:(List Int))=>t15) (by
 rintro t15 K h
 ·exact Eq.mp (by kernel_rfl) h)))) (fun(t34:(List Int))=>(N13v t34))))))) (by unfold N5v;kernel_rfl) (by
 intro t
 exact ret_mk [.slc 0] (by kernel_rfl) (by kernel_rfl) (by kernel_rfl) (by kernel_rfl)) h
def Nid:Fun:=fun avs H=>
 match avs,H with
 |[.dat (.list (.int .i64)) a],[]=>⟨_,N5v a,fun(t:(List Int))=>(.slc 0,[some (sI t)]),[],none⟩
 |_,_=>Ans.no
theorem Npy:Sound Tryz.prog 223 Nid:=by
 refine fn_sound' (C:=N4i) (c:=bodyOf Tryz.f223) (cok_of tys_ok (alln) (alln) (by kernel_rfl)) Tryz.func223 (by kernel_rfl) LL N1h ?_
 intro avs H r H' h
 unfold Nid at h
 split at h
 ·refine Awp.cast ?_ ?_ ?_ (N11m _ h)<;>kernel_rfl
 ·simp[Ans.no,Ans.run] at h
def Ni4:Ann:=(.seq (.leaf [0,1]) (.seq (.leaf [3]) (.leaf [3])))
noncomputable def Nej:Ctx:=⟨tlook tys,olook [],ioF,2,false,[]⟩
theorem N138 (a:Int) (b:List Int):Link Nej LL (bodyOf Tryz.f225) Ni4 ⟨mkE 8 0 [(0,dI a),(1,.ptr 0 0)],[some (.box [.slc 1]),some (sI b)]⟩ (N9n a b) (fun(t:Int)=>(Exit.ret,⟨mkE 8 0 [(3,dI t)],[some (.box [.slc 1]),some (sI b)]⟩)):= .of fun K h=>by
 simp only[N9n,wpW] at h
 exact .of (by kernel_rfl) h
theorem N17g (a:Int) (b:List Int) {r:AV} {H':Heap} (h:(Ans.mk _ (N5t a b) (fun(t:Int)=>(dI t,[some (.box [.slc 1]),some (sI b)])) [] none).run=some (r,H')):Awp Nej LL (bodyOf Tryz.f225) Ni4 ⟨mkE 8 0 [(0,dI a),(1,.ptr 0 0)],[some (.box [.slc 1]),some (sI b)]⟩ (Ret (tlook tys) Tryz.f225.results.toList r H'):=
 ret_of' (N138 a b) (by unfold N5t;kernel_rfl) (by
 intro t
 exact ret_mk [dI t] (by kernel_rfl) (by kernel_rfl) (by kernel_rfl) (by kernel_rfl)) h
def Nhy:Fun:=fun avs H=>
 match avs,H with
 |[.dat (.int .i64) a,.ptr 0 0],[some (.box [.slc 1]),some (.seq (.int .i64) b)]=>⟨_,N5t a b,fun(t:Int)=>(dI t,[some (.box [.slc 1]),some (sI b)]),[],none⟩
 |_,_=>Ans.no
theorem N13m:Sound Tryz.prog 225 Nhy:=by
 refine fn_sound' (C:=Nej) (c:=bodyOf Tryz.f225) (cok_of tys_ok (alln) (alln) (by kernel_rfl)) Tryz.func225 (by kernel_rfl) LL Ni4 ?_
 intro avs H r H' h
 unfold Nhy at h
 split at h
 ·refine Awp.cast ?_ ?_ ?_ (N17g _ _ h)<;>kernel_rfl
 ·simp[Ans.no,Ans.run] at h
def N1u:Ann:=(.seq (.leaf [0,1,2]) (.seq (.leaf [0,1,2,7]) (.seq (.seq (.leaf [0,2,7,13,14,15]) (.block (.loop (.seq (.leaf [0,2,7,13,14,15,16]) (.seq (.cond (.leaf [0,2,7,13,14,15]) (.leaf [7])) (.seq (.block (.seq (.leaf [0,2,7,8,9,13,14,15]) (.leaf [0,2,7,13,14,15]))) (.leaf [0,2,7,13,14,15]))))))) (.seq (.leaf [6]) (.leaf [6])))))
noncomputable def N4z:Ctx:=⟨tlook tys,olook [(225,Nhy)],ioF,2,false,[]⟩
theorem N18j (a b c:List Int):Link N4z LL (Code.seq (cq [0] (bodyOf Tryz.f224)) (cq [0,1] (bodyOf Tryz.f224))) (Ann.seq (aq [0] N1u) (aq [0,1] N1u)) ⟨mkE 32 0 [(0,dL a),(1,dL b),(2,.fn 225 [] [.ptr 0 0])],[some (.box [.slc 1]),some (sI c)]⟩ (N8i b) (fun(t:(List Int))=>(Exit.normal,⟨mkE 32 0 [(0,dL a),(1,dL b),(2,.fn 225 [] [.ptr 0 0]),(7,.slc 2)],[some (.box [.slc 1]),some (sI c),some (sI t)]⟩)):= .of fun K h=>by
 simp only[N8i,wpW] at h
 exact .of (by kernel_rfl) h
theorem Nv7 (a b c d:List Int):Link N4z LL (cq [0,0,1,1] (bodyOf Tryz.f224)) (aq [0,0,1,1] N1u) ⟨mkE 32 0 [(0,dL a),(1,dL b),(2,.fn 225 [] [.ptr 0 0]),(7,.slc 2)],[some (.box [.slc 1]),some (sI c),some (sI d)]⟩ (N9o b) (fun(t:Int)=>(Exit.normal,⟨mkE 32 0 [(0,dL a),(2,.fn 225 [] [.ptr 0 0]),(7,.slc 2),(13,dL b),(14,dI t),(15,dI 0)],[some (.box [.slc 1]),some (sI c),some (sI d)]⟩)):= .of fun K h=>by
 simp only[N9o,wpW] at h
 exact .of (by kernel_rfl) h
theorem N11n (a b:List Int) (c d:Int) (g i:List Int):Link N4z LL (cq [0,0,1,0,1,1] (bodyOf Tryz.f224)) (aq [0,0,1,0,1,1] N1u) ⟨mkE 32 0 [(0,dL a),(2,.fn 225 [] [.ptr 0 0]),(7,.slc 2),(13,dL b),(14,dI c),(15,dI d)],[some (.box [.slc 1]),some (sI g),some (sI i)]⟩ (N6a a b c d g i) (Sum.elim (fun(t:Int×(List Int))=>(Exit.normal,⟨mkE 32 0 [(0,dL a),(2,.fn 225 [] [.ptr 0 0]),(7,.slc 2),(13,dL b),(14,dI c),(15,dI t.1)],[some (.box [.slc 1]),some (sI g),some (sI t.2)]⟩)) (fun(t:(List Int))=>((Exit.exit 0),⟨mkE 32 0 [(7,.slc 2)],[some (.box [.slc 1]),some (sI g),some (sI t)]⟩))):= .of fun K h=>by
 simp only[N6a,wpW] at h
 exact .of (by kernel_rfl) h
theorem Nty (a b:List Int):Link N4z LL (cq [1,1,1] (bodyOf Tryz.f224)) (aq [1,1,1] N1u) ⟨mkE 32 0 [(7,.slc 2)],[some (.box [.slc 1]),some (sI a),some (sI b)]⟩ (N9f b) (fun(t:(List Int))=>(Exit.ret,⟨mkE 32 0 [(6,.slc 2)],[some (.box [.slc 1]),some (sI a),some (sI t)]⟩)):= .of fun K h=>by
 simp only[N9f,wpW] at h
 exact .of (by kernel_rfl) h
theorem N17p (b d g:List Int) {r:AV} {H':Heap} (h:(Ans.mk _ (N75 b d g) (fun(t:(List Int))=>(.slc 2,[some (.box [.slc 1]),some (sI g),some (sI t)])) [] none).run=some (r,H')):Awp N4z LL (bodyOf Tryz.f224) N1u ⟨mkE 32 0 [(0,dL b),(1,dL d),(2,.fn 225 [] [.ptr 0 0])],[some (.box [.slc 1]),some (sI g)]⟩ (Ret (tlook tys) Tryz.f224.results.toList r H'):=
 ret_of' (Link.cast (by kernel_rfl) (by kernel_rfl) (link_group (c:=(cq [0,1] (bodyOf Tryz.f224))) (a:=(aq [0,1] N1u)) [(cq [0] (bodyOf Tryz.f224))] [(aq [0] N1u)] rfl (link_seq (N18j b d g) (fun(t:(List Int))=>(link_seq (link_seq (Nv7 b d g t) (fun(t35:Int)=>(link_block (fin2:=(fun(t16:(List Int))=>(Exit.normal,⟨mkE 32 0 [(7,.slc 2)],[some (.box [.slc 1]),some (sI g),some (sI t16)]⟩))) (id:=0) (link_loop (mk:=fun(s:Int×(List Int))=>⟨mkE 32 0 [(0,dL b),(2,.fn 225 [] [.ptr 0 0]),(7,.slc 2),(13,dL d),(14,dI t35),(15,dI s.1)],[some (.box [.slc 1]),some (sI g),some (sI s.2)]⟩) (fin:=(fun(t16:(List Int))=>((Exit.exit 0),⟨mkE 32 0 [(7,.slc 2)],[some (.box [.slc 1]),some (sI g),some (sI t16)]⟩))) (by
 rintro t16 f K h
 ·exact h) (fun s=>link_map (N11n b d t35 s.1 g s.2) (Sum.elim (fun(t16:Int×(List Int))=>Sum.inl (t16.1,t16.2)) (fun(t16:(List Int))=>Sum.inr t16)) (by
 rintro(t16|t16)
 ·kernel_rfl
 ·kernel_rfl)) (0,t)) (fun(t16:(List Int))=>t16) (by
 rintro t16 K h
 ·exact Eq.mp (by kernel_rfl) h)))) (fun(t35:(List Int))=>(Nty g t35))))))) (by unfold N75;kernel_rfl) (by
 intro t
 exact ret_mk [.slc 2] (by kernel_rfl) (by kernel_rfl) (by kernel_rfl) (by kernel_rfl)) h
def Nev:Fun:=fun avs H=>
 match avs,H with
 |[.dat (.list (.int .i64)) a,.dat (.list (.int .i64)) b,.fn 225 [] [.ptr 0 0]],[some (.box [.slc 1]),some (.seq (.int .i64) c)]=>⟨_,N75 a b c,fun(t:(List Int))=>(.slc 2,[some (.box [.slc 1]),some (sI c),some (sI t)]),[],none⟩
 |_,_=>Ans.no
theorem N16r:Sound Tryz.prog 224 Nev:=by
 refine fn_sound' (C:=N4z) (c:=bodyOf Tryz.f224) (cok_of tys_ok (allc N13m alln) (allc Tryz.call225 alln) (by kernel_rfl)) Tryz.func224 (by kernel_rfl) LL N1u ?_
 intro avs H r H' h
 unfold Nev at h
 split at h
 ·refine Awp.cast ?_ ?_ ?_ (N17p _ _ _ h)<;>kernel_rfl
 ·simp[Ans.no,Ans.run] at h
def Nh2:Ann:=(.seq (.leaf [0,1]) (.seq (.seq (.leaf [0,1,16]) (.cond (.seq (.leaf [4,5]) (.leaf [4,5])) (.leaf [0,1]))) (.seq (.leaf [0,1,6]) (.seq (.leaf [4,5]) (.leaf [4,5])))))
noncomputable def Nhq:Ctx:=⟨tlook tys,olook [(39,N18),(193,Nfb),(223,Nid),(224,Nev)],ioF,0,false,[]⟩
theorem N11k (a b:List Int):Link Nhq LL (bodyOf Tryz.f176) Nh2 ⟨mkE 23 0 [(0,dL a),(1,dL b)],[]⟩ (Na3 a b) (fun(t:Bool×(List Int))=>(Exit.ret,⟨mkE 23 0 [(4,.slc 0),(5,dB t.1)],[some (sI t.2)]⟩)):= .of fun K h=>by
 simp only[Na3,wpW] at h
 exact .of (by kernel_rfl) h
theorem Nu6 (a b:List Int) {r:AV} {H':Heap} (h:(Ans.mk _ (N38 a b) (fun(t:Bool×(List Int))=>(.tup [.slc 0,dB t.1],[some (sI t.2)])) [] none).run=some (r,H')):Awp Nhq LL (bodyOf Tryz.f176) Nh2 ⟨mkE 23 0 [(0,dL a),(1,dL b)],[]⟩ (Ret (tlook tys) Tryz.f176.results.toList r H'):=
 ret_of' (N11k a b) (by unfold N38;kernel_rfl) (by
 intro t
 exact ret_mk [.slc 0,dB t.1] (by kernel_rfl) (by kernel_rfl) (by kernel_rfl) (by kernel_rfl)) h
def N7z:Fun:=fun avs H=>
 match avs,H with
 |[.dat (.list (.int .i64)) a,.dat (.list (.int .i64)) b],[]=>⟨_,N38 a b,fun(t:Bool×(List Int))=>(.tup [.slc 0,dB t.1],[some (sI t.2)]),[],none⟩
 |_,_=>Ans.no
theorem Nma:Sound Tryz.prog 176 N7z:=by
 refine fn_sound' (C:=Nhq) (c:=bodyOf Tryz.f176) (cok_of tys_ok (allc N2e (allc N16z (allc Npy (allc N16r alln)))) (allc Tryz.call39 (allc Tryz.call193 (allc Tryz.call223 (allc Tryz.call224 alln)))) (by kernel_rfl)) Tryz.func176 (by kernel_rfl) LL Nh2 ?_
 intro avs H r H' h
 unfold N7z at h
 split at h
 ·refine Awp.cast ?_ ?_ ?_ (Nu6 _ _ h)<;>kernel_rfl
 ·simp[Ans.no,Ans.run] at h
def Nep:Ann:=(.seq (.leaf [0]) (.seq (.seq (.leaf [0,7]) (.cond (.seq (.leaf [2]) (.leaf [2])) (.leaf [0]))) (.seq (.leaf [3]) (.seq (.leaf [2]) (.leaf [2])))))
noncomputable def Nfv:Ctx:=⟨tlook tys,olook [(39,N18),(177,Nik),(176,N7z)],ioF,0,false,[]⟩
theorem N14t (a:List Int):Link Nfv LL (bodyOf Tryz.f135) Nep ⟨mkE 17 0 [(0,dL a)],[]⟩ (N6b a) (fun(t:(List Int))=>(Exit.ret,⟨mkE 17 0 [(2,.slc 0)],[some (sI t)]⟩)):= .of fun K h=>by
 simp only[N6b,wpW] at h
 exact .of (by kernel_rfl) h
theorem Ny7 (a:List Int) {r:AV} {H':Heap} (h:(Ans.mk _ (N3d a) (fun(t:(List Int))=>(.slc 0,[some (sI t)])) [] none).run=some (r,H')):Awp Nfv LL (bodyOf Tryz.f135) Nep ⟨mkE 17 0 [(0,dL a)],[]⟩ (Ret (tlook tys) Tryz.f135.results.toList r H'):=
 ret_of' (N14t a) (by unfold N3d;kernel_rfl) (by
 intro t
 exact ret_mk [.slc 0] (by kernel_rfl) (by kernel_rfl) (by kernel_rfl) (by kernel_rfl)) h
def Nft:Fun:=fun avs H=>
 match avs,H with
 |[.dat (.list (.int .i64)) a],[]=>⟨_,N3d a,fun(t:(List Int))=>(.slc 0,[some (sI t)]),[],none⟩
 |_,_=>Ans.no
theorem Nvt:Sound Tryz.prog 135 Nft:=by
 refine fn_sound' (C:=Nfv) (c:=bodyOf Tryz.f135) (cok_of tys_ok (allc N2e (allc Nwb (allc Nma alln))) (allc Tryz.call39 (allc Tryz.call177 (allc Tryz.call176 alln))) (by kernel_rfl)) Tryz.func135 (by kernel_rfl) LL Nep ?_
 intro avs H r H' h
 unfold Nft at h
 split at h
 ·refine Awp.cast ?_ ?_ ?_ (Ny7 _ h)<;>kernel_rfl
 ·simp[Ans.no,Ans.run] at h
def N1c:Ann:=(.seq (.leaf [0]) (.seq (.seq (.leaf [0,6]) (.cond (.seq (.leaf [2]) (.leaf [2])) (.leaf [0]))) (.seq (.leaf [3]) (.seq (.block (.loop (.seq (.seq (.leaf [3,9]) (.cond (.leaf [3]) (.leaf [3]))) (.block (.leaf [3]))))) (.seq (.leaf [2]) (.leaf [2]))))))
noncomputable def N7k:Ctx:=⟨tlook tys,olook [(39,N18),(98,Na8)],ioF,0,false,[]⟩
theorem N13t (a:List Int):Link N7k LL (Code.seq (cq [0] (bodyOf Tryz.f117)) (Code.seq (cq [0,1] (bodyOf Tryz.f117)) (cq [0,1,1] (bodyOf Tryz.f117)))) (Ann.seq (aq [0] N1c) (Ann.seq (aq [0,1] N1c) (aq [0,1,1] N1c))) ⟨mkE 12 0 [(0,dL a)],[]⟩ (N80 a) (Sum.elim (fun(t:Unit)=>(Exit.normal,⟨mkE 12 0 [(3,.ptr 0 0)],[some (.box [dL a,dI 1,dI 0])]⟩)) (fun(t:Int)=>(Exit.ret,⟨mkE 12 0 [(2,dI t)],[]⟩))):= .of fun K h=>by
 simp only[N80,wpW] at h
 exact .of (by kernel_rfl) h
theorem Nth (a:List Int) (b c:Int):Link N7k LL (cq [0,0,0,1,1,1] (bodyOf Tryz.f117)) (aq [0,0,0,1,1,1] N1c) ⟨mkE 12 0 [(3,.ptr 0 0)],[some (.box [dL a,dI b,dI c])]⟩ (N73 a b c) (Sum.elim (fun(t:Int×Int)=>(Exit.normal,⟨mkE 12 0 [(3,.ptr 0 0)],[some (.box [dL a,dI t.1,dI t.2])]⟩)) (fun(t:Int×Int)=>((Exit.exit 0),⟨mkE 12 0 [(3,.ptr 0 0)],[some (.box [dL a,dI t.1,dI t.2])]⟩))):= .of fun K h=>by
 simp only[N73,wpW] at h
 exact .of (by kernel_rfl) h
theorem Npz (a:List Int) (b c:Int):Link N7k LL (cq [1,1,1,1] (bodyOf Tryz.f117)) (aq [1,1,1,1] N1c) ⟨mkE 12 0 [(3,.ptr 0 0)],[some (.box [dL a,dI b,dI c])]⟩ (Nbj b) (fun(t:Int)=>(Exit.ret,⟨mkE 12 0 [(2,dI t)],[]⟩)):= .of fun K h=>by
 simp only[Nbj,wpW] at h
 exact .of (by kernel_rfl) h
theorem Ny1 (b:List Int) {r:AV} {H':Heap} (h:(Ans.mk _ (N5o b) (fun(t:Int)=>(dI t,[])) [] none).run=some (r,H')):Awp N7k LL (bodyOf Tryz.f117) N1c ⟨mkE 12 0 [(0,dL b)],[]⟩ (Ret (tlook tys) Tryz.f117.results.toList r H'):=
 ret_of' (Link.cast (by kernel_rfl) (by kernel_rfl) (link_group (c:=(cq [0,1,1] (bodyOf Tryz.f117))) (a:=(aq [0,1,1] N1c)) [(cq [0] (bodyOf Tryz.f117)),(cq [0,1] (bodyOf Tryz.f117))] [(aq [0] N1c),(aq [0,1] N1c)] rfl (link_seq2 (N13t b) (fun(t:Unit)=>(link_seq (link_block (fin2:=(fun(t:Int×Int)=>(Exit.normal,⟨mkE 12 0 [(3,.ptr 0 0)],[some (.box [dL b,dI t.1,dI t.2])]⟩))) (id:=0) (link_loop (mk:=fun(s:Int×Int)=>⟨mkE 12 0 [(3,.ptr 0 0)],[some (.box [dL b,dI s.1,dI s.2])]⟩) (fin:=(fun(t:Int×Int)=>((Exit.exit 0),⟨mkE 12 0 [(3,.ptr 0 0)],[some (.box [dL b,dI t.1,dI t.2])]⟩))) (by
 rintro t f K h
 ·exact h) (fun s=>link_map (Nth b s.1 s.2) (Sum.elim (fun(t:Int×Int)=>Sum.inl (t.1,t.2)) (fun(t:Int×Int)=>Sum.inr t)) (by
 rintro(t|t)
 ·kernel_rfl
 ·kernel_rfl)) (1,0)) (fun(t:Int×Int)=>(t.1,t.2)) (by
 rintro t K h
 ·exact Eq.mp (by kernel_rfl) h)) (fun(t:Int×Int)=>(Npz b t.1 t.2)))) (fun(t:Int)=>t) (by
 rintro t
 ·kernel_rfl) (by
 rintro t f K h
 ·exact h)))) (by unfold N5o;kernel_rfl) (by
 intro t
 exact ret_mk [dI t] (by kernel_rfl) (by kernel_rfl) (by kernel_rfl) (by kernel_rfl)) h
def Ng4:Fun:=fun avs H=>
 match avs,H with
 |[.dat (.list (.int .i64)) a],[]=>⟨_,N5o a,fun(t:Int)=>(dI t,[]),[],none⟩
 |_,_=>Ans.no
theorem Ntv:Sound Tryz.prog 117 Ng4:=by
 refine fn_sound' (C:=N7k) (c:=bodyOf Tryz.f117) (cok_of tys_ok (allc N2e (allc Njn alln)) (allc Tryz.call39 (allc Tryz.call98 alln)) (by kernel_rfl)) Tryz.func117 (by kernel_rfl) LL N1c ?_
 intro avs H r H' h
 unfold Ng4 at h
 split at h
 ·refine Awp.cast ?_ ?_ ?_ (Ny1 _ h)<;>kernel_rfl
 ·simp[Ans.no,Ans.run] at h
def Ndj:Ann:=(.seq (.leaf [0]) (.seq (.leaf [2]) (.leaf [2])))
noncomputable def Nhp:Ctx:=⟨tlook tys,olook [],ioF,0,false,[]⟩
theorem Nwd (a:Int):Link Nhp LL (bodyOf Tryz.f219) Ndj ⟨mkE 6 0 [(0,dI a)],[]⟩ (Ne8 a) (fun(t:Int)=>(Exit.ret,⟨mkE 6 0 [(2,dW t)],[]⟩)):= .of fun K h=>by
 simp only[Ne8,wpW] at h
 exact .of (by kernel_rfl) h
theorem Nuf (a:Int) {r:AV} {H':Heap} (h:(Ans.mk _ (N34 a) (fun(t:Int)=>(dW t,[])) [] none).run=some (r,H')):Awp Nhp LL (bodyOf Tryz.f219) Ndj ⟨mkE 6 0 [(0,dI a)],[]⟩ (Ret (tlook tys) Tryz.f219.results.toList r H'):=
 ret_of' (Nwd a) (by unfold N34;kernel_rfl) (by
 intro t
 exact ret_mk [dW t] (by kernel_rfl) (by kernel_rfl) (by kernel_rfl) (by kernel_rfl)) h
def N8h:Fun:=fun avs H=>
 match avs,H with
 |[.dat (.int .i64) a],[]=>⟨_,N34 a,fun(t:Int)=>(dW t,[]),[],none⟩
 |_,_=>Ans.no
theorem Nkz:Sound Tryz.prog 219 N8h:=by
 refine fn_sound' (C:=Nhp) (c:=bodyOf Tryz.f219) (cok_of tys_ok (alln) (alln) (by kernel_rfl)) Tryz.func219 (by kernel_rfl) LL Ndj ?_
 intro avs H r H' h
 unfold N8h at h
 split at h
 ·refine Awp.cast ?_ ?_ ?_ (Nuf _ h)<;>kernel_rfl
 ·simp[Ans.no,Ans.run] at h
def N1l:Ann:=(.seq (.leaf [0,1]) (.seq (.leaf [0,1,5]) (.seq (.seq (.leaf [0,1,5,8,9]) (.block (.loop (.seq (.leaf [0,1,5,8,9,10]) (.seq (.cond (.leaf [0,1,5,8,9]) (.leaf [5])) (.seq (.block (.seq (.leaf [0,1,5,6,8,9]) (.seq (.leaf [0,1,5,6,8,9,17]) (.cond (.leaf [0,1,5,8,9]) (.leaf [0,1,5,8,9]))))) (.leaf [0,1,5,8,9]))))))) (.seq (.leaf [4]) (.leaf [4])))))
noncomputable def N5b:Ctx:=⟨tlook tys,olook [(219,N8h)],ioF,0,false,[]⟩
theorem Ny5 (a:List Int) (b:Int):Link N5b LL (Code.seq (cq [0] (bodyOf Tryz.f196)) (cq [0,1] (bodyOf Tryz.f196))) (Ann.seq (aq [0] N1l) (aq [0,1] N1l)) ⟨mkE 25 0 [(0,dL a),(1,dI b)],[]⟩ (Nbr) (fun(t:Unit)=>(Exit.normal,⟨mkE 25 0 [(0,dL a),(1,dI b),(5,dW 0)],[]⟩)):= .of fun K h=>by
 simp only[Nbr,wpW] at h
 exact .of (by kernel_rfl) h
theorem N16x (a:List Int) (b:Int):Link N5b LL (cq [0,0,1,1] (bodyOf Tryz.f196)) (aq [0,0,1,1] N1l) ⟨mkE 25 0 [(0,dL a),(1,dI b),(5,dW 0)],[]⟩ (N86 a) (fun(t:Int)=>(Exit.normal,⟨mkE 25 0 [(0,dL a),(1,dI b),(5,dW 0),(8,dI t),(9,dI 0)],[]⟩)):= .of fun K h=>by
 simp only[N86,wpW] at h
 exact .of (by kernel_rfl) h
theorem Nr1 (a:List Int) (b c d g:Int):Link N5b LL (cq [0,0,1,0,1,1] (bodyOf Tryz.f196)) (aq [0,0,1,0,1,1] N1l) ⟨mkE 25 0 [(0,dL a),(1,dI b),(5,dW c),(8,dI d),(9,dI g)],[]⟩ (N54 a b c d g) (Sum.elim (fun(t:Int×Int)=>(Exit.normal,⟨mkE 25 0 [(0,dL a),(1,dI b),(5,dW t.1),(8,dI d),(9,dI t.2)],[]⟩)) (fun(t:Int)=>((Exit.exit 0),⟨mkE 25 0 [(5,dW t)],[]⟩))):= .of fun K h=>by
 simp only[N54,wpW] at h
 exact .of (by kernel_rfl) h
theorem Nzb (a:Int):Link N5b LL (cq [1,1,1] (bodyOf Tryz.f196)) (aq [1,1,1] N1l) ⟨mkE 25 0 [(5,dW a)],[]⟩ (Ng7 a) (fun(t:Int)=>(Exit.ret,⟨mkE 25 0 [(4,dW t)],[]⟩)):= .of fun K h=>by
 simp only[Ng7,wpW] at h
 exact .of (by kernel_rfl) h
theorem N16m (b:List Int) (d:Int) {r:AV} {H':Heap} (h:(Ans.mk _ (N32 b d) (fun(t:Int)=>(dW t,[])) [] none).run=some (r,H')):Awp N5b LL (bodyOf Tryz.f196) N1l ⟨mkE 25 0 [(0,dL b),(1,dI d)],[]⟩ (Ret (tlook tys) Tryz.f196.results.toList r H'):=
 ret_of' (Link.cast (by kernel_rfl) (by kernel_rfl) (link_group (c:=(cq [0,1] (bodyOf Tryz.f196))) (a:=(aq [0,1] N1l)) [(cq [0] (bodyOf Tryz.f196))] [(aq [0] N1l)] rfl (link_seq (Ny5 b d) (fun(t:Unit)=>(link_seq (link_seq (N16x b d) (fun(t:Int)=>(link_block (fin2:=(fun(t17:Int)=>(Exit.normal,⟨mkE 25 0 [(5,dW t17)],[]⟩))) (id:=0) (link_loop (mk:=fun(s:Int×Int)=>⟨mkE 25 0 [(0,dL b),(1,dI d),(5,dW s.1),(8,dI t),(9,dI s.2)],[]⟩) (fin:=(fun(t17:Int)=>((Exit.exit 0),⟨mkE 25 0 [(5,dW t17)],[]⟩))) (by
 rintro t17 f K h
 ·exact h) (fun s=>link_map (Nr1 b d s.1 t s.2) (Sum.elim (fun(t17:Int×Int)=>Sum.inl (t17.1,t17.2)) (fun(t17:Int)=>Sum.inr t17)) (by
 rintro(t17|t17)
 ·kernel_rfl
 ·kernel_rfl)) (0,0)) (fun(t17:Int)=>t17) (by
 rintro t17 K h
 ·exact Eq.mp (by kernel_rfl) h)))) (fun(t:Int)=>(Nzb t))))))) (by unfold N32;kernel_rfl) (by
 intro t
 exact ret_mk [dW t] (by kernel_rfl) (by kernel_rfl) (by kernel_rfl) (by kernel_rfl)) h
def Ngi:Fun:=fun avs H=>
 match avs,H with
 |[.dat (.list (.int .i64)) a,.dat (.int .i64) b],[]=>⟨_,N32 a b,fun(t:Int)=>(dW t,[]),[],none⟩
 |_,_=>Ans.no
theorem N10q:Sound Tryz.prog 196 Ngi:=by
 refine fn_sound' (C:=N5b) (c:=bodyOf Tryz.f196) (cok_of tys_ok (allc Nkz alln) (allc Tryz.call219 alln) (by kernel_rfl)) Tryz.func196 (by kernel_rfl) LL N1l ?_
 intro avs H r H' h
 unfold Ngi at h
 split at h
 ·refine Awp.cast ?_ ?_ ?_ (N16m _ _ h)<;>kernel_rfl
 ·simp[Ans.no,Ans.run] at h
def Ng9:Ann:=(.seq (.leaf [0]) (.seq (.leaf [2]) (.leaf [2])))
noncomputable def Nee:Ctx:=⟨tlook tys,olook [(219,N8h)],ioF,0,false,[]⟩
theorem Nsa (a:Int):Link Nee LL (bodyOf Tryz.f226) Ng9 ⟨mkE 6 0 [(0,dI a)],[]⟩ (Nem a) (fun(t:Int)=>(Exit.ret,⟨mkE 6 0 [(2,dW t)],[]⟩)):= .of fun K h=>by
 simp only[Nem,wpW] at h
 exact .of (by kernel_rfl) h
theorem N15n (a:Int) {r:AV} {H':Heap} (h:(Ans.mk _ (N3t a) (fun(t:Int)=>(dW t,[])) [] none).run=some (r,H')):Awp Nee LL (bodyOf Tryz.f226) Ng9 ⟨mkE 6 0 [(0,dI a)],[]⟩ (Ret (tlook tys) Tryz.f226.results.toList r H'):=
 ret_of' (Nsa a) (by unfold N3t;kernel_rfl) (by
 intro t
 exact ret_mk [dW t] (by kernel_rfl) (by kernel_rfl) (by kernel_rfl) (by kernel_rfl)) h
def Ngx:Fun:=fun avs H=>
 match avs,H with
 |[.dat (.int .i64) a],[]=>⟨_,N3t a,fun(t:Int)=>(dW t,[]),[],none⟩
 |_,_=>Ans.no
theorem Nt8:Sound Tryz.prog 226 Ngx:=by
 refine fn_sound' (C:=Nee) (c:=bodyOf Tryz.f226) (cok_of tys_ok (allc Nkz alln) (allc Tryz.call219 alln) (by kernel_rfl)) Tryz.func226 (by kernel_rfl) LL Ng9 ?_
 intro avs H r H' h
 unfold Ngx at h
 split at h
 ·refine Awp.cast ?_ ?_ ?_ (N15n _ h)<;>kernel_rfl
 ·simp[Ans.no,Ans.run] at h
def Nde:Ann:=(.seq (.leaf [0,1]) (.seq (.leaf [1,6]) (.seq (.leaf [4,5]) (.leaf [4,5]))))
noncomputable def Ngu:Ctx:=⟨tlook tys,olook [(196,Ngi),(226,Ngx)],ioF,0,false,[]⟩
theorem Nxn (a:List Int) (b:Int):Link Ngu LL (bodyOf Tryz.f187) Nde ⟨mkE 18 0 [(0,dL a),(1,dI b)],[]⟩ (N7e a b) (fun(t:Int×Int)=>(Exit.ret,⟨mkE 18 0 [(4,dW t.1),(5,dW t.2)],[]⟩)):= .of fun K h=>by
 simp only[N7e,wpW] at h
 exact .of (by kernel_rfl) h
theorem N137 (a:List Int) (b:Int) {r:AV} {H':Heap} (h:(Ans.mk _ (N3j a b) (fun(t:Int×Int)=>(.tup [dW t.1,dW t.2],[])) [] none).run=some (r,H')):Awp Ngu LL (bodyOf Tryz.f187) Nde ⟨mkE 18 0 [(0,dL a),(1,dI b)],[]⟩ (Ret (tlook tys) Tryz.f187.results.toList r H'):=
 ret_of' (Nxn a b) (by unfold N3j;kernel_rfl) (by
 intro t
 exact ret_mk [dW t.1,dW t.2] (by kernel_rfl) (by kernel_rfl) (by kernel_rfl) (by kernel_rfl)) h
def Nd4:Fun:=fun avs H=>
 match avs,H with
 |[.dat (.list (.int .i64)) a,.dat (.int .i64) b],[]=>⟨_,N3j a b,fun(t:Int×Int)=>(.tup [dW t.1,dW t.2],[]),[],none⟩
 |_,_=>Ans.no
theorem Nqn:Sound Tryz.prog 187 Nd4:=by
 refine fn_sound' (C:=Ngu) (c:=bodyOf Tryz.f187) (cok_of tys_ok (allc N10q (allc Nt8 alln)) (allc Tryz.call196 (allc Tryz.call226 alln)) (by kernel_rfl)) Tryz.func187 (by kernel_rfl) LL Nde ?_
 intro avs H r H' h
 unfold Nd4 at h
 split at h
 ·refine Awp.cast ?_ ?_ ?_ (N137 _ _ h)<;>kernel_rfl
 ·simp[Ans.no,Ans.run] at h
def Nj:Ann:=(.seq (.leaf [0]) (.seq (.leaf [0]) (.seq (.leaf [0]) (.seq (.leaf [0]) (.seq (.leaf [0]) (.seq (.leaf [0]) (.seq (.leaf [0]) (.seq (.leaf [2]) (.leaf [2])))))))))
noncomputable def N1a:Ctx:=⟨tlook tys,olook [],ioF,0,false,[]⟩
theorem Nwx (a:Int):Link N1a LL (Code.seq (cq [0] (bodyOf Tryz.f238)) (cq [0,1] (bodyOf Tryz.f238))) (Ann.seq (aq [0] Nj) (aq [0,1] Nj)) ⟨mkE 35 0 [(0,dW a)],[]⟩ (Nim a) (fun(t:Int)=>(Exit.normal,⟨mkE 35 0 [(0,dW t)],[]⟩)):= .of fun K h=>by
 simp only[Nim,wpW] at h
 exact .of (by kernel_rfl) h
theorem N14u (a:Int):Link N1a LL (cq [0,1,1] (bodyOf Tryz.f238)) (aq [0,1,1] Nj) ⟨mkE 35 0 [(0,dW a)],[]⟩ (Ngh a) (fun(t:Int)=>(Exit.normal,⟨mkE 35 0 [(0,dW t)],[]⟩)):= .of fun K h=>by
 simp only[Ngh,wpW] at h
 exact .of (by kernel_rfl) h
theorem Nxd (a:Int):Link N1a LL (cq [0,1,1,1] (bodyOf Tryz.f238)) (aq [0,1,1,1] Nj) ⟨mkE 35 0 [(0,dW a)],[]⟩ (Ng6 a) (fun(t:Int)=>(Exit.normal,⟨mkE 35 0 [(0,dW t)],[]⟩)):= .of fun K h=>by
 simp only[Ng6,wpW] at h
 exact .of (by kernel_rfl) h
theorem Ntj (a:Int):Link N1a LL (cq [0,1,1,1,1] (bodyOf Tryz.f238)) (aq [0,1,1,1,1] Nj) ⟨mkE 35 0 [(0,dW a)],[]⟩ (Nef a) (fun(t:Int)=>(Exit.normal,⟨mkE 35 0 [(0,dW t)],[]⟩)):= .of fun K h=>by
 simp only[Nef,wpW] at h
 exact .of (by kernel_rfl) h
theorem N151 (a:Int):Link N1a LL (cq [0,1,1,1,1,1] (bodyOf Tryz.f238)) (aq [0,1,1,1,1,1] Nj) ⟨mkE 35 0 [(0,dW a)],[]⟩ (Nf9 a) (fun(t:Int)=>(Exit.normal,⟨mkE 35 0 [(0,dW t)],[]⟩)):= .of fun K h=>by
 simp only[Nf9,wpW] at h
 exact .of (by kernel_rfl) h
theorem Nu5 (a:Int):Link N1a LL (cq [0,1,1,1,1,1,1] (bodyOf Tryz.f238)) (aq [0,1,1,1,1,1,1] Nj) ⟨mkE 35 0 [(0,dW a)],[]⟩ (Ney a) (fun(t:Int)=>(Exit.normal,⟨mkE 35 0 [(0,dW t)],[]⟩)):= .of fun K h=>by
 simp only[Ney,wpW] at h
 exact .of (by kernel_rfl) h
theorem N129 (a:Int):Link N1a LL (cq [0,1,1,1,1,1,1,1] (bodyOf Tryz.f238)) (aq [0,1,1,1,1,1,1,1] Nj) ⟨mkE 35 0 [(0,dW a)],[]⟩ (Neb a) (fun(t:Int)=>(Exit.normal,⟨mkE 35 0 [(2,dI t)],[]⟩)):= .of fun K h=>by
 simp only[Neb,wpW] at h
 exact .of (by kernel_rfl) h
theorem N12g (a:Int):Link N1a LL (cq [1,1,1,1,1,1,1,1] (bodyOf Tryz.f238)) (aq [1,1,1,1,1,1,1,1] Nj) ⟨mkE 35 0 [(2,dI a)],[]⟩ (Ndo a) (fun(t:Int)=>(Exit.ret,⟨mkE 35 0 [(2,dI t)],[]⟩)):= .of fun K h=>by
 simp only[Ndo,wpW] at h
 exact .of (by kernel_rfl) h
theorem N10u (b:Int) {r:AV} {H':Heap} (h:(Ans.mk _ (N7w b) (fun(t:Int)=>(dI t,[])) [] none).run=some (r,H')):Awp N1a LL (bodyOf Tryz.f238) Nj ⟨mkE 35 0 [(0,dW b)],[]⟩ (Ret (tlook tys) Tryz.f238.results.toList r H'):=
 ret_of' (Link.cast (by kernel_rfl) (by kernel_rfl) (link_group (c:=(cq [0,1] (bodyOf Tryz.f238))) (a:=(aq [0,1] Nj)) [(cq [0] (bodyOf Tryz.f238))] [(aq [0] Nj)] rfl (link_seq (Nwx b) (fun(t:Int)=>(link_seq (N14u t) (fun(t18:Int)=>(link_seq (Nxd t18) (fun(t3:Int)=>(link_seq (Ntj t3) (fun(t:Int)=>(link_seq (N151 t) (fun(t2:Int)=>(link_seq (Nu5 t2) (fun(t:Int)=>(link_seq (N129 t) (fun(t1:Int)=>(N12g t1))))))))))))))))) (by unfold N7w;kernel_rfl) (by
 intro t
 exact ret_mk [dI t] (by kernel_rfl) (by kernel_rfl) (by kernel_rfl) (by kernel_rfl)) h
def Ne3:Fun:=fun avs H=>
 match avs,H with
 |[.dat (.int .u64) a],[]=>⟨_,N7w a,fun(t:Int)=>(dI t,[]),[],none⟩
 |_,_=>Ans.no
theorem Nr0:Sound Tryz.prog 238 Ne3:=by
 refine fn_sound' (C:=N1a) (c:=bodyOf Tryz.f238) (cok_of tys_ok (alln) (alln) (by kernel_rfl)) Tryz.func238 (by kernel_rfl) LL Nj ?_
 intro avs H r H' h
 unfold Ne3 at h
 split at h
 ·refine Awp.cast ?_ ?_ ?_ (N10u _ h)<;>kernel_rfl
 ·simp[Ans.no,Ans.run] at h
def Neu:Ann:=(.seq (.leaf [0]) (.seq (.cond (.seq (.leaf [2]) (.leaf [2])) (.leaf [0])) (.seq (.leaf [2]) (.leaf [2]))))
noncomputable def Nfw:Ctx:=⟨tlook tys,olook [(238,Ne3)],ioF,0,false,[]⟩
theorem N18g (a:Int):Link Nfw LL (bodyOf Tryz.f220) Neu ⟨mkE 8 0 [(0,dW a)],[]⟩ (Neq a) (fun(t:Int)=>(Exit.ret,⟨mkE 8 0 [(2,dI t)],[]⟩)):= .of fun K h=>by
 simp only[Neq,wpW] at h
 exact .of (by kernel_rfl) h
theorem N10j (a:Int) {r:AV} {H':Heap} (h:(Ans.mk _ (N96 a) (fun(t:Int)=>(dI t,[])) [] none).run=some (r,H')):Awp Nfw LL (bodyOf Tryz.f220) Neu ⟨mkE 8 0 [(0,dW a)],[]⟩ (Ret (tlook tys) Tryz.f220.results.toList r H'):=
 ret_of' (N18g a) (by unfold N96;kernel_rfl) (by
 intro t
 exact ret_mk [dI t] (by kernel_rfl) (by kernel_rfl) (by kernel_rfl) (by kernel_rfl)) h
def Ndr:Fun:=fun avs H=>
 match avs,H with
 |[.dat (.int .u64) a],[]=>⟨_,N96 a,fun(t:Int)=>(dI t,[]),[],none⟩
 |_,_=>Ans.no
theorem N11u:Sound Tryz.prog 220 Ndr:=by
 refine fn_sound' (C:=Nfw) (c:=bodyOf Tryz.f220) (cok_of tys_ok (allc Nr0 alln) (allc Tryz.call238 alln) (by kernel_rfl)) Tryz.func220 (by kernel_rfl) LL Neu ?_
 intro avs H r H' h
 unfold Ndr at h
 split at h
 ·refine Awp.cast ?_ ?_ ?_ (N10j _ h)<;>kernel_rfl
 ·simp[Ans.no,Ans.run] at h
def Nf3:Ann:=(.seq (.leaf [0]) (.seq (.leaf [2]) (.leaf [2])))
noncomputable def Niz:Ctx:=⟨tlook tys,olook [(220,Ndr)],ioF,0,false,[]⟩
theorem N131 (a:Int):Link Niz LL (bodyOf Tryz.f174) Nf3 ⟨mkE 5 0 [(0,dW a)],[]⟩ (Ne0 a) (fun(t:Int)=>(Exit.ret,⟨mkE 5 0 [(2,dI t)],[]⟩)):= .of fun K h=>by
 simp only[Ne0,wpW] at h
 exact .of (by kernel_rfl) h
theorem Nxs (a:Int) {r:AV} {H':Heap} (h:(Ans.mk _ (N8s a) (fun(t:Int)=>(dI t,[])) [] none).run=some (r,H')):Awp Niz LL (bodyOf Tryz.f174) Nf3 ⟨mkE 5 0 [(0,dW a)],[]⟩ (Ret (tlook tys) Tryz.f174.results.toList r H'):=
 ret_of' (N131 a) (by unfold N8s;kernel_rfl) (by
 intro t
 exact ret_mk [dI t] (by kernel_rfl) (by kernel_rfl) (by kernel_rfl) (by kernel_rfl)) h
def Nd9:Fun:=fun avs H=>
 match avs,H with
 |[.dat (.int .u64) a],[]=>⟨_,N8s a,fun(t:Int)=>(dI t,[]),[],none⟩
 |_,_=>Ans.no
theorem Nq6:Sound Tryz.prog 174 Nd9:=by
 refine fn_sound' (C:=Niz) (c:=bodyOf Tryz.f174) (cok_of tys_ok (allc N11u alln) (allc Tryz.call220 alln) (by kernel_rfl)) Tryz.func174 (by kernel_rfl) LL Nf3 ?_
 intro avs H r H' h
 unfold Nd9 at h
 split at h
 ·refine Awp.cast ?_ ?_ ?_ (Nxs _ h)<;>kernel_rfl
 ·simp[Ans.no,Ans.run] at h
def Nia:Ann:=(.seq (.leaf [0]) (.seq (.seq (.leaf [0,4]) (.cond (.seq (.leaf [2]) (.leaf [2])) (.leaf [0]))) (.seq (.leaf [2]) (.leaf [2]))))
noncomputable def Nd7:Ctx:=⟨tlook tys,olook [],ioF,0,false,[]⟩
theorem N13f (a:Int):Link Nd7 LL (bodyOf Tryz.f222) Nia ⟨mkE 14 0 [(0,dW a)],[]⟩ (Nhn a) (fun(t:Int)=>(Exit.ret,⟨mkE 14 0 [(2,dI t)],[]⟩)):= .of fun K h=>by
 simp only[Nhn,wpW] at h
 exact .of (by kernel_rfl) h
theorem Nzw (a:Int) {r:AV} {H':Heap} (h:(Ans.mk _ (N85 a) (fun(t:Int)=>(dI t,[])) [] none).run=some (r,H')):Awp Nd7 LL (bodyOf Tryz.f222) Nia ⟨mkE 14 0 [(0,dW a)],[]⟩ (Ret (tlook tys) Tryz.f222.results.toList r H'):=
 ret_of' (N13f a) (by unfold N85;kernel_rfl) (by
 intro t
 exact ret_mk [dI t] (by kernel_rfl) (by kernel_rfl) (by kernel_rfl) (by kernel_rfl)) h
def Nff:Fun:=fun avs H=>
 match avs,H with
 |[.dat (.int .u64) a],[]=>⟨_,N85 a,fun(t:Int)=>(dI t,[]),[],none⟩
 |_,_=>Ans.no
theorem Nxc:Sound Tryz.prog 222 Nff:=by
 refine fn_sound' (C:=Nd7) (c:=bodyOf Tryz.f222) (cok_of tys_ok (alln) (alln) (by kernel_rfl)) Tryz.func222 (by kernel_rfl) LL Nia ?_
 intro avs H r H' h
 unfold Nff at h
 split at h
 ·refine Awp.cast ?_ ?_ ?_ (Nzw _ h)<;>kernel_rfl
 ·simp[Ans.no,Ans.run] at h
def Nhk:Ann:=(.seq (.leaf [0]) (.seq (.cond (.seq (.leaf [2]) (.leaf [2])) (.leaf [0])) (.seq (.leaf [2]) (.leaf [2]))))
noncomputable def Nda:Ctx:=⟨tlook tys,olook [(222,Nff)],ioF,0,false,[]⟩
theorem Nvk (a:Int):Link Nda LL (bodyOf Tryz.f175) Nhk ⟨mkE 8 0 [(0,dW a)],[]⟩ (Nge a) (fun(t:Int)=>(Exit.ret,⟨mkE 8 0 [(2,dI t)],[]⟩)):= .of fun K h=>by
 simp only[Nge,wpW] at h
 exact .of (by kernel_rfl) h
theorem Nug (a:Int) {r:AV} {H':Heap} (h:(Ans.mk _ (Nb8 a) (fun(t:Int)=>(dI t,[])) [] none).run=some (r,H')):Awp Nda LL (bodyOf Tryz.f175) Nhk ⟨mkE 8 0 [(0,dW a)],[]⟩ (Ret (tlook tys) Tryz.f175.results.toList r H'):=
 ret_of' (Nvk a) (by unfold Nb8;kernel_rfl) (by
 intro t
 exact ret_mk [dI t] (by kernel_rfl) (by kernel_rfl) (by kernel_rfl) (by kernel_rfl)) h
def Ngy:Fun:=fun avs H=>
 match avs,H with
 |[.dat (.int .u64) a],[]=>⟨_,Nb8 a,fun(t:Int)=>(dI t,[]),[],none⟩
 |_,_=>Ans.no
theorem N15l:Sound Tryz.prog 175 Ngy:=by
 refine fn_sound' (C:=Nda) (c:=bodyOf Tryz.f175) (cok_of tys_ok (allc Nxc alln) (allc Tryz.call222 alln) (by kernel_rfl)) Tryz.func175 (by kernel_rfl) LL Nhk ?_
 intro avs H r H' h
 unfold Ngy at h
 split at h
 ·refine Awp.cast ?_ ?_ ?_ (Nug _ h)<;>kernel_rfl
 ·simp[Ans.no,Ans.run] at h
def N1i:Ann:=(.seq (.leaf [0]) (.seq (.leaf [0,3]) (.seq (.seq (.leaf [3,4]) (.block (.loop (.seq (.seq (.leaf [3,4,10]) (.cond (.leaf [3,4]) (.leaf [3]))) (.seq (.block (.leaf [3,4])) (.leaf [3,4])))))) (.seq (.leaf [2]) (.leaf [2])))))
noncomputable def N5s:Ctx:=⟨tlook tys,olook [(174,Nd9),(175,Ngy)],ioF,0,false,[]⟩
theorem Nx4 (a:Int):Link N5s LL (Code.seq (cq [0] (bodyOf Tryz.f134)) (cq [0,1] (bodyOf Tryz.f134))) (Ann.seq (aq [0] N1i) (aq [0,1] N1i)) ⟨mkE 22 0 [(0,dW a)],[]⟩ (Ng8 a) (fun(t:(List Int))=>(Exit.normal,⟨mkE 22 0 [(0,dW a),(3,.slc 0)],[some (sI t)]⟩)):= .of fun K h=>by
 simp only[Ng8,wpW] at h
 exact .of (by kernel_rfl) h
theorem Nwk (a:Int) (b:List Int):Link N5s LL (cq [0,0,1,1] (bodyOf Tryz.f134)) (aq [0,0,1,1] N1i) ⟨mkE 22 0 [(0,dW a),(3,.slc 0)],[some (sI b)]⟩ (Ncz) (fun(t:Unit)=>(Exit.normal,⟨mkE 22 0 [(3,.slc 0),(4,dW a)],[some (sI b)]⟩)):= .of fun K h=>by
 simp only[Ncz,wpW] at h
 exact .of (by kernel_rfl) h
theorem N166 (a:Int) (b:List Int):Link N5s LL (cq [0,0,1,0,1,1] (bodyOf Tryz.f134)) (aq [0,0,1,0,1,1] N1i) ⟨mkE 22 0 [(3,.slc 0),(4,dW a)],[some (sI b)]⟩ (Nds a b) (Sum.elim (fun(t:Int×(List Int))=>(Exit.normal,⟨mkE 22 0 [(3,.slc 0),(4,dW t.1)],[some (sI t.2)]⟩)) (fun(t:(List Int))=>((Exit.exit 0),⟨mkE 22 0 [(3,.slc 0)],[some (sI t)]⟩))):= .of fun K h=>by
 simp only[Nds,wpW] at h
 exact .of (by kernel_rfl) h
theorem Nwq (a:List Int):Link N5s LL (cq [1,1,1] (bodyOf Tryz.f134)) (aq [1,1,1] N1i) ⟨mkE 22 0 [(3,.slc 0)],[some (sI a)]⟩ (Ngk a) (fun(t:(List Int))=>(Exit.ret,⟨mkE 22 0 [(2,.slc 0)],[some (sI t)]⟩)):= .of fun K h=>by
 simp only[Ngk,wpW] at h
 exact .of (by kernel_rfl) h
theorem N11d (b:Int) {r:AV} {H':Heap} (h:(Ans.mk _ (N5l b) (fun(t:(List Int))=>(.slc 0,[some (sI t)])) [] none).run=some (r,H')):Awp N5s LL (bodyOf Tryz.f134) N1i ⟨mkE 22 0 [(0,dW b)],[]⟩ (Ret (tlook tys) Tryz.f134.results.toList r H'):=
 ret_of' (Link.cast (by kernel_rfl) (by kernel_rfl) (link_group (c:=(cq [0,1] (bodyOf Tryz.f134))) (a:=(aq [0,1] N1i)) [(cq [0] (bodyOf Tryz.f134))] [(aq [0] N1i)] rfl (link_seq (Nx4 b) (fun(t:(List Int))=>(link_seq (link_seq (Nwk b t) (fun(t36:Unit)=>(link_block (fin2:=(fun(t36:(List Int))=>(Exit.normal,⟨mkE 22 0 [(3,.slc 0)],[some (sI t36)]⟩))) (id:=0) (link_loop (mk:=fun(s:Int×(List Int))=>⟨mkE 22 0 [(3,.slc 0),(4,dW s.1)],[some (sI s.2)]⟩) (fin:=(fun(t36:(List Int))=>((Exit.exit 0),⟨mkE 22 0 [(3,.slc 0)],[some (sI t36)]⟩))) (by
 rintro t36 f K h
 ·exact h) (fun s=>link_map (N166 s.1 s.2) (Sum.elim (fun(t36:Int×(List Int))=>Sum.inl (t36.1,t36.2)) (fun(t36:(List Int))=>Sum.inr t36)) (by
 rintro(t36|t36)
 ·kernel_rfl
 ·kernel_rfl)) (b,t)) (fun(t36:(List Int))=>t36) (by
 rintro t36 K h
 ·exact Eq.mp (by kernel_rfl) h)))) (fun(t36:(List Int))=>(Nwq t36))))))) (by unfold N5l;kernel_rfl) (by
 intro t
 exact ret_mk [.slc 0] (by kernel_rfl) (by kernel_rfl) (by kernel_rfl) (by kernel_rfl)) h
def Nfo:Fun:=fun avs H=>
 match avs,H with
 |[.dat (.int .u64) a],[]=>⟨_,N5l a,fun(t:(List Int))=>(.slc 0,[some (sI t)]),[],none⟩
 |_,_=>Ans.no
theorem N17q:Sound Tryz.prog 134 Nfo:=by
 refine fn_sound' (C:=N5s) (c:=bodyOf Tryz.f134) (cok_of tys_ok (allc Nq6 (allc N15l alln)) (allc Tryz.call174 (allc Tryz.call175 alln)) (by kernel_rfl)) Tryz.func134 (by kernel_rfl) LL N1i ?_
 intro avs H r H' h
 unfold Nfo at h
 split at h
 ·refine Awp.cast ?_ ?_ ?_ (N11d _ h)<;>kernel_rfl
 ·simp[Ans.no,Ans.run] at h
def Nfg:Ann:=(.seq (.leaf [0,1,2]) (.seq (.leaf [0,1,2,7,8]) (.seq (.leaf [0,1,8]) (.seq (.leaf [6]) (.leaf [6])))))
def N4k:Ann:=(.seq (.leaf [0,1,2]) (.seq (.seq (.leaf [0,1,10,11,12]) (.block (.loop (.seq (.leaf [0,1,10,11,12,13]) (.seq (.cond (.leaf [0,1,10,11,12]) (.leaf [0])) (.seq (.block (.seq (.leaf [0,1,8,10,11,12]) (.leaf [0,1,10,11,12]))) (.leaf [0,1,10,11,12]))))))) (.seq (.leaf [6]) (.leaf [6]))))
def N15 (n:Nat):Fun:=fun avs H=>
 match avs,H with
 |[.slc 0,.dat (.list (.int .i64)) a,.dat (.int .i64) b],[some (.seq (.int .i64) c)]=>⟨_,Nn n a b c,fun(t:(List Int))=>(.slc 0,[some (sI t)]),[0],none⟩
 |_,_=>Ans.no
def N16 (n:Nat):Fun:=fun avs H=>
 match avs,H with
 |[.slc 0,.dat (.list (.int .i64)) a,.dat (.int .u64) b],[some (.seq (.int .i64) c)]=>⟨_,N1q n a b c,fun(t:(List Int))=>(.slc 0,[some (sI t)]),[0],none⟩
 |_,_=>Ans.no
noncomputable def Nhe (n:Nat):Ctx:=⟨tlook tys,olook [(187,Nd4),(188,N16 n)],ioF,1,false,[0]⟩
noncomputable def N65 (n:Nat):Ctx:=⟨tlook tys,olook [(134,Nfo),(150,N15 n)],ioF,1,false,[0]⟩
theorem Nph (n:Nat) (a:List Int) (b:Int) (c:List Int):Link (Nhe n) LL (bodyOf Tryz.f150) Nfg ⟨mkE 26 0 [(0,.slc 0),(1,dL a),(2,dI b)],[some (sI c)]⟩ (N7p (Nn n) (N1q n) a b c) (fun(t:(List Int))=>(Exit.ret,⟨mkE 26 0 [(6,.slc 0)],[some (sI t)]⟩)):= .of fun K h=>by
 simp only[N7p,wpW] at h
 exact .of (by kernel_rfl) h
theorem Nx0 (n:Nat) (a:List Int) (b:Int) (c:List Int) {r:AV} {H':Heap} (h:(Ans.mk _ (Nn (n+1) a b c) (fun(t:(List Int))=>(.slc 0,[some (sI t)])) [0] none).run=some (r,H')):Awp (Nhe n) LL (bodyOf Tryz.f150) Nfg ⟨mkE 26 0 [(0,.slc 0),(1,dL a),(2,dI b)],[some (sI c)]⟩ (Ret (tlook tys) Tryz.f150.results.toList r H'):=
 ret_of' (Nph n a b c) (by(show _=_);kernel_rfl) (by
 intro t
 exact ret_mk [.slc 0] (by kernel_rfl) (by kernel_rfl) (by kernel_rfl) (by kernel_rfl)) h
theorem N15v (n:Nat) (a:List Int) (b:Int) (c:List Int):Link (N65 n) LL (cq [0] (bodyOf Tryz.f188)) (aq [0] N4k) ⟨mkE 22 0 [(0,.slc 0),(1,dL a),(2,dW b)],[some (sI c)]⟩ (Nc3 (Nn n) (N1q n)) (fun(t:Unit)=>(Exit.normal,⟨mkE 22 0 [(0,.slc 0),(1,dL a),(2,dW b)],[some (sI c)]⟩)):= .of fun K h=>by
 simp only[Nc3,wpW] at h
 exact .of (by kernel_rfl) h
theorem N150 (n:Nat) (a:List Int) (b:Int) (c:List Int):Link (N65 n) LL (cq [0,0,1] (bodyOf Tryz.f188)) (aq [0,0,1] N4k) ⟨mkE 22 0 [(0,.slc 0),(1,dL a),(2,dW b)],[some (sI c)]⟩ (N8d (Nn n) (N1q n) b) (fun(t:Int×(List Int))=>(Exit.normal,⟨mkE 22 0 [(0,.slc 0),(1,dL a),(10,.slc 1),(11,dI t.1),(12,dI 0)],[some (sI c),some (sI t.2)]⟩)):= .of fun K h=>by
 simp only[N8d,wpW] at h
 exact .of (by kernel_rfl) h
theorem Nxj (n:Nat) (a:List Int) (b c:Int) (d g:List Int):Link (N65 n) LL (cq [0,0,1,0,1] (bodyOf Tryz.f188)) (aq [0,0,1,0,1] N4k) ⟨mkE 22 0 [(0,.slc 0),(1,dL a),(10,.slc 1),(11,dI b),(12,dI c)],[some (sI d),some (sI g)]⟩ (N48 (Nn n) (N1q n) a b c d g) (Sum.elim (fun(t:Int×(List Int))=>(Exit.normal,⟨mkE 22 0 [(0,.slc 0),(1,dL a),(10,.slc 1),(11,dI b),(12,dI t.1)],[some (sI t.2),some (sI g)]⟩)) (fun(t:(List Int))=>((Exit.exit 0),⟨mkE 22 0 [(0,.slc 0)],[some (sI t)]⟩))):= .of fun K h=>by
 simp only[N48,wpW] at h
 exact .of (by kernel_rfl) h
theorem Nwa (n:Nat) (a:List Int):Link (N65 n) LL (cq [1,1] (bodyOf Tryz.f188)) (aq [1,1] N4k) ⟨mkE 22 0 [(0,.slc 0)],[some (sI a)]⟩ (N9g (Nn n) (N1q n) a) (fun(t:(List Int))=>(Exit.ret,⟨mkE 22 0 [(6,.slc 0)],[some (sI t)]⟩)):= .of fun K h=>by
 simp only[N9g,wpW] at h
 exact .of (by kernel_rfl) h
theorem N189 (n:Nat) (a:List Int) (b:Int) (c:List Int) {r:AV} {H':Heap} (h:(Ans.mk _ (N1q (n+1) a b c) (fun(t:(List Int))=>(.slc 0,[some (sI t)])) [0] none).run=some (r,H')):Awp (N65 n) LL (bodyOf Tryz.f188) N4k ⟨mkE 22 0 [(0,.slc 0),(1,dL a),(2,dW b)],[some (sI c)]⟩ (Ret (tlook tys) Tryz.f188.results.toList r H'):=
 ret_of' (Link.cast (by kernel_rfl) (by kernel_rfl) (link_seq (N15v n a b c) (fun(t:Unit)=>(link_seq (link_seq (N150 n a b c) (fun(t:Int×(List Int))=>(link_block (fin2:=(fun(t19:(List Int))=>(Exit.normal,⟨mkE 22 0 [(0,.slc 0)],[some (sI t19)]⟩))) (id:=0) (link_loop (mk:=fun(s:Int×(List Int))=>⟨mkE 22 0 [(0,.slc 0),(1,dL a),(10,.slc 1),(11,dI t.1),(12,dI s.1)],[some (sI s.2),some (sI t.2)]⟩) (fin:=(fun(t19:(List Int))=>((Exit.exit 0),⟨mkE 22 0 [(0,.slc 0)],[some (sI t19)]⟩))) (by
 rintro t19 f K h
 ·exact h) (fun s=>link_map (Nxj n a t.1 s.1 s.2 t.2) (Sum.elim (fun(t19:Int×(List Int))=>Sum.inl (t19.1,t19.2)) (fun(t19:(List Int))=>Sum.inr t19)) (by
 rintro(t19|t19)
 ·kernel_rfl
 ·kernel_rfl)) (0,c)) (fun(t19:(List Int))=>t19) (by
 rintro t19 K h
 ·exact Eq.mp (by kernel_rfl) h)))) (fun(t:(List Int))=>(Nwa n t)))))) (by(show _=_);kernel_rfl) (by
 intro t
 exact ret_mk [.slc 0] (by kernel_rfl) (by kernel_rfl) (by kernel_rfl) (by kernel_rfl)) h
theorem N18e (n:Nat) (h150:Sound Tryz.prog 150 (N15 n)) (h188:Sound Tryz.prog 188 (N16 n)):Sound Tryz.prog 150 (N15 (n+1)):=by
 refine fn_sound' (C:=Nhe n) (c:=bodyOf Tryz.f150) (cok_of tys_ok (allc Nqn (allc h188 alln)) (allc Tryz.call187 (allc Tryz.call188 alln)) (by kernel_rfl)) Tryz.func150 (by kernel_rfl) LL Nfg ?_
 intro avs H r H' h
 unfold N15 at h
 split at h
 ·refine Awp.cast ?_ ?_ ?_ (Nx0 n _ _ _ h)<;>kernel_rfl
 ·simp[Ans.no,Ans.run] at h
theorem N12a:Sound Tryz.prog 150 (N15 0):=by
 intro avs H r H' h
 unfold N15 at h
 split at h
 ·simp[Nn,N5,Ans.run] at h
 ·simp[Ans.no,Ans.run] at h
theorem Nus (n:Nat) (h150:Sound Tryz.prog 150 (N15 n)) (h188:Sound Tryz.prog 188 (N16 n)):Sound Tryz.prog 188 (N16 (n+1)):=by
 refine fn_sound' (C:=N65 n) (c:=bodyOf Tryz.f188) (cok_of tys_ok (allc N17q (allc h150 alln)) (allc Tryz.call134 (allc Tryz.call150 alln)) (by kernel_rfl)) Tryz.func188 (by kernel_rfl) LL N4k ?_
 intro avs H r H' h
 unfold N16 at h
 split at h
 ·refine Awp.cast ?_ ?_ ?_ (N189 n _ _ _ h)<;>kernel_rfl
 ·simp[Ans.no,Ans.run] at h
theorem Nzg:Sound Tryz.prog 188 (N16 0):=by
 intro avs H r H' h
 unfold N16 at h
 split at h
 ·simp[N1q,N5,Ans.run] at h
 ·simp[Ans.no,Ans.run] at h
theorem Ngd: ∀n,Sound Tryz.prog 150 (N15 n)∧Sound Tryz.prog 188 (N16 n)
 |0=>⟨N12a,Nzg⟩
 |n+1=>by
  obtain⟨h150,h188⟩:=Ngd n
  exact⟨N18e n h150 h188,Nus n h150 h188⟩
def N8k:Fun:=fun avs H=>
 match avs,H with
 |[.slc 0,.dat (.list (.int .i64)) a,.dat (.int .i64) b],[some (.seq (.int .i64) c)]=>⟨_,N76 a b c,fun(t:(List Int))=>(.slc 0,[some (sI t)]),[0],none⟩
 |_,_=>Ans.no
theorem N13u:Sound Tryz.prog 150 N8k:=by
 have e:N8k=N15 RR:=by
  funext avs H
  unfold N8k N15
  split<;>first|rfl|(simp only[N76])
 rw[e]
 exact(Ngd RR).1
def Niu:Fun:=fun avs H=>
 match avs,H with
 |[.slc 0,.dat (.list (.int .i64)) a,.dat (.int .u64) b],[some (.seq (.int .i64) c)]=>⟨_,Nkp a b c,fun(t:(List Int))=>(.slc 0,[some (sI t)]),[0],none⟩
 |_,_=>Ans.no
theorem N18l:Sound Tryz.prog 188 Niu:=by
 have e:Niu=N16 RR:=by
  funext avs H
  unfold Niu N16
  split<;>first|rfl|(simp only[Nkp])
 rw[e]
 exact(Ngd RR).2
def Ncu:Ann:=(.seq (.leaf [0]) (.seq (.seq (.leaf [0,5]) (.cond (.seq (.leaf [2]) (.leaf [2])) (.leaf [0]))) (.seq (.draw [5,100006] [0,1,3,4,5,2,6,7] [] [2]) (.leaf [2]))))
noncomputable def Ndz:Ctx:=⟨tlook tys,olook [(39,N18),(117,Ng4),(150,N8k)],ioF,0,false,[]⟩
theorem Nyj (a:List Int):Link Ndz LL (bodyOf Tryz.f116) Ncu ⟨mkE 13 0 [(0,dL a)],[]⟩ (N6m a) (fun(t:(List Int))=>(Exit.ret,⟨mkE 13 0 [(2,.slc 0)],[some (sI t)]⟩)):= .of fun K h=>by
 simp only[N6m,wpW] at h
 exact .of (by kernel_rfl) h
theorem Nuq (a:List Int) {r:AV} {H':Heap} (h:(Ans.mk _ (N2x a) (fun(t:(List Int))=>(.slc 0,[some (sI t)])) [] none).run=some (r,H')):Awp Ndz LL (bodyOf Tryz.f116) Ncu ⟨mkE 13 0 [(0,dL a)],[]⟩ (Ret (tlook tys) Tryz.f116.results.toList r H'):=
 ret_of' (Nyj a) (by unfold N2x;kernel_rfl) (by
 intro t
 exact ret_mk [.slc 0] (by kernel_rfl) (by kernel_rfl) (by kernel_rfl) (by kernel_rfl)) h
def Ndm:Fun:=fun avs H=>
 match avs,H with
 |[.dat (.list (.int .i64)) a],[]=>⟨_,N2x a,fun(t:(List Int))=>(.slc 0,[some (sI t)]),[],none⟩
 |_,_=>Ans.no
theorem Nvj:Sound Tryz.prog 116 Ndm:=by
 refine fn_sound' (C:=Ndz) (c:=bodyOf Tryz.f116) (cok_of tys_ok (allc N2e (allc Ntv (allc N13u alln))) (allc Tryz.call39 (allc Tryz.call117 (allc Tryz.call150 alln))) (by kernel_rfl)) Tryz.func116 (by kernel_rfl) LL Ncu ?_
 intro avs H r H' h
 unfold Ndm at h
 split at h
 ·refine Awp.cast ?_ ?_ ?_ (Nuq _ h)<;>kernel_rfl
 ·simp[Ans.no,Ans.run] at h
def New:Ann:=(.seq (.leaf [0]) (.seq (.leaf [3]) (.seq (.leaf [2]) (.leaf [2]))))
noncomputable def Nen:Ctx:=⟨tlook tys,olook [(116,Ndm),(176,N7z)],ioF,0,false,[]⟩
theorem Nsg (a:List Int):Link Nen LL (bodyOf Tryz.f136) New ⟨mkE 13 0 [(0,dL a)],[]⟩ (N7n a) (fun(t:(List Int))=>(Exit.ret,⟨mkE 13 0 [(2,.slc 0)],[some (sI t)]⟩)):= .of fun K h=>by
 simp only[N7n,wpW] at h
 exact .of (by kernel_rfl) h
theorem Nq7 (a:List Int) {r:AV} {H':Heap} (h:(Ans.mk _ (N3g a) (fun(t:(List Int))=>(.slc 0,[some (sI t)])) [] none).run=some (r,H')):Awp Nen LL (bodyOf Tryz.f136) New ⟨mkE 13 0 [(0,dL a)],[]⟩ (Ret (tlook tys) Tryz.f136.results.toList r H'):=
 ret_of' (Nsg a) (by unfold N3g;kernel_rfl) (by
 intro t
 exact ret_mk [.slc 0] (by kernel_rfl) (by kernel_rfl) (by kernel_rfl) (by kernel_rfl)) h
def Ngp:Fun:=fun avs H=>
 match avs,H with
 |[.dat (.list (.int .i64)) a],[]=>⟨_,N3g a,fun(t:(List Int))=>(.slc 0,[some (sI t)]),[],none⟩
 |_,_=>Ans.no
theorem N158:Sound Tryz.prog 136 Ngp:=by
 refine fn_sound' (C:=Nen) (c:=bodyOf Tryz.f136) (cok_of tys_ok (allc Nvj (allc Nma alln)) (allc Tryz.call116 (allc Tryz.call176 alln)) (by kernel_rfl)) Tryz.func136 (by kernel_rfl) LL New ?_
 intro avs H r H' h
 unfold Ngp at h
 split at h
 ·refine Awp.cast ?_ ?_ ?_ (Nq7 _ h)<;>kernel_rfl
 ·simp[Ans.no,Ans.run] at h
def Nf1:Ann:=(.seq (.leaf [0,3]) (.seq (.seq (.leaf [0,3,7]) (.block (.seq (.leaf [0,3,7,8]) (.cond (.seq (.seq (.leaf [0,3,14]) (.cond (.seq (.leaf [4]) (.leaf [4])) (.leaf [0,3]))) (.seq (.leaf [3,5]) (.seq (.leaf [5]) (.seq (.leaf [4]) (.leaf [4]))))) (.seq (.leaf [0,3,7,25]) (.cond (.seq (.draw [1,4] [0,2,3,4,1,5,6] [] [4]) (.leaf [4])) (.seq (.leaf [0,7,33]) (.cond (.seq (.leaf [4]) (.leaf [4])) (.seq (.leaf [0,7,41]) (.cond (.seq (.leaf [4]) (.leaf [4])) (.seq (.leaf [0,45]) (.cond (.seq (.leaf [4]) (.leaf [4])) (.leaf []))))))))))))) (.seq (.leaf [4]) (.leaf [4]))))
noncomputable def Nhs:Ctx:=⟨tlook tys,olook [(132,Ndq),(52,Nhb),(135,Nft),(136,Ngp)],ioF,0,false,[]⟩
theorem Ny2 (a:List Int) (b c d:Int):Link Nhs LL (bodyOf Tryz.f93) Nf1 ⟨mkE 49 0 [(0,dL a),(1,.agg [dI b,dI c,dI d])],[]⟩ (N6n a b c d) (fun(t:(List Int))=>(Exit.ret,⟨mkE 49 0 [(4,.slc 0)],[some (sI t)]⟩)):= .of fun K h=>by
 simp only[N6n,wpW] at h
 exact .of (by kernel_rfl) h
theorem Nuh (a:List Int) (b c d:Int) {r:AV} {H':Heap} (h:(Ans.mk _ (N3o a b c d) (fun(t:(List Int))=>(.slc 0,[some (sI t)])) [] none).run=some (r,H')):Awp Nhs LL (bodyOf Tryz.f93) Nf1 ⟨mkE 49 0 [(0,dL a),(1,.agg [dI b,dI c,dI d])],[]⟩ (Ret (tlook tys) Tryz.f93.results.toList r H'):=
 ret_of' (Ny2 a b c d) (by unfold N3o;kernel_rfl) (by
 intro t
 exact ret_mk [.slc 0] (by kernel_rfl) (by kernel_rfl) (by kernel_rfl) (by kernel_rfl)) h
def Nho:Fun:=fun avs H=>
 match avs,H with
 |[.dat (.list (.int .i64)) a,.agg [.dat (.int .i64) b,.dat (.int .i64) c,.dat (.int .i64) d]],[]=>⟨_,N3o a b c d,fun(t:(List Int))=>(.slc 0,[some (sI t)]),[],none⟩
 |_,_=>Ans.no
theorem Ns5:Sound Tryz.prog 93 Nho:=by
 refine fn_sound' (C:=Nhs) (c:=bodyOf Tryz.f93) (cok_of tys_ok (allc Nxz (allc Njz (allc Nvt (allc N158 alln)))) (allc Tryz.call132 (allc Tryz.call52 (allc Tryz.call135 (allc Tryz.call136 alln)))) (by kernel_rfl)) Tryz.func93 (by kernel_rfl) LL Nf1 ?_
 intro avs H r H' h
 unfold Nho at h
 split at h
 ·refine Awp.cast ?_ ?_ ?_ (Nuh _ _ _ _ h)<;>kernel_rfl
 ·simp[Ans.no,Ans.run] at h
def N1z:Ann:=(.seq (.leaf [0,1]) (.seq (.seq (.leaf [0,1,10]) (.cond (.seq (.leaf [4]) (.leaf [4])) (.leaf [0,1]))) (.seq (.seq (.leaf [0,1,12,13]) (.block (.loop (.seq (.leaf [0,1,12,13,14]) (.seq (.cond (.leaf [0,1,12,13]) (.leaf [])) (.seq (.block (.seq (.leaf [0,1,5,12,13]) (.seq (.draw [] [0,1,2,3,4,5,6,7,8] [] [0,1,12,13,24]) (.cond (.seq (.leaf [4]) (.leaf [4])) (.leaf [0,1,12,13]))))) (.leaf [0,1,12,13]))))))) (.seq (.leaf [4]) (.leaf [4])))))
noncomputable def N5r:Ctx:=⟨tlook tys,olook [],ioF,0,false,[]⟩
theorem N11j (a b:List Int):Link N5r LL (Code.seq (cq [0] (bodyOf Tryz.f94)) (cq [0,1] (bodyOf Tryz.f94))) (Ann.seq (aq [0] N1z) (aq [0,1] N1z)) ⟨mkE 26 0 [(0,dL a),(1,dL b)],[]⟩ (N9r a b) (Sum.elim (fun(t:Unit)=>(Exit.normal,⟨mkE 26 0 [(0,dL a),(1,dL b)],[]⟩)) (fun(t:Bool)=>(Exit.ret,⟨mkE 26 0 [(4,dB t)],[]⟩))):= .of fun K h=>by
 simp only[N9r,wpW] at h
 exact .of (by kernel_rfl) h
theorem Nxq (a b:List Int):Link N5r LL (cq [0,0,1,1] (bodyOf Tryz.f94)) (aq [0,0,1,1] N1z) ⟨mkE 26 0 [(0,dL a),(1,dL b)],[]⟩ (Ncl a) (fun(t:Int)=>(Exit.normal,⟨mkE 26 0 [(0,dL a),(1,dL b),(12,dI t),(13,dI 0)],[]⟩)):= .of fun K h=>by
 simp only[Ncl,wpW] at h
 exact .of (by kernel_rfl) h
theorem Nqx (a b:List Int) (c d:Int):Link N5r LL (cq [0,0,1,0,1,1] (bodyOf Tryz.f94)) (aq [0,0,1,0,1,1] N1z) ⟨mkE 26 0 [(0,dL a),(1,dL b),(12,dI c),(13,dI d)],[]⟩ (N3y a b c d) (Sum.elim (fun(t:Int)=>(Exit.normal,⟨mkE 26 0 [(0,dL a),(1,dL b),(12,dI c),(13,dI t)],[]⟩)) (Sum.elim (fun(t:Bool)=>(Exit.ret,⟨mkE 26 0 [(4,dB t)],[]⟩)) (fun(t:Unit)=>((Exit.exit 0),⟨mkE 26 0 [],[]⟩)))):= .of fun K h=>by
 simp only[N3y,wpW] at h
 exact .of (by kernel_rfl) h
theorem Npj:Link N5r LL (cq [1,1,1] (bodyOf Tryz.f94)) (aq [1,1,1] N1z) ⟨mkE 26 0 [],[]⟩ (Ndy) (fun(t:Bool)=>(Exit.ret,⟨mkE 26 0 [(4,dB t)],[]⟩)):= .of fun K h=>by
 simp only[Ndy,wpW] at h
 exact .of (by kernel_rfl) h
theorem Nym (b d:List Int) {r:AV} {H':Heap} (h:(Ans.mk _ (N3k b d) (fun(t:Bool)=>(dB t,[])) [] none).run=some (r,H')):Awp N5r LL (bodyOf Tryz.f94) N1z ⟨mkE 26 0 [(0,dL b),(1,dL d)],[]⟩ (Ret (tlook tys) Tryz.f94.results.toList r H'):=
 ret_of' (Link.cast (by kernel_rfl) (by kernel_rfl) (link_group (c:=(cq [0,1] (bodyOf Tryz.f94))) (a:=(aq [0,1] N1z)) [(cq [0] (bodyOf Tryz.f94))] [(aq [0] N1z)] rfl (link_seq2 (N11j b d) (fun(t:Unit)=>(link_seq2 (link_seq (Nxq b d) (fun(t:Int)=>(link_block (fin2:=(Sum.elim (fun(t20:Unit)=>(Exit.normal,⟨mkE 26 0 [],[]⟩)) (fun(t20:Bool)=>(Exit.ret,⟨mkE 26 0 [(4,dB t20)],[]⟩)))) (id:=0) (link_loop (mk:=fun(s:Int)=>⟨mkE 26 0 [(0,dL b),(1,dL d),(12,dI t),(13,dI s)],[]⟩) (fin:=(Sum.elim (fun(t20:Bool)=>(Exit.ret,⟨mkE 26 0 [(4,dB t20)],[]⟩)) (fun(t20:Unit)=>((Exit.exit 0),⟨mkE 26 0 [],[]⟩)))) (by
 rintro(t20|t20) f K h
 ·exact h
 ·exact h) (fun s=>link_map (Nqx b d t s) (Sum.elim (fun(t20:Int)=>Sum.inl t20) (Sum.elim (fun(t20:Bool)=>Sum.inr (Sum.inl t20)) (fun(t20:Unit)=>Sum.inr (Sum.inr t20)))) (by
 rintro(t20|t20|t20)
 ·kernel_rfl
 ·kernel_rfl
 ·kernel_rfl)) 0) (Sum.elim (fun(t20:Bool)=>(Sum.inr t20)) (fun(t20:Unit)=>(Sum.inl ()))) (by
 rintro(t20|t20) K h
 ·exact Eq.mp (by kernel_rfl) h
 ·exact Eq.mp (by kernel_rfl) h)))) (fun(t:Unit)=>(Npj)) (fun(t:Bool)=>t) (by
 rintro t
 ·kernel_rfl) (by
 rintro t f K h
 ·exact h))) (fun(t:Bool)=>t) (by
 rintro t
 ·kernel_rfl) (by
 rintro t f K h
 ·exact h)))) (by unfold N3k;kernel_rfl) (by
 intro t
 exact ret_mk [dB t] (by kernel_rfl) (by kernel_rfl) (by kernel_rfl) (by kernel_rfl)) h
def Nfs:Fun:=fun avs H=>
 match avs,H with
 |[.dat (.list (.int .i64)) a,.dat (.list (.int .i64)) b],[]=>⟨_,N3k a b,fun(t:Bool)=>(dB t,[]),[],none⟩
 |_,_=>Ans.no
theorem N160:Sound Tryz.prog 94 Nfs:=by
 refine fn_sound' (C:=N5r) (c:=bodyOf Tryz.f94) (cok_of tys_ok (alln) (alln) (by kernel_rfl)) Tryz.func94 (by kernel_rfl) LL N1z ?_
 intro avs H r H' h
 unfold Nfs at h
 split at h
 ·refine Awp.cast ?_ ?_ ?_ (Nym _ _ h)<;>kernel_rfl
 ·simp[Ans.no,Ans.run] at h
def ren_slices_Clone_ints_int:Go.Shelf.Ren:=⟨fun|41=>95|n=>n,fun|4=>4|22=>29|23=>28|n=>n,fun n=>n⟩
theorem lay_slices_Clone_ints_int:SlLaysE0.n41 Tryz.prog ren_slices_Clone_ints_int:={
 mixed:=by kernel_rfl
 f41:=⟨Tryz.f95.name,by kernel_rfl,Tryz.func95.trans (congrArg some (by kernel_rfl))⟩
 t4:=Tryz.underlying4
 a4:=Tryz.isAgg4
 z4:=Tryz.sizeOf4
 v4:=Tryz.zeroValue4
 t22:=Tryz.underlying29
 a22:=Tryz.isAgg29
 z22:=Tryz.sizeOf29
 v22:=Tryz.zeroValue29}
def Nkx:Fun:=F_cloneD
theorem N141:Sound Tryz.prog 95 Nkx:=cloneD_sound lay_slices_Clone_ints_int (infoOf (Tryz.prog.info? 28)) (.slice none 0 0) 24 (by kernel_rfl) (by kernel_rfl) (by kernel_rfl) (by kernel_rfl) (by kernel_rfl) (by decide) Tryz.sizeOf28
def Ni5:Ann:=(.seq (.leaf [2,3,4]) (.seq (.leaf [2,4,6]) (.seq (.seq (.leaf [2,4,6,20]) (.cond (.seq (.leaf [4,5]) (.leaf [4,5])) (.leaf [2,4,6]))) (.seq (.draw [2,5] [0,1,3,4,5,2,6,7] [] [4,6,7]) (.seq (.leaf [4,5]) (.leaf [4,5]))))))
noncomputable def Nii:Ctx:=⟨tlook tys,olook [(93,Nho),(39,N18),(29,N3s),(94,Nfs),(95,Nkx)],ioF,0,true,[]⟩
theorem N17e (a:List Int) (b:List (List Int)) (c d g:Int):Link Nii LL (bodyOf Tryz.f58) Ni5 ⟨mkE 41 0 [(0,.agg [dL a,.dat (.list (.list (.int .i64))) b]),(1,.agg [dI c,dI d,dI g])],[]⟩ (N70 a b c d g) (fun(t:Bool×(List Int)×(List (List Int)))=>(Exit.ret,⟨mkE 41 0 [(4,.ptr 0 0),(5,dB t.1)],[some (.box [.slc 1,.slc 2]),some (sI t.2.1),some (.nest (.int .i64) t.2.2 0 [])]⟩)):= .of fun K h=>by
 simp only[N70,wpW] at h
 exact .of (by kernel_rfl) h
theorem N10p (a:List Int) (b:List (List Int)) (c d g:Int) {r:AV} {H':Heap} (h:(Ans.mk _ (N3e a b c d g) (fun(t:Bool×(List Int)×(List (List Int)))=>(.tup [.agg [.slc 1,.slc 2],dB t.1],[some (.box [.slc 1,.slc 2]),some (sI t.2.1),some (.nest (.int .i64) t.2.2 0 [])])) [] none).run=some (r,H')):Awp Nii LL (bodyOf Tryz.f58) Ni5 ⟨mkE 41 0 [(0,.agg [dL a,.dat (.list (.list (.int .i64))) b]),(1,.agg [dI c,dI d,dI g])],[]⟩ (Ret (tlook tys) Tryz.f58.results.toList r H'):=
 ret_of' (N17e a b c d g) (by unfold N3e;kernel_rfl) (by
 intro t
 exact ret_mk [.agg [.slc 1,.slc 2],dB t.1] (by kernel_rfl) (by kernel_rfl) (by kernel_rfl) (by kernel_rfl)) h
def Ner:Fun:=fun avs H=>
 match avs,H with
 |[.agg [.dat (.list (.int .i64)) a,.dat (.list (.list (.int .i64))) b],.agg [.dat (.int .i64) c,.dat (.int .i64) d,.dat (.int .i64) g]],[]=>⟨_,N3e a b c d g,fun(t:Bool×(List Int)×(List (List Int)))=>(.tup [.agg [.slc 1,.slc 2],dB t.1],[some (.box [.slc 1,.slc 2]),some (sI t.2.1),some (.nest (.int .i64) t.2.2 0 [])]),[],none⟩
 |_,_=>Ans.no
theorem Nse:Sound Tryz.prog 58 Ner:=by
 refine fn_sound' (C:=Nii) (c:=bodyOf Tryz.f58) (cok_of tys_ok (allc Ns5 (allc N2e (allc N6l (allc N160 (allc N141 alln))))) (allc Tryz.call93 (allc Tryz.call39 (allc Tryz.call29 (allc Tryz.call94 (allc Tryz.call95 alln))))) (by kernel_rfl)) Tryz.func58 (by kernel_rfl) LL Ni5 ?_
 intro avs H r H' h
 unfold Ner at h
 split at h
 ·refine Awp.cast ?_ ?_ ?_ (N10p _ _ _ _ _ h)<;>kernel_rfl
 ·simp[Ans.no,Ans.run] at h
def Ned:Ann:=(.seq (.leaf [2,3,4]) (.seq (.seq (.leaf [2,3,4,8]) (.cond (.seq (.leaf [4,5]) (.leafF [⟨0,4,false,some 0,some (.int .i64)⟩,⟨0,4,true,some 1,some (.int .i64)⟩] [4,5])) (.leaf [2,3,4]))) (.seq (.seq (.leaf [2,3,4,12]) (.cond (.seq (.leaf [4,5]) (.leaf [4,5])) (.leaf [2,3,4]))) (.seq (.seq (.leaf [2,3,4,20]) (.cond (.seq (.leaf [4,5]) (.leaf [4,5])) (.leaf [2,3,4]))) (.seq (.leaf [4,5]) (.leaf [4,5]))))))
noncomputable def Ngg:Ctx:=⟨tlook tys,olook [(28,N6t),(56,Nbz),(29,N3s),(57,Nez),(58,Ner)],ioF,0,true,[]⟩
theorem Nr6 (a:List Int) (b:List (List Int)) (c d g:Int):Link Ngg LL (bodyOf Tryz.f31) Ned ⟨mkE 30 0 [(0,.agg [dL a,.dat (.list (.list (.int .i64))) b]),(1,.agg [dI c,dI d,dI g])],[]⟩ (N72 a b c d g) (fun(t:Bool×(List Int)×(List (List Int)))=>(Exit.ret,⟨mkE 30 0 [(4,.ptr 0 0),(5,dB t.1)],[some (.box [.slc 1,.slc 2]),some (sI t.2.1),some (.nest (.int .i64) t.2.2 0 [])]⟩)):= .of fun K h=>by
 simp only[N72,wpW] at h
 exact .of (by kernel_rfl) h
theorem N16e (a:List Int) (b:List (List Int)) (c d g:Int) {r:AV} {H':Heap} (h:(Ans.mk _ (N2q a b c d g) (fun(t:Bool×(List Int)×(List (List Int)))=>(.tup [.agg [.slc 1,.slc 2],dB t.1],[some (.box [.slc 1,.slc 2]),some (sI t.2.1),some (.nest (.int .i64) t.2.2 0 [])])) [] none).run=some (r,H')):Awp Ngg LL (bodyOf Tryz.f31) Ned ⟨mkE 30 0 [(0,.agg [dL a,.dat (.list (.list (.int .i64))) b]),(1,.agg [dI c,dI d,dI g])],[]⟩ (Ret (tlook tys) Tryz.f31.results.toList r H'):=
 ret_of' (Nr6 a b c d g) (by unfold N2q;kernel_rfl) (by
 intro t
 exact ret_mk [.agg [.slc 1,.slc 2],dB t.1] (by kernel_rfl) (by kernel_rfl) (by kernel_rfl) (by kernel_rfl)) h
def Na5:Fun:=fun avs H=>
 match avs,H with
 |[.agg [.dat (.list (.int .i64)) a,.dat (.list (.list (.int .i64))) b],.agg [.dat (.int .i64) c,.dat (.int .i64) d,.dat (.int .i64) g]],[]=>⟨_,N2q a b c d g,fun(t:Bool×(List Int)×(List (List Int)))=>(.tup [.agg [.slc 1,.slc 2],dB t.1],[some (.box [.slc 1,.slc 2]),some (sI t.2.1),some (.nest (.int .i64) t.2.2 0 [])]),[],none⟩
 |_,_=>Ans.no
theorem Nkr:Sound Tryz.prog 31 Na5:=by
 refine fn_sound' (C:=Ngg) (c:=bodyOf Tryz.f31) (cok_of tys_ok (allc Nd3 (allc Nny (allc N6l (allc Npx (allc Nse alln))))) (allc Tryz.call28 (allc Tryz.call56 (allc Tryz.call29 (allc Tryz.call57 (allc Tryz.call58 alln))))) (by kernel_rfl)) Tryz.func31 (by kernel_rfl) LL Ned ?_
 intro avs H r H' h
 unfold Na5 at h
 split at h
 ·refine Awp.cast ?_ ?_ ?_ (N16e _ _ _ _ _ h)<;>kernel_rfl
 ·simp[Ans.no,Ans.run] at h
def Nhw:Ann:=(.seq (.leaf [1,2,4]) (.seq (.seq (.leaf [1,2,4,12]) (.cond (.seq (.leaf [4,5]) (.leafF [⟨0,4,false,some 0,some (.int .i64)⟩,⟨0,4,true,some 1,some (.int .i64)⟩] [4,5])) (.leaf [1,2,4]))) (.seq (.leaf [1,2,4,6,7]) (.seq (.seq (.leaf [1,2,4,6,20]) (.cond (.seq (.draw [4,7] [0,1,2,3,5,6,4,7,8,9] [] [4,5]) (.leaf [4,5])) (.leaf [2,4,6]))) (.seq (.leaf [4,8,9]) (.seq (.seq (.leaf [4,8,36]) (.cond (.seq (.leaf [4,5]) (.leaf [4,5])) (.leaf [4,8]))) (.seq (.leaf [4,5]) (.leaf [4,5]))))))))
noncomputable def Niw:Ctx:=⟨tlook tys,olook [(28,N6t),(22,N8u),(29,N3s),(31,Na5)],ioF,0,true,[]⟩
theorem Ntu (a:List Int) (b:List (List Int)) (c:ByteArray):Link Niw LL (bodyOf Tryz.f10) Nhw ⟨mkE 39 0 [(0,.agg [dL a,.dat (.list (.list (.int .i64))) b]),(1,dS c)],[]⟩ (N79 a b c) (fun(t:ByteArray×(List Int)×(List (List Int)))=>(Exit.ret,⟨mkE 39 0 [(4,.ptr 0 0),(5,dS t.1)],[some (.box [.slc 1,.slc 2]),some (sI t.2.1),some (.nest (.int .i64) t.2.2 0 [])]⟩)):= .of fun K h=>by
 simp only[N79,wpW,wpO_none] at h
 exact .of (by kernel_rfl) h
theorem Nr9 (a:List Int) (b:List (List Int)) (c:ByteArray) {r:AV} {H':Heap} (h:(Ans.mk _ (N20 a b c) (fun(t:ByteArray×(List Int)×(List (List Int)))=>(.tup [.agg [.slc 1,.slc 2],dS t.1],[some (.box [.slc 1,.slc 2]),some (sI t.2.1),some (.nest (.int .i64) t.2.2 0 [])])) [] none).run=some (r,H')):Awp Niw LL (bodyOf Tryz.f10) Nhw ⟨mkE 39 0 [(0,.agg [dL a,.dat (.list (.list (.int .i64))) b]),(1,dS c)],[]⟩ (Ret (tlook tys) Tryz.f10.results.toList r H'):=
 ret_of' (Ntu a b c) (by unfold N20;kernel_rfl) (by
 intro t
 exact ret_mk [.agg [.slc 1,.slc 2],dS t.1] (by kernel_rfl) (by kernel_rfl) (by kernel_rfl) (by kernel_rfl)) h
def Ni6:Fun:=fun avs H=>
 match avs,H with
 |[.agg [.dat (.list (.int .i64)) a,.dat (.list (.list (.int .i64))) b],.dat .str c],[]=>⟨_,N20 a b c,fun(t:ByteArray×(List Int)×(List (List Int)))=>(.tup [.agg [.slc 1,.slc 2],dS t.1],[some (.box [.slc 1,.slc 2]),some (sI t.2.1),some (.nest (.int .i64) t.2.2 0 [])]),[],none⟩
 |_,_=>Ans.no
theorem Nvw:Sound Tryz.prog 10 Ni6:=by
 refine fn_sound' (C:=Niw) (c:=bodyOf Tryz.f10) (cok_of tys_ok (allc Nd3 (allc Nok (allc N6l (allc Nkr alln)))) (allc Tryz.call28 (allc Tryz.call22 (allc Tryz.call29 (allc Tryz.call31 alln)))) (by kernel_rfl)) Tryz.func10 (by kernel_rfl) LL Nhw ?_
 intro avs H r H' h
 unfold Ni6 at h
 split at h
 ·refine Awp.cast ?_ ?_ ?_ (Nr9 _ _ _ h)<;>kernel_rfl
 ·simp[Ans.no,Ans.run] at h
def N11:Ann:=(.seq (.leaf [1,2,4]) (.seq (.seq (.leaf [1,2,4,19]) (.cond (.seq (.leaf [4,5]) (.leafF [⟨0,4,false,some 0,some (.int .i64)⟩,⟨0,4,true,some 1,some (.int .i64)⟩] [4,5])) (.leaf [1,2,4]))) (.seq (.leaf [1,4,6,7]) (.seq (.seq (.leaf [4,6,7,26,27,28]) (.block (.loop (.seq (.leaf [4,6,7,26,27,28,29]) (.seq (.cond (.leaf [4,6,7,26,27,28]) (.leaf [4,6,7])) (.seq (.block (.seq (.leaf [4,6,7,9,26,27,28]) (.seq (.leaf [4,6,7,10,11,26,27,28]) (.seq (.leaf [4,6,7,10,26,27,28,38]) (.cond (.seq (.leaf [4,6,7,26,27,28]) (.leaf [4,6,7,26,27,28])) (.leaf [4,6,7,26,27,28])))))) (.leaf [4,6,7,26,27,28]))))))) (.seq (.leaf [4,5]) (.leaf [4,5]))))))
noncomputable def N5g:Ctx:=⟨tlook tys,olook [(28,N6t),(29,N3s),(31,Na5)],ioF,0,true,[]⟩
theorem N181 (a:List Int) (b:List (List Int)) (c:List (Int×Int×Int×Unit)):Link N5g LL (Code.seq (cq [0] (bodyOf Tryz.f12)) (Code.seq (cq [0,1] (bodyOf Tryz.f12)) (cq [0,1,1] (bodyOf Tryz.f12)))) (Ann.seq (aq [0] N11) (Ann.seq (aq [0,1] N11) (aq [0,1,1] N11))) ⟨mkE 45 0 [(0,.agg [dL a,.dat (.list (.list (.int .i64))) b]),(1,.dat (.list (.pair (.int .i64) (.pair (.int .i64) (.pair (.int .i64) .unit)))) c)],[]⟩ (Na1 a b c) (Sum.elim (fun(t:(List Int)×(List (List Int)))=>(Exit.normal,⟨mkE 45 0 [(1,.dat (.list (.pair (.int .i64) (.pair (.int .i64) (.pair (.int .i64) .unit)))) c),(4,.ptr 0 0),(6,.ptr 1 0),(7,dI 0)],[some (.box [.nils,.nils]),some (.box [.slc 2,.slc 3]),some (sI t.1),some (.nest (.int .i64) t.2 0 [])]⟩)) (fun(t:Int×(List Int)×(List (List Int)))=>(Exit.ret,⟨mkE 45 0 [(4,.ptr 0 0),(5,dI t.1)],[some (.box [.slc 1,.slc 2]),some (sI t.2.1),some (.nest (.int .i64) t.2.2 0 [])]⟩))):= .of fun K h=>by
 simp only[Na1,wpW] at h
 exact .of (by kernel_rfl) h
theorem N10a (a:List (Int×Int×Int×Unit)) (b:List Int) (c:List (List Int)):Link N5g LL (cq [0,0,1,1,1] (bodyOf Tryz.f12)) (aq [0,0,1,1,1] N11) ⟨mkE 45 0 [(1,.dat (.list (.pair (.int .i64) (.pair (.int .i64) (.pair (.int .i64) .unit)))) a),(4,.ptr 0 0),(6,.ptr 1 0),(7,dI 0)],[some (.box [.nils,.nils]),some (.box [.slc 2,.slc 3]),some (sI b),some (.nest (.int .i64) c 0 [])]⟩ (N8o a) (fun(t:Int)=>(Exit.normal,⟨mkE 45 0 [(4,.ptr 0 0),(6,.ptr 1 0),(7,dI 0),(26,.dat (.list (.pair (.int .i64) (.pair (.int .i64) (.pair (.int .i64) .unit)))) a),(27,dI t),(28,dI 0)],[some (.box [.nils,.nils]),some (.box [.slc 2,.slc 3]),some (sI b),some (.nest (.int .i64) c 0 [])]⟩)):= .of fun K h=>by
 simp only[N8o,wpW] at h
 exact .of (by kernel_rfl) h
theorem Nrc (a:Int) (b:List (Int×Int×Int×Unit)) (c d:Int) (g:List Int) (i:List (List Int)):Link N5g LL (cq [0,0,1,0,1,1,1] (bodyOf Tryz.f12)) (aq [0,0,1,0,1,1,1] N11) ⟨mkE 45 0 [(4,.ptr 0 0),(6,.ptr 1 0),(7,dI a),(26,.dat (.list (.pair (.int .i64) (.pair (.int .i64) (.pair (.int .i64) .unit)))) b),(27,dI c),(28,dI d)],[some (.box [.nils,.nils]),some (.box [.slc 2,.slc 3]),some (sI g),some (.nest (.int .i64) i 0 [])]⟩ (N5w a b c d g i) (Sum.elim (fun(t:Int×Int×(List Int)×(List (List Int)))=>(Exit.normal,⟨mkE 45 0 [(4,.ptr 0 0),(6,.ptr 1 0),(7,dI t.1),(26,.dat (.list (.pair (.int .i64) (.pair (.int .i64) (.pair (.int .i64) .unit)))) b),(27,dI c),(28,dI t.2.1)],[some (.box [.nils,.nils]),some (.box [.slc 2,.slc 3]),some (sI t.2.2.1),some (.nest (.int .i64) t.2.2.2 0 [])]⟩)) (fun(t:Int×(List Int)×(List (List Int)))=>((Exit.exit 0),⟨mkE 45 0 [(4,.ptr 0 0),(6,.ptr 1 0),(7,dI t.1)],[some (.box [.nils,.nils]),some (.box [.slc 2,.slc 3]),some (sI t.2.1),some (.nest (.int .i64) t.2.2 0 [])]⟩))):= .of fun K h=>by
 simp only[N5w,wpW] at h
 exact .of (by kernel_rfl) h
theorem Nt7 (a:Int) (b:List Int) (c:List (List Int)):Link N5g LL (cq [1,1,1,1] (bodyOf Tryz.f12)) (aq [1,1,1,1] N11) ⟨mkE 45 0 [(4,.ptr 0 0),(6,.ptr 1 0),(7,dI a)],[some (.box [.nils,.nils]),some (.box [.slc 2,.slc 3]),some (sI b),some (.nest (.int .i64) c 0 [])]⟩ (N8t a b c) (fun(t:Int×(List Int)×(List (List Int)))=>(Exit.ret,⟨mkE 45 0 [(4,.ptr 0 0),(5,dI t.1)],[some (.box [.slc 1,.slc 2]),some (sI t.2.1),some (.nest (.int .i64) t.2.2 0 [])]⟩)):= .of fun K h=>by
 simp only[N8t,wpW] at h
 exact .of (by kernel_rfl) h
theorem Nxi (b:List Int) (d:List (List Int)) (g:List (Int×Int×Int×Unit)) {r:AV} {H':Heap} (h:(Ans.mk _ (N22 b d g) (fun(t:Int×(List Int)×(List (List Int)))=>(.tup [.agg [.slc 1,.slc 2],dI t.1],[some (.box [.slc 1,.slc 2]),some (sI t.2.1),some (.nest (.int .i64) t.2.2 0 [])])) [] none).run=some (r,H')):Awp N5g LL (bodyOf Tryz.f12) N11 ⟨mkE 45 0 [(0,.agg [dL b,.dat (.list (.list (.int .i64))) d]),(1,.dat (.list (.pair (.int .i64) (.pair (.int .i64) (.pair (.int .i64) .unit)))) g)],[]⟩ (Ret (tlook tys) Tryz.f12.results.toList r H'):=
 ret_of' (Link.cast (by kernel_rfl) (by kernel_rfl) (link_group (c:=(cq [0,1,1] (bodyOf Tryz.f12))) (a:=(aq [0,1,1] N11)) [(cq [0] (bodyOf Tryz.f12)),(cq [0,1] (bodyOf Tryz.f12))] [(aq [0] N11),(aq [0,1] N11)] rfl (link_seq2 (N181 b d g) (fun(t:(List Int)×(List (List Int)))=>(link_seq (link_seq (N10a g t.1 t.2) (fun(t37:Int)=>(link_block (fin2:=(fun(t21:Int×(List Int)×(List (List Int)))=>(Exit.normal,⟨mkE 45 0 [(4,.ptr 0 0),(6,.ptr 1 0),(7,dI t21.1)],[some (.box [.nils,.nils]),some (.box [.slc 2,.slc 3]),some (sI t21.2.1),some (.nest (.int .i64) t21.2.2 0 [])]⟩))) (id:=0) (link_loop (mk:=fun(s:Int×Int×(List Int)×(List (List Int)))=>⟨mkE 45 0 [(4,.ptr 0 0),(6,.ptr 1 0),(7,dI s.1),(26,.dat (.list (.pair (.int .i64) (.pair (.int .i64) (.pair (.int .i64) .unit)))) g),(27,dI t37),(28,dI s.2.1)],[some (.box [.nils,.nils]),some (.box [.slc 2,.slc 3]),some (sI s.2.2.1),some (.nest (.int .i64) s.2.2.2 0 [])]⟩) (fin:=(fun(t21:Int×(List Int)×(List (List Int)))=>((Exit.exit 0),⟨mkE 45 0 [(4,.ptr 0 0),(6,.ptr 1 0),(7,dI t21.1)],[some (.box [.nils,.nils]),some (.box [.slc 2,.slc 3]),some (sI t21.2.1),some (.nest (.int .i64) t21.2.2 0 [])]⟩))) (by
 rintro t21 f K h
 ·exact h) (fun s=>link_map (Nrc s.1 g t37 s.2.1 s.2.2.1 s.2.2.2) (Sum.elim (fun(t21:Int×Int×(List Int)×(List (List Int)))=>Sum.inl (t21.1,t21.2.1,t21.2.2.1,t21.2.2.2)) (fun(t21:Int×(List Int)×(List (List Int)))=>Sum.inr t21)) (by
 rintro(t21|t21)
 ·kernel_rfl
 ·kernel_rfl)) (0,0,t.1,t.2)) (fun(t21:Int×(List Int)×(List (List Int)))=>(t21.1,t21.2.1,t21.2.2)) (by
 rintro t21 K h
 ·exact Eq.mp (by kernel_rfl) h)))) (fun(t37:Int×(List Int)×(List (List Int)))=>(Nt7 t37.1 t37.2.1 t37.2.2)))) (fun(t:Int×(List Int)×(List (List Int)))=>t) (by
 rintro t
 ·kernel_rfl) (by
 rintro t f K h
 ·exact h)))) (by unfold N22;kernel_rfl) (by
 intro t
 exact ret_mk [.agg [.slc 1,.slc 2],dI t.1] (by kernel_rfl) (by kernel_rfl) (by kernel_rfl) (by kernel_rfl)) h
def Nf4:Fun:=fun avs H=>
 match avs,H with
 |[.agg [.dat (.list (.int .i64)) a,.dat (.list (.list (.int .i64))) b],.dat (.list (.pair (.int .i64) (.pair (.int .i64) (.pair (.int .i64) .unit)))) c],[]=>⟨_,N22 a b c,fun(t:Int×(List Int)×(List (List Int)))=>(.tup [.agg [.slc 1,.slc 2],dI t.1],[some (.box [.slc 1,.slc 2]),some (sI t.2.1),some (.nest (.int .i64) t.2.2 0 [])]),[],none⟩
 |_,_=>Ans.no
theorem N16n:Sound Tryz.prog 12 Nf4:=by
 refine fn_sound' (C:=N5g) (c:=bodyOf Tryz.f12) (cok_of tys_ok (allc Nd3 (allc N6l (allc Nkr alln))) (allc Tryz.call28 (allc Tryz.call29 (allc Tryz.call31 alln))) (by kernel_rfl)) Tryz.func12 (by kernel_rfl) LL N11 ?_
 intro avs H r H' h
 unfold Nf4 at h
 split at h
 ·refine Awp.cast ?_ ?_ ?_ (Nxi _ _ _ h)<;>kernel_rfl
 ·simp[Ans.no,Ans.run] at h
def ren_impl_JournalText:Go.Shelf.Ren:=⟨fun|166=>35|169=>36|240=>60|276=>97|n=>n,fun|0=>0|3=>3|4=>4|5=>5|9=>9|20=>20|37=>22|70=>65|72=>67|75=>69|80=>72|127=>94|164=>108|n=>n,fun|n=>n⟩
theorem lay_impl_JournalText_w:Lays.n166 Tryz.prog ren_impl_JournalText:={
 mixed:=by kernel_rfl
 f166:=Tryz.func35.trans (congrArg some (by kernel_rfl))
 f240:=Tryz.func60.trans (congrArg some (by kernel_rfl))
 f276:=Tryz.func97.trans (congrArg some (by kernel_rfl))
 t0:=Tryz.underlying0
 a0:=Tryz.isAgg0
 z0:=Tryz.sizeOf0
 v0:=Tryz.zeroValue0
 t3:=Tryz.underlying3
 a3:=Tryz.isAgg3
 z3:=Tryz.sizeOf3
 v3:=Tryz.zeroValue3
 t4:=Tryz.underlying4
 a4:=Tryz.isAgg4
 z4:=Tryz.sizeOf4
 v4:=Tryz.zeroValue4
 t9:=Tryz.underlying9
 a9:=Tryz.isAgg9
 z9:=Tryz.sizeOf9
 v9:=Tryz.zeroValue9
 t20:=Tryz.underlying20
 a20:=Tryz.isAgg20
 z20:=Tryz.sizeOf20
 v20:=Tryz.zeroValue20
 t37:=Tryz.underlying22
 a37:=Tryz.isAgg22
 z37:=Tryz.sizeOf22
 v37:=Tryz.zeroValue22
 t70:=Tryz.underlying65
 a70:=Tryz.isAgg65
 z70:=Tryz.sizeOf65
 v70:=Tryz.zeroValue65
 t72:=Tryz.underlying67
 a72:=Tryz.isAgg67
 z72:=Tryz.sizeOf67
 v72:=Tryz.zeroValue67
 t75:=Tryz.underlying69
 a75:=Tryz.isAgg69
 z75:=Tryz.sizeOf69
 v75:=Tryz.zeroValue69
 t164:=Tryz.underlying108
 a164:=Tryz.isAgg108
 z164:=Tryz.sizeOf108
 v164:=Tryz.zeroValue108}
theorem lay_impl_JournalText_s:Lays.n169 Tryz.prog ren_impl_JournalText:={
 mixed:=by kernel_rfl
 f169:=Tryz.func36.trans (congrArg some (by kernel_rfl))
 t0:=Tryz.underlying0
 a0:=Tryz.isAgg0
 z0:=Tryz.sizeOf0
 v0:=Tryz.zeroValue0
 t3:=Tryz.underlying3
 a3:=Tryz.isAgg3
 z3:=Tryz.sizeOf3
 v3:=Tryz.zeroValue3
 t9:=Tryz.underlying9
 a9:=Tryz.isAgg9
 z9:=Tryz.sizeOf9
 v9:=Tryz.zeroValue9
 t37:=Tryz.underlying22
 a37:=Tryz.isAgg22
 z37:=Tryz.sizeOf22
 v37:=Tryz.zeroValue22
 t70:=Tryz.underlying65
 a70:=Tryz.isAgg65
 z70:=Tryz.sizeOf65
 v70:=Tryz.zeroValue65
 t72:=Tryz.underlying67
 a72:=Tryz.isAgg67
 z72:=Tryz.sizeOf67
 v72:=Tryz.zeroValue67
 t127:=Tryz.underlying94
 a127:=Tryz.isAgg94
 z127:=Tryz.sizeOf94
 v127:=Tryz.zeroValue94}
theorem lay_impl_JournalText_x:Builder.Extra Tryz.prog ren_impl_JournalText:={
 sizeBuilder:=by kernel_rfl
 liesBuilder:=by kernel_rfl
 t5:=Tryz.underlying5
 a5:=Tryz.isAgg5
 z5:=Tryz.sizeOf5
 v5:=Tryz.zeroValue5
 infoByte:=by kernel_rfl
 cellsByte:=by kernel_rfl
 sizeByte:=by kernel_rfl
 neB5:=by decide}
set_option maxRecDepth 100000 in
theorem Nuo (xs:List DeedV) (a:Option Addr) (cap:Nat) (t:ByteArray) (w:World)
  (hD0: ∀(d:DeedV) (s:ByteArray) (w':World),(fun d:DeedV=>N3 d.1 d.2.1 d.2.2.1) d=some s→Go.RowKit.Below w.heap.size w w'→Calls Tryz.prog 11 #[deedVal d] w' fun e w''=>e= .returned (.string s)∧Go.RowKit.Below w'.heap.size w' w'')
  (hc0:DeedCells w a xs) (hn:xs.length≤1099511627776) (hcap:xs.length≤cap) (ht0:jtext (fun d:DeedV=>N3 d.1 d.2.1 d.2.2.1) xs ByteArray.empty=some t):
  Calls Tryz.prog 13 #[.slice a xs.length cap] w fun e w'=>e= .returned (.string t)∧Go.RowKit.Below w.heap.size w w':=by
 generalize (fun d:DeedV=>N3 d.1 d.2.1 d.2.2.1)=g at hD0 ht0
 have HC:Go.RowKit.Hid (DeedCells w a xs):=hc0
 have HD:Go.RowKit.Hid (∀(d:DeedV) (s:ByteArray) (w':World),g d=some s→Go.RowKit.Below w.heap.size w w'→Calls Tryz.prog 11 #[deedVal d] w' fun e w''=>e= .returned (.string s)∧Go.RowKit.Below w'.heap.size w' w''):=hD0
 have HT:Go.RowKit.Hid (jtext g xs ByteArray.empty=some t):=ht0
 clear hc0 hD0 ht0
 go_enter Tryz.func13,Tryz.ntmps13
 go_wp2_with fail
 go_loopw [9] (fun i wr=> ∃k:Nat,k≤xs.length∧i= .int .i64 k∧Go.RowKit.Hid (∃acc,jtext g (xs.drop k) acc=some t∧Lib.IsBuilderF 67 5 w.heap.size w.heap.size (Lib.byteCells acc.data.toList) wr)∧Go.RowKit.Hid (Go.RowKit.Below w.heap.size w wr)) (fun i _=>xs.length-(Go.RowKit.intOf i).toNat)
 case atStart=>exact⟨0,Nat.zero_le _,rfl,⟨ByteArray.empty,HT.out,bld_new w⟩,(Go.RowKit.Below.refl _ _).alloc (Nat.le_refl _) _⟩
 case round=>
  obtain⟨k,hk,rfl,HA,HW⟩:=hrel
  by_cases hkn:k<xs.length
  ·obtain⟨acc,hj,hB⟩:=HA.out
   have hd:xs[k]? =some xs[k]:=List.getElem?_eq_getElem hkn
   obtain⟨b,o,rfl,hb,c0,c1,c2⟩:=HC.out k _ hd
   rw[←HW.out.cell (p:=⟨b,_,none⟩) hb] at c0 c1 c2
   rw[List.drop_eq_getElem_cons hkn,jtext] at hj
   generalize xs[k]=d at hd c0 c1 c2 hj
   obtain⟨s,hs,hj⟩:=Option.bind_eq_some_iff.1 hj
   have Hj:=(show Go.RowKit.Hid _ from hj)
   clear hj
   go_wp2_with fail
   refine Calls.mono (HD.out d s _ hs (HW.out.alloc HW.out.size _)) ?_
   rintro e w1 ⟨rfl,hb1⟩
   have HB1:Go.RowKit.Hid (Lib.IsBuilderF 67 5 w.heap.size w.heap.size (Lib.byteCells acc.data.toList) w1):=bld_keep hB (fun q hq=>(hb1.block q (by simp;omega)).trans (Go.RowKit.Below.heap_alloc _ _ _ hq))
   have HW1:Go.RowKit.Hid (Go.RowKit.Below w.heap.size w w1):=(HW.out.alloc HW.out.size _).trans (hb1.mono (by have:=HW.out.size;simp;omega))
   clear hb1
   by_cases hse:s=ByteArray.empty
   ·subst hse
    have ht:t=ByteArray.empty:=by
     have:=Hj.out
     rw[if_pos rfl] at this
     exact(Option.some.inj this).symm
    subst ht
    go_wp2_with fail
    go_ret
    exact⟨rfl,HW1.out⟩
   ·have hj:=Hj.out
    rw[if_neg hse] at hj
    split at hj
    ·rename_i hsz
     have hemp:s.toList.isEmpty=false:=by
      rw[Bool.eq_false_iff]
      intro h
      rw[List.isEmpty_iff,Lib.toList_data] at h
      exact hse (ByteArray.ext (Array.toList_inj.mp h))
     have hle: ¬9223372036854775807<s.size+1:=by omega
     have hal:(Lib.byteCells acc.data.toList).length=acc.size:=by rw[Lib.byteCells_length,Lib.size_eq]
     have cW:=Any.Builder_WriteString_k lay_impl_JournalText_w lay_impl_JournalText_x w.heap.size w.heap.size (Lib.byteCells acc.data.toList) (s++ByteArray.mk #[10]) w1 HB1.out (by rw[hal,ByteArray.size_append];exact hsz.2) HW1.out.size
     have hnext:Lib.byteCells acc.data.toList++Lib.strCells (s++ByteArray.mk #[10])=Lib.byteCells (acc++(s++ByteArray.mk #[10])).data.toList:=by
      rw[Lib.strCells_eq,←Lib.byteCells_append,show(acc++(s++ByteArray.mk #[10])).data=acc.data++(s++ByteArray.mk #[10]).data from ByteArray.data_append,Array.toList_append]
     rw[hnext] at cW
     have Hj2:=(show Go.RowKit.Hid _ from hj)
     have HCW:=(show Go.RowKit.Hid _ from cW)
     clear hj cW hnext hal
     go_wp2_with fail
     refine Calls.mono HCW.out ?_
     rintro e w2 ⟨rfl,h2,hb2,_⟩
     have HB2:=(show Go.RowKit.Hid _ from h2)
     have HW2:=(show Go.RowKit.Hid _ from HW1.out.trans hb2)
     clear h2 hb2
     go_wp2
     go_roundw
     case rel=>exact⟨k+1,by omega,by go_num,⟨⟨_,Hj2.out,.inr HB2.out⟩,HW2⟩⟩
     case measure=>simp[Go.RowKit.intOf];omega
    ·cases hj
  ·have hke:k=xs.length:=by omega
   subst hke
   obtain⟨acc,hj,hB⟩:=HA.out
   rw[List.drop_eq_nil_of_le (Nat.le_refl _),jtext] at hj
   obtain rfl:=Option.some.inj hj
   have HCS:=(show Go.RowKit.Hid _ from Any.Builder_String_any_k lay_impl_JournalText_s lay_impl_JournalText_x w.heap.size w.heap.size acc.data.toList wr hB HW.out.size)
   clear hj
   go_wp2_with fail
   refine Calls.mono HCS.out ?_
   rintro e w2 ⟨rfl,_,hb2,_⟩
   have HW2:=(show Go.RowKit.Hid _ from HW.out.trans hb2)
   go_wp2
   go_ret
   exact⟨rfl,HW2.out⟩
def Nm9:Fun:=F_jtext (fun d:DeedV=>N3 d.1 d.2.1 d.2.2.1)
theorem N15o:Sound Tryz.prog 13 Nm9:=jtext_sound (g:=(fun d:DeedV=>N3 d.1 d.2.1 d.2.2.1)) (fun _=>rfl) Ndk Nuo
def Ngs:Ann:=(.seq (.leaf []) (.seq (.leaf [0]) (.leaf [0])))
noncomputable def Ni9:Ctx:=⟨tlook tys,olook [(39,N18)],ioF,0,false,[]⟩
theorem N184:Link Ni9 LL (bodyOf Tryz.f15) Ngs ⟨mkE 8 0 [],[]⟩ (N83) (fun(t:Bool)=>(Exit.ret,⟨mkE 8 0 [(0,dB t)],[]⟩)):= .of fun K h=>by
 simp only[N83,wpW] at h
 exact .of (by kernel_rfl) h
theorem N172 {r:AV} {H':Heap} (h:(Ans.mk _ (N2g) (fun(t:Bool)=>(dB t,[])) [] none).run=some (r,H')):Awp Ni9 LL (bodyOf Tryz.f15) Ngs ⟨mkE 8 0 [],[]⟩ (Ret (tlook tys) Tryz.f15.results.toList r H'):=
 ret_of' (N184) (by unfold N2g;kernel_rfl) (by
 intro t
 exact ret_mk [dB t] (by kernel_rfl) (by kernel_rfl) (by kernel_rfl) (by kernel_rfl)) h
def Net:Fun:=fun avs H=>
 match avs,H with
 |[],[]=>⟨_,N2g,fun(t:Bool)=>(dB t,[]),[],none⟩
 |_,_=>Ans.no
theorem N12t:Sound Tryz.prog 15 Net:=by
 refine fn_sound' (C:=Ni9) (c:=bodyOf Tryz.f15) (cok_of tys_ok (allc N2e alln) (allc Tryz.call39 alln) (by kernel_rfl)) Tryz.func15 (by kernel_rfl) LL Ngs ?_
 intro avs H r H' h
 unfold Net at h
 split at h
 ·refine Awp.cast ?_ ?_ ?_ (N172 h)<;>kernel_rfl
 ·simp[Ans.no,Ans.run] at h
def N1g:Ann:=(.seq (.leaf [0,1]) (.seq (.seq (.leaf [0,1,10]) (.cond (.seq (.leaf [4]) (.leaf [4])) (.leaf [0,1]))) (.seq (.seq (.leaf [0,1,5]) (.block (.loop (.seq (.seq (.leaf [0,1,5,14]) (.cond (.leaf [0,1,5]) (.leaf []))) (.seq (.block (.seq (.draw [] [0,1,2,3,4,5,6,7,8] [] [0,1,5,25]) (.cond (.seq (.leaf [4]) (.leaf [4])) (.leaf [0,1,5])))) (.leaf [0,1,5])))))) (.seq (.leaf [4]) (.leaf [4])))))
noncomputable def N64:Ctx:=⟨tlook tys,olook [],ioF,0,false,[]⟩
theorem Ny9 (a b:List Int):Link N64 LL (Code.seq (cq [0] (bodyOf Tryz.f37)) (cq [0,1] (bodyOf Tryz.f37))) (Ann.seq (aq [0] N1g) (aq [0,1] N1g)) ⟨mkE 26 0 [(0,dL a),(1,dL b)],[]⟩ (Nbq a b) (Sum.elim (fun(t:Unit)=>(Exit.normal,⟨mkE 26 0 [(0,dL a),(1,dL b)],[]⟩)) (fun(t:Bool)=>(Exit.ret,⟨mkE 26 0 [(4,dB t)],[]⟩))):= .of fun K h=>by
 simp only[Nbq,wpW] at h
 exact .of (by kernel_rfl) h
theorem Nww (a b:List Int):Link N64 LL (cq [0,0,1,1] (bodyOf Tryz.f37)) (aq [0,0,1,1] N1g) ⟨mkE 26 0 [(0,dL a),(1,dL b)],[]⟩ (Nbm) (fun(t:Unit)=>(Exit.normal,⟨mkE 26 0 [(0,dL a),(1,dL b),(5,dI 0)],[]⟩)):= .of fun K h=>by
 simp only[Nbm,wpW] at h
 exact .of (by kernel_rfl) h
theorem N132 (a b:List Int) (c:Int):Link N64 LL (cq [0,0,1,0,1,1] (bodyOf Tryz.f37)) (aq [0,0,1,0,1,1] N1g) ⟨mkE 26 0 [(0,dL a),(1,dL b),(5,dI c)],[]⟩ (N57 a b c) (Sum.elim (fun(t:Int)=>(Exit.normal,⟨mkE 26 0 [(0,dL a),(1,dL b),(5,dI t)],[]⟩)) (Sum.elim (fun(t:Bool)=>(Exit.ret,⟨mkE 26 0 [(4,dB t)],[]⟩)) (fun(t:Unit)=>((Exit.exit 0),⟨mkE 26 0 [],[]⟩)))):= .of fun K h=>by
 simp only[N57,wpW] at h
 exact .of (by kernel_rfl) h
theorem Nzr:Link N64 LL (cq [1,1,1] (bodyOf Tryz.f37)) (aq [1,1,1] N1g) ⟨mkE 26 0 [],[]⟩ (Nc2) (fun(t:Bool)=>(Exit.ret,⟨mkE 26 0 [(4,dB t)],[]⟩)):= .of fun K h=>by
 simp only[Nc2,wpW] at h
 exact .of (by kernel_rfl) h
theorem Ntt (b d:List Int) {r:AV} {H':Heap} (h:(Ans.mk _ (N2m b d) (fun(t:Bool)=>(dB t,[])) [] none).run=some (r,H')):Awp N64 LL (bodyOf Tryz.f37) N1g ⟨mkE 26 0 [(0,dL b),(1,dL d)],[]⟩ (Ret (tlook tys) Tryz.f37.results.toList r H'):=
 ret_of' (Link.cast (by kernel_rfl) (by kernel_rfl) (link_group (c:=(cq [0,1] (bodyOf Tryz.f37))) (a:=(aq [0,1] N1g)) [(cq [0] (bodyOf Tryz.f37))] [(aq [0] N1g)] rfl (link_seq2 (Ny9 b d) (fun(t:Unit)=>(link_seq2 (link_seq (Nww b d) (fun(t:Unit)=>(link_block (fin2:=(Sum.elim (fun(t:Unit)=>(Exit.normal,⟨mkE 26 0 [],[]⟩)) (fun(t:Bool)=>(Exit.ret,⟨mkE 26 0 [(4,dB t)],[]⟩)))) (id:=0) (link_loop (mk:=fun(s:Int)=>⟨mkE 26 0 [(0,dL b),(1,dL d),(5,dI s)],[]⟩) (fin:=(Sum.elim (fun(t:Bool)=>(Exit.ret,⟨mkE 26 0 [(4,dB t)],[]⟩)) (fun(t:Unit)=>((Exit.exit 0),⟨mkE 26 0 [],[]⟩)))) (by
 rintro(t|t) f K h
 ·exact h
 ·exact h) (fun s=>link_map (N132 b d s) (Sum.elim (fun(t:Int)=>Sum.inl t) (Sum.elim (fun(t:Bool)=>Sum.inr (Sum.inl t)) (fun(t:Unit)=>Sum.inr (Sum.inr t)))) (by
 rintro(t|t|t)
 ·kernel_rfl
 ·kernel_rfl
 ·kernel_rfl)) 0) (Sum.elim (fun(t:Bool)=>(Sum.inr t)) (fun(t:Unit)=>(Sum.inl ()))) (by
 rintro(t|t) K h
 ·exact Eq.mp (by kernel_rfl) h
 ·exact Eq.mp (by kernel_rfl) h)))) (fun(t:Unit)=>(Nzr)) (fun(t:Bool)=>t) (by
 rintro t
 ·kernel_rfl) (by
 rintro t f K h
 ·exact h))) (fun(t:Bool)=>t) (by
 rintro t
 ·kernel_rfl) (by
 rintro t f K h
 ·exact h)))) (by unfold N2m;kernel_rfl) (by
 intro t
 exact ret_mk [dB t] (by kernel_rfl) (by kernel_rfl) (by kernel_rfl) (by kernel_rfl)) h
def N8m:Fun:=fun avs H=>
 match avs,H with
 |[.dat (.list (.int .i64)) a,.dat (.list (.int .i64)) b],[]=>⟨_,N2m a b,fun(t:Bool)=>(dB t,[]),[],none⟩
 |_,_=>Ans.no
theorem Nmr:Sound Tryz.prog 37 N8m:=by
 refine fn_sound' (C:=N64) (c:=bodyOf Tryz.f37) (cok_of tys_ok (alln) (alln) (by kernel_rfl)) Tryz.func37 (by kernel_rfl) LL N1g ?_
 intro avs H r H' h
 unfold N8m at h
 split at h
 ·refine Awp.cast ?_ ?_ ?_ (Ntt _ _ h)<;>kernel_rfl
 ·simp[Ans.no,Ans.run] at h
def N24:Ann:=(.seq (.leaf [0,1]) (.seq (.seq (.leaf [0,1,10]) (.cond (.seq (.leaf [4]) (.leaf [4])) (.leaf [0,1]))) (.seq (.seq (.leaf [0,1,5]) (.block (.loop (.seq (.seq (.leaf [0,1,5,14]) (.cond (.leaf [0,1,5]) (.leaf []))) (.seq (.block (.seq (.draw [8] [0,1,2,3,4,5,6,7,8,9] [] [0,1,5,26]) (.cond (.seq (.leaf [4]) (.leaf [4])) (.leaf [0,1,5])))) (.leaf [0,1,5])))))) (.seq (.leaf [4]) (.leaf [4])))))
noncomputable def N5z:Ctx:=⟨tlook tys,olook [(37,N8m)],ioF,0,false,[]⟩
theorem Nrw (a b:List (List Int)):Link N5z LL (Code.seq (cq [0] (bodyOf Tryz.f38)) (cq [0,1] (bodyOf Tryz.f38))) (Ann.seq (aq [0] N24) (aq [0,1] N24)) ⟨mkE 27 0 [(0,.dat (.list (.list (.int .i64))) a),(1,.dat (.list (.list (.int .i64))) b)],[]⟩ (N8b a b) (Sum.elim (fun(t:Unit)=>(Exit.normal,⟨mkE 27 0 [(0,.dat (.list (.list (.int .i64))) a),(1,.dat (.list (.list (.int .i64))) b)],[]⟩)) (fun(t:Bool)=>(Exit.ret,⟨mkE 27 0 [(4,dB t)],[]⟩))):= .of fun K h=>by
 simp only[N8b,wpW] at h
 exact .of (by kernel_rfl) h
theorem Nxg (a b:List (List Int)):Link N5z LL (cq [0,0,1,1] (bodyOf Tryz.f38)) (aq [0,0,1,1] N24) ⟨mkE 27 0 [(0,.dat (.list (.list (.int .i64))) a),(1,.dat (.list (.list (.int .i64))) b)],[]⟩ (N92) (fun(t:Unit)=>(Exit.normal,⟨mkE 27 0 [(0,.dat (.list (.list (.int .i64))) a),(1,.dat (.list (.list (.int .i64))) b),(5,dI 0)],[]⟩)):= .of fun K h=>by
 simp only[N92,wpW] at h
 exact .of (by kernel_rfl) h
theorem Ns4 (a b:List (List Int)) (c:Int):Link N5z LL (cq [0,0,1,0,1,1] (bodyOf Tryz.f38)) (aq [0,0,1,0,1,1] N24) ⟨mkE 27 0 [(0,.dat (.list (.list (.int .i64))) a),(1,.dat (.list (.list (.int .i64))) b),(5,dI c)],[]⟩ (N5e a b c) (Sum.elim (fun(t:Int)=>(Exit.normal,⟨mkE 27 0 [(0,.dat (.list (.list (.int .i64))) a),(1,.dat (.list (.list (.int .i64))) b),(5,dI t)],[]⟩)) (Sum.elim (fun(t:Bool)=>(Exit.ret,⟨mkE 27 0 [(4,dB t)],[]⟩)) (fun(t:Unit)=>((Exit.exit 0),⟨mkE 27 0 [],[]⟩)))):= .of fun K h=>by
 simp only[N5e,wpW] at h
 exact .of (by kernel_rfl) h
theorem Nyt:Link N5z LL (cq [1,1,1] (bodyOf Tryz.f38)) (aq [1,1,1] N24) ⟨mkE 27 0 [],[]⟩ (Nb4) (fun(t:Bool)=>(Exit.ret,⟨mkE 27 0 [(4,dB t)],[]⟩)):= .of fun K h=>by
 simp only[Nb4,wpW] at h
 exact .of (by kernel_rfl) h
theorem Nqb (b d:List (List Int)) {r:AV} {H':Heap} (h:(Ans.mk _ (N3w b d) (fun(t:Bool)=>(dB t,[])) [] none).run=some (r,H')):Awp N5z LL (bodyOf Tryz.f38) N24 ⟨mkE 27 0 [(0,.dat (.list (.list (.int .i64))) b),(1,.dat (.list (.list (.int .i64))) d)],[]⟩ (Ret (tlook tys) Tryz.f38.results.toList r H'):=
 ret_of' (Link.cast (by kernel_rfl) (by kernel_rfl) (link_group (c:=(cq [0,1] (bodyOf Tryz.f38))) (a:=(aq [0,1] N24)) [(cq [0] (bodyOf Tryz.f38))] [(aq [0] N24)] rfl (link_seq2 (Nrw b d) (fun(t:Unit)=>(link_seq2 (link_seq (Nxg b d) (fun(t:Unit)=>(link_block (fin2:=(Sum.elim (fun(t:Unit)=>(Exit.normal,⟨mkE 27 0 [],[]⟩)) (fun(t:Bool)=>(Exit.ret,⟨mkE 27 0 [(4,dB t)],[]⟩)))) (id:=0) (link_loop (mk:=fun(s:Int)=>⟨mkE 27 0 [(0,.dat (.list (.list (.int .i64))) b),(1,.dat (.list (.list (.int .i64))) d),(5,dI s)],[]⟩) (fin:=(Sum.elim (fun(t:Bool)=>(Exit.ret,⟨mkE 27 0 [(4,dB t)],[]⟩)) (fun(t:Unit)=>((Exit.exit 0),⟨mkE 27 0 [],[]⟩)))) (by
 rintro(t|t) f K h
 ·exact h
 ·exact h) (fun s=>link_map (Ns4 b d s) (Sum.elim (fun(t:Int)=>Sum.inl t) (Sum.elim (fun(t:Bool)=>Sum.inr (Sum.inl t)) (fun(t:Unit)=>Sum.inr (Sum.inr t)))) (by
 rintro(t|t|t)
 ·kernel_rfl
 ·kernel_rfl
 ·kernel_rfl)) 0) (Sum.elim (fun(t:Bool)=>(Sum.inr t)) (fun(t:Unit)=>(Sum.inl ()))) (by
 rintro(t|t) K h
 ·exact Eq.mp (by kernel_rfl) h
 ·exact Eq.mp (by kernel_rfl) h)))) (fun(t:Unit)=>(Nyt)) (fun(t:Bool)=>t) (by
 rintro t
 ·kernel_rfl) (by
 rintro t f K h
 ·exact h))) (fun(t:Bool)=>t) (by
 rintro t
 ·kernel_rfl) (by
 rintro t f K h
 ·exact h)))) (by unfold N3w;kernel_rfl) (by
 intro t
 exact ret_mk [dB t] (by kernel_rfl) (by kernel_rfl) (by kernel_rfl) (by kernel_rfl)) h
def Nfp:Fun:=fun avs H=>
 match avs,H with
 |[.dat (.list (.list (.int .i64))) a,.dat (.list (.list (.int .i64))) b],[]=>⟨_,N3w a b,fun(t:Bool)=>(dB t,[]),[],none⟩
 |_,_=>Ans.no
theorem Npq:Sound Tryz.prog 38 Nfp:=by
 refine fn_sound' (C:=N5z) (c:=bodyOf Tryz.f38) (cok_of tys_ok (allc Nmr alln) (allc Tryz.call37 alln) (by kernel_rfl)) Tryz.func38 (by kernel_rfl) LL N24 ?_
 intro avs H r H' h
 unfold Nfp at h
 split at h
 ·refine Awp.cast ?_ ?_ ?_ (Nqb _ _ h)<;>kernel_rfl
 ·simp[Ans.no,Ans.run] at h
def Ne5:Ann:=(.seq (.leaf [2,3]) (.seq (.leaf [4]) (.leaf [4])))
noncomputable def Nd1:Ctx:=⟨tlook tys,olook [(37,N8m),(38,Nfp)],ioF,0,false,[]⟩
theorem Nps (a:List Int) (b:List (List Int)) (c:List Int) (d:List (List Int)):Link Nd1 LL (bodyOf Tryz.f14) Ne5 ⟨mkE 17 0 [(0,.agg [dL a,.dat (.list (.list (.int .i64))) b]),(1,.agg [dL c,.dat (.list (.list (.int .i64))) d])],[]⟩ (N8c a b c d) (fun(t:Bool)=>(Exit.ret,⟨mkE 17 0 [(4,dB t)],[]⟩)):= .of fun K h=>by
 simp only[N8c,wpW] at h
 exact .of (by kernel_rfl) h
theorem N13z (a:List Int) (b:List (List Int)) (c:List Int) (d:List (List Int)) {r:AV} {H':Heap} (h:(Ans.mk _ (N4n a b c d) (fun(t:Bool)=>(dB t,[])) [] none).run=some (r,H')):Awp Nd1 LL (bodyOf Tryz.f14) Ne5 ⟨mkE 17 0 [(0,.agg [dL a,.dat (.list (.list (.int .i64))) b]),(1,.agg [dL c,.dat (.list (.list (.int .i64))) d])],[]⟩ (Ret (tlook tys) Tryz.f14.results.toList r H'):=
 ret_of' (Nps a b c d) (by unfold N4n;kernel_rfl) (by
 intro t
 exact ret_mk [dB t] (by kernel_rfl) (by kernel_rfl) (by kernel_rfl) (by kernel_rfl)) h
def Nfm:Fun:=fun avs H=>
 match avs,H with
 |[.agg [.dat (.list (.int .i64)) a,.dat (.list (.list (.int .i64))) b],.agg [.dat (.list (.int .i64)) c,.dat (.list (.list (.int .i64))) d]],[]=>⟨_,N4n a b c d,fun(t:Bool)=>(dB t,[]),[],none⟩
 |_,_=>Ans.no
theorem N10y:Sound Tryz.prog 14 Nfm:=by
 refine fn_sound' (C:=Nd1) (c:=bodyOf Tryz.f14) (cok_of tys_ok (allc Nmr (allc Npq alln)) (allc Tryz.call37 (allc Tryz.call38 alln)) (by kernel_rfl)) Tryz.func14 (by kernel_rfl) LL Ne5 ?_
 intro avs H r H' h
 unfold Nfm at h
 split at h
 ·refine Awp.cast ?_ ?_ ?_ (N13z _ _ _ _ h)<;>kernel_rfl
 ·simp[Ans.no,Ans.run] at h
def N2:Ann:=(.seq (.leaf [0,1]) (.seq (.seq (.leaf [0,1,28]) (.cond (.seq (.leaf [4]) (.leaf [4])) (.leaf [0,1]))) (.seq (.leaf [1,5]) (.seq (.leaf [1,5,6,7]) (.seq (.leaf [1,5,6,7,8,9]) (.seq (.seq (.leaf [1,5,6,7,49]) (.cond (.seq (.leaf [4]) (.leaf [4])) (.leaf [1,5,6,7]))) (.seq (.seq (.leaf [1,5,6,7,10]) (.block (.loop (.seq (.seq (.leaf [1,5,6,7,10,53]) (.cond (.leaf [1,5,6,7,10]) (.leaf [1,5,6,7]))) (.seq (.block (.seq (.leaf [1,5,6,7,10,11,12]) (.seq (.leaf [1,5,6,7,10,84]) (.cond (.seq (.leaf [4]) (.leaf [4])) (.leaf [1,5,6,7,10]))))) (.leaf [1,5,6,7,10])))))) (.seq (.leaf [5,6,7,13]) (.seq (.leaf [5,6,7,13,15]) (.seq (.seq (.leafF [⟨1,15,false,some 1,none⟩] [5,6,7,13,15,16]) (.block (.loop (.seq (.seq (.leaf [5,6,7,13,15,16,98]) (.cond (.leaf [5,6,7,13,15,16]) (.leaf [5,6,7,13,15]))) (.seq (.block (.seq (.draw [5,6] [0,1,2,3,4,5,6,7,8,9,10,11,12] [] [5,6,7,13,15,16,17,18]) (.seq (.seq (.leaf [5,6,7,13,15,16,17,116]) (.cond (.seq (.leaf [4]) (.leaf [4])) (.leaf [5,6,7,13,15,16,17]))) (.leaf [5,6,7,13,15,16])))) (.leafF [⟨3,15,false,some 0,none⟩,⟨3,15,false,some 1,none⟩] [5,6,7,13,15,16])))))) (.seq (.leaf [5,6,7,13,15,19]) (.seq (.draw [6,14,24,28] [0,1,2,3,4,5,7,8,9,6,10,11,12,13,14,15,16,17,18,19,20,21,22,23,24,25,26,27,28,29,30] [] [4]) (.leaf [4])))))))))))))
noncomputable def N1r:Ctx:=⟨tlook tys,olook [(4,Nh6),(5,Ni8),(6,Ng2),(7,Ndg),(8,Ndt),(9,N9w),(11,Nb3),(10,Ni6),(12,Nf4),(13,Nm9),(15,Net),(14,Nfm)],ioF,0,true,[]⟩
theorem Nvb (a b:List Int):Link N1r LL (Code.seq (cq [0] (bodyOf Tryz.f3)) (Code.seq (cq [0,1] (bodyOf Tryz.f3)) (Code.seq (cq [0,1,1] (bodyOf Tryz.f3)) (Code.seq (cq [0,1,1,1] (bodyOf Tryz.f3)) (Code.seq (cq [0,1,1,1,1] (bodyOf Tryz.f3)) (cq [0,1,1,1,1,1] (bodyOf Tryz.f3))))))) (Ann.seq (aq [0] N2) (Ann.seq (aq [0,1] N2) (Ann.seq (aq [0,1,1] N2) (Ann.seq (aq [0,1,1,1] N2) (Ann.seq (aq [0,1,1,1,1] N2) (aq [0,1,1,1,1,1] N2)))))) ⟨mkE 154 0 [(0,dV a),(1,dV b)],[]⟩ (N8v a b) (Sum.elim (fun(t:ByteArray×Int×(List (Int×Int×Int×Unit)))=>(Exit.normal,⟨mkE 154 0 [(1,dV b),(5,dS t.1),(6,.slc 0),(7,dI t.2.1)],[some (.seq (.pair (.int .i64) (.pair (.int .i64) (.pair (.int .i64) .unit))) t.2.2)]⟩)) (fun(t:Bool)=>(Exit.ret,⟨mkE 154 0 [(4,dB t)],[]⟩))):= .of fun K h=>by
 simp only[N8v,wpW] at h
 exact .of (by kernel_rfl) h
theorem Nt6 (a:List Int) (b:ByteArray) (c:Int) (d:List (Int×Int×Int×Unit)):Link N1r LL (cq [0,0,1,1,1,1,1,1] (bodyOf Tryz.f3)) (aq [0,0,1,1,1,1,1,1] N2) ⟨mkE 154 0 [(1,dV a),(5,dS b),(6,.slc 0),(7,dI c)],[some (.seq (.pair (.int .i64) (.pair (.int .i64) (.pair (.int .i64) .unit))) d)]⟩ (Nc9) (fun(t:Unit)=>(Exit.normal,⟨mkE 154 0 [(1,dV a),(5,dS b),(6,.slc 0),(7,dI c),(10,dI 0)],[some (.seq (.pair (.int .i64) (.pair (.int .i64) (.pair (.int .i64) .unit))) d)]⟩)):= .of fun K h=>by
 simp only[Nc9,wpW] at h
 exact .of (by kernel_rfl) h
theorem N10v (a:List Int) (b:ByteArray) (c d:Int) (g:List (Int×Int×Int×Unit)):Link N1r LL (cq [0,0,1,0,1,1,1,1,1,1] (bodyOf Tryz.f3)) (aq [0,0,1,0,1,1,1,1,1,1] N2) ⟨mkE 154 0 [(1,dV a),(5,dS b),(6,.slc 0),(7,dI c),(10,dI d)],[some (.seq (.pair (.int .i64) (.pair (.int .i64) (.pair (.int .i64) .unit))) g)]⟩ (N49 b d g) (Sum.elim (fun(t:Int)=>(Exit.normal,⟨mkE 154 0 [(1,dV a),(5,dS b),(6,.slc 0),(7,dI c),(10,dI t)],[some (.seq (.pair (.int .i64) (.pair (.int .i64) (.pair (.int .i64) .unit))) g)]⟩)) (Sum.elim (fun(t:Bool)=>(Exit.ret,⟨mkE 154 0 [(4,dB t)],[]⟩)) (fun(t:Unit)=>((Exit.exit 0),⟨mkE 154 0 [(1,dV a),(5,dS b),(6,.slc 0),(7,dI c)],[some (.seq (.pair (.int .i64) (.pair (.int .i64) (.pair (.int .i64) .unit))) g)]⟩)))):= .of fun K h=>by
 simp only[N49,wpW] at h
 exact .of (by kernel_rfl) h
theorem N143 (a:List Int) (b:ByteArray) (c:Int) (d:List (Int×Int×Int×Unit)):Link N1r LL (Code.seq (cq [0,1,1,1,1,1,1,1] (bodyOf Tryz.f3)) (cq [0,1,1,1,1,1,1,1,1] (bodyOf Tryz.f3))) (Ann.seq (aq [0,1,1,1,1,1,1,1] N2) (aq [0,1,1,1,1,1,1,1,1] N2)) ⟨mkE 154 0 [(1,dV a),(5,dS b),(6,.slc 0),(7,dI c)],[some (.seq (.pair (.int .i64) (.pair (.int .i64) (.pair (.int .i64) .unit))) d)]⟩ (Nba a) (fun(t:(List Int)×(List (List Int)))=>(Exit.normal,⟨mkE 154 0 [(5,dS b),(6,.slc 0),(7,dI c),(13,.ptr 1 0),(15,.ptr 2 0)],[some (.seq (.pair (.int .i64) (.pair (.int .i64) (.pair (.int .i64) .unit))) d),some (.box [dL t.1,.slc 3]),some (.box [dL t.1,.slc 3]),some (.nest (.int .i64) t.2 0 [])]⟩)):= .of fun K h=>by
 simp only[Nba,wpW] at h
 exact .of (by kernel_rfl) h
theorem Nqq (a:ByteArray) (b:Int) (c:List (Int×Int×Int×Unit)) (d:List Int) (g:List (List Int)):Link N1r LL (cq [0,0,1,1,1,1,1,1,1,1,1] (bodyOf Tryz.f3)) (aq [0,0,1,1,1,1,1,1,1,1,1] N2) ⟨mkE 154 0 [(5,dS a),(6,.slc 0),(7,dI b),(13,.ptr 1 0),(15,.ptr 2 0)],[some (.seq (.pair (.int .i64) (.pair (.int .i64) (.pair (.int .i64) .unit))) c),some (.box [dL d,.slc 3]),some (.box [dL d,.slc 3]),some (.nest (.int .i64) g 0 [])]⟩ (Naq) (fun(t:Unit)=>(Exit.normal,⟨mkE 154 0 [(5,dS a),(6,.slc 0),(7,dI b),(13,.ptr 1 0),(15,.ptr 2 0),(16,dI 0)],[some (.seq (.pair (.int .i64) (.pair (.int .i64) (.pair (.int .i64) .unit))) c),some (.box [dL d,.dat (.list (.list (.int .i64))) g]),some (.box [dL d,.dat (.list (.list (.int .i64))) g])]⟩)):= .of fun K h=>by
 simp only[Naq,wpW] at h
 exact .of (by kernel_rfl) h
theorem N12j (a:ByteArray) (b c:Int) (d:List (Int×Int×Int×Unit)) (g:List Int) (i:List (List Int)) (j:List Int) (k:List (List Int)):Link N1r LL (cq [0,0,1,0,1,1,1,1,1,1,1,1,1] (bodyOf Tryz.f3)) (aq [0,0,1,0,1,1,1,1,1,1,1,1,1] N2) ⟨mkE 154 0 [(5,dS a),(6,.slc 0),(7,dI b),(13,.ptr 1 0),(15,.ptr 2 0),(16,dI c)],[some (.seq (.pair (.int .i64) (.pair (.int .i64) (.pair (.int .i64) .unit))) d),some (.box [dL g,.dat (.list (.list (.int .i64))) i]),some (.box [dL j,.dat (.list (.list (.int .i64))) k])]⟩ (N2t c d g i j k) (Sum.elim (fun(t:Int×(List Int)×(List (List Int)))=>(Exit.normal,⟨mkE 154 0 [(5,dS a),(6,.slc 0),(7,dI b),(13,.ptr 1 0),(15,.ptr 2 0),(16,dI t.1)],[some (.seq (.pair (.int .i64) (.pair (.int .i64) (.pair (.int .i64) .unit))) d),some (.box [dL g,.dat (.list (.list (.int .i64))) i]),some (.box [dL t.2.1,.dat (.list (.list (.int .i64))) t.2.2])]⟩)) (Sum.elim (fun(t:Bool)=>(Exit.ret,⟨mkE 154 0 [(4,dB t)],[]⟩)) (fun(t:(List Int)×(List (List Int)))=>((Exit.exit 2),⟨mkE 154 0 [(5,dS a),(6,.slc 0),(7,dI b),(13,.ptr 1 0),(15,.ptr 2 0)],[some (.seq (.pair (.int .i64) (.pair (.int .i64) (.pair (.int .i64) .unit))) d),some (.box [dL g,.dat (.list (.list (.int .i64))) i]),some (.box [dL t.1,.dat (.list (.list (.int .i64))) t.2])]⟩)))):= .of fun K h=>by
 simp only[N2t,wpW] at h
 exact .of (by kernel_rfl) h
theorem Nv1 (a:ByteArray) (b:Int) (c:List (Int×Int×Int×Unit)) (d:List Int) (g:List (List Int)) (i:List Int) (j:List (List Int)):Link N1r LL (cq [1,1,1,1,1,1,1,1,1,1] (bodyOf Tryz.f3)) (aq [1,1,1,1,1,1,1,1,1,1] N2) ⟨mkE 154 0 [(5,dS a),(6,.slc 0),(7,dI b),(13,.ptr 1 0),(15,.ptr 2 0)],[some (.seq (.pair (.int .i64) (.pair (.int .i64) (.pair (.int .i64) .unit))) c),some (.box [dL d,.dat (.list (.list (.int .i64))) g]),some (.box [dL i,.dat (.list (.list (.int .i64))) j])]⟩ (N8y a b c d g i j) (fun(t:Bool)=>(Exit.ret,⟨mkE 154 0 [(4,dB t)],[]⟩)):= .of fun K h=>by
 simp only[N8y,wpW] at h
 exact .of (by kernel_rfl) h
theorem N16d (b d:List Int) {r:AV} {H':Heap} (h:(Ans.mk _ (N2k b d) (fun(t:Bool)=>(dB t,[])) [] none).run=some (r,H')):Awp N1r LL (bodyOf Tryz.f3) N2 ⟨mkE 154 0 [(0,dV b),(1,dV d)],[]⟩ (Ret (tlook tys) Tryz.f3.results.toList r H'):=
 ret_of' (Link.cast (by kernel_rfl) (by kernel_rfl) (link_group (c:=(cq [0,1,1,1,1,1] (bodyOf Tryz.f3))) (a:=(aq [0,1,1,1,1,1] N2)) [(cq [0] (bodyOf Tryz.f3)),(cq [0,1] (bodyOf Tryz.f3)),(cq [0,1,1] (bodyOf Tryz.f3)),(cq [0,1,1,1] (bodyOf Tryz.f3)),(cq [0,1,1,1,1] (bodyOf Tryz.f3))] [(aq [0] N2),(aq [0,1] N2),(aq [0,1,1] N2),(aq [0,1,1,1] N2),(aq [0,1,1,1,1] N2)] rfl (link_seq2 (Nvb b d) (fun(t:ByteArray×Int×(List (Int×Int×Int×Unit)))=>(link_seq2 (link_seq (Nt6 d t.1 t.2.1 t.2.2) (fun(t39:Unit)=>(link_block (fin2:=(Sum.elim (fun(t39:Unit)=>(Exit.normal,⟨mkE 154 0 [(1,dV d),(5,dS t.1),(6,.slc 0),(7,dI t.2.1)],[some (.seq (.pair (.int .i64) (.pair (.int .i64) (.pair (.int .i64) .unit))) t.2.2)]⟩)) (fun(t39:Bool)=>(Exit.ret,⟨mkE 154 0 [(4,dB t39)],[]⟩)))) (id:=0) (link_loop (mk:=fun(s:Int)=>⟨mkE 154 0 [(1,dV d),(5,dS t.1),(6,.slc 0),(7,dI t.2.1),(10,dI s)],[some (.seq (.pair (.int .i64) (.pair (.int .i64) (.pair (.int .i64) .unit))) t.2.2)]⟩) (fin:=(Sum.elim (fun(t39:Bool)=>(Exit.ret,⟨mkE 154 0 [(4,dB t39)],[]⟩)) (fun(t39:Unit)=>((Exit.exit 0),⟨mkE 154 0 [(1,dV d),(5,dS t.1),(6,.slc 0),(7,dI t.2.1)],[some (.seq (.pair (.int .i64) (.pair (.int .i64) (.pair (.int .i64) .unit))) t.2.2)]⟩)))) (by
 rintro(t39|t39) f K h
 ·exact h
 ·exact h) (fun s=>link_map (N10v d t.1 t.2.1 s t.2.2) (Sum.elim (fun(t39:Int)=>Sum.inl t39) (Sum.elim (fun(t39:Bool)=>Sum.inr (Sum.inl t39)) (fun(t39:Unit)=>Sum.inr (Sum.inr t39)))) (by
 rintro(t39|t39|t39)
 ·kernel_rfl
 ·kernel_rfl
 ·kernel_rfl)) 0) (Sum.elim (fun(t39:Bool)=>(Sum.inr t39)) (fun(t39:Unit)=>(Sum.inl ()))) (by
 rintro(t39|t39) K h
 ·exact Eq.mp (by kernel_rfl) h
 ·exact Eq.mp (by kernel_rfl) h)))) (fun(t39:Unit)=>(link_group (c:=(cq [0,1,1,1,1,1,1,1,1] (bodyOf Tryz.f3))) (a:=(aq [0,1,1,1,1,1,1,1,1] N2)) [(cq [0,1,1,1,1,1,1,1] (bodyOf Tryz.f3))] [(aq [0,1,1,1,1,1,1,1] N2)] rfl (link_seq (N143 d t.1 t.2.1 t.2.2) (fun(t52:(List Int)×(List (List Int)))=>(link_seq2 (link_seq (Nqq t.1 t.2.1 t.2.2 t52.1 t52.2) (fun(t38:Unit)=>(link_block (fin2:=(Sum.elim (fun(t38:(List Int)×(List (List Int)))=>(Exit.normal,⟨mkE 154 0 [(5,dS t.1),(6,.slc 0),(7,dI t.2.1),(13,.ptr 1 0),(15,.ptr 2 0)],[some (.seq (.pair (.int .i64) (.pair (.int .i64) (.pair (.int .i64) .unit))) t.2.2),some (.box [dL t52.1,.dat (.list (.list (.int .i64))) t52.2]),some (.box [dL t38.1,.dat (.list (.list (.int .i64))) t38.2])]⟩)) (fun(t38:Bool)=>(Exit.ret,⟨mkE 154 0 [(4,dB t38)],[]⟩)))) (id:=2) (link_loop (mk:=fun(s:Int×(List Int)×(List (List Int)))=>⟨mkE 154 0 [(5,dS t.1),(6,.slc 0),(7,dI t.2.1),(13,.ptr 1 0),(15,.ptr 2 0),(16,dI s.1)],[some (.seq (.pair (.int .i64) (.pair (.int .i64) (.pair (.int .i64) .unit))) t.2.2),some (.box [dL t52.1,.dat (.list (.list (.int .i64))) t52.2]),some (.box [dL s.2.1,.dat (.list (.list (.int .i64))) s.2.2])]⟩) (fin:=(Sum.elim (fun(t38:Bool)=>(Exit.ret,⟨mkE 154 0 [(4,dB t38)],[]⟩)) (fun(t38:(List Int)×(List (List Int)))=>((Exit.exit 2),⟨mkE 154 0 [(5,dS t.1),(6,.slc 0),(7,dI t.2.1),(13,.ptr 1 0),(15,.ptr 2 0)],[some (.seq (.pair (.int .i64) (.pair (.int .i64) (.pair (.int .i64) .unit))) t.2.2),some (.box [dL t52.1,.dat (.list (.list (.int .i64))) t52.2]),some (.box [dL t38.1,.dat (.list (.list (.int .i64))) t38.2])]⟩)))) (by
 rintro(t38|t38) f K h
 ·exact h
 ·exact h) (fun s=>link_map (N12j t.1 t.2.1 s.1 t.2.2 t52.1 t52.2 s.2.1 s.2.2) (Sum.elim (fun(t38:Int×(List Int)×(List (List Int)))=>Sum.inl (t38.1,t38.2.1,t38.2.2)) (Sum.elim (fun(t38:Bool)=>Sum.inr (Sum.inl t38)) (fun(t38:(List Int)×(List (List Int)))=>Sum.inr (Sum.inr t38)))) (by
 rintro(t38|t38|t38)
 ·kernel_rfl
 ·kernel_rfl
 ·kernel_rfl)) (0,t52.1,t52.2)) (Sum.elim (fun(t38:Bool)=>(Sum.inr t38)) (fun(t38:(List Int)×(List (List Int)))=>(Sum.inl (t38.1,t38.2)))) (by
 rintro(t38|t38) K h
 ·exact Eq.mp (by kernel_rfl) h
 ·exact Eq.mp (by kernel_rfl) h)))) (fun(t38:(List Int)×(List (List Int)))=>(Nv1 t.1 t.2.1 t.2.2 t52.1 t52.2 t38.1 t38.2)) (fun(t38:Bool)=>t38) (by
 rintro t38
 ·kernel_rfl) (by
 rintro t38 f K h
 ·exact h)))))) (fun(t39:Bool)=>t39) (by
 rintro t39
 ·kernel_rfl) (by
 rintro t39 f K h
 ·exact h))) (fun(t:Bool)=>t) (by
 rintro t
 ·kernel_rfl) (by
 rintro t f K h
 ·exact h)))) (by unfold N2k;kernel_rfl) (by
 intro t
 exact ret_mk [dB t] (by kernel_rfl) (by kernel_rfl) (by kernel_rfl) (by kernel_rfl)) h
def Nnx:Fun:=fun avs H=>
 match avs,H with
 |[.dat (.list (.int .u8)) a,.dat (.list (.int .u8)) b],[]=>⟨_,N2k a b,fun(t:Bool)=>(dB t,[]),[],none⟩
 |_,_=>Ans.no
theorem Nzt:Sound Tryz.prog 3 Nnx:=by
 refine fn_sound' (C:=N1r) (c:=bodyOf Tryz.f3) (cok_of tys_ok (allc Nvy (allc N17u (allc N14w (allc N101 (allc N18c (allc Nlj (allc Ndk (allc Nvw (allc N16n (allc N15o (allc N12t (allc N10y alln)))))))))))) (allc Tryz.call4 (allc Tryz.call5 (allc Tryz.call6 (allc Tryz.call7 (allc Tryz.call8 (allc Tryz.call9 (allc Tryz.call11 (allc Tryz.call10 (allc Tryz.call12 (allc Tryz.call13 (allc Tryz.call15 (allc Tryz.call14 alln)))))))))))) (by kernel_rfl)) Tryz.func3 (by kernel_rfl) LL N2 ?_
 intro avs H r H' h
 unfold Nnx at h
 split at h
 ·refine Awp.cast ?_ ?_ ?_ (N16d _ _ h)<;>kernel_rfl
 ·simp[Ans.no,Ans.run] at h
end Go.Rv
